import Derived.Orders
import Derived.Below
import Derived.Deep.RegionHeld
import Derived.WalkKit
import Derived.KernelRfl
import Derived.Laws.Rows
import Derived.Laws.AppendOwn
import Derived.Laws.Strings
import Derived.Laws.Small
import Derived.Lib.Hide
import Derived.IntWalk
import Derived.Laws.Tables
import Derived.Laws.Concat
import Derived.Laws.MakeOwn
import Derived.Lib.OwnBridge
import Derived.WideKeyEntry
import Derived.DeepKeys4
import Derived.Lib.AppendZeros
import Derived.Test.YtnhnedifekejpaaProg
import Derived.Test.YtnhnedifekejpaaRows
import Derived.Lib.LaidTab
import Derived.Lib.ItoaNum
import Derived.Lib.TrailingZeros
import Derived.Stop.LaidErr
import Derived.WalkSmall
import Derived.LaidMore
import Derived.Shelf.Spec.TrailingZeros
import Derived.Laws.BitsAllLaws
import Derived.Laws.Bits64
import Derived.Deep.QuietTactic
import Derived.BigQuiet
import Derived.RegionTactic
import Derived.BigRegion
import Derived.Deep.RegionHeld3
import Derived.ChangeAlike
import Derived.RangeFuncNested
import Derived.RangeFuncBound
import Derived.RangeFuncCalls
import Derived.RangeFuncLeaves
import Derived.Shelf.Abstract
import Derived.Shelf.RegionOpen
import Derived.OwnWalkIn
import Derived.TacticsInMore
import Derived.LoopNIn
import Derived.LoopIn
import Derived.Laws.Bits128
import Derived.Deep.AppendLies
import Derived.Ground.Names2Prog
import Derived.Shelf.Slices.Clone
import Derived.Ground.SlgnProg
import Derived.Shelf.SlicesE.Clone
import Derived.Sort.Grow
import Derived.Maps.AppendAt
import Derived.Lib.OthersKept
import Derived.Laws.IdiomStrings
import Derived.StillTailTactics
import Derived.Deep.RegionLaw
import Derived.Deep.DeepCutAuto
import Derived.Deep.CutRange
import Derived.Deep.RegionWith
import Derived.Laws.Bits64b
import Derived.Deep.DrawnRows
import Derived.Lib.SliceRun
import Derived.Laws.OwnMore
import Derived.OwnWalk
import Derived.WalkSpells
import Derived.Lib.Join
import Derived.Lib.ItoaLen
import Derived.Lib.UnsafeStr
import Derived.Lib.AppendIntMem
import Derived.Deep.Slices
import Derived.Deep.Fields
import Derived.ChangeSame
import Derived.Lib.SmallJoins
import Derived.ChangeSlices
import Derived.ProofKit
import Derived.Test.YtnhnedifekejpaaPtA
import Derived.Test.YtnhnedifekejpaaPtB
import Derived.Test.YtnhnedifekejpaaPtC
import Derived.Test.YtnhnedifekejpaaPtD
set_option maxRecDepth 100000
set_option maxHeartbeats 4000000
set_option linter.unusedVariables false
set_option linter.unusedVariables false
set_option linter.unusedSimpArgs false
set_option linter.unusedSectionVars false
set_option linter.unnecessarySimpa false
namespace Go.Proofs.Ytnhnedifekejpaa
open Go Go.RowKit
def byA : List RV → Nat → Int × Int → List Int
 | [], _, _ => []
 | r :: rs, i, k => if k = (r.p, r.g) then (i : Int) :: byA rs (i + 1) k else byA rs (i + 1) k
theorem byA_app (r : RV) (k : Int × Int) : ∀ (rs : List RV) (i : Nat), byA (rs ++ [r]) i k = byA rs i k ++ (if k = (r.p, r.g) then [((i + rs.length : Nat) : Int)] else [])
 | [], i => by simp only [byA, List.nil_append, List.length_nil, Nat.add_zero]
 | x :: rs, i => by
  simp only [List.cons_append, byA, byA_app r k rs (i + 1), List.length_cons]
  rw [show i + 1 + rs.length = i + (rs.length + 1) by omega]
  by_cases h : k = (x.p, x.g)
  ·rw [if_pos h, if_pos h]; rfl
  ·rw [if_neg h, if_neg h]
theorem byA_take {rs : List RV} {i : Nat} {r : RV} (h : rs[i]? = some r) (k : Int × Int) : byA (rs.take (i + 1)) 0 k = byA (rs.take i) 0 k ++ (if k = (r.p, r.g) then [(i : Int)] else []) := by
 rw [List.take_add_one, h]
 show byA (rs.take i ++ [r]) 0 k = _
 rw [byA_app, List.length_take, Nat.min_eq_left (Nat.le_of_lt (List.getElem?_eq_some_iff.1 h).1), Nat.zero_add]
theorem byA_len (k : Int × Int) : ∀ (rs : List RV) (i : Nat), (byA rs i k).length ≤ rs.length
 | [], _ => Nat.le_refl _
 | x :: rs, i => by
  have := byA_len k rs (i + 1)
  unfold byA
  split <;> simp <;> omega
abbrev byB (rs : List RV) (k : Int × Int) : List Value := (byA rs 0 k).map (Value.int .i64)
theorem byB_step {rs : List RV} {i : Nat} {r : RV} (h : rs[i]? = some r) : (fun x => if x = (r.p, r.g) then byB (rs.take i) (r.p, r.g) ++ [.int .i64 (i : Int)] else byB (rs.take i) x) = byB (rs.take (i + 1)) := by
 funext x
 unfold byB
 rw [byA_take h x]
 by_cases e : x = (r.p, r.g)
 ·subst e
  rw [if_pos rfl, if_pos rfl, List.map_append]; rfl
 ·rw [if_neg e, if_neg e, List.append_nil]
theorem bldA9 (x y : Int) : Try.prog.built 94 [(0, .int .i64 x), (1, .int .i64 y)] = some #[.int .i64 x, .int .i64 y] := by kernel_rfl
theorem inQ_le9 {x n m : Int} (h : inQ x n = true) (hn : n ≤ m) : 0 ≤ x ∧ x ≤ m := by
 unfold inQ at h
 rw [Bool.and_eq_true, decide_eq_true_eq, decide_eq_true_eq] at h
 omega
def topE (p : PV) (a b : Int) : List Int × Int := if pdsE p ≠ 0 then ([], pdsE p) else if inQ a p.st = true ∧ inQ b p.sy = true then (byA p.rs 0 (a, b), 0) else ([], 5)
def TopRet (X : List Int × Int) (w : World) (e : Ending) (w' : World) : Prop := ∃ a c, e = .returned (.tuple #[.slice a X.1.length c, .int .i64 X.2]) ∧ RowN w.heap.size w' a c X.1 ∧ Below w.heap.size w w'
theorem topRet_no {X : List Int × Int} {c : Int} {w w' : World} (h : X = ([], c)) (hb : Below w.heap.size w w') : TopRet X w (.returned (.tuple #[.slice none 0 0, .int .i64 c])) w' := by
 subst h; exact ⟨none, 0, rfl, World.ownsRow_nil _ _ _ _, hb⟩
theorem topE_bad {p : PV} {a b : Int} (h : pdsE p ≠ 0) : topE p a b = ([], pdsE p) := by unfold topE; rw [if_pos h]
theorem topE_no {p : PV} {a b : Int} (h : pdsE p = 0) (h2 : ¬ (inQ a p.st = true ∧ inQ b p.sy = true)) : topE p a b = ([], 5) := by unfold topE; rw [if_neg (not_not_intro h), if_neg h2]
theorem topE_yes {p : PV} {a b : Int} (h : pdsE p = 0) (h1 : inQ a p.st = true) (h2 : inQ b p.sy = true) : topE p a b = (byA p.rs 0 (a, b), 0) := by unfold topE; rw [if_neg (not_not_intro h), if_pos ⟨h1, h2⟩]
theorem topRet_row {X : List Int × Int} {xs : List Int} {v : Value} {n : Nat} {w w' : World} (h : X = (xs, 0)) (hr : w'.ownsRow w.heap.size 3 1 v n (xs.map (Value.int .i64))) (hb : Below w.heap.size w w') : TopRet X w (.returned (.tuple #[v, .int .i64 0])) w' := by
 subst h
 have hn : n = xs.length := by have := hr.1; simpa using this.symm
 subst hn
 obtain ⟨a, c, rfl, _⟩ := ownsRow_sl hr
 exact ⟨a, c, rfl, hr, hb⟩
theorem topA_c (ds d : Nat) (s : SV) (st sy : Int) (ra : Option Addr) (rl rc : Nat) (rs : List RV) (pa pb : Int) (w : World) (hs : SIn w ds s) (hprow : RRow w ra rs) (hplen : rs.length = rl) (hin : ∀ r ∈ rs, RIn w d r) :
  Calls Try.prog 10 #[.agg #[.int .i64 s.f.tag, .int .i64 s.f.dim, .slice s.f.a s.f.len s.f.cap, .int .i64 st, .int .i64 sy, .slice ra rl rc], .int .i64 pa, .int .i64 pb] w (TopRet (topE ⟨s, st, sy, ra, rl, rc, rs⟩ pa pb) w) := by
 refine enterF (args := [.agg #[.int .i64 s.f.tag, .int .i64 s.f.dim, .slice s.f.a s.f.len s.f.cap, .int .i64 st, .int .i64 sy, .slice ra rl rc], .int .i64 pa, .int .i64 pb]) Try.func10 rfl Try.ntmps10 rfl ?_
 have hS := St.start w
 refine seqF (regF ?_)
 refine op_box (cs := [_, _, _, _, _, _]) hS rfl rfl rfl ?_
 clear hS; intro B1 W1 hS
 refine op_assign rfl rfl ?_
 refine op_assign rfl rfl ?_
 refine endF (XF.thenN ?_)
 refine seqF ?_
 refine seqF (regF ?_)
 refine op_loadA (vs := [_, _, _, _, _, _]) Try.isAgg28 Try.sizeOf28 rfl (CellsAt.own (j := 0) (m := 6) (hS.at_ 0 rfl) rfl) rfl ?_
 refine op_call (vs := [_]) hS goes_36 rfl (pdsA_is ds d ⟨s, st, sy, ra, rl, rc, rs⟩ _ (PvIn.below ⟨hs, hprow, hplen, hin⟩ hS.below)) rfl ?_
 rintro e W2 ⟨rfl, hb⟩
 refine ⟨_, rfl, hb, fun hS' => ?_⟩
 clear hS; have hS := hS'; clear hS' hb
 refine op_assign rfl rfl ?_
 refine endF (XF.thenN ?_)
 refine seqF (regF ?_)
 refine op_move rfl rfl ?_
 refine op_neq rfl rfl rfl ?_
 refine endF (XF.thenN ?_)
 refine condF rfl (fun hc => ?_) (fun hc => ?_)
 ·have hc16 := of_decide_eq_true hc; clear hc
  refine seqF (regF ?_)
  refine op_move rfl rfl ?_
  refine op_assign rfl rfl ?_
  refine op_assign rfl rfl ?_
  refine endF (XF.thenN ?_)
  refine retF ?_
  refine XF.thenR ?_
  refine XF.res (res2 Try.results10 rfl rfl) ?_
  exact topRet_no (topE_bad hc16) hS.below
 ·have hc16 := of_decide_eq_false hc; clear hc
  have hE : pdsE ⟨s, st, sy, ra, rl, rc, rs⟩ = 0 := Decidable.of_not_not hc16
  obtain ⟨S, px, hok⟩ := pdsOk_of (ds := ds) (d := d) (p := ⟨s, st, sy, ra, rl, rc, rs⟩) ⟨hs, hprow, hplen, hin⟩ hE
  have hrl : rl ≤ 16384 := hok.rl
  have hst : 0 ≤ st ∧ st ≤ 4096 := hok.st
  have hsy : 0 ≤ sy ∧ sy ≤ 4096 := hok.sy
  refine skipF ?_
  refine XF.thenN ?_
  refine seqF ?_
  refine seqF (regF ?_)
  refine op_loadA (vs := [_, _, _, _, _, _]) Try.isAgg28 Try.sizeOf28 rfl (CellsAt.own (j := 0) (m := 6) (hS.at_ 0 rfl) rfl) rfl ?_
  refine op_move rfl rfl ?_
  refine op_call (vs := [_, _]) hS goes_37 rfl (isState_is ⟨s, st, sy, ra, rl, rc, rs⟩ pa _) rfl ?_
  rintro e W3 ⟨rfl, hb⟩
  refine ⟨_, rfl, hb, fun hS' => ?_⟩
  clear hS; have hS := hS'; clear hS' hb
  refine op_not rfl rfl ?_
  refine op_move rfl rfl ?_
  refine op_cases (d := 22) rfl (fun hc => ?_) (fun hc => ?_)
  ·have hg22 := hc; clear hc
   refine op_notF (d := 22) rfl rfl rfl rfl ?_
   refine op_notF (d := 22) rfl rfl rfl rfl ?_
   refine op_notF (d := 22) rfl rfl rfl rfl ?_
   refine op_notF (d := 22) rfl rfl rfl rfl ?_
   refine op_pickT rfl rfl rfl ?_
   refine endF (XF.thenN ?_)
   refine condT rfl ?_
   refine seqF (regF ?_)
   refine op_assign rfl rfl ?_
   refine op_assign rfl rfl ?_
   refine endF (XF.thenN ?_)
   refine retF ?_
   refine XF.thenR ?_
   refine XF.res (res2 Try.results10 rfl rfl) ?_
   exact topRet_no (topE_no hE (fun h => by simp_all)) hS.below
  ·have hg22 := hc; clear hc
   refine op_wantedF (d := 22) rfl rfl ?_
   refine op_loadA (vs := [_, _, _, _, _, _]) Try.isAgg28 Try.sizeOf28 rfl (CellsAt.own (j := 0) (m := 6) (hS.at_ 0 rfl) rfl) rfl ?_
   refine op_wantedF (d := 22) rfl rfl ?_
   refine op_move rfl rfl ?_
   refine op_wantedF (d := 22) rfl rfl ?_
   refine op_call (vs := [_, _]) hS goes_38 rfl (isSymbol_is ⟨s, st, sy, ra, rl, rc, rs⟩ pb _) rfl ?_
   rintro e W4 ⟨rfl, hb⟩
   refine ⟨_, rfl, hb, fun hS' => ?_⟩
   clear hS; have hS := hS'; clear hS' hb
   refine op_wantedF (d := 22) rfl rfl ?_
   refine op_not rfl rfl ?_
   refine op_pickF rfl rfl rfl ?_
   refine endF (XF.thenN ?_)
   refine condF rfl (fun hc => ?_) (fun hc => ?_)
   ·have hc27 := hc; clear hc
    refine seqF (regF ?_)
    refine op_assign rfl rfl ?_
    refine op_assign rfl rfl ?_
    refine endF (XF.thenN ?_)
    refine retF ?_
    refine XF.thenR ?_
    refine XF.res (res2 Try.results10 rfl rfl) ?_
    exact topRet_no (topE_no hE (fun h => by simp_all)) hS.below
   ·have hc27 := hc; clear hc
    have hqa : inQ pa st = true := by simp_all
    have hqb : inQ pb sy = true := by simp_all
    have hka := inQ_le9 hqa (show st ≤ 1000000 by omega)
    have hkb := inQ_le9 hqb (show sy ≤ 1000000 by omega)
    refine skipF ?_
    refine XF.thenN ?_
    refine seqF (regF ?_)
    have hsz0 := hS.below.size
    refine op_makeMap hS rfl ?_
    clear hS; intro bm Wm hbm hlm hS
    refine op_assign rfl rfl ?_
    refine endF (XF.thenN ?_)
    refine seqF ?_
    refine seqF ?_
    have hbm2 := hbm
    have hwb : w.heap.size ≤ bm := Nat.le_trans hsz0 hlm
    obtain ⟨lo, hlo⟩ : ∃ lo, lo = Wm.heap.size := ⟨_, rfl⟩
    have hO := own_off hS hbm2
    have hwl := hS.below.size
    rw [← hlo] at hO hwl
    refine regF ?_
    refine op_field (o' := 5) fa_28_3 rfl rfl rfl ?_
    refine op_load Try.isAgg26 rfl (cell_own (hS.at_ 0 rfl) rfl) rfl ?_
    refine op_len Try.underlying26 rfl rfl ?_
    refine op_move rfl rfl ?_
    refine endF (XF.thenN ?_)
    refine blockF ?_
    refine loopF (fun m l W => ∃ i : Nat, i ≤ rl ∧ m = rl - i ∧ l = [(1, .int .i64 pa), (2, .int .i64 pb), (3, .pointer (some ⟨B1, 0, none⟩)), (9, .map (some bm)), (30, .slice ra rl rc), (31, .int .i64 (rl : Int)), (32, .int .i64 (i : Int))] ∧ Grp Try.prog 94 3 akv lo (byB (rs.take i)) bm W ∧ lo ≤ W.heap.size ∧ St w [(B1, [.int .i64 s.f.tag, .int .i64 s.f.dim, .slice s.f.a s.f.len s.f.cap, .int .i64 st, .int .i64 sy, .slice ra rl rc], 28)] [] [] W) (rl - 0) ([(1, _), (2, _), (3, _), (9, _), (30, _), (31, _), (32, _)]) ⟨rfl, rfl, rfl, rfl, rfl, rfl, rfl, trivial⟩ (⟨0, Nat.zero_le _, rfl, rfl, Grp.fresh lo hbm2, Nat.le_of_eq hlo, hS.clear⟩) ?_
    clear hS
    rintro m l W ⟨i, hi, rfl, rfl, hM, hlo9, hS⟩
    refine seqF (regF ?_)
    refine op_lss rfl rfl rfl ?_
    refine endF (XF.thenN ?_)
    refine seqF ?_
    refine condF rfl (fun hc => ?_) (fun hc => ?_)
    ·have hc33 := of_decide_eq_true hc; clear hc
     have hk : i < rl := by omega
     obtain ⟨r, hr⟩ : ∃ r, rs[i]? = some r := ⟨rs[i]'(by omega), by simp [show i < rs.length by omega]⟩
     obtain ⟨b, off, rfl, hcs⟩ := hprow.at_ hr
     have k1 := CellsAt.agree hS.agree (Nat.zero_le _) hcs
     have hru := hok.rule r (List.mem_of_getElem? hr)
     unfold ruleB at hru
     simp only [Bool.and_eq_true] at hru
     have hkp := inQ_le9 hru.1 (show st ≤ 1000000 by omega)
     have hkg := inQ_le9 hru.2.2.1 (show sy ≤ 1000000 by omega)
     have hS := (hS.markAt (Grp.lt hM) (fun p hp => (hO p hp).1)).mark lo (fun p hp => (hO p hp).2) rfl
     refine skipF ?_
     refine XF.thenN ?_
     refine seqF ?_
     refine blockF ?_
     refine seqF (regF ?_)
     refine op_move rfl rfl ?_
     refine op_indexA  Try.underlying26 Try.sizeOf56 rfl rfl rfl (by omega) rfl rfl ?_
     refine op_loadA (vs := [_, _, _, _, _, _, _, _, _, _]) Try.isAgg56 Try.sizeOf56 rfl (k1) rfl ?_
     refine op_alloc (cs := [_, _, _, _, _, _, _, _, _, _]) hS Try.zeroValue56 rfl rfl ?_
     clear hS; intro B5 W5 hS
     refine op_assign rfl rfl ?_
     refine op_storeA (i := 0) (vs := [_, _, _, _, _, _, _, _, _, _]) (cs' := [_, _, _, _, _, _, _, _, _, _]) (O' := [_, _]) hS Try.sizeOf56 rfl rfl rfl rfl rfl rfl rfl ?_
     clear hS; intro W6 hS
     refine endF (XF.thenN ?_)
     refine seqF (regF ?_)
     refine op_field (o' := 0) fa_56_0 rfl rfl rfl ?_
     refine op_load Try.isAgg3 rfl (cell_own (hS.at_ 0 rfl) rfl) rfl ?_
     refine op_field (o' := 1) fa_56_1 rfl rfl rfl ?_
     refine op_load Try.isAgg3 rfl (cell_own (hS.at_ 0 rfl) rfl) rfl ?_
     refine op_build (us := [(0, .int .i64 _), (1, .int .i64 _)]) rfl (bldA9 _ _) rfl ?_
     refine op_alloc (cs := [_, _]) hS Try.zeroValue94 rfl rfl ?_
     clear hS; intro B7 W7 hS
     refine op_storeA (i := 0) (vs := [_, _]) (cs' := [_, _]) (O' := [_, _, _]) hS Try.sizeOf94 rfl rfl rfl rfl rfl rfl rfl ?_
     clear hS; intro W8 hS
     refine endF (XF.thenN ?_)
     refine regF ?_
     refine op_move rfl rfl ?_
     refine op_loadA (vs := [_, _]) Try.isAgg94 Try.sizeOf94 rfl (CellsAt.own (j := 0) (m := 2) (hS.at_ 0 rfl) rfl) rfl ?_
     refine op_move rfl rfl ?_
     refine op_buildSlice (us := [(0, .int .i64 _)]) hS Try.underlying30 Try.sizeOf3 Try.zeroValue3 rfl rfl rfl (bs_30_1 _) rfl ?_
     clear hS; intro B9 W9 hS
     have hS9 := hS.tail.tail.tail.clear
     have hlo8 := (hS.since 0 rfl).1
     refine op_group (k := (r.p, r.g)) hS9 (Grp.same hM (fun h1 => ((hS.since 1 rfl).2 bm (Nat.le_refl _) (cutW_lt h1)).trans (cutW_at h1)) (fun p h0 h1 => (hS.since 0 rfl).2 p h0 h1)) hO hwb hwl (Nat.le_trans hlo9 hlo8) arrLaw Try.underlying93 Try.zeroValue30 (arrKey (awf_small hkp.1 hkp.2) (awf_small hkg.1 hkg.2)) akv_inj Try.underlying30 inf_3 rfl rfl rfl rfl rfl rfl (hS.at_ 0 rfl) rfl (by have h9 := byA_len (r.p, r.g) (rs.take i) 0; rw [List.length_take] at h9; rw [List.length_map]; simp only [maxLen]; omega) (by have h9 := byA_len (r.p, r.g) (rs.take i) 0; rw [List.length_take] at h9; rw [List.length_map]; show (_ + 1) * 8 ≤ _; omega) rfl rfl rfl rfl (fun _ => rfl) (fun _ _ => rfl) (fun _ _ _ => rfl) (fun _ _ _ _ => ⟨rfl, rfl⟩) ?_
     clear hS hS9 hM hlo9; intro v1 v2 v3 v4 W9 hS hM hlo9
     rw [byB_step hr] at hM
     refine endF ?_
     refine XF.blkN ?_
     refine XF.thenN ?_
     refine regF ?_
     refine op_add rfl rfl (IntWalk.i64_in _ (by omega)) rfl ?_
     refine op_move rfl rfl ?_
     refine endF ?_
     exact XF.round (rl - (i + 1)) [(1, _), (2, _), (3, _), (9, _), (30, _), (31, _), (32, _)] (by omega) ⟨rfl, rfl, rfl, rfl, rfl, rfl, rfl, trivial⟩ ⟨i + 1, by omega, rfl, rfl, hM, hlo9, hS⟩
    ·have hc33 := of_decide_eq_false hc; clear hc
     rw [List.take_of_length_le (by omega)] at hM
     have hS := (hS.markAt (Grp.lt hM) (fun p hp => (hO p hp).1)).mark lo (fun p hp => (hO p hp).2) rfl
     obtain ⟨v55, hlk, hrw55⟩ := Grp.look (Grp.lower (Grp.same hM (fun h1 => ((hS.since 1 rfl).2 bm (Nat.le_refl _) (cutW_lt h1)).trans (cutW_at h1)) (fun p h0 h1 => (hS.since 0 rfl).2 p h0 h1)) hwl) arrLaw Try.underlying93 Try.zeroValue30 (k := (pa, pb)) (arrKey (awf_small hka.1 hka.2) (awf_small hkb.1 hkb.2)) akv_inj
     refine exitF ?_
     refine XF.thenX ?_
     refine XF.thenX ?_
     refine XF.blkX ?_
     refine XF.thenN ?_
     refine seqF (regF ?_)
     refine op_move rfl rfl ?_
     refine op_move rfl rfl ?_
     refine op_move rfl rfl ?_
     refine op_build (us := [(0, .int .i64 _), (1, .int .i64 _)]) rfl (bldA9 _ _) rfl ?_
     refine opV (rn_lookup rfl rfl (hlk _ rfl)) rfl ?_
     refine op_assign rfl rfl ?_
     refine op_assign rfl rfl ?_
     refine endF (XF.thenN ?_)
     refine retF ?_
     refine XF.res (res2 Try.results10 rfl rfl) ?_
     exact topRet_row (topE_yes hE hqa hqb) hrw55 hS.below
end Go.Proofs.Ytnhnedifekejpaa
namespace Go.Proofs.Ytnhnedifekejpaa
open Go Go.RowKit
theorem topR_c (ds d : Nat) (s : SV) (st sy : Int) (ra : Option Addr) (rl rc : Nat) (rs : List RV) (pa pb : Int) (w : World) (hs : SIn w ds s) (hprow : RRow w ra rs) (hplen : rs.length = rl) (hin : ∀ r ∈ rs, RIn w d r) :
  Calls Try.prog 11 #[.agg #[.int .i64 s.f.tag, .int .i64 s.f.dim, .slice s.f.a s.f.len s.f.cap, .int .i64 st, .int .i64 sy, .slice ra rl rc], .int .i64 pa, .int .i64 pb] w (TopRet (topE ⟨s, st, sy, ra, rl, rc, rs⟩ pa pb) w) := by
 refine enterF (args := [.agg #[.int .i64 s.f.tag, .int .i64 s.f.dim, .slice s.f.a s.f.len s.f.cap, .int .i64 st, .int .i64 sy, .slice ra rl rc], .int .i64 pa, .int .i64 pb]) Try.func11 rfl Try.ntmps11 rfl ?_
 have hS := St.start w
 refine seqF (regF ?_)
 refine op_box (cs := [_, _, _, _, _, _]) hS rfl rfl rfl ?_
 clear hS; intro B1 W1 hS
 refine op_assign rfl rfl ?_
 refine op_assign rfl rfl ?_
 refine endF (XF.thenN ?_)
 refine seqF (regF ?_)
 refine op_loadA (vs := [_, _, _, _, _, _]) Try.isAgg28 Try.sizeOf28 rfl (CellsAt.own (j := 0) (m := 6) (hS.at_ 0 rfl) rfl) rfl ?_
 refine op_call (vs := [_]) hS goes_39 rfl (pdsR_is ds d ⟨s, st, sy, ra, rl, rc, rs⟩ _ (PvIn.below ⟨hs, hprow, hplen, hin⟩ hS.below)) rfl ?_
 rintro e W2 ⟨rfl, hb⟩
 refine ⟨_, rfl, hb, fun hS' => ?_⟩
 clear hS; have hS := hS'; clear hS' hb
 refine op_assign rfl rfl ?_
 refine endF (XF.thenN ?_)
 refine seqF ?_
 refine seqF (regF ?_)
 refine op_move rfl rfl ?_
 refine op_neq rfl rfl rfl ?_
 refine endF (XF.thenN ?_)
 refine condF rfl (fun hc => ?_) (fun hc => ?_)
 ·have hc14 := of_decide_eq_true hc; clear hc
  refine seqF (regF ?_)
  refine op_move rfl rfl ?_
  refine op_assign rfl rfl ?_
  refine op_assign rfl rfl ?_
  refine endF (XF.thenN ?_)
  refine retF ?_
  refine XF.thenR ?_
  refine XF.res (res2 Try.results11 rfl rfl) ?_
  exact topRet_no (topE_bad hc14) hS.below
 ·have hc14 := of_decide_eq_false hc; clear hc
  have hE : pdsE ⟨s, st, sy, ra, rl, rc, rs⟩ = 0 := Decidable.of_not_not hc14
  obtain ⟨S, px, hok⟩ := pdsOk_of (ds := ds) (d := d) (p := ⟨s, st, sy, ra, rl, rc, rs⟩) ⟨hs, hprow, hplen, hin⟩ hE
  have hrl : rl ≤ 16384 := hok.rl
  refine skipF ?_
  refine XF.thenN ?_
  refine seqF ?_
  refine seqF (regF ?_)
  refine op_move rfl rfl ?_
  refine op_field (o' := 3) fa_28_1 rfl rfl rfl ?_
  refine op_load Try.isAgg3 rfl (cell_own (hS.at_ 0 rfl) rfl) rfl ?_
  refine op_call (vs := [_, _]) hS goes_40 rfl (inR_is pa st _) rfl ?_
  rintro e W3 ⟨rfl, hb⟩
  refine ⟨_, rfl, hb, fun hS' => ?_⟩
  clear hS; have hS := hS'; clear hS' hb
  refine op_not rfl rfl ?_
  refine op_move rfl rfl ?_
  refine op_cases (d := 21) rfl (fun hc => ?_) (fun hc => ?_)
  ·have hg21 := hc; clear hc
   refine op_notF (d := 21) rfl rfl rfl rfl ?_
   refine op_notF (d := 21) rfl rfl rfl rfl ?_
   refine op_notF (d := 21) rfl rfl rfl rfl ?_
   refine op_notF (d := 21) rfl rfl rfl rfl ?_
   refine op_notF (d := 21) rfl rfl rfl rfl ?_
   refine op_pickT rfl rfl rfl ?_
   refine endF (XF.thenN ?_)
   refine condT rfl ?_
   refine seqF (regF ?_)
   refine op_assign rfl rfl ?_
   refine op_assign rfl rfl ?_
   refine endF (XF.thenN ?_)
   refine retF ?_
   refine XF.thenR ?_
   refine XF.res (res2 Try.results11 rfl rfl) ?_
   exact topRet_no (topE_no hE (fun h => by simp_all)) hS.below
  ·have hg21 := hc; clear hc
   refine op_wantedF (d := 21) rfl rfl ?_
   refine op_move rfl rfl ?_
   refine op_wantedF (d := 21) rfl rfl ?_
   refine op_field (o' := 4) fa_28_2 rfl rfl rfl ?_
   refine op_wantedF (d := 21) rfl rfl ?_
   refine op_load Try.isAgg3 rfl (cell_own (hS.at_ 0 rfl) rfl) rfl ?_
   refine op_wantedF (d := 21) rfl rfl ?_
   refine op_call (vs := [_, _]) hS goes_40 rfl (inR_is pb sy _) rfl ?_
   rintro e W4 ⟨rfl, hb⟩
   refine ⟨_, rfl, hb, fun hS' => ?_⟩
   clear hS; have hS := hS'; clear hS' hb
   refine op_wantedF (d := 21) rfl rfl ?_
   refine op_not rfl rfl ?_
   refine op_pickF rfl rfl rfl ?_
   refine endF (XF.thenN ?_)
   refine condF rfl (fun hc => ?_) (fun hc => ?_)
   ·have hc27 := hc; clear hc
    refine seqF (regF ?_)
    refine op_assign rfl rfl ?_
    refine op_assign rfl rfl ?_
    refine endF (XF.thenN ?_)
    refine retF ?_
    refine XF.thenR ?_
    refine XF.res (res2 Try.results11 rfl rfl) ?_
    exact topRet_no (topE_no hE (fun h => by simp_all)) hS.below
   ·have hc27 := hc; clear hc
    have hqa : inQ pa st = true := by simp_all
    have hqb : inQ pb sy = true := by simp_all
    refine skipF ?_
    refine XF.thenN ?_
    refine seqF (regF ?_)
    refine op_assign rfl rfl ?_
    refine endF (XF.thenN ?_)
    refine seqF ?_
    refine seqF ?_
    have hS := hS.newG 3 1
    refine regF ?_
    refine op_assign rfl rfl ?_
    refine endF (XF.thenN ?_)
    refine blockF ?_
    refine loopF (fun m l W => ∃ (i : Nat) (v : Value), i ≤ rl ∧ m = rl - i ∧ l = [(1, .int .i64 pa), (2, .int .i64 pb), (3, .pointer (some ⟨B1, 0, none⟩)), (9, v), (10, .int .i64 (i : Int))] ∧ St w [(B1, [.int .i64 s.f.tag, .int .i64 s.f.dim, .slice s.f.a s.f.len s.f.cap, .int .i64 st, .int .i64 sy, .slice ra rl rc], 28)] [⟨v, (byA (rs.take i) 0 (pa, pb)).length, byB (rs.take i) (pa, pb), 3, 1⟩] [] W) (rl - 0) ([(1, _), (2, _), (3, _), (9, _), (10, _)]) ⟨rfl, rfl, rfl, rfl, rfl, trivial⟩ (⟨0, _, Nat.zero_le _, rfl, rfl, hS.clear⟩) ?_
    clear hS
    rintro m l W ⟨i, v, hi, rfl, rfl, hS⟩
    refine seqF ?_
    refine seqF (regF ?_)
    refine op_move rfl rfl ?_
    refine op_field (o' := 5) fa_28_3 rfl rfl rfl ?_
    refine op_load Try.isAgg26 rfl (cell_own (hS.at_ 0 rfl) rfl) rfl ?_
    refine op_len Try.underlying26 rfl rfl ?_
    refine op_lss rfl rfl rfl ?_
    refine endF (XF.thenN ?_)
    refine condF rfl (fun hc => ?_) (fun hc => ?_)
    ·have hc32 := of_decide_eq_true hc; clear hc
     have hk : i < rl := by omega
     obtain ⟨r, hr⟩ : ∃ r, rs[i]? = some r := ⟨rs[i]'(by omega), by simp [show i < rs.length by omega]⟩
     obtain ⟨b, off, rfl, hcs⟩ := hprow.at_ hr
     have k1 : W.cell? ⟨b, off + i * 10, none⟩ = some (.int .i64 r.p) := hS.old hcs.1
     have k2 : W.cell? ⟨b, off + i * 10 + 1, none⟩ = some (.int .i64 r.g) := hS.old hcs.2.1
     have hbt := byA_take hr (pa, pb)
     have hbl := byA_len (pa, pb) (rs.take i) 0
     rw [List.length_take] at hbl
     refine skipF ?_
     refine XF.thenN ?_
     refine seqF ?_
     refine blockF ?_
     refine seqF (regF ?_)
     refine op_field (o' := 5) fa_28_3 rfl rfl rfl ?_
     refine op_load Try.isAgg26 rfl (cell_own (hS.at_ 0 rfl) rfl) rfl ?_
     refine op_move rfl rfl ?_
     refine op_indexA  Try.underlying26 Try.sizeOf56 rfl rfl rfl (by omega) rfl rfl ?_
     refine op_field fa_56_0 rfl (Nat.add_zero _) rfl ?_
     refine op_load Try.isAgg3 rfl (k1) rfl ?_
     refine op_move rfl rfl ?_
     refine op_eql rfl rfl rfl ?_
     refine op_move rfl rfl ?_
     refine op_cases (d := 43) rfl (fun hc => ?_) (fun hc => ?_)
     ·have hg43 := of_decide_eq_true hc; clear hc
      refine op_wantedF (d := 43) rfl rfl ?_
      refine op_field (o' := 5) fa_28_3 rfl rfl rfl ?_
      refine op_wantedF (d := 43) rfl rfl ?_
      refine op_load Try.isAgg26 rfl (cell_own (hS.at_ 0 rfl) rfl) rfl ?_
      refine op_wantedF (d := 43) rfl rfl ?_
      refine op_move rfl rfl ?_
      refine op_wantedF (d := 43) rfl rfl ?_
      refine op_indexA  Try.underlying26 Try.sizeOf56 rfl rfl rfl (by omega) rfl rfl ?_
      refine op_wantedF (d := 43) rfl rfl ?_
      refine op_field fa_56_1 rfl rfl rfl ?_
      refine op_wantedF (d := 43) rfl rfl ?_
      refine op_load Try.isAgg3 rfl (k2) rfl ?_
      refine op_wantedF (d := 43) rfl rfl ?_
      refine op_move rfl rfl ?_
      refine op_wantedF (d := 43) rfl rfl ?_
      refine op_eql rfl rfl rfl ?_
      refine op_pickT rfl rfl rfl ?_
      refine endF (XF.thenN ?_)
      refine condF rfl (fun hc => ?_) (fun hc => ?_)
      ·have hc52 := of_decide_eq_true hc; clear hc
       refine regF ?_
       refine op_move rfl rfl ?_
       refine op_move rfl rfl ?_
       refine op_buildSlice (us := [(0, .int .i64 _)]) hS Try.underlying30 Try.sizeOf3 Try.zeroValue3 rfl rfl rfl (bs_30_1 _) rfl ?_
       clear hS; intro B5 W5 hS
       refine op_append (i := 0) (news := [_]) hS Try.underlying30 inf_3 rfl rfl (by show 0 < 1; decide) rfl rfl rfl rfl rfl (CellsAt.own (j := 0) (m := 1) (hS.at_ 0 rfl) rfl) rfl rfl (by dsimp only; simp only [maxLen]; omega) (by dsimp only; show _ * 8 ≤ _; omega) rfl ?_
       clear hS; intro v6 W6 hS
       refine op_assign rfl rfl ?_
       refine endF ?_
       refine XF.blkN ?_
       refine XF.thenN ?_
       refine regF ?_
       refine op_move rfl rfl ?_
       refine op_add rfl rfl (IntWalk.i64_in _ (by omega)) rfl ?_
       refine op_assign rfl rfl ?_
       refine endF ?_
       rw [if_pos (by simp_all)] at hbt
       exact XF.round (rl - (i + 1)) [(1, _), (2, _), (3, _), (9, _), (10, _)] (by omega) ⟨rfl, rfl, rfl, rfl, rfl, trivial⟩ ⟨i + 1, _, by omega, rfl, rfl, hS.tail.clear.castG (by simp [byB, hbt])⟩
      ·have hc52 := of_decide_eq_false hc; clear hc
       refine skipF ?_
       refine XF.blkN ?_
       refine XF.thenN ?_
       refine regF ?_
       refine op_move rfl rfl ?_
       refine op_add rfl rfl (IntWalk.i64_in _ (by omega)) rfl ?_
       refine op_assign rfl rfl ?_
       refine endF ?_
       rw [if_neg (fun e => by have e1 := (Prod.mk.inj e).1; have e2 := (Prod.mk.inj e).2; first | exact hg43 e1.symm | exact hc52 e2.symm), List.append_nil] at hbt
       exact XF.round (rl - (i + 1)) [(1, _), (2, _), (3, _), (9, _), (10, _)] (by omega) ⟨rfl, rfl, rfl, rfl, rfl, trivial⟩ ⟨i + 1, _, by omega, rfl, rfl, hS.clear.castG (by simp [byB, hbt])⟩
     ·have hg43 := of_decide_eq_false hc; clear hc
      refine op_notF (d := 43) rfl rfl rfl rfl ?_
      refine op_notF (d := 43) rfl rfl rfl rfl ?_
      refine op_notF (d := 43) rfl rfl rfl rfl ?_
      refine op_notF (d := 43) rfl rfl rfl rfl ?_
      refine op_notF (d := 43) rfl rfl rfl rfl ?_
      refine op_notF (d := 43) rfl rfl rfl rfl ?_
      refine op_notF (d := 43) rfl rfl rfl rfl ?_
      refine op_notF (d := 43) rfl rfl rfl rfl ?_
      refine op_pickF rfl rfl rfl ?_
      refine endF (XF.thenN ?_)
      refine condN rfl ?_
      refine skipF ?_
      refine XF.blkN ?_
      refine XF.thenN ?_
      refine regF ?_
      refine op_move rfl rfl ?_
      refine op_add rfl rfl (IntWalk.i64_in _ (by omega)) rfl ?_
      refine op_assign rfl rfl ?_
      refine endF ?_
      rw [if_neg (fun e => by have e1 := (Prod.mk.inj e).1; have e2 := (Prod.mk.inj e).2; first | exact hg43 e1.symm | exact hc52 e2.symm), List.append_nil] at hbt
      exact XF.round (rl - (i + 1)) [(1, _), (2, _), (3, _), (9, _), (10, _)] (by omega) ⟨rfl, rfl, rfl, rfl, rfl, trivial⟩ ⟨i + 1, _, by omega, rfl, rfl, hS.clear.castG (by simp [byB, hbt])⟩
    ·have hc32 := of_decide_eq_false hc; clear hc
     rw [List.take_of_length_le (by omega)] at hS
     refine exitF ?_
     refine XF.thenX ?_
     refine XF.thenX ?_
     refine XF.blkX ?_
     refine XF.thenN ?_
     refine seqF (regF ?_)
     refine op_move rfl rfl ?_
     refine op_assign rfl rfl ?_
     refine op_assign rfl rfl ?_
     refine endF (XF.thenN ?_)
     refine retF ?_
     refine XF.res (res2 Try.results11 rfl rfl) ?_
     exact topRet_row (topE_yes hE hqa hqb) (hS.row 0 rfl) hS.below
end Go.Proofs.Ytnhnedifekejpaa
namespace Go.Proofs.Ytnhnedifekejpaa
open Go Go.RowKit
theorem fa_101_0 (w : World) (b o : Nat) : (Instr.fieldAt 101 (.pointer (some ⟨b, o, none⟩)) 0).run Try.prog w = .ok (.pointer (some ⟨b, o + 0, none⟩)) w := by
 simp [Instr.fieldAt, run_underlying Try.underlying101, Instr.sureAddr, go_sem, Addr.add_lit]
theorem goes_73 : goesIn Try.prog 73 = true := by kernel_rfl
theorem goes_75 : goesIn Try.prog 75 = true := by kernel_rfl
theorem shParts_is (sf : SF) (f0 : WF) (sq : SF) (zt yt : Int) (v1 v2 v3 : Value) (n : Nat) (xs1 xs2 xs3 : List Value) (B : Nat) (Ot : Own) (K : List (Nat × World)) (w0 : World) (S : PS) (x : PX) (num rp rg rq : Int) (rwa : Option Addr) (rwl rwc : Nat) (ws : List Int) (f : WF) (w : World) (hS0 : St w0 ((B, shC sf f0 sq (zt) (yt) v1 v2 v3, 101) :: Ot) [⟨v1, n, xs1, 56, 10⟩, ⟨v2, n, xs2, 3, 1⟩, ⟨v3, n, xs3, 4, 1⟩] K w) (hn : n ≤ 50000) (hs : SIs w0 S sf) (hok : S.ok) (hx : XIs w0 S f x) (hrow : Row w0 rwa ws) (hlen : ws.length = rwl) (hw4 : rwl ≤ 4096) (hz : 0 ≤ zt ∧ zt ≤ 10000) (hy : 0 ≤ yt ∧ yt ≤ 10000) (ht : Tabs w0) :
  Calls Try.prog 43 #[.pointer (some ⟨B, 0, none⟩), .int .i64 num, .agg #[.int .i64 rp, .int .i64 rg, .int .i64 rq, .slice rwa rwl rwc, .bool f.z, .int .i64 f.c, .int .u64 (f.g : Int), .slice f.ra f.rl f.rc, .slice f.ca f.cl f.cc, .slice f.pa f.pl f.pc]] w (fun e w' => ∃ (u1 u2 u3 : Value) (Kn : List (Nat × World)) (ns : List R9), e = .returned (.tuple #[]) ∧ ns.map R9.pl = partsF (oneX S) num rp rg rq ws x zt yt ∧ (∀ q ∈ K, q ∈ Kn) ∧ Held w0 Kn (fun W2 => ∀ r ∈ ns, RHeld w0.heap.size S W2 r) ∧ St w0 ((B, shC sf f0 sq (zt + ((rwl - 2 : Nat) : Int)) (yt + ((rwl - 2 : Nat) : Int)) u1 u2 u3, 101) :: Ot) [⟨u1, n + ns.length, xs1 ++ ns.flatMap ten9, 56, 10⟩, ⟨u2, n + ns.length, xs2 ++ ns.map (fun r => Value.int .i64 r.num), 3, 1⟩, ⟨u3, n + ns.length, xs3 ++ ns.map (fun r => Value.bool r.first), 4, 1⟩] Kn w') := by
 refine enterF (args := [.pointer (some ⟨B, 0, none⟩), .int .i64 num, .agg #[.int .i64 rp, .int .i64 rg, .int .i64 rq, .slice rwa rwl rwc, .bool f.z, .int .i64 f.c, .int .u64 (f.g : Int), .slice f.ra f.rl f.rc, .slice f.ca f.cl f.cc, .slice f.pa f.pl f.pc]]) Try.func43 rfl Try.ntmps43 rfl ?_
 have hS := hS0
 refine seqF (regF ?_)
 refine op_box (cs := [_, _, _, _, _, _, _, _, _, _]) hS rfl rfl rfl ?_
 clear hS; intro B1 W1 hS
 refine endF (XF.thenN ?_)
 refine seqF (regF ?_)
 refine op_field (o' := 3) fa_56_3 rfl rfl rfl ?_
 refine op_load Try.isAgg30 rfl (cell_own (hS.at_ 0 rfl) rfl) rfl ?_
 refine op_len Try.underlying30 rfl rfl ?_
 refine op_assign rfl rfl ?_
 refine endF (XF.thenN ?_)
 refine seqF ?_
 refine seqF (regF ?_)
 refine op_move rfl rfl ?_
 refine op_leq rfl rfl rfl ?_
 refine endF (XF.thenN ?_)
 refine condF rfl (fun hc => ?_) (fun hc => ?_)
 ·have hc14 := of_decide_eq_true hc; clear hc
  refine seqF ?_
  have hS7 := hS
  have hszN := hS.below.size
  refine regY (al := []) (G := fun _ => [⟨v1, n, xs1, 56, 10⟩, ⟨v2, n, xs2, 3, 1⟩, ⟨v3, n, xs3, 4, 1⟩]) (E := []) (k := 19) (ds := [34]) followsM rfl hS rfl rfl (by kernel_rfl) (by kernel_rfl) rfl (by decide) rfl ?_
  refine bly_cons 1 rfl (isV _) (syV fst_take [(0, _)] rfl rfl (fun _ => (w_free rfl)) (fun _ => ⟨g_fr (by kernel_rfl) rfl, trivial⟩) (fun s w hw => rn_move rfl) (at_top rfl)) ?_
  refine bly_cons 2 rfl (isV _) (syV fst_take [(1, _)] rfl rfl (fun _ => (w_free rfl)) (fun _ => ⟨g_fr (by kernel_rfl) rfl, trivial⟩) (fun s w hw => rn_move rfl) (at_top rfl)) ?_
  refine bly_cons 3 rfl (isV _) (syV fst_take [(5, _)] rfl rfl (fun _ => (w_free rfl)) (fun _ => ⟨g_fr (by kernel_rfl) rfl, trivial⟩) (fun s w hw => rn_field (o' := 0) fa_56_0 rfl rfl) (at_top rfl)) ?_
  refine bly_cons 4 rfl (isV _) (syV fst_take [(17, _)] rfl rfl (fun _ => (w_free rfl)) (fun _ => ⟨g_dep 2 (by kernel_rfl) (at_n rfl rfl (at_dep rfl rfl rfl)), trivial⟩) (fun s w hw => rn_load Try.isAgg3 rfl ((cell_own (hw.at_ 0 rfl) rfl))) (at_top rfl)) ?_
  refine bly_cons 5 rfl (isV _) (syV fst_take [(5, _)] rfl rfl (fun _ => (w_free rfl)) (fun _ => ⟨g_fr (by kernel_rfl) rfl, trivial⟩) (fun s w hw => rn_field (o' := 1) fa_56_1 rfl rfl) (at_top rfl)) ?_
  refine bly_cons 6 rfl (isV _) (syV fst_take [(19, _)] rfl rfl (fun _ => (w_free rfl)) (fun _ => ⟨g_dep 4 (by kernel_rfl) (at_n rfl rfl (at_dep rfl rfl rfl)), trivial⟩) (fun s w hw => rn_load Try.isAgg3 rfl ((cell_own (hw.at_ 0 rfl) rfl))) (at_top rfl)) ?_
  refine bly_cons 7 rfl (isV _) (syV fst_take [(5, _)] rfl rfl (fun _ => (w_free rfl)) (fun _ => ⟨g_fr (by kernel_rfl) rfl, trivial⟩) (fun s w hw => rn_field (o' := 2) fa_56_2 rfl rfl) (at_top rfl)) ?_
  refine bly_cons 8 rfl (isV _) (syV fst_take [(21, _)] rfl rfl (fun _ => (w_free rfl)) (fun _ => ⟨g_dep 6 (by kernel_rfl) (at_n rfl rfl (at_dep rfl rfl rfl)), trivial⟩) (fun s w hw => rn_load Try.isAgg3 rfl ((cell_own (hw.at_ 0 rfl) rfl))) (at_top rfl)) ?_
  refine bly_cons 9 rfl (isV _) (syV fst_take [(5, _)] rfl rfl (fun _ => (w_free rfl)) (fun _ => ⟨g_fr (by kernel_rfl) rfl, trivial⟩) (fun s w hw => rn_field (o' := 3) fa_56_3 rfl rfl) (at_top rfl)) ?_
  refine bly_cons 10 rfl (isV _) (syV fst_take [(23, _)] rfl rfl (fun _ => (w_free rfl)) (fun _ => ⟨g_dep 8 (by kernel_rfl) (at_n rfl rfl (at_dep rfl rfl rfl)), trivial⟩) (fun s w hw => rn_load Try.isAgg30 rfl ((cell_own (hw.at_ 0 rfl) rfl))) (at_top rfl)) ?_
  refine bly_cons 11 rfl (isClN9 W1.heap.size ws) (sy_call fst_take (fun s => [isV _]) rfl rfl goes_74 (fun _ => w_free rfl) (fun s => ⟨p_tmp (g_dep 9 (by kernel_rfl) (at_n rfl rfl (at_dep rfl rfl rfl))), trivial⟩) (fun vs s0 w' hk hw hlo hh => by have e := holds_isV (us := [_]) hh; subst e; exact cl_gN9 hlo hlen (clone_ints (c := rwc) (hrow.below hw.below) hlen (by omega))) (at_top rfl)) ?_
  refine bly_cons 12 rfl (isV _) (syV fst_take [(0, _)] rfl rfl (fun _ => (w_free rfl)) (fun _ => ⟨g_fr (by kernel_rfl) rfl, trivial⟩) (fun s w hw => rn_move rfl) (at_top rfl)) ?_
  refine bly_cons 13 rfl (isV _) (syV fst_take [(26, _)] rfl rfl (fun _ => (w_free rfl)) (fun _ => ⟨g_dep 11 (by kernel_rfl) (at_n rfl rfl (at_dep rfl rfl rfl)), trivial⟩) (fun s w hw => rn_nilCheck rfl) (at_top rfl)) ?_
  refine bly_cons 14 rfl (isV _) (syV fst_take [(27, _)] rfl rfl (fun _ => (w_free rfl)) (fun _ => ⟨g_dep 12 (by kernel_rfl) (at_n rfl rfl (at_dep rfl rfl rfl)), trivial⟩) (fun s w hw => rn_field (o' := 0) fa_101_0 rfl rfl) (at_top rfl)) ?_
  refine bly_cons 15 rfl (isV _) (syV fst_take [(28, _)] rfl rfl (fun _ => (w_free rfl)) (fun _ => ⟨g_dep 13 (by kernel_rfl) (at_n rfl rfl (at_dep rfl rfl rfl)), trivial⟩) (fun s w hw => rn_loadA (vs := [_, _, _, _, _, _, _, _, _]) Try.isAgg98 Try.sizeOf98 rfl ((CellsAt.own (j := 0) (m := 9) (hw.at_ 1 rfl) rfl))) (at_top rfl)) ?_
  refine bly_cons 16 rfl (isV _) (syV fst_take [(5, _)] rfl rfl (fun _ => (w_free rfl)) (fun _ => ⟨g_fr (by kernel_rfl) rfl, trivial⟩) (fun s w hw => rn_field (o' := 4) fa_56_4 rfl rfl) (at_top rfl)) ?_
  refine bly_cons 17 rfl (isV _) (syV fst_take [(30, _)] rfl rfl (fun _ => (w_free rfl)) (fun _ => ⟨g_dep 15 (by kernel_rfl) (at_n rfl rfl (at_dep rfl rfl rfl)), trivial⟩) (fun s w hw => rn_loadA (vs := [_, _, _, _, _, _]) Try.isAgg54 Try.sizeOf54 rfl ((CellsAt.own (j := 4) (m := 6) (hw.at_ 0 rfl) rfl))) (at_top rfl)) ?_
  refine bly_cons 18 rfl (isNew W1.heap.size S x) (sy_call fst_take (fun s => [isV _, isV _]) rfl rfl goes_75 (fun _ => w_free rfl) (fun s => ⟨p_tmp (g_dep 14 (by kernel_rfl) (at_n rfl rfl (at_dep rfl rfl rfl))), p_tmp (g_dep 16 (by kernel_rfl) (at_n rfl rfl (at_dep rfl rfl rfl))), trivial⟩) (fun vs s0 w' hk hw hlo hh => by have e := holds_isV (us := [_, _]) hh; subst e; exact wret_gN hlo (ringCopy_is S sf f0 f x w' (hs.below hw.below) hok (hx.below hw.below) (ht.below hw.below))) (at_top rfl)) ?_
  refine bly_cons 19 rfl (isRuleN W1.heap.size S (rp) (rg) (rq) ws (x)) (syPs [(3, 18, isV _), (5, 20, isV _), (7, 22, isV _), (10, 25, isClN9 W1.heap.size ws), (17, 32, isNew W1.heap.size S x)] rfl rfl ⟨⟨by kernel_rfl, at_dep rfl rfl rfl⟩, ⟨by kernel_rfl, at_dep rfl rfl rfl⟩, ⟨by kernel_rfl, at_dep rfl rfl rfl⟩, ⟨by kernel_rfl, at_dep rfl rfl rfl⟩, ⟨by kernel_rfl, at_dep rfl rfl rfl⟩, trivial⟩ (bld_rule9 (fun _ _ h => h)) (at_top rfl)) ?_
  refine bly_nil ?_
  intro s2 W2 Ks2 hall2 hsz2 hKs2 hS' hcov2 hfx2 hno2
  clear hS; have hS := hS'.castO (O' := (_ :: _ :: Ot)) rfl; clear hS'
  refine castL (L' := [AwS _ _ (isV _), AwS _ _ (isV _), AwS _ _ (isV _), AwS _ _ (isV _), AwS _ _ (isV _), AwS _ _ (isV _), AwS _ _ (isV _), AwS _ _ (isV _), AwS _ _ (isV _), AwS _ _ (isV _), AwS _ _ (isClN9 W1.heap.size ws), AwS _ _ (isV _), AwS _ _ (isV _), AwS _ _ (isV _), AwS _ _ (isV _), AwS _ _ (isV _), AwS _ _ (isV _), AwS _ _ (isNew W1.heap.size S x), AwS _ _ (isRuleN W1.heap.size S (rp) (rg) (rq) ws (x))]) rfl ?_
  refine fin_sV ?_
  refine fin_sV ?_
  refine fin_sV ?_
  refine fin_sV ?_
  refine fin_sV ?_
  refine fin_sV ?_
  refine fin_sV ?_
  refine fin_sV ?_
  refine fin_sV ?_
  refine fin_sV ?_
  refine fin_p ?_; intro _ _
  refine fin_sV ?_
  refine fin_sV ?_
  refine fin_sV ?_
  refine fin_sV ?_
  refine fin_sV ?_
  refine fin_sV ?_
  refine fin_p ?_; intro _ _
  refine fin_p ?_; rintro vR hR9; have hcovC := @hcov2; obtain ⟨aR, cR, fR, rfl, hwR, hxR⟩ := hR9.here
  refine fin_nil ?_
  have HR : Held w0 (_ ++ K) (fun W2 => RHeld w0.heap.size S W2 ⟨num, true, rp, rg, rq, aR, cR, ws, fR, x⟩) := fun h2 hk => (RHeld.agree (r := ⟨num, true, rp, rg, rq, aR, cR, ws, fR, x⟩) ⟨hwR, hxR⟩ (sameX_agree9 (hcovC h2 (fun q hq => hk q (List.mem_append_left _ hq))) (fun b h1 hx => by have h3 := xb_lt9 hS7 hx; omega))).mono hszN
  refine op_callX (vs := [_, _, _, _]) goes_73 rfl (shPut_is sf f0 sq (zt) (yt) v1 v2 v3 (n) (xs1) (xs2) (xs3) B _ _ w0 num true (rp) (rg) (rq) aR (ws).length cR fR _ (hS.perm (List.Perm.swap _ _ _)) (by omega)) rfl ?_
  rintro e W9 ⟨w1, w2, w3, rfl, hS9⟩
  refine ⟨_, rfl, ?_⟩
  clear hS; have hS := hS9.perm (List.Perm.swap _ _ _); clear hS9
  refine endF (XF.thenN ?_)
  refine retF ?_
  refine XF.thenR ?_
  refine XF.res (res0 Try.results43) ?_
  have e0 : ((rwl - 2 : Nat) : Int) = 0 := by omega
  refine ⟨w1, w2, w3, _, [⟨num, true, rp, rg, rq, aR, cR, ws, fR, x⟩], rfl, by unfold partsF; rw [if_pos (by omega)]; rfl, fun q hq => List.mem_append_right _ hq, fun h2 hk r hr => by simp at hr; subst hr; exact HR h2 hk, ?_⟩
  rw [e0, Int.add_zero, Int.add_zero]
  exact hS.tail.castG (by simp)
 ·have hc14 := of_decide_eq_false hc; clear hc
  obtain ⟨wb, wo, rfl, hcell⟩ : ∃ b o, rwa = some ⟨b, o, none⟩ ∧ ∀ i, i < ws.length → w0.cell? ⟨b, o + i, none⟩ = some (.int .i64 (ws.getD i 0)) := by
   rcases hrow with h | ⟨b, o, h, hc⟩
   ·rw [h] at hlen; simp at hlen; omega
   ·exact ⟨b, o, h, hc⟩
  refine skipF ?_
  refine XF.thenN ?_
  refine seqF ?_
  refine regB (m := 14) followsM hS (by kernel_rfl) (by kernel_rfl) rfl ?_
  refine bl_cons 1 rfl (isV _) (stab_isV _) (rgV (li := [(0, _)]) rfl (w_free rfl) ⟨g_fr (by kernel_rfl) rfl, trivial⟩ (fun w hw => rn_move rfl) (at_top rfl)) ?_
  refine bl_cons 2 rfl (isV _) (stab_isV _) (rgV (li := [(35, _)]) rfl (w_free rfl) ⟨g_dep 0 (by kernel_rfl) (at_dep rfl rfl rfl), trivial⟩ (fun w hw => rn_nilCheck rfl) (at_top rfl)) ?_
  refine bl_cons 3 rfl (isV _) (stab_isV _) (rgV (li := [(36, _)]) rfl (w_free rfl) ⟨g_dep 1 (by kernel_rfl) (at_dep rfl rfl rfl), trivial⟩ (fun w hw => rn_field (o' := 9) fa_101_1 rfl rfl) (at_top rfl)) ?_
  refine bl_cons 4 rfl (isV _) (stab_isV _) (rgV (li := [(37, _)]) rfl (w_free rfl) ⟨g_dep 2 (by kernel_rfl) (at_dep rfl rfl rfl), trivial⟩ (fun w hw => rn_field (o' := 9) fa_40_0 rfl rfl) (at_top rfl)) ?_
  refine bl_cons 5 rfl (isV _) (stab_isV _) (rgV (li := [(38, _)]) rfl (w_free rfl) ⟨g_dep 3 (by kernel_rfl) (at_dep rfl rfl rfl), trivial⟩ (fun w hw => rn_field (o' := 12) fa_28_1 rfl rfl) (at_top rfl)) ?_
  refine bl_cons 6 rfl (isV _) (stab_isV _) (rgV (li := [(39, _)]) rfl (w_free rfl) ⟨g_dep 4 (by kernel_rfl) (at_dep rfl rfl rfl), trivial⟩ (fun w hw => rn_load Try.isAgg3 rfl ((below_agree hw 0).cell (Nat.zero_le _) (cell_own (hS.at_ 1 rfl) rfl))) (at_top rfl)) ?_
  refine bl_cons 7 rfl (isV _) (stab_isV _) (rgV (li := [(0, _)]) rfl (w_free rfl) ⟨g_fr (by kernel_rfl) rfl, trivial⟩ (fun w hw => rn_move rfl) (at_top rfl)) ?_
  refine bl_cons 8 rfl (isV _) (stab_isV _) (rgV (li := [(41, _)]) rfl (w_free rfl) ⟨g_dep 6 (by kernel_rfl) (at_dep rfl rfl rfl), trivial⟩ (fun w hw => rn_nilCheck rfl) (at_top rfl)) ?_
  refine bl_cons 9 rfl (isV _) (stab_isV _) (rgV (li := [(42, _)]) rfl (w_free rfl) ⟨g_dep 7 (by kernel_rfl) (at_dep rfl rfl rfl), trivial⟩ (fun w hw => rn_field (o' := 9) fa_101_1 rfl rfl) (at_top rfl)) ?_
  refine bl_cons 10 rfl (isV _) (stab_isV _) (rgV (li := [(43, _)]) rfl (w_free rfl) ⟨g_dep 8 (by kernel_rfl) (at_dep rfl rfl rfl), trivial⟩ (fun w hw => rn_field (o' := 9) fa_40_0 rfl rfl) (at_top rfl)) ?_
  refine bl_cons 11 rfl (isV _) (stab_isV _) (rgV (li := [(44, _)]) rfl (w_free rfl) ⟨g_dep 9 (by kernel_rfl) (at_dep rfl rfl rfl), trivial⟩ (fun w hw => rn_field (o' := 13) fa_28_2 rfl rfl) (at_top rfl)) ?_
  refine bl_cons 12 rfl (isV _) (stab_isV _) (rgV (li := [(45, _)]) rfl (w_free rfl) ⟨g_dep 10 (by kernel_rfl) (at_dep rfl rfl rfl), trivial⟩ (fun w hw => rn_load Try.isAgg3 rfl ((below_agree hw 0).cell (Nat.zero_le _) (cell_own (hS.at_ 1 rfl) rfl))) (at_top rfl)) ?_
  refine bl_cons 13 rfl (isV _) (stab_isV _) (rgV (li := [(40, _)]) rfl (w_free rfl) ⟨g_dep 5 (by kernel_rfl) (at_dep rfl rfl rfl), trivial⟩ (fun w hw => rn_assign rfl) (at_top rfl)) ?_
  refine bl_cons 14 rfl (isV _) (stab_isV _) (rgV (li := [(46, _)]) rfl (w_free rfl) ⟨g_dep 11 (by kernel_rfl) (at_dep rfl rfl rfl), trivial⟩ (fun w hw => rn_assign rfl) (at_top rfl)) ?_
  refine bl_nil ?_
  intro W3 hbR hS'
  clear hS; have hS := hS'; clear hS'
  refine fin_v ?_
  refine fin_v ?_
  refine fin_v ?_
  refine fin_v ?_
  refine fin_v ?_
  refine fin_v ?_
  refine fin_v ?_
  refine fin_v ?_
  refine fin_v ?_
  refine fin_v ?_
  refine fin_v ?_
  refine fin_v ?_
  refine fin_v ?_
  refine fin_v ?_
  refine fin_nil ?_
  refine XF.thenN ?_
  refine seqF (regF ?_)
  refine op_move rfl rfl ?_
  refine op_nilCheck rfl rfl ?_
  refine op_field (o' := 9) fa_101_1 rfl rfl rfl ?_
  refine op_field (o' := 9) fa_40_0 rfl rfl rfl ?_
  refine op_field (o' := 12) fa_28_1 rfl rfl rfl ?_
  refine op_load Try.isAgg3 rfl (cell_own (hS.at_ 1 rfl) rfl) rfl ?_
  refine op_move rfl rfl ?_
  refine op_sub rfl rfl (IntWalk.i64_in _ (by omega)) rfl ?_
  refine op_add rfl rfl (IntWalk.i64_in _ (by omega)) rfl ?_
  refine op_nilCheck rfl rfl ?_
  refine op_field (o' := 9) fa_101_1 rfl rfl rfl ?_
  refine op_field (o' := 9) fa_40_0 rfl rfl rfl ?_
  refine op_field (o' := 12) fa_28_1 rfl rfl rfl ?_
  refine op_store (i := 1) (cs' := [_, _, _, _, _, _, _, _, _, _, _, _, _, _, _, _, _]) (O' := (_ :: _ :: Ot)) hS Try.sizeOf3 rfl rfl rfl rfl rfl rfl rfl ?_
  clear hS; intro W4 hS
  refine endF (XF.thenN ?_)
  refine seqF (regF ?_)
  refine op_move rfl rfl ?_
  refine op_nilCheck rfl rfl ?_
  refine op_field (o' := 9) fa_101_1 rfl rfl rfl ?_
  refine op_field (o' := 9) fa_40_0 rfl rfl rfl ?_
  refine op_field (o' := 13) fa_28_2 rfl rfl rfl ?_
  refine op_load Try.isAgg3 rfl (cell_own (hS.at_ 1 rfl) rfl) rfl ?_
  refine op_move rfl rfl ?_
  refine op_sub rfl rfl (IntWalk.i64_in _ (by omega)) rfl ?_
  refine op_add rfl rfl (IntWalk.i64_in _ (by omega)) rfl ?_
  refine op_nilCheck rfl rfl ?_
  refine op_field (o' := 9) fa_101_1 rfl rfl rfl ?_
  refine op_field (o' := 9) fa_40_0 rfl rfl rfl ?_
  refine op_field (o' := 13) fa_28_2 rfl rfl rfl ?_
  refine op_store (i := 1) (cs' := [_, _, _, _, _, _, _, _, _, _, _, _, _, _, _, _, _]) (O' := (_ :: _ :: Ot)) hS Try.sizeOf3 rfl rfl rfl rfl rfl rfl rfl ?_
  clear hS; intro W5 hS
  refine endF (XF.thenN ?_)
  refine seqF ?_
  have e2 : (rwl : Int) - 2 = ((rwl - 2 : Nat) : Int) := by omega
  rw [e2] at hS
  have k7 : w0.cell? ⟨wb, wo + (rwl - 1) * 1, none⟩ = some (.int .i64 (ws.getD (ws.length - 1) 0)) := by rw [Nat.mul_one, hlen]; exact hlen ▸ hcell (ws.length - 1) (by omega)
  have hS7 := hS
  have hszN := hS.below.size
  refine regY (al := []) (G := fun _ => [⟨v1, n, xs1, 56, 10⟩, ⟨v2, n, xs2, 3, 1⟩, ⟨v3, n, xs3, 4, 1⟩]) (E := []) (k := 23) (ds := [96]) followsM rfl hS rfl rfl (by kernel_rfl) (by kernel_rfl) rfl (by decide) rfl ?_
  refine bly_cons 1 rfl (isV _) (syV fst_take [(0, _)] rfl rfl (fun _ => (w_free rfl)) (fun _ => ⟨g_fr (by kernel_rfl) rfl, trivial⟩) (fun s w hw => rn_move rfl) (at_top rfl)) ?_
  refine bly_cons 2 rfl (isV _) (syV fst_take [(1, _)] rfl rfl (fun _ => (w_free rfl)) (fun _ => ⟨g_fr (by kernel_rfl) rfl, trivial⟩) (fun s w hw => rn_move rfl) (at_top rfl)) ?_
  refine bly_cons 3 rfl (isV _) (syV fst_take [(5, _)] rfl rfl (fun _ => (w_free rfl)) (fun _ => ⟨g_fr (by kernel_rfl) rfl, trivial⟩) (fun s w hw => rn_field (o' := 0) fa_56_0 rfl rfl) (at_top rfl)) ?_
  refine bly_cons 4 rfl (isV _) (syV fst_take [(75, _)] rfl rfl (fun _ => (w_free rfl)) (fun _ => ⟨g_dep 2 (by kernel_rfl) (at_n rfl rfl (at_dep rfl rfl rfl)), trivial⟩) (fun s w hw => rn_load Try.isAgg3 rfl ((cell_own (hw.at_ 0 rfl) rfl))) (at_top rfl)) ?_
  refine bly_cons 5 rfl (isV _) (syV fst_take [(5, _)] rfl rfl (fun _ => (w_free rfl)) (fun _ => ⟨g_fr (by kernel_rfl) rfl, trivial⟩) (fun s w hw => rn_field (o' := 1) fa_56_1 rfl rfl) (at_top rfl)) ?_
  refine bly_cons 6 rfl (isV _) (syV fst_take [(77, _)] rfl rfl (fun _ => (w_free rfl)) (fun _ => ⟨g_dep 4 (by kernel_rfl) (at_n rfl rfl (at_dep rfl rfl rfl)), trivial⟩) (fun s w hw => rn_load Try.isAgg3 rfl ((cell_own (hw.at_ 0 rfl) rfl))) (at_top rfl)) ?_
  refine bly_cons 7 rfl (isV _) (syV fst_take [(7, _)] rfl rfl (fun _ => (w_free rfl)) (fun _ => ⟨g_fr (by kernel_rfl) rfl, trivial⟩) (fun s w hw => rn_move rfl) (at_top rfl)) ?_
  refine bly_cons 8 rfl (isV _) (syV fst_take [(8, _)] rfl rfl (fun _ => (w_free rfl)) (fun _ => ⟨g_fr (by kernel_rfl) rfl, trivial⟩) (fun s w hw => rn_move rfl) (at_top rfl)) ?_
  refine bly_cons 9 rfl (isV _) (syV fst_take [(5, _)] rfl rfl (fun _ => (w_free rfl)) (fun _ => ⟨g_fr (by kernel_rfl) rfl, trivial⟩) (fun s w hw => rn_field (o' := 3) fa_56_3 rfl rfl) (at_top rfl)) ?_
  refine bly_cons 10 rfl (isV _) (syV fst_take [(81, _)] rfl rfl (fun _ => (w_free rfl)) (fun _ => ⟨g_dep 8 (by kernel_rfl) (at_n rfl rfl (at_dep rfl rfl rfl)), trivial⟩) (fun s w hw => rn_load Try.isAgg30 rfl ((cell_own (hw.at_ 0 rfl) rfl))) (at_top rfl)) ?_
  refine bly_cons 11 rfl (isV _) (syV fst_take [(6, _)] rfl rfl (fun _ => (w_free rfl)) (fun _ => ⟨g_fr (by kernel_rfl) rfl, trivial⟩) (fun s w hw => rn_move rfl) (at_top rfl)) ?_
  refine bly_cons 12 rfl (isV _) (syV fst_take [(83, _)] rfl rfl (fun _ => (w_free rfl)) (fun _ => ⟨g_dep 10 (by kernel_rfl) (at_n rfl rfl (at_dep rfl rfl rfl)), trivial⟩) (fun s w hw => rn_sub rfl rfl (IntWalk.i64_in _ (by omega))) (at_top rfl)) ?_
  refine bly_cons 13 rfl (isV _) (syV fst_take [(82, _), (84, _)] rfl rfl (fun _ => (w_free rfl)) (fun _ => ⟨g_dep 9 (by kernel_rfl) (at_n rfl rfl (at_dep rfl rfl rfl)), g_dep 11 (by kernel_rfl) (at_n rfl rfl (at_dep rfl rfl rfl)), trivial⟩) (fun s w hw => rn_indexA (j := rwl - 1) Try.underlying30 Try.sizeOf3 rfl rfl (by omega) (by omega) rfl) (at_top rfl)) ?_
  refine bly_cons 14 rfl (isV _) (syV fst_take [(85, _)] rfl rfl (fun _ => (w_free rfl)) (fun _ => ⟨g_dep 12 (by kernel_rfl) (at_n rfl rfl (at_dep rfl rfl rfl)), trivial⟩) (fun s w hw => rn_load Try.isAgg3 rfl (hw.agree.cell (Nat.zero_le _) (k7))) (at_top rfl)) ?_
  refine bly_cons 15 rfl (isRow W5.heap.size 2 3 _) (sy_rowV fst_take (us := [.int .i64 _, .int .i64 _]) rfl rfl (fun _ => (w_free rfl)) Try.underlying30 Try.sizeOf3 Try.zeroValue3 rfl rfl (fun _ => ⟨p_tmp (g_dep 7 (by kernel_rfl) (at_n rfl rfl (at_dep rfl rfl rfl))), p_tmp (g_dep 13 (by kernel_rfl) (at_n rfl rfl (at_dep rfl rfl rfl))), trivial⟩) (bs_30_2 _ _) (at_top rfl)) ?_
  refine bly_cons 16 rfl (isV _) (syV fst_take [(0, _)] rfl rfl (fun _ => (w_free rfl)) (fun _ => ⟨g_fr (by kernel_rfl) rfl, trivial⟩) (fun s w hw => rn_move rfl) (at_top rfl)) ?_
  refine bly_cons 17 rfl (isV _) (syV fst_take [(88, _)] rfl rfl (fun _ => (w_free rfl)) (fun _ => ⟨g_dep 15 (by kernel_rfl) (at_n rfl rfl (at_dep rfl rfl rfl)), trivial⟩) (fun s w hw => rn_nilCheck rfl) (at_top rfl)) ?_
  refine bly_cons 18 rfl (isV _) (syV fst_take [(89, _)] rfl rfl (fun _ => (w_free rfl)) (fun _ => ⟨g_dep 16 (by kernel_rfl) (at_n rfl rfl (at_dep rfl rfl rfl)), trivial⟩) (fun s w hw => rn_field (o' := 0) fa_101_0 rfl rfl) (at_top rfl)) ?_
  refine bly_cons 19 rfl (isV _) (syV fst_take [(90, _)] rfl rfl (fun _ => (w_free rfl)) (fun _ => ⟨g_dep 17 (by kernel_rfl) (at_n rfl rfl (at_dep rfl rfl rfl)), trivial⟩) (fun s w hw => rn_loadA (vs := [_, _, _, _, _, _, _, _, _]) Try.isAgg98 Try.sizeOf98 rfl ((CellsAt.own (j := 0) (m := 9) (hw.at_ 1 rfl) rfl))) (at_top rfl)) ?_
  refine bly_cons 20 rfl (isV _) (syV fst_take [(5, _)] rfl rfl (fun _ => (w_free rfl)) (fun _ => ⟨g_fr (by kernel_rfl) rfl, trivial⟩) (fun s w hw => rn_field (o' := 4) fa_56_4 rfl rfl) (at_top rfl)) ?_
  refine bly_cons 21 rfl (isV _) (syV fst_take [(92, _)] rfl rfl (fun _ => (w_free rfl)) (fun _ => ⟨g_dep 19 (by kernel_rfl) (at_n rfl rfl (at_dep rfl rfl rfl)), trivial⟩) (fun s w hw => rn_loadA (vs := [_, _, _, _, _, _]) Try.isAgg54 Try.sizeOf54 rfl ((CellsAt.own (j := 4) (m := 6) (hw.at_ 0 rfl) rfl))) (at_top rfl)) ?_
  refine bly_cons 22 rfl (isNew W5.heap.size S x) (sy_call fst_take (fun s => [isV _, isV _]) rfl rfl goes_75 (fun _ => w_free rfl) (fun s => ⟨p_tmp (g_dep 18 (by kernel_rfl) (at_n rfl rfl (at_dep rfl rfl rfl))), p_tmp (g_dep 20 (by kernel_rfl) (at_n rfl rfl (at_dep rfl rfl rfl))), trivial⟩) (fun vs s0 w' hk hw hlo hh => by have e := holds_isV (us := [_, _]) hh; subst e; exact wret_gN hlo (ringCopy_is S sf f0 f x w' (hs.below hw.below) hok (hx.below hw.below) (ht.below hw.below))) (at_top rfl)) ?_
  refine bly_cons 23 rfl (isRuleN W5.heap.size S (rp) (rg) (zt) [yt, ws.getD (ws.length - 1) 0] (x)) (syPs [(3, 76, isV _), (5, 78, isV _), (6, 79, isV _), (14, 87, isRow W5.heap.size 2 3 [.int .i64 (yt), .int .i64 (ws.getD (ws.length - 1) 0)]), (21, 94, isNew W5.heap.size S x)] rfl rfl ⟨⟨by kernel_rfl, at_dep rfl rfl rfl⟩, ⟨by kernel_rfl, at_dep rfl rfl rfl⟩, ⟨by kernel_rfl, at_dep rfl rfl rfl⟩, ⟨by kernel_rfl, at_dep rfl rfl rfl⟩, ⟨by kernel_rfl, at_dep rfl rfl rfl⟩, trivial⟩ (bld_rule9 (fun _ _ h => row_cl9 h)) (at_top rfl)) ?_
  refine bly_nil ?_
  intro s6 W6 Ks6 hall6 hsz6 hKs6 hS' hcov6 hfx6 hno6
  clear hS; have hS := hS'.castO (O' := (_ :: _ :: Ot)) rfl; clear hS'
  refine castL (L' := [AwS _ _ (isV _), AwS _ _ (isV _), AwS _ _ (isV _), AwS _ _ (isV _), AwS _ _ (isV _), AwS _ _ (isV _), AwS _ _ (isV _), AwS _ _ (isV _), AwS _ _ (isV _), AwS _ _ (isV _), AwS _ _ (isV _), AwS _ _ (isV _), AwS _ _ (isV _), AwS _ _ (isV _), AwS _ _ (isRow W5.heap.size 2 3 _), AwS _ _ (isV _), AwS _ _ (isV _), AwS _ _ (isV _), AwS _ _ (isV _), AwS _ _ (isV _), AwS _ _ (isV _), AwS _ _ (isNew W5.heap.size S x), AwS _ _ (isRuleN W5.heap.size S (rp) (rg) (zt) [yt, ws.getD (ws.length - 1) 0] (x))]) rfl ?_
  refine fin_sV ?_
  refine fin_sV ?_
  refine fin_sV ?_
  refine fin_sV ?_
  refine fin_sV ?_
  refine fin_sV ?_
  refine fin_sV ?_
  refine fin_sV ?_
  refine fin_sV ?_
  refine fin_sV ?_
  refine fin_sV ?_
  refine fin_sV ?_
  refine fin_sV ?_
  refine fin_sV ?_
  refine fin_p ?_; intro _ _
  refine fin_sV ?_
  refine fin_sV ?_
  refine fin_sV ?_
  refine fin_sV ?_
  refine fin_sV ?_
  refine fin_sV ?_
  refine fin_p ?_; intro _ _
  refine fin_p ?_; rintro vR hR9; have hcovC := @hcov6; obtain ⟨aR, cR, fR, rfl, hwR, hxR⟩ := hR9.here
  refine fin_nil ?_
  have HR : Held w0 (_ ++ ((W1.heap.size, W3) :: K)) (fun W2 => RHeld w0.heap.size S W2 ⟨num, true, rp, rg, zt, aR, cR, [yt, ws.getD (ws.length - 1) 0], fR, x⟩) := fun h2 hk => (RHeld.agree (r := ⟨num, true, rp, rg, zt, aR, cR, [yt, ws.getD (ws.length - 1) 0], fR, x⟩) ⟨hwR, hxR⟩ (sameX_agree9 (hcovC h2 (fun q hq => hk q (List.mem_append_left _ hq))) (fun b h1 hx => by have h3 := xb_lt9 hS7 hx; omega))).mono hszN
  refine op_callX (vs := [_, _, _, _]) goes_73 rfl (shPut_is sf f0 sq (zt + ((rwl - 2 : Nat) : Int)) (yt + ((rwl - 2 : Nat) : Int)) v1 v2 v3 (n) (xs1) (xs2) (xs3) B _ _ w0 num true (rp) (rg) (zt) aR ([yt, ws.getD (ws.length - 1) 0]).length cR fR _ (hS.perm (List.Perm.swap _ _ _)) (by omega)) rfl ?_
  rintro e W9 ⟨w1, w2, w3, rfl, hS9⟩
  refine ⟨_, rfl, ?_⟩
  clear hS; have hS := hS9.perm (List.Perm.swap _ _ _); clear hS9
  refine endF (XF.thenN ?_)
  refine seqF ?_
  refine seqF (regF ?_)
  refine op_move rfl rfl ?_
  refine op_sub rfl rfl (IntWalk.i64_in _ (by omega)) rfl ?_
  refine op_move rfl rfl ?_
  refine endF (XF.thenN ?_)
  refine blockF ?_
  refine loopF (fun m l W => ∃ (i : Nat) (u1 u2 u3 : Value) (Kk : List (Nat × World)) (ns : List R9), i ≤ rwl - 3 ∧ m = (rwl - 3) - i ∧ l = [(0, .pointer (some ⟨B, 0, none⟩)), (1, .int .i64 num), (5, .pointer (some ⟨B1, 0, none⟩)), (6, .int .i64 (rwl : Int)), (7, .int .i64 zt), (8, .int .i64 yt), (98, .int .i64 ((rwl : Int) - 3)), (99, .int .i64 (i : Int))] ∧ ns.map R9.pl = (num, true, rp, rg, zt, [yt, ws.getD (ws.length - 1) 0], x) :: (List.range i).map (fun i : Nat => ((num, false, zt + (i : Int), yt + (i : Int), zt + (i : Int) + 1, [yt + (i : Int) + 1, ws.getD (ws.length - 2 - i) 0], oneX S) : PR)) ∧ (∀ q ∈ K, q ∈ Kk) ∧ Held w0 Kk (fun W2 => ∀ r ∈ ns, RHeld w0.heap.size S W2 r) ∧ St w0 ((B1, [.int .i64 rp, .int .i64 rg, .int .i64 rq, .slice (some ⟨wb, wo, none⟩) rwl rwc, .bool f.z, .int .i64 f.c, .int .u64 (f.g : Int), .slice f.ra f.rl f.rc, .slice f.ca f.cl f.cc, .slice f.pa f.pl f.pc], 56) :: (B, shC sf f0 sq (zt + ((rwl - 2 : Nat) : Int)) (yt + ((rwl - 2 : Nat) : Int)) u1 u2 u3, 101) :: Ot) [⟨u1, n + ns.length, xs1 ++ ns.flatMap ten9, 56, 10⟩, ⟨u2, n + ns.length, xs2 ++ ns.map (fun r => Value.int .i64 r.num), 3, 1⟩, ⟨u3, n + ns.length, xs3 ++ ns.map (fun r => Value.bool r.first), 4, 1⟩] Kk W) ((rwl - 3) - 0) ([(0, _), (1, _), (5, _), (6, _), (7, _), (8, _), (98, _), (99, _)]) ⟨rfl, rfl, rfl, rfl, rfl, rfl, rfl, rfl, trivial⟩ (⟨0, w1, w2, w3, _, [⟨num, true, rp, rg, zt, aR, cR, [yt, ws.getD (ws.length - 1) 0], fR, x⟩], Nat.zero_le _, rfl, rfl, rfl, fun q hq => List.mem_append_right _ (List.mem_cons_of_mem _ hq), fun h2 hk r hr => by simp at hr; subst hr; exact HR h2 hk, by exact hS.castG (by simp)⟩) ?_
  clear hS
  rintro m l W ⟨i, u1, u2, u3, Kk, ns, hi, rfl, rfl, hns, hsub, HN, hS⟩
  refine seqF (regF ?_)
  refine op_lss rfl rfl rfl ?_
  refine endF (XF.thenN ?_)
  refine seqF ?_
  refine condF rfl (fun hc => ?_) (fun hc => ?_)
  ·have hc100 := of_decide_eq_true hc; clear hc
   have hk : i < rwl - 3 := by omega
   have hnl : ns.length = i + 1 := by have := congrArg List.length hns; simpa using this
   have k11 : w0.cell? ⟨wb, wo + (rwl - 2 - i) * 1, none⟩ = some (.int .i64 (ws.getD (ws.length - 2 - i) 0)) := by rw [Nat.mul_one, hlen]; exact hlen ▸ hcell (ws.length - 2 - i) (by omega)
   refine skipF ?_
   refine XF.thenN ?_
   refine seqF ?_
   refine blockF ?_
   refine seqF (regF ?_)
   refine op_move rfl rfl ?_
   refine op_assign rfl rfl ?_
   refine endF (XF.thenN ?_)
   have hS7 := hS
   have hszN := hS.below.size
   refine regY (al := []) (G := fun _ => [⟨u1, n + ns.length, xs1 ++ ns.flatMap ten9, 56, 10⟩, ⟨u2, n + ns.length, xs2 ++ ns.map (fun r => Value.int .i64 r.num), 3, 1⟩, ⟨u3, n + ns.length, xs3 ++ ns.map (fun r => Value.bool r.first), 4, 1⟩]) (E := []) (k := 31) (ds := [133]) followsM rfl hS rfl rfl (by kernel_rfl) (by kernel_rfl) rfl (by decide) rfl ?_
   refine bly_cons 1 rfl (isV _) (syV fst_take [(0, _)] rfl rfl (fun _ => (w_free rfl)) (fun _ => ⟨g_fr (by kernel_rfl) rfl, trivial⟩) (fun s w hw => rn_move rfl) (at_top rfl)) ?_
   refine bly_cons 2 rfl (isV _) (syV fst_take [(1, _)] rfl rfl (fun _ => (w_free rfl)) (fun _ => ⟨g_fr (by kernel_rfl) rfl, trivial⟩) (fun s w hw => rn_move rfl) (at_top rfl)) ?_
   refine bly_cons 3 rfl (isV _) (syV fst_take [(7, _)] rfl rfl (fun _ => (w_free rfl)) (fun _ => ⟨g_fr (by kernel_rfl) rfl, trivial⟩) (fun s w hw => rn_move rfl) (at_top rfl)) ?_
   refine bly_cons 4 rfl (isV _) (syV fst_take [(9, _)] rfl rfl (fun _ => (w_free rfl)) (fun _ => ⟨g_fr (by kernel_rfl) rfl, trivial⟩) (fun s w hw => rn_move rfl) (at_top rfl)) ?_
   refine bly_cons 5 rfl (isV _) (syV fst_take [(104, _), (105, _)] rfl rfl (fun _ => (w_free rfl)) (fun _ => ⟨g_dep 2 (by kernel_rfl) (at_n rfl rfl (at_dep rfl rfl rfl)), g_dep 3 (by kernel_rfl) (at_n rfl rfl (at_dep rfl rfl rfl)), trivial⟩) (fun s w hw => rn_add rfl rfl (IntWalk.i64_in _ (by omega))) (at_top rfl)) ?_
   refine bly_cons 6 rfl (isV _) (syV fst_take [(8, _)] rfl rfl (fun _ => (w_free rfl)) (fun _ => ⟨g_fr (by kernel_rfl) rfl, trivial⟩) (fun s w hw => rn_move rfl) (at_top rfl)) ?_
   refine bly_cons 7 rfl (isV _) (syV fst_take [(9, _)] rfl rfl (fun _ => (w_free rfl)) (fun _ => ⟨g_fr (by kernel_rfl) rfl, trivial⟩) (fun s w hw => rn_move rfl) (at_top rfl)) ?_
   refine bly_cons 8 rfl (isV _) (syV fst_take [(107, _), (108, _)] rfl rfl (fun _ => (w_free rfl)) (fun _ => ⟨g_dep 5 (by kernel_rfl) (at_n rfl rfl (at_dep rfl rfl rfl)), g_dep 6 (by kernel_rfl) (at_n rfl rfl (at_dep rfl rfl rfl)), trivial⟩) (fun s w hw => rn_add rfl rfl (IntWalk.i64_in _ (by omega))) (at_top rfl)) ?_
   refine bly_cons 9 rfl (isV _) (syV fst_take [(7, _)] rfl rfl (fun _ => (w_free rfl)) (fun _ => ⟨g_fr (by kernel_rfl) rfl, trivial⟩) (fun s w hw => rn_move rfl) (at_top rfl)) ?_
   refine bly_cons 10 rfl (isV _) (syV fst_take [(9, _)] rfl rfl (fun _ => (w_free rfl)) (fun _ => ⟨g_fr (by kernel_rfl) rfl, trivial⟩) (fun s w hw => rn_move rfl) (at_top rfl)) ?_
   refine bly_cons 11 rfl (isV _) (syV fst_take [(110, _), (111, _)] rfl rfl (fun _ => (w_free rfl)) (fun _ => ⟨g_dep 8 (by kernel_rfl) (at_n rfl rfl (at_dep rfl rfl rfl)), g_dep 9 (by kernel_rfl) (at_n rfl rfl (at_dep rfl rfl rfl)), trivial⟩) (fun s w hw => rn_add rfl rfl (IntWalk.i64_in _ (by omega))) (at_top rfl)) ?_
   refine bly_cons 12 rfl (isV _) (syV fst_take [(112, _)] rfl rfl (fun _ => (w_free rfl)) (fun _ => ⟨g_dep 10 (by kernel_rfl) (at_n rfl rfl (at_dep rfl rfl rfl)), trivial⟩) (fun s w hw => rn_add rfl rfl (IntWalk.i64_in _ (by omega))) (at_top rfl)) ?_
   refine bly_cons 13 rfl (isV _) (syV fst_take [(8, _)] rfl rfl (fun _ => (w_free rfl)) (fun _ => ⟨g_fr (by kernel_rfl) rfl, trivial⟩) (fun s w hw => rn_move rfl) (at_top rfl)) ?_
   refine bly_cons 14 rfl (isV _) (syV fst_take [(9, _)] rfl rfl (fun _ => (w_free rfl)) (fun _ => ⟨g_fr (by kernel_rfl) rfl, trivial⟩) (fun s w hw => rn_move rfl) (at_top rfl)) ?_
   refine bly_cons 15 rfl (isV _) (syV fst_take [(114, _), (115, _)] rfl rfl (fun _ => (w_free rfl)) (fun _ => ⟨g_dep 12 (by kernel_rfl) (at_n rfl rfl (at_dep rfl rfl rfl)), g_dep 13 (by kernel_rfl) (at_n rfl rfl (at_dep rfl rfl rfl)), trivial⟩) (fun s w hw => rn_add rfl rfl (IntWalk.i64_in _ (by omega))) (at_top rfl)) ?_
   refine bly_cons 16 rfl (isV _) (syV fst_take [(116, _)] rfl rfl (fun _ => (w_free rfl)) (fun _ => ⟨g_dep 14 (by kernel_rfl) (at_n rfl rfl (at_dep rfl rfl rfl)), trivial⟩) (fun s w hw => rn_add rfl rfl (IntWalk.i64_in _ (by omega))) (at_top rfl)) ?_
   refine bly_cons 17 rfl (isV _) (syV fst_take [(5, _)] rfl rfl (fun _ => (w_free rfl)) (fun _ => ⟨g_fr (by kernel_rfl) rfl, trivial⟩) (fun s w hw => rn_field (o' := 3) fa_56_3 rfl rfl) (at_top rfl)) ?_
   refine bly_cons 18 rfl (isV _) (syV fst_take [(118, _)] rfl rfl (fun _ => (w_free rfl)) (fun _ => ⟨g_dep 16 (by kernel_rfl) (at_n rfl rfl (at_dep rfl rfl rfl)), trivial⟩) (fun s w hw => rn_load Try.isAgg30 rfl ((cell_own (hw.at_ 0 rfl) rfl))) (at_top rfl)) ?_
   refine bly_cons 19 rfl (isV _) (syV fst_take [(6, _)] rfl rfl (fun _ => (w_free rfl)) (fun _ => ⟨g_fr (by kernel_rfl) rfl, trivial⟩) (fun s w hw => rn_move rfl) (at_top rfl)) ?_
   refine bly_cons 20 rfl (isV _) (syV fst_take [(120, _)] rfl rfl (fun _ => (w_free rfl)) (fun _ => ⟨g_dep 18 (by kernel_rfl) (at_n rfl rfl (at_dep rfl rfl rfl)), trivial⟩) (fun s w hw => rn_sub rfl rfl (IntWalk.i64_in _ (by omega))) (at_top rfl)) ?_
   refine bly_cons 21 rfl (isV _) (syV fst_take [(9, _)] rfl rfl (fun _ => (w_free rfl)) (fun _ => ⟨g_fr (by kernel_rfl) rfl, trivial⟩) (fun s w hw => rn_move rfl) (at_top rfl)) ?_
   refine bly_cons 22 rfl (isV _) (syV fst_take [(121, _), (122, _)] rfl rfl (fun _ => (w_free rfl)) (fun _ => ⟨g_dep 19 (by kernel_rfl) (at_n rfl rfl (at_dep rfl rfl rfl)), g_dep 20 (by kernel_rfl) (at_n rfl rfl (at_dep rfl rfl rfl)), trivial⟩) (fun s w hw => rn_sub rfl rfl (IntWalk.i64_in _ (by omega))) (at_top rfl)) ?_
   refine bly_cons 23 rfl (isV _) (syV fst_take [(119, _), (123, _)] rfl rfl (fun _ => (w_free rfl)) (fun _ => ⟨g_dep 17 (by kernel_rfl) (at_n rfl rfl (at_dep rfl rfl rfl)), g_dep 21 (by kernel_rfl) (at_n rfl rfl (at_dep rfl rfl rfl)), trivial⟩) (fun s w hw => rn_indexA (j := rwl - 2 - i) Try.underlying30 Try.sizeOf3 rfl rfl (by omega) (by omega) rfl) (at_top rfl)) ?_
   refine bly_cons 24 rfl (isV _) (syV fst_take [(124, _)] rfl rfl (fun _ => (w_free rfl)) (fun _ => ⟨g_dep 22 (by kernel_rfl) (at_n rfl rfl (at_dep rfl rfl rfl)), trivial⟩) (fun s w hw => rn_load Try.isAgg3 rfl (hw.agree.cell (Nat.zero_le _) (k11))) (at_top rfl)) ?_
   refine bly_cons 25 rfl (isRow W.heap.size 2 3 _) (sy_rowV fst_take (us := [.int .i64 _, .int .i64 _]) rfl rfl (fun _ => (w_free rfl)) Try.underlying30 Try.sizeOf3 Try.zeroValue3 rfl rfl (fun _ => ⟨p_tmp (g_dep 15 (by kernel_rfl) (at_n rfl rfl (at_dep rfl rfl rfl))), p_tmp (g_dep 23 (by kernel_rfl) (at_n rfl rfl (at_dep rfl rfl rfl))), trivial⟩) (bs_30_2 _ _) (at_top rfl)) ?_
   refine bly_cons 26 rfl (isV _) (syV fst_take [(0, _)] rfl rfl (fun _ => (w_free rfl)) (fun _ => ⟨g_fr (by kernel_rfl) rfl, trivial⟩) (fun s w hw => rn_move rfl) (at_top rfl)) ?_
   refine bly_cons 27 rfl (isV _) (syV fst_take [(127, _)] rfl rfl (fun _ => (w_free rfl)) (fun _ => ⟨g_dep 25 (by kernel_rfl) (at_n rfl rfl (at_dep rfl rfl rfl)), trivial⟩) (fun s w hw => rn_nilCheck rfl) (at_top rfl)) ?_
   refine bly_cons 28 rfl (isV _) (syV fst_take [(128, _)] rfl rfl (fun _ => (w_free rfl)) (fun _ => ⟨g_dep 26 (by kernel_rfl) (at_n rfl rfl (at_dep rfl rfl rfl)), trivial⟩) (fun s w hw => rn_field (o' := 0) fa_101_0 rfl rfl) (at_top rfl)) ?_
   refine bly_cons 29 rfl (isV _) (syV fst_take [(129, _)] rfl rfl (fun _ => (w_free rfl)) (fun _ => ⟨g_dep 27 (by kernel_rfl) (at_n rfl rfl (at_dep rfl rfl rfl)), trivial⟩) (fun s w hw => rn_loadA (vs := [_, _, _, _, _, _, _, _, _]) Try.isAgg98 Try.sizeOf98 rfl ((CellsAt.own (j := 0) (m := 9) (hw.at_ 1 rfl) rfl))) (at_top rfl)) ?_
   refine bly_cons 30 rfl (isNew W.heap.size S (oneX S)) (sy_call fst_take (fun s => [isV _]) rfl rfl goes_76 (fun _ => w_free rfl) (fun s => ⟨p_tmp (g_dep 28 (by kernel_rfl) (at_n rfl rfl (at_dep rfl rfl rfl))), trivial⟩) (fun vs s0 w' hk hw hlo hh => by have e := holds_isV (us := [_]) hh; subst e; exact wret_gN hlo (ringOne_is S sf f0 w' (hs.below hw.below) hok)) (at_top rfl)) ?_
   refine bly_cons 31 rfl (isRuleN W.heap.size S (zt + (i : Int)) (yt + (i : Int)) (zt + (i : Int) + 1) [yt + (i : Int) + 1, ws.getD (ws.length - 2 - i) 0] (oneX S)) (syPs [(4, 106, isV _), (7, 109, isV _), (11, 113, isV _), (24, 126, isRow W.heap.size 2 3 [.int .i64 (yt + (i : Int) + 1), .int .i64 (ws.getD (ws.length - 2 - i) 0)]), (29, 131, isNew W.heap.size S (oneX S))] rfl rfl ⟨⟨by kernel_rfl, at_dep rfl rfl rfl⟩, ⟨by kernel_rfl, at_dep rfl rfl rfl⟩, ⟨by kernel_rfl, at_dep rfl rfl rfl⟩, ⟨by kernel_rfl, at_dep rfl rfl rfl⟩, ⟨by kernel_rfl, at_dep rfl rfl rfl⟩, trivial⟩ (bld_rule9 (fun _ _ h => row_cl9 h)) (at_top rfl)) ?_
   refine bly_nil ?_
   intro s7 W7 Ks7 hall7 hsz7 hKs7 hS' hcov7 hfx7 hno7
   clear hS; have hS := hS'.castO (O' := (_ :: _ :: Ot)) rfl; clear hS'
   refine castL (L' := [AwS _ _ (isV _), AwS _ _ (isV _), AwS _ _ (isV _), AwS _ _ (isV _), AwS _ _ (isV _), AwS _ _ (isV _), AwS _ _ (isV _), AwS _ _ (isV _), AwS _ _ (isV _), AwS _ _ (isV _), AwS _ _ (isV _), AwS _ _ (isV _), AwS _ _ (isV _), AwS _ _ (isV _), AwS _ _ (isV _), AwS _ _ (isV _), AwS _ _ (isV _), AwS _ _ (isV _), AwS _ _ (isV _), AwS _ _ (isV _), AwS _ _ (isV _), AwS _ _ (isV _), AwS _ _ (isV _), AwS _ _ (isV _), AwS _ _ (isRow W.heap.size 2 3 _), AwS _ _ (isV _), AwS _ _ (isV _), AwS _ _ (isV _), AwS _ _ (isV _), AwS _ _ (isNew W.heap.size S (oneX S)), AwS _ _ (isRuleN W.heap.size S (zt + (i : Int)) (yt + (i : Int)) (zt + (i : Int) + 1) [yt + (i : Int) + 1, ws.getD (ws.length - 2 - i) 0] (oneX S))]) rfl ?_
   refine fin_sV ?_
   refine fin_sV ?_
   refine fin_sV ?_
   refine fin_sV ?_
   refine fin_sV ?_
   refine fin_sV ?_
   refine fin_sV ?_
   refine fin_sV ?_
   refine fin_sV ?_
   refine fin_sV ?_
   refine fin_sV ?_
   refine fin_sV ?_
   refine fin_sV ?_
   refine fin_sV ?_
   refine fin_sV ?_
   refine fin_sV ?_
   refine fin_sV ?_
   refine fin_sV ?_
   refine fin_sV ?_
   refine fin_sV ?_
   refine fin_sV ?_
   refine fin_sV ?_
   refine fin_sV ?_
   refine fin_sV ?_
   refine fin_p ?_; intro _ _
   refine fin_sV ?_
   refine fin_sV ?_
   refine fin_sV ?_
   refine fin_sV ?_
   refine fin_p ?_; intro _ _
   refine fin_p ?_; rintro vR hR9; have hcovC := @hcov7; obtain ⟨aR, cR, fR, rfl, hwR, hxR⟩ := hR9.here
   refine fin_nil ?_
   have HR : Held w0 (_ ++ Kk) (fun W2 => RHeld w0.heap.size S W2 ⟨num, false, zt + (i : Int), yt + (i : Int), zt + (i : Int) + 1, aR, cR, [yt + (i : Int) + 1, ws.getD (ws.length - 2 - i) 0], fR, oneX S⟩) := fun h2 hk => (RHeld.agree (r := ⟨num, false, zt + (i : Int), yt + (i : Int), zt + (i : Int) + 1, aR, cR, [yt + (i : Int) + 1, ws.getD (ws.length - 2 - i) 0], fR, oneX S⟩) ⟨hwR, hxR⟩ (sameX_agree9 (hcovC h2 (fun q hq => hk q (List.mem_append_left _ hq))) (fun b h1 hx => by have h3 := xb_lt9 hS7 hx; omega))).mono hszN
   refine op_callX (vs := [_, _, _, _]) goes_73 rfl (shPut_is sf f0 sq (zt + ((rwl - 2 : Nat) : Int)) (yt + ((rwl - 2 : Nat) : Int)) u1 u2 u3 (n + ns.length) (xs1 ++ ns.flatMap ten9) (xs2 ++ ns.map (fun r => Value.int .i64 r.num)) (xs3 ++ ns.map (fun r => Value.bool r.first)) B _ _ w0 num false (zt + (i : Int)) (yt + (i : Int)) (zt + (i : Int) + 1) aR ([yt + (i : Int) + 1, ws.getD (ws.length - 2 - i) 0]).length cR fR _ (hS.perm (List.Perm.swap _ _ _)) (by omega)) rfl ?_
   rintro e W9 ⟨w1, w2, w3, rfl, hS9⟩
   refine ⟨_, rfl, ?_⟩
   clear hS; have hS := hS9.perm (List.Perm.swap _ _ _); clear hS9
   refine endF ?_
   refine XF.blkN ?_
   refine XF.thenN ?_
   refine regF ?_
   refine op_add rfl rfl (IntWalk.i64_in _ (by omega)) rfl ?_
   refine op_move rfl rfl ?_
   refine endF ?_
   exact XF.round ((rwl - 3) - (i + 1)) [(0, _), (1, _), (5, _), (6, _), (7, _), (8, _), (98, _), (99, _)] (by omega) ⟨rfl, rfl, rfl, rfl, rfl, rfl, rfl, rfl, trivial⟩ ⟨i + 1, w1, w2, w3, _, ns ++ [⟨num, false, zt + (i : Int), yt + (i : Int), zt + (i : Int) + 1, aR, cR, [yt + (i : Int) + 1, ws.getD (ws.length - 2 - i) 0], fR, oneX S⟩], by omega, rfl, rfl, by rw [List.map_append, hns, List.range_succ, List.map_append]; rfl, fun q hq => List.mem_append_right _ (hsub q hq), fun h2 hk r hr => by
     rcases List.mem_append.1 hr with hr | hr
     ·exact HN h2 (fun q hq => hk q (List.mem_append_right _ hq)) r hr
     ·simp at hr; subst hr; exact HR h2 hk, hS.castG (by simp [Nat.add_assoc])⟩
  ·have hc100 := of_decide_eq_false hc; clear hc
   obtain rfl : i = rwl - 3 := by omega
   have hnl : ns.length = rwl - 3 + 1 := by have := congrArg List.length hns; simpa using this
   have k13a : w0.cell? ⟨wb, wo, none⟩ = some (.int .i64 (ws.getD 0 0)) := hcell 0 (by omega)
   have k13b : w0.cell? ⟨wb, wo + 1, none⟩ = some (.int .i64 (ws.getD 1 0)) := hcell 1 (by omega)
   refine exitF ?_
   refine XF.thenX ?_
   refine XF.thenX ?_
   refine XF.blkX ?_
   refine XF.thenN ?_
   have hS7 := hS
   have hszN := hS.below.size
   refine regY (al := []) (G := fun _ => [⟨u1, n + ns.length, xs1 ++ ns.flatMap ten9, 56, 10⟩, ⟨u2, n + ns.length, xs2 ++ ns.map (fun r => Value.int .i64 r.num), 3, 1⟩, ⟨u3, n + ns.length, xs3 ++ ns.map (fun r => Value.bool r.first), 4, 1⟩]) (E := []) (k := 27) (ds := [162]) followsM rfl hS rfl rfl (by kernel_rfl) (by kernel_rfl) rfl (by decide) rfl ?_
   refine bly_cons 1 rfl (isV _) (syV fst_take [(0, _)] rfl rfl (fun _ => (w_free rfl)) (fun _ => ⟨g_fr (by kernel_rfl) rfl, trivial⟩) (fun s w hw => rn_move rfl) (at_top rfl)) ?_
   refine bly_cons 2 rfl (isV _) (syV fst_take [(1, _)] rfl rfl (fun _ => (w_free rfl)) (fun _ => ⟨g_fr (by kernel_rfl) rfl, trivial⟩) (fun s w hw => rn_move rfl) (at_top rfl)) ?_
   refine bly_cons 3 rfl (isV _) (syV fst_take [(7, _)] rfl rfl (fun _ => (w_free rfl)) (fun _ => ⟨g_fr (by kernel_rfl) rfl, trivial⟩) (fun s w hw => rn_move rfl) (at_top rfl)) ?_
   refine bly_cons 4 rfl (isV _) (syV fst_take [(6, _)] rfl rfl (fun _ => (w_free rfl)) (fun _ => ⟨g_fr (by kernel_rfl) rfl, trivial⟩) (fun s w hw => rn_move rfl) (at_top rfl)) ?_
   refine bly_cons 5 rfl (isV _) (syV fst_take [(137, _), (138, _)] rfl rfl (fun _ => (w_free rfl)) (fun _ => ⟨g_dep 2 (by kernel_rfl) (at_n rfl rfl (at_dep rfl rfl rfl)), g_dep 3 (by kernel_rfl) (at_n rfl rfl (at_dep rfl rfl rfl)), trivial⟩) (fun s w hw => rn_add rfl rfl (IntWalk.i64_in _ (by omega))) (at_top rfl)) ?_
   refine bly_cons 6 rfl (isV _) (syV fst_take [(139, _)] rfl rfl (fun _ => (w_free rfl)) (fun _ => ⟨g_dep 4 (by kernel_rfl) (at_n rfl rfl (at_dep rfl rfl rfl)), trivial⟩) (fun s w hw => rn_sub rfl rfl (IntWalk.i64_in _ (by omega))) (at_top rfl)) ?_
   refine bly_cons 7 rfl (isV _) (syV fst_take [(8, _)] rfl rfl (fun _ => (w_free rfl)) (fun _ => ⟨g_fr (by kernel_rfl) rfl, trivial⟩) (fun s w hw => rn_move rfl) (at_top rfl)) ?_
   refine bly_cons 8 rfl (isV _) (syV fst_take [(6, _)] rfl rfl (fun _ => (w_free rfl)) (fun _ => ⟨g_fr (by kernel_rfl) rfl, trivial⟩) (fun s w hw => rn_move rfl) (at_top rfl)) ?_
   refine bly_cons 9 rfl (isV _) (syV fst_take [(141, _), (142, _)] rfl rfl (fun _ => (w_free rfl)) (fun _ => ⟨g_dep 6 (by kernel_rfl) (at_n rfl rfl (at_dep rfl rfl rfl)), g_dep 7 (by kernel_rfl) (at_n rfl rfl (at_dep rfl rfl rfl)), trivial⟩) (fun s w hw => rn_add rfl rfl (IntWalk.i64_in _ (by omega))) (at_top rfl)) ?_
   refine bly_cons 10 rfl (isV _) (syV fst_take [(143, _)] rfl rfl (fun _ => (w_free rfl)) (fun _ => ⟨g_dep 8 (by kernel_rfl) (at_n rfl rfl (at_dep rfl rfl rfl)), trivial⟩) (fun s w hw => rn_sub rfl rfl (IntWalk.i64_in _ (by omega))) (at_top rfl)) ?_
   refine bly_cons 11 rfl (isV _) (syV fst_take [(5, _)] rfl rfl (fun _ => (w_free rfl)) (fun _ => ⟨g_fr (by kernel_rfl) rfl, trivial⟩) (fun s w hw => rn_field (o' := 2) fa_56_2 rfl rfl) (at_top rfl)) ?_
   refine bly_cons 12 rfl (isV _) (syV fst_take [(145, _)] rfl rfl (fun _ => (w_free rfl)) (fun _ => ⟨g_dep 10 (by kernel_rfl) (at_n rfl rfl (at_dep rfl rfl rfl)), trivial⟩) (fun s w hw => rn_load Try.isAgg3 rfl ((cell_own (hw.at_ 0 rfl) rfl))) (at_top rfl)) ?_
   refine bly_cons 13 rfl (isV _) (syV fst_take [(5, _)] rfl rfl (fun _ => (w_free rfl)) (fun _ => ⟨g_fr (by kernel_rfl) rfl, trivial⟩) (fun s w hw => rn_field (o' := 3) fa_56_3 rfl rfl) (at_top rfl)) ?_
   refine bly_cons 14 rfl (isV _) (syV fst_take [(147, _)] rfl rfl (fun _ => (w_free rfl)) (fun _ => ⟨g_dep 12 (by kernel_rfl) (at_n rfl rfl (at_dep rfl rfl rfl)), trivial⟩) (fun s w hw => rn_load Try.isAgg30 rfl ((cell_own (hw.at_ 0 rfl) rfl))) (at_top rfl)) ?_
   refine bly_cons 15 rfl (isV _) (syV fst_take [(148, _)] rfl rfl (fun _ => (w_free rfl)) (fun _ => ⟨g_dep 13 (by kernel_rfl) (at_n rfl rfl (at_dep rfl rfl rfl)), trivial⟩) (fun s w hw => rn_indexA (j := 0) Try.underlying30 Try.sizeOf3 rfl rfl rfl (by omega) (Nat.add_zero _)) (at_top rfl)) ?_
   refine bly_cons 16 rfl (isV _) (syV fst_take [(149, _)] rfl rfl (fun _ => (w_free rfl)) (fun _ => ⟨g_dep 14 (by kernel_rfl) (at_n rfl rfl (at_dep rfl rfl rfl)), trivial⟩) (fun s w hw => rn_load Try.isAgg3 rfl (hw.agree.cell (Nat.zero_le _) (k13a))) (at_top rfl)) ?_
   refine bly_cons 17 rfl (isV _) (syV fst_take [(5, _)] rfl rfl (fun _ => (w_free rfl)) (fun _ => ⟨g_fr (by kernel_rfl) rfl, trivial⟩) (fun s w hw => rn_field (o' := 3) fa_56_3 rfl rfl) (at_top rfl)) ?_
   refine bly_cons 18 rfl (isV _) (syV fst_take [(151, _)] rfl rfl (fun _ => (w_free rfl)) (fun _ => ⟨g_dep 16 (by kernel_rfl) (at_n rfl rfl (at_dep rfl rfl rfl)), trivial⟩) (fun s w hw => rn_load Try.isAgg30 rfl ((cell_own (hw.at_ 0 rfl) rfl))) (at_top rfl)) ?_
   refine bly_cons 19 rfl (isV _) (syV fst_take [(152, _)] rfl rfl (fun _ => (w_free rfl)) (fun _ => ⟨g_dep 17 (by kernel_rfl) (at_n rfl rfl (at_dep rfl rfl rfl)), trivial⟩) (fun s w hw => rn_indexA (j := 1) Try.underlying30 Try.sizeOf3 rfl rfl rfl (by omega) rfl) (at_top rfl)) ?_
   refine bly_cons 20 rfl (isV _) (syV fst_take [(153, _)] rfl rfl (fun _ => (w_free rfl)) (fun _ => ⟨g_dep 18 (by kernel_rfl) (at_n rfl rfl (at_dep rfl rfl rfl)), trivial⟩) (fun s w hw => rn_load Try.isAgg3 rfl (hw.agree.cell (Nat.zero_le _) (k13b))) (at_top rfl)) ?_
   refine bly_cons 21 rfl (isRow W.heap.size 2 3 _) (sy_rowV fst_take (us := [.int .i64 _, .int .i64 _]) rfl rfl (fun _ => (w_free rfl)) Try.underlying30 Try.sizeOf3 Try.zeroValue3 rfl rfl (fun _ => ⟨p_tmp (g_dep 15 (by kernel_rfl) (at_n rfl rfl (at_dep rfl rfl rfl))), p_tmp (g_dep 19 (by kernel_rfl) (at_n rfl rfl (at_dep rfl rfl rfl))), trivial⟩) (bs_30_2 _ _) (at_top rfl)) ?_
   refine bly_cons 22 rfl (isV _) (syV fst_take [(0, _)] rfl rfl (fun _ => (w_free rfl)) (fun _ => ⟨g_fr (by kernel_rfl) rfl, trivial⟩) (fun s w hw => rn_move rfl) (at_top rfl)) ?_
   refine bly_cons 23 rfl (isV _) (syV fst_take [(156, _)] rfl rfl (fun _ => (w_free rfl)) (fun _ => ⟨g_dep 21 (by kernel_rfl) (at_n rfl rfl (at_dep rfl rfl rfl)), trivial⟩) (fun s w hw => rn_nilCheck rfl) (at_top rfl)) ?_
   refine bly_cons 24 rfl (isV _) (syV fst_take [(157, _)] rfl rfl (fun _ => (w_free rfl)) (fun _ => ⟨g_dep 22 (by kernel_rfl) (at_n rfl rfl (at_dep rfl rfl rfl)), trivial⟩) (fun s w hw => rn_field (o' := 0) fa_101_0 rfl rfl) (at_top rfl)) ?_
   refine bly_cons 25 rfl (isV _) (syV fst_take [(158, _)] rfl rfl (fun _ => (w_free rfl)) (fun _ => ⟨g_dep 23 (by kernel_rfl) (at_n rfl rfl (at_dep rfl rfl rfl)), trivial⟩) (fun s w hw => rn_loadA (vs := [_, _, _, _, _, _, _, _, _]) Try.isAgg98 Try.sizeOf98 rfl ((CellsAt.own (j := 0) (m := 9) (hw.at_ 1 rfl) rfl))) (at_top rfl)) ?_
   refine bly_cons 26 rfl (isNew W.heap.size S (oneX S)) (sy_call fst_take (fun s => [isV _]) rfl rfl goes_76 (fun _ => w_free rfl) (fun s => ⟨p_tmp (g_dep 24 (by kernel_rfl) (at_n rfl rfl (at_dep rfl rfl rfl))), trivial⟩) (fun vs s0 w' hk hw hlo hh => by have e := holds_isV (us := [_]) hh; subst e; exact wret_gN hlo (ringOne_is S sf f0 w' (hs.below hw.below) hok)) (at_top rfl)) ?_
   refine bly_cons 27 rfl (isRuleN W.heap.size S (zt + (rwl : Int) - 3) (yt + (rwl : Int) - 3) (rq) [ws.getD 0 0, ws.getD 1 0] (oneX S)) (syPs [(5, 140, isV _), (9, 144, isV _), (11, 146, isV _), (20, 155, isRow W.heap.size 2 3 [.int .i64 (ws.getD 0 0), .int .i64 (ws.getD 1 0)]), (25, 160, isNew W.heap.size S (oneX S))] rfl rfl ⟨⟨by kernel_rfl, at_dep rfl rfl rfl⟩, ⟨by kernel_rfl, at_dep rfl rfl rfl⟩, ⟨by kernel_rfl, at_dep rfl rfl rfl⟩, ⟨by kernel_rfl, at_dep rfl rfl rfl⟩, ⟨by kernel_rfl, at_dep rfl rfl rfl⟩, trivial⟩ (bld_rule9 (fun _ _ h => row_cl9 h)) (at_top rfl)) ?_
   refine bly_nil ?_
   intro s8 W8 Ks8 hall8 hsz8 hKs8 hS' hcov8 hfx8 hno8
   clear hS; have hS := hS'.castO (O' := (_ :: _ :: Ot)) rfl; clear hS'
   refine castL (L' := [AwS _ _ (isV _), AwS _ _ (isV _), AwS _ _ (isV _), AwS _ _ (isV _), AwS _ _ (isV _), AwS _ _ (isV _), AwS _ _ (isV _), AwS _ _ (isV _), AwS _ _ (isV _), AwS _ _ (isV _), AwS _ _ (isV _), AwS _ _ (isV _), AwS _ _ (isV _), AwS _ _ (isV _), AwS _ _ (isV _), AwS _ _ (isV _), AwS _ _ (isV _), AwS _ _ (isV _), AwS _ _ (isV _), AwS _ _ (isV _), AwS _ _ (isRow W.heap.size 2 3 _), AwS _ _ (isV _), AwS _ _ (isV _), AwS _ _ (isV _), AwS _ _ (isV _), AwS _ _ (isNew W.heap.size S (oneX S)), AwS _ _ (isRuleN W.heap.size S (zt + (rwl : Int) - 3) (yt + (rwl : Int) - 3) (rq) [ws.getD 0 0, ws.getD 1 0] (oneX S))]) rfl ?_
   refine fin_sV ?_
   refine fin_sV ?_
   refine fin_sV ?_
   refine fin_sV ?_
   refine fin_sV ?_
   refine fin_sV ?_
   refine fin_sV ?_
   refine fin_sV ?_
   refine fin_sV ?_
   refine fin_sV ?_
   refine fin_sV ?_
   refine fin_sV ?_
   refine fin_sV ?_
   refine fin_sV ?_
   refine fin_sV ?_
   refine fin_sV ?_
   refine fin_sV ?_
   refine fin_sV ?_
   refine fin_sV ?_
   refine fin_sV ?_
   refine fin_p ?_; intro _ _
   refine fin_sV ?_
   refine fin_sV ?_
   refine fin_sV ?_
   refine fin_sV ?_
   refine fin_p ?_; intro _ _
   refine fin_p ?_; rintro vR hR9; have hcovC := @hcov8; obtain ⟨aR, cR, fR, rfl, hwR, hxR⟩ := hR9.here
   refine fin_nil ?_
   have HR : Held w0 (_ ++ Kk) (fun W2 => RHeld w0.heap.size S W2 ⟨num, false, zt + (rwl : Int) - 3, yt + (rwl : Int) - 3, rq, aR, cR, [ws.getD 0 0, ws.getD 1 0], fR, oneX S⟩) := fun h2 hk => (RHeld.agree (r := ⟨num, false, zt + (rwl : Int) - 3, yt + (rwl : Int) - 3, rq, aR, cR, [ws.getD 0 0, ws.getD 1 0], fR, oneX S⟩) ⟨hwR, hxR⟩ (sameX_agree9 (hcovC h2 (fun q hq => hk q (List.mem_append_left _ hq))) (fun b h1 hx => by have h3 := xb_lt9 hS7 hx; omega))).mono hszN
   refine op_callX (vs := [_, _, _, _]) goes_73 rfl (shPut_is sf f0 sq (zt + ((rwl - 2 : Nat) : Int)) (yt + ((rwl - 2 : Nat) : Int)) u1 u2 u3 (n + ns.length) (xs1 ++ ns.flatMap ten9) (xs2 ++ ns.map (fun r => Value.int .i64 r.num)) (xs3 ++ ns.map (fun r => Value.bool r.first)) B _ _ w0 num false (zt + (rwl : Int) - 3) (yt + (rwl : Int) - 3) (rq) aR ([ws.getD 0 0, ws.getD 1 0]).length cR fR _ (hS.perm (List.Perm.swap _ _ _)) (by omega)) rfl ?_
   rintro e W9 ⟨w1, w2, w3, rfl, hS9⟩
   refine ⟨_, rfl, ?_⟩
   clear hS; have hS := hS9.perm (List.Perm.swap _ _ _); clear hS9
   refine endF ?_
   refine XF.resN (res0 Try.results43) ?_
   refine ⟨w1, w2, w3, _, ns ++ [⟨num, false, zt + (rwl : Int) - 3, yt + (rwl : Int) - 3, rq, aR, cR, [ws.getD 0 0, ws.getD 1 0], fR, oneX S⟩], rfl, ?_, fun q hq => List.mem_append_right _ (hsub q hq), fun h2 hk r hr => ?_, hS.tail.castG (by simp [Nat.add_assoc])⟩
   ·rw [List.map_append, hns]
    unfold partsF
    rw [if_neg (by omega), ← hlen]
    simp only [List.map_cons, List.map_nil, List.cons_append]
    rw [show zt + ((ws.length - 3 : Nat) : Int) = zt + (ws.length : Int) - 3 by omega, show yt + ((ws.length - 3 : Nat) : Int) = yt + (ws.length : Int) - 3 by omega]
   ·rcases List.mem_append.1 hr with hr | hr
    ·exact HN h2 (fun q hq => hk q (List.mem_append_right _ hq)) r hr
    ·simp at hr; subst hr; exact HR h2 hk
end Go.Proofs.Ytnhnedifekejpaa
namespace Go.Proofs.Ytnhnedifekejpaa
open Go Go.RowKit
abbrev z8 : List Value := [.int .i64 0, .int .i64 0, .slice none 0 0, .int .i64 0, .int .i64 0, .slice none 0 0, .slice none 0 0, .slice none 0 0]
def tooMany (p : PV) : Bool := decide (4096 < p.st + (moreF p.rs : Int)) || (decide (4096 < p.sy + (moreF p.rs : Int)) || decide (16384 < (p.rl : Int) + (moreF p.rs : Int)))
def SpFar (lo : Nat) (S : PS) (s2 : SF) (W : World) : Prop := ∀ W3, Agree lo W W3 → SIs W3 S s2
structure ShortOk (p : PV) (S : PS) (px : RV → PX) (w w' : World) (s2 : SF) (v1 v2 v3 : Value) (ns : List R9) : Prop where
 pds : PdsOk w S px p
 few : tooMany p = false
 pl : ns.map R9.pl = shortF (oneX S) px p.rs 0 p.st p.sy
 space : SpFar w.heap.size S s2 w'
 rules : ∀ r ∈ ns, RHeld w.heap.size S w' r
 r1 : w'.ownsRow w.heap.size 56 10 v1 ns.length (ns.flatMap ten9)
 r2 : w'.ownsRow w.heap.size 3 1 v2 ns.length (ns.map (fun r => Value.int .i64 r.num))
 r3 : w'.ownsRow w.heap.size 4 1 v3 ns.length (ns.map (fun r => Value.bool r.first))
abbrev shortV (p : PV) (s2 : SF) (v1 v2 v3 : Value) : List Value := [.int .i64 s2.tag, .int .i64 s2.dim, .slice s2.a s2.len s2.cap, .int .i64 (p.st + (moreF p.rs : Int)), .int .i64 (p.sy + (moreF p.rs : Int)), v1, v2, v3]
def ShortRet (p : PV) (w : World) (e : Ending) (w' : World) : Prop := Below w.heap.size w w' ∧ ((pdsE p ≠ 0 ∧ e = .returned (.tuple #[.agg z8.toArray, .int .i64 (pdsE p)])) ∨ (pdsE p = 0 ∧ tooMany p = true ∧ e = .returned (.tuple #[.agg z8.toArray, .int .i64 3])) ∨ (pdsE p = 0 ∧ ∃ S px s2 v1 v2 v3 ns, ShortOk p S px w w' s2 v1 v2 v3 ns ∧ e = .returned (.tuple #[.agg (shortV p s2 v1 v2 v3).toArray, .int .i64 0])))
theorem shortRet_bad {p : PV} {w w' : World} (h : pdsE p ≠ 0) (hb : Below w.heap.size w w') : ShortRet p w (.returned (.tuple #[.agg z8.toArray, .int .i64 (pdsE p)])) w' := ⟨hb, .inl ⟨h, rfl⟩⟩
theorem shortRet_many {p : PV} {w w' : World} (h : pdsE p = 0) (h2 : tooMany p = true) (hb : Below w.heap.size w w') : ShortRet p w (.returned (.tuple #[.agg z8.toArray, .int .i64 3])) w' := ⟨hb, .inr (.inl ⟨h, h2, rfl⟩)⟩
theorem shortRet_ok {p : PV} {S : PS} {px : RV → PX} {w w' : World} {s2 : SF} {v1 v2 v3 : Value} {ns : List R9} (h : ShortOk p S px w w' s2 v1 v2 v3 ns) (hb : Below w.heap.size w w') : ShortRet p w (.returned (.tuple #[.agg (shortV p s2 v1 v2 v3).toArray, .int .i64 0])) w' := ⟨hb, .inr (.inr ⟨h.pds.chk, S, px, s2, v1, v2, v3, ns, h, rfl⟩)⟩
def isSpN (lo : Nat) (S : PS) : Asr := fun v w => ∃ s2 : SF, v = s2.val ∧ ∀ W2, Agree lo w W2 → SIs W2 S s2
theorem copySp_is (S : PS) (sf : SF) (w : World) (hs : SIs w S sf) {lo : Nat} (hlo : lo ≤ w.heap.size) : Calls Try.prog 42 #[sf.val] w (GivesN (isSpN lo S) w) := by
 cases S with
 | one t n =>
  obtain ⟨a, c, rfl⟩ := hs
  refine (copySpace1 t n a c w).mono fun e w' ⟨he, hb⟩ => ⟨_, he, fun w3 hg => ⟨⟨t, n, none, 0, 0⟩, rfl, fun W2 h2 => ⟨none, 0, rfl⟩⟩, hb⟩
 | two t n u m =>
  obtain ⟨b, off, c, a1, c1, a2, c2, rfl, h1, h2⟩ := hs
  refine (copySpace2 5 0 (some ⟨b, off, none⟩) 2 c [⟨t, n, a1, 0, c1⟩, ⟨u, m, a2, 0, c2⟩] w (fun i q hq => ?_) rfl (fun q hq => ?_) (Nat.le_refl _)).mono ?_
  ·match i, hq with
   | 0, hq => cases hq; exact ⟨b, off, rfl, by rw [Nat.zero_mul, Nat.add_zero]; exact h1⟩
   | 1, hq => cases hq; exact ⟨b, off, rfl, by rw [Nat.one_mul]; exact h2⟩
   | i + 2, hq => simp at hq
  ·simp at hq; rcases hq with rfl | rfl <;> rfl
  ·rintro e w' ⟨v, he, hr, hb⟩
   refine ⟨_, he, fun w3 hg => ?_, hb⟩
   obtain ⟨b9, c9, rfl, _⟩ := ownsRow_at hr (by omega)
   refine ⟨⟨5, 0, some ⟨b9, 0, none⟩, 2, c9⟩, rfl, fun W2 h3 => ?_⟩
   have h4 := ownsRow_agree (ownsRow_base (ownsRow_agree hr hg) hlo) h3
   have hc : ∀ (j : Nat) x, ([SF.mk t n a1 0 c1, ⟨u, m, a2, 0, c2⟩].flatMap bare3)[j]? = some x → W2.cell? ⟨b9, j, none⟩ = some x := fun j x hj => ownsRow_blk h4 hj
   exact ⟨b9, 0, c9, none, 0, none, 0, rfl, ⟨hc 0 _ rfl, hc 1 _ rfl, hc 2 _ rfl⟩, ⟨hc 3 _ rfl, hc 4 _ rfl, hc 5 _ rfl⟩⟩
theorem moreF_bound {p : PV} {w : World} {S : PS} {px : RV → PX} (h : PdsOk w S px p) (hl : p.rs.length = p.rl) : moreF p.rs ≤ 67108864 := by
 have h1 := moreF_le (rs := p.rs) (m := 4096) h.w4
 have h2 := h.rl
 have h3 : p.rs.length * 4096 ≤ 16384 * 4096 := Nat.mul_le_mul_right _ (by omega)
 omega
theorem tooMany_of {p : PV} (h : 4096 < p.st + (moreF p.rs : Int) ∨ 4096 < p.sy + (moreF p.rs : Int) ∨ 16384 < (p.rl : Int) + (moreF p.rs : Int)) : tooMany p = true := by
 unfold tooMany
 simp only [Bool.or_eq_true, decide_eq_true_eq]; omega
theorem tooMany_no {p : PV} (h1 : ¬ 4096 < p.st + (moreF p.rs : Int)) (h2 : ¬ 4096 < p.sy + (moreF p.rs : Int)) (h3 : ¬ 16384 < (p.rl : Int) + (moreF p.rs : Int)) : tooMany p = false := by
 unfold tooMany
 simp only [Bool.or_eq_false_iff, decide_eq_false_iff_not]; omega
theorem shortF_len {one : PX} {px : RV → PX} : ∀ {rs : List RV} {i : Nat} {z y : Int}, (∀ r ∈ rs, r.ws.length = r.wl) → (shortF one px rs i z y).length = rs.length + moreF rs
 | [], _, _, _, _ => rfl
 | r :: rs, i, z, y, h => by
  simp only [shortF, List.length_append, List.length_cons, partsF_len, moreF_cons]
  rw [shortF_len (fun x hx => h x (List.mem_cons_of_mem _ hx)), h r List.mem_cons_self]
  omega
end Go.Proofs.Ytnhnedifekejpaa
namespace Go.Proofs.Ytnhnedifekejpaa
open Go Go.RowKit
theorem bld_101_0 (v00 : Value) (v01 : Value) (v02 : Value) (v03 : Value) (v04 : Value) (v05 : Value) (v06 : Value) (v07 : Value) (v08 : Value) : Try.prog.built 101 [(0, .agg #[v00, v01, v02, v03, v04, v05, v06, v07, v08])] = some #[v00, v01, v02, v03, v04, v05, v06, v07, v08, .int .i64 0, .int .i64 0, .slice none 0 0, .int .i64 0, .int .i64 0, .slice none 0 0, .slice none 0 0, .slice none 0 0] := by kernel_rfl
theorem bld_28_0_1_2 (v00 : Value) (v01 : Value) (v02 : Value) (v1 : Int) (v2 : Int) : Try.prog.built 28 [(0, .agg #[v00, v01, v02]), (1, .int .i64 v1), (2, .int .i64 v2)] = some #[v00, v01, v02, .int .i64 v1, .int .i64 v2, .slice none 0 0] := by kernel_rfl
theorem bld_40 : Try.prog.built 40 [] = some #[.int .i64 0, .int .i64 0, .slice none 0 0, .int .i64 0, .int .i64 0, .slice none 0 0, .slice none 0 0, .slice none 0 0] := by kernel_rfl
theorem goes_43 : goesIn Try.prog 43 = true := by kernel_rfl
theorem shortA_c (ds d : Nat) (s : SV) (st sy : Int) (ra : Option Addr) (rl rc : Nat) (rs : List RV) (w : World) (hs : SIn w ds s) (hprow : RRow w ra rs) (hplen : rs.length = rl) (hin : ∀ r ∈ rs, RIn w d r) (ht : Tabs w) :
  Calls Try.prog 13 #[.agg #[.int .i64 s.f.tag, .int .i64 s.f.dim, .slice s.f.a s.f.len s.f.cap, .int .i64 st, .int .i64 sy, .slice ra rl rc]] w (ShortRet ⟨s, st, sy, ra, rl, rc, rs⟩ w) := by
 refine enterF (args := [.agg #[.int .i64 s.f.tag, .int .i64 s.f.dim, .slice s.f.a s.f.len s.f.cap, .int .i64 st, .int .i64 sy, .slice ra rl rc]]) Try.func13 rfl Try.ntmps13 rfl ?_
 have hS := St.start w
 refine seqF (regF ?_)
 refine op_box (cs := [_, _, _, _, _, _]) hS rfl rfl rfl ?_
 clear hS; intro B1 W1 hS
 refine op_alloc (cs := [_, _, _, _, _, _, _, _]) hS Try.zeroValue40 rfl rfl ?_
 clear hS; intro B2 W2 hS
 refine op_assign rfl rfl ?_
 refine endF (XF.thenN ?_)
 refine seqF ?_
 refine seqF (regF ?_)
 refine op_loadA (vs := [_, _, _, _, _, _]) Try.isAgg28 Try.sizeOf28 rfl (CellsAt.own (j := 0) (m := 6) (hS.at_ 1 rfl) rfl) rfl ?_
 refine op_call (vs := [_]) hS goes_36 rfl (pdsA_is ds d ⟨s, st, sy, ra, rl, rc, rs⟩ _ (PvIn.below ⟨hs, hprow, hplen, hin⟩ hS.below)) rfl ?_
 rintro e W3 ⟨rfl, hb⟩
 refine ⟨_, rfl, hb, fun hS' => ?_⟩
 clear hS; have hS := hS'; clear hS' hb
 refine op_assign rfl rfl ?_
 refine endF (XF.thenN ?_)
 refine seqF (regF ?_)
 refine op_move rfl rfl ?_
 refine op_neq rfl rfl rfl ?_
 refine endF (XF.thenN ?_)
 refine condF rfl (fun hc => ?_) (fun hc => ?_)
 ·have hc14 := of_decide_eq_true hc; clear hc
  refine seqF (regF ?_)
  refine op_build (us := []) rfl (bld_40) rfl ?_
  refine op_move rfl rfl ?_
  refine op_storeA (i := 0) (vs := [_, _, _, _, _, _, _, _]) (cs' := [_, _, _, _, _, _, _, _]) (O' := [_, _]) hS Try.sizeOf40 rfl rfl (by first | rfl | (have h0 := hS.oneV 0 _ rfl; have h1 := hS.oneV 1 _ rfl; have h2 := hS.oneV 2 _ rfl; simp only [List.all_cons, List.all_nil, Bool.and_true, Bool.and_eq_true]; exact ⟨rfl, rfl, rfl, rfl, rfl, h0, h1, h2⟩)) rfl rfl rfl rfl ?_
  clear hS; intro W4 hS
  refine op_assign rfl rfl ?_
  refine endF (XF.thenN ?_)
  refine retF ?_
  refine XF.thenR ?_
  refine XF.res (resCT (vs := [_, _, _, _, _, _, _, _]) Try.results13 Try.isAgg40 Try.sizeOf40 rfl (CellsAt.own (j := 0) (m := 8) (hS.at_ 0 rfl) rfl) rfl) ?_
  exact shortRet_bad hc14 hS.below
 ·have hc14 := of_decide_eq_false hc; clear hc
  have hE : pdsE ⟨s, st, sy, ra, rl, rc, rs⟩ = 0 := Decidable.of_not_not hc14
  obtain ⟨S, px, hok⟩ := pdsOk_of (ds := ds) (d := d) (p := ⟨s, st, sy, ra, rl, rc, rs⟩) ⟨hs, hprow, hplen, hin⟩ hE
  have hmo := moreF_bound hok hplen
  have hrl : rl ≤ 16384 := hok.rl
  have hst : 0 ≤ st ∧ st ≤ 4096 := hok.st
  have hsy : 0 ≤ sy ∧ sy ≤ 4096 := hok.sy
  have hmo : moreF rs ≤ 67108864 := hmo
  refine skipF ?_
  refine XF.thenN ?_
  refine seqF (regF ?_)
  refine op_assign rfl rfl ?_
  refine endF (XF.thenN ?_)
  refine seqF ?_
  refine seqF (regF ?_)
  refine op_field (o' := 5) fa_28_3 rfl rfl rfl ?_
  refine op_load Try.isAgg26 rfl (cell_own (hS.at_ 1 rfl) rfl) rfl ?_
  refine op_len Try.underlying26 rfl rfl ?_
  refine op_move rfl rfl ?_
  refine endF (XF.thenN ?_)
  refine blockF ?_
  refine loopF (fun m l W => ∃ i : Nat, i ≤ rl ∧ m = rl - i ∧ l = [(1, .pointer (some ⟨B1, 0, none⟩)), (2, .pointer (some ⟨B2, 0, none⟩)), (3, .int .i64 0), (5, .int .i64 (moreF (rs.take i) : Int)), (18, .slice ra rl rc), (19, .int .i64 (rl : Int)), (20, .int .i64 (i : Int))] ∧ St w [(B2, z8, 40), (B1, [.int .i64 s.f.tag, .int .i64 s.f.dim, .slice s.f.a s.f.len s.f.cap, .int .i64 st, .int .i64 sy, .slice ra rl rc], 28)] [] [] W) (rl - 0) ([(1, _), (2, _), (3, _), (5, _), (18, _), (19, _), (20, _)]) ⟨rfl, rfl, rfl, rfl, rfl, rfl, rfl, trivial⟩ (⟨0, Nat.zero_le _, rfl, rfl, hS.clear⟩) ?_
  clear hS
  rintro m l W ⟨i, hi, rfl, rfl, hS⟩
  refine seqF (regF ?_)
  refine op_lss rfl rfl rfl ?_
  refine endF (XF.thenN ?_)
  refine seqF ?_
  refine condF rfl (fun hc => ?_) (fun hc => ?_)
  ·have hc21 := of_decide_eq_true hc; clear hc
   have hk : i < rl := by omega
   obtain ⟨r, hr⟩ : ∃ r, rs[i]? = some r := ⟨rs[i]'(by omega), by simp [show i < rs.length by omega]⟩
   obtain ⟨b, off, rfl, hcs⟩ := hprow.at_ hr
   have k1 := CellsAt.agree hS.agree (Nat.zero_le _) hcs
   have hri := hin r (List.mem_of_getElem? hr)
   have hr4 : r.wl ≤ 4096 := hok.w4 r (List.mem_of_getElem? hr)
   have hmt := moreF_take_le (rs := rs) (i := i)
   refine skipF ?_
   refine XF.thenN ?_
   refine seqF ?_
   refine blockF ?_
   refine seqF (regF ?_)
   refine op_indexA  Try.underlying26 Try.sizeOf56 rfl rfl rfl (by omega) rfl rfl ?_
   refine op_loadA (vs := [_, _, _, _, _, _, _, _, _, _]) Try.isAgg56 Try.sizeOf56 rfl (k1) rfl ?_
   refine op_alloc (cs := [_, _, _, _, _, _, _, _, _, _]) hS Try.zeroValue56 rfl rfl ?_
   clear hS; intro B5 W5 hS
   refine op_storeA (i := 0) (vs := [_, _, _, _, _, _, _, _, _, _]) (cs' := [_, _, _, _, _, _, _, _, _, _]) (O' := [_, _, _]) hS Try.sizeOf56 rfl rfl (by first | rfl | (have h0 := hS.oneV 0 _ rfl; have h1 := hS.oneV 1 _ rfl; have h2 := hS.oneV 2 _ rfl; simp only [List.all_cons, List.all_nil, Bool.and_true, Bool.and_eq_true]; exact ⟨rfl, rfl, rfl, rfl, rfl, h0, h1, h2⟩)) rfl rfl rfl rfl ?_
   clear hS; intro W6 hS
   refine endF (XF.thenN ?_)
   refine regF ?_
   refine op_move rfl rfl ?_
   refine op_field (o' := 3) fa_56_3 rfl rfl rfl ?_
   refine op_load Try.isAgg30 rfl (cell_own (hS.at_ 0 rfl) rfl) rfl ?_
   refine op_len Try.underlying30 rfl rfl ?_
   refine op_sub rfl rfl (IntWalk.i64_in _ (by omega)) rfl ?_
   refine op_max rfl rfl rfl ?_
   refine op_add rfl rfl (IntWalk.i64_in _ (by omega)) rfl ?_
   refine op_assign rfl rfl ?_
   refine endF ?_
   refine XF.blkN ?_
   refine XF.thenN ?_
   refine regF ?_
   refine op_add rfl rfl (IntWalk.i64_in _ (by omega)) rfl ?_
   refine op_move rfl rfl ?_
   refine endF ?_
   have e9 : (moreF (rs.take i) : Int) + max ((r.wl : Int) - 2) 0 = (moreF (rs.take (i + 1)) : Int) := by rw [moreF_take hr]; omega
   exact XF.round (rl - (i + 1)) [(1, _), (2, _), (3, _), (5, _), (18, _), (19, _), (20, _)] (by omega) ⟨rfl, rfl, rfl, rfl, rfl, rfl, rfl, trivial⟩ ⟨i + 1, by omega, rfl, by rw [← e9]; rfl, hS.tail⟩
  ·have hc21 := of_decide_eq_false hc; clear hc
   rw [List.take_of_length_le (by omega)]
   refine exitF ?_
   refine XF.thenX ?_
   refine XF.thenX ?_
   refine XF.blkX ?_
   refine XF.thenN ?_
   refine seqF ?_
   refine seqF (regF ?_)
   refine op_field (o' := 3) fa_28_1 rfl rfl rfl ?_
   refine op_load Try.isAgg3 rfl (cell_own (hS.at_ 1 rfl) rfl) rfl ?_
   refine op_move rfl rfl ?_
   refine op_add rfl rfl (IntWalk.i64_in _ (by omega)) rfl ?_
   refine op_gtr rfl rfl rfl ?_
   refine op_move rfl rfl ?_
   refine op_cases (d := 37) rfl (fun hc => ?_) (fun hc => ?_)
   ·have hg37 := of_decide_eq_true hc; clear hc
    refine op_notF (d := 37) rfl rfl rfl rfl ?_
    refine op_notF (d := 37) rfl rfl rfl rfl ?_
    refine op_notF (d := 37) rfl rfl rfl rfl ?_
    refine op_notF (d := 37) rfl rfl rfl rfl ?_
    refine op_notF (d := 37) rfl rfl rfl rfl ?_
    refine op_pickT rfl rfl rfl ?_
    refine op_move rfl rfl ?_
    refine op_notF (d := 44) rfl rfl rfl rfl ?_
    refine op_notF (d := 44) rfl rfl rfl rfl ?_
    refine op_notF (d := 44) rfl rfl rfl rfl ?_
    refine op_notF (d := 44) rfl rfl rfl rfl ?_
    refine op_notF (d := 44) rfl rfl rfl rfl ?_
    refine op_notF (d := 44) rfl rfl rfl rfl ?_
    refine op_pickT rfl rfl rfl ?_
    refine endF (XF.thenN ?_)
    refine condT rfl ?_
    refine seqF (regF ?_)
    refine op_build (us := []) rfl (bld_40) rfl ?_
    refine op_storeA (i := 0) (vs := [_, _, _, _, _, _, _, _]) (cs' := [_, _, _, _, _, _, _, _]) (O' := [_, _]) hS Try.sizeOf40 rfl rfl (by first | rfl | (have h0 := hS.oneV 0 _ rfl; have h1 := hS.oneV 1 _ rfl; have h2 := hS.oneV 2 _ rfl; simp only [List.all_cons, List.all_nil, Bool.and_true, Bool.and_eq_true]; exact ⟨rfl, rfl, rfl, rfl, rfl, h0, h1, h2⟩)) rfl rfl rfl rfl ?_
    clear hS; intro W7 hS
    refine op_assign rfl rfl ?_
    refine endF (XF.thenN ?_)
    refine retF ?_
    refine XF.thenR ?_
    refine XF.res (resCT (vs := [_, _, _, _, _, _, _, _]) Try.results13 Try.isAgg40 Try.sizeOf40 rfl (CellsAt.own (j := 0) (m := 8) (hS.at_ 0 rfl) rfl) rfl) ?_
    exact shortRet_many hE (tooMany_of (p := ⟨s, st, sy, ra, rl, rc, rs⟩) (by dsimp only; omega)) hS.below
   ·have hg37 := of_decide_eq_false hc; clear hc
    refine op_wantedF (d := 37) rfl rfl ?_
    refine op_field (o' := 4) fa_28_2 rfl rfl rfl ?_
    refine op_wantedF (d := 37) rfl rfl ?_
    refine op_load Try.isAgg3 rfl (cell_own (hS.at_ 1 rfl) rfl) rfl ?_
    refine op_wantedF (d := 37) rfl rfl ?_
    refine op_move rfl rfl ?_
    refine op_wantedF (d := 37) rfl rfl ?_
    refine op_add rfl rfl (IntWalk.i64_in _ (by omega)) rfl ?_
    refine op_wantedF (d := 37) rfl rfl ?_
    refine op_gtr rfl rfl rfl ?_
    refine op_pickF rfl rfl rfl ?_
    refine op_move rfl rfl ?_
    refine op_cases (d := 44) rfl (fun hc => ?_) (fun hc => ?_)
    ·have hg44 := of_decide_eq_true hc; clear hc
     refine op_notF (d := 44) rfl rfl rfl rfl ?_
     refine op_notF (d := 44) rfl rfl rfl rfl ?_
     refine op_notF (d := 44) rfl rfl rfl rfl ?_
     refine op_notF (d := 44) rfl rfl rfl rfl ?_
     refine op_notF (d := 44) rfl rfl rfl rfl ?_
     refine op_notF (d := 44) rfl rfl rfl rfl ?_
     refine op_pickT rfl rfl rfl ?_
     refine endF (XF.thenN ?_)
     refine condT rfl ?_
     refine seqF (regF ?_)
     refine op_build (us := []) rfl (bld_40) rfl ?_
     refine op_storeA (i := 0) (vs := [_, _, _, _, _, _, _, _]) (cs' := [_, _, _, _, _, _, _, _]) (O' := [_, _]) hS Try.sizeOf40 rfl rfl (by first | rfl | (have h0 := hS.oneV 0 _ rfl; have h1 := hS.oneV 1 _ rfl; have h2 := hS.oneV 2 _ rfl; simp only [List.all_cons, List.all_nil, Bool.and_true, Bool.and_eq_true]; exact ⟨rfl, rfl, rfl, rfl, rfl, h0, h1, h2⟩)) rfl rfl rfl rfl ?_
     clear hS; intro W8 hS
     refine op_assign rfl rfl ?_
     refine endF (XF.thenN ?_)
     refine retF ?_
     refine XF.thenR ?_
     refine XF.res (resCT (vs := [_, _, _, _, _, _, _, _]) Try.results13 Try.isAgg40 Try.sizeOf40 rfl (CellsAt.own (j := 0) (m := 8) (hS.at_ 0 rfl) rfl) rfl) ?_
     exact shortRet_many hE (tooMany_of (p := ⟨s, st, sy, ra, rl, rc, rs⟩) (by dsimp only; omega)) hS.below
    ·have hg44 := of_decide_eq_false hc; clear hc
     refine op_wantedF (d := 44) rfl rfl ?_
     refine op_field (o' := 5) fa_28_3 rfl rfl rfl ?_
     refine op_wantedF (d := 44) rfl rfl ?_
     refine op_load Try.isAgg26 rfl (cell_own (hS.at_ 1 rfl) rfl) rfl ?_
     refine op_wantedF (d := 44) rfl rfl ?_
     refine op_len Try.underlying26 rfl rfl ?_
     refine op_wantedF (d := 44) rfl rfl ?_
     refine op_move rfl rfl ?_
     refine op_wantedF (d := 44) rfl rfl ?_
     refine op_add rfl rfl (IntWalk.i64_in _ (by omega)) rfl ?_
     refine op_wantedF (d := 44) rfl rfl ?_
     refine op_gtr rfl rfl rfl ?_
     refine op_pickF rfl rfl rfl ?_
     refine endF (XF.thenN ?_)
     refine condF rfl (fun hc => ?_) (fun hc => ?_)
     ·have hc51 := of_decide_eq_true hc; clear hc
      refine seqF (regF ?_)
      refine op_build (us := []) rfl (bld_40) rfl ?_
      refine op_storeA (i := 0) (vs := [_, _, _, _, _, _, _, _]) (cs' := [_, _, _, _, _, _, _, _]) (O' := [_, _]) hS Try.sizeOf40 rfl rfl (by first | rfl | (have h0 := hS.oneV 0 _ rfl; have h1 := hS.oneV 1 _ rfl; have h2 := hS.oneV 2 _ rfl; simp only [List.all_cons, List.all_nil, Bool.and_true, Bool.and_eq_true]; exact ⟨rfl, rfl, rfl, rfl, rfl, h0, h1, h2⟩)) rfl rfl rfl rfl ?_
      clear hS; intro W9 hS
      refine op_assign rfl rfl ?_
      refine endF (XF.thenN ?_)
      refine retF ?_
      refine XF.thenR ?_
      refine XF.res (resCT (vs := [_, _, _, _, _, _, _, _]) Try.results13 Try.isAgg40 Try.sizeOf40 rfl (CellsAt.own (j := 0) (m := 8) (hS.at_ 0 rfl) rfl) rfl) ?_
      exact shortRet_many hE (tooMany_of (p := ⟨s, st, sy, ra, rl, rc, rs⟩) (by dsimp only; omega)) hS.below
     ·have hc51 := of_decide_eq_false hc; clear hc
      have hfew : tooMany ⟨s, st, sy, ra, rl, rc, rs⟩ = false := tooMany_no (by dsimp only; omega) (by dsimp only; omega) (by dsimp only; omega)
      refine skipF ?_
      refine XF.thenN ?_
      refine seqF (regF ?_)
      refine op_field (o' := 0) fa_28_0 rfl rfl rfl ?_
      refine op_loadA (vs := [_, _, _]) Try.isAgg25 Try.sizeOf25 rfl (CellsAt.own (j := 0) (m := 3) (hS.at_ 1 rfl) rfl) rfl ?_
      refine op_call (vs := [_]) hS goes_41 rfl (ringOf_is S s.f _ (hok.si.below hS.below) hok.ok) rfl ?_
      rintro e W10 ⟨f0, rfl, _, hb⟩
      refine ⟨_, rfl, hb, fun hS' => ?_⟩
      clear hS; have hS := hS'; clear hS' hb
      refine op_build (us := [(0, .agg (List.toArray [_, _, _, _, _, _, _, _, _]))]) rfl (bld_101_0 _ _ _ _ _ _ _ _ _) rfl ?_
      refine op_alloc (cs := [_, _, _, _, _, _, _, _, _, _, _, _, _, _, _, _, _]) hS Try.zeroValue101 rfl rfl ?_
      clear hS; intro B11 W11 hS
      refine op_storeA (i := 0) (vs := [_, _, _, _, _, _, _, _, _, _, _, _, _, _, _, _, _]) (cs' := [_, _, _, _, _, _, _, _, _, _, _, _, _, _, _, _, _]) (O' := [_, _, _]) hS Try.sizeOf101 rfl rfl (by first | rfl | (have h0 := hS.oneV 0 _ rfl; have h1 := hS.oneV 1 _ rfl; have h2 := hS.oneV 2 _ rfl; simp only [List.all_cons, List.all_nil, Bool.and_true, Bool.and_eq_true]; exact ⟨rfl, rfl, rfl, rfl, rfl, h0, h1, h2⟩)) rfl rfl rfl rfl ?_
      clear hS; intro W12 hS
      refine endF (XF.thenN ?_)
      refine seqF ?_
      have hS7 := hS
      have hszN := hS.below.size
      refine regY (al := []) (G := fun _ => []) (E := []) (k := 7) (ds := [64, 65, 66]) followsM rfl hS rfl rfl (by kernel_rfl) (by kernel_rfl) rfl (by decide) rfl ?_
      refine bly_cons 1 rfl (isV _) (syV fst_take [(1, _)] rfl rfl (fun _ => (w_free rfl)) (fun _ => ⟨g_fr (by kernel_rfl) rfl, trivial⟩) (fun s w hw => rn_field (o' := 0) fa_28_0 rfl rfl) (at_top rfl)) ?_
      refine bly_cons 2 rfl (isV _) (syV fst_take [(57, _)] rfl rfl (fun _ => (w_free rfl)) (fun _ => ⟨g_dep 0 (by kernel_rfl) (at_n rfl rfl (at_dep rfl rfl rfl)), trivial⟩) (fun s w hw => rn_loadA (vs := [_, _, _]) Try.isAgg25 Try.sizeOf25 rfl ((CellsAt.own (j := 0) (m := 3) (hw.at_ 2 rfl) rfl))) (at_top rfl)) ?_
      refine bly_cons 3 rfl (isSpN W12.heap.size S) (sy_call fst_take (fun s => [isV _]) rfl rfl goes_42 (fun _ => w_free rfl) (fun s => ⟨p_tmp (g_dep 1 (by kernel_rfl) (at_n rfl rfl (at_dep rfl rfl rfl))), trivial⟩) (fun vs s0 w' hk hw hlo hh => by have e := holds_isV (us := [_]) hh; subst e; exact copySp_is S s.f w' (hok.si.below hw.below) hlo) (at_top rfl)) ?_
      refine bly_cons 4 rfl (isV _) (syV fst_take [(1, _)] rfl rfl (fun _ => (w_free rfl)) (fun _ => ⟨g_fr (by kernel_rfl) rfl, trivial⟩) (fun s w hw => rn_field (o' := 3) fa_28_1 rfl rfl) (at_top rfl)) ?_
      refine bly_cons 5 rfl (isV _) (syV fst_take [(60, _)] rfl rfl (fun _ => (w_free rfl)) (fun _ => ⟨g_dep 3 (by kernel_rfl) (at_n rfl rfl (at_dep rfl rfl rfl)), trivial⟩) (fun s w hw => rn_load Try.isAgg3 rfl ((cell_own (hw.at_ 2 rfl) rfl))) (at_top rfl)) ?_
      refine bly_cons 6 rfl (isV _) (syV fst_take [(1, _)] rfl rfl (fun _ => (w_free rfl)) (fun _ => ⟨g_fr (by kernel_rfl) rfl, trivial⟩) (fun s w hw => rn_field (o' := 4) fa_28_2 rfl rfl) (at_top rfl)) ?_
      refine bly_cons 7 rfl (isV _) (syV fst_take [(62, _)] rfl rfl (fun _ => (w_free rfl)) (fun _ => ⟨g_dep 5 (by kernel_rfl) (at_n rfl rfl (at_dep rfl rfl rfl)), trivial⟩) (fun s w hw => rn_load Try.isAgg3 rfl ((cell_own (hw.at_ 2 rfl) rfl))) (at_top rfl)) ?_
      refine bly_nil ?_
      intro s13 W13 Ks13 hall13 hsz13 hKs13 hS' hcov13 hfx13 hno13
      clear hS; have hS := hS'.castO (O' := [_, _, _]) rfl; clear hS'
      refine castL (L' := [AwS _ _ (isV _), AwS _ _ (isV _), AwS _ _ (isSpN W12.heap.size S), AwS _ _ (isV _), AwS _ _ (isV _), AwS _ _ (isV _), AwS _ _ (isV _)]) rfl ?_
      refine fin_sV ?_
      refine fin_sV ?_
      refine fin_p ?_; rintro vC h59; have hcovS := @hcov13; obtain ⟨sq, rfl, hs2⟩ := h59.here
      refine fin_sV ?_
      refine fin_sV ?_
      refine fin_sV ?_
      refine fin_sV ?_
      refine fin_nil ?_
      refine op_build (us := [(0, .agg (List.toArray [_, _, _])), (1, .int .i64 _), (2, .int .i64 _)]) rfl (bld_28_0_1_2 _ _ _ _ _) rfl ?_
      refine op_field (o' := 9) fa_101_1 rfl rfl rfl ?_
      refine op_field (o' := 9) fa_40_0 rfl rfl rfl ?_
      refine op_storeA (i := 0) (vs := [_, _, _, _, _, _]) (cs' := [_, _, _, _, _, _, _, _, _, _, _, _, _, _, _, _, _]) (O' := [_, _, _]) hS Try.sizeOf28 rfl rfl (by first | rfl | (have h0 := hS.oneV 0 _ rfl; have h1 := hS.oneV 1 _ rfl; have h2 := hS.oneV 2 _ rfl; simp only [List.all_cons, List.all_nil, Bool.and_true, Bool.and_eq_true]; exact ⟨rfl, rfl, rfl, rfl, rfl, h0, h1, h2⟩)) rfl rfl rfl rfl ?_
      clear hS; intro W14 hS
      refine endF (XF.thenN ?_)
      refine seqF ?_
      refine seqF ?_
      have HS2 : Held w _ (fun W2 => SpFar w.heap.size S sq W2) := fun h2 hk W3 h3 => hs2 W3 ((sameX_agree9 (hcovS h2 (fun q hq => hk q hq)) (fun b h1 hx => by have h3 := xb_lt9 hS7 hx; omega)).trans (h3.mono hszN))
      have hS := ((hS.newG 4 1).newG 3 1).newG 56 10
      refine regF ?_
      refine op_field (o' := 5) fa_28_3 rfl rfl rfl ?_
      refine op_load Try.isAgg26 rfl (cell_own (hS.at_ 2 rfl) rfl) rfl ?_
      refine op_len Try.underlying26 rfl rfl ?_
      refine op_move rfl rfl ?_
      refine endF (XF.thenN ?_)
      refine blockF ?_
      refine loopF (fun m l W => ∃ (i : Nat) (u1 u2 u3 : Value) (Kk : List (Nat × World)) (ns : List R9), i ≤ rl ∧ m = rl - i ∧ l = [(1, .pointer (some ⟨B1, 0, none⟩)), (2, .pointer (some ⟨B2, 0, none⟩)), (3, .int .i64 0), (8, .pointer (some ⟨B11, 0, none⟩)), (68, .slice ra rl rc), (69, .int .i64 (rl : Int)), (70, .int .i64 (i : Int))] ∧ ns.map R9.pl = shortF (oneX S) px (rs.take i) 0 st sy ∧ Held w Kk (fun W2 => SpFar w.heap.size S sq W2 ∧ ∀ r ∈ ns, RHeld w.heap.size S W2 r) ∧ St w [(B11, shC s.f f0 sq (st + (moreF (rs.take i) : Int)) (sy + (moreF (rs.take i) : Int)) u1 u2 u3, 101), (B2, z8, 40), (B1, [.int .i64 s.f.tag, .int .i64 s.f.dim, .slice s.f.a s.f.len s.f.cap, .int .i64 st, .int .i64 sy, .slice ra rl rc], 28)] [⟨u1, ns.length, ns.flatMap ten9, 56, 10⟩, ⟨u2, ns.length, ns.map (fun r => Value.int .i64 r.num), 3, 1⟩, ⟨u3, ns.length, ns.map (fun r => Value.bool r.first), 4, 1⟩] Kk W) (rl - 0) ([(1, _), (2, _), (3, _), (8, _), (68, _), (69, _), (70, _)]) ⟨rfl, rfl, rfl, rfl, rfl, rfl, rfl, trivial⟩ (⟨0, _, _, _, _, [], Nat.zero_le _, rfl, rfl, rfl, fun h2 hk => ⟨HS2 h2 (fun q hq => hk q (List.mem_append_left _ hq)), fun r hr => by cases hr⟩, hS.castO (by simp [moreF])⟩) ?_
      clear hS
      rintro m l W ⟨i, u1, u2, u3, Kk, ns, hi, rfl, rfl, hns, HN, hS⟩
      refine seqF (regF ?_)
      refine op_lss rfl rfl rfl ?_
      refine endF (XF.thenN ?_)
      refine seqF ?_
      refine condF rfl (fun hc => ?_) (fun hc => ?_)
      ·have hc71 := of_decide_eq_true hc; clear hc
       have hk : i < rl := by omega
       obtain ⟨r, hr⟩ : ∃ r, rs[i]? = some r := ⟨rs[i]'(by omega), by simp [show i < rs.length by omega]⟩
       obtain ⟨b, off, rfl, hcs⟩ := hprow.at_ hr
       have k1 := CellsAt.agree hS.agree (Nat.zero_le _) hcs
       have hri := hin r (List.mem_of_getElem? hr)
       have hr4 : r.wl ≤ 4096 := hok.w4 r (List.mem_of_getElem? hr)
       have hmt := moreF_take_le (rs := rs) (i := i)
       have hnl : ns.length = i + moreF (rs.take i) := by
        have h1 := congrArg List.length hns
        rw [List.length_map, shortF_len (fun x hx => (hin x (List.mem_of_mem_take hx)).len), List.length_take, Nat.min_eq_left (by omega)] at h1
        exact h1
       have hfw : moreF rs ≤ 16384 := by
        have h1 := hfew
        unfold tooMany at h1
        simp only [Bool.or_eq_false_iff, decide_eq_false_iff_not] at h1
        omega
       have hf1 : st + (moreF rs : Int) ≤ 4096 ∧ sy + (moreF rs : Int) ≤ 4096 := by
        have h1 := hfew
        unfold tooMany at h1
        simp only [Bool.or_eq_false_iff, decide_eq_false_iff_not] at h1
        omega
       refine skipF ?_
       refine XF.thenN ?_
       refine seqF ?_
       refine blockF ?_
       refine seqF (regF ?_)
       refine op_move rfl rfl ?_
       refine op_indexA  Try.underlying26 Try.sizeOf56 rfl rfl rfl (by omega) rfl rfl ?_
       refine op_loadA (vs := [_, _, _, _, _, _, _, _, _, _]) Try.isAgg56 Try.sizeOf56 rfl (k1) rfl ?_
       refine op_alloc (cs := [_, _, _, _, _, _, _, _, _, _]) hS Try.zeroValue56 rfl rfl ?_
       clear hS; intro B15 W15 hS
       refine op_assign rfl rfl ?_
       refine op_storeA (i := 0) (vs := [_, _, _, _, _, _, _, _, _, _]) (cs' := [_, _, _, _, _, _, _, _, _, _]) (O' := [_, _, _, _]) hS Try.sizeOf56 rfl rfl (by first | rfl | (have h0 := hS.oneV 0 _ rfl; have h1 := hS.oneV 1 _ rfl; have h2 := hS.oneV 2 _ rfl; simp only [List.all_cons, List.all_nil, Bool.and_true, Bool.and_eq_true]; exact ⟨rfl, rfl, rfl, rfl, rfl, h0, h1, h2⟩)) rfl rfl rfl rfl ?_
       clear hS; intro W16 hS
       refine endF (XF.thenN ?_)
       refine regF ?_
       refine op_move rfl rfl ?_
       refine op_loadA (vs := [_, _, _, _, _, _, _, _, _, _]) Try.isAgg56 Try.sizeOf56 rfl (CellsAt.own (j := 0) (m := 10) (hS.at_ 0 rfl) rfl) rfl ?_
       refine op_callX (vs := [_, _, _]) goes_43 rfl (shParts_is s.f f0 sq (st + (moreF (rs.take i) : Int)) (sy + (moreF (rs.take i) : Int)) u1 u2 u3 ns.length (ns.flatMap ten9) (ns.map (fun r => Value.int .i64 r.num)) (ns.map (fun r => Value.bool r.first)) B11 _ _ w S (px r) (i : Int) r.p r.g r.q r.wa r.wl r.wc r.ws r.x.f _ (hS.perm (List.Perm.swap _ _ _)) (by omega) hok.si hok.ok (hok.x r (List.mem_of_getElem? hr)) hri.row hri.len hr4 (by omega) (by omega) ht) rfl ?_
       rintro e W9 ⟨w1, w2, w3, Kn, ns2, rfl, hpl, hsubn, HNn, hS9⟩
       refine ⟨_, rfl, ?_⟩
       clear hS; have hS := hS9.perm (List.Perm.swap _ _ _); clear hS9
       have ez : st + (moreF (rs.take i) : Int) + ((r.wl - 2 : Nat) : Int) = st + (moreF (rs.take (i + 1)) : Int) := by rw [moreF_take hr]; omega
       have ey : sy + (moreF (rs.take i) : Int) + ((r.wl - 2 : Nat) : Int) = sy + (moreF (rs.take (i + 1)) : Int) := by rw [moreF_take hr]; omega
       rw [ez, ey] at hS
       refine endF ?_
       refine XF.blkN ?_
       refine XF.thenN ?_
       refine regF ?_
       refine op_add rfl rfl (IntWalk.i64_in _ (by omega)) rfl ?_
       refine op_move rfl rfl ?_
       refine endF ?_
       exact XF.round (rl - (i + 1)) [(1, _), (2, _), (3, _), (8, _), (68, _), (69, _), (70, _)] (by omega) ⟨rfl, rfl, rfl, rfl, rfl, rfl, rfl, trivial⟩ ⟨i + 1, w1, w2, w3, Kn, ns ++ ns2, by omega, rfl, rfl, by rw [List.map_append, hns, hpl, shortF_take hr], fun h2 hk => ⟨(HN h2 (fun q hq => hk q (hsubn q hq))).1, fun x hx => by
         rcases List.mem_append.1 hx with hx | hx
         ·exact (HN h2 (fun q hq => hk q (hsubn q hq))).2 x hx
         ·exact HNn h2 hk x hx⟩, hS.tail.castG (by simp)⟩
      ·have hc71 := of_decide_eq_false hc; clear hc
       have hil : i = rl := by omega
       rw [List.take_of_length_le (by omega)] at hS hns
       refine exitF ?_
       refine XF.thenX ?_
       refine XF.thenX ?_
       refine XF.blkX ?_
       refine XF.thenN ?_
       refine seqF (regF ?_)
       refine op_field (o' := 9) fa_101_1 rfl rfl rfl ?_
       refine op_loadA (vs := [_, _, _, _, _, _, _, _]) Try.isAgg40 Try.sizeOf40 rfl (CellsAt.own (j := 9) (m := 8) (hS.at_ 0 rfl) rfl) rfl ?_
       refine op_storeA (i := 1) (vs := [_, _, _, _, _, _, _, _]) (cs' := [_, _, _, _, _, _, _, _]) (O' := [_, _, _]) hS Try.sizeOf40 rfl rfl (by first | rfl | (have h0 := hS.oneV 0 _ rfl; have h1 := hS.oneV 1 _ rfl; have h2 := hS.oneV 2 _ rfl; simp only [List.all_cons, List.all_nil, Bool.and_true, Bool.and_eq_true]; exact ⟨rfl, rfl, rfl, rfl, rfl, h0, h1, h2⟩)) rfl rfl rfl rfl ?_
       clear hS; intro W17 hS
       refine op_assign rfl rfl ?_
       refine endF (XF.thenN ?_)
       refine retF ?_
       refine XF.res (resCT (vs := [_, _, _, _, _, _, _, _]) Try.results13 Try.isAgg40 Try.sizeOf40 rfl (CellsAt.own (j := 0) (m := 8) (hS.at_ 1 rfl) rfl) rfl) ?_
       exact shortRet_ok (p := ⟨s, st, sy, ra, rl, rc, rs⟩) ⟨hok, hfew, hns, (HN hS (fun q hq => hq)).1, (HN hS (fun q hq => hq)).2, hS.row 0 rfl, hS.row 1 rfl, hS.row 2 rfl⟩ hS.below
end Go.Proofs.Ytnhnedifekejpaa
namespace Go.Proofs.Ytnhnedifekejpaa
open Go Go.RowKit
theorem bld_25_0 (v0 : Int) : Try.prog.built 25 [(0, .int .i64 v0)] = some #[.int .i64 v0, .int .i64 0, .slice none 0 0] := by kernel_rfl
theorem bld_56_2_3 (v2 : Int) (v3a : Option Addr) (v3l : Nat) (v3c : Nat) : Try.prog.built 56 [(2, .int .i64 v2), (3, .slice v3a v3l v3c)] = some #[.int .i64 0, .int .i64 0, .int .i64 v2, .slice v3a v3l v3c, .bool false, .int .i64 0, .int .u64 0, .slice none 0 0, .slice none 0 0, .slice none 0 0] := by kernel_rfl
theorem bs_30_3 (v0 : Int) (v1 : Int) (v2 : Int) : Instr.fill (fun i => some (i * 1, 1)) ((Array.range (3 * 1)).map ((Value.cells (.int .i64 0))[· % (Value.cells (.int .i64 0)).size]!)) [(0, .int .i64 v0), (1, .int .i64 v1), (2, .int .i64 v2)] = some (List.toArray [.int .i64 v0, .int .i64 v1, .int .i64 v2]) := by kernel_rfl
theorem goes_13 : goesIn Try.prog 13 = true := by kernel_rfl
theorem shortA_is {ds d : Nat} {p : PV} {w : World} (hp : PvIn w ds d p) (ht : Tabs w) : Calls Try.prog 13 #[p.val] w (ShortRet p w) := shortA_c ds d p.s p.st p.sy p.ra p.rl p.rc p.rs w hp.s hp.row hp.len hp.rin ht
def alW : WV := .mk ⟨false, 0, 0, none, 0, 0, [], none, 0, 0, [], none, 0, 0⟩ []
abbrev alR (b1 : Nat) : RV := ⟨0, 0, 1, some ⟨b1, 0, none⟩, 3, 3, [2, 3, 4], alW⟩
abbrev alP (b1 b2 : Nat) : PV := ⟨.mk ⟨1, 0, none, 0, 0⟩ [], 2, 5, some ⟨b2, 0, none⟩, 1, 1, [alR b1]⟩
theorem alW_in (w : World) : WIn w 1 alW := ⟨⟨.inl rfl, rfl, by decide, (fun r hr => by cases hr), .inl rfl, rfl, (fun c hc => by cases hc), by decide⟩, rfl, .inl rfl, fun p hp => by cases hp⟩
theorem row_own3 {W : World} {B : Nat} {T : TypeId} {a b c : Int} (h : W.heap[B]? = some (.cells (List.toArray [.int .i64 a, .int .i64 b, .int .i64 c]) T (0, 0))) : Row W (some ⟨B, 0, none⟩) [a, b, c] := by
 refine .inr ⟨B, 0, rfl, fun i hi => ?_⟩
 match i, hi with
 | 0, _ => exact cell_own h rfl
 | 1, _ => exact cell_own h rfl
 | 2, _ => exact cell_own h rfl
 | i + 3, hi => exact absurd hi (by simp)
theorem own_one9 {w : World} {lo n size : Nat} {e : TypeId} {v : Value} {xs : List Value} (h : w.ownsRow lo e size v n xs) : v.oneCell' = true := by
 rcases h.2 with ⟨h1, _⟩ | ⟨_, _, _, h1, _⟩ <;> rw [h1] <;> rfl
theorem alP_in {w : World} {b1 b2 : Nat} {T1 T2 : TypeId} (h1 : w.heap[b1]? = some (.cells (List.toArray [.int .i64 2, .int .i64 3, .int .i64 4]) T1 (0, 0))) (h2 : w.heap[b2]? = some (.cells (List.toArray (alR b1).ten) T2 (0, 0))) : PvIn w 1 1 (alP b1 b2) := by
 refine ⟨⟨rfl, .inl rfl, fun p hp => by cases hp⟩, .inr ⟨b2, 0, rfl, fun i r hi => ?_⟩, rfl, fun r hr => ?_⟩
 ·match i, hi with
  | 0, hi =>
   cases hi
   exact CellsAt.own (j := 0) (m := 10) h2 rfl
  | i + 1, hi => exact absurd hi (by simp)
 ·simp at hr
  subst hr
  exact ⟨row_own3 h1, rfl, alW_in w⟩
theorem alP_ok (b1 b2 : Nat) : pdsE (alP b1 b2) = 0 ∧ tooMany (alP b1 b2) = false := by
 have e1 : spaceE (alP b1 b2).s = 0 := by show spaceE (.mk ⟨1, 0, none, 0, 0⟩ []) = 0; decide
 have e2 : (alP b1 b2).rs.all (ruleB 2 5) = true := by simp [ruleB, inQ]
 have e3 : chkW (alP b1 b2).s alW = 0 := by show chkW (.mk ⟨1, 0, none, 0, 0⟩ []) alW = 0; decide
 have e4 : wtE (alP b1 b2).s (alP b1 b2).rs = 0 := wtE_all (by simp; exact e3)
 constructor
 ·unfold pdsE
  rw [if_neg (by rw [e1]; simp), if_neg (by simp), if_neg (by simp), if_pos (show (alP b1 b2).rs.all (ruleB (alP b1 b2).st (alP b1 b2).sy) = true from e2), e4]
 ·rfl
theorem two_map9 {α β : Type} {f : α → β} {l : List α} {a b : β} (h : l.map f = [a, b]) : ∃ x y, l = [x, y] ∧ f x = a ∧ f y = b := by
 match l, h with
 | [x, y], h => simp at h; exact ⟨x, y, rfl, h.1, h.2⟩
theorem rowN_addr {lo c : Nat} {W : World} {a : Option Addr} {xs : List Int} (h : RowN lo W a c xs) (hl : 0 < xs.length) : ∃ b, a = some ⟨b, 0, none⟩ := by
 obtain ⟨b, c9, e, _⟩ := ownsRow_at h hl
 injection e with e _ _
 exact ⟨b, e⟩
theorem rowN_lim9 {lo : Nat} {W : World} {a : Option Addr} {c : Nat} {xs : List Int} (h : RowN lo W a c xs) : xs.length ≤ maxLen := by
 rcases h.2 with ⟨e1, e2⟩ | ⟨g, cap, cur, e1, _, _, hn, hm, _⟩
 ·omega
 ·omega
theorem rowN_cell9 {lo c b i : Nat} {W : World} {xs : List Int} {y : Int} (h : RowN lo W (some ⟨b, 0, none⟩) c xs) (hi : xs[i]? = some y) : W.cell? ⟨b, i, none⟩ = some (.int .i64 y) := ownsRow_blk h (by rw [List.getElem?_map, hi]; rfl)
theorem row_ten9 {W : World} {lo b n c i : Nat} {ns : List R9} {r : R9} (h : W.ownsRow lo 56 10 (.slice (some ⟨b, 0, none⟩) n c) n (ns.flatMap ten9)) (hi : ns[i]? = some r) : CellsAt W b (i * 10) (ten9 r) := by
 have key : ∀ (l : List R9) (i : Nat), l[i]? = some r → ((l.flatMap ten9).drop (i * 10)).take 10 = ten9 r := by
  intro l
  induction l with
  | nil => intro i h; simp at h
  | cons z l ih =>
   intro i h
   cases i with
   | zero => simp at h; subst h; rfl
   | succ i =>
    have e : (i + 1) * 10 = 10 + i * 10 := by omega
    rw [List.flatMap_cons, e, ← List.drop_drop]
    exact ih i (by simpa using h)
 have e5 := key ns i hi
 refine CellsAt.of fun j v hj => ownsRow_blk h ?_
 rw [← e5, List.getElem?_take] at hj
 split at hj
 ·rw [List.getElem?_drop] at hj; exact hj
 ·cases hj
theorem alive_short {b1 b2 : Nat} {w : World} (hp : PvIn w 1 1 (alP b1 b2)) (ht : Tabs w) : Calls Try.prog 13 #[(alP b1 b2).val] w fun e w' => ∃ (s2 : SF) (c9 : Nat) (v2 v3 : Value) (S : PS) (x1 x2 : PX) (f1 f2 : WF) (b9 ba bb ca cb : Nat), e = .returned (.tuple #[.agg #[.int .i64 s2.tag, .int .i64 s2.dim, .slice s2.a s2.len s2.cap, .int .i64 3, .int .i64 6, .slice (some ⟨b9, 0, none⟩) 2 c9, v2, v3], .int .i64 0]) ∧ w'.ownsRow w.heap.size 56 10 (.slice (some ⟨b9, 0, none⟩) 2 c9) 2 ([⟨0, true, 0, 0, 2, some ⟨ba, 0, none⟩, ca, [5, 4], f1, x1⟩, ⟨0, false, 2, 5, 1, some ⟨bb, 0, none⟩, cb, [2, 3], f2, x2⟩].flatMap ten9) ∧ RowN w.heap.size w' (some ⟨ba, 0, none⟩) ca [5, 4] ∧ RowN w.heap.size w' (some ⟨bb, 0, none⟩) cb [2, 3] ∧ v2.oneCell' = true ∧ v3.oneCell' = true ∧ Below w.heap.size w w' := by
 refine (shortA_is hp ht).mono fun e w' h => ?_
 obtain ⟨hb, h | h | ⟨_, S, px, s2, v1, v2, v3, ns, hok, rfl⟩⟩ := h
 ·exact absurd (alP_ok b1 b2).1 h.1
 ·rw [(alP_ok b1 b2).2] at h; cases h.2.1
 ·have hpl : ns.map R9.pl = [(0, true, 0, 0, 2, [5, 4], px (alR b1)), (0, false, 2, 5, 1, [2, 3], oneX S)] := hok.pl
  obtain ⟨r1, r2, rfl, h1, h2⟩ := two_map9 hpl
  obtain ⟨n1, t1, p1, g1, q1, wa1, wc1, ws1, f1, x1⟩ := r1
  obtain ⟨n2, t2, p2, g2, q2, wa2, wc2, ws2, f2, x2⟩ := r2
  simp only [R9.pl, Prod.mk.injEq] at h1 h2
  obtain ⟨rfl, rfl, rfl, rfl, rfl, rfl, rfl⟩ := h1
  obtain ⟨rfl, rfl, rfl, rfl, rfl, rfl, rfl⟩ := h2
  have w1 : RowN w.heap.size w' wa1 wc1 [5, 4] := (hok.rules _ List.mem_cons_self).w
  have w2 : RowN w.heap.size w' wa2 wc2 [2, 3] := (hok.rules _ (List.mem_cons_of_mem _ List.mem_cons_self)).w
  obtain ⟨ba, rfl⟩ := rowN_addr w1 (by decide)
  obtain ⟨bb, rfl⟩ := rowN_addr w2 (by decide)
  have r1 := hok.r1
  obtain ⟨b9, c9, rfl, _⟩ := ownsRow_at (n := 2) r1 (by decide)
  exact ⟨s2, c9, v2, v3, S, _, _, f1, f2, b9, ba, bb, wc1, wc2, rfl, r1, w1, w2, own_one9 hok.r2, own_one9 hok.r3, hb⟩
theorem alive_is (w : World) (ht : Tabs w) :
  Calls Try.prog 12 #[] w (fun e w' => e = .returned (.bool (true)) ∧ Below w.heap.size w w') := by
 refine enterF (args := []) Try.func12 rfl Try.ntmps12 rfl ?_
 have hS := St.start w
 refine seqF (regF ?_)
 refine op_assign rfl rfl ?_
 refine endF (XF.thenN ?_)
 refine seqF (regF ?_)
 refine op_build (us := [(0, .int .i64 _)]) rfl (bld_25_0 _) rfl ?_
 refine op_buildSlice (us := [(0, .int .i64 _), (1, .int .i64 _), (2, .int .i64 _)]) hS Try.underlying30 Try.sizeOf3 Try.zeroValue3 rfl rfl rfl (bs_30_3 _ _ _) rfl ?_
 clear hS; intro B1 W1 hS
 refine op_build (us := [(2, .int .i64 _), (3, .slice _ _ _)]) rfl (bld_56_2_3 _ _ _ _) rfl ?_
 refine op_buildSlice (us := [(0, .agg (List.toArray [_, _, _, _, _, _, _, _, _, _]))]) hS Try.underlying26 Try.sizeOf56 Try.zeroValue56 rfl rfl rfl (bs_26_1 _ _ _ _ _ _ _ _ _ _) rfl ?_
 clear hS; intro B2 W2 hS
 refine op_build (us := [(0, .agg (List.toArray [_, _, _])), (1, .int .i64 _), (2, .int .i64 _), (3, .slice _ _ _)]) rfl (bld_28_0_1_2_3 _ _ _ _ _ _ _ _) rfl ?_
 refine op_alloc (cs := [_, _, _, _, _, _]) hS Try.zeroValue28 rfl rfl ?_
 clear hS; intro B3 W3 hS
 refine op_storeA (i := 0) (vs := [_, _, _, _, _, _]) (cs' := [_, _, _, _, _, _]) (O' := [_, _, _]) hS Try.sizeOf28 rfl rfl (by first | rfl | (simp only [List.all_cons, List.all_nil, Bool.and_true, Bool.and_eq_true]; exact ⟨rfl, rfl, rfl, rfl, rfl, rfl, h1v, h2v⟩)) rfl rfl rfl rfl ?_
 clear hS; intro W4 hS
 refine endF (XF.thenN ?_)
 refine seqF (regF ?_)
 refine op_loadA (vs := [_, _, _, _, _, _]) Try.isAgg28 Try.sizeOf28 rfl (CellsAt.own (j := 0) (m := 6) (hS.at_ 0 rfl) rfl) rfl ?_
 have hal := alive_short (alP_in (hS.at_ 2 rfl) (hS.at_ 1 rfl)) (ht.below hS.below)
 refine op_call (vs := [_]) hS goes_13 rfl (hal) rfl ?_
 rintro e W5 ⟨s2, c9, v2, v3, S, x1, x2, f1, f2, b9, ba, bb, ca, cb, rfl, hr9, hn1, hn2, h1v, h2v, hb⟩
 refine ⟨_, rfl, hb, fun hS' => ?_⟩
 clear hS; have hS := hS'; clear hS'
 clear hal hb
 obtain ⟨lo9, hlo9⟩ : ∃ n, n = W4.heap.size := ⟨_, rfl⟩
 rw [← hlo9] at hr9 hn1 hn2 hS
 have HN : Held w [(lo9, W5)] (fun W2 => W2.ownsRow lo9 56 10 (.slice (some ⟨b9, 0, none⟩) 2 c9) 2 ([⟨0, true, 0, 0, 2, some ⟨ba, 0, none⟩, ca, [5, 4], f1, x1⟩, ⟨0, false, 2, 5, 1, some ⟨bb, 0, none⟩, cb, [2, 3], f2, x2⟩].flatMap ten9) ∧ RowN lo9 W2 (some ⟨ba, 0, none⟩) ca [5, 4] ∧ RowN lo9 W2 (some ⟨bb, 0, none⟩) cb [2, 3]) := Held.one (p := fun W2 => W2.ownsRow lo9 56 10 (.slice (some ⟨b9, 0, none⟩) 2 c9) 2 ([⟨0, true, 0, 0, 2, some ⟨ba, 0, none⟩, ca, [5, 4], f1, x1⟩, ⟨0, false, 2, 5, 1, some ⟨bb, 0, none⟩, cb, [2, 3], f2, x2⟩].flatMap ten9) ∧ RowN lo9 W2 (some ⟨ba, 0, none⟩) ca [5, 4] ∧ RowN lo9 W2 (some ⟨bb, 0, none⟩) cb [2, 3]) (fun W2 hg => ⟨ownsRow_agree hr9 hg, hn1.agree hg, hn2.agree hg⟩)
 refine op_move rfl rfl ?_
 refine op_extract rfl rfl rfl ?_
 refine op_extract rfl rfl rfl ?_
 refine op_alloc (cs := [_, _, _, _, _, _, _, _]) hS Try.zeroValue40 rfl rfl ?_
 clear hS; intro B6 W6 hS
 refine op_storeA (i := 0) (vs := [_, _, _, _, _, _, _, _]) (cs' := [_, _, _, _, _, _, _, _]) (O' := [_, _, _, _]) hS Try.sizeOf40 rfl rfl (by first | rfl | (simp only [List.all_cons, List.all_nil, Bool.and_true, Bool.and_eq_true]; exact ⟨rfl, rfl, rfl, rfl, rfl, rfl, h1v, h2v⟩)) rfl rfl rfl rfl ?_
 clear hS; intro W7 hS
 refine op_assign rfl rfl ?_
 refine endF (XF.thenN ?_)
 refine seqF ?_
 refine seqF (regF ?_)
 refine op_move rfl rfl ?_
 refine op_neq rfl rfl rfl ?_
 refine op_move rfl rfl ?_
 refine op_cases (d := 18) rfl (fun hc => absurd (of_decide_eq_true hc) (by exact fun h => h rfl)) (fun hc => ?_)
 have hc := of_decide_eq_false hc
 refine op_wantedF (d := 18) rfl rfl ?_
 refine op_field (o' := 0) fa_40_0 rfl rfl rfl ?_
 refine op_wantedF (d := 18) rfl rfl ?_
 refine op_field (o' := 5) fa_28_3 rfl rfl rfl ?_
 refine op_wantedF (d := 18) rfl rfl ?_
 refine op_load Try.isAgg26 rfl (cell_own (hS.at_ 0 rfl) rfl) rfl ?_
 refine op_wantedF (d := 18) rfl rfl ?_
 refine op_len Try.underlying26 rfl rfl ?_
 refine op_wantedF (d := 18) rfl rfl ?_
 refine op_neq rfl rfl rfl ?_
 refine op_pickF rfl rfl rfl ?_
 refine endF (XF.thenN ?_)
 refine condF rfl (fun hc => absurd (of_decide_eq_true hc) (by exact fun h => h rfl)) (fun hc => ?_)
 have hc := of_decide_eq_false hc
 refine skipF ?_
 refine XF.thenN ?_
 refine seqF ?_
 refine regY (al := [⟨10, 56, [.int .i64 0, .int .i64 0, .int .i64 0, .slice none 0 0, .bool false, .int .i64 0, .int .u64 0, .slice none 0 0, .slice none 0 0, .slice none 0 0], 12⟩, ⟨11, 56, [.int .i64 0, .int .i64 0, .int .i64 0, .slice none 0 0, .bool false, .int .i64 0, .int .u64 0, .slice none 0 0, .slice none 0 0, .slice none 0 0], 25⟩]) (G := fun _ => []) (E := [10, 11, 12]) (k := 13) (ds := []) followsM rfl hS rfl rfl (by kernel_rfl) (by kernel_rfl) rfl (by decide) rfl ?_
 refine bly_cons 1 rfl (isV _) (syV fst_take [(2, _)] rfl rfl (fun _ => (w_free rfl)) (fun _ => ⟨g_fr (by kernel_rfl) rfl, trivial⟩) (fun s w hw => rn_field (o' := 0) fa_40_0 rfl rfl) (at_top rfl)) ?_
 refine bly_cons 2 rfl (isV _) (syV fst_take [(25, _)] rfl rfl (fun _ => (w_free rfl)) (fun _ => ⟨g_dep 0 (by kernel_rfl) (at_n rfl rfl (at_dep rfl rfl rfl)), trivial⟩) (fun s w hw => rn_field (o' := 5) fa_28_3 rfl rfl) (at_top rfl)) ?_
 refine bly_cons 3 rfl (isV _) (syV fst_take [(26, _)] rfl rfl (fun _ => (w_free rfl)) (fun _ => ⟨g_dep 1 (by kernel_rfl) (at_n rfl rfl (at_dep rfl rfl rfl)), trivial⟩) (fun s w hw => rn_load Try.isAgg26 rfl ((cell_own (hw.at_ 0 rfl) rfl))) (at_top rfl)) ?_
 refine bly_cons 4 rfl (isV _) (syV fst_take [(27, _)] rfl rfl (fun _ => (w_free rfl)) (fun _ => ⟨g_dep 2 (by kernel_rfl) (at_n rfl rfl (at_dep rfl rfl rfl)), trivial⟩) (fun s w hw => rn_indexA (j := 0) Try.underlying26 Try.sizeOf56 rfl rfl rfl (by omega) (Nat.add_zero _)) (at_top rfl)) ?_
 refine bly_cons 5 rfl (isV _) (syV fst_take [(28, _)] rfl rfl (fun _ => (w_free rfl)) (fun _ => ⟨g_dep 3 (by kernel_rfl) (at_n rfl rfl (at_dep rfl rfl rfl)), trivial⟩) (fun s w hw => rn_loadA (vs := [_, _, _, _, _, _, _, _, _, _]) Try.isAgg56 Try.sizeOf56 rfl (row_ten9 (i := 0) (HN hw (fun q hq => by simp at hq; subst hq; simp)).1 rfl)) (at_top rfl)) ?_
 refine bly_cons 6 rfl (isV _) (syV fst_take [(2, _)] rfl rfl (fun _ => (w_free rfl)) (fun _ => ⟨g_fr (by kernel_rfl) rfl, trivial⟩) (fun s w hw => rn_field (o' := 0) fa_40_0 rfl rfl) (at_top rfl)) ?_
 refine bly_cons 7 rfl (isV _) (syV fst_take [(30, _)] rfl rfl (fun _ => (w_free rfl)) (fun _ => ⟨g_dep 5 (by kernel_rfl) (at_n rfl rfl (at_dep rfl rfl rfl)), trivial⟩) (fun s w hw => rn_field (o' := 5) fa_28_3 rfl rfl) (at_top rfl)) ?_
 refine bly_cons 8 rfl (isV _) (syV fst_take [(31, _)] rfl rfl (fun _ => (w_free rfl)) (fun _ => ⟨g_dep 6 (by kernel_rfl) (at_n rfl rfl (at_dep rfl rfl rfl)), trivial⟩) (fun s w hw => rn_load Try.isAgg26 rfl ((cell_own (hw.at_ 0 rfl) rfl))) (at_top rfl)) ?_
 refine bly_cons 9 rfl (isV _) (syV fst_take [(32, _)] rfl rfl (fun _ => (w_free rfl)) (fun _ => ⟨g_dep 7 (by kernel_rfl) (at_n rfl rfl (at_dep rfl rfl rfl)), trivial⟩) (fun s w hw => rn_indexA (j := 1) Try.underlying26 Try.sizeOf56 rfl rfl rfl (by omega) rfl) (at_top rfl)) ?_
 refine bly_cons 10 rfl (isV _) (syV fst_take [(33, _)] rfl rfl (fun _ => (w_free rfl)) (fun _ => ⟨g_dep 8 (by kernel_rfl) (at_n rfl rfl (at_dep rfl rfl rfl)), trivial⟩) (fun s w hw => rn_loadA (vs := [_, _, _, _, _, _, _, _, _, _]) Try.isAgg56 Try.sizeOf56 rfl (row_ten9 (i := 1) (HN hw (fun q hq => by simp at hq; subst hq; simp)).1 rfl)) (at_top rfl)) ?_
 refine bly_cons 11 rfl (isPtr W7.heap.size) (sy_alloc ⟨10, 56, [.int .i64 0, .int .i64 0, .int .i64 0, .slice none 0 0, .bool false, .int .i64 0, .int .u64 0, .slice none 0 0, .slice none 0 0, .slice none 0 0], 12⟩ rfl rfl Try.zeroValue56 List.mem_cons_self rfl rfl rfl (.inl (by kernel_rfl)) (by decide) rfl (fun _ _ => rfl) (at_top rfl)) ?_
 refine bly_cons 12 rfl (isPtr W7.heap.size) (sy_alloc ⟨11, 56, [.int .i64 0, .int .i64 0, .int .i64 0, .slice none 0 0, .bool false, .int .i64 0, .int .u64 0, .slice none 0 0, .slice none 0 0, .slice none 0 0], 25⟩ rfl rfl Try.zeroValue56 (List.mem_cons_of_mem _ List.mem_cons_self) rfl rfl rfl (.inr rfl) (by decide) rfl (fun _ _ => rfl) (at_top rfl)) ?_
 refine bly_cons 13 rfl (isV _) (sy_store (jy := 4) (m := 10) ⟨10, 56, [.int .i64 0, .int .i64 0, .int .i64 0, .slice none 0 0, .bool false, .int .i64 0, .int .u64 0, .slice none 0 0, .slice none 0 0, .slice none 0 0], 12⟩ rfl rfl List.mem_cons_self rfl rfl (by kernel_rfl) (at_dep rfl rfl rfl) (by kernel_rfl) (at_dep rfl rfl rfl) (at_top rfl) Try.sizeOf56 rfl (fun v w h => by subst h; exact ⟨_, rfl, rfl, rfl⟩) (by decide) rfl (fun _ _ => rfl)) ?_
 refine bly_nil ?_
 intro s8 W8 Ks8 hall8 hsz8 hKs8 hS' hcov8 hfx8 hno8
 obtain ⟨v8_10, h8_10⟩ := hall8 10 rfl
 obtain ⟨v8_11, h8_11⟩ := hall8 11 rfl
 obtain ⟨v8_12, h8_12⟩ := hall8 12 rfl
 have f8_10 : AwS _ _ (isPtr W7.heap.size) _ _ := hfx8 10 rfl _ h8_10
 obtain ⟨B8_10, rfl, hB8_10⟩ := f8_10.here
 have f8_11 : AwS _ _ (isPtr W7.heap.size) _ _ := hfx8 11 rfl _ h8_11
 obtain ⟨B8_11, rfl, hB8_11⟩ := f8_11.here
 have f8_12 : AwS _ _ (isV _) _ _ := hfx8 12 rfl _ h8_12
 obtain rfl := f8_12.here
 clear hS; have hS := hS'.castO (O' := [(B8_10, _, 56), (B8_11, _, 56), _, _, _, _]) (by simp only [OY, AS_cons, AB.cs, h8_10, h8_11, h8_12, hno8 25 rfl]; rfl); clear hS'
 refine castL (L' := [AwS _ _ (isV _), AwS _ _ (isV _), AwS _ _ (isV _), AwS _ _ (isV _), AwS _ _ (isV _), AwS _ _ (isV _), AwS _ _ (isV _), AwS _ _ (isV _), AwS _ _ (isV _), AwS _ _ (isV _), isE s8 10, isE s8 11, isE s8 12]) rfl ?_
 refine fin_sV ?_
 refine fin_sV ?_
 refine fin_sV ?_
 refine fin_sV ?_
 refine fin_sV ?_
 refine fin_sV ?_
 refine fin_sV ?_
 refine fin_sV ?_
 refine fin_sV ?_
 refine fin_sV ?_
 refine fin_p ?_; intro u hu; obtain rfl := Option.some.inj (h8_10.symm.trans hu); clear hu
 refine fin_p ?_; intro u hu; obtain rfl := Option.some.inj (h8_11.symm.trans hu); clear hu
 refine fin_0 ?_
 refine fin_nil ?_
 refine op_storeA (i := 1) (vs := [_, _, _, _, _, _, _, _, _, _]) (cs' := [_, _, _, _, _, _, _, _, _, _]) (O' := [_, _, _, _, _, _]) hS Try.sizeOf56 rfl rfl (by first | rfl | (simp only [List.all_cons, List.all_nil, Bool.and_true, Bool.and_eq_true]; exact ⟨rfl, rfl, rfl, rfl, rfl, rfl, h1v, h2v⟩)) rfl rfl rfl rfl ?_
 clear hS; intro W9 hS
 refine endF (XF.thenN ?_)
 refine seqF ?_
 obtain ⟨_, hm1, hm2⟩ := HN hS (fun q hq => by simp at hq; subst hq; simp)
 have k1 := rowN_cell9 (i := 0) hm1 rfl
 have k2 := rowN_cell9 (i := 1) hm1 rfl
 have k3 := rowN_cell9 (i := 1) hm2 rfl
 refine regF ?_
 refine op_field (o' := 0) fa_40_0 rfl rfl rfl ?_
 refine op_field (o' := 3) fa_28_1 rfl rfl rfl ?_
 refine op_load Try.isAgg3 rfl (cell_own (hS.at_ 2 rfl) rfl) rfl ?_
 refine op_eql rfl rfl rfl ?_
 refine op_move rfl rfl ?_
 refine op_cases (d := 39) rfl (fun hc => ?_) (fun hc => absurd (of_decide_eq_false hc) (by exact fun h => h rfl))
 have hc := of_decide_eq_true hc
 refine op_wantedF (d := 39) rfl rfl ?_
 refine op_field (o' := 0) fa_40_0 rfl rfl rfl ?_
 refine op_wantedF (d := 39) rfl rfl ?_
 refine op_field (o' := 4) fa_28_2 rfl rfl rfl ?_
 refine op_wantedF (d := 39) rfl rfl ?_
 refine op_load Try.isAgg3 rfl (cell_own (hS.at_ 2 rfl) rfl) rfl ?_
 refine op_wantedF (d := 39) rfl rfl ?_
 refine op_eql rfl rfl rfl ?_
 refine op_pickT rfl rfl rfl ?_
 refine op_move rfl rfl ?_
 refine op_cases (d := 45) rfl (fun hc => ?_) (fun hc => absurd (of_decide_eq_false hc) (by exact fun h => h rfl))
 have hc := of_decide_eq_true hc
 refine op_wantedF (d := 45) rfl rfl ?_
 refine op_field (o' := 2) fa_56_2 rfl rfl rfl ?_
 refine op_wantedF (d := 45) rfl rfl ?_
 refine op_load Try.isAgg3 rfl (cell_own (hS.at_ 0 rfl) rfl) rfl ?_
 refine op_wantedF (d := 45) rfl rfl ?_
 refine op_eql rfl rfl rfl ?_
 refine op_pickT rfl rfl rfl ?_
 refine op_move rfl rfl ?_
 refine op_cases (d := 50) rfl (fun hc => ?_) (fun hc => absurd (of_decide_eq_false hc) (by exact fun h => h rfl))
 have hc := of_decide_eq_true hc
 refine op_wantedF (d := 50) rfl rfl ?_
 refine op_field (o' := 3) fa_56_3 rfl rfl rfl ?_
 refine op_wantedF (d := 50) rfl rfl ?_
 refine op_load Try.isAgg30 rfl (cell_own (hS.at_ 0 rfl) rfl) rfl ?_
 refine op_wantedF (d := 50) rfl rfl ?_
 refine op_len Try.underlying30 rfl rfl ?_
 refine op_wantedF (d := 50) rfl rfl ?_
 refine op_eql rfl rfl rfl ?_
 refine op_pickT rfl rfl rfl ?_
 refine op_move rfl rfl ?_
 refine op_cases (d := 56) rfl (fun hc => ?_) (fun hc => absurd (of_decide_eq_false hc) (by exact fun h => h rfl))
 have hc := of_decide_eq_true hc
 refine op_wantedF (d := 56) rfl rfl ?_
 refine op_field (o' := 3) fa_56_3 rfl rfl rfl ?_
 refine op_wantedF (d := 56) rfl rfl ?_
 refine op_load Try.isAgg30 rfl (cell_own (hS.at_ 0 rfl) rfl) rfl ?_
 refine op_wantedF (d := 56) rfl rfl ?_
 refine op_indexA (j := 0) Try.underlying30 Try.sizeOf3 rfl rfl rfl (by omega) (Nat.add_zero _) rfl ?_
 refine op_wantedF (d := 56) rfl rfl ?_
 refine op_load Try.isAgg3 rfl (k1) rfl ?_
 refine op_wantedF (d := 56) rfl rfl ?_
 refine op_eql rfl rfl rfl ?_
 refine op_pickT rfl rfl rfl ?_
 refine op_move rfl rfl ?_
 refine op_cases (d := 63) rfl (fun hc => ?_) (fun hc => absurd (of_decide_eq_false hc) (by exact fun h => h rfl))
 have hc := of_decide_eq_true hc
 refine op_wantedF (d := 63) rfl rfl ?_
 refine op_field (o' := 3) fa_56_3 rfl rfl rfl ?_
 refine op_wantedF (d := 63) rfl rfl ?_
 refine op_load Try.isAgg30 rfl (cell_own (hS.at_ 0 rfl) rfl) rfl ?_
 refine op_wantedF (d := 63) rfl rfl ?_
 refine op_indexA (j := 1) Try.underlying30 Try.sizeOf3 rfl rfl rfl (by omega) rfl rfl ?_
 refine op_wantedF (d := 63) rfl rfl ?_
 refine op_load Try.isAgg3 rfl (k2) rfl ?_
 refine op_wantedF (d := 63) rfl rfl ?_
 refine op_eql rfl rfl rfl ?_
 refine op_pickT rfl rfl rfl ?_
 refine op_move rfl rfl ?_
 refine op_cases (d := 70) rfl (fun hc => ?_) (fun hc => absurd (of_decide_eq_false hc) (by exact fun h => h rfl))
 have hc := of_decide_eq_true hc
 refine op_wantedF (d := 70) rfl rfl ?_
 refine op_field (o' := 0) fa_56_0 rfl rfl rfl ?_
 refine op_wantedF (d := 70) rfl rfl ?_
 refine op_load Try.isAgg3 rfl (cell_own (hS.at_ 1 rfl) rfl) rfl ?_
 refine op_wantedF (d := 70) rfl rfl ?_
 refine op_eql rfl rfl rfl ?_
 refine op_pickT rfl rfl rfl ?_
 refine op_move rfl rfl ?_
 refine op_cases (d := 75) rfl (fun hc => ?_) (fun hc => absurd (of_decide_eq_false hc) (by exact fun h => h rfl))
 have hc := of_decide_eq_true hc
 refine op_wantedF (d := 75) rfl rfl ?_
 refine op_field (o' := 1) fa_56_1 rfl rfl rfl ?_
 refine op_wantedF (d := 75) rfl rfl ?_
 refine op_load Try.isAgg3 rfl (cell_own (hS.at_ 1 rfl) rfl) rfl ?_
 refine op_wantedF (d := 75) rfl rfl ?_
 refine op_eql rfl rfl rfl ?_
 refine op_pickT rfl rfl rfl ?_
 refine op_move rfl rfl ?_
 refine op_cases (d := 80) rfl (fun hc => ?_) (fun hc => absurd (of_decide_eq_false hc) (by exact fun h => h rfl))
 have hc := of_decide_eq_true hc
 refine op_wantedF (d := 80) rfl rfl ?_
 refine op_field (o' := 2) fa_56_2 rfl rfl rfl ?_
 refine op_wantedF (d := 80) rfl rfl ?_
 refine op_load Try.isAgg3 rfl (cell_own (hS.at_ 1 rfl) rfl) rfl ?_
 refine op_wantedF (d := 80) rfl rfl ?_
 refine op_eql rfl rfl rfl ?_
 refine op_pickT rfl rfl rfl ?_
 refine op_move rfl rfl ?_
 refine op_cases (d := 85) rfl (fun hc => ?_) (fun hc => absurd (of_decide_eq_false hc) (by exact fun h => h rfl))
 have hc := of_decide_eq_true hc
 refine op_wantedF (d := 85) rfl rfl ?_
 refine op_field (o' := 3) fa_56_3 rfl rfl rfl ?_
 refine op_wantedF (d := 85) rfl rfl ?_
 refine op_load Try.isAgg30 rfl (cell_own (hS.at_ 1 rfl) rfl) rfl ?_
 refine op_wantedF (d := 85) rfl rfl ?_
 refine op_len Try.underlying30 rfl rfl ?_
 refine op_wantedF (d := 85) rfl rfl ?_
 refine op_eql rfl rfl rfl ?_
 refine op_pickT rfl rfl rfl ?_
 refine op_move rfl rfl ?_
 refine op_cases (d := 91) rfl (fun hc => ?_) (fun hc => absurd (of_decide_eq_false hc) (by exact fun h => h rfl))
 have hc := of_decide_eq_true hc
 refine op_wantedF (d := 91) rfl rfl ?_
 refine op_field (o' := 3) fa_56_3 rfl rfl rfl ?_
 refine op_wantedF (d := 91) rfl rfl ?_
 refine op_load Try.isAgg30 rfl (cell_own (hS.at_ 1 rfl) rfl) rfl ?_
 refine op_wantedF (d := 91) rfl rfl ?_
 refine op_indexA (j := 1) Try.underlying30 Try.sizeOf3 rfl rfl rfl (by omega) rfl rfl ?_
 refine op_wantedF (d := 91) rfl rfl ?_
 refine op_load Try.isAgg3 rfl (k3) rfl ?_
 refine op_wantedF (d := 91) rfl rfl ?_
 refine op_eql rfl rfl rfl ?_
 refine op_pickT rfl rfl rfl ?_
 refine op_assign rfl rfl ?_
 refine endF (XF.thenN ?_)
 refine retF ?_
 refine XF.res (res1 Try.results12 rfl) ?_
 exact ⟨rbool (decide_eq_true rfl), hS.below⟩
end Go.Proofs.Ytnhnedifekejpaa
namespace Go.Proofs.Ytnhnedifekejpaa
open Go.RowKit Go.ChangeShapes Go.WideShapes Go.Deep
section
variable {H : Type} {enc : TypeId × Value → H} {w : World} {base : Nat} {spare : Nat → Bool} {held : Bool}
theorem three_len {cs : List Value} (h : cs.length = 3) : ∃ a b c, cs = [a, b, c] := by
 match cs, h with
 | [a, b, c], _ => exact ⟨a, b, c, rfl⟩
theorem cell_open {n : Nat} {cs : List Value} {x : DataW H × List MemPlace} (hl : cs.length = 3) (h : DataW.trod enc Try.prog w base spare held n 112 cs = some x) :
  ∃ c : Cl, c.f < 18446744073709551616 ∧ cs = [.int .u64 (c.f : Int), .int .i64 c.k, .int .i64 c.v] := by
 obtain ⟨xs, n', _, hx, _, hlen, hg⟩ := DataW.trod_struct Try.underlying112 h
 obtain ⟨a, b, c, rfl⟩ := three_len hl
 ·skip
  have hlen3 : xs.length = 3 := hlen
  have g0 := hg 0 _ rfl
  have g1 := hg 1 _ rfl
  have g2 := hg 2 _ rfl
  rw [show Try.prog.cellsOf _ = 1 by kernel_rfl, List.getElem?_eq_getElem (by omega)] at g0 g1 g2
  obtain ⟨z0, e0, _, w0⟩ := DataW.trod_int Try.underlying47 g0
  obtain ⟨z1, e1, _, w1⟩ := DataW.trod_int (k := .i64) (by kernel_rfl) g1
  obtain ⟨z2, e2, _, w2⟩ := DataW.trod_int (k := .i64) (by kernel_rfl) g2
  simp at e0 e1 e2
  subst e0 e1 e2
  have hw : 0 ≤ z0 ∧ z0 ≤ 18446744073709551615 := by simpa [Lit.wf, IntKind.signed, IntKind.bits, IntKind.min, IntKind.max] using w0
  exact ⟨⟨z0.toNat, z1, z2⟩, by show z0.toNat < _; omega, by simp; omega⟩
theorem list_of : ∀ (n : Nat) (p : Nat → Cl → Prop), (∀ i, i < n → ∃ c, p i c) → ∃ xs : List Cl, xs.length = n ∧ ∀ i c, xs[i]? = some c → p i c
 | 0, p, h => ⟨[], rfl, fun i c hi => by simp at hi⟩
 | n + 1, p, h => by
  obtain ⟨xs, hl, hp⟩ := list_of n p (fun i hi => h i (by omega))
  obtain ⟨c, hc⟩ := h n (by omega)
  refine ⟨xs ++ [c], by simp [hl], fun i d hi => ?_⟩
  rcases Nat.lt_or_ge i n with h1 | h1
  ·rw [List.getElem?_append_left (by omega)] at hi
   exact hp i d hi
  ·obtain ⟨h2, _⟩ := List.getElem?_eq_some_iff.1 hi
   simp [hl] at h2
   obtain rfl : i = n := by omega
   rw [List.getElem?_append_right (by omega), hl, Nat.sub_self] at hi
   simp at hi
   subst hi
   exact hc
theorem cells_open {n : Nat} {a : Option Addr} {len cap : Nat} {x : DataW H × List MemPlace} (h : DataW.trod enc Try.prog w base spare held n 51 [.slice a len cap] = some x) :
  ∃ xs, IsCells w a len cap xs := by
 rcases open_slice Try.underlying51 h with ⟨hcs, _⟩ | ⟨ad, len', cap', m, n', D, Pl, hcs, hb, hl, hm, hmm, hx, hi⟩
 ·simp at hcs
  obtain ⟨rfl, rfl, rfl⟩ := hcs
  exact ⟨[], rfl, by simp, .inl rfl, fun c hc => by simp at hc⟩
 ·simp at hcs
  obtain ⟨rfl, rfl, rfl⟩ := hcs
  rw [show Try.prog.cellsOf 112 = 3 by kernel_rfl] at hi
  obtain ⟨xs, hxl, hxs⟩ := list_of len (fun i c => c.f < 18446744073709551616 ∧ w.cell? (ad.add (i * 3)) = some (.int .u64 (c.f : Int)) ∧ w.cell? (ad.add (i * 3 + 1)) = some (.int .i64 c.k) ∧ w.cell? (ad.add (i * 3 + 2)) = some (.int .i64 c.v)) (fun i hil => by
   obtain ⟨cs', hc, ht⟩ := hi i (by rw [hmm]; split <;> omega)
   obtain ⟨_, hcl, hat⟩ := World.cells?_some hc
   obtain ⟨c, hf, rfl⟩ := cell_open hcl ht
   have e0 := hat 0 (by omega)
   have e1 := hat 1 (by omega)
   have e2 := hat 2 (by omega)
   rw [add_add] at e0 e1 e2
   exact ⟨c, hf, e0, e1, e2⟩)
  refine ⟨xs, hxl.symm, by omega, ?_, fun c hc => ?_⟩
  ·rcases Nat.eq_zero_or_pos len with h0 | h0
   ·exact .inl (List.length_eq_zero_iff.1 (by omega))
   ·obtain ⟨b, off, spot⟩ := ad
    obtain ⟨_, h1, _, _⟩ := hxs 0 (xs[0]'(by omega)) (List.getElem?_eq_getElem (by omega))
    have hspot : spot = none := by simpa [Addr.add] using World.cell?_spot h1
    subst hspot
    refine .inr ⟨b, off, rfl, fun i c hic => ?_⟩
    have e : ∀ k, ({ block := b, off := off } : Addr).add k = ⟨b, off + k, none⟩ := fun k => by simp [Addr.add]
    have h3 := (hxs i c hic).2
    rw [e, e, e, ← Nat.add_assoc, ← Nat.add_assoc] at h3
    exact h3
  ·obtain ⟨i, hi', hic⟩ := List.mem_iff_getElem.1 hc
   exact (hxs i c (by rw [← hic]; exact List.getElem?_eq_getElem hi')).1
end
end Go.Proofs.Ytnhnedifekejpaa
namespace Go.Proofs.Ytnhnedifekejpaa
open Go.RowKit Go.ChangeShapes Go.WideShapes Go.Deep
section
variable {H : Type} {enc : TypeId × Value → H} {w : World} {base : Nat} {spare : Nat → Bool} {held : Bool}
theorem slice_form {n : Nat} {cs : List Value} {x : DataW H × List MemPlace} (h : DataW.trod enc Try.prog w base spare held n 51 cs = some x) : ∃ a len cap, cs = [.slice a len cap] := by
 rcases open_slice Try.underlying51 h with ⟨hcs, _⟩ | ⟨ad, len', cap', m, n', D, Pl, hcs, _⟩
 ·exact ⟨_, _, _, hcs⟩
 ·exact ⟨_, _, _, hcs⟩
end
end Go.Proofs.Ytnhnedifekejpaa
namespace Go.Proofs.Ytnhnedifekejpaa
open Go.RowKit Go.ChangeShapes Go.WideShapes Go.Deep Go.Joins
theorem list_pick {α : Type} : ∀ (n : Nat) (p : Nat → α → Prop), (∀ i, i < n → ∃ c, p i c) → ∃ xs : List α, xs.length = n ∧ ∀ i c, xs[i]? = some c → p i c
 | 0, p, h => ⟨[], rfl, fun i c hi => by simp at hi⟩
 | n + 1, p, h => by
  obtain ⟨xs, hl, hp⟩ := list_pick n p (fun i hi => h i (by omega))
  obtain ⟨c, hc⟩ := h n (by omega)
  refine ⟨xs ++ [c], by simp [hl], fun i d hi => ?_⟩
  rcases Nat.lt_or_ge i n with h1 | h1
  ·rw [List.getElem?_append_left (by omega)] at hi
   exact hp i d hi
  ·obtain ⟨h2, _⟩ := List.getElem?_eq_some_iff.1 hi
   simp [hl] at h2
   obtain rfl : i = n := by omega
   rw [List.getElem?_append_right (by omega), hl, Nat.sub_self] at hi
   simp at hi
   subst hi
   exact hc
theorem SIn.more {w : World} : ∀ {d e : Nat} {s : SV}, d ≤ e → SIn w d s → SIn w e s
 | 0, _, _, _, h => h.elim
 | d + 1, 0, _, hl, _ => by omega
 | d + 1, e + 1, .mk f ps, hl, ⟨h1, h2, h3⟩ => ⟨h1, h2, fun p hp => SIn.more (by omega) (h3 p hp)⟩
theorem WIn.more {w : World} : ∀ {d e : Nat} {s : WV}, d ≤ e → WIn w d s → WIn w e s
 | 0, _, _, _, h => h.elim
 | d + 1, 0, _, hl, _ => by omega
 | d + 1, e + 1, .mk f ps, hl, ⟨h0, h1, h2, h3⟩ => ⟨h0, h1, h2, fun p hp => WIn.more (by omega) (h3 p hp)⟩
theorem six_len {cs : List Value} (h : cs.length = 6) : ∃ a b c d e f, cs = [a, b, c, d, e, f] := by
 match cs, h with
 | [a, b, c, d, e, f], _ => exact ⟨a, b, c, d, e, f, rfl⟩
section
variable {H : Type} {enc : TypeId × Value → H} {w : World} {base : Nat} {spare : Nat → Bool} {held : Bool}
theorem space_in : ∀ (fuel : Nat) {cs : List Value} {x : DataW H × List MemPlace}, DataW.trod enc Try.prog w base spare held fuel 25 cs = some x → ∃ s : SV, cs = [.int .i64 s.f.tag, .int .i64 s.f.dim, .slice s.f.a s.f.len s.f.cap] ∧ SIn w fuel s := by
 intro fuel
 induction fuel using Nat.strongRecOn with
 | _ fuel ih =>
 intro cs x h
 obtain ⟨xs, n, hn, _, hl, hlen, hg⟩ := DataW.trod_struct Try.underlying25 h
 rw [show Try.prog.cellsOf 25 = 3 by kernel_rfl] at hl
 obtain ⟨a, b, c, rfl⟩ := three_len hl
 have hlen3 : xs.length = 3 := hlen
 have g0 := hg 0 _ rfl
 have g1 := hg 1 _ rfl
 have g2 := hg 2 _ rfl
 rw [show Try.prog.cellsOf _ = 1 by kernel_rfl, List.getElem?_eq_getElem (by omega)] at g0 g1 g2
 obtain ⟨z0, e0, _, w0⟩ := DataW.trod_int (k := .i64) (by kernel_rfl) g0
 obtain ⟨z1, e1, _, w1⟩ := DataW.trod_int (k := .i64) (by kernel_rfl) g1
 simp at e0 e1
 subst e0 e1
 rcases DataW.trod_slice Try.underlying23 g2 with ⟨hcs, _⟩ | ⟨ad, len, cap, elems, rest, n', hn', hcs, _, hb, hle, hcap, hel, hi, _, _⟩
 ·simp at hcs
  subst hcs
  subst hn
  exact ⟨.mk ⟨z0, z1, none, 0, 0⟩ [], rfl, rfl, .inl rfl, fun p hp => by cases hp⟩
 ·simp at hcs
  subst hcs
  subst hn
  rw [show Try.prog.cellsOf 25 = 3 by kernel_rfl] at hi
  obtain ⟨ps, hpl, hps⟩ := list_pick len (fun i (p : SV) => (w.cell? (ad.add (i * 3)) = some (.int .i64 p.f.tag) ∧ w.cell? (ad.add (i * 3 + 1)) = some (.int .i64 p.f.dim) ∧ w.cell? (ad.add (i * 3 + 2)) = some (.slice p.f.a p.f.len p.f.cap)) ∧ SIn w n' p) (fun i hil => by
   have hii := hi i hil
   rw [List.getElem?_eq_getElem (by omega)] at hii
   obtain ⟨cs', hc, ht⟩ := Option.bind_eq_some_iff.1 hii
   obtain ⟨_, hcl, hat⟩ := World.cells?_some hc
   obtain ⟨s, rfl, hs⟩ := ih n' (by omega) ht
   have e0 := hat 0 (by omega)
   have e1 := hat 1 (by omega)
   have e2 := hat 2 (by omega)
   rw [Go.Deep.add_add] at e0 e1 e2
   exact ⟨s, ⟨e0, e1, e2⟩, hs⟩)
  refine ⟨.mk ⟨z0, z1, some ad, len, cap⟩ ps, rfl, hpl, ?_, fun p hp => ?_⟩
  ·rcases Nat.eq_zero_or_pos len with h0 | h0
   ·exact .inl (List.length_eq_zero_iff.1 (by omega))
   ·obtain ⟨b, off, spot⟩ := ad
    obtain ⟨⟨h1, _, _⟩, _⟩ := hps 0 (ps[0]'(by omega)) (List.getElem?_eq_getElem (by omega))
    have hspot : spot = none := by simpa [Addr.add] using World.cell?_spot h1
    subst hspot
    refine .inr ⟨b, off, rfl, fun i c hic => ?_⟩
    have e : ∀ k, ({ block := b, off := off } : Addr).add k = ⟨b, off + k, none⟩ := fun k => by simp [Addr.add]
    have h3 := (hps i c hic).1
    rw [e, e, e, ← Nat.add_assoc, ← Nat.add_assoc] at h3
    exact h3
  ·obtain ⟨i, hi', hic⟩ := List.mem_iff_getElem.1 hp
   exact (hps i p (by rw [← hic]; exact List.getElem?_eq_getElem hi')).2.more (by omega)
theorem u64s_open {n : Nat} {v : Value} {x : DataW H × List MemPlace} (h : DataW.trod enc Try.prog w base spare held n 48 [v] = some x) :
  ∃ (a : Option Addr) (len cap : Nat) (rows : List Nat), v = .slice a len cap ∧ VRow w a (u64s rows) ∧ rows.length = len ∧ ∀ r ∈ rows, r < 18446744073709551616 := by
 rcases open_ints (t := 48) (e := 47) (k := .u64) (by kernel_rfl) (by kernel_rfl) (by kernel_rfl) h with ⟨hcs, _⟩ | ⟨x, len, cap, zs, hcs, _, hl, hm, hz, _, hcell, hwz⟩
 ·have hcs' : v = .slice none 0 0 := by simpa using hcs
  subst hcs'
  exact ⟨none, 0, 0, [], rfl, .inl rfl, rfl, fun r hr => by cases hr⟩
 ·have hcs' : v = .slice (some x) len cap := by simpa using hcs
  subst hcs'
  have hzl : len ≤ zs.length := by rw [hz]; split <;> omega
  refine ⟨some x, len, cap, (zs.take len).map Int.toNat, rfl, ?_, ?_, ?_⟩
  ·rcases Nat.eq_zero_or_pos len with h0 | h0
   ·subst h0; exact .inl (by simp [u64s])
   ·obtain ⟨b, off, spot⟩ := x
    have hc0 := hcell 0 (by omega)
    have hspot : spot = none := by simpa [Addr.add] using World.cell?_spot hc0
    subst hspot
    refine .inr ⟨b, off, rfl, fun i v hi => ?_⟩
    obtain ⟨q, hq, rfl⟩ := u64s_at hi
    rw [List.getElem?_map, List.getElem?_take] at hq
    split at hq
    ·rename_i hlt
     have hi2 : i < zs.length := by omega
     rw [List.getElem?_eq_getElem hi2] at hq
     have hq' : (zs[i]).toNat = q := by simpa using hq
     obtain ⟨m, hm1, hm2⟩ := u64_nat (hwz _ (List.getElem_mem hi2))
     have hc := hcell i hi2
     have e : ({ block := b, off := off } : Addr).add i = ⟨b, off + i, none⟩ := by simp [Addr.add]
     rw [e] at hc
     rw [hc]
     have : zs.getD i 0 = zs[i] := by simp [List.getD, List.getElem?_eq_getElem hi2]
     rw [this, hm1, ← hq', hm1]
     rfl
    ·cases hq
  ·simp; omega
  ·intro r hr
   obtain ⟨z, hz1, rfl⟩ := List.mem_map.1 hr
   obtain ⟨m, hm1, hm2⟩ := u64_nat (hwz z (List.mem_of_mem_take hz1))
   rw [hm1]; exact hm2
theorem facts_in {n : Nat} {a b : Value} {x : DataW H × List MemPlace} (h : DataW.trod enc Try.prog w base spare held n 50 [a, b] = some x) :
  ∃ (g : Nat) (ra : Option Addr) (rl rc : Nat) (rows : List Nat), a = .int .u64 (g : Int) ∧ b = .slice ra rl rc ∧ g < 18446744073709551616 ∧ VRow w ra (u64s rows) ∧ rows.length = rl ∧ ∀ r ∈ rows, r < 18446744073709551616 := by
 obtain ⟨xs, n', _, _, hl, hlen, hg⟩ := DataW.trod_struct Try.underlying50 h
 have hlen2 : xs.length = 2 := hlen
 have g0 := hg 0 _ rfl
 have g1 := hg 1 _ rfl
 rw [show Try.prog.cellsOf _ = 1 by kernel_rfl, List.getElem?_eq_getElem (by omega)] at g0 g1
 obtain ⟨z0, e0, _, w0⟩ := DataW.trod_int (k := .u64) (by kernel_rfl) g0
 simp at e0
 subst e0
 obtain ⟨g, rfl, hg64⟩ := u64_nat w0
 obtain ⟨ra, rl, rc, rows, e1, h1, h2, h3⟩ := u64s_open (v := b) g1
 exact ⟨g, ra, rl, rc, rows, rfl, e1, hg64, h1, h2, h3⟩
theorem weight_in : ∀ (fuel : Nat) {cs : List Value} {x : DataW H × List MemPlace}, DataW.trod enc Try.prog w base spare held fuel 54 cs = some x → ∃ s : WV, cs = s.f.six ∧ WIn w fuel s := by
 intro fuel
 induction fuel using Nat.strongRecOn with
 | _ fuel ih =>
 intro cs x h
 obtain ⟨xs, n, hn, _, hl, hlen, hg⟩ := DataW.trod_struct Try.underlying54 h
 rw [show Try.prog.cellsOf 54 = 6 by kernel_rfl] at hl
 obtain ⟨a, b, c, d, e, f, rfl⟩ := six_len hl
 have hlen5 : xs.length = 5 := hlen
 have g0 := hg 0 _ rfl
 have g1 := hg 1 _ rfl
 have g2 := hg 2 _ rfl
 have g3 := hg 3 _ rfl
 have g4 := hg 4 _ rfl
 rw [show Try.prog.cellsOf _ = 1 by kernel_rfl, List.getElem?_eq_getElem (by omega)] at g0 g1 g3 g4
 rw [show Try.prog.cellsOf _ = 2 by kernel_rfl, List.getElem?_eq_getElem (by omega)] at g2
 obtain ⟨z0, e0, _⟩ := DataW.trod_bool (by kernel_rfl) g0
 obtain ⟨z1, e1, _, w1⟩ := DataW.trod_int (k := .i64) (by kernel_rfl) g1
 simp at e0 e1
 subst e0 e1
 obtain ⟨gg, ra, rl, rc, rows, rfl, rfl, hg64, hrow, hrl, hr64⟩ := facts_in (a := c) (b := d) g2
 obtain ⟨ca, cl, cc, e3⟩ := slice_form g3
 have e3' : e = .slice ca cl cc := by simpa using e3
 subst e3'
 obtain ⟨cells, hcl, hcm, hcrow, hcbits⟩ := cells_open (a := ca) (len := cl) (cap := cc) g3
 rcases DataW.trod_slice Try.underlying52 g4 with ⟨hcs, _⟩ | ⟨ad, len, cap, elems, rest, n', hn', hcs, _, hb, hle, hcap, hel, hi, _, _⟩
 ·simp at hcs
  subst hcs
  subst hn
  exact ⟨.mk ⟨z0, z1, gg, ra, rl, rc, rows, ca, cl, cc, cells, none, 0, 0⟩ [], rfl, ⟨hrow, hrl, hg64, hr64, hcrow, hcl.symm, hcbits, by dsimp only; omega⟩, rfl, .inl rfl, fun p hp => by cases hp⟩
 ·simp at hcs
  subst hcs
  subst hn
  rw [show Try.prog.cellsOf 54 = 6 by kernel_rfl] at hi
  obtain ⟨ps, hpl, hps⟩ := list_pick len (fun i (p : WV) => (w.cell? (ad.add (i * 6)) = some (.bool p.f.z) ∧ w.cell? (ad.add (i * 6 + 1)) = some (.int .i64 p.f.c) ∧ w.cell? (ad.add (i * 6 + 2)) = some (.int .u64 (p.f.g : Int)) ∧ w.cell? (ad.add (i * 6 + 3)) = some (.slice p.f.ra p.f.rl p.f.rc) ∧ w.cell? (ad.add (i * 6 + 4)) = some (.slice p.f.ca p.f.cl p.f.cc) ∧ w.cell? (ad.add (i * 6 + 5)) = some (.slice p.f.pa p.f.pl p.f.pc)) ∧ WIn w n' p) (fun i hil => by
   have hii := hi i hil
   rw [List.getElem?_eq_getElem (by omega)] at hii
   obtain ⟨cs', hc, ht⟩ := Option.bind_eq_some_iff.1 hii
   obtain ⟨_, hcl, hat⟩ := World.cells?_some hc
   obtain ⟨s, rfl, hs⟩ := ih n' (by omega) ht
   have e0 := hat 0 (by omega)
   have e1 := hat 1 (by omega)
   have e2 := hat 2 (by omega)
   have e3 := hat 3 (by omega)
   have e4 := hat 4 (by omega)
   have e5 := hat 5 (by omega)
   rw [Go.Deep.add_add] at e0 e1 e2 e3 e4 e5
   exact ⟨s, ⟨e0, e1, e2, e3, e4, e5⟩, hs⟩)
  refine ⟨.mk ⟨z0, z1, gg, ra, rl, rc, rows, ca, cl, cc, cells, some ad, len, cap⟩ ps, rfl, ⟨hrow, hrl, hg64, hr64, hcrow, hcl.symm, hcbits, by dsimp only; omega⟩, hpl, ?_, fun p hp => ?_⟩
  ·rcases Nat.eq_zero_or_pos len with h0 | h0
   ·exact .inl (List.length_eq_zero_iff.1 (by omega))
   ·obtain ⟨b, off, spot⟩ := ad
    obtain ⟨⟨h1, _⟩, _⟩ := hps 0 (ps[0]'(by omega)) (List.getElem?_eq_getElem (by omega))
    have hspot : spot = none := by simpa [Addr.add] using World.cell?_spot h1
    subst hspot
    refine .inr ⟨b, off, rfl, fun i c hic => ?_⟩
    have e : ∀ k, ({ block := b, off := off } : Addr).add k = ⟨b, off + k, none⟩ := fun k => by simp [Addr.add]
    have h3 := (hps i c hic).1
    rw [e, e, e, e, e, e, ← Nat.add_assoc, ← Nat.add_assoc, ← Nat.add_assoc, ← Nat.add_assoc, ← Nat.add_assoc] at h3
    exact h3
  ·obtain ⟨i, hi', hic⟩ := List.mem_iff_getElem.1 hp
   exact (hps i p (by rw [← hic]; exact List.getElem?_eq_getElem hi')).2.more (by omega)
end
end Go.Proofs.Ytnhnedifekejpaa
namespace Go.Proofs.Ytnhnedifekejpaa
open Go.RowKit Go.ChangeShapes Go.WideShapes Go.Deep Go.Joins
theorem ten_len {cs : List Value} (h : cs.length = 10) : ∃ a b c d e f g i j k, cs = [a, b, c, d, e, f, g, i, j, k] := by
 match cs, h with
 | [a, b, c, d, e, f, g, i, j, k], _ => exact ⟨a, b, c, d, e, f, g, i, j, k, rfl⟩
theorem cellsAt_of {w : World} {b : Nat} : ∀ (vs : List Value) (o : Nat), (∀ (j : Nat) u, vs[j]? = some u → w.cell? ⟨b, o + j, none⟩ = some u) → CellsAt w b o vs
 | [], _, _ => trivial
 | v :: vs, o, h => ⟨h 0 v rfl, cellsAt_of vs (o + 1) fun j u hj => by have := h (j + 1) u (by simpa using hj); rwa [show o + 1 + j = o + (j + 1) by omega]⟩
section
variable {H : Type} {enc : TypeId × Value → H} {w : World} {base : Nat} {spare : Nat → Bool} {held : Bool}
theorem ints_in {n : Nat} {v : Value} {x : DataW H × List MemPlace} (h : DataW.trod enc Try.prog w base spare held n 30 [v] = some x) :
  ∃ (a : Option Addr) (len cap : Nat) (zs : List Int), v = .slice a len cap ∧ Row w a zs ∧ zs.length = len ∧ len ≤ cap ∧ cap ≤ maxLen := by
 rcases open_ints (t := 30) (e := 3) (k := .i64) (by kernel_rfl) (by kernel_rfl) (by kernel_rfl) h with ⟨hcs, _⟩ | ⟨x, len, cap, zs, hcs, _, hl, hm, hz, _, hcell, hwz⟩
 ·have hcs' : v = .slice none 0 0 := by simpa using hcs
  subst hcs'
  exact ⟨none, 0, 0, [], rfl, .inl rfl, rfl, Nat.le_refl _, Nat.zero_le _⟩
 ·have hcs' : v = .slice (some x) len cap := by simpa using hcs
  subst hcs'
  have hzl : len ≤ zs.length := by rw [hz]; split <;> omega
  refine ⟨some x, len, cap, zs.take len, rfl, ?_, by simp; omega, hl, hm⟩
  rcases Nat.eq_zero_or_pos len with h0 | h0
  ·subst h0; exact .inl (by simp)
  ·obtain ⟨b, off, spot⟩ := x
   have hc0 := hcell 0 (by omega)
   have hspot : spot = none := by simpa [Addr.add] using World.cell?_spot hc0
   subst hspot
   refine .inr ⟨b, off, rfl, fun i hi => ?_⟩
   have hi1 : i < len := by simp at hi; omega
   have hi2 : i < zs.length := by omega
   have hc := hcell i hi2
   have e : ({ block := b, off := off } : Addr).add i = ⟨b, off + i, none⟩ := by simp [Addr.add]
   rw [e] at hc
   rw [hc]
   simp [List.getD, List.getElem?_take, hi1]
end
end Go.Proofs.Ytnhnedifekejpaa
namespace Go.Proofs.Ytnhnedifekejpaa
open Go.RowKit Go.ChangeShapes Go.WideShapes Go.Deep Go.Joins
structure PvCap (p : PV) : Prop where
 s : p.s.f.len ≤ p.s.f.cap
 r : ∀ r ∈ p.rs, r.wl ≤ r.wc
 rl : p.rl ≤ 9223372036854775807
section
variable {H : Type} {enc : TypeId × Value → H} {w : World} {base : Nat} {spare : Nat → Bool} {held : Bool}
theorem space_cap {n : Nat} {sf : SF} {x : DataW H × List MemPlace} (h : DataW.trod enc Try.prog w base spare held n 25 [.int .i64 sf.tag, .int .i64 sf.dim, .slice sf.a sf.len sf.cap] = some x) : sf.len ≤ sf.cap := by
 obtain ⟨xs, n', hn, _, hl, hlen, hg⟩ := DataW.trod_struct Try.underlying25 h
 have hlen3 : xs.length = 3 := hlen
 have g2 := hg 2 _ rfl
 rw [show Try.prog.cellsOf _ = 1 by kernel_rfl, List.getElem?_eq_getElem (by omega)] at g2
 rcases DataW.trod_slice Try.underlying23 g2 with ⟨hcs, _⟩ | ⟨ad, len, cap, elems, rest, n2, hn2, hcs, _, hb, hle, hcap, hel, hi, _, _⟩
 ·simp at hcs
  omega
 ·simp at hcs
  obtain ⟨_, rfl, rfl⟩ := hcs
  omega
theorem rule_in2 {n : Nat} {cs : List Value} {x : DataW H × List MemPlace} (h : DataW.trod enc Try.prog w base spare held n 56 cs = some x) : ∃ r : RV, cs = r.ten ∧ RIn w n r ∧ r.wl ≤ r.wc := by
 obtain ⟨xs, n', hn, _, hl, hlen, hg⟩ := DataW.trod_struct Try.underlying56 h
 rw [show Try.prog.cellsOf 56 = 10 by kernel_rfl] at hl
 obtain ⟨a, b, c, d, e, f, g, i, j, k, rfl⟩ := ten_len hl
 have hlen5 : xs.length = 5 := hlen
 have g0 := hg 0 _ rfl
 have g1 := hg 1 _ rfl
 have g2 := hg 2 _ rfl
 have g3 := hg 3 _ rfl
 have g4 := hg 4 _ rfl
 rw [show Try.prog.cellsOf _ = 1 by kernel_rfl, List.getElem?_eq_getElem (by omega)] at g0 g1 g2 g3
 rw [show Try.prog.cellsOf _ = 6 by kernel_rfl, List.getElem?_eq_getElem (by omega)] at g4
 obtain ⟨z0, e0, _, w0⟩ := DataW.trod_int (k := .i64) (by kernel_rfl) g0
 obtain ⟨z1, e1, _, w1⟩ := DataW.trod_int (k := .i64) (by kernel_rfl) g1
 obtain ⟨z2, e2, _, w2⟩ := DataW.trod_int (k := .i64) (by kernel_rfl) g2
 simp at e0 e1 e2
 subst e0 e1 e2
 obtain ⟨ra, rl, rc, ws, rfl, hrow, hrl, hcap9, _⟩ := ints_in (v := d) g3
 obtain ⟨s, e4, hs⟩ := weight_in n' g4
 have e4' : [e, f, g, i, j, k] = s.f.six := by simpa using e4
 simp only [List.cons.injEq, and_true] at e4'
 obtain ⟨rfl, rfl, rfl, rfl, rfl, rfl⟩ := e4'
 exact ⟨⟨z0, z1, z2, ra, rl, rc, ws, s⟩, rfl, ⟨hrow, hrl, hs.more (by omega)⟩, hcap9⟩
theorem pds_in2 {n : Nat} {cs : List Value} {x : DataW H × List MemPlace} (h : DataW.trod enc Try.prog w base spare held n 28 cs = some x) : ∃ p : PV, cs = p.six ∧ PvIn w n n p ∧ PvCap p := by
 obtain ⟨xs, n', hn, _, hl, hlen, hg⟩ := DataW.trod_struct Try.underlying28 h
 rw [show Try.prog.cellsOf 28 = 6 by kernel_rfl] at hl
 obtain ⟨a, b, c, d, e, f, rfl⟩ := six_len hl
 have hlen4 : xs.length = 4 := hlen
 have g0 := hg 0 _ rfl
 have g1 := hg 1 _ rfl
 have g2 := hg 2 _ rfl
 have g3 := hg 3 _ rfl
 rw [show Try.prog.cellsOf _ = 3 by kernel_rfl, List.getElem?_eq_getElem (by omega)] at g0
 rw [show Try.prog.cellsOf _ = 1 by kernel_rfl, List.getElem?_eq_getElem (by omega)] at g1 g2 g3
 obtain ⟨s, es, hs⟩ := space_in n' g0
 have es' : [a, b, c] = [.int .i64 s.f.tag, .int .i64 s.f.dim, .slice s.f.a s.f.len s.f.cap] := by simpa using es
 simp only [List.cons.injEq, and_true] at es'
 obtain ⟨rfl, rfl, rfl⟩ := es'
 obtain ⟨z1, e1, _, w1⟩ := DataW.trod_int (k := .i64) (by kernel_rfl) g1
 obtain ⟨z2, e2, _, w2⟩ := DataW.trod_int (k := .i64) (by kernel_rfl) g2
 simp at e1 e2
 subst e1 e2
 rcases DataW.trod_slice Try.underlying26 g3 with ⟨hcs, _⟩ | ⟨ad, len, cap, elems, rest, n2, hn2, hcs, _, hb, hle, hcap, hel, hi, _, _⟩
 ·simp at hcs
  subst hcs
  exact ⟨⟨s, z1, z2, none, 0, 0, []⟩, rfl, ⟨hs.more (by omega), .inl rfl, rfl, fun r hr => by cases hr⟩, space_cap g0, (fun r hr => by cases hr), Nat.zero_le _⟩
 ·simp at hcs
  subst hcs
  rw [show Try.prog.cellsOf 56 = 10 by kernel_rfl] at hi
  obtain ⟨rs, hrl, hrs⟩ := list_pick len (fun i (r : RV) => (∀ (j : Nat) u, r.ten[j]? = some u → w.cell? (ad.add (i * 10 + j)) = some u) ∧ RIn w n2 r ∧ r.wl ≤ r.wc) (fun i hil => by
   have hii := hi i hil
   rw [List.getElem?_eq_getElem (by omega)] at hii
   obtain ⟨cs', hc, ht⟩ := Option.bind_eq_some_iff.1 hii
   obtain ⟨_, hcl, hat⟩ := World.cells?_some hc
   obtain ⟨r, rfl, hr, hr9⟩ := rule_in2 ht
   refine ⟨r, fun j u hj => ?_, hr, hr9⟩
   have hj10 : j < 10 := (List.getElem?_eq_some_iff.1 hj).1
   have h0 := hat j (by omega)
   rw [Go.Deep.add_add] at h0
   rw [h0]; exact hj)
  refine ⟨⟨s, z1, z2, some ad, len, cap, rs⟩, rfl, ⟨hs.more (by omega), ?_, hrl, fun r hr => ?_⟩, space_cap g0, fun r hr => ?_, by simp only [maxLen] at hcap hle; dsimp only; omega⟩
  ·rcases Nat.eq_zero_or_pos len with h0 | h0
   ·exact .inl (List.length_eq_zero_iff.1 (by dsimp only; omega))
   ·obtain ⟨b, off, spot⟩ := ad
    have h1 := (hrs 0 (rs[0]'(by omega)) (List.getElem?_eq_getElem (by omega))).1 0 _ rfl
    have hspot : spot = none := by simpa [Addr.add] using World.cell?_spot h1
    subst hspot
    refine .inr ⟨b, off, rfl, fun i r hir => cellsAt_of _ _ fun j u hj => ?_⟩
    have h3 := (hrs i r hir).1 j u hj
    have e : ∀ k, ({ block := b, off := off } : Addr).add k = ⟨b, off + k, none⟩ := fun k => by simp [Addr.add]
    rw [e, ← Nat.add_assoc] at h3
    exact h3
  ·obtain ⟨i, hi', hic⟩ := List.mem_iff_getElem.1 hr
   have h4 := (hrs i r (by rw [← hic]; exact List.getElem?_eq_getElem hi')).2.1
   exact ⟨h4.row, h4.len, h4.x.more (by omega)⟩
  ·obtain ⟨i, hi', hic⟩ := List.mem_iff_getElem.1 hr
   exact (hrs i r (by rw [← hic]; exact List.getElem?_eq_getElem hi')).2.2
theorem pds_open2 {r : Reach} {b0 : Nat} {v : Value} {d : DataW H} {p : List MemPlace} (hv : Value.okWide Try.prog w r b0 28 v) (h : DataW.Trod enc Try.prog w base spare held 28 v d p) :
  ∃ (n : Nat) (s : PV), v = s.val ∧ PvIn w n n s ∧ PvCap s := by
 obtain ⟨cs, rfl, _⟩ := okWide_struct Try.underlying28 hv
 obtain ⟨n, h⟩ := h
 obtain ⟨s, e, hs⟩ := pds_in2 (n := n) h
 have e' : cs.toList = _ := e
 exact ⟨n, s, by show Value.agg cs = Value.agg _; congr 1; exact Array.ext' e', hs⟩
end
end Go.Proofs.Ytnhnedifekejpaa
namespace Go.Proofs.Ytnhnedifekejpaa
open Go Go.RowKit
theorem goes_10 : goesIn Try.prog 10 = true := by kernel_rfl
theorem goes_11 : goesIn Try.prog 11 = true := by kernel_rfl
theorem goes_12 : goesIn Try.prog 12 = true := by kernel_rfl
theorem goes_9 : goesIn Try.prog 9 = true := by kernel_rfl
theorem topA_is {ds d : Nat} {p : PV} {a b : Int} {w : World} (hp : PvIn w ds d p) : Calls Try.prog 10 #[p.val, .int .i64 a, .int .i64 b] w (TopRet (topE p a b) w) := topA_c ds d p.s p.st p.sy p.ra p.rl p.rc p.rs a b w hp.s hp.row hp.len hp.rin
theorem topR_is {ds d : Nat} {p : PV} {a b : Int} {w : World} (hp : PvIn w ds d p) : Calls Try.prog 11 #[p.val, .int .i64 a, .int .i64 b] w (TopRet (topE p a b) w) := topR_c ds d p.s p.st p.sy p.ra p.rl p.rc p.rs a b w hp.s hp.row hp.len hp.rin
theorem topRet_pair {X : List Int × Int} {tl : List Int} {te : Int} {w w' : World} {e : Ending} (hX : X = (tl, te)) (h : TopRet X w e w') : ∃ a c, e = .returned (.tuple #[.slice a tl.length c, .int .i64 te]) ∧ RowN w.heap.size w' a c tl ∧ Below w.heap.size w w' := by
 subst hX; exact h
theorem pdsTops_walk0 (ds d : Nat) (p : PV) (pa pb : Int) (w : World) (hp : PvIn w (ds + 1) d p) (hc : PvCap9 p) (hrm : p.rl ≤ 9223372036854775807) (ht : Tabs w) :
  Calls Try.prog 3 #[p.val, .int .i64 pa, .int .i64 pb] w (fun e w' => e = .returned (.bool (true)) ∧ Below w.heap.size w w') := by
 refine enterF (args := [p.val, .int .i64 pa, .int .i64 pb]) Try.func3 rfl Try.ntmps3 rfl ?_
 have hS := St.start w
 refine seqF (regF ?_)
 refine op_box (cs := [_, _, _, _, _, _]) hS rfl rfl rfl ?_
 clear hS; intro B1 W1 hS
 refine op_assign rfl rfl ?_
 refine endF (XF.thenN ?_)
 refine seqF (regF ?_)
 refine op_loadA (vs := [_, _, _, _, _, _]) Try.isAgg28 Try.sizeOf28 rfl (CellsAt.own (j := 0) (m := 6) (hS.at_ 0 rfl) rfl) rfl ?_
 refine op_call (vs := [_]) hS goes_9 rfl (pcut_is hS.below hp hc hrm) rfl ?_
 rintro e W2 ⟨q, rfl, hq, hb⟩
 refine ⟨_, rfl, hb, fun hS' => ?_⟩
 clear hS; have hS := hS'; clear hS'
 clear hb
 have HQ : Held w [(W1.heap.size, W2)] (fun W2 => PvIn W2 (ds + 1) d q) := fun h2 hk => hq.far _ h2.below (h2.kept _ (hk _ List.mem_cons_self)).1
 obtain ⟨⟨tl, te⟩, hX⟩ : ∃ X, topE q pa pb = X := ⟨_, rfl⟩
 refine op_storeA (i := 0) (vs := [_, _, _, _, _, _]) (cs' := [_, _, _, _, _, _]) (O' := [_]) hS Try.sizeOf28 rfl rfl rfl rfl rfl rfl rfl ?_
 clear hS; intro W3 hS
 refine endF (XF.thenN ?_)
 refine seqF (regF ?_)
 refine op_loadA (vs := [_, _, _, _, _, _]) Try.isAgg28 Try.sizeOf28 rfl (CellsAt.own (j := 0) (m := 6) (hS.at_ 0 rfl) rfl) rfl ?_
 refine op_move rfl rfl ?_
 refine op_move rfl rfl ?_
 refine op_call (vs := [_, _, _]) hS goes_10 rfl ((topA_is (HQ hS (fun z hz => by simp at hz; subst hz; simp))).mono fun e w2 h => topRet_pair hX h) rfl ?_
 rintro e W4 ⟨a1, c1, rfl, hn1, hb⟩
 refine ⟨_, rfl, hb, fun hS' => ?_⟩
 clear hS; have hS := hS'; clear hS' hb
 refine op_move rfl rfl ?_
 refine op_extract rfl rfl rfl ?_
 refine op_extract rfl rfl rfl ?_
 refine op_assign rfl rfl ?_
 refine op_assign rfl rfl ?_
 refine endF (XF.thenN ?_)
 refine seqF (regF ?_)
 refine op_loadA (vs := [_, _, _, _, _, _]) Try.isAgg28 Try.sizeOf28 rfl (CellsAt.own (j := 0) (m := 6) (hS.at_ 0 rfl) rfl) rfl ?_
 refine op_move rfl rfl ?_
 refine op_move rfl rfl ?_
 refine op_call (vs := [_, _, _]) hS goes_11 rfl ((topR_is (HQ hS (fun z hz => by simp at hz; subst hz; simp))).mono fun e w2 h => topRet_pair hX h) rfl ?_
 rintro e W5 ⟨a2, c2, rfl, hn2, hb⟩
 refine ⟨_, rfl, hb, fun hS' => ?_⟩
 clear hS; have hS := hS'; clear hS' hb
 refine op_move rfl rfl ?_
 refine op_extract rfl rfl rfl ?_
 refine op_extract rfl rfl rfl ?_
 refine op_assign rfl rfl ?_
 refine op_assign rfl rfl ?_
 refine endF (XF.thenN ?_)
 refine seqF ?_
 refine seqF ?_
 have hm1 := hn1.agree (hS.since 1 rfl)
 have hm2 := hn2.agree (hS.since 0 rfl)
 have hll : tl.length ≤ 9223372036854775807 := by have h9 := rowN_lim9 hm1; simp only [maxLen] at h9; omega
 refine regF ?_
 refine op_move rfl rfl ?_
 refine op_len Try.underlying30 rfl rfl ?_
 refine op_move rfl rfl ?_
 refine op_len Try.underlying30 rfl rfl ?_
 refine op_neq rfl rfl rfl ?_
 refine op_move rfl rfl ?_
 refine op_cases (d := 33) rfl (fun hc => absurd (of_decide_eq_true hc) (by exact fun h => h rfl)) (fun hc => ?_)
 have hc := of_decide_eq_false hc
 refine op_wantedF (d := 33) rfl rfl ?_
 refine op_move rfl rfl ?_
 refine op_wantedF (d := 33) rfl rfl ?_
 refine op_move rfl rfl ?_
 refine op_wantedF (d := 33) rfl rfl ?_
 refine op_neq rfl rfl rfl ?_
 refine op_pickF rfl rfl rfl ?_
 refine endF (XF.thenN ?_)
 refine condF rfl (fun hc => absurd (of_decide_eq_true hc) (by exact fun h => h rfl)) (fun hc => ?_)
 have hc := of_decide_eq_false hc
 refine skipF ?_
 refine XF.thenN ?_
 refine seqF ?_
 refine seqF ?_
 have HR : Held w [(W4.heap.size, W5), (W3.heap.size, W4), (W1.heap.size, W2)] (fun W2 => RowN _ W2 a1 c1 tl ∧ RowN _ W2 a2 c2 tl) := fun h2 hk => ⟨hn1.agree (h2.kept (_, _) (hk _ (List.mem_cons_of_mem _ List.mem_cons_self))).1, hn2.agree (h2.kept (_, _) (hk _ List.mem_cons_self)).1⟩
 refine regF ?_
 refine op_assign rfl rfl ?_
 refine endF (XF.thenN ?_)
 refine blockF ?_
 refine loopF (fun m l W => ∃ (i : Nat) (lo1 lo2 : Nat) (Kk : List (Nat × World)), i ≤ tl.length ∧ m = tl.length - i ∧ l = [(3, .pointer (some ⟨B1, 0, none⟩)), (7, .slice a1 tl.length c1), (9, .slice a2 tl.length c2), (11, .int .i64 (i : Int))] ∧ Held w Kk (fun W2 => RowN lo1 W2 a1 c1 tl ∧ RowN lo2 W2 a2 c2 tl) ∧ St w [(B1, q.six, 28)] [] Kk W) (tl.length - 0) ([(3, _), (7, _), (9, _), (11, _)]) ⟨rfl, rfl, rfl, rfl, trivial⟩ (⟨0, _, _, _, Nat.zero_le _, rfl, rfl, HR.more (fun z hz => by simp at hz ⊢; rcases hz with rfl | rfl | rfl <;> simp), hS⟩) ?_
 clear hS
 rintro m l W ⟨i, lo1, lo2, Kk, hi, rfl, rfl, HR, hS⟩
 refine seqF ?_
 refine seqF (regF ?_)
 refine op_move rfl rfl ?_
 refine op_move rfl rfl ?_
 refine op_len Try.underlying30 rfl rfl ?_
 refine op_lss rfl rfl rfl ?_
 refine endF (XF.thenN ?_)
 refine condF rfl (fun hc => ?_) (fun hc => ?_)
 ·have hc41 := of_decide_eq_true hc; clear hc
  have hk : i < tl.length := by omega
  obtain ⟨y, hy⟩ : ∃ y, tl[i]? = some y := ⟨tl[i], by simp [hk]⟩
  obtain ⟨hw1, hw2⟩ := HR hS (fun z hz => hz)
  obtain ⟨b1, rfl⟩ := rowN_addr hw1 (by omega)
  obtain ⟨b2, rfl⟩ := rowN_addr hw2 (by omega)
  have k1 : W.cell? ⟨b1, 0 + i * 1, none⟩ = some (.int .i64 y) := by rw [Nat.zero_add, Nat.mul_one]; exact rowN_cell9 hw1 hy
  have k2 : W.cell? ⟨b2, 0 + i * 1, none⟩ = some (.int .i64 y) := by rw [Nat.zero_add, Nat.mul_one]; exact rowN_cell9 hw2 hy
  refine skipF ?_
  refine XF.thenN ?_
  refine seqF ?_
  refine blockF ?_
  refine seqF ?_
  refine regB (m := 9) followsM hS (by kernel_rfl) (by kernel_rfl) rfl ?_
  refine bl_cons 1 rfl (isV _) (stab_isV _) (rgV (li := [(7, _)]) rfl (w_free rfl) ⟨g_fr (by kernel_rfl) rfl, trivial⟩ (fun w hw => rn_move rfl) (at_top rfl)) ?_
  refine bl_cons 2 rfl (isV _) (stab_isV _) (rgV (li := [(11, _)]) rfl (w_free rfl) ⟨g_fr (by kernel_rfl) rfl, trivial⟩ (fun w hw => rn_move rfl) (at_top rfl)) ?_
  refine bl_cons 3 rfl (isV _) (stab_isV _) (rgV (li := [(44, _), (45, _)]) rfl (w_free rfl) ⟨g_dep 0 (by kernel_rfl) (at_dep rfl rfl rfl), g_dep 1 (by kernel_rfl) (at_dep rfl rfl rfl), trivial⟩ (fun w hw => rn_indexA  Try.underlying30 Try.sizeOf3 rfl rfl rfl (by omega) rfl) (at_top rfl)) ?_
  refine bl_cons 4 rfl (isV _) (stab_isV _) (rgV (li := [(46, _)]) rfl (w_free rfl) ⟨g_dep 2 (by kernel_rfl) (at_dep rfl rfl rfl), trivial⟩ (fun w hw => rn_load Try.isAgg3 rfl ((below_agree hw 0).cell (Nat.zero_le _) (k1))) (at_top rfl)) ?_
  refine bl_cons 5 rfl (isV _) (stab_isV _) (rgV (li := [(9, _)]) rfl (w_free rfl) ⟨g_fr (by kernel_rfl) rfl, trivial⟩ (fun w hw => rn_move rfl) (at_top rfl)) ?_
  refine bl_cons 6 rfl (isV _) (stab_isV _) (rgV (li := [(11, _)]) rfl (w_free rfl) ⟨g_fr (by kernel_rfl) rfl, trivial⟩ (fun w hw => rn_move rfl) (at_top rfl)) ?_
  refine bl_cons 7 rfl (isV _) (stab_isV _) (rgV (li := [(48, _), (49, _)]) rfl (w_free rfl) ⟨g_dep 4 (by kernel_rfl) (at_dep rfl rfl rfl), g_dep 5 (by kernel_rfl) (at_dep rfl rfl rfl), trivial⟩ (fun w hw => rn_indexA  Try.underlying30 Try.sizeOf3 rfl rfl rfl (by omega) rfl) (at_top rfl)) ?_
  refine bl_cons 8 rfl (isV _) (stab_isV _) (rgV (li := [(50, _)]) rfl (w_free rfl) ⟨g_dep 6 (by kernel_rfl) (at_dep rfl rfl rfl), trivial⟩ (fun w hw => rn_load Try.isAgg3 rfl ((below_agree hw 0).cell (Nat.zero_le _) (k2))) (at_top rfl)) ?_
  refine bl_cons 9 rfl (isV _) (stab_isV _) (rgV (li := [(47, _), (51, _)]) rfl (w_free rfl) ⟨g_dep 3 (by kernel_rfl) (at_dep rfl rfl rfl), g_dep 7 (by kernel_rfl) (at_dep rfl rfl rfl), trivial⟩ (fun w hw => rn_neq rfl rfl) (at_top rfl)) ?_
  refine bl_nil ?_
  intro W6 hbR hS'
  clear hS; have hS := hS'; clear hS'
  refine fin_v ?_
  refine fin_v ?_
  refine fin_v ?_
  refine fin_v ?_
  refine fin_v ?_
  refine fin_v ?_
  refine fin_v ?_
  refine fin_v ?_
  refine fin_v ?_
  refine fin_nil ?_
  refine XF.thenN ?_
  refine condF rfl (fun hc => absurd hc (by simp)) (fun hc => ?_)
  skip
  refine skipF ?_
  refine XF.blkN ?_
  refine XF.thenN ?_
  refine regF ?_
  refine op_move rfl rfl ?_
  refine op_add rfl rfl (IntWalk.i64_in _ (by omega)) rfl ?_
  refine op_assign rfl rfl ?_
  refine endF ?_
  exact XF.round (tl.length - (i + 1)) [(3, _), (7, _), (9, _), (11, _)] (by omega) ⟨rfl, rfl, rfl, rfl, trivial⟩ ⟨i + 1, lo1, lo2, _, by omega, rfl, rfl, HR.more (fun z hz => by simp [hz]), hS⟩
 ·have hc41 := of_decide_eq_false hc; clear hc
  refine exitF ?_
  refine XF.thenX ?_
  refine XF.thenX ?_
  refine XF.blkX ?_
  refine XF.thenN ?_
  refine seqF (regF ?_)
  refine op_call (vs := []) hS goes_12 rfl (alive_is _ (ht.below hS.below)) rfl ?_
  rintro e W7 ⟨rfl, hb⟩
  refine ⟨_, rfl, hb, fun hS' => ?_⟩
  clear hS; have hS := hS'; clear hS' hb
  refine op_assign rfl rfl ?_
  refine endF (XF.thenN ?_)
  refine retF ?_
  refine XF.res (res1 Try.results3 rfl) ?_
  exact ⟨rfl, hS.below⟩
theorem pdsTops_walk (n : Nat) (p : PV) (pa pb : Int) (w : World) (hp : PvIn w n n p ∧ PvCap p) (ha : (Lit.int .i64 pa).wf = true) (hb : (Lit.int .i64 pb).wf = true) : Calls Try.prog 3 #[p.val, .int .i64 pa, .int .i64 pb] w (fun e w' => e = .returned (.bool (true)) ∧ Below w.heap.size w w') := by
 cases n with
 | zero => exact hp.1.s.elim
 | succ n => exact pdsTops_walk0 n (n + 1) p pa pb w hp.1 ⟨hp.2.s, hp.2.r⟩ hp.2.rl (tabs_none w)
end Go.Proofs.Ytnhnedifekejpaa
