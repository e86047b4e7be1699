import Derived.Orders
import Derived.Below
import Derived.Deep.RegionHeld
import Derived.WalkKit
import Derived.KernelRfl
import Derived.Laws.Rows
import Derived.Laws.AppendOwn
import Derived.Laws.Strings
import Derived.Laws.Small
import Derived.Lib.Hide
import Derived.IntWalk
import Derived.Laws.Tables
import Derived.Laws.Concat
import Derived.Laws.MakeOwn
import Derived.Lib.OwnBridge
import Derived.WideKeyEntry
import Derived.DeepKeys4
import Derived.Lib.AppendZeros
import Derived.Test.YtnhnedifekejpaaProg
import Derived.Test.YtnhnedifekejpaaRows
import Derived.Lib.LaidTab
import Derived.Lib.ItoaNum
import Derived.Lib.TrailingZeros
import Derived.Stop.LaidErr
import Derived.WalkSmall
import Derived.LaidMore
import Derived.Shelf.Spec.TrailingZeros
import Derived.Laws.BitsAllLaws
import Derived.Laws.Bits64
import Derived.Deep.QuietTactic
import Derived.BigQuiet
import Derived.RegionTactic
import Derived.BigRegion
import Derived.Deep.RegionHeld3
import Derived.ChangeAlike
import Derived.RangeFuncNested
import Derived.RangeFuncBound
import Derived.RangeFuncCalls
import Derived.RangeFuncLeaves
import Derived.Shelf.Abstract
import Derived.Shelf.RegionOpen
import Derived.OwnWalkIn
import Derived.TacticsInMore
import Derived.LoopNIn
import Derived.LoopIn
import Derived.Laws.Bits128
import Derived.Deep.AppendLies
import Derived.Ground.Names2Prog
import Derived.Shelf.Slices.Clone
import Derived.Ground.SlgnProg
import Derived.Shelf.SlicesE.Clone
import Derived.Sort.Grow
import Derived.Maps.AppendAt
import Derived.Lib.OthersKept
import Derived.Laws.IdiomStrings
import Derived.StillTailTactics
import Derived.Deep.RegionLaw
import Derived.Deep.DeepCutAuto
import Derived.Deep.CutRange
import Derived.Deep.RegionWith
import Derived.Laws.Bits64b
import Derived.Deep.DrawnRows
import Derived.Lib.SliceRun
import Derived.Laws.OwnMore
import Derived.OwnWalk
import Derived.WalkSpells
import Derived.Lib.Join
import Derived.Lib.ItoaLen
import Derived.Lib.UnsafeStr
import Derived.Lib.AppendIntMem
import Derived.Deep.Slices
import Derived.Deep.Fields
import Derived.ChangeSame
import Derived.Lib.SmallJoins
import Derived.ChangeSlices
import Derived.ProofKit
import Derived.Test.YtnhnedifekejpaaPsA
import Derived.Test.YtnhnedifekejpaaPsB
import Derived.Test.YtnhnedifekejpaaPsC
import Derived.Test.YtnhnedifekejpaaPsD
import Derived.Test.YtnhnedifekejpaaPsE
set_option maxRecDepth 100000
set_option maxHeartbeats 4000000
set_option linter.unusedVariables false
set_option linter.unusedVariables false
set_option linter.unusedSimpArgs false
set_option linter.unusedSectionVars false
set_option linter.unnecessarySimpa false
namespace Go.Proofs.Ytnhnedifekejpaa
open Go Go.RowKit
theorem bld_25_0 (v0 : Int) : Try.prog.built 25 [(0, .int .i64 v0)] = some #[.int .i64 v0, .int .i64 0, .slice none 0 0] := by kernel_rfl
theorem bld_56_2_3 (v2 : Int) (v3a : Option Addr) (v3l : Nat) (v3c : Nat) : Try.prog.built 56 [(2, .int .i64 v2), (3, .slice v3a v3l v3c)] = some #[.int .i64 0, .int .i64 0, .int .i64 v2, .slice v3a v3l v3c, .bool false, .int .i64 0, .int .u64 0, .slice none 0 0, .slice none 0 0, .slice none 0 0] := by kernel_rfl
theorem bs_30_3 (v0 : Int) (v1 : Int) (v2 : Int) : Instr.fill (fun i => some (i * 1, 1)) ((Array.range (3 * 1)).map ((Value.cells (.int .i64 0))[· % (Value.cells (.int .i64 0)).size]!)) [(0, .int .i64 v0), (1, .int .i64 v1), (2, .int .i64 v2)] = some (List.toArray [.int .i64 v0, .int .i64 v1, .int .i64 v2]) := by kernel_rfl
theorem goes_13 : goesIn Try.prog 13 = true := by kernel_rfl
theorem shortA_is {ds d : Nat} {p : PV} {w : World} (hp : PvIn w ds d p) (ht : Tabs w) (S : PS) (px : RV → PX) (hpx : pdsE p = 0 → PdsOk w S px p) : Calls Try.prog 13 #[p.val] w (ShortRet S px p w) := shortA_c ds d p.s p.st p.sy p.ra p.rl p.rc p.rs w hp.s hp.row hp.len hp.rin ht S px hpx
def alW : WV := .mk ⟨false, 0, 0, none, 0, 0, [], none, 0, 0, [], none, 0, 0⟩ []
abbrev alR (b1 : Nat) : RV := ⟨0, 0, 1, some ⟨b1, 0, none⟩, 3, 3, [2, 3, 4], alW⟩
abbrev alP (b1 b2 : Nat) : PV := ⟨.mk ⟨1, 0, none, 0, 0⟩ [], 2, 5, some ⟨b2, 0, none⟩, 1, 1, [alR b1]⟩
theorem alW_in (w : World) : WIn w 1 alW := ⟨⟨.inl rfl, rfl, by decide, (fun r hr => by cases hr), .inl rfl, rfl, (fun c hc => by cases hc), by decide⟩, rfl, .inl rfl, fun p hp => by cases hp⟩
theorem row_own3 {W : World} {B : Nat} {T : TypeId} {a b c : Int} (h : W.heap[B]? = some (.cells (List.toArray [.int .i64 a, .int .i64 b, .int .i64 c]) T (0, 0))) : Row W (some ⟨B, 0, none⟩) [a, b, c] := by
 refine .inr ⟨B, 0, rfl, fun i hi => ?_⟩
 match i, hi with
 | 0, _ => exact cell_own h rfl
 | 1, _ => exact cell_own h rfl
 | 2, _ => exact cell_own h rfl
 | i + 3, hi => exact absurd hi (by simp)
theorem own_one9 {w : World} {lo n size : Nat} {e : TypeId} {v : Value} {xs : List Value} (h : w.ownsRow lo e size v n xs) : v.oneCell' = true := by
 rcases h.2 with ⟨h1, _⟩ | ⟨_, _, _, h1, _⟩ <;> rw [h1] <;> rfl
theorem alP_in {w : World} {b1 b2 : Nat} {T1 T2 : TypeId} (h1 : w.heap[b1]? = some (.cells (List.toArray [.int .i64 2, .int .i64 3, .int .i64 4]) T1 (0, 0))) (h2 : w.heap[b2]? = some (.cells (List.toArray (alR b1).ten) T2 (0, 0))) : PvIn w 1 1 (alP b1 b2) := by
 refine ⟨⟨rfl, .inl rfl, fun p hp => by cases hp⟩, .inr ⟨b2, 0, rfl, fun i r hi => ?_⟩, rfl, fun r hr => ?_⟩
 ·match i, hi with
  | 0, hi =>
   cases hi
   exact CellsAt.own (j := 0) (m := 10) h2 rfl
  | i + 1, hi => exact absurd hi (by simp)
 ·simp at hr
  subst hr
  exact ⟨row_own3 h1, rfl, alW_in w⟩
theorem alP_ok (b1 b2 : Nat) : pdsE (alP b1 b2) = 0 ∧ tooMany (alP b1 b2) = false := by
 have e1 : spaceE (alP b1 b2).s = 0 := by show spaceE (.mk ⟨1, 0, none, 0, 0⟩ []) = 0; decide
 have e2 : (alP b1 b2).rs.all (ruleB 2 5) = true := by simp [ruleB, inQ]
 have e3 : chkW (alP b1 b2).s alW = 0 := by show chkW (.mk ⟨1, 0, none, 0, 0⟩ []) alW = 0; decide
 have e4 : wtE (alP b1 b2).s (alP b1 b2).rs = 0 := wtE_all (by simp; exact e3)
 constructor
 ·unfold pdsE
  rw [if_neg (by rw [e1]; simp), if_neg (by simp), if_neg (by simp), if_pos (show (alP b1 b2).rs.all (ruleB (alP b1 b2).st (alP b1 b2).sy) = true from e2), e4]
 ·rfl
theorem two_map9 {α β : Type} {f : α → β} {l : List α} {a b : β} (h : l.map f = [a, b]) : ∃ x y, l = [x, y] ∧ f x = a ∧ f y = b := by
 match l, h with
 | [x, y], h => simp at h; exact ⟨x, y, rfl, h.1, h.2⟩
theorem rowN_addr {lo c : Nat} {W : World} {a : Option Addr} {xs : List Int} (h : RowN lo W a c xs) (hl : 0 < xs.length) : ∃ b, a = some ⟨b, 0, none⟩ := by
 obtain ⟨b, c9, e, _⟩ := ownsRow_at h hl
 injection e with e _ _
 exact ⟨b, e⟩
theorem rowN_cell9 {lo c b i : Nat} {W : World} {xs : List Int} {y : Int} (h : RowN lo W (some ⟨b, 0, none⟩) c xs) (hi : xs[i]? = some y) : W.cell? ⟨b, i, none⟩ = some (.int .i64 y) := ownsRow_blk h (by rw [List.getElem?_map, hi]; rfl)
theorem row_ten9 {W : World} {lo b n c i : Nat} {ns : List R9} {r : R9} (h : W.ownsRow lo 56 10 (.slice (some ⟨b, 0, none⟩) n c) n (ns.flatMap ten9)) (hi : ns[i]? = some r) : CellsAt W b (i * 10) (ten9 r) := by
 have key : ∀ (l : List R9) (i : Nat), l[i]? = some r → ((l.flatMap ten9).drop (i * 10)).take 10 = ten9 r := by
  intro l
  induction l with
  | nil => intro i h; simp at h
  | cons z l ih =>
   intro i h
   cases i with
   | zero => simp at h; subst h; rfl
   | succ i =>
    have e : (i + 1) * 10 = 10 + i * 10 := by omega
    rw [List.flatMap_cons, e, ← List.drop_drop]
    exact ih i (by simpa using h)
 have e5 := key ns i hi
 refine CellsAt.of fun j v hj => ownsRow_blk h ?_
 rw [← e5, List.getElem?_take] at hj
 split at hj
 ·rw [List.getElem?_drop] at hj; exact hj
 ·cases hj
theorem alive_short {b1 b2 : Nat} {w : World} (hp : PvIn w 1 1 (alP b1 b2)) (ht : Tabs w) : Calls Try.prog 13 #[(alP b1 b2).val] w fun e w' => ∃ (s2 : SF) (c9 : Nat) (v2 v3 : Value) (S : PS) (x1 x2 : PX) (f1 f2 : WF) (b9 ba bb ca cb : Nat), e = .returned (.tuple #[.agg #[.int .i64 s2.tag, .int .i64 s2.dim, .slice s2.a s2.len s2.cap, .int .i64 3, .int .i64 6, .slice (some ⟨b9, 0, none⟩) 2 c9, v2, v3], .int .i64 0]) ∧ w'.ownsRow w.heap.size 56 10 (.slice (some ⟨b9, 0, none⟩) 2 c9) 2 ([⟨0, true, 0, 0, 2, some ⟨ba, 0, none⟩, ca, [5, 4], f1, x1⟩, ⟨0, false, 2, 5, 1, some ⟨bb, 0, none⟩, cb, [2, 3], f2, x2⟩].flatMap ten9) ∧ RowN w.heap.size w' (some ⟨ba, 0, none⟩) ca [5, 4] ∧ RowN w.heap.size w' (some ⟨bb, 0, none⟩) cb [2, 3] ∧ v2.oneCell' = true ∧ v3.oneCell' = true ∧ Below w.heap.size w w' := by
 obtain ⟨S, px, hpx⟩ := pdsOk_of hp (alP_ok b1 b2).1
 refine (shortA_is hp ht S px (fun _ => hpx)).mono fun e w' h => ?_
 obtain ⟨hb, h | h | ⟨_, s2, v1, v2, v3, ns, hok, rfl⟩⟩ := h
 ·exact absurd (alP_ok b1 b2).1 h.1
 ·rw [(alP_ok b1 b2).2] at h; cases h.2.1
 ·have hpl : ns.map R9.pl = [(0, true, 0, 0, 2, [5, 4], px (alR b1)), (0, false, 2, 5, 1, [2, 3], oneX S)] := hok.pl
  obtain ⟨r1, r2, rfl, h1, h2⟩ := two_map9 hpl
  obtain ⟨n1, t1, p1, g1, q1, wa1, wc1, ws1, f1, x1⟩ := r1
  obtain ⟨n2, t2, p2, g2, q2, wa2, wc2, ws2, f2, x2⟩ := r2
  simp only [R9.pl, Prod.mk.injEq] at h1 h2
  obtain ⟨rfl, rfl, rfl, rfl, rfl, rfl, rfl⟩ := h1
  obtain ⟨rfl, rfl, rfl, rfl, rfl, rfl, rfl⟩ := h2
  have w1 : RowN w.heap.size w' wa1 wc1 [5, 4] := (hok.rules _ List.mem_cons_self).w
  have w2 : RowN w.heap.size w' wa2 wc2 [2, 3] := (hok.rules _ (List.mem_cons_of_mem _ List.mem_cons_self)).w
  obtain ⟨ba, rfl⟩ := rowN_addr w1 (by decide)
  obtain ⟨bb, rfl⟩ := rowN_addr w2 (by decide)
  have r1 := hok.r1
  obtain ⟨b9, c9, rfl, _⟩ := ownsRow_at (n := 2) r1 (by decide)
  exact ⟨s2, c9, v2, v3, S, _, _, f1, f2, b9, ba, bb, wc1, wc2, rfl, r1, w1, w2, own_one9 hok.r2, own_one9 hok.r3, hb⟩
theorem alive_is (w : World) (ht : Tabs w) :
  Calls Try.prog 12 #[] w (fun e w' => e = .returned (.bool (true)) ∧ Below w.heap.size w w') := by
 refine enterF (args := []) Try.func12 rfl Try.ntmps12 rfl ?_
 have hS := St.start w
 refine seqF (regF ?_)
 refine op_assign rfl rfl ?_
 refine endF (XF.thenN ?_)
 refine seqF (regF ?_)
 refine op_build (us := [(0, .int .i64 _)]) rfl (bld_25_0 _) rfl ?_
 refine op_buildSlice (us := [(0, .int .i64 _), (1, .int .i64 _), (2, .int .i64 _)]) hS Try.underlying30 Try.sizeOf3 Try.zeroValue3 rfl rfl rfl (bs_30_3 _ _ _) rfl ?_
 clear hS; intro B1 W1 hS
 refine op_build (us := [(2, .int .i64 _), (3, .slice _ _ _)]) rfl (bld_56_2_3 _ _ _ _) rfl ?_
 refine op_buildSlice (us := [(0, .agg (List.toArray [_, _, _, _, _, _, _, _, _, _]))]) hS Try.underlying26 Try.sizeOf56 Try.zeroValue56 rfl rfl rfl (bs_26_1 _ _ _ _ _ _ _ _ _ _) rfl ?_
 clear hS; intro B2 W2 hS
 refine op_build (us := [(0, .agg (List.toArray [_, _, _])), (1, .int .i64 _), (2, .int .i64 _), (3, .slice _ _ _)]) rfl (bld_28_0_1_2_3 _ _ _ _ _ _ _ _) rfl ?_
 refine op_alloc (cs := [_, _, _, _, _, _]) hS Try.zeroValue28 rfl rfl ?_
 clear hS; intro B3 W3 hS
 refine op_storeA (i := 0) (vs := [_, _, _, _, _, _]) (cs' := [_, _, _, _, _, _]) (O' := [_, _, _]) hS Try.sizeOf28 rfl rfl (by first | rfl | (simp only [List.all_cons, List.all_nil, Bool.and_true, Bool.and_eq_true]; exact ⟨rfl, rfl, rfl, rfl, rfl, rfl, h1v, h2v⟩)) rfl rfl rfl rfl ?_
 clear hS; intro W4 hS
 refine endF (XF.thenN ?_)
 refine seqF (regF ?_)
 refine op_loadA (vs := [_, _, _, _, _, _]) Try.isAgg28 Try.sizeOf28 rfl (CellsAt.own (j := 0) (m := 6) (hS.at_ 0 rfl) rfl) rfl ?_
 have hal := alive_short (alP_in (hS.at_ 2 rfl) (hS.at_ 1 rfl)) (ht.below hS.below)
 refine op_call (vs := [_]) hS goes_13 rfl (hal) rfl ?_
 rintro e W5 ⟨s2, c9, v2, v3, S, x1, x2, f1, f2, b9, ba, bb, ca, cb, rfl, hr9, hn1, hn2, h1v, h2v, hb⟩
 refine ⟨_, rfl, hb, fun hS' => ?_⟩
 clear hS; have hS := hS'; clear hS'
 clear hal hb
 obtain ⟨lo9, hlo9⟩ : ∃ n, n = W4.heap.size := ⟨_, rfl⟩
 rw [← hlo9] at hr9 hn1 hn2 hS
 have HN : Held w [(lo9, W5)] (fun W2 => W2.ownsRow lo9 56 10 (.slice (some ⟨b9, 0, none⟩) 2 c9) 2 ([⟨0, true, 0, 0, 2, some ⟨ba, 0, none⟩, ca, [5, 4], f1, x1⟩, ⟨0, false, 2, 5, 1, some ⟨bb, 0, none⟩, cb, [2, 3], f2, x2⟩].flatMap ten9) ∧ RowN lo9 W2 (some ⟨ba, 0, none⟩) ca [5, 4] ∧ RowN lo9 W2 (some ⟨bb, 0, none⟩) cb [2, 3]) := Held.one (p := fun W2 => W2.ownsRow lo9 56 10 (.slice (some ⟨b9, 0, none⟩) 2 c9) 2 ([⟨0, true, 0, 0, 2, some ⟨ba, 0, none⟩, ca, [5, 4], f1, x1⟩, ⟨0, false, 2, 5, 1, some ⟨bb, 0, none⟩, cb, [2, 3], f2, x2⟩].flatMap ten9) ∧ RowN lo9 W2 (some ⟨ba, 0, none⟩) ca [5, 4] ∧ RowN lo9 W2 (some ⟨bb, 0, none⟩) cb [2, 3]) (fun W2 hg => ⟨ownsRow_agree hr9 hg, hn1.agree hg, hn2.agree hg⟩)
 refine op_move rfl rfl ?_
 refine op_extract rfl rfl rfl ?_
 refine op_extract rfl rfl rfl ?_
 refine op_alloc (cs := [_, _, _, _, _, _, _, _]) hS Try.zeroValue40 rfl rfl ?_
 clear hS; intro B6 W6 hS
 refine op_storeA (i := 0) (vs := [_, _, _, _, _, _, _, _]) (cs' := [_, _, _, _, _, _, _, _]) (O' := [_, _, _, _]) hS Try.sizeOf40 rfl rfl (by first | rfl | (simp only [List.all_cons, List.all_nil, Bool.and_true, Bool.and_eq_true]; exact ⟨rfl, rfl, rfl, rfl, rfl, rfl, h1v, h2v⟩)) rfl rfl rfl rfl ?_
 clear hS; intro W7 hS
 refine op_assign rfl rfl ?_
 refine endF (XF.thenN ?_)
 refine seqF ?_
 refine seqF (regF ?_)
 refine op_move rfl rfl ?_
 refine op_neq rfl rfl rfl ?_
 refine op_move rfl rfl ?_
 refine op_cases (d := 18) rfl (fun hc => absurd (of_decide_eq_true hc) (by exact fun h => h rfl)) (fun hc => ?_)
 have hc := of_decide_eq_false hc
 refine op_wantedF (d := 18) rfl rfl ?_
 refine op_field (o' := 0) fa_40_0 rfl rfl rfl ?_
 refine op_wantedF (d := 18) rfl rfl ?_
 refine op_field (o' := 5) fa_28_3 rfl rfl rfl ?_
 refine op_wantedF (d := 18) rfl rfl ?_
 refine op_load Try.isAgg26 rfl (cell_own (hS.at_ 0 rfl) rfl) rfl ?_
 refine op_wantedF (d := 18) rfl rfl ?_
 refine op_len Try.underlying26 rfl rfl ?_
 refine op_wantedF (d := 18) rfl rfl ?_
 refine op_neq rfl rfl rfl ?_
 refine op_pickF rfl rfl rfl ?_
 refine endF (XF.thenN ?_)
 refine condF rfl (fun hc => absurd (of_decide_eq_true hc) (by exact fun h => h rfl)) (fun hc => ?_)
 have hc := of_decide_eq_false hc
 refine skipF ?_
 refine XF.thenN ?_
 refine seqF ?_
 refine regY (al := [⟨10, 56, [.int .i64 0, .int .i64 0, .int .i64 0, .slice none 0 0, .bool false, .int .i64 0, .int .u64 0, .slice none 0 0, .slice none 0 0, .slice none 0 0], 12⟩, ⟨11, 56, [.int .i64 0, .int .i64 0, .int .i64 0, .slice none 0 0, .bool false, .int .i64 0, .int .u64 0, .slice none 0 0, .slice none 0 0, .slice none 0 0], 25⟩]) (G := fun _ => []) (E := [10, 11, 12]) (k := 13) (ds := []) followsM rfl hS rfl rfl (by kernel_rfl) (by kernel_rfl) rfl (by decide) rfl ?_
 refine bly_cons 1 rfl (isV _) (syV fst_take [(2, _)] rfl rfl (fun _ => (w_free rfl)) (fun _ => ⟨g_fr (by kernel_rfl) rfl, trivial⟩) (fun s w hw => rn_field (o' := 0) fa_40_0 rfl rfl) (at_top rfl)) ?_
 refine bly_cons 2 rfl (isV _) (syV fst_take [(25, _)] rfl rfl (fun _ => (w_free rfl)) (fun _ => ⟨g_dep 0 (by kernel_rfl) (at_n rfl rfl (at_dep rfl rfl rfl)), trivial⟩) (fun s w hw => rn_field (o' := 5) fa_28_3 rfl rfl) (at_top rfl)) ?_
 refine bly_cons 3 rfl (isV _) (syV fst_take [(26, _)] rfl rfl (fun _ => (w_free rfl)) (fun _ => ⟨g_dep 1 (by kernel_rfl) (at_n rfl rfl (at_dep rfl rfl rfl)), trivial⟩) (fun s w hw => rn_load Try.isAgg26 rfl ((cell_own (hw.at_ 0 rfl) rfl))) (at_top rfl)) ?_
 refine bly_cons 4 rfl (isV _) (syV fst_take [(27, _)] rfl rfl (fun _ => (w_free rfl)) (fun _ => ⟨g_dep 2 (by kernel_rfl) (at_n rfl rfl (at_dep rfl rfl rfl)), trivial⟩) (fun s w hw => rn_indexA (j := 0) Try.underlying26 Try.sizeOf56 rfl rfl rfl (by omega) (Nat.add_zero _)) (at_top rfl)) ?_
 refine bly_cons 5 rfl (isV _) (syV fst_take [(28, _)] rfl rfl (fun _ => (w_free rfl)) (fun _ => ⟨g_dep 3 (by kernel_rfl) (at_n rfl rfl (at_dep rfl rfl rfl)), trivial⟩) (fun s w hw => rn_loadA (vs := [_, _, _, _, _, _, _, _, _, _]) Try.isAgg56 Try.sizeOf56 rfl (row_ten9 (i := 0) (HN hw (fun q hq => by simp at hq; subst hq; simp)).1 rfl)) (at_top rfl)) ?_
 refine bly_cons 6 rfl (isV _) (syV fst_take [(2, _)] rfl rfl (fun _ => (w_free rfl)) (fun _ => ⟨g_fr (by kernel_rfl) rfl, trivial⟩) (fun s w hw => rn_field (o' := 0) fa_40_0 rfl rfl) (at_top rfl)) ?_
 refine bly_cons 7 rfl (isV _) (syV fst_take [(30, _)] rfl rfl (fun _ => (w_free rfl)) (fun _ => ⟨g_dep 5 (by kernel_rfl) (at_n rfl rfl (at_dep rfl rfl rfl)), trivial⟩) (fun s w hw => rn_field (o' := 5) fa_28_3 rfl rfl) (at_top rfl)) ?_
 refine bly_cons 8 rfl (isV _) (syV fst_take [(31, _)] rfl rfl (fun _ => (w_free rfl)) (fun _ => ⟨g_dep 6 (by kernel_rfl) (at_n rfl rfl (at_dep rfl rfl rfl)), trivial⟩) (fun s w hw => rn_load Try.isAgg26 rfl ((cell_own (hw.at_ 0 rfl) rfl))) (at_top rfl)) ?_
 refine bly_cons 9 rfl (isV _) (syV fst_take [(32, _)] rfl rfl (fun _ => (w_free rfl)) (fun _ => ⟨g_dep 7 (by kernel_rfl) (at_n rfl rfl (at_dep rfl rfl rfl)), trivial⟩) (fun s w hw => rn_indexA (j := 1) Try.underlying26 Try.sizeOf56 rfl rfl rfl (by omega) rfl) (at_top rfl)) ?_
 refine bly_cons 10 rfl (isV _) (syV fst_take [(33, _)] rfl rfl (fun _ => (w_free rfl)) (fun _ => ⟨g_dep 8 (by kernel_rfl) (at_n rfl rfl (at_dep rfl rfl rfl)), trivial⟩) (fun s w hw => rn_loadA (vs := [_, _, _, _, _, _, _, _, _, _]) Try.isAgg56 Try.sizeOf56 rfl (row_ten9 (i := 1) (HN hw (fun q hq => by simp at hq; subst hq; simp)).1 rfl)) (at_top rfl)) ?_
 refine bly_cons 11 rfl (isPtr W7.heap.size) (sy_alloc ⟨10, 56, [.int .i64 0, .int .i64 0, .int .i64 0, .slice none 0 0, .bool false, .int .i64 0, .int .u64 0, .slice none 0 0, .slice none 0 0, .slice none 0 0], 12⟩ rfl rfl Try.zeroValue56 List.mem_cons_self rfl rfl rfl (.inl (by kernel_rfl)) (by decide) rfl (fun _ _ => rfl) (at_top rfl)) ?_
 refine bly_cons 12 rfl (isPtr W7.heap.size) (sy_alloc ⟨11, 56, [.int .i64 0, .int .i64 0, .int .i64 0, .slice none 0 0, .bool false, .int .i64 0, .int .u64 0, .slice none 0 0, .slice none 0 0, .slice none 0 0], 25⟩ rfl rfl Try.zeroValue56 (List.mem_cons_of_mem _ List.mem_cons_self) rfl rfl rfl (.inr rfl) (by decide) rfl (fun _ _ => rfl) (at_top rfl)) ?_
 refine bly_cons 13 rfl (isV _) (sy_store (jy := 4) (m := 10) ⟨10, 56, [.int .i64 0, .int .i64 0, .int .i64 0, .slice none 0 0, .bool false, .int .i64 0, .int .u64 0, .slice none 0 0, .slice none 0 0, .slice none 0 0], 12⟩ rfl rfl List.mem_cons_self rfl rfl (by kernel_rfl) (at_dep rfl rfl rfl) (by kernel_rfl) (at_dep rfl rfl rfl) (at_top rfl) Try.sizeOf56 rfl (fun v w h => by subst h; exact ⟨_, rfl, rfl, rfl⟩) (by decide) rfl (fun _ _ => rfl)) ?_
 refine bly_nil ?_
 intro s8 W8 Ks8 hall8 hsz8 hKs8 hS' hcov8 hfx8 hno8
 obtain ⟨v8_10, h8_10⟩ := hall8 10 rfl
 obtain ⟨v8_11, h8_11⟩ := hall8 11 rfl
 obtain ⟨v8_12, h8_12⟩ := hall8 12 rfl
 have f8_10 : AwS _ _ (isPtr W7.heap.size) _ _ := hfx8 10 rfl _ h8_10
 obtain ⟨B8_10, rfl, hB8_10⟩ := f8_10.here
 have f8_11 : AwS _ _ (isPtr W7.heap.size) _ _ := hfx8 11 rfl _ h8_11
 obtain ⟨B8_11, rfl, hB8_11⟩ := f8_11.here
 have f8_12 : AwS _ _ (isV _) _ _ := hfx8 12 rfl _ h8_12
 obtain rfl := f8_12.here
 clear hS; have hS := hS'.castO (O' := [(B8_10, _, 56), (B8_11, _, 56), _, _, _, _]) (by simp only [OY, AS_cons, AB.cs, h8_10, h8_11, h8_12, hno8 25 rfl]; rfl); clear hS'
 refine castL (L' := [AwS _ _ (isV _), AwS _ _ (isV _), AwS _ _ (isV _), AwS _ _ (isV _), AwS _ _ (isV _), AwS _ _ (isV _), AwS _ _ (isV _), AwS _ _ (isV _), AwS _ _ (isV _), AwS _ _ (isV _), isE s8 10, isE s8 11, isE s8 12]) rfl ?_
 refine fin_sV ?_
 refine fin_sV ?_
 refine fin_sV ?_
 refine fin_sV ?_
 refine fin_sV ?_
 refine fin_sV ?_
 refine fin_sV ?_
 refine fin_sV ?_
 refine fin_sV ?_
 refine fin_sV ?_
 refine fin_p ?_; intro u hu; obtain rfl := Option.some.inj (h8_10.symm.trans hu); clear hu
 refine fin_p ?_; intro u hu; obtain rfl := Option.some.inj (h8_11.symm.trans hu); clear hu
 refine fin_0 ?_
 refine fin_nil ?_
 refine op_storeA (i := 1) (vs := [_, _, _, _, _, _, _, _, _, _]) (cs' := [_, _, _, _, _, _, _, _, _, _]) (O' := [_, _, _, _, _, _]) hS Try.sizeOf56 rfl rfl (by first | rfl | (simp only [List.all_cons, List.all_nil, Bool.and_true, Bool.and_eq_true]; exact ⟨rfl, rfl, rfl, rfl, rfl, rfl, h1v, h2v⟩)) rfl rfl rfl rfl ?_
 clear hS; intro W9 hS
 refine endF (XF.thenN ?_)
 refine seqF ?_
 obtain ⟨_, hm1, hm2⟩ := HN hS (fun q hq => by simp at hq; subst hq; simp)
 have k1 := rowN_cell9 (i := 0) hm1 rfl
 have k2 := rowN_cell9 (i := 1) hm1 rfl
 have k3 := rowN_cell9 (i := 1) hm2 rfl
 refine regF ?_
 refine op_field (o' := 0) fa_40_0 rfl rfl rfl ?_
 refine op_field (o' := 3) fa_28_1 rfl rfl rfl ?_
 refine op_load Try.isAgg3 rfl (cell_own (hS.at_ 2 rfl) rfl) rfl ?_
 refine op_eql rfl rfl rfl ?_
 refine op_move rfl rfl ?_
 refine op_cases (d := 39) rfl (fun hc => ?_) (fun hc => absurd (of_decide_eq_false hc) (by exact fun h => h rfl))
 have hc := of_decide_eq_true hc
 refine op_wantedF (d := 39) rfl rfl ?_
 refine op_field (o' := 0) fa_40_0 rfl rfl rfl ?_
 refine op_wantedF (d := 39) rfl rfl ?_
 refine op_field (o' := 4) fa_28_2 rfl rfl rfl ?_
 refine op_wantedF (d := 39) rfl rfl ?_
 refine op_load Try.isAgg3 rfl (cell_own (hS.at_ 2 rfl) rfl) rfl ?_
 refine op_wantedF (d := 39) rfl rfl ?_
 refine op_eql rfl rfl rfl ?_
 refine op_pickT rfl rfl rfl ?_
 refine op_move rfl rfl ?_
 refine op_cases (d := 45) rfl (fun hc => ?_) (fun hc => absurd (of_decide_eq_false hc) (by exact fun h => h rfl))
 have hc := of_decide_eq_true hc
 refine op_wantedF (d := 45) rfl rfl ?_
 refine op_field (o' := 2) fa_56_2 rfl rfl rfl ?_
 refine op_wantedF (d := 45) rfl rfl ?_
 refine op_load Try.isAgg3 rfl (cell_own (hS.at_ 0 rfl) rfl) rfl ?_
 refine op_wantedF (d := 45) rfl rfl ?_
 refine op_eql rfl rfl rfl ?_
 refine op_pickT rfl rfl rfl ?_
 refine op_move rfl rfl ?_
 refine op_cases (d := 50) rfl (fun hc => ?_) (fun hc => absurd (of_decide_eq_false hc) (by exact fun h => h rfl))
 have hc := of_decide_eq_true hc
 refine op_wantedF (d := 50) rfl rfl ?_
 refine op_field (o' := 3) fa_56_3 rfl rfl rfl ?_
 refine op_wantedF (d := 50) rfl rfl ?_
 refine op_load Try.isAgg30 rfl (cell_own (hS.at_ 0 rfl) rfl) rfl ?_
 refine op_wantedF (d := 50) rfl rfl ?_
 refine op_len Try.underlying30 rfl rfl ?_
 refine op_wantedF (d := 50) rfl rfl ?_
 refine op_eql rfl rfl rfl ?_
 refine op_pickT rfl rfl rfl ?_
 refine op_move rfl rfl ?_
 refine op_cases (d := 56) rfl (fun hc => ?_) (fun hc => absurd (of_decide_eq_false hc) (by exact fun h => h rfl))
 have hc := of_decide_eq_true hc
 refine op_wantedF (d := 56) rfl rfl ?_
 refine op_field (o' := 3) fa_56_3 rfl rfl rfl ?_
 refine op_wantedF (d := 56) rfl rfl ?_
 refine op_load Try.isAgg30 rfl (cell_own (hS.at_ 0 rfl) rfl) rfl ?_
 refine op_wantedF (d := 56) rfl rfl ?_
 refine op_indexA (j := 0) Try.underlying30 Try.sizeOf3 rfl rfl rfl (by omega) (Nat.add_zero _) rfl ?_
 refine op_wantedF (d := 56) rfl rfl ?_
 refine op_load Try.isAgg3 rfl (k1) rfl ?_
 refine op_wantedF (d := 56) rfl rfl ?_
 refine op_eql rfl rfl rfl ?_
 refine op_pickT rfl rfl rfl ?_
 refine op_move rfl rfl ?_
 refine op_cases (d := 63) rfl (fun hc => ?_) (fun hc => absurd (of_decide_eq_false hc) (by exact fun h => h rfl))
 have hc := of_decide_eq_true hc
 refine op_wantedF (d := 63) rfl rfl ?_
 refine op_field (o' := 3) fa_56_3 rfl rfl rfl ?_
 refine op_wantedF (d := 63) rfl rfl ?_
 refine op_load Try.isAgg30 rfl (cell_own (hS.at_ 0 rfl) rfl) rfl ?_
 refine op_wantedF (d := 63) rfl rfl ?_
 refine op_indexA (j := 1) Try.underlying30 Try.sizeOf3 rfl rfl rfl (by omega) rfl rfl ?_
 refine op_wantedF (d := 63) rfl rfl ?_
 refine op_load Try.isAgg3 rfl (k2) rfl ?_
 refine op_wantedF (d := 63) rfl rfl ?_
 refine op_eql rfl rfl rfl ?_
 refine op_pickT rfl rfl rfl ?_
 refine op_move rfl rfl ?_
 refine op_cases (d := 70) rfl (fun hc => ?_) (fun hc => absurd (of_decide_eq_false hc) (by exact fun h => h rfl))
 have hc := of_decide_eq_true hc
 refine op_wantedF (d := 70) rfl rfl ?_
 refine op_field (o' := 0) fa_56_0 rfl rfl rfl ?_
 refine op_wantedF (d := 70) rfl rfl ?_
 refine op_load Try.isAgg3 rfl (cell_own (hS.at_ 1 rfl) rfl) rfl ?_
 refine op_wantedF (d := 70) rfl rfl ?_
 refine op_eql rfl rfl rfl ?_
 refine op_pickT rfl rfl rfl ?_
 refine op_move rfl rfl ?_
 refine op_cases (d := 75) rfl (fun hc => ?_) (fun hc => absurd (of_decide_eq_false hc) (by exact fun h => h rfl))
 have hc := of_decide_eq_true hc
 refine op_wantedF (d := 75) rfl rfl ?_
 refine op_field (o' := 1) fa_56_1 rfl rfl rfl ?_
 refine op_wantedF (d := 75) rfl rfl ?_
 refine op_load Try.isAgg3 rfl (cell_own (hS.at_ 1 rfl) rfl) rfl ?_
 refine op_wantedF (d := 75) rfl rfl ?_
 refine op_eql rfl rfl rfl ?_
 refine op_pickT rfl rfl rfl ?_
 refine op_move rfl rfl ?_
 refine op_cases (d := 80) rfl (fun hc => ?_) (fun hc => absurd (of_decide_eq_false hc) (by exact fun h => h rfl))
 have hc := of_decide_eq_true hc
 refine op_wantedF (d := 80) rfl rfl ?_
 refine op_field (o' := 2) fa_56_2 rfl rfl rfl ?_
 refine op_wantedF (d := 80) rfl rfl ?_
 refine op_load Try.isAgg3 rfl (cell_own (hS.at_ 1 rfl) rfl) rfl ?_
 refine op_wantedF (d := 80) rfl rfl ?_
 refine op_eql rfl rfl rfl ?_
 refine op_pickT rfl rfl rfl ?_
 refine op_move rfl rfl ?_
 refine op_cases (d := 85) rfl (fun hc => ?_) (fun hc => absurd (of_decide_eq_false hc) (by exact fun h => h rfl))
 have hc := of_decide_eq_true hc
 refine op_wantedF (d := 85) rfl rfl ?_
 refine op_field (o' := 3) fa_56_3 rfl rfl rfl ?_
 refine op_wantedF (d := 85) rfl rfl ?_
 refine op_load Try.isAgg30 rfl (cell_own (hS.at_ 1 rfl) rfl) rfl ?_
 refine op_wantedF (d := 85) rfl rfl ?_
 refine op_len Try.underlying30 rfl rfl ?_
 refine op_wantedF (d := 85) rfl rfl ?_
 refine op_eql rfl rfl rfl ?_
 refine op_pickT rfl rfl rfl ?_
 refine op_move rfl rfl ?_
 refine op_cases (d := 91) rfl (fun hc => ?_) (fun hc => absurd (of_decide_eq_false hc) (by exact fun h => h rfl))
 have hc := of_decide_eq_true hc
 refine op_wantedF (d := 91) rfl rfl ?_
 refine op_field (o' := 3) fa_56_3 rfl rfl rfl ?_
 refine op_wantedF (d := 91) rfl rfl ?_
 refine op_load Try.isAgg30 rfl (cell_own (hS.at_ 1 rfl) rfl) rfl ?_
 refine op_wantedF (d := 91) rfl rfl ?_
 refine op_indexA (j := 1) Try.underlying30 Try.sizeOf3 rfl rfl rfl (by omega) rfl rfl ?_
 refine op_wantedF (d := 91) rfl rfl ?_
 refine op_load Try.isAgg3 rfl (k3) rfl ?_
 refine op_wantedF (d := 91) rfl rfl ?_
 refine op_eql rfl rfl rfl ?_
 refine op_pickT rfl rfl rfl ?_
 refine op_assign rfl rfl ?_
 refine endF (XF.thenN ?_)
 refine retF ?_
 refine XF.res (res1 Try.results12 rfl) ?_
 exact ⟨rbool (decide_eq_true rfl), hS.below⟩
end Go.Proofs.Ytnhnedifekejpaa
namespace Go.Proofs.Ytnhnedifekejpaa
open Go.RowKit Go.ChangeShapes Go.WideShapes Go.Deep
section
variable {H : Type} {enc : TypeId × Value → H} {w : World} {base : Nat} {spare : Nat → Bool} {held : Bool}
theorem three_len {cs : List Value} (h : cs.length = 3) : ∃ a b c, cs = [a, b, c] := by
 match cs, h with
 | [a, b, c], _ => exact ⟨a, b, c, rfl⟩
theorem cell_open {n : Nat} {cs : List Value} {x : DataW H × List MemPlace} (hl : cs.length = 3) (h : DataW.trod enc Try.prog w base spare held n 112 cs = some x) :
  ∃ c : Cl, c.f < 18446744073709551616 ∧ cs = [.int .u64 (c.f : Int), .int .i64 c.k, .int .i64 c.v] := by
 obtain ⟨xs, n', _, hx, _, hlen, hg⟩ := DataW.trod_struct Try.underlying112 h
 obtain ⟨a, b, c, rfl⟩ := three_len hl
 ·skip
  have hlen3 : xs.length = 3 := hlen
  have g0 := hg 0 _ rfl
  have g1 := hg 1 _ rfl
  have g2 := hg 2 _ rfl
  rw [show Try.prog.cellsOf _ = 1 by kernel_rfl, List.getElem?_eq_getElem (by omega)] at g0 g1 g2
  obtain ⟨z0, e0, _, w0⟩ := DataW.trod_int Try.underlying47 g0
  obtain ⟨z1, e1, _, w1⟩ := DataW.trod_int (k := .i64) (by kernel_rfl) g1
  obtain ⟨z2, e2, _, w2⟩ := DataW.trod_int (k := .i64) (by kernel_rfl) g2
  simp at e0 e1 e2
  subst e0 e1 e2
  have hw : 0 ≤ z0 ∧ z0 ≤ 18446744073709551615 := by simpa [Lit.wf, IntKind.signed, IntKind.bits, IntKind.min, IntKind.max] using w0
  exact ⟨⟨z0.toNat, z1, z2⟩, by show z0.toNat < _; omega, by simp; omega⟩
theorem list_of : ∀ (n : Nat) (p : Nat → Cl → Prop), (∀ i, i < n → ∃ c, p i c) → ∃ xs : List Cl, xs.length = n ∧ ∀ i c, xs[i]? = some c → p i c
 | 0, p, h => ⟨[], rfl, fun i c hi => by simp at hi⟩
 | n + 1, p, h => by
  obtain ⟨xs, hl, hp⟩ := list_of n p (fun i hi => h i (by omega))
  obtain ⟨c, hc⟩ := h n (by omega)
  refine ⟨xs ++ [c], by simp [hl], fun i d hi => ?_⟩
  rcases Nat.lt_or_ge i n with h1 | h1
  ·rw [List.getElem?_append_left (by omega)] at hi
   exact hp i d hi
  ·obtain ⟨h2, _⟩ := List.getElem?_eq_some_iff.1 hi
   simp [hl] at h2
   obtain rfl : i = n := by omega
   rw [List.getElem?_append_right (by omega), hl, Nat.sub_self] at hi
   simp at hi
   subst hi
   exact hc
theorem cells_open {n : Nat} {a : Option Addr} {len cap : Nat} {x : DataW H × List MemPlace} (h : DataW.trod enc Try.prog w base spare held n 51 [.slice a len cap] = some x) :
  ∃ xs, IsCells w a len cap xs := by
 rcases open_slice Try.underlying51 h with ⟨hcs, _⟩ | ⟨ad, len', cap', m, n', D, Pl, hcs, hb, hl, hm, hmm, hx, hi⟩
 ·simp at hcs
  obtain ⟨rfl, rfl, rfl⟩ := hcs
  exact ⟨[], rfl, by simp, .inl rfl, fun c hc => by simp at hc⟩
 ·simp at hcs
  obtain ⟨rfl, rfl, rfl⟩ := hcs
  rw [show Try.prog.cellsOf 112 = 3 by kernel_rfl] at hi
  obtain ⟨xs, hxl, hxs⟩ := list_of len (fun i c => c.f < 18446744073709551616 ∧ w.cell? (ad.add (i * 3)) = some (.int .u64 (c.f : Int)) ∧ w.cell? (ad.add (i * 3 + 1)) = some (.int .i64 c.k) ∧ w.cell? (ad.add (i * 3 + 2)) = some (.int .i64 c.v)) (fun i hil => by
   obtain ⟨cs', hc, ht⟩ := hi i (by rw [hmm]; split <;> omega)
   obtain ⟨_, hcl, hat⟩ := World.cells?_some hc
   obtain ⟨c, hf, rfl⟩ := cell_open hcl ht
   have e0 := hat 0 (by omega)
   have e1 := hat 1 (by omega)
   have e2 := hat 2 (by omega)
   rw [add_add] at e0 e1 e2
   exact ⟨c, hf, e0, e1, e2⟩)
  refine ⟨xs, hxl.symm, by omega, ?_, fun c hc => ?_⟩
  ·rcases Nat.eq_zero_or_pos len with h0 | h0
   ·exact .inl (List.length_eq_zero_iff.1 (by omega))
   ·obtain ⟨b, off, spot⟩ := ad
    obtain ⟨_, h1, _, _⟩ := hxs 0 (xs[0]'(by omega)) (List.getElem?_eq_getElem (by omega))
    have hspot : spot = none := by simpa [Addr.add] using World.cell?_spot h1
    subst hspot
    refine .inr ⟨b, off, rfl, fun i c hic => ?_⟩
    have e : ∀ k, ({ block := b, off := off } : Addr).add k = ⟨b, off + k, none⟩ := fun k => by simp [Addr.add]
    have h3 := (hxs i c hic).2
    rw [e, e, e, ← Nat.add_assoc, ← Nat.add_assoc] at h3
    exact h3
  ·obtain ⟨i, hi', hic⟩ := List.mem_iff_getElem.1 hc
   exact (hxs i c (by rw [← hic]; exact List.getElem?_eq_getElem hi')).1
end
end Go.Proofs.Ytnhnedifekejpaa
namespace Go.Proofs.Ytnhnedifekejpaa
open Go.RowKit Go.ChangeShapes Go.WideShapes Go.Deep
section
variable {H : Type} {enc : TypeId × Value → H} {w : World} {base : Nat} {spare : Nat → Bool} {held : Bool}
theorem slice_form {n : Nat} {cs : List Value} {x : DataW H × List MemPlace} (h : DataW.trod enc Try.prog w base spare held n 51 cs = some x) : ∃ a len cap, cs = [.slice a len cap] := by
 rcases open_slice Try.underlying51 h with ⟨hcs, _⟩ | ⟨ad, len', cap', m, n', D, Pl, hcs, _⟩
 ·exact ⟨_, _, _, hcs⟩
 ·exact ⟨_, _, _, hcs⟩
end
end Go.Proofs.Ytnhnedifekejpaa
namespace Go.Proofs.Ytnhnedifekejpaa
open Go.RowKit Go.ChangeShapes Go.WideShapes Go.Deep Go.Joins
theorem list_pick {α : Type} : ∀ (n : Nat) (p : Nat → α → Prop), (∀ i, i < n → ∃ c, p i c) → ∃ xs : List α, xs.length = n ∧ ∀ i c, xs[i]? = some c → p i c
 | 0, p, h => ⟨[], rfl, fun i c hi => by simp at hi⟩
 | n + 1, p, h => by
  obtain ⟨xs, hl, hp⟩ := list_pick n p (fun i hi => h i (by omega))
  obtain ⟨c, hc⟩ := h n (by omega)
  refine ⟨xs ++ [c], by simp [hl], fun i d hi => ?_⟩
  rcases Nat.lt_or_ge i n with h1 | h1
  ·rw [List.getElem?_append_left (by omega)] at hi
   exact hp i d hi
  ·obtain ⟨h2, _⟩ := List.getElem?_eq_some_iff.1 hi
   simp [hl] at h2
   obtain rfl : i = n := by omega
   rw [List.getElem?_append_right (by omega), hl, Nat.sub_self] at hi
   simp at hi
   subst hi
   exact hc
theorem SIn.more {w : World} : ∀ {d e : Nat} {s : SV}, d ≤ e → SIn w d s → SIn w e s
 | 0, _, _, _, h => h.elim
 | d + 1, 0, _, hl, _ => by omega
 | d + 1, e + 1, .mk f ps, hl, ⟨h1, h2, h3⟩ => ⟨h1, h2, fun p hp => SIn.more (by omega) (h3 p hp)⟩
theorem WIn.more {w : World} : ∀ {d e : Nat} {s : WV}, d ≤ e → WIn w d s → WIn w e s
 | 0, _, _, _, h => h.elim
 | d + 1, 0, _, hl, _ => by omega
 | d + 1, e + 1, .mk f ps, hl, ⟨h0, h1, h2, h3⟩ => ⟨h0, h1, h2, fun p hp => WIn.more (by omega) (h3 p hp)⟩
theorem six_len {cs : List Value} (h : cs.length = 6) : ∃ a b c d e f, cs = [a, b, c, d, e, f] := by
 match cs, h with
 | [a, b, c, d, e, f], _ => exact ⟨a, b, c, d, e, f, rfl⟩
section
variable {H : Type} {enc : TypeId × Value → H} {w : World} {base : Nat} {spare : Nat → Bool} {held : Bool}
theorem space_in : ∀ (fuel : Nat) {cs : List Value} {x : DataW H × List MemPlace}, DataW.trod enc Try.prog w base spare held fuel 25 cs = some x → ∃ s : SV, cs = [.int .i64 s.f.tag, .int .i64 s.f.dim, .slice s.f.a s.f.len s.f.cap] ∧ SIn w fuel s := by
 intro fuel
 induction fuel using Nat.strongRecOn with
 | _ fuel ih =>
 intro cs x h
 obtain ⟨xs, n, hn, _, hl, hlen, hg⟩ := DataW.trod_struct Try.underlying25 h
 rw [show Try.prog.cellsOf 25 = 3 by kernel_rfl] at hl
 obtain ⟨a, b, c, rfl⟩ := three_len hl
 have hlen3 : xs.length = 3 := hlen
 have g0 := hg 0 _ rfl
 have g1 := hg 1 _ rfl
 have g2 := hg 2 _ rfl
 rw [show Try.prog.cellsOf _ = 1 by kernel_rfl, List.getElem?_eq_getElem (by omega)] at g0 g1 g2
 obtain ⟨z0, e0, _, w0⟩ := DataW.trod_int (k := .i64) (by kernel_rfl) g0
 obtain ⟨z1, e1, _, w1⟩ := DataW.trod_int (k := .i64) (by kernel_rfl) g1
 simp at e0 e1
 subst e0 e1
 rcases DataW.trod_slice Try.underlying23 g2 with ⟨hcs, _⟩ | ⟨ad, len, cap, elems, rest, n', hn', hcs, _, hb, hle, hcap, hel, hi, _, _⟩
 ·simp at hcs
  subst hcs
  subst hn
  exact ⟨.mk ⟨z0, z1, none, 0, 0⟩ [], rfl, rfl, .inl rfl, fun p hp => by cases hp⟩
 ·simp at hcs
  subst hcs
  subst hn
  rw [show Try.prog.cellsOf 25 = 3 by kernel_rfl] at hi
  obtain ⟨ps, hpl, hps⟩ := list_pick len (fun i (p : SV) => (w.cell? (ad.add (i * 3)) = some (.int .i64 p.f.tag) ∧ w.cell? (ad.add (i * 3 + 1)) = some (.int .i64 p.f.dim) ∧ w.cell? (ad.add (i * 3 + 2)) = some (.slice p.f.a p.f.len p.f.cap)) ∧ SIn w n' p) (fun i hil => by
   have hii := hi i hil
   rw [List.getElem?_eq_getElem (by omega)] at hii
   obtain ⟨cs', hc, ht⟩ := Option.bind_eq_some_iff.1 hii
   obtain ⟨_, hcl, hat⟩ := World.cells?_some hc
   obtain ⟨s, rfl, hs⟩ := ih n' (by omega) ht
   have e0 := hat 0 (by omega)
   have e1 := hat 1 (by omega)
   have e2 := hat 2 (by omega)
   rw [Go.Deep.add_add] at e0 e1 e2
   exact ⟨s, ⟨e0, e1, e2⟩, hs⟩)
  refine ⟨.mk ⟨z0, z1, some ad, len, cap⟩ ps, rfl, hpl, ?_, fun p hp => ?_⟩
  ·rcases Nat.eq_zero_or_pos len with h0 | h0
   ·exact .inl (List.length_eq_zero_iff.1 (by omega))
   ·obtain ⟨b, off, spot⟩ := ad
    obtain ⟨⟨h1, _, _⟩, _⟩ := hps 0 (ps[0]'(by omega)) (List.getElem?_eq_getElem (by omega))
    have hspot : spot = none := by simpa [Addr.add] using World.cell?_spot h1
    subst hspot
    refine .inr ⟨b, off, rfl, fun i c hic => ?_⟩
    have e : ∀ k, ({ block := b, off := off } : Addr).add k = ⟨b, off + k, none⟩ := fun k => by simp [Addr.add]
    have h3 := (hps i c hic).1
    rw [e, e, e, ← Nat.add_assoc, ← Nat.add_assoc] at h3
    exact h3
  ·obtain ⟨i, hi', hic⟩ := List.mem_iff_getElem.1 hp
   exact (hps i p (by rw [← hic]; exact List.getElem?_eq_getElem hi')).2.more (by omega)
theorem u64s_open {n : Nat} {v : Value} {x : DataW H × List MemPlace} (h : DataW.trod enc Try.prog w base spare held n 48 [v] = some x) :
  ∃ (a : Option Addr) (len cap : Nat) (rows : List Nat), v = .slice a len cap ∧ VRow w a (u64s rows) ∧ rows.length = len ∧ ∀ r ∈ rows, r < 18446744073709551616 := by
 rcases open_ints (t := 48) (e := 47) (k := .u64) (by kernel_rfl) (by kernel_rfl) (by kernel_rfl) h with ⟨hcs, _⟩ | ⟨x, len, cap, zs, hcs, _, hl, hm, hz, _, hcell, hwz⟩
 ·have hcs' : v = .slice none 0 0 := by simpa using hcs
  subst hcs'
  exact ⟨none, 0, 0, [], rfl, .inl rfl, rfl, fun r hr => by cases hr⟩
 ·have hcs' : v = .slice (some x) len cap := by simpa using hcs
  subst hcs'
  have hzl : len ≤ zs.length := by rw [hz]; split <;> omega
  refine ⟨some x, len, cap, (zs.take len).map Int.toNat, rfl, ?_, ?_, ?_⟩
  ·rcases Nat.eq_zero_or_pos len with h0 | h0
   ·subst h0; exact .inl (by simp [u64s])
   ·obtain ⟨b, off, spot⟩ := x
    have hc0 := hcell 0 (by omega)
    have hspot : spot = none := by simpa [Addr.add] using World.cell?_spot hc0
    subst hspot
    refine .inr ⟨b, off, rfl, fun i v hi => ?_⟩
    obtain ⟨q, hq, rfl⟩ := u64s_at hi
    rw [List.getElem?_map, List.getElem?_take] at hq
    split at hq
    ·rename_i hlt
     have hi2 : i < zs.length := by omega
     rw [List.getElem?_eq_getElem hi2] at hq
     have hq' : (zs[i]).toNat = q := by simpa using hq
     obtain ⟨m, hm1, hm2⟩ := u64_nat (hwz _ (List.getElem_mem hi2))
     have hc := hcell i hi2
     have e : ({ block := b, off := off } : Addr).add i = ⟨b, off + i, none⟩ := by simp [Addr.add]
     rw [e] at hc
     rw [hc]
     have : zs.getD i 0 = zs[i] := by simp [List.getD, List.getElem?_eq_getElem hi2]
     rw [this, hm1, ← hq', hm1]
     rfl
    ·cases hq
  ·simp; omega
  ·intro r hr
   obtain ⟨z, hz1, rfl⟩ := List.mem_map.1 hr
   obtain ⟨m, hm1, hm2⟩ := u64_nat (hwz z (List.mem_of_mem_take hz1))
   rw [hm1]; exact hm2
theorem facts_in {n : Nat} {a b : Value} {x : DataW H × List MemPlace} (h : DataW.trod enc Try.prog w base spare held n 50 [a, b] = some x) :
  ∃ (g : Nat) (ra : Option Addr) (rl rc : Nat) (rows : List Nat), a = .int .u64 (g : Int) ∧ b = .slice ra rl rc ∧ g < 18446744073709551616 ∧ VRow w ra (u64s rows) ∧ rows.length = rl ∧ ∀ r ∈ rows, r < 18446744073709551616 := by
 obtain ⟨xs, n', _, _, hl, hlen, hg⟩ := DataW.trod_struct Try.underlying50 h
 have hlen2 : xs.length = 2 := hlen
 have g0 := hg 0 _ rfl
 have g1 := hg 1 _ rfl
 rw [show Try.prog.cellsOf _ = 1 by kernel_rfl, List.getElem?_eq_getElem (by omega)] at g0 g1
 obtain ⟨z0, e0, _, w0⟩ := DataW.trod_int (k := .u64) (by kernel_rfl) g0
 simp at e0
 subst e0
 obtain ⟨g, rfl, hg64⟩ := u64_nat w0
 obtain ⟨ra, rl, rc, rows, e1, h1, h2, h3⟩ := u64s_open (v := b) g1
 exact ⟨g, ra, rl, rc, rows, rfl, e1, hg64, h1, h2, h3⟩
theorem weight_in : ∀ (fuel : Nat) {cs : List Value} {x : DataW H × List MemPlace}, DataW.trod enc Try.prog w base spare held fuel 54 cs = some x → ∃ s : WV, cs = s.f.six ∧ WIn w fuel s := by
 intro fuel
 induction fuel using Nat.strongRecOn with
 | _ fuel ih =>
 intro cs x h
 obtain ⟨xs, n, hn, _, hl, hlen, hg⟩ := DataW.trod_struct Try.underlying54 h
 rw [show Try.prog.cellsOf 54 = 6 by kernel_rfl] at hl
 obtain ⟨a, b, c, d, e, f, rfl⟩ := six_len hl
 have hlen5 : xs.length = 5 := hlen
 have g0 := hg 0 _ rfl
 have g1 := hg 1 _ rfl
 have g2 := hg 2 _ rfl
 have g3 := hg 3 _ rfl
 have g4 := hg 4 _ rfl
 rw [show Try.prog.cellsOf _ = 1 by kernel_rfl, List.getElem?_eq_getElem (by omega)] at g0 g1 g3 g4
 rw [show Try.prog.cellsOf _ = 2 by kernel_rfl, List.getElem?_eq_getElem (by omega)] at g2
 obtain ⟨z0, e0, _⟩ := DataW.trod_bool (by kernel_rfl) g0
 obtain ⟨z1, e1, _, w1⟩ := DataW.trod_int (k := .i64) (by kernel_rfl) g1
 simp at e0 e1
 subst e0 e1
 obtain ⟨gg, ra, rl, rc, rows, rfl, rfl, hg64, hrow, hrl, hr64⟩ := facts_in (a := c) (b := d) g2
 obtain ⟨ca, cl, cc, e3⟩ := slice_form g3
 have e3' : e = .slice ca cl cc := by simpa using e3
 subst e3'
 obtain ⟨cells, hcl, hcm, hcrow, hcbits⟩ := cells_open (a := ca) (len := cl) (cap := cc) g3
 rcases DataW.trod_slice Try.underlying52 g4 with ⟨hcs, _⟩ | ⟨ad, len, cap, elems, rest, n', hn', hcs, _, hb, hle, hcap, hel, hi, _, _⟩
 ·simp at hcs
  subst hcs
  subst hn
  exact ⟨.mk ⟨z0, z1, gg, ra, rl, rc, rows, ca, cl, cc, cells, none, 0, 0⟩ [], rfl, ⟨hrow, hrl, hg64, hr64, hcrow, hcl.symm, hcbits, by dsimp only; omega⟩, rfl, .inl rfl, fun p hp => by cases hp⟩
 ·simp at hcs
  subst hcs
  subst hn
  rw [show Try.prog.cellsOf 54 = 6 by kernel_rfl] at hi
  obtain ⟨ps, hpl, hps⟩ := list_pick len (fun i (p : WV) => (w.cell? (ad.add (i * 6)) = some (.bool p.f.z) ∧ w.cell? (ad.add (i * 6 + 1)) = some (.int .i64 p.f.c) ∧ w.cell? (ad.add (i * 6 + 2)) = some (.int .u64 (p.f.g : Int)) ∧ w.cell? (ad.add (i * 6 + 3)) = some (.slice p.f.ra p.f.rl p.f.rc) ∧ w.cell? (ad.add (i * 6 + 4)) = some (.slice p.f.ca p.f.cl p.f.cc) ∧ w.cell? (ad.add (i * 6 + 5)) = some (.slice p.f.pa p.f.pl p.f.pc)) ∧ WIn w n' p) (fun i hil => by
   have hii := hi i hil
   rw [List.getElem?_eq_getElem (by omega)] at hii
   obtain ⟨cs', hc, ht⟩ := Option.bind_eq_some_iff.1 hii
   obtain ⟨_, hcl, hat⟩ := World.cells?_some hc
   obtain ⟨s, rfl, hs⟩ := ih n' (by omega) ht
   have e0 := hat 0 (by omega)
   have e1 := hat 1 (by omega)
   have e2 := hat 2 (by omega)
   have e3 := hat 3 (by omega)
   have e4 := hat 4 (by omega)
   have e5 := hat 5 (by omega)
   rw [Go.Deep.add_add] at e0 e1 e2 e3 e4 e5
   exact ⟨s, ⟨e0, e1, e2, e3, e4, e5⟩, hs⟩)
  refine ⟨.mk ⟨z0, z1, gg, ra, rl, rc, rows, ca, cl, cc, cells, some ad, len, cap⟩ ps, rfl, ⟨hrow, hrl, hg64, hr64, hcrow, hcl.symm, hcbits, by dsimp only; omega⟩, hpl, ?_, fun p hp => ?_⟩
  ·rcases Nat.eq_zero_or_pos len with h0 | h0
   ·exact .inl (List.length_eq_zero_iff.1 (by omega))
   ·obtain ⟨b, off, spot⟩ := ad
    obtain ⟨⟨h1, _⟩, _⟩ := hps 0 (ps[0]'(by omega)) (List.getElem?_eq_getElem (by omega))
    have hspot : spot = none := by simpa [Addr.add] using World.cell?_spot h1
    subst hspot
    refine .inr ⟨b, off, rfl, fun i c hic => ?_⟩
    have e : ∀ k, ({ block := b, off := off } : Addr).add k = ⟨b, off + k, none⟩ := fun k => by simp [Addr.add]
    have h3 := (hps i c hic).1
    rw [e, e, e, e, e, e, ← Nat.add_assoc, ← Nat.add_assoc, ← Nat.add_assoc, ← Nat.add_assoc, ← Nat.add_assoc] at h3
    exact h3
  ·obtain ⟨i, hi', hic⟩ := List.mem_iff_getElem.1 hp
   exact (hps i p (by rw [← hic]; exact List.getElem?_eq_getElem hi')).2.more (by omega)
end
end Go.Proofs.Ytnhnedifekejpaa
namespace Go.Proofs.Ytnhnedifekejpaa
open Go.RowKit Go.ChangeShapes Go.WideShapes Go.Deep Go.Joins
theorem ten_len {cs : List Value} (h : cs.length = 10) : ∃ a b c d e f g i j k, cs = [a, b, c, d, e, f, g, i, j, k] := by
 match cs, h with
 | [a, b, c, d, e, f, g, i, j, k], _ => exact ⟨a, b, c, d, e, f, g, i, j, k, rfl⟩
theorem cellsAt_of {w : World} {b : Nat} : ∀ (vs : List Value) (o : Nat), (∀ (j : Nat) u, vs[j]? = some u → w.cell? ⟨b, o + j, none⟩ = some u) → CellsAt w b o vs
 | [], _, _ => trivial
 | v :: vs, o, h => ⟨h 0 v rfl, cellsAt_of vs (o + 1) fun j u hj => by have := h (j + 1) u (by simpa using hj); rwa [show o + 1 + j = o + (j + 1) by omega]⟩
section
variable {H : Type} {enc : TypeId × Value → H} {w : World} {base : Nat} {spare : Nat → Bool} {held : Bool}
theorem ints_in {n : Nat} {v : Value} {x : DataW H × List MemPlace} (h : DataW.trod enc Try.prog w base spare held n 30 [v] = some x) :
  ∃ (a : Option Addr) (len cap : Nat) (zs : List Int), v = .slice a len cap ∧ Row w a zs ∧ zs.length = len ∧ len ≤ cap ∧ cap ≤ maxLen := by
 rcases open_ints (t := 30) (e := 3) (k := .i64) (by kernel_rfl) (by kernel_rfl) (by kernel_rfl) h with ⟨hcs, _⟩ | ⟨x, len, cap, zs, hcs, _, hl, hm, hz, _, hcell, hwz⟩
 ·have hcs' : v = .slice none 0 0 := by simpa using hcs
  subst hcs'
  exact ⟨none, 0, 0, [], rfl, .inl rfl, rfl, Nat.le_refl _, Nat.zero_le _⟩
 ·have hcs' : v = .slice (some x) len cap := by simpa using hcs
  subst hcs'
  have hzl : len ≤ zs.length := by rw [hz]; split <;> omega
  refine ⟨some x, len, cap, zs.take len, rfl, ?_, by simp; omega, hl, hm⟩
  rcases Nat.eq_zero_or_pos len with h0 | h0
  ·subst h0; exact .inl (by simp)
  ·obtain ⟨b, off, spot⟩ := x
   have hc0 := hcell 0 (by omega)
   have hspot : spot = none := by simpa [Addr.add] using World.cell?_spot hc0
   subst hspot
   refine .inr ⟨b, off, rfl, fun i hi => ?_⟩
   have hi1 : i < len := by simp at hi; omega
   have hi2 : i < zs.length := by omega
   have hc := hcell i hi2
   have e : ({ block := b, off := off } : Addr).add i = ⟨b, off + i, none⟩ := by simp [Addr.add]
   rw [e] at hc
   rw [hc]
   simp [List.getD, List.getElem?_take, hi1]
end
end Go.Proofs.Ytnhnedifekejpaa
namespace Go.Proofs.Ytnhnedifekejpaa
open Go.RowKit Go.ChangeShapes Go.WideShapes Go.Deep Go.Joins
structure PvCap (p : PV) : Prop where
 s : p.s.f.len ≤ p.s.f.cap
 r : ∀ r ∈ p.rs, r.wl ≤ r.wc
 rl : p.rl ≤ 9223372036854775807
section
variable {H : Type} {enc : TypeId × Value → H} {w : World} {base : Nat} {spare : Nat → Bool} {held : Bool}
theorem space_cap {n : Nat} {sf : SF} {x : DataW H × List MemPlace} (h : DataW.trod enc Try.prog w base spare held n 25 [.int .i64 sf.tag, .int .i64 sf.dim, .slice sf.a sf.len sf.cap] = some x) : sf.len ≤ sf.cap := by
 obtain ⟨xs, n', hn, _, hl, hlen, hg⟩ := DataW.trod_struct Try.underlying25 h
 have hlen3 : xs.length = 3 := hlen
 have g2 := hg 2 _ rfl
 rw [show Try.prog.cellsOf _ = 1 by kernel_rfl, List.getElem?_eq_getElem (by omega)] at g2
 rcases DataW.trod_slice Try.underlying23 g2 with ⟨hcs, _⟩ | ⟨ad, len, cap, elems, rest, n2, hn2, hcs, _, hb, hle, hcap, hel, hi, _, _⟩
 ·simp at hcs
  omega
 ·simp at hcs
  obtain ⟨_, rfl, rfl⟩ := hcs
  omega
theorem rule_in2 {n : Nat} {cs : List Value} {x : DataW H × List MemPlace} (h : DataW.trod enc Try.prog w base spare held n 56 cs = some x) : ∃ r : RV, cs = r.ten ∧ RIn w n r ∧ r.wl ≤ r.wc := by
 obtain ⟨xs, n', hn, _, hl, hlen, hg⟩ := DataW.trod_struct Try.underlying56 h
 rw [show Try.prog.cellsOf 56 = 10 by kernel_rfl] at hl
 obtain ⟨a, b, c, d, e, f, g, i, j, k, rfl⟩ := ten_len hl
 have hlen5 : xs.length = 5 := hlen
 have g0 := hg 0 _ rfl
 have g1 := hg 1 _ rfl
 have g2 := hg 2 _ rfl
 have g3 := hg 3 _ rfl
 have g4 := hg 4 _ rfl
 rw [show Try.prog.cellsOf _ = 1 by kernel_rfl, List.getElem?_eq_getElem (by omega)] at g0 g1 g2 g3
 rw [show Try.prog.cellsOf _ = 6 by kernel_rfl, List.getElem?_eq_getElem (by omega)] at g4
 obtain ⟨z0, e0, _, w0⟩ := DataW.trod_int (k := .i64) (by kernel_rfl) g0
 obtain ⟨z1, e1, _, w1⟩ := DataW.trod_int (k := .i64) (by kernel_rfl) g1
 obtain ⟨z2, e2, _, w2⟩ := DataW.trod_int (k := .i64) (by kernel_rfl) g2
 simp at e0 e1 e2
 subst e0 e1 e2
 obtain ⟨ra, rl, rc, ws, rfl, hrow, hrl, hcap9, _⟩ := ints_in (v := d) g3
 obtain ⟨s, e4, hs⟩ := weight_in n' g4
 have e4' : [e, f, g, i, j, k] = s.f.six := by simpa using e4
 simp only [List.cons.injEq, and_true] at e4'
 obtain ⟨rfl, rfl, rfl, rfl, rfl, rfl⟩ := e4'
 exact ⟨⟨z0, z1, z2, ra, rl, rc, ws, s⟩, rfl, ⟨hrow, hrl, hs.more (by omega)⟩, hcap9⟩
theorem pds_in2 {n : Nat} {cs : List Value} {x : DataW H × List MemPlace} (h : DataW.trod enc Try.prog w base spare held n 28 cs = some x) : ∃ p : PV, cs = p.six ∧ PvIn w n n p ∧ PvCap p := by
 obtain ⟨xs, n', hn, _, hl, hlen, hg⟩ := DataW.trod_struct Try.underlying28 h
 rw [show Try.prog.cellsOf 28 = 6 by kernel_rfl] at hl
 obtain ⟨a, b, c, d, e, f, rfl⟩ := six_len hl
 have hlen4 : xs.length = 4 := hlen
 have g0 := hg 0 _ rfl
 have g1 := hg 1 _ rfl
 have g2 := hg 2 _ rfl
 have g3 := hg 3 _ rfl
 rw [show Try.prog.cellsOf _ = 3 by kernel_rfl, List.getElem?_eq_getElem (by omega)] at g0
 rw [show Try.prog.cellsOf _ = 1 by kernel_rfl, List.getElem?_eq_getElem (by omega)] at g1 g2 g3
 obtain ⟨s, es, hs⟩ := space_in n' g0
 have es' : [a, b, c] = [.int .i64 s.f.tag, .int .i64 s.f.dim, .slice s.f.a s.f.len s.f.cap] := by simpa using es
 simp only [List.cons.injEq, and_true] at es'
 obtain ⟨rfl, rfl, rfl⟩ := es'
 obtain ⟨z1, e1, _, w1⟩ := DataW.trod_int (k := .i64) (by kernel_rfl) g1
 obtain ⟨z2, e2, _, w2⟩ := DataW.trod_int (k := .i64) (by kernel_rfl) g2
 simp at e1 e2
 subst e1 e2
 rcases DataW.trod_slice Try.underlying26 g3 with ⟨hcs, _⟩ | ⟨ad, len, cap, elems, rest, n2, hn2, hcs, _, hb, hle, hcap, hel, hi, _, _⟩
 ·simp at hcs
  subst hcs
  exact ⟨⟨s, z1, z2, none, 0, 0, []⟩, rfl, ⟨hs.more (by omega), .inl rfl, rfl, fun r hr => by cases hr⟩, space_cap g0, (fun r hr => by cases hr), Nat.zero_le _⟩
 ·simp at hcs
  subst hcs
  rw [show Try.prog.cellsOf 56 = 10 by kernel_rfl] at hi
  obtain ⟨rs, hrl, hrs⟩ := list_pick len (fun i (r : RV) => (∀ (j : Nat) u, r.ten[j]? = some u → w.cell? (ad.add (i * 10 + j)) = some u) ∧ RIn w n2 r ∧ r.wl ≤ r.wc) (fun i hil => by
   have hii := hi i hil
   rw [List.getElem?_eq_getElem (by omega)] at hii
   obtain ⟨cs', hc, ht⟩ := Option.bind_eq_some_iff.1 hii
   obtain ⟨_, hcl, hat⟩ := World.cells?_some hc
   obtain ⟨r, rfl, hr, hr9⟩ := rule_in2 ht
   refine ⟨r, fun j u hj => ?_, hr, hr9⟩
   have hj10 : j < 10 := (List.getElem?_eq_some_iff.1 hj).1
   have h0 := hat j (by omega)
   rw [Go.Deep.add_add] at h0
   rw [h0]; exact hj)
  refine ⟨⟨s, z1, z2, some ad, len, cap, rs⟩, rfl, ⟨hs.more (by omega), ?_, hrl, fun r hr => ?_⟩, space_cap g0, fun r hr => ?_, by simp only [maxLen] at hcap hle; dsimp only; omega⟩
  ·rcases Nat.eq_zero_or_pos len with h0 | h0
   ·exact .inl (List.length_eq_zero_iff.1 (by dsimp only; omega))
   ·obtain ⟨b, off, spot⟩ := ad
    have h1 := (hrs 0 (rs[0]'(by omega)) (List.getElem?_eq_getElem (by omega))).1 0 _ rfl
    have hspot : spot = none := by simpa [Addr.add] using World.cell?_spot h1
    subst hspot
    refine .inr ⟨b, off, rfl, fun i r hir => cellsAt_of _ _ fun j u hj => ?_⟩
    have h3 := (hrs i r hir).1 j u hj
    have e : ∀ k, ({ block := b, off := off } : Addr).add k = ⟨b, off + k, none⟩ := fun k => by simp [Addr.add]
    rw [e, ← Nat.add_assoc] at h3
    exact h3
  ·obtain ⟨i, hi', hic⟩ := List.mem_iff_getElem.1 hr
   have h4 := (hrs i r (by rw [← hic]; exact List.getElem?_eq_getElem hi')).2.1
   exact ⟨h4.row, h4.len, h4.x.more (by omega)⟩
  ·obtain ⟨i, hi', hic⟩ := List.mem_iff_getElem.1 hr
   exact (hrs i r (by rw [← hic]; exact List.getElem?_eq_getElem hi')).2.2
theorem pds_open2 {r : Reach} {b0 : Nat} {v : Value} {d : DataW H} {p : List MemPlace} (hv : Value.okWide Try.prog w r b0 28 v) (h : DataW.Trod enc Try.prog w base spare held 28 v d p) :
  ∃ (n : Nat) (s : PV), v = s.val ∧ PvIn w n n s ∧ PvCap s := by
 obtain ⟨cs, rfl, _⟩ := okWide_struct Try.underlying28 hv
 obtain ⟨n, h⟩ := h
 obtain ⟨s, e, hs⟩ := pds_in2 (n := n) h
 have e' : cs.toList = _ := e
 exact ⟨n, s, by show Value.agg cs = Value.agg _; congr 1; exact Array.ext' e', hs⟩
end
end Go.Proofs.Ytnhnedifekejpaa
namespace Go.Proofs.Ytnhnedifekejpaa
open Go Go.RowKit
theorem goes_12 : goesIn Try.prog 12 = true := by kernel_rfl
theorem goes_14 : goesIn Try.prog 14 = true := by kernel_rfl
theorem goes_15 : goesIn Try.prog 15 = true := by kernel_rfl
theorem goes_9 : goesIn Try.prog 9 = true := by kernel_rfl
theorem below_join {n : Nat} {w A W : World} (hn : n = w.heap.size) (h1 : Below n w A) (h2 : Below n w W) (h3 : Agree n A W) : Below A.heap.size A W where
 os := h2.os.trans h1.os.symm
 tape := h2.tape.trans h1.tape.symm
 output := h2.output.trans h1.output.symm
 size := h3.1
 block := fun k hk => by
  rcases Nat.lt_or_ge k n with h | h
  ·exact (h2.block k h).trans (h1.block k h).symm
  ·exact h3.2 k h hk
theorem PdsOk.below {w w' : World} {S : PS} {px : RV → PX} {p : PV} (h : PdsOk w S px p) (hb : Below w.heap.size w w') : PdsOk w' S px p := ⟨h.chk, h.ok, h.si.below hb, fun r hr => (h.x r hr).below hb, h.rl, h.w4, h.st, h.sy, h.rule⟩
theorem pdsOk_ex {w : World} {ds d : Nat} {p : PV} (hp : PvIn w ds d p) : ∃ S px, pdsE p = 0 → PdsOk w S px p := by
 by_cases h : pdsE p = 0
 ·obtain ⟨S, px, hk⟩ := pdsOk_of hp h
  exact ⟨S, px, fun _ => hk⟩
 ·exact ⟨.one 0 0, fun _ => oneX (.one 0 0), fun h9 => absurd h9 h⟩
def ShR (o : Option PS) (pl : List PR) (zt yt E : Int) (w : World) (e : Ending) (w' : World) : Prop :=
 ∃ (sf : SF) (n : Nat) (a1 a2 a3 : Option Addr) (c1 c2 c3 : Nat) (ns : List R9), e = .returned (.tuple #[.agg #[.int .i64 sf.tag, .int .i64 sf.dim, .slice sf.a sf.len sf.cap, .int .i64 zt, .int .i64 yt, .slice a1 n c1, .slice a2 n c2, .slice a3 n c3], .int .i64 E]) ∧ ShO o pl w' sf n a1 a2 a3 ns ∧ Below w.heap.size w w'
theorem shR_of {D : Option PS × List PR × Int × Int × Int} {o : Option PS} {pl : List PR} {zt yt E : Int} {w w' : World} {e : Ending} (hD : D = (o, pl, zt, yt, E)) (h : ShOutX D w e w') : ShR o pl zt yt E w e w' := by
 subst hD; exact h
theorem shortA_out {ds d : Nat} {p : PV} {w : World} {S : PS} {px : RV → PX} {o : Option PS} {pl : List PR} {zt yt E : Int} (hD : shortD S px p = (o, pl, zt, yt, E)) (hp : PvIn w ds d p) (ht : Tabs w) (hpx : pdsE p = 0 → PdsOk w S px p) : Calls Try.prog 13 #[p.val] w (ShR o pl zt yt E w) := by
 refine (shortA_is hp ht S px hpx).mono fun e w' h => shR_of hD ?_
 obtain ⟨hb, ⟨h1, rfl⟩ | ⟨h1, h2, rfl⟩ | ⟨h1, s2, v1, v2, v3, ns, hok, rfl⟩⟩ := h
 ·exact shOut_bad h1 hb
 ·exact shOut_many h1 h2 hb
 ·exact shOut_ok h1 hok.few ⟨hok.pds.ok, hok.space _ (Agree.refl _ _)⟩ hok.pl (fun r hr => (hok.rules r hr).ok) (by have h9 := shortF_len9 hp hok.few hok.pl; omega) hok.r1 hok.r2 hok.r3 hb
theorem shortR_out {ds d : Nat} {p : PV} {w : World} {S : PS} {px : RV → PX} {o : Option PS} {pl : List PR} {zt yt E : Int} (hD : shortD S px p = (o, pl, zt, yt, E)) (hp : PvIn w ds d p) (ht : Tabs w) (hpx : pdsE p = 0 → PdsOk w S px p) (hcap : ∀ r ∈ p.rs, r.wl ≤ r.wc) : Calls Try.prog 14 #[p.val] w (ShR o pl zt yt E w) :=
 (shortR_c ds d p.s p.st p.sy p.ra p.rl p.rc p.rs w hp.s hp.row hp.len hp.rin ht S px hpx hcap).mono fun e w' h => shR_of hD h
theorem pdsShorts_walk0 (ds d : Nat) (p : PV) (w : World) (hp : PvIn w (ds + 1) d p) (hc : PvCap9 p) (hrm : p.rl ≤ 9223372036854775807) (ht : ∀ W, Tabs W) :
  Calls Try.prog 4 #[p.val] w (fun e w' => e = .returned (.bool (true)) ∧ Below w.heap.size w w') := by
 refine enterF (args := [p.val]) Try.func4 rfl Try.ntmps4 rfl ?_
 have hS := St.start w
 refine seqF (regF ?_)
 refine op_box (cs := [_, _, _, _, _, _]) hS rfl rfl rfl ?_
 clear hS; intro B1 W1 hS
 refine op_assign rfl rfl ?_
 refine endF (XF.thenN ?_)
 refine seqF (regF ?_)
 refine op_loadA (vs := [_, _, _, _, _, _]) Try.isAgg28 Try.sizeOf28 rfl (CellsAt.own (j := 0) (m := 6) (hS.at_ 0 rfl) rfl) rfl ?_
 refine op_call (vs := [_]) hS goes_9 rfl (pcut_is hS.below hp hc hrm) rfl ?_
 rintro e W2 ⟨q, rfl, hq, hb⟩
 refine ⟨_, rfl, hb, fun hS' => ?_⟩
 clear hS; have hS := hS'; clear hS'
 clear hb
 have HQ : Held w [(W1.heap.size, W2)] (fun W2 => PvIn W2 (ds + 1) d q) := fun h2 hk => hq.far _ h2.below (h2.kept _ (hk _ List.mem_cons_self)).1
 refine op_storeA (i := 0) (vs := [_, _, _, _, _, _]) (cs' := [_, _, _, _, _, _]) (O' := [_]) hS Try.sizeOf28 rfl rfl rfl rfl rfl rfl rfl ?_
 clear hS; intro W3 hS
 refine endF (XF.thenN ?_)
 refine seqF ?_
 have hRoot := hS.below
 have hR2 := hRoot
 have hqw := HQ hS (fun z hz => by simp at hz; subst hz; simp)
 have kb1 : CellsAt W3 B1 0 q.six := CellsAt.own (j := 0) (m := 6) (hS.at_ 0 rfl) rfl
 obtain ⟨S, px, hpx⟩ := pdsOk_ex hqw
 obtain ⟨⟨o, pl, zt, yt, E⟩, hD⟩ : ∃ D, shortD S px q = D := ⟨_, rfl⟩
 clear HQ
 obtain ⟨WA, hWA⟩ : ∃ x, x = W3 := ⟨_, rfl⟩
 clear hS; have hS := St.start W3
 refine regF ?_
 refine op_loadA (vs := [_, _, _, _, _, _]) Try.isAgg28 Try.sizeOf28 rfl (kb1) rfl ?_
 refine op_call (vs := [_]) hS goes_13 rfl (shortA_out hD (hqw.below hS.below) (ht _) (fun h => (hpx h).below hS.below)) rfl ?_
 rintro e W4 ⟨sf1, n1, a1, b1, d1, c1, e1, f1, ns1, rfl, ho1, hb⟩
 refine ⟨_, rfl, hb, fun hS' => ?_⟩
 clear hS; have hS := hS'; clear hS'
 have hb1 := hb
 clear hb
 refine op_move rfl rfl ?_
 refine op_extract rfl rfl rfl ?_
 refine op_extract rfl rfl rfl ?_
 refine op_alloc (cs := [_, _, _, _, _, _, _, _]) hS Try.zeroValue40 rfl rfl ?_
 clear hS; intro B5 W5 hS
 refine op_storeA (i := 0) (vs := [_, _, _, _, _, _, _, _]) (cs' := [_, _, _, _, _, _, _, _]) (O' := [_]) hS Try.sizeOf40 rfl rfl rfl rfl rfl rfl rfl ?_
 clear hS; intro W6 hS
 refine op_assign rfl rfl ?_
 refine endF (XF.thenN ?_)
 refine seqF ?_
 have hRoot := hS.below
 have hR3 := hRoot
 have ho3 := ho1.below (below_join rfl hb1 hS.below (hS.since 0 rfl))
 have kb2 : CellsAt W6 B1 0 q.six := CellsAt.agree hS.agree (Nat.zero_le _) kb1
 have kb3 : CellsAt W6 B5 0 [.int .i64 sf1.tag, .int .i64 sf1.dim, .slice sf1.a sf1.len sf1.cap, .int .i64 zt, .int .i64 yt, .slice a1 n1 c1, .slice b1 n1 e1, .slice d1 n1 f1] := CellsAt.own (j := 0) (m := 8) (hS.at_ 0 rfl) rfl
 have hqw3 := hqw.below hRoot
 have hpx3 : pdsE q = 0 → PdsOk W6 S px q := fun h => (hpx h).below hRoot
 clear hS; have hS := St.start W6
 refine regF ?_
 refine op_loadA (vs := [_, _, _, _, _, _]) Try.isAgg28 Try.sizeOf28 rfl (kb2) rfl ?_
 refine op_call (vs := [_]) hS goes_14 rfl (shortR_out hD (hqw3.below hS.below) (ht _) (fun h => (hpx3 h).below hS.below) hq.cap) rfl ?_
 rintro e W7 ⟨sf2, n2, a2, b2, d2, c2, e2, f2, ns2, rfl, ho2, hb⟩
 refine ⟨_, rfl, hb, fun hS' => ?_⟩
 clear hS; have hS := hS'; clear hS'
 have hb2 := hb
 clear hb
 refine op_move rfl rfl ?_
 refine op_extract rfl rfl rfl ?_
 refine op_extract rfl rfl rfl ?_
 refine op_alloc (cs := [_, _, _, _, _, _, _, _]) hS Try.zeroValue40 rfl rfl ?_
 clear hS; intro B8 W8 hS
 refine op_storeA (i := 0) (vs := [_, _, _, _, _, _, _, _]) (cs' := [_, _, _, _, _, _, _, _]) (O' := [_]) hS Try.sizeOf40 rfl rfl rfl rfl rfl rfl rfl ?_
 clear hS; intro W9 hS
 refine op_assign rfl rfl ?_
 refine endF (XF.thenN ?_)
 refine seqF ?_
 have ho4 := ho2.below (below_join rfl hb2 hS.below (hS.since 0 rfl))
 have ho5 := ho3.below hS.below
 have hpl9 : ns1.map R9.pl = ns2.map R9.pl := ho5.pl.trans ho4.pl.symm
 obtain rfl : n1 = n2 := by have h9 := congrArg List.length hpl9; rw [List.length_map, List.length_map, ho5.len, ho4.len] at h9; exact h9
 have kb4 := CellsAt.agree hS.agree (Nat.zero_le _) kb3
 refine regF ?_
 refine op_loadA (vs := [_, _, _, _, _, _, _, _]) Try.isAgg40 Try.sizeOf40 rfl (kb4) rfl ?_
 refine op_loadA (vs := [_, _, _, _, _, _, _, _]) Try.isAgg40 Try.sizeOf40 rfl (CellsAt.own (j := 0) (m := 8) (hS.at_ 0 rfl) rfl) rfl ?_
 refine op_call (vs := [_, _]) hS goes_15 rfl (sameShort_eq o pl sf1 sf2 zt yt n1 a1 a2 b1 b2 d1 d2 c1 c2 e1 e2 f1 f2 ns1 ns2 _ ho5 ho4) rfl ?_
 rintro e W10 ⟨rfl, hb⟩
 refine ⟨_, rfl, hb, fun hS' => ?_⟩
 clear hS; have hS := hS'; clear hS' hb
 refine op_move rfl rfl ?_
 refine op_wantedF (d := 22) rfl rfl ?_
 refine op_move rfl rfl ?_
 refine op_wantedF (d := 22) rfl rfl ?_
 refine op_move rfl rfl ?_
 refine op_wantedF (d := 22) rfl rfl ?_
 refine op_eql rfl rfl rfl ?_
 refine op_pickT rfl rfl rfl ?_
 refine op_move rfl rfl ?_
 refine op_cases (d := 27) rfl (fun hc => ?_) (fun hc => absurd (of_decide_eq_false hc) (by exact fun h => h rfl))
 have hc := of_decide_eq_true hc
 refine op_wantedF (d := 27) rfl rfl ?_
 refine op_call (vs := []) hS goes_12 rfl (alive_is _ (ht _)) rfl ?_
 rintro e W11 ⟨rfl, hb⟩
 refine ⟨_, rfl, hb, fun hS' => ?_⟩
 clear hS; have hS := hS'; clear hS' hb
 refine op_pickT rfl rfl rfl ?_
 refine op_assign rfl rfl ?_
 refine endF (XF.thenN ?_)
 refine retF ?_
 refine XF.res (res1 Try.results4 rfl) ?_
 exact ⟨rfl, (hR2.trans (hR3.mono hR2.size)).trans (hS.below.mono (Nat.le_trans hR2.size hR3.size))⟩
theorem pdsShorts_walk (n : Nat) (p : PV) (w : World) (hp : PvIn w n n p ∧ PvCap p) : Calls Try.prog 4 #[p.val] w (fun e w' => e = .returned (.bool (true)) ∧ Below w.heap.size w w') := by
 cases n with
 | zero => exact hp.1.s.elim
 | succ n => exact pdsShorts_walk0 n (n + 1) p w hp.1 ⟨hp.2.s, hp.2.r⟩ hp.2.rl tabs_none
end Go.Proofs.Ytnhnedifekejpaa
