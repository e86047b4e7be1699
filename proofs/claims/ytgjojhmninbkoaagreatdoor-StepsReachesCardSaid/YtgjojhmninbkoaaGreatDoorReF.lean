import Derived.Orders
import Derived.Below
import Derived.Deep.RegionHeld
import Derived.WalkKit
import Derived.KernelRfl
import Derived.Laws.Rows
import Derived.Laws.AppendOwn
import Derived.Laws.Strings
import Derived.Laws.Small
import Derived.Lib.Hide
import Derived.IntWalk
import Derived.Laws.Tables
import Derived.Laws.Concat
import Derived.Laws.MakeOwn
import Derived.Test.YtgjojhmninbkoaaGreatDoorProg
import Derived.Test.YtgjojhmninbkoaaGreatDoorRows
import Derived.Lib.LaidTab
import Derived.Lib.ItoaNum
import Derived.Lib.TrailingZeros
import Derived.Stop.LaidErr
import Derived.WalkSmall
import Derived.LaidMore
import Derived.Shelf.Spec.TrailingZeros
import Derived.Laws.BitsAllLaws
import Derived.Laws.Bits64
import Derived.Deep.QuietTactic
import Derived.BigQuiet
import Derived.RegionTactic
import Derived.BigRegion
import Derived.Deep.RegionHeld3
import Derived.ChangeAlike
import Derived.RangeFuncNested
import Derived.RangeFuncBound
import Derived.RangeFuncCalls
import Derived.RangeFuncLeaves
import Derived.Shelf.Abstract
import Derived.Shelf.RegionOpen
import Derived.OwnWalkIn
import Derived.TacticsInMore
import Derived.LoopNIn
import Derived.LoopIn
import Derived.Laws.Bits128
import Derived.Deep.AppendLies
import Derived.Shelf.Strconv.Itoa0
import Derived.Shelf.Strconv.Itoa1
import Derived.Shelf.LaysM
import Derived.Shelf.Strconv.Itoa2
import Derived.Shelf.Strconv.AppendUint10
import Derived.Shelf.Strconv.AppendInt10
import Derived.Shelf.Strconv.AppendIntPublic10
import Derived.Shelf.Slices.Reverse
import Derived.Ground.Names2Prog
import Derived.Shelf.Slices.Clone
import Derived.Shelf.Slices.Cells
import Derived.Sort.Grow
import Derived.Maps.AppendAt
import Derived.Lib.OthersKept
import Derived.Laws.IdiomStrings
import Derived.StillTailTactics
import Derived.Deep.RegionLaw
import Derived.Deep.DeepCutAuto
import Derived.Deep.CutRange
import Derived.Deep.RegionWith
import Derived.Laws.Bits64b
import Derived.Deep.DrawnRows
import Derived.Lib.SliceRun
import Derived.Laws.OwnMore
import Derived.OwnWalk
import Derived.WalkSpells
import Derived.Lib.Join
import Derived.Lib.OwnBridge
import Derived.WideKeyEntry
import Derived.DeepKeys4
import Derived.Lib.AppendZeros
import Derived.Lib.ItoaLen
import Derived.Lib.UnsafeStr
import Derived.Lib.AppendIntMem
import Derived.Deep.Slices
import Derived.Deep.Fields
import Derived.ChangeSame
import Derived.Lib.SmallJoins
import Derived.ChangeSlices
import Derived.ProofKit
import Derived.Laws.BytesArg
import Derived.Maps.OwnSet
import Derived.Test.YtgjojhmninbkoaaGreatDoorReA
import Derived.Test.YtgjojhmninbkoaaGreatDoorReB
import Derived.Test.YtgjojhmninbkoaaGreatDoorReC
import Derived.Test.YtgjojhmninbkoaaGreatDoorReD
import Derived.Test.YtgjojhmninbkoaaGreatDoorReE
set_option maxRecDepth 100000
set_option maxHeartbeats 4000000
set_option linter.unusedVariables false
set_option linter.unusedVariables false
set_option linter.unusedSimpArgs false
set_option linter.unusedSectionVars false
set_option linter.unnecessarySimpa false
namespace Go.Proofs.YtgjojhmninbkoaaGreatDoor
open Go Go.RowKit
structure Ready (w : World) (S : PS) (px : RV → PX) (p : PV) (c : CV) : Prop where
 chk : stepE p c = 0
 ok : S.ok
 si : SIs w S p.s.f
 w4 : ∀ r ∈ p.rs, r.wl ≤ 4096
 c4 : c.wl ≤ 4096
 x : ∀ r ∈ p.rs, XIs w S r.x.f (px r)
theorem ready {w : World} {ds d : Nat} {p : PV} {c : CV} (hp : PvIn w ds d p) (h : stepE p c = 0) : ∃ S px, Ready w S px p c := by
 classical
 have h1 : pdsE p = 0 ∧ confB p c = true := by
  unfold stepE at h
  split at h
  ·rename_i hn; exact absurd h hn
  ·rename_i hn
   split at h
   ·rename_i hc; exact ⟨Decidable.of_not_not hn, hc⟩
   ·cases h
 obtain ⟨hd, hc⟩ := h1
 have h2 : spaceE p.s = 0 ∧ p.rs.all (ruleB p.st p.sy) = true ∧ wtE p.s p.rs = 0 := by
  unfold pdsE at hd
  split at hd
  ·rename_i hn; exact absurd hd hn
  ·rename_i hn
   split at hd
   ·cases hd
   ·split at hd
    ·cases hd
    ·split at hd
     ·rename_i ha; exact ⟨Decidable.of_not_not hn, ha, hd⟩
     ·cases hd
 obtain ⟨hs, hr, hw⟩ := h2
 obtain ⟨S, hok, hsi, hx⟩ := space_of hp.s hs
 have hall : ∀ r ∈ p.rs, chkW p.s r.x = 0 := by
  have key : ∀ rs : List RV, wtE p.s rs = 0 → ∀ r ∈ rs, chkW p.s r.x = 0 := by
   intro rs
   induction rs with
   | nil => intro _ r hr; cases hr
   | cons a rs ih =>
    intro hz r hr
    unfold wtE at hz
    split at hz
    ·rename_i h0
     rcases List.mem_cons.1 hr with rfl | hr
     ·exact h0
     ·exact ih hz r hr
    ·rename_i h0; exact absurd hz h0
  exact key _ hw
 have hex : ∀ r, ∃ x, r ∈ p.rs → XIs w S r.x.f x := fun r => by
  by_cases hm : r ∈ p.rs
  ·have h0 := hall r hm
   have hokw : okW p.s r.x = true := by
    unfold chkW at h0
    rw [if_pos hs] at h0
    split at h0
    ·assumption
    ·cases h0
   obtain ⟨x, hxx⟩ := hx r.x d (hp.rin r hm).x hokw
   exact ⟨x, fun _ => hxx⟩
  ·exact ⟨zeroX S, fun h => absurd h hm⟩
 refine ⟨S, fun r => Classical.choose (hex r), h, hok, hsi, fun r hm => ?_, ?_, fun r hm => Classical.choose_spec (hex r) hm⟩
 ·have := List.all_eq_true.1 hr r hm
  unfold ruleB at this
  simp only [Bool.and_eq_true, decide_eq_true_eq] at this
  exact this.2.2.2.1
 ·unfold confB at hc
  simp only [Bool.and_eq_true, decide_eq_true_eq] at hc
  exact hc.2.1
section
variable {w : World} {ds d : Nat} {S : PS} {px : RV → PX} {p : PV} {c : CV} {la : Option Addr} {ll lc : Nat} {is : List Int} {R : Option StT × Int × Int}
theorem runA_is (hp : PvIn w ds d p) (hcf : CIn w c) (hcc : c.wl ≤ c.wc) (hrla : Row w la is) (hll : is.length = ll) (hlm : ll ≤ 9223372036854775807) (hr : Ready w S px p c) (ht : Tabs w) (hR : runF S px p.rs is 0 (c.p, c.ws, oneX S) = R) : Calls Tryz.prog 8 #[p.val, c.val, .slice la ll lc] w (RunRet S R w) := by
 subst hR
 exact runA_c ds d S px p.s p.st p.sy p.ra p.rl p.rc p.rs c.p c.wa c.wl c.wc c.ws la ll lc is w hp.s hp.row hp.len hp.rin hcf.row hcf.len hcc hrla hll hlm hr.si hr.ok hr.chk hr.w4 hr.c4 hr.x ht
end
end Go.Proofs.YtgjojhmninbkoaaGreatDoor
namespace Go.Proofs.YtgjojhmninbkoaaGreatDoor
open Go Go.RowKit
def exW : WV := .mk ⟨false, 1, 0, none, 0, 0, [], none, 0, 0, [], none, 0, 0⟩ []
def exP (b1 b2 : Nat) : PV := ⟨.mk ⟨2, 9, none, 0, 0⟩ [], 2, 3, some ⟨b2, 0, none⟩, 2, 2, [⟨0, 1, 0, some ⟨b1, 0, none⟩, 2, 2, [2, 1], exW⟩, ⟨0, 2, 1, none, 0, 0, [], exW⟩]⟩
theorem exW_in (w : World) : WIn w 1 exW := ⟨⟨.inl rfl, rfl, by decide, (fun r hr => by cases hr), .inl rfl, rfl, (fun c hc => by cases hc), by decide⟩, rfl, .inl rfl, fun p hp => by cases hp⟩
theorem row2 {w : World} {b : Nat} {x y : Int} {T : TypeId} (h : w.heap[b]? = some (.cells (List.toArray [.int .i64 x, .int .i64 y]) T (0, 0))) : Row w (some ⟨b, 0, none⟩) [x, y] := row_own h
theorem row1 {w : World} {b : Nat} {x : Int} {T : TypeId} (h : w.heap[b]? = some (.cells (List.toArray [.int .i64 x]) T (0, 0))) : Row w (some ⟨b, 0, none⟩) [x] := by
 refine .inr ⟨b, 0, rfl, fun i hi => ?_⟩
 have : i = 0 := by simp at hi; omega
 subst this
 simp [World.cell?, h]
theorem exP_in {w : World} {b1 b2 : Nat} {T1 T2 : TypeId} (h1 : w.heap[b1]? = some (.cells (List.toArray [.int .i64 2, .int .i64 1]) T1 (0, 0)))
  (h2 : w.heap[b2]? = some (.cells (List.toArray ((⟨0, 1, 0, some ⟨b1, 0, none⟩, 2, 2, [2, 1], exW⟩ : RV).ten ++ (⟨0, 2, 1, none, 0, 0, [], exW⟩ : RV).ten)) T2 (0, 0))) : PvIn w 1 1 (exP b1 b2) := by
 refine ⟨⟨rfl, .inl rfl, fun p hp => by cases hp⟩, .inr ⟨b2, 0, rfl, fun i r hi => ?_⟩, rfl, fun r hr => ?_⟩
 ·match i, hi with
  | 0, hi =>
   cases hi
   exact CellsAt.own (j := 0) (m := 10) h2 rfl
  | 1, hi =>
   cases hi
   exact CellsAt.own (j := 10) (m := 10) h2 rfl
  | i + 2, hi => exact absurd hi (by simp [exP])
 ·rcases List.mem_cons.1 hr with rfl | hr
  ·exact ⟨row2 h1, rfl, exW_in w⟩
  ·rcases List.mem_cons.1 hr with rfl | hr
   ·exact ⟨.inl rfl, rfl, exW_in w⟩
   ·cases hr
theorem example_is (w : World) :
  Calls Tryz.prog 9 #[] w (fun e w' => ∃ b1 b2, e = .returned (exP b1 b2).val ∧ (∀ w2, Agree w.heap.size w' w2 → PvIn w2 1 1 (exP b1 b2)) ∧ Below w.heap.size w w') := by
 refine enterF (args := []) Tryz.func9 rfl Tryz.ntmps9 rfl ?_
 have hS := St.start w
 refine seqF (regF ?_)
 refine op_alloc (cs := [_, _, _, _, _, _]) hS Tryz.zeroValue28 rfl rfl ?_
 clear hS; intro B1 W1 hS
 refine endF (XF.thenN ?_)
 refine seqF (regF ?_)
 refine op_build (us := [(1, .int .i64 _)]) rfl (bld_46_1 _) rfl ?_
 refine op_alloc (cs := [_, _, _, _, _, _]) hS Tryz.zeroValue46 rfl rfl ?_
 clear hS; intro B2 W2 hS
 refine op_storeA (i := 0) (vs := [_, _, _, _, _, _]) (cs' := [_, _, _, _, _, _]) (O' := [_, _]) hS Tryz.sizeOf46 rfl rfl rfl rfl rfl rfl rfl ?_
 clear hS; intro W3 hS
 refine endF (XF.thenN ?_)
 refine seqF (regF ?_)
 refine op_build (us := [(0, .int .i64 _), (1, .int .i64 _)]) rfl (bld_25_0_1 _ _) rfl ?_
 refine op_buildSlice (us := [(0, .int .i64 _), (1, .int .i64 _)]) hS Tryz.underlying29 Tryz.sizeOf3 Tryz.zeroValue3 rfl rfl rfl (bs_29_2 _ _) rfl ?_
 clear hS; intro B4 W4 hS
 refine op_loadA (vs := [_, _, _, _, _, _]) Tryz.isAgg46 Tryz.sizeOf46 rfl (CellsAt.own (j := 0) (m := 6) (hS.at_ 1 rfl) rfl) rfl ?_
 refine op_build (us := [(1, .int .i64 _), (3, .slice _ _ _), (4, .agg (List.toArray [_, _, _, _, _, _]))]) rfl (bld_76_1_3_4 _ _ _ _ _ _ _ _ _ _) rfl ?_
 refine op_loadA (vs := [_, _, _, _, _, _]) Tryz.isAgg46 Tryz.sizeOf46 rfl (CellsAt.own (j := 0) (m := 6) (hS.at_ 1 rfl) rfl) rfl ?_
 refine op_build (us := [(1, .int .i64 _), (2, .int .i64 _), (4, .agg (List.toArray [_, _, _, _, _, _]))]) rfl (bld_76_1_2_4 _ _ _ _ _ _ _ _) rfl ?_
 refine op_buildSlice (us := [(0, .agg (List.toArray [_, _, _, _, _, _, _, _, _, _])), (1, .agg (List.toArray [_, _, _, _, _, _, _, _, _, _]))]) hS Tryz.underlying26 Tryz.sizeOf76 Tryz.zeroValue76 rfl rfl rfl (bs_26_2 _ _ _ _ _ _ _ _ _ _ _ _ _ _ _ _ _ _ _ _) rfl ?_
 clear hS; intro B5 W5 hS
 refine op_build (us := [(0, .agg (List.toArray [_, _, _])), (1, .int .i64 _), (2, .int .i64 _), (3, .slice _ _ _)]) rfl (bld_28_0_1_2_3 _ _ _ _ _ _ _ _) rfl ?_
 refine op_storeA (i := 3) (vs := [_, _, _, _, _, _]) (cs' := [_, _, _, _, _, _]) (O' := [_, _, _, _]) hS Tryz.sizeOf28 rfl rfl rfl rfl rfl rfl rfl ?_
 clear hS; intro W6 hS
 refine endF (XF.thenN ?_)
 refine retF ?_
 refine XF.res (resC1 (vs := [_, _, _, _, _, _]) Tryz.results9 Tryz.isAgg28 Tryz.sizeOf28 rfl (CellsAt.own (j := 0) (m := 6) (hS.at_ 3 rfl) rfl)) ?_
 exact ⟨B4, B5, rfl, fun w2 hg => exP_in ((hg.2 _ (hS.ge 1 rfl) (lt_of_heap (hS.at_ 1 rfl))).trans (hS.at_ 1 rfl)) ((hg.2 _ (hS.ge 0 rfl) (lt_of_heap (hS.at_ 0 rfl))).trans (hS.at_ 0 rfl)), hS.below⟩
theorem ex_ready {w : World} {b1 b2 b3 : Nat} (S : PS) (hS : S = .one 2 9) : Ready w S (fun _ => .one (pC 1)) (exP b1 b2) ⟨0, some ⟨b3, 0, none⟩, 1, 1, [1]⟩ := by
 subst hS
 have hx : XIs w (.one 2 9) exW.f (.one (pC 1)) := PIs.of (by decide) (exW_in w).1 (by decide)
 refine ⟨?_, by show plainB 2 9 0 = true; decide, ⟨none, 0, rfl⟩, fun r hr => ?_, by show 1 ≤ 4096; decide, fun r hr => ?_⟩
 ·have e1 : spaceE (exP b1 b2).s = 0 := by show spaceE (.mk ⟨2, 9, none, 0, 0⟩ []) = 0; decide
  have e2 : (exP b1 b2).rs.all (ruleB 2 3) = true := by simp [exP, ruleB, inQ]
  have e3 : chkW (exP b1 b2).s exW = 0 := by show chkW (.mk ⟨2, 9, none, 0, 0⟩ []) exW = 0; decide
  have e4 : wtE (exP b1 b2).s (exP b1 b2).rs = 0 := wtE_all (by simp [exP]; exact decide_eq_true e3)
  have e5 : pdsE (exP b1 b2) = 0 := by
   unfold pdsE
   rw [if_neg (by rw [e1]; simp), if_neg (by simp [exP]), if_neg (by simp [exP]), if_pos (show (exP b1 b2).rs.all (ruleB (exP b1 b2).st (exP b1 b2).sy) = true from e2), e4]
  unfold stepE
  rw [if_neg (by rw [e5]; simp), if_pos (by simp [confB, exP, inQ])]
 ·rcases List.mem_cons.1 hr with rfl | hr
  ·show 2 ≤ 4096; decide
  ·rcases List.mem_cons.1 hr with rfl | hr
   ·show 0 ≤ 4096; decide
   ·cases hr
 ·rcases List.mem_cons.1 hr with rfl | hr
  ·exact hx
  ·rcases List.mem_cons.1 hr with rfl | hr
   ·exact hx
   ·cases hr
theorem ex_run {b1 b2 : Nat} : runF (.one 2 9) (fun _ => .one (pC 1)) (exP b1 b2).rs [0, 1] 0 (0, [1], oneX (.one 2 9)) = (some (1, [1], .one (pC 2)), 0, 0) := by rfl
theorem conf11 : confT 1 [1] = [49, 32, 49] := by
 have h : Lib.itoa 1 = [49] := by simp [Lib.itoa, Lib.decDigits]
 simp [confT, h]
theorem exRun {w : World} {b1 b2 b3 b4 : Nat} (hp : PvIn w 1 1 (exP b1 b2)) (h3 : Row w (some ⟨b3, 0, none⟩) [1]) (h4 : Row w (some ⟨b4, 0, none⟩) [0, 1]) (ht : Tabs w) : Calls Tryz.prog 8 #[(exP b1 b2).val, .agg #[.int .i64 0, .slice (some ⟨b3, 0, none⟩) 1 1], .slice (some ⟨b4, 0, none⟩) 2 2] w fun e w' => ∃ a c f, e = .returned (.tuple #[.agg #[.int .i64 1, .slice a 1 c], WF.val f, .int .i64 0, .int .i64 0]) ∧ RowN w.heap.size w' a c [1] ∧ f.c = 2 ∧ Below w.heap.size w w' := by
 have hr := ex_ready (w := w) (b1 := b1) (b2 := b2) (b3 := b3) _ rfl
 refine (runA_is (c := ⟨0, some ⟨b3, 0, none⟩, 1, 1, [1]⟩) (is := [0, 1]) hp ⟨h3, rfl⟩ (by show 1 ≤ 1; decide) h4 rfl (by decide) hr ht ex_run).mono ?_
 rintro e w' ⟨hb, a, c, f, rfl, hn, hx⟩
 exact ⟨a, c, f, rfl, hn, (pf_inj (hx.is).pf).2.1, hb⟩
end Go.Proofs.YtgjojhmninbkoaaGreatDoor
namespace Go.Proofs.YtgjojhmninbkoaaGreatDoor
open Go Go.RowKit
theorem text11 {w : World} {a : Option Addr} {c : Nat} (hr : Row w a [1]) (ht : Tabs w) : Calls Tryz.prog 10 #[.agg #[.int .i64 1, .slice a 1 c]] w fun e w' => e = .returned (.string ⟨#[49, 32, 49]⟩) ∧ Below w.heap.size w w' := by
 have h := text_c 1 a 1 c [1] w hr rfl (by decide) (by decide) (by decide) (by rw [conf11]; decide) ht
 rw [conf11] at h
 exact h
theorem awakeS_is (w : World) (ht : Tabs w) :
  Calls Tryz.prog 4 #[] w (fun e w' => e = .returned (.bool (true)) ∧ Below w.heap.size w w') := by
 refine enterF (args := []) Tryz.func4 rfl Tryz.ntmps4 rfl ?_
 have hS := St.start w
 refine seqF (regF ?_)
 refine op_assign rfl rfl ?_
 refine endF (XF.thenN ?_)
 refine seqF (regF ?_)
 refine op_call (vs := []) hS goes_9 rfl (example_is _) rfl ?_
 rintro e W1 ⟨b1, b2, rfl, hex, hb⟩
 refine ⟨_, rfl, hb, fun hS' => ?_⟩
 clear hS; have hS := hS'; clear hS'
 refine op_buildSlice (us := [(0, .int .i64 _)]) hS Tryz.underlying29 Tryz.sizeOf3 Tryz.zeroValue3 rfl rfl rfl (bs_29_1 _) rfl ?_
 clear hS; intro B2 W2 hS
 refine op_build (us := [(1, .slice _ _ _)]) rfl (bld_31_1 _ _ _) rfl ?_
 refine op_buildSlice (us := [(0, .int .i64 _), (1, .int .i64 _)]) hS Tryz.underlying29 Tryz.sizeOf3 Tryz.zeroValue3 rfl rfl rfl (bs_29_2 _ _) rfl ?_
 clear hS; intro B3 W3 hS
 have hsz := hS.below.size
 refine op_call (vs := [_, _, _]) hS goes_8 rfl (exRun (hex _ (hS.since 0 rfl)) (row1 (hS.at_ 1 rfl)) (row2 (hS.at_ 0 rfl)) (ht.below hS.below)) rfl ?_
 rintro e W4 ⟨a5, c5, f5, rfl, hrn, hfc, hb⟩
 refine ⟨_, rfl, hb, fun hS' => ?_⟩
 clear hS; have hS := hS'; clear hS'
 refine op_move rfl rfl ?_
 refine op_extract rfl rfl rfl ?_
 refine op_extract rfl rfl rfl ?_
 refine op_extract rfl rfl rfl ?_
 refine op_extract rfl rfl rfl ?_
 refine op_alloc (cs := [_, _]) hS Tryz.zeroValue31 rfl rfl ?_
 clear hS; intro B5 W5 hS
 refine op_alloc (cs := [_, _, _, _, _, _]) hS Tryz.zeroValue46 rfl rfl ?_
 clear hS; intro B6 W6 hS
 refine op_storeA (i := 1) (vs := [_, _]) (cs' := [_, _]) (O' := [_, _, _, _]) hS Tryz.sizeOf31 rfl rfl rfl rfl rfl rfl rfl ?_
 clear hS; intro W7 hS
 refine op_storeA (i := 0) (vs := [_, _, _, _, _, _]) (cs' := [_, _, _, _, _, _]) (O' := [_, _, _, _]) hS Tryz.sizeOf46 rfl rfl rfl rfl rfl rfl rfl ?_
 clear hS; intro W8 hS
 refine op_assign rfl rfl ?_
 refine op_assign rfl rfl ?_
 refine endF (XF.thenN ?_)
 refine seqF (regF ?_)
 refine op_move rfl rfl ?_
 refine op_eql rfl rfl rfl ?_
 refine op_move rfl rfl ?_
 refine op_cases (d := 17) rfl (fun hc => ?_) (fun hc => absurd (of_decide_eq_false hc) (by omega))
 have hc := of_decide_eq_true hc
 refine op_wantedF (d := 17) rfl rfl ?_
 refine op_loadA (vs := [_, _]) Tryz.isAgg31 Tryz.sizeOf31 rfl (CellsAt.own (j := 0) (m := 2) (hS.at_ 1 rfl) rfl) rfl ?_
 refine op_wantedF (d := 17) rfl rfl ?_
 refine op_call (vs := [_]) hS goes_10 rfl (text11 (hrn.agree (hS.since 0 rfl)).row (ht.below hS.below)) rfl ?_
 rintro e W9 ⟨rfl, hb⟩
 refine ⟨_, rfl, hb, fun hS' => ?_⟩
 clear hS; have hS := hS'; clear hS' hb
 refine op_wantedF (d := 17) rfl rfl ?_
 refine op_binG rfl rfl rfl (run_eqlS_same _ _ _) rfl ?_
 refine op_pickT rfl rfl rfl ?_
 refine op_move rfl rfl ?_
 refine op_wantedF (d := 22) rfl rfl ?_
 refine op_field (o' := 1) fa_46_1 rfl rfl rfl ?_
 refine op_wantedF (d := 22) rfl rfl ?_
 refine op_load Tryz.isAgg3 rfl (cell_own (hS.at_ 0 rfl) rfl) rfl ?_
 refine op_wantedF (d := 22) rfl rfl ?_
 refine op_eql rfl rfl rfl ?_
 refine op_pickT rfl rfl rfl ?_
 refine op_assign rfl rfl ?_
 refine endF (XF.thenN ?_)
 refine retF ?_
 refine XF.res (res1 Tryz.results4 rfl) ?_
 exact ⟨rbool (decide_eq_true hfc), hS.below⟩
end Go.Proofs.YtgjojhmninbkoaaGreatDoor
namespace Go.Proofs.YtgjojhmninbkoaaGreatDoor
open Go.RowKit Go.ChangeShapes Go.WideShapes Go.Deep
section
variable {H : Type} {enc : TypeId × Value → H} {w : World} {base : Nat} {spare : Nat → Bool} {held : Bool}
theorem three_len {cs : List Value} (h : cs.length = 3) : ∃ a b c, cs = [a, b, c] := by
 match cs, h with
 | [a, b, c], _ => exact ⟨a, b, c, rfl⟩
theorem cell_open {n : Nat} {cs : List Value} {x : DataW H × List MemPlace} (hl : cs.length = 3) (h : DataW.trod enc Tryz.prog w base spare held n 120 cs = some x) :
  ∃ c : Cl, c.f < 18446744073709551616 ∧ cs = [.int .u64 (c.f : Int), .int .i64 c.k, .int .i64 c.v] := by
 obtain ⟨xs, n', _, hx, _, hlen, hg⟩ := DataW.trod_struct Tryz.underlying120 h
 obtain ⟨a, b, c, rfl⟩ := three_len hl
 ·skip
  have hlen3 : xs.length = 3 := hlen
  have g0 := hg 0 _ rfl
  have g1 := hg 1 _ rfl
  have g2 := hg 2 _ rfl
  rw [show Tryz.prog.cellsOf _ = 1 by kernel_rfl, List.getElem?_eq_getElem (by omega)] at g0 g1 g2
  obtain ⟨z0, e0, _, w0⟩ := DataW.trod_int Tryz.underlying39 g0
  obtain ⟨z1, e1, _, w1⟩ := DataW.trod_int (k := .i64) (by kernel_rfl) g1
  obtain ⟨z2, e2, _, w2⟩ := DataW.trod_int (k := .i64) (by kernel_rfl) g2
  simp at e0 e1 e2
  subst e0 e1 e2
  have hw : 0 ≤ z0 ∧ z0 ≤ 18446744073709551615 := by simpa [Lit.wf, IntKind.signed, IntKind.bits, IntKind.min, IntKind.max] using w0
  exact ⟨⟨z0.toNat, z1, z2⟩, by show z0.toNat < _; omega, by simp; omega⟩
theorem list_of : ∀ (n : Nat) (p : Nat → Cl → Prop), (∀ i, i < n → ∃ c, p i c) → ∃ xs : List Cl, xs.length = n ∧ ∀ i c, xs[i]? = some c → p i c
 | 0, p, h => ⟨[], rfl, fun i c hi => by simp at hi⟩
 | n + 1, p, h => by
  obtain ⟨xs, hl, hp⟩ := list_of n p (fun i hi => h i (by omega))
  obtain ⟨c, hc⟩ := h n (by omega)
  refine ⟨xs ++ [c], by simp [hl], fun i d hi => ?_⟩
  rcases Nat.lt_or_ge i n with h1 | h1
  ·rw [List.getElem?_append_left (by omega)] at hi
   exact hp i d hi
  ·obtain ⟨h2, _⟩ := List.getElem?_eq_some_iff.1 hi
   simp [hl] at h2
   obtain rfl : i = n := by omega
   rw [List.getElem?_append_right (by omega), hl, Nat.sub_self] at hi
   simp at hi
   subst hi
   exact hc
theorem cells_open {n : Nat} {a : Option Addr} {len cap : Nat} {x : DataW H × List MemPlace} (h : DataW.trod enc Tryz.prog w base spare held n 43 [.slice a len cap] = some x) :
  ∃ xs, IsCells w a len cap xs := by
 rcases open_slice Tryz.underlying43 h with ⟨hcs, _⟩ | ⟨ad, len', cap', m, n', D, Pl, hcs, hb, hl, hm, hmm, hx, hi⟩
 ·simp at hcs
  obtain ⟨rfl, rfl, rfl⟩ := hcs
  exact ⟨[], rfl, by simp, .inl rfl, fun c hc => by simp at hc⟩
 ·simp at hcs
  obtain ⟨rfl, rfl, rfl⟩ := hcs
  rw [show Tryz.prog.cellsOf 120 = 3 by kernel_rfl] at hi
  obtain ⟨xs, hxl, hxs⟩ := list_of len (fun i c => c.f < 18446744073709551616 ∧ w.cell? (ad.add (i * 3)) = some (.int .u64 (c.f : Int)) ∧ w.cell? (ad.add (i * 3 + 1)) = some (.int .i64 c.k) ∧ w.cell? (ad.add (i * 3 + 2)) = some (.int .i64 c.v)) (fun i hil => by
   obtain ⟨cs', hc, ht⟩ := hi i (by rw [hmm]; split <;> omega)
   obtain ⟨_, hcl, hat⟩ := World.cells?_some hc
   obtain ⟨c, hf, rfl⟩ := cell_open hcl ht
   have e0 := hat 0 (by omega)
   have e1 := hat 1 (by omega)
   have e2 := hat 2 (by omega)
   rw [add_add] at e0 e1 e2
   exact ⟨c, hf, e0, e1, e2⟩)
  refine ⟨xs, hxl.symm, by omega, ?_, fun c hc => ?_⟩
  ·rcases Nat.eq_zero_or_pos len with h0 | h0
   ·exact .inl (List.length_eq_zero_iff.1 (by omega))
   ·obtain ⟨b, off, spot⟩ := ad
    obtain ⟨_, h1, _, _⟩ := hxs 0 (xs[0]'(by omega)) (List.getElem?_eq_getElem (by omega))
    have hspot : spot = none := by simpa [Addr.add] using World.cell?_spot h1
    subst hspot
    refine .inr ⟨b, off, rfl, fun i c hic => ?_⟩
    have e : ∀ k, ({ block := b, off := off } : Addr).add k = ⟨b, off + k, none⟩ := fun k => by simp [Addr.add]
    have h3 := (hxs i c hic).2
    rw [e, e, e, ← Nat.add_assoc, ← Nat.add_assoc] at h3
    exact h3
  ·obtain ⟨i, hi', hic⟩ := List.mem_iff_getElem.1 hc
   exact (hxs i c (by rw [← hic]; exact List.getElem?_eq_getElem hi')).1
end
end Go.Proofs.YtgjojhmninbkoaaGreatDoor
namespace Go.Proofs.YtgjojhmninbkoaaGreatDoor
open Go.RowKit Go.ChangeShapes Go.WideShapes Go.Deep
section
variable {H : Type} {enc : TypeId × Value → H} {w : World} {base : Nat} {spare : Nat → Bool} {held : Bool}
theorem slice_form {n : Nat} {cs : List Value} {x : DataW H × List MemPlace} (h : DataW.trod enc Tryz.prog w base spare held n 43 cs = some x) : ∃ a len cap, cs = [.slice a len cap] := by
 rcases open_slice Tryz.underlying43 h with ⟨hcs, _⟩ | ⟨ad, len', cap', m, n', D, Pl, hcs, _⟩
 ·exact ⟨_, _, _, hcs⟩
 ·exact ⟨_, _, _, hcs⟩
end
end Go.Proofs.YtgjojhmninbkoaaGreatDoor
namespace Go.Proofs.YtgjojhmninbkoaaGreatDoor
open Go.RowKit Go.ChangeShapes Go.WideShapes Go.Deep Go.Joins
theorem list_pick {α : Type} : ∀ (n : Nat) (p : Nat → α → Prop), (∀ i, i < n → ∃ c, p i c) → ∃ xs : List α, xs.length = n ∧ ∀ i c, xs[i]? = some c → p i c
 | 0, p, h => ⟨[], rfl, fun i c hi => by simp at hi⟩
 | n + 1, p, h => by
  obtain ⟨xs, hl, hp⟩ := list_pick n p (fun i hi => h i (by omega))
  obtain ⟨c, hc⟩ := h n (by omega)
  refine ⟨xs ++ [c], by simp [hl], fun i d hi => ?_⟩
  rcases Nat.lt_or_ge i n with h1 | h1
  ·rw [List.getElem?_append_left (by omega)] at hi
   exact hp i d hi
  ·obtain ⟨h2, _⟩ := List.getElem?_eq_some_iff.1 hi
   simp [hl] at h2
   obtain rfl : i = n := by omega
   rw [List.getElem?_append_right (by omega), hl, Nat.sub_self] at hi
   simp at hi
   subst hi
   exact hc
theorem SIn.more {w : World} : ∀ {d e : Nat} {s : SV}, d ≤ e → SIn w d s → SIn w e s
 | 0, _, _, _, h => h.elim
 | d + 1, 0, _, hl, _ => by omega
 | d + 1, e + 1, .mk f ps, hl, ⟨h1, h2, h3⟩ => ⟨h1, h2, fun p hp => SIn.more (by omega) (h3 p hp)⟩
theorem WIn.more {w : World} : ∀ {d e : Nat} {s : WV}, d ≤ e → WIn w d s → WIn w e s
 | 0, _, _, _, h => h.elim
 | d + 1, 0, _, hl, _ => by omega
 | d + 1, e + 1, .mk f ps, hl, ⟨h0, h1, h2, h3⟩ => ⟨h0, h1, h2, fun p hp => WIn.more (by omega) (h3 p hp)⟩
theorem six_len {cs : List Value} (h : cs.length = 6) : ∃ a b c d e f, cs = [a, b, c, d, e, f] := by
 match cs, h with
 | [a, b, c, d, e, f], _ => exact ⟨a, b, c, d, e, f, rfl⟩
theorem two_len {cs : List Value} (h : cs.length = 2) : ∃ a b, cs = [a, b] := by
 match cs, h with
 | [a, b], _ => exact ⟨a, b, rfl⟩
section
variable {H : Type} {enc : TypeId × Value → H} {w : World} {base : Nat} {spare : Nat → Bool} {held : Bool}
theorem space_in : ∀ (fuel : Nat) {cs : List Value} {x : DataW H × List MemPlace}, DataW.trod enc Tryz.prog w base spare held fuel 25 cs = some x → ∃ s : SV, cs = [.int .i64 s.f.tag, .int .i64 s.f.dim, .slice s.f.a s.f.len s.f.cap] ∧ SIn w fuel s := by
 intro fuel
 induction fuel using Nat.strongRecOn with
 | _ fuel ih =>
 intro cs x h
 obtain ⟨xs, n, hn, _, hl, hlen, hg⟩ := DataW.trod_struct Tryz.underlying25 h
 rw [show Tryz.prog.cellsOf 25 = 3 by kernel_rfl] at hl
 obtain ⟨a, b, c, rfl⟩ := three_len hl
 have hlen3 : xs.length = 3 := hlen
 have g0 := hg 0 _ rfl
 have g1 := hg 1 _ rfl
 have g2 := hg 2 _ rfl
 rw [show Tryz.prog.cellsOf _ = 1 by kernel_rfl, List.getElem?_eq_getElem (by omega)] at g0 g1 g2
 obtain ⟨z0, e0, _, w0⟩ := DataW.trod_int (k := .i64) (by kernel_rfl) g0
 obtain ⟨z1, e1, _, w1⟩ := DataW.trod_int (k := .i64) (by kernel_rfl) g1
 simp at e0 e1
 subst e0 e1
 rcases DataW.trod_slice Tryz.underlying23 g2 with ⟨hcs, _⟩ | ⟨ad, len, cap, elems, rest, n', hn', hcs, _, hb, hle, hcap, hel, hi, _, _⟩
 ·simp at hcs
  subst hcs
  subst hn
  exact ⟨.mk ⟨z0, z1, none, 0, 0⟩ [], rfl, rfl, .inl rfl, fun p hp => by cases hp⟩
 ·simp at hcs
  subst hcs
  subst hn
  rw [show Tryz.prog.cellsOf 25 = 3 by kernel_rfl] at hi
  obtain ⟨ps, hpl, hps⟩ := list_pick len (fun i (p : SV) => (w.cell? (ad.add (i * 3)) = some (.int .i64 p.f.tag) ∧ w.cell? (ad.add (i * 3 + 1)) = some (.int .i64 p.f.dim) ∧ w.cell? (ad.add (i * 3 + 2)) = some (.slice p.f.a p.f.len p.f.cap)) ∧ SIn w n' p) (fun i hil => by
   have hii := hi i hil
   rw [List.getElem?_eq_getElem (by omega)] at hii
   obtain ⟨cs', hc, ht⟩ := Option.bind_eq_some_iff.1 hii
   obtain ⟨_, hcl, hat⟩ := World.cells?_some hc
   obtain ⟨s, rfl, hs⟩ := ih n' (by omega) ht
   have e0 := hat 0 (by omega)
   have e1 := hat 1 (by omega)
   have e2 := hat 2 (by omega)
   rw [Go.Deep.add_add] at e0 e1 e2
   exact ⟨s, ⟨e0, e1, e2⟩, hs⟩)
  refine ⟨.mk ⟨z0, z1, some ad, len, cap⟩ ps, rfl, hpl, ?_, fun p hp => ?_⟩
  ·rcases Nat.eq_zero_or_pos len with h0 | h0
   ·exact .inl (List.length_eq_zero_iff.1 (by omega))
   ·obtain ⟨b, off, spot⟩ := ad
    obtain ⟨⟨h1, _, _⟩, _⟩ := hps 0 (ps[0]'(by omega)) (List.getElem?_eq_getElem (by omega))
    have hspot : spot = none := by simpa [Addr.add] using World.cell?_spot h1
    subst hspot
    refine .inr ⟨b, off, rfl, fun i c hic => ?_⟩
    have e : ∀ k, ({ block := b, off := off } : Addr).add k = ⟨b, off + k, none⟩ := fun k => by simp [Addr.add]
    have h3 := (hps i c hic).1
    rw [e, e, e, ← Nat.add_assoc, ← Nat.add_assoc] at h3
    exact h3
  ·obtain ⟨i, hi', hic⟩ := List.mem_iff_getElem.1 hp
   exact (hps i p (by rw [← hic]; exact List.getElem?_eq_getElem hi')).2.more (by omega)
theorem u64s_open {n : Nat} {v : Value} {x : DataW H × List MemPlace} (h : DataW.trod enc Tryz.prog w base spare held n 40 [v] = some x) :
  ∃ (a : Option Addr) (len cap : Nat) (rows : List Nat), v = .slice a len cap ∧ VRow w a (u64s rows) ∧ rows.length = len ∧ ∀ r ∈ rows, r < 18446744073709551616 := by
 rcases open_ints (t := 40) (e := 39) (k := .u64) (by kernel_rfl) (by kernel_rfl) (by kernel_rfl) h with ⟨hcs, _⟩ | ⟨x, len, cap, zs, hcs, _, hl, hm, hz, _, hcell, hwz⟩
 ·have hcs' : v = .slice none 0 0 := by simpa using hcs
  subst hcs'
  exact ⟨none, 0, 0, [], rfl, .inl rfl, rfl, fun r hr => by cases hr⟩
 ·have hcs' : v = .slice (some x) len cap := by simpa using hcs
  subst hcs'
  have hzl : len ≤ zs.length := by rw [hz]; split <;> omega
  refine ⟨some x, len, cap, (zs.take len).map Int.toNat, rfl, ?_, ?_, ?_⟩
  ·rcases Nat.eq_zero_or_pos len with h0 | h0
   ·subst h0; exact .inl (by simp [u64s])
   ·obtain ⟨b, off, spot⟩ := x
    have hc0 := hcell 0 (by omega)
    have hspot : spot = none := by simpa [Addr.add] using World.cell?_spot hc0
    subst hspot
    refine .inr ⟨b, off, rfl, fun i v hi => ?_⟩
    obtain ⟨q, hq, rfl⟩ := u64s_at hi
    rw [List.getElem?_map, List.getElem?_take] at hq
    split at hq
    ·rename_i hlt
     have hi2 : i < zs.length := by omega
     rw [List.getElem?_eq_getElem hi2] at hq
     have hq' : (zs[i]).toNat = q := by simpa using hq
     obtain ⟨m, hm1, hm2⟩ := u64_nat (hwz _ (List.getElem_mem hi2))
     have hc := hcell i hi2
     have e : ({ block := b, off := off } : Addr).add i = ⟨b, off + i, none⟩ := by simp [Addr.add]
     rw [e] at hc
     rw [hc]
     have : zs.getD i 0 = zs[i] := by simp [List.getD, List.getElem?_eq_getElem hi2]
     rw [this, hm1, ← hq', hm1]
     rfl
    ·cases hq
  ·simp; omega
  ·intro r hr
   obtain ⟨z, hz1, rfl⟩ := List.mem_map.1 hr
   obtain ⟨m, hm1, hm2⟩ := u64_nat (hwz z (List.mem_of_mem_take hz1))
   rw [hm1]; exact hm2
theorem facts_in {n : Nat} {a b : Value} {x : DataW H × List MemPlace} (h : DataW.trod enc Tryz.prog w base spare held n 42 [a, b] = some x) :
  ∃ (g : Nat) (ra : Option Addr) (rl rc : Nat) (rows : List Nat), a = .int .u64 (g : Int) ∧ b = .slice ra rl rc ∧ g < 18446744073709551616 ∧ VRow w ra (u64s rows) ∧ rows.length = rl ∧ ∀ r ∈ rows, r < 18446744073709551616 := by
 obtain ⟨xs, n', _, _, hl, hlen, hg⟩ := DataW.trod_struct Tryz.underlying42 h
 have hlen2 : xs.length = 2 := hlen
 have g0 := hg 0 _ rfl
 have g1 := hg 1 _ rfl
 rw [show Tryz.prog.cellsOf _ = 1 by kernel_rfl, List.getElem?_eq_getElem (by omega)] at g0 g1
 obtain ⟨z0, e0, _, w0⟩ := DataW.trod_int (k := .u64) (by kernel_rfl) g0
 simp at e0
 subst e0
 obtain ⟨g, rfl, hg64⟩ := u64_nat w0
 obtain ⟨ra, rl, rc, rows, e1, h1, h2, h3⟩ := u64s_open (v := b) g1
 exact ⟨g, ra, rl, rc, rows, rfl, e1, hg64, h1, h2, h3⟩
theorem weight_in : ∀ (fuel : Nat) {cs : List Value} {x : DataW H × List MemPlace}, DataW.trod enc Tryz.prog w base spare held fuel 46 cs = some x → ∃ s : WV, cs = s.f.six ∧ WIn w fuel s := by
 intro fuel
 induction fuel using Nat.strongRecOn with
 | _ fuel ih =>
 intro cs x h
 obtain ⟨xs, n, hn, _, hl, hlen, hg⟩ := DataW.trod_struct Tryz.underlying46 h
 rw [show Tryz.prog.cellsOf 46 = 6 by kernel_rfl] at hl
 obtain ⟨a, b, c, d, e, f, rfl⟩ := six_len hl
 have hlen5 : xs.length = 5 := hlen
 have g0 := hg 0 _ rfl
 have g1 := hg 1 _ rfl
 have g2 := hg 2 _ rfl
 have g3 := hg 3 _ rfl
 have g4 := hg 4 _ rfl
 rw [show Tryz.prog.cellsOf _ = 1 by kernel_rfl, List.getElem?_eq_getElem (by omega)] at g0 g1 g3 g4
 rw [show Tryz.prog.cellsOf _ = 2 by kernel_rfl, List.getElem?_eq_getElem (by omega)] at g2
 obtain ⟨z0, e0, _⟩ := DataW.trod_bool (by kernel_rfl) g0
 obtain ⟨z1, e1, _, w1⟩ := DataW.trod_int (k := .i64) (by kernel_rfl) g1
 simp at e0 e1
 subst e0 e1
 obtain ⟨gg, ra, rl, rc, rows, rfl, rfl, hg64, hrow, hrl, hr64⟩ := facts_in (a := c) (b := d) g2
 obtain ⟨ca, cl, cc, e3⟩ := slice_form g3
 have e3' : e = .slice ca cl cc := by simpa using e3
 subst e3'
 obtain ⟨cells, hcl, hcm, hcrow, hcbits⟩ := cells_open (a := ca) (len := cl) (cap := cc) g3
 rcases DataW.trod_slice Tryz.underlying44 g4 with ⟨hcs, _⟩ | ⟨ad, len, cap, elems, rest, n', hn', hcs, _, hb, hle, hcap, hel, hi, _, _⟩
 ·simp at hcs
  subst hcs
  subst hn
  exact ⟨.mk ⟨z0, z1, gg, ra, rl, rc, rows, ca, cl, cc, cells, none, 0, 0⟩ [], rfl, ⟨hrow, hrl, hg64, hr64, hcrow, hcl.symm, hcbits, by dsimp only; omega⟩, rfl, .inl rfl, fun p hp => by cases hp⟩
 ·simp at hcs
  subst hcs
  subst hn
  rw [show Tryz.prog.cellsOf 46 = 6 by kernel_rfl] at hi
  obtain ⟨ps, hpl, hps⟩ := list_pick len (fun i (p : WV) => (w.cell? (ad.add (i * 6)) = some (.bool p.f.z) ∧ w.cell? (ad.add (i * 6 + 1)) = some (.int .i64 p.f.c) ∧ w.cell? (ad.add (i * 6 + 2)) = some (.int .u64 (p.f.g : Int)) ∧ w.cell? (ad.add (i * 6 + 3)) = some (.slice p.f.ra p.f.rl p.f.rc) ∧ w.cell? (ad.add (i * 6 + 4)) = some (.slice p.f.ca p.f.cl p.f.cc) ∧ w.cell? (ad.add (i * 6 + 5)) = some (.slice p.f.pa p.f.pl p.f.pc)) ∧ WIn w n' p) (fun i hil => by
   have hii := hi i hil
   rw [List.getElem?_eq_getElem (by omega)] at hii
   obtain ⟨cs', hc, ht⟩ := Option.bind_eq_some_iff.1 hii
   obtain ⟨_, hcl, hat⟩ := World.cells?_some hc
   obtain ⟨s, rfl, hs⟩ := ih n' (by omega) ht
   have e0 := hat 0 (by omega)
   have e1 := hat 1 (by omega)
   have e2 := hat 2 (by omega)
   have e3 := hat 3 (by omega)
   have e4 := hat 4 (by omega)
   have e5 := hat 5 (by omega)
   rw [Go.Deep.add_add] at e0 e1 e2 e3 e4 e5
   exact ⟨s, ⟨e0, e1, e2, e3, e4, e5⟩, hs⟩)
  refine ⟨.mk ⟨z0, z1, gg, ra, rl, rc, rows, ca, cl, cc, cells, some ad, len, cap⟩ ps, rfl, ⟨hrow, hrl, hg64, hr64, hcrow, hcl.symm, hcbits, by dsimp only; omega⟩, hpl, ?_, fun p hp => ?_⟩
  ·rcases Nat.eq_zero_or_pos len with h0 | h0
   ·exact .inl (List.length_eq_zero_iff.1 (by omega))
   ·obtain ⟨b, off, spot⟩ := ad
    obtain ⟨⟨h1, _⟩, _⟩ := hps 0 (ps[0]'(by omega)) (List.getElem?_eq_getElem (by omega))
    have hspot : spot = none := by simpa [Addr.add] using World.cell?_spot h1
    subst hspot
    refine .inr ⟨b, off, rfl, fun i c hic => ?_⟩
    have e : ∀ k, ({ block := b, off := off } : Addr).add k = ⟨b, off + k, none⟩ := fun k => by simp [Addr.add]
    have h3 := (hps i c hic).1
    rw [e, e, e, e, e, e, ← Nat.add_assoc, ← Nat.add_assoc, ← Nat.add_assoc, ← Nat.add_assoc, ← Nat.add_assoc] at h3
    exact h3
  ·obtain ⟨i, hi', hic⟩ := List.mem_iff_getElem.1 hp
   exact (hps i p (by rw [← hic]; exact List.getElem?_eq_getElem hi')).2.more (by omega)
end
end Go.Proofs.YtgjojhmninbkoaaGreatDoor
namespace Go.Proofs.YtgjojhmninbkoaaGreatDoor
open Go Go.RowKit
theorem RowN.lim {lo : Nat} {W : World} {a : Option Addr} {c : Nat} {xs : List Int} (h : RowN lo W a c xs) : xs.length ≤ maxLen := by
 rcases h.2 with ⟨e1, e2⟩ | ⟨g, cap, cur, e1, _, _, hn, hm, _⟩
 ·omega
 ·omega
end Go.Proofs.YtgjojhmninbkoaaGreatDoor
namespace Go.Proofs.YtgjojhmninbkoaaGreatDoor
open Go Go.RowKit
theorem goes_7 : goesIn Tryz.prog 7 = true := by kernel_rfl
theorem goes_18 : goesIn Tryz.prog 18 = true := by kernel_rfl
theorem nextR_bad (ds d : Nat) (s : SV) (st sy : Int) (ra : Option Addr) (rl rc : Nat) (rs : List RV) (p : Int) (wa : Option Addr) (wl wc : Nat) (ws : List Int) (w : World) (hs : SIn w ds s) (hprow : RRow w ra rs) (hplen : rs.length = rl) (hin : ∀ r ∈ rs, RIn w d r) (hrow : Row w wa ws) (hlen : ws.length = wl) (hcap : wl ≤ wc) (hne : stepE ⟨s, st, sy, ra, rl, rc, rs⟩ ⟨p, wa, wl, wc, ws⟩ ≠ 0) :
  Calls Tryz.prog 18 #[.agg #[.int .i64 s.f.tag, .int .i64 s.f.dim, .slice s.f.a s.f.len s.f.cap, .int .i64 st, .int .i64 sy, .slice ra rl rc], .agg #[.int .i64 p, .slice wa wl wc]] w (NxU (nxE (nextF p ws rs 0) (stepE ⟨s, st, sy, ra, rl, rc, rs⟩ ⟨p, wa, wl, wc, ws⟩)) w) := by
 refine enterF (args := [.agg #[.int .i64 s.f.tag, .int .i64 s.f.dim, .slice s.f.a s.f.len s.f.cap, .int .i64 st, .int .i64 sy, .slice ra rl rc], .agg #[.int .i64 p, .slice wa wl wc]]) Tryz.func18 rfl Tryz.ntmps18 rfl ?_
 have hS := St.start w
 refine seqF (regF ?_)
 refine op_box (cs := [_, _, _, _, _, _]) hS rfl rfl rfl ?_
 clear hS; intro B1 W1 hS
 refine op_box (cs := [_, _]) hS rfl rfl rfl ?_
 clear hS; intro B2 W2 hS
 refine op_assign rfl rfl ?_
 refine op_assign rfl rfl ?_
 refine op_assign rfl rfl ?_
 refine endF (XF.thenN ?_)
 refine seqF (regF ?_)
 refine op_loadA (vs := [_, _, _, _, _, _]) Tryz.isAgg28 Tryz.sizeOf28 rfl (CellsAt.own (j := 0) (m := 6) (hS.at_ 1 rfl) rfl) rfl ?_
 refine op_loadA (vs := [_, _]) Tryz.isAgg31 Tryz.sizeOf31 rfl (CellsAt.own (j := 0) (m := 2) (hS.at_ 0 rfl) rfl) rfl ?_
 refine op_call (vs := [_, _]) hS goes_16 rfl (stepR_is ds d ⟨s, st, sy, ra, rl, rc, rs⟩ ⟨p, wa, wl, wc, ws⟩ _ (PvIn.below ⟨hs, hprow, hplen, hin⟩ hS.below) (CIn.below ⟨hrow, hlen⟩ hS.below)) rfl ?_
 rintro e W3 ⟨rfl, hb⟩
 refine ⟨_, rfl, hb, fun hS' => ?_⟩
 clear hS; have hS := hS'; clear hS' hb
 refine op_assign rfl rfl ?_
 refine endF (XF.thenN ?_)
 refine seqF ?_
 refine seqF (regF ?_)
 refine op_move rfl rfl ?_
 refine op_neq rfl rfl rfl ?_
 refine endF (XF.thenN ?_)
 refine condF rfl (fun hc => ?_) (fun hc => absurd (of_decide_eq_false hc) (by exact fun h => h hne))
 have hc := of_decide_eq_true hc
 refine seqF (regF ?_)
 refine op_move rfl rfl ?_
 refine op_assign rfl rfl ?_
 refine op_assign rfl rfl ?_
 refine op_assign rfl rfl ?_
 refine endF (XF.thenN ?_)
 refine retF ?_
 refine XF.thenR ?_
 refine XF.res (res3 Tryz.results18 rfl rfl rfl) ?_
 exact nxU_no (nxE_bad hne) hS.below
theorem stNextR {ds d : Nat} {p : PV} {c : CV} {w : World} (hp : PvIn w ds d p) (hc : CIn w c) (hcc : c.wl ≤ c.wc) : Calls Tryz.prog 18 #[p.val, c.val] w (NxU (nxE (nextF c.p c.ws p.rs 0) (stepE p c)) w) :=
 by
 by_cases h : stepE p c = 0
 ·have ok := stepOk h
  exact (nextR_c ds d p.s p.st p.sy p.ra p.rl p.rc p.rs c.p c.wa c.wl c.wc c.ws w hp.s hp.row hp.len hp.rin hc.row hc.len hcc h ok.rl ok.w4 ok.cw).mono fun e w' hr => nxU_ref h hr
 ·exact nextR_bad ds d p.s p.st p.sy p.ra p.rl p.rc p.rs c.p c.wa c.wl c.wc c.ws w hp.s hp.row hp.len hp.rin hc.row hc.len hcc h
theorem flat2_at {cs : List CV} {i : Nat} {c : CV} (h : cs[i]? = some c) : ((cs.flatMap two9).drop (i * 2)).take 2 = two9 c := by
 induction cs generalizing i with
 | nil => simp at h
 | cons x cs ih =>
  cases i with
  | zero => simp at h; subst h; rfl
  | succ i =>
   have e : (i + 1) * 2 = 2 + i * 2 := by omega
   rw [List.flatMap_cons, e, ← List.drop_drop]
   exact ih (by simpa using h)
theorem cfsN_row {w : World} {lo : Nat} {l : NxL} {v : Value} (h : isCfsN lo l v w) : ∃ a c, ∃ cs : List CV, v = .slice a cs.length c ∧ CvRow w a cs ∧ cs.map CV.pl = l.map (·.2) ∧ (∀ c ∈ cs, CIn w c ∧ c.wl ≤ 9223372036854775807 ∧ CHeld lo w c) ∧ cs.length ≤ 9223372036854775807 ∧ cs.length ≤ c := by
 obtain ⟨cs, h1, h2, h3⟩ := h
 obtain ⟨a, c, rfl, hac⟩ := ownsRow_sl h1
 refine ⟨a, c, cs, rfl, ?_, h2, fun x hx => ⟨⟨(h3 x hx).1.row, (h3 x hx).2.symm⟩, ?_, h3 x hx⟩, ?_, hac⟩
 ·rcases h1.2 with ⟨e1, e2⟩ | ⟨g, cap, cur, e1, _, hg, _, _, hs, ht⟩
  ·exact .inl (List.eq_nil_of_length_eq_zero e2)
  ·cases e1
   refine .inr ⟨g, 0, rfl, fun i x hx => ?_⟩
   rw [Nat.zero_add]
   have hg2 : w.heap[g]? = some (.cells cur.toList.toArray 31 (0, 0)) := hg
   refine CellsAt.own (j := i * 2) (m := 2) hg2 ?_
   have hlt := (List.getElem?_eq_some_iff.1 hx).1
   have e5 := flat2_at hx
   rw [← ht, List.drop_take, List.take_take] at e5
   rw [Nat.min_eq_left (by omega)] at e5
   exact e5
 ·have := (h3 x hx).1.lim
  rw [(h3 x hx).2]
  simp only [maxLen] at this; omega
 ·rcases h1.2 with ⟨_, e2⟩ | ⟨g, cap, cur, e1, _, _, hn, hm, _⟩
  ·omega
  ·simp only [maxLen] at hm; omega
theorem sames_same {w : World} {lo lo2 : Nat} {l : NxL} {v1 v2 : Value} (h1 : isCfsN lo l v1 w) (h2 : isCfsN lo2 l v2 w) : Calls Tryz.prog 7 #[v1, v2] w (fun e w' => e = .returned (.bool (true)) ∧ Below w.heap.size w w') := by
 obtain ⟨a1, c1, cs, rfl, r1, e1, k1, m1, _⟩ := cfsN_row h1
 obtain ⟨a2, c2, ds, rfl, r2, e2, k2, m2, _⟩ := cfsN_row h2
 have h := sames_is a1 a2 _ c1 _ c2 cs ds w r1 rfl r2 rfl (fun c hc => ⟨(k1 c hc).1, (k1 c hc).2.1⟩) (fun c hc => (k2 c hc).1) m1
 rw [show decide (cs.map CV.pl = ds.map CV.pl) = true from decide_eq_true (by rw [e1, e2])] at h
 exact h
end Go.Proofs.YtgjojhmninbkoaaGreatDoor
namespace Go.Proofs.YtgjojhmninbkoaaGreatDoor
open Go Go.RowKit
theorem appB_true {r : RV} {p : Int} {ws : List Int} (h : appB r p ws = true) : r.p = p ∧ ∃ t, ws = r.g :: t := by
 unfold appB at h
 rw [Bool.and_eq_true, decide_eq_true_eq] at h
 cases ws with
 | nil => simp at h
 | cons y t =>
  have h2 : decide (y = r.g) = true := h.2
  exact ⟨h.1, t, by rw [of_decide_eq_true h2]⟩
theorem nextF_at {p : Int} {ws : List Int} : ∀ {xs : List RV} {i : Nat} {l : NxL}, nextF p ws xs i = some l → ∀ x ∈ l, ∃ (n : Nat) (r : RV), xs[n]? = some r ∧ x = (((i + n : Nat) : Int), r.q, r.ws ++ ws.tail) ∧ appB r p ws = true ∧ ¬ 4096 < r.wl + (ws.length - 1)
 | [], i, l, h => by simp only [nextF, Option.some.injEq] at h; subst h; intro x hx; cases hx
 | r :: xs, i, l, h => by
  simp only [nextF] at h
  by_cases ha : appB r p ws = true
  ·rw [if_pos ha] at h
   by_cases hl : 4096 < r.wl + (ws.length - 1)
   ·rw [if_pos hl] at h; cases h
   ·rw [if_neg hl] at h
    cases h2 : nextF p ws xs (i + 1) with
    | none => rw [h2] at h; cases h
    | some l2 =>
     rw [h2] at h
     have e := Option.some.inj h
     subst e
     intro x hx
     rcases List.mem_cons.1 hx with rfl | hx
     ·exact ⟨0, r, rfl, rfl, ha, hl⟩
     ·obtain ⟨n, r2, h3, h4, h5⟩ := nextF_at h2 x hx
      exact ⟨n + 1, r2, by simpa using h3, by rw [h4, show i + 1 + n = i + (n + 1) by omega], h5⟩
  ·rw [if_neg ha] at h
   intro x hx
   obtain ⟨n, r2, h3, h4, h5⟩ := nextF_at h x hx
   exact ⟨n + 1, r2, by simpa using h3, by rw [h4, show i + 1 + n = i + (n + 1) by omega], h5⟩
structure StepAll (p : PV) (c : CV) : Prop where
 pd : pdsE p = 0
 rule : ∀ r ∈ p.rs, ruleB p.st p.sy r = true
 cp : inQ c.p p.st = true
 cw : c.wl ≤ 4096
 cs : ∀ y ∈ c.ws, inQ y p.sy = true
theorem stepAll {p : PV} {c : CV} (h : stepE p c = 0) : StepAll p c := by
 unfold stepE at h
 by_cases h0 : pdsE p = 0
 ·rw [if_neg (not_not_intro h0)] at h
  have hc : confB p c = true := by
   by_cases h2 : confB p c = true
   ·exact h2
   ·rw [if_neg h2] at h; cases h
  have h00 := h0
  unfold pdsE at h0
  by_cases h1 : spaceE p.s = 0
  ·rw [if_neg (not_not_intro h1)] at h0
   obtain ⟨h2, h0⟩ := ite9 h0 (by decide)
   obtain ⟨h3, h0⟩ := ite9 h0 (by decide)
   have hall : p.rs.all (ruleB p.st p.sy) = true := by
    by_cases h4 : p.rs.all (ruleB p.st p.sy) = true
    ·exact h4
    ·rw [if_neg h4] at h0; cases h0
   unfold confB at hc
   rw [Bool.and_eq_true, Bool.and_eq_true, decide_eq_true_eq] at hc
   exact ⟨h00, fun r hr => List.all_eq_true.1 hall r hr, hc.1, hc.2.1, fun y hy => List.all_eq_true.1 hc.2.2 y hy⟩
  ·rw [if_pos h1] at h0; exact absurd h0 h1
 ·rw [if_pos h0] at h; exact absurd h h0
theorem stepE_of {p : PV} {c : CV} (h0 : pdsE p = 0) (h1 : inQ c.p p.st = true) (h2 : c.wl ≤ 4096) (h3 : ∀ y ∈ c.ws, inQ y p.sy = true) : stepE p c = 0 := by
 unfold stepE
 rw [if_neg (not_not_intro h0), if_pos]
 unfold confB
 rw [h1, decide_eq_true h2, List.all_eq_true.2 h3]; rfl
theorem next_valid {p : PV} {c cv : CV} {l : NxL} {x : Int × Int × List Int} (h : stepE p c = 0) (hl : nextF c.p c.ws p.rs 0 = some l) (hx : x ∈ l) (hlen : ∀ r ∈ p.rs, r.ws.length = r.wl) (hcv : cv.pl = x.2) (hcl : cv.wl = cv.ws.length) : stepE p cv = 0 := by
 have hs := stepAll h
 obtain ⟨n, r, hn, rfl, ha, hlong⟩ := nextF_at hl x hx
 obtain ⟨_, t, ht⟩ := appB_true ha
 have hr := List.mem_of_getElem? hn
 have hru := hs.rule r hr
 unfold ruleB at hru
 simp only [Bool.and_eq_true] at hru
 have e1 : cv.p = r.q := congrArg (·.1) hcv
 have e2 : cv.ws = r.ws ++ c.ws.tail := congrArg (·.2) hcv
 refine stepE_of hs.pd (by rw [e1]; exact hru.2.1) ?_ (fun y hy => ?_)
 ·rw [hcl, e2, List.length_append, List.length_tail, hlen r hr]; omega
 ·rw [e2] at hy
  rcases List.mem_append.1 hy with hy | hy
  ·exact List.all_eq_true.1 hru.2.2.2.2 y hy
  ·exact hs.cs y (List.mem_of_mem_tail hy)
def isNxA (lo : Nat) (X : NxL × Int) : Asr := fun v w => ∃ v8 v9 : Value, v = .tuple #[v8, v9, .int .i64 X.2] ∧ isNumN lo X.1 v8 w ∧ isCfsN lo X.1 v9 w
theorem nxU_gN {P : Program} {f : FuncId} {vs : Array Value} {w : World} {X Y : NxL × Int} {lo : Nat} (hlo : lo ≤ w.heap.size) (e : X = Y) (h : Calls P f vs w (NxU X w)) : Calls P f vs w (GivesN (isNxA lo Y) w) := by
 subst e
 exact h.mono fun e w2 ⟨v8, v9, he, h1, h2, hb⟩ => ⟨_, he, fun w3 hg => ⟨v8, v9, rfl, isNumN_mono (isNumN_agree h1 hg) hlo, isCfsN_mono (isCfsN_agree h2 hg) hlo⟩, hb⟩
theorem isNx_0 {lo : Nat} {X : NxL × Int} : ∀ v w, isNxA lo X v w → ∃ (vs : Array Value) (u : Value), v = .tuple vs ∧ vs[0]? = some u ∧ ∀ w2, isNxA lo X v w2 → isNumN lo X.1 u w2 := fun v w ⟨a, c, e, h1, h2⟩ => by
 subst e
 exact ⟨_, _, rfl, rfl, fun w2 ⟨a2, c2, e2, h3, h4⟩ => by rw [(tup3_inj e2).1]; exact h3⟩
theorem isNx_1 {lo : Nat} {X : NxL × Int} : ∀ v w, isNxA lo X v w → ∃ (vs : Array Value) (u : Value), v = .tuple vs ∧ vs[1]? = some u ∧ ∀ w2, isNxA lo X v w2 → isCfsN lo X.1 u w2 := fun v w ⟨a, c, e, h1, h2⟩ => by
 subst e
 exact ⟨_, _, rfl, rfl, fun w2 ⟨a2, c2, e2, h3, h4⟩ => by rw [(tup3_inj e2).2.1]; exact h4⟩
theorem isNx_2 {lo : Nat} {X : NxL × Int} : ∀ v w, isNxA lo X v w → ∃ (vs : Array Value) (u : Value), v = .tuple vs ∧ vs[2]? = some u ∧ ∀ w2, isNxA lo X v w2 → isV (.int .i64 X.2) u w2 := fun v w ⟨a, c, e, h1, h2⟩ => by
 subst e
 exact ⟨_, _, rfl, rfl, fun w2 _ => rfl⟩
end Go.Proofs.YtgjojhmninbkoaaGreatDoor
namespace Go.Proofs.YtgjojhmninbkoaaGreatDoor
open Go Go.RowKit
def lo8 (g : Int) : UInt8 := UInt8.ofNat (g % 256).toNat
theorem lo8_wrap (g : Int) : IntKind.u8.wrap g = ((lo8 g).toNat : Int) := by
 rw [IntKind.wrap_u8]
 unfold lo8
 have h1 := Int.emod_nonneg g (show (256 : Int) ≠ 0 by decide)
 have h2 := Int.emod_lt_of_pos g (show (0 : Int) < 256 by decide)
 simp
 omega
section
variable {P : Program} {n : Nat} {ops : Array Oper} {Q : Exit → Act → World → Prop} {l : Fr} {w0 W : World} {O : Own} {G : Grows} {K : List (Nat × World)} {os : List Oper} {d : Nat} {ty : TypeId} {pos : String} {aft : Array Edge} {x y : Operand} {t u : TypeId}
theorem op_shr {a b : Int} {yk : IntKind} {c : Int} (hx : evL l x = some (.int .i64 a)) (hy : evL l y = some (.int yk b)) (h0 : 0 ≤ b) (h1 : b ≤ 64) (hc : a / 2 ^ b.toNat = c) (hd : Nat.blt d n = true) (h : OpsF P n ops Q os ((d, .int .i64 c) :: l) W) : OpsF P n ops Q (⟨some d, .binOp .shr t x y u, ty, pos, aft, none⟩ :: os) l W :=
 opV (fun ev he => by subst hc; exact binop_run (he x _ hx) (he y _ hy) (by rw [eqGuard_shr]; rfl) (by simp [binOp, shift_shr_i64 _ _ _ h0 h1])) hd h
theorem op_conv8 {a : Int} {src dst : TypeId} (hs : P.underlying src = some (.int .i64)) (ht : P.underlying dst = some (.int .u8)) (hx : evL l x = some (.int .i64 a)) (hd : Nat.blt d n = true) (h : OpsF P n ops Q os ((d, .int .u8 ((lo8 a).toNat : Int)) :: l) W) : OpsF P n ops Q (⟨some d, .convert src dst x, ty, pos, aft, none⟩ :: os) l W :=
 opV (v := .int .u8 ((lo8 a).toNat : Int)) (fun ev he => by
  unfold execOp; simp only []; rw [he x _ hx]
  simp [convert, run_underlying hs, run_underlying ht, Conv.intToInt, lo8_wrap]) hd h
theorem madeCells_size (zc : Array Value) (m : Nat) (h : zc.size = 1) : (madeCells zc m).size = m := by
 unfold madeCells
 simp
theorem op_makeG {T e : TypeId} {inf : TypeInfo} {z : Value} {m : Nat} {k k2 : IntKind} {i1 i2 : Int} (hS : St w0 O G K W) (hU : P.underlying T = some (.slice e)) (hinf : P.info? e = some inf) (hz : inf.zero = some z) (hx : evL l x = some (.int k i1)) (hy : evL l y = some (.int k2 i2)) (h1 : i1 = 0) (h2 : i2 = (m : Int)) (hzs : z.cells.size = 1) (hsz : inf.size = 1) (hm : m ≤ maxLen)
  (hb : (inf.bytes : Int) * m ≤ 281474976710656) (h63 : (m : Int) ≤ 9223372036854775807) (hd : Nat.blt d n = true)
  (h : ∀ v W', (∃ b, v = .slice (some ⟨b, 0, none⟩) 0 m) → St w0 O (⟨v, 0, [], e, 1⟩ :: G) K W' → OpsF P n ops Q os ((d, v) :: l) W') : OpsF P n ops Q (⟨some d, .makeSlice T x y, ty, pos, aft, none⟩ :: os) l W :=
 opV (W' := W.alloc (.cells (madeCells z.cells (m * inf.size)) e)) (v := .slice (some ⟨W.heap.size, 0, none⟩) 0 m) (fun ev he => by
  subst h1; subst h2
  have hr := run_make (P := P) W T e inf z hU hinf hz k k2 0 m (by omega) (by omega) hb h63
  rw [Int.toNat_natCast] at hr
  unfold execOp; simp only []; rw [he x _ hx, he y _ hy]
  simp only [Sem.run_bind, hr, Result.andThen_ok, Sem.run_pure]
  rfl) hd (h _ _ ⟨_, rfl⟩ (hS.adopt ((Below.refl _ _).alloc (Nat.le_refl _) _) (by
   have := World.ownsRow_made (base := W.heap.size) (e := e) (size := 1) W (madeCells z.cells (m * inf.size)) m (Nat.le_refl _) hm (by rw [madeCells_size _ _ hzs, hsz])
   simpa using this)))
theorem op_convB2 {src dst e : TypeId} {base : Nat} {v : Value} {bs : List UInt8} (hs : P.underlying src = some (.slice e)) (he : P.underlying e = some (.int .u8)) (hdst : P.underlying dst = some .string) (hx : evL l x = some v) (hr : W.ownsRow base e 1 v bs.length (Lib.byteCells bs)) (hd : Nat.blt d n = true)
  (h : OpsF P n ops Q os ((d, .string ⟨bs.toArray⟩) :: l) W) : OpsF P n ops Q (⟨some d, .convert src dst x, ty, pos, aft, none⟩ :: os) l W := by
 cases bs with
 | cons b r => exact op_convB hs he hdst hx hr (by simp) hd h
 | nil =>
  refine opV (v := .string ⟨[].toArray⟩) (fun ev hev => ?_) hd h
  rcases hr.2 with ⟨e1, _⟩ | ⟨g, cap, cur, e1, _⟩
  ·subst e1
   have hr2 := run_convert_bytes_nil (P := P) (w := W) src e hs he 0 0 dst hdst
   unfold execOp; simp only []; rw [hev x _ hx]
   simp only [Sem.run_bind, hr2, Result.andThen_ok, Sem.run_pure]
   rfl
  ·subst e1
   have hr2 : (convert src dst (.slice (some ⟨g, 0, none⟩) 0 cap)).run P W = _ := run_convert_bytes_back (P := P) W src dst e ⟨g, 0, none⟩ cap [] hs he hdst (fun j hj => by simp at hj)
   unfold execOp; simp only []; rw [hev x _ hx]
   simp only [Sem.run_bind, List.length_nil, hr2, Result.andThen_ok, Sem.run_pure]
end
end Go.Proofs.YtgjojhmninbkoaaGreatDoor
namespace Go.Proofs.YtgjojhmninbkoaaGreatDoor
open Go Go.RowKit
theorem bld_58_0_1 (v0 : Int) (v1 : ByteArray) : Tryz.prog.built 58 [(0, .int .i64 v0), (1, .string v1)] = some #[.int .i64 v0, .string v1] := by kernel_rfl
theorem bs_78_2 (v0 : Int) (v1 : Int) : Instr.fill (fun i => some (i * 1, 1)) ((Array.range (2 * 1)).map ((Value.cells (.int .u8 0))[· % (Value.cells (.int .u8 0)).size]!)) [(0, .int .u8 v0), (1, .int .u8 v1)] = some (List.toArray [.int .u8 v0, .int .u8 v1]) := by kernel_rfl
def keyB (ws : List Int) : List UInt8 := ws.flatMap (fun g => [lo8 g, lo8 (g / 256)])
theorem keyB_len (ws : List Int) : (keyB ws).length = 2 * ws.length := by
 induction ws with
 | nil => rfl
 | cons g r ih =>
  show (lo8 g :: lo8 (g / 256) :: keyB r).length = _
  rw [List.length_cons, List.length_cons, ih, List.length_cons]; omega
theorem keyB_take {ws : List Int} {i : Nat} {y : Int} (h : ws[i]? = some y) : keyB (ws.take (i + 1)) = keyB (ws.take i) ++ [lo8 y, lo8 (y / 256)] := by
 unfold keyB
 rw [List.take_add_one, h, List.flatMap_append]; rfl
def keyV (p : Int) (ws : List Int) : Value := .agg #[.int .i64 p, .string ⟨(keyB ws).toArray⟩]
theorem row_at9 {w : World} {a : Option Addr} {ws : List Int} (h : Row w a ws) {i : Nat} (hi : i < ws.length) : ∃ b off y, a = some ⟨b, off, none⟩ ∧ ws[i]? = some y ∧ w.cell? ⟨b, off + i * 1, none⟩ = some (.int .i64 y) := by
 rcases h with rfl | ⟨b, off, ha, hc⟩
 ·simp at hi
 ·have h1 := hc i hi
  refine ⟨b, off, ws[i], ha, by simp [hi], ?_⟩
  rw [Nat.mul_one, h1]
  simp [List.getD, hi]
theorem keyOf_c (p : Int) (wa : Option Addr) (wl wc : Nat) (ws : List Int) (w : World) (hrow : Row w wa ws) (hlen : ws.length = wl) (hmax : wl ≤ 100000) :
  Calls Tryz.prog 14 #[.agg #[.int .i64 p, .slice wa wl wc]] w (fun e w' => e = .returned (keyV p ws) ∧ Below w.heap.size w w') := by
 refine enterF (args := [.agg #[.int .i64 p, .slice wa wl wc]]) Tryz.func14 rfl Tryz.ntmps14 rfl ?_
 have hS := St.start w
 refine seqF (regF ?_)
 refine op_box (cs := [_, _]) hS rfl rfl rfl ?_
 clear hS; intro B1 W1 hS
 refine op_alloc (cs := [_, _]) hS Tryz.zeroValue58 rfl rfl ?_
 clear hS; intro B2 W2 hS
 refine endF (XF.thenN ?_)
 refine seqF (regF ?_)
 refine op_field (o' := 1) fa_31_1 rfl rfl rfl ?_
 refine op_load Tryz.isAgg29 rfl (cell_own (hS.at_ 1 rfl) rfl) rfl ?_
 refine op_len Tryz.underlying29 rfl rfl ?_
 refine op_mul rfl rfl (IntWalk.i64_in _ (by omega)) rfl ?_
 refine op_makeG (inf := Tryz.t5) (z := .int .u8 0) (m := 2 * wl) hS Tryz.underlying78 inf_5 rfl rfl rfl rfl (by omega) rfl rfl (by simp only [maxLen]; omega) (by show (1 : Int) * _ ≤ _; omega) (by omega) rfl ?_
 clear hS; intro v80 W80 hv80 hS
 refine op_assign rfl rfl ?_
 refine endF (XF.thenN ?_)
 refine seqF ?_
 refine seqF (regF ?_)
 refine op_field (o' := 1) fa_31_1 rfl rfl rfl ?_
 refine op_load Tryz.isAgg29 rfl (cell_own (hS.at_ 1 rfl) rfl) rfl ?_
 refine op_len Tryz.underlying29 rfl rfl ?_
 refine op_move rfl rfl ?_
 refine endF (XF.thenN ?_)
 refine blockF ?_
 refine loopF (fun m l W => ∃ (i : Nat) (v : Value), i ≤ wl ∧ m = wl - i ∧ l = [(1, .pointer (some ⟨B1, 0, none⟩)), (2, .pointer (some ⟨B2, 0, none⟩)), (3, v), (12, .slice wa wl wc), (13, .int .i64 (wl : Int)), (14, .int .i64 (i : Int))] ∧ St w [(B2, [.int .i64 0, .string ByteArray.empty], 58), (B1, [.int .i64 p, .slice wa wl wc], 31)] [⟨v, (keyB (ws.take i)).length, Lib.byteCells (keyB (ws.take i)), 5, 1⟩] [] W) (wl - 0) ([(1, _), (2, _), (3, _), (12, _), (13, _), (14, _)]) ⟨rfl, rfl, rfl, rfl, rfl, rfl, trivial⟩ (⟨0, _, Nat.zero_le _, rfl, rfl, hS.clear⟩) ?_
 clear hS
 rintro m l W ⟨i, v, hi, rfl, rfl, hS⟩
 refine seqF (regF ?_)
 refine op_lss rfl rfl rfl ?_
 refine endF (XF.thenN ?_)
 refine seqF ?_
 refine condF rfl (fun hc => ?_) (fun hc => ?_)
 ·have hc15 := of_decide_eq_true hc; clear hc
  have hk : i < wl := by omega
  obtain ⟨b, off, y, rfl, hy, hyc⟩ := row_at9 hrow (i := i) (by omega)
  have k1 := hS.agree.cell (Nat.zero_le _) hyc
  have hkl := keyB_len (ws.take i)
  rw [List.length_take] at hkl
  refine skipF ?_
  refine XF.thenN ?_
  refine seqF ?_
  refine blockF ?_
  refine seqF (regF ?_)
  refine op_indexA  Tryz.underlying29 Tryz.sizeOf3 rfl rfl rfl (by omega) rfl rfl ?_
  refine op_load Tryz.isAgg3 rfl (k1) rfl ?_
  refine op_assign rfl rfl ?_
  refine endF (XF.thenN ?_)
  refine regF ?_
  refine op_move rfl rfl ?_
  refine op_move rfl rfl ?_
  refine op_conv8 Tryz.underlying3 Tryz.underlying5 rfl rfl ?_
  refine op_move rfl rfl ?_
  refine op_shr rfl rfl (by decide) (by decide) (show _ = y / 256 from rfl) rfl ?_
  refine op_conv8 Tryz.underlying3 Tryz.underlying5 rfl rfl ?_
  refine op_buildSlice (us := [(0, .int .u8 _), (1, .int .u8 _)]) hS Tryz.underlying78 Tryz.sizeOf5 Tryz.zeroValue5 rfl rfl rfl (bs_78_2 _ _) rfl ?_
  clear hS; intro B3 W3 hS
  refine op_append (i := 0) (news := [_, _]) hS Tryz.underlying78 inf_5 rfl rfl (by show 0 < 1; decide) rfl rfl rfl rfl rfl (CellsAt.own (j := 0) (m := 2) (hS.at_ 0 rfl) rfl) rfl rfl (by dsimp only; simp only [maxLen]; omega) (by dsimp only; show _ * 1 ≤ _; omega) rfl ?_
  clear hS; intro v4 W4 hS
  refine op_assign rfl rfl ?_
  refine endF ?_
  refine XF.blkN ?_
  refine XF.thenN ?_
  refine regF ?_
  refine op_add rfl rfl (IntWalk.i64_in _ (by omega)) rfl ?_
  refine op_move rfl rfl ?_
  refine endF ?_
  exact XF.round (wl - (i + 1)) [(1, _), (2, _), (3, _), (12, _), (13, _), (14, _)] (by omega) ⟨rfl, rfl, rfl, rfl, rfl, rfl, trivial⟩ ⟨i + 1, _, by omega, rfl, rfl, hS.tail.clear.castG (by rw [keyB_take hy]; simp [Lib.byteCells])⟩
 ·have hc15 := of_decide_eq_false hc; clear hc
  rw [List.take_of_length_le (by omega)] at hS
  refine exitF ?_
  refine XF.thenX ?_
  refine XF.thenX ?_
  refine XF.blkX ?_
  refine XF.thenN ?_
  refine seqF (regF ?_)
  refine op_field (o' := 0) fa_31_0 rfl rfl rfl ?_
  refine op_load Tryz.isAgg3 rfl (cell_own (hS.at_ 1 rfl) rfl) rfl ?_
  refine op_move rfl rfl ?_
  refine op_convB2 Tryz.underlying78 Tryz.underlying5 Tryz.underlying9 rfl (hS.row 0 rfl) rfl ?_
  refine op_build (us := [(0, .int .i64 _), (1, .string _)]) rfl (bld_58_0_1 _ _) rfl ?_
  refine op_storeA (i := 0) (vs := [_, _]) (cs' := [_, _]) (O' := [_, _]) hS Tryz.sizeOf58 rfl rfl rfl rfl rfl rfl rfl ?_
  clear hS; intro W5 hS
  refine endF (XF.thenN ?_)
  refine retF ?_
  refine XF.res (resC1 (vs := [_, _]) Tryz.results14 Tryz.isAgg58 Tryz.sizeOf58 rfl (CellsAt.own (j := 0) (m := 2) (hS.at_ 0 rfl) rfl)) ?_
  exact ⟨rfl, hS.below⟩
end Go.Proofs.YtgjojhmninbkoaaGreatDoor
namespace Go.Proofs.YtgjojhmninbkoaaGreatDoor
open Go Go.RowKit
theorem lo8_nat (g : Int) : ((lo8 g).toNat : Int) = g % 256 := by
 have h := lo8_wrap g
 rw [IntKind.wrap_u8] at h
 have h1 := Int.emod_nonneg g (show (256 : Int) ≠ 0 by decide)
 have h2 := Int.emod_lt_of_pos g (show (0 : Int) < 256 by decide)
 omega
theorem keyB_inj : ∀ {ws vs : List Int}, (∀ y ∈ ws, 0 ≤ y ∧ y < 65536) → (∀ y ∈ vs, 0 ≤ y ∧ y < 65536) → keyB ws = keyB vs → ws = vs
 | [], [], _, _, _ => rfl
 | [], v :: vs, _, _, h => by cases h
 | w :: ws, [], _, _, h => by cases h
 | w :: ws, v :: vs, hw, hv, h => by
  have h9 : lo8 w :: lo8 (w / 256) :: keyB ws = lo8 v :: lo8 (v / 256) :: keyB vs := h
  injection h9 with e1 h9
  injection h9 with e2 h9
  have f1 := congrArg (fun b : UInt8 => (b.toNat : Int)) e1
  have f2 := congrArg (fun b : UInt8 => (b.toNat : Int)) e2
  simp only [lo8_nat] at f1 f2
  have a1 := hw w List.mem_cons_self
  have a2 := hv v List.mem_cons_self
  have e3 : w = v := by omega
  subst e3
  rw [keyB_inj (fun y hy => hw y (List.mem_cons_of_mem _ hy)) (fun y hy => hv y (List.mem_cons_of_mem _ hy)) h9]
theorem keyV_eq {p q : Int} {ws vs : List Int} (hw : ∀ y ∈ ws, 0 ≤ y ∧ y < 65536) (hv : ∀ y ∈ vs, 0 ≤ y ∧ y < 65536) : keyV p ws = keyV q vs ↔ (p = q ∧ ws = vs) := by
 constructor
 ·intro h
  unfold keyV at h
  injection h with h
  injection h with h
  injection h with h1 h2
  injection h1 with _ h1
  injection h2 with h2 _
  injection h2 with h2
  injection h2 with h2
  injection h2 with h2
  exact ⟨h1, keyB_inj hw hv h2⟩
 ·rintro ⟨rfl, rfl⟩; rfl
theorem in_c (ca : Option Addr) (cl cc : Nat) (cs : List CV) (d : CV) (w : World) (hrow : CvRow w ca cs) (hlen : cs.length = cl) (hc : ∀ c ∈ cs, CIn w c ∧ c.wl ≤ 9223372036854775807) (hd : CIn w d) (hmx : cl ≤ 9223372036854775807) :
  Calls Tryz.prog 19 #[.slice ca cl cc, .agg #[.int .i64 d.p, .slice d.wa d.wl d.wc]] w (fun e w' => e = .returned (.bool (cs.any (fun c => decide (c.pl = d.pl)))) ∧ Below w.heap.size w w') := by
 refine enterF (args := [.slice ca cl cc, .agg #[.int .i64 d.p, .slice d.wa d.wl d.wc]]) Tryz.func19 rfl Tryz.ntmps19 rfl ?_
 have hS := St.start w
 refine seqF (regF ?_)
 refine op_box (cs := [_, _]) hS rfl rfl rfl ?_
 clear hS; intro B1 W1 hS
 refine op_assign rfl rfl ?_
 refine endF (XF.thenN ?_)
 refine seqF ?_
 refine seqF (regF ?_)
 refine op_assign rfl rfl ?_
 refine endF (XF.thenN ?_)
 refine blockF ?_
 refine loopF (fun m l W => ∃ i : Nat, i ≤ cl ∧ m = cl - i ∧ l = [(0, .slice ca cl cc), (3, .pointer (some ⟨B1, 0, none⟩)), (5, .int .i64 (i : Int))] ∧ (cs.take i).any (fun c => decide (c.pl = d.pl)) = false ∧ St w [(B1, [.int .i64 d.p, .slice d.wa d.wl d.wc], 31)] [] [] W) (cl - 0) ([(0, _), (3, _), (5, _)]) ⟨rfl, rfl, rfl, trivial⟩ (⟨0, Nat.zero_le _, rfl, rfl, rfl, hS.clear⟩) ?_
 clear hS
 rintro m l W ⟨i, hi, rfl, rfl, hall, hS⟩
 refine seqF ?_
 refine seqF (regF ?_)
 refine op_move rfl rfl ?_
 refine op_move rfl rfl ?_
 refine op_len Tryz.underlying33 rfl rfl ?_
 refine op_lss rfl rfl rfl ?_
 refine endF (XF.thenN ?_)
 refine condF rfl (fun hc => ?_) (fun hc => ?_)
 ·have hc9 := of_decide_eq_true hc; clear hc
  have hk : i < cl := by omega
  obtain ⟨y, hy⟩ : ∃ y, cs[i]? = some y := ⟨cs[i]'(by omega), by simp [show i < cs.length by omega]⟩
  obtain ⟨b, off, rfl, hyc⟩ := hrow.at_ hy
  have k1 := CellsAt.agree hS.agree (Nat.zero_le _) hyc
  obtain ⟨hyi, hym⟩ := hc y (List.mem_of_getElem? hy)
  refine skipF ?_
  refine XF.thenN ?_
  refine seqF ?_
  refine blockF ?_
  refine seqF ?_
  refine regB (m := 6) followsM hS (by kernel_rfl) (by kernel_rfl) rfl ?_
  refine bl_cons 1 rfl (isV _) (stab_isV _) (rgV (li := [(0, _)]) rfl (w_free rfl) ⟨g_fr (by kernel_rfl) rfl, trivial⟩ (fun w hw => rn_move rfl) (at_top rfl)) ?_
  refine bl_cons 2 rfl (isV _) (stab_isV _) (rgV (li := [(5, _)]) rfl (w_free rfl) ⟨g_fr (by kernel_rfl) rfl, trivial⟩ (fun w hw => rn_move rfl) (at_top rfl)) ?_
  refine bl_cons 3 rfl (isV _) (stab_isV _) (rgV (li := [(12, _), (13, _)]) rfl (w_free rfl) ⟨g_dep 0 (by kernel_rfl) (at_dep rfl rfl rfl), g_dep 1 (by kernel_rfl) (at_dep rfl rfl rfl), trivial⟩ (fun w hw => rn_indexA  Tryz.underlying33 Tryz.sizeOf31 rfl rfl rfl (by omega) rfl) (at_top rfl)) ?_
  refine bl_cons 4 rfl (isV _) (stab_isV _) (rgV (li := [(14, _)]) rfl (w_free rfl) ⟨g_dep 2 (by kernel_rfl) (at_dep rfl rfl rfl), trivial⟩ (fun w hw => rn_loadA (vs := [_, _]) Tryz.isAgg31 Tryz.sizeOf31 rfl (CellsAt.agree (below_agree hw 0) (Nat.zero_le _) (k1))) (at_top rfl)) ?_
  refine bl_cons 5 rfl (isV _) (stab_isV _) (rgV (li := [(3, _)]) rfl (w_free rfl) ⟨g_fr (by kernel_rfl) rfl, trivial⟩ (fun w hw => rn_loadA (vs := [_, _]) Tryz.isAgg31 Tryz.sizeOf31 rfl (CellsAt.agree (below_agree hw 0) (Nat.zero_le _) (CellsAt.own (j := 0) (m := 2) (hS.at_ 0 rfl) rfl))) (at_top rfl)) ?_
  refine bl_cons 6 rfl (isV (.bool (decide (y.pl = d.pl)))) (stab_isV _) (rg_call [isV _, isV _] rfl goes_20 (w_free rfl) ⟨p_tmp (g_dep 3 (by kernel_rfl) (at_dep rfl rfl rfl)), p_tmp (g_dep 4 (by kernel_rfl) (at_dep rfl rfl rfl)), trivial⟩ (fun vs w' hb hh => by have e := holds_isV (us := [_, _]) hh; subst e; exact (sameC_is y d (hyi.below (hS.below.trans (hb.mono hS.below.size))) (hd.below (hS.below.trans (hb.mono hS.below.size))) hym).mono fun e w2 h => ⟨_, h.1, rfl, h.2⟩) (at_top rfl)) ?_
  refine bl_nil ?_
  intro W2 hbR hS'
  clear hS; have hS := hS'; clear hS'
  refine fin_v ?_
  refine fin_v ?_
  refine fin_v ?_
  refine fin_v ?_
  refine fin_v ?_
  refine fin_v ?_
  refine fin_nil ?_
  refine XF.thenN ?_
  refine condF rfl (fun hc => ?_) (fun hc => ?_)
  ·have hc17 := hc; clear hc
   refine seqF (regF ?_)
   refine op_assign rfl rfl ?_
   refine endF (XF.thenN ?_)
   refine retF ?_
   refine XF.blkR ?_
   refine XF.thenR ?_
   refine XF.thenR ?_
   refine XF.blkR ?_
   refine XF.thenR ?_
   refine XF.res (res1 Tryz.results19 rfl) ?_
   exact ⟨rbool (List.any_eq_true.2 ⟨y, List.mem_of_getElem? hy, hc17⟩).symm, hS.below⟩
  ·have hc17 := hc; clear hc
   refine skipF ?_
   refine XF.blkN ?_
   refine XF.thenN ?_
   refine regF ?_
   refine op_move rfl rfl ?_
   refine op_add rfl rfl (IntWalk.i64_in _ (by omega)) rfl ?_
   refine op_assign rfl rfl ?_
   refine endF ?_
   exact XF.round (cl - (i + 1)) [(0, _), (3, _), (5, _)] (by omega) ⟨rfl, rfl, rfl, trivial⟩ ⟨i + 1, by omega, rfl, rfl, by rw [List.take_add_one, hy, List.any_append, hall]; simpa using hc17, hS.clear⟩
 ·have hc9 := of_decide_eq_false hc; clear hc
  refine exitF ?_
  refine XF.thenX ?_
  refine XF.thenX ?_
  refine XF.blkX ?_
  refine XF.thenN ?_
  refine seqF (regF ?_)
  refine op_assign rfl rfl ?_
  refine endF (XF.thenN ?_)
  refine retF ?_
  refine XF.res (res1 Tryz.results19 rfl) ?_
  rw [List.take_of_length_le (by omega)] at hall
  exact ⟨rbool hall.symm, hS.below⟩
end Go.Proofs.YtgjojhmninbkoaaGreatDoor
namespace Go.Proofs.YtgjojhmninbkoaaGreatDoor
open Go Go.RowKit
open Go.WideMaps (KeyLaw)
theorem skeyRow : (58 : TypeId) < Tryz.prog.types.size := of_decide_eq_true (by kernel_rfl)
theorem spos_of_lt {a b : Nat} (h : a < b) : b = b - 1 + 1 := by omega
theorem skeySize : Tryz.prog.types.size = Tryz.prog.types.size - 1 + 1 := spos_of_lt skeyRow
theorem skeyWide : (match Tryz.prog.underlying 58 with | some (.array _ _) | some (.struct _) => true | _ => false) = true := by rw [Tryz.underlying58]
theorem skeyLaw : KeyLaw Tryz.prog 58 := deep_law_laid (by kernel_rfl) (m := 2) (by omega) skeyRow (by kernel_rfl) skeyWide
theorem skeyed : Go.Maps.Keyed Tryz.prog 58 := Go.Maps.Keyed.of_law skeyLaw
theorem skeyCells : Tryz.prog.cellsOf 58 = 2 := by kernel_rfl
theorem sintCells : Tryz.prog.cellsOf 3 = 1 := by kernel_rfl
theorem sstrCells : Tryz.prog.cellsOf 9 = 1 := by kernel_rfl
theorem skey_lit {p : Int} {s : ByteArray} (hp : (Lit.int .i64 p).wf = true) (hs : s.size ≤ maxLen) : ∃ l, keyOf Tryz.prog 58 (.agg #[.int .i64 p, .string s]) = some l := by
 have h1 : Tryz.prog.keyType 58 = true := by kernel_rfl
 have h2 : (Value.agg #[.int .i64 p, .string s]).formed Tryz.prog 58 = true := by simp [Value.formed, Tryz.underlying58, skeyCells]
 have hi : ∀ (d : Nat), Tryz.prog.keyLits (d + 1) 3 [.int .i64 p] = some [.int .i64 p] := fun d => by simp [Program.keyLits, Tryz.underlying3, hp]
 have hst : ∀ (d : Nat), ∃ y, Tryz.prog.keyLits (d + 1) 9 [.string s] = some y := fun d => by simp [Program.keyLits, Tryz.underlying9, hs]
 obtain ⟨m, hm⟩ : ∃ m, Tryz.prog.types.size = m + 1 := ⟨Tryz.prog.types.size - 1, skeySize⟩
 obtain ⟨y, hy⟩ := hst m
 unfold keyOf
 rw [Tryz.underlying58]
 simp only [h1, h2, Bool.and_self, if_true]
 rw [hm]
 simp [Program.keyLits, Tryz.underlying58, skeyCells, sintCells, sstrCells, hi m, hy, Value.cells, hp, hs]
end Go.Proofs.YtgjojhmninbkoaaGreatDoor
namespace Go.Proofs.YtgjojhmninbkoaaGreatDoor
open Go Go.RowKit
open Go.Maps
structure KOk (x : Int × List Int) : Prop where
 p : (Lit.int .i64 x.1).wf = true
 ws : ∀ y ∈ x.2, 0 ≤ y ∧ y < 65536
 len : x.2.length ≤ 100000
noncomputable def klit (x : Int × List Int) : Lit := (keyOf Tryz.prog 58 (keyV x.1 x.2)).getD (.bool false)
theorem klit_of {x : Int × List Int} (h : KOk x) : keyOf Tryz.prog 58 (keyV x.1 x.2) = some (klit x) := by
 obtain ⟨l, hl⟩ := skey_lit (p := x.1) (s := ⟨(keyB x.2).toArray⟩) h.p (by
  show (keyB x.2).toArray.size ≤ maxLen
  have h1 := keyB_len x.2
  have h2 := h.len
  simp only [List.size_toArray, maxLen]
  omega)
 have hl2 : keyOf Tryz.prog 58 (keyV x.1 x.2) = some l := hl
 unfold klit
 rw [hl2]; rfl
theorem klit_inj {x y : Int × List Int} (hx : KOk x) (hy : KOk y) (h : klit x = klit y) : x = y := by
 have h1 := skeyed.inj (klit_of hx) (by rw [h]; exact klit_of hy)
 obtain ⟨h2, h3⟩ := (keyV_eq hx.ws hy.ws).1 h1
 exact Prod.ext h2 h3
def Met (b n : Nat) (ks : List (Int × List Int)) (W : World) : Prop := ∃ D : DataW Unit, W.ownsMap Tryz.prog 58 unitElem b n D ∧ ∀ x, KOk x → Maps.has D (klit x) = decide (x ∈ ks)
theorem Met.same {b n : Nat} {ks : List (Int × List Int)} {W W' : World} (h : Met b n ks W) (he : b < W.heap.size → W'.heap[b]? = W.heap[b]?) : Met b n ks W' := by
 obtain ⟨D, ⟨es, clock, h1, h2⟩, h3⟩ := h
 exact ⟨D, ⟨es, clock, (he (lt_of_heap h1)).trans h1, h2⟩, h3⟩
theorem Met.fresh (W : World) : Met W.heap.size 0 [] (W.alloc (.map #[] 0)) :=
 ⟨.map [], World.ownsMap_made W _ _ _, fun x _ => by simp [Maps.has, DataW.atKey]⟩
theorem Met.made {W : World} {b : Nat} (hb : W.heap[b]? = some (.map #[] 0)) : Met b 0 [] W := by
 obtain ⟨D, ⟨es, clock, h1, h2⟩, h3⟩ := Met.fresh W
 have h4 := (heap_alloc_new W (.map #[] 0)).symm.trans h1
 injection h4 with h4
 injection h4 with h5 h6
 subst h5; subst h6
 exact ⟨D, ⟨_, _, hb, h2⟩, h3⟩
theorem Met.look {b n : Nat} {ks : List (Int × List Int)} {W : World} (h : Met b n ks W) {x : Int × List Int} (hx : KOk x) (hz : ∀ w, (zeroValue 60).run Tryz.prog w = .ok (.agg #[]) w) : (Instr.lookup 61 (.map (some b)) (keyV x.1 x.2) true).run Tryz.prog W = .ok (.tuple #[.agg #[], .bool (decide (x ∈ ks))]) W := by
 obtain ⟨D, h1, h2⟩ := h
 obtain ⟨v, ps, h3, h4⟩ := h1.look_ok skeyed Tryz.underlying61 (hz W) unitElem_mk (klit_of hx)
 obtain ⟨rfl, _⟩ := unitElem_inv h4
 rw [h3, h2 x hx]
theorem Met.put {b n : Nat} {ks : List (Int × List Int)} {W : World} (h : Met b n ks W) {x : Int × List Int} (hx : KOk x) (hn : n < maxLen) : ∃ w', (Instr.mapUpdate 61 (.map (some b)) (keyV x.1 x.2) (.agg #[])).run Tryz.prog W = .ok () w' ∧ Met b (n + 1) (x :: ks) w' ∧ W.mapTurned w' b := by
 obtain ⟨D, h1, h2⟩ := h
 obtain ⟨w', h3, h4, h5⟩ := h1.store skeyed Tryz.underlying61 hn (klit_of hx) unitElem_mk
 refine ⟨w', h3, ⟨_, h4, fun y hy => ?_⟩, h5⟩
 by_cases e : y = x
 ·subst e
  rw [has_put_same h1.isMap (skeyed.key (klit_of hy))]
  simp
 ·rw [has_put_other (fun e2 => e (klit_inj hy hx e2)), h2 y hy]
  simp [e]
theorem St.setMap {w0 W W' : World} {O : Own} {G : Grows} {K : List (Nat × World)} {b : Nat} (h : St w0 O G K W) (hm : W.mapTurned W' b) (hwb : w0.heap.size ≤ b) (hK : ∀ q ∈ K, b < q.1 ∨ q.2.heap.size ≤ b) : St w0 O G K W' := by
 have hg := hm.grown
 obtain ⟨es, clock, _, _, hb, _⟩ := hm
 have ne : ∀ (k : Nat) (cs : Array Value) (T : TypeId), W.heap[k]? = some (.cells cs T (0, 0)) → k ≠ b := fun k cs T hk e => by
  subst e
  rw [hb] at hk; cases hk
 have blk : ∀ k, k < W.heap.size → k ≠ b → W'.heap[k]? = W.heap[k]? := fun k hk hne => hg.block _ hk (fun e => hne (Option.some.inj e))
 refine ⟨h.below.grown hg h.below.size (fun k hk => by cases hk; exact hwb), fun p hp => ?_, h.dist, fun q hq => ⟨⟨Nat.le_trans (h.kept q hq).1.1 hg.size, fun k h1 h2 => ?_⟩, (h.kept q hq).2⟩, fun g hg' => ⟨ownsRow_same (h.rows g hg').1 fun k hk => ?_, (h.rows g hg').2⟩, h.gdist⟩
 ·obtain ⟨h1, h2⟩ := h.own p hp
  exact ⟨h1, (blk _ (lt_of_heap h2) (ne _ _ _ h2)).trans h2⟩
 ·refine (blk k (Nat.lt_of_lt_of_le h2 (h.kept q hq).1.1) ?_).trans ((h.kept q hq).1.2 k h1 h2)
  rcases hK q hq with h3 | h3 <;> omega
 ·exact blk k (((h.rows g hg').1.lt k hk).2) (row_not_map (h.rows g hg').1 hb hk)
section
variable {n : Nat} {ops : Array Oper} {Q : Exit → Act → World → Prop} {l : Fr} {w0 W : World} {O : Own} {G : Grows} {K : List (Nat × World)} {os : List Oper} {d b m : Nat} {ty : TypeId} {pos : String} {aft : Array Edge} {x y z : Operand} {ks : List (Int × List Int)} {k : Int × List Int}
theorem op_setLook (hM : Met b m ks W) (hk : KOk k) (hz : ∀ w, (zeroValue 60).run Tryz.prog w = .ok (.agg #[]) w) (hx : evL l x = some (.map (some b))) (hy : evL l y = some (keyV k.1 k.2)) (hd : Nat.blt d n = true)
  (h : OpsF Tryz.prog n ops Q os ((d, .tuple #[.agg #[], .bool (decide (k ∈ ks))]) :: l) W) : OpsF Tryz.prog n ops Q (⟨some d, .lookup 61 x y true, ty, pos, aft, none⟩ :: os) l W :=
 opV (fun ev he => by
  unfold execOp; simp only []; rw [he x _ hx, he y _ hy]
  simp [hM.look hk hz, Result.andThen]) hd h
theorem op_setPut (hS : St w0 O G K W) (hM : Met b m ks W) (hk : KOk k) (hm : m < maxLen) (hwb : w0.heap.size ≤ b) (hK : ∀ q ∈ K, b < q.1 ∨ q.2.heap.size ≤ b) (hx : evL l x = some (.map (some b))) (hy : evL l y = some (keyV k.1 k.2)) (hz : evL l z = some (.agg #[]))
  (h : ∀ W', St w0 O G K W' → Met b (m + 1) (k :: ks) W' → OpsF Tryz.prog n ops Q os l W') : OpsF Tryz.prog n ops Q (⟨none, .mapUpdate 61 x y z, ty, pos, aft, none⟩ :: os) l W := fun a ha => by
 obtain ⟨W', h1, h2, h3⟩ := hM.put hk hm
 refine wpList_plain rfl fun K' hK' => ?_
 unfold Oper.wp execOp
 simp only []
 rw [ha.ev x _ hx, ha.ev y _ hy, ha.ev z _ hz]
 simp only [Sem.run_bind, h1, Result.andThen_ok, Sem.run_pure, Oper.upon_skip]
 exact hK' _ _ (h W' (hS.setMap h3 hwb hK) h2 a ha)
theorem op_setInsert (hS : St w0 O G K W) (hM : Met b m ks W) (hk : KOk k) (hm : m < maxLen) (hwb : w0.heap.size ≤ b) (hK : ∀ q ∈ K, b < q.1 ∨ q.2.heap.size ≤ b) (hx : evL l x = some (.map (some b))) (hy : evL l y = some (keyV k.1 k.2)) (hz : evL l z = some (.agg #[]))
  (h : ∀ W', St w0 O G K W' → Met b (m + 1) (k :: ks) W' → OpsF Tryz.prog n ops Q os l W') : OpsF Tryz.prog n ops Q (⟨none, .insert 61 x y z, ty, pos, aft, none⟩ :: os) l W := fun a ha => by
 obtain ⟨W', h1, h2, h3⟩ := hM.put hk hm
 refine wpList_plain rfl fun K' hK' => ?_
 unfold Oper.wp execOp
 simp only []
 rw [ha.ev x _ hx, ha.ev y _ hy, ha.ev z _ hz]
 simp only [Sem.run_bind, h1, Result.andThen_ok, Sem.run_pure, Oper.upon_skip]
 exact hK' _ _ (h W' (hS.setMap h3 hwb hK) h2 a ha)
end
end Go.Proofs.YtgjojhmninbkoaaGreatDoor
namespace Go.Proofs.YtgjojhmninbkoaaGreatDoor
open Go Go.RowKit
abbrev PL := Int × List Int
def addOne (most : Nat) (x : PL) (all : List PL) : Except Int (List PL) := if x ∈ all then .ok all else if all.length = most then .error 3 else .ok (all ++ [x])
def bindE (x : Except Int (List PL)) (f : List PL → Except Int (List PL)) : Except Int (List PL) := match x with
 | .error c => .error c
 | .ok a => f a
def addAll (most : Nat) : List PL → List PL → Except Int (List PL)
 | [], all => .ok all
 | x :: xs, all => bindE (addOne most x all) (addAll most xs)
def visitL (rs : List RV) (most : Nat) : List PL → List PL → Except Int (List PL)
 | [], all => .ok all
 | d :: ds, all => match nextF d.1 d.2 rs 0 with
  | none => .error 2
  | some l => bindE (addAll most (l.map (·.2)) all) (visitL rs most ds)
def roundsF (rs : List RV) (most : Nat) : Nat → Nat → List PL → Except Int (List PL)
 | 0, _, all => .ok all
 | n + 1, fr, all => bindE (visitL rs most (all.drop fr) all) (roundsF rs most n all.length)
def argE (n most : Int) : Bool := decide (n < 0) || (decide (1000 < n) || (decide (most < 1) || decide (100000 < most)))
def reachE (p : PV) (c : CV) (n most : Int) : Except Int (List PL) := if stepE p c ≠ 0 then .error (stepE p c) else if argE n most = true then .error 1 else roundsF p.rs most.toNat n.toNat 0 [c.pl]
theorem addAll_in {most : Nat} {x : PL} {xs all : List PL} (h : x ∈ all) : addAll most (x :: xs) all = addAll most xs all := by
 simp only [addAll, addOne]; rw [if_pos h]; rfl
theorem addAll_many {most : Nat} {x : PL} {xs all : List PL} (h : ¬ x ∈ all) (hm : all.length = most) : addAll most (x :: xs) all = .error 3 := by
 simp only [addAll, addOne]; rw [if_neg h, if_pos hm]; rfl
theorem addAll_new {most : Nat} {x : PL} {xs all : List PL} (h : ¬ x ∈ all) (hm : ¬ all.length = most) : addAll most (x :: xs) all = addAll most xs (all ++ [x]) := by
 simp only [addAll, addOne]; rw [if_neg h, if_neg hm]; rfl
theorem visit_no {rs : List RV} {most : Nat} {d : PL} {ds all : List PL} (h : nextF d.1 d.2 rs 0 = none) : visitL rs most (d :: ds) all = .error 2 := by
 simp only [visitL]; rw [h]
theorem visit_yes {rs : List RV} {most : Nat} {d : PL} {ds all : List PL} {l : NxL} (h : nextF d.1 d.2 rs 0 = some l) : visitL rs most (d :: ds) all = bindE (addAll most (l.map (·.2)) all) (visitL rs most ds) := by
 simp only [visitL]; rw [h]
theorem bindE_err {c : Int} {f : List PL → Except Int (List PL)} : bindE (.error c) f = .error c := rfl
theorem bindE_assoc {x : Except Int (List PL)} {f g : List PL → Except Int (List PL)} : bindE (bindE x f) g = bindE x (fun a => bindE (f a) g) := by
 cases x <;> rfl
theorem argE_false {n most : Int} (h : argE n most = false) : 0 ≤ n ∧ n ≤ 1000 ∧ 1 ≤ most ∧ most ≤ 100000 := by
 unfold argE at h
 simp only [Bool.or_eq_false_iff, decide_eq_false_iff_not] at h
 omega
theorem conf_kok {p : PV} {c : CV} (h : stepE p c = 0) (hl : c.wl = c.ws.length) : KOk c.pl := by
 have a := stepAll h
 have hpd := a.pd
 unfold pdsE at hpd
 have hsy : p.st ≤ 4096 ∧ p.sy ≤ 4096 := by
  by_cases h1 : spaceE p.s = 0
  ·rw [if_neg (not_not_intro h1)] at hpd
   obtain ⟨h2, hpd⟩ := ite9 hpd (by decide)
   obtain ⟨h3, hpd⟩ := ite9 hpd (by decide)
   omega
  ·rw [if_pos h1] at hpd; exact absurd hpd h1
 have h1 := inQ_le a.cp (show p.st ≤ 1000000 by omega)
 refine ⟨wf_small h1.1 h1.2, fun y hy => ?_, ?_⟩
 ·have h2 := inQ_le (a.cs y hy) hsy.2
  omega
 ·have := a.cw
  show c.ws.length ≤ 100000
  omega
end Go.Proofs.YtgjojhmninbkoaaGreatDoor
namespace Go.Proofs.YtgjojhmninbkoaaGreatDoor
open Go Go.RowKit
theorem append_own3 {P : Program} {w : World} (base : Nat) (t ty e : TypeId) (i : TypeInfo) (z : Value) (ht : P.underlying t = some (.slice e)) (hi : P.info? e = some i) (hz : i.zero = some z) (hzs : z.cells.size = i.size) (hsz : 0 < i.size)
  (v : Value) (n : Nat) (xs : List Value) (hown : w.ownsRow base e i.size v n xs) (a : Addr) (m c : Nat) (news : List Value) (hl : news.length = m * i.size) (hnews : ∀ j u, news[j]? = some u → w.cell? (a.add j) = some u) (h1 : ∀ u ∈ news, u.oneCell' = true)
  (h63 : n + m ≤ maxLen) (hbytes : (n + m) * i.bytes ≤ 140737488355328) (hbase : base ≤ w.heap.size) :
  ∃ v' w', (Builtin.append_ #[t, t] ty #[v, .slice (some a) m c]).run P w = .ok v' w' ∧ w'.ownsRow base e i.size v' (n + m) (xs ++ news) ∧ w.grownBy w' v.ownBlock ∧ (v'.ownBlock = v.ownBlock ∨ (v'.ownBlock = some w.heap.size ∧ w.grownBy w' none)) := by
 obtain ⟨v', w', hr, h2, h3, h4⟩ := append_own2 (P := P) (w := w) base t ty e i z ht hi hz hzs hsz v n xs hown a m c news hl hnews h1 h63 hbytes hbase
 refine ⟨v', w', hr, h2, h3, ?_⟩
 rcases h4 with h4 | h4
 ·exact .inl h4
 ·rcases hown.2 with ⟨rfl, rfl⟩ | ⟨g, cap, cur, rfl, hbg, hg, hnc, hcm, hcs, htake⟩
  ·exact .inr ⟨h4, h3⟩
  ·by_cases hroom : n + m ≤ cap
   ·have hfit : n * i.size + news.length ≤ cur.size := by rw [hl, hcs, ← Nat.add_mul]; exact Nat.mul_le_mul_right _ hroom
    have hr2 := run_append_room (P := P) w t ty e i ht hi g n cap cur hg a m c news hl hnews h1 hroom hfit
    rw [hr2] at hr
    simp only [Result.ok.injEq] at hr
    rw [← hr.1]
    exact .inl rfl
   ·have holds : ∀ j u, xs[j]? = some u → w.cell? ((⟨g, 0, none⟩ : Addr).add j) = some u := hown.cells (g := g) rfl
    have hr2 := run_append_grow (P := P) w t ty e i z ht hi hz ⟨g, 0, none⟩ n cap xs hown.1 holds a m c news hl hnews (by omega) (by simp only [maxLen] at h63; omega) (growslice_fits (by omega) hbytes)
    rw [hr2] at hr
    simp only [Result.ok.injEq] at hr
    refine .inr ⟨h4, ?_⟩
    rw [← hr.2]
    exact ⟨rfl, rfl, rfl, by simp, fun k hk _ => heap_alloc_old w.drew _ hk⟩
theorem St.ownG9 {w0 W : World} {O : Own} {G : Grows} {K : List (Nat × World)} {B n size : Nat} {cs : List Value} {e : TypeId} (h : St w0 ((B, cs, e) :: O) G K W) (hl : cs.length = n * size) (hm : n ≤ maxLen) : St w0 O (⟨.slice (some ⟨B, 0, none⟩) n n, n, cs, e, size⟩ :: G) K W := by
 have hB := h.own _ List.mem_cons_self
 have hd := List.pairwise_cons.1 h.dist
 refine ⟨h.below, fun p hp => h.own p (List.mem_cons_of_mem _ hp), hd.2, fun q hq => ⟨(h.kept q hq).1, fun p hp => (h.kept q hq).2 p (List.mem_cons_of_mem _ hp)⟩, fun g hg => ?_, List.Pairwise.cons (fun q hq b e1 e2 => ?_) h.gdist⟩
 ·rcases List.mem_cons.1 hg with rfl | hg
  ·refine ⟨⟨hl, .inr ⟨B, n, cs.toArray, rfl, hB.1, hB.2, Nat.le_refl _, hm, by simpa using hl, ?_⟩⟩, fun b e1 => ?_⟩
   ·show cs.take (n * size) = cs
    exact List.take_of_length_le (by omega)
   ·have e2 : B = b := Option.some.inj e1
    subst e2
    exact ⟨fun p hp => Ne.symm (hd.1 p hp), fun q hq => (h.kept q hq).2 _ List.mem_cons_self⟩
  ·exact ⟨(h.rows g hg).1, fun b e1 => ⟨fun p hp => ((h.rows g hg).2 b e1).1 p (List.mem_cons_of_mem _ hp), ((h.rows g hg).2 b e1).2⟩⟩
 ·have e3 : B = b := Option.some.inj e1
  exact ((h.rows q hq).2 b e2).1 _ List.mem_cons_self e3
section
variable {w0 W : World} {O : Own} {G : Grows} {K : List (Nat × World)}
theorem St.subG {G' : Grows} (h : St w0 O G K W) (hs : G'.Sublist G) : St w0 O G' K W where
 below := h.below
 own := h.own
 dist := h.dist
 kept := h.kept
 rows := fun g hg => h.rows g (hs.subset hg)
 gdist := h.gdist.sublist hs
theorem St.nilG {g : GR} (h : St w0 O [g] K W) (e : TypeId) (size : Nat) : St w0 O [g, ⟨.slice none 0 0, 0, [], e, size⟩] K W where
 below := h.below
 own := h.own
 dist := h.dist
 kept := h.kept
 rows := fun q hq => by
  rcases List.mem_cons.1 hq with rfl | hq
  ·exact h.rows _ List.mem_cons_self
  ·rcases List.mem_cons.1 hq with rfl | hq
   ·exact ⟨World.ownsRow_nil _ _ _ _, fun b hb => by cases hb⟩
   ·cases hq
 gdist := List.Pairwise.cons (fun q hq b e1 e2 => by
  rcases List.mem_cons.1 hq with rfl | hq
  ·cases e2
  ·cases hq) (List.pairwise_singleton _ _)
def Lvl (b : Nat) (lc : List Value) (g u : GR) : Prop := (∃ c, g.v = .slice (some ⟨b, 0, none⟩) g.n c ∧ ∃ t, g.xs = lc ++ t) ∨ (∃ c, u.v = .slice (some ⟨b, 0, none⟩) u.n c ∧ ∃ t, u.xs = lc ++ t)
theorem ownsRow_blk {w : World} {base n b k : Nat} {e : TypeId} {size : Nat} {c : Nat} {xs : List Value} {x : Value} (h : w.ownsRow base e size (.slice (some ⟨b, 0, none⟩) n c) n xs) (hk : xs[k]? = some x) : w.cell? ⟨b, k, none⟩ = some x := by
 rcases ownsRow_cells h with ⟨h1, _⟩ | ⟨b2, h1, _, h3⟩
 ·cases h1
 ·cases h1; exact h3 k x hk
theorem Lvl.cell {b k : Nat} {lc : List Value} {g u : GR} {x : Value} (h : Lvl b lc g u) (hS : St w0 O [g, u] K W) (hk : lc[k]? = some x) : W.cell? ⟨b, k, none⟩ = some x := by
 have hlt := (List.getElem?_eq_some_iff.1 hk).1
 rcases h with ⟨c, h1, t, h2⟩ | ⟨c, h1, t, h2⟩
 ·have h3 := hS.row 0 rfl
  rw [h1, h2] at h3
  exact ownsRow_blk h3 (by rw [List.getElem?_append_left hlt]; exact hk)
 ·have h3 := hS.row 1 rfl
  rw [h1, h2] at h3
  exact ownsRow_blk h3 (by rw [List.getElem?_append_left hlt]; exact hk)
theorem Lvl.cells {b k m : Nat} {lc vs : List Value} {g u : GR} (h : Lvl b lc g u) (hS : St w0 O [g, u] K W) (hk : (lc.drop k).take m = vs) : CellsAt W b k vs :=
 CellsAt.of fun j v hj => h.cell hS (by
  rw [← hk] at hj
  rw [List.getElem?_take] at hj
  split at hj
  ·rw [List.getElem?_drop] at hj; exact hj
  ·cases hj)
theorem ownsRow_ofBlk {w : World} {base b n : Nat} {e : TypeId} {size : Nat} {v : Value} {xs : List Value} (h : w.ownsRow base e size v n xs) (hb : v.ownBlock = some b) : ∃ c, v = .slice (some ⟨b, 0, none⟩) n c := by
 rcases h.2 with ⟨rfl, _⟩ | ⟨g, cap, cur, rfl, _⟩
 ·cases hb
 ·have : g = b := Option.some.inj hb
  subst this
  exact ⟨_, rfl⟩
variable {P : Program} {n : Nat} {ops : Array Oper} {Q : Exit → Act → World → Prop} {l : Fr} {os : List Oper} {d : Nat} {ty : TypeId} {pos : String} {aft : Array Edge}
theorem op_appendM {t e : TypeId} {x y : Operand} {g u : GR} {b o m c lb : Nat} {news lc : List Value} {inf : TypeInfo} {z : Value} (hS : St w0 O [g, u] K W) (hL : Lvl lb lc g u) (hU : P.underlying t = some (.slice e)) (hinf : P.info? e = some inf) (hz : inf.zero = some z) (hzs : z.cells.size = inf.size) (hsz : 0 < inf.size)
  (he : g.e = e) (hgs : g.size = inf.size) (hx : evL l x = some g.v) (hy : evL l y = some (.slice (some ⟨b, o, none⟩) m c)) (hc : CellsAt W b o news) (hl : news.length = m * inf.size) (h1 : news.all Value.oneCell' = true)
  (h63 : g.n + m ≤ maxLen) (hbytes : (g.n + m) * inf.bytes ≤ 140737488355328) (hd : Nat.blt d n = true)
  (h : ∀ v' W' u', St w0 O [⟨v', g.n + m, g.xs ++ news, e, g.size⟩, u'] K W' → Lvl lb lc ⟨v', g.n + m, g.xs ++ news, e, g.size⟩ u' → OpsF P n ops Q os ((d, v') :: l) W') :
  OpsF P n ops Q (⟨some d, .call { callee := .builtin .append, args := #[x, y], argTypes := #[t, t] }, ty, pos, aft, none⟩ :: os) l W := by
 subst he
 have hrow0 := hS.row 0 rfl
 have hrow := hrow0
 rw [hgs] at hrow
 obtain ⟨v', W', hr, h2, h3, h4⟩ := append_own3 (P := P) (w := W) w0.heap.size t ty g.e inf z hU hinf hz hzs hsz g.v g.n g.xs hrow ⟨b, o, none⟩ m c news hl (fun j u hj => by rw [Addr.add_lit]; exact hc.get j u hj) (fun u hu => List.all_eq_true.1 h1 u hu) h63 hbytes hS.below.size
 rw [← hgs] at h2
 refine opV (W' := W') (v := v') (fun ev hev => ?_) hd ?_
 ·unfold execOp
  simp only [resolve, invoke, builtin, Sem.run_bind, Sem.run_pure, Result.andThen_ok, List.map_toArray, List.map_cons, List.map_nil, hev x _ hx, hev y _ hy, hr]
 ·rcases hL with ⟨c9, hL, t9, hL2⟩ | hL
  ·rcases h4 with h4 | ⟨h4, h5⟩
   ·-- in place
    have hv' : v'.ownBlock = some lb := by rw [h4, hL]; rfl
    obtain ⟨c8, rfl⟩ := ownsRow_ofBlk h2 hv'
    refine h _ W' u ?_ (.inl ⟨c8, rfl, t9 ++ news, by rw [hL2, List.append_assoc]⟩)
    exact hS.setG 0 (g := g) rfl h2 h3 (.inl h4)
   ·-- to a new block
    have hb : Below W.heap.size W W' := (Below.refl _ _).grown h5 (Nat.le_refl _) (fun k hk => by cases hk)
    obtain ⟨c8, rfl⟩ := ownsRow_ofBlk h2 h4
    have h6 : W'.ownsRow W.heap.size g.e g.size (.slice (some ⟨W.heap.size, 0, none⟩) (g.n + m) c8) (g.n + m) (g.xs ++ news) := by
     refine ⟨h2.1, ?_⟩
     rcases h2.2 with ⟨e1, _⟩ | ⟨g9, cap, cur, e1, _, k2⟩
     ·cases e1
     ·cases e1
      exact .inr ⟨W.heap.size, c8, cur, rfl, Nat.le_refl _, k2⟩
    refine h _ W' g ?_ (.inr ⟨c9, hL, t9, hL2⟩)
    exact (hS.adopt hb h6).subG (List.Sublist.cons_cons _ (List.Sublist.cons_cons _ (List.nil_sublist _)))
  ·refine h _ W' u ?_ (.inr hL)
   exact hS.setG 0 (g := g) rfl h2 h3 (h4.imp id (·.1))
theorem St.markMap {b : Nat} {es : Array MapEntry} {clock : Nat} (h : St w0 O G K W) (hb : W.heap[b]? = some (.map es clock)) : St w0 O G ((b, cutW W b) :: K) W where
 below := h.below
 own := h.own
 dist := h.dist
 kept := fun q hq => by
  rcases List.mem_cons.1 hq with rfl | hq
  ·have hlt := lt_of_heap hb
   refine ⟨⟨by show (cutW W b).heap.size ≤ _; rw [cutW_size hlt]; exact hlt, fun x h1 h2 => ?_⟩, fun p hp => ?_⟩
   ·have h3 : x < b + 1 := by rw [← cutW_size hlt]; exact h2
    have h4 : b ≤ x := h1
    obtain rfl : x = b := by omega
    exact (cutW_at hlt).symm
   ·have : p.1 ≠ b := fun e => by
     have h5 := (h.own p hp).2
     rw [e, hb] at h5; cases h5
    show p.1 < b ∨ (cutW W b).heap.size ≤ p.1
    rw [cutW_size hlt]; omega
  ·exact h.kept q hq
 rows := fun g hg => by
  obtain ⟨h1, h2⟩ := h.rows g hg
  refine ⟨h1, fun k hk => ⟨(h2 k hk).1, fun q hq => ?_⟩⟩
  rcases List.mem_cons.1 hq with rfl | hq
  ·have : k ≠ b := row_not_map h1 hb hk
   show k < b ∨ (cutW W b).heap.size ≤ k
   rw [cutW_size (lt_of_heap hb)]; omega
  ·exact (h2 k hk).2 q hq
 gdist := h.gdist
theorem St.markBlk {b : Nat} (h : St w0 O G K W) (hb : b < W.heap.size) (hO : ∀ p ∈ O, p.1 ≠ b) (hG : ∀ g ∈ G, ∀ k, g.v.ownBlock = some k → k ≠ b) : St w0 O G ((b, cutW W b) :: K) W where
 below := h.below
 own := h.own
 dist := h.dist
 kept := fun q hq => by
  rcases List.mem_cons.1 hq with rfl | hq
  ·refine ⟨⟨by show (cutW W b).heap.size ≤ _; rw [cutW_size hb]; exact hb, fun x h1 h2 => ?_⟩, fun p hp => ?_⟩
   ·have h3 : x < b + 1 := by rw [← cutW_size hb]; exact h2
    have h4 : b ≤ x := h1
    obtain rfl : x = b := by omega
    exact (cutW_at hb).symm
   ·have := hO p hp
    show p.1 < b ∨ (cutW W b).heap.size ≤ p.1
    rw [cutW_size hb]; omega
  ·exact h.kept q hq
 rows := fun g hg => by
  obtain ⟨h1, h2⟩ := h.rows g hg
  refine ⟨h1, fun k hk => ⟨(h2 k hk).1, fun q hq => ?_⟩⟩
  rcases List.mem_cons.1 hq with rfl | hq
  ·have := hG g hg k hk
   show k < b ∨ (cutW W b).heap.size ≤ k
   rw [cutW_size hb]; omega
  ·exact (h2 k hk).2 q hq
 gdist := h.gdist
end
section
variable {P : Program} {ops opf : Array Oper} {Q : Exit → Act → World → Prop} {n : Nat} {l : Fr} {w0 W : World} {K : List (Nat × World)} {lo : Nat} {al : List AB} {Ob : Own} {G : Sy → Grows} {E : List Nat} {L : List Asr} {i : Nat}
variable {d : Nat} {op : Op} {ty : TypeId} {pos : String} {aft_ : Array Edge}
end
end Go.Proofs.YtgjojhmninbkoaaGreatDoor
namespace Go.Proofs.YtgjojhmninbkoaaGreatDoor
open Go Go.RowKit
def ReachRet (R : Except Int (List PL)) (w : World) (e : Ending) (w' : World) : Prop := Below w.heap.size w w' ∧ match R with
 | .error c => e = .returned (.tuple #[.slice none 0 0, .int .i64 c])
 | .ok a => ∃ v, e = .returned (.tuple #[v, .int .i64 0]) ∧ isCfsN w.heap.size (a.map (fun x => ((0 : Int), x))) v w'
theorem reachRet_err {R : Except Int (List PL)} {c : Int} {w w' : World} (hR : R = .error c) (hb : Below w.heap.size w w') : ReachRet R w (.returned (.tuple #[.slice none 0 0, .int .i64 c])) w' := by subst hR; exact ⟨hb, rfl⟩
theorem reachRet_ok {R : Except Int (List PL)} {cs : List CV} {v : Value} {w w' : World} (hR : R = .ok (cs.map CV.pl)) (hr : w'.ownsRow w.heap.size 31 2 v cs.length (cs.flatMap two9)) (hh : ∀ c ∈ cs, CHeld w.heap.size w' c) (hb : Below w.heap.size w w') : ReachRet R w (.returned (.tuple #[v, .int .i64 0])) w' := by
 subst hR
 exact ⟨hb, v, rfl, cs, hr, by rw [List.map_map]; simp, hh⟩
theorem reachE_bad {p : PV} {c : CV} {n most : Int} (h : stepE p c ≠ 0) : reachE p c n most = .error (stepE p c) := by unfold reachE; rw [if_pos h]
theorem reachE_arg {p : PV} {c : CV} {n most : Int} (h : stepE p c = 0) (ha : argE n most = true) : reachE p c n most = .error 1 := by unfold reachE; rw [if_neg (not_not_intro h), if_pos ha]
theorem reachE_go {p : PV} {c : CV} {n most : Nat} (h : stepE p c = 0) (ha : argE n most = false) : reachE p c n most = roundsF p.rs most n 0 [c.pl] := by
 unfold reachE; rw [if_neg (not_not_intro h), if_neg (by rw [ha]; simp), Int.toNat_natCast, Int.toNat_natCast]
def isClN (lo : Nat) (ws : List Int) : Asr := fun v w => ∃ a c, v = .slice a ws.length c ∧ RowN lo w a c ws
theorem cl_gN {P : Program} {f : FuncId} {vs : Array Value} {w : World} {lo l : Nat} {ws : List Int} (hlo : lo ≤ w.heap.size) (hl : ws.length = l) (h : Calls P f vs w fun e w' => ∃ v, e = .returned v ∧ Below w.heap.size w w' ∧ w'.ownsRow w.heap.size 3 1 v l (ws.map (Value.int .i64))) : Calls P f vs w (GivesN (isClN lo ws) w) := by
 subst hl
 refine h.mono fun e w2 ⟨v, he, hb, hr⟩ => ⟨v, he, fun w3 hg => ?_, hb⟩
 obtain ⟨a, c, rfl, _⟩ := ownsRow_sl hr
 exact ⟨a, c, rfl, (RowN.agree (show RowN _ _ _ _ _ from hr) hg).mono hlo⟩
theorem after7 {w0 W7 W8 : World} {O : Own} {g : GR} {Ks K0 : List (Nat × World)} {c : Nat} {a : Option Addr} {ws : List Int} (h7 : St w0 O [] K0 W7) (h8 : St w0 O [g] (Ks ++ K0) W8) (hN : RowN W7.heap.size W8 a c ws) (hg : ∀ k, g.v.ownBlock = some k → ∃ cs, W8.heap[k]? = some (.cells cs 31 (0, 0))) :
  ∃ Kk, St w0 O [g] Kk W8 ∧ Held w0 Kk (fun W2 => RowN w0.heap.size W2 a c ws) ∧ (∀ q ∈ K0, q ∈ Kk) ∧ ∀ q ∈ Kk, q.2.heap.size ≤ W8.heap.size := by
 have hOlt : ∀ q ∈ O, q.1 < W7.heap.size := fun q hq => lt_of_heap (h7.own q hq).2
 have hKle : ∀ q ∈ K0, q.2.heap.size ≤ W8.heap.size := fun q hq => (h8.kept q (List.mem_append_right _ hq)).1.1
 have hsz := h7.below.size
 have h9 := h8.keep K0 (fun q hq => List.mem_append_right _ hq)
 rcases hN.2 with ⟨e1, e2⟩ | ⟨b, cap, cur, e1, hb, hh, k⟩
 ·refine ⟨K0, h9, fun h2 hk => ?_, fun q hq => hq, hKle⟩
  have hw : ws = [] := List.eq_nil_of_length_eq_zero e2
  subst hw
  injection e1 with e1 _ e3
  subst e1; subst e3
  exact World.ownsRow_nil _ _ _ _
 ·refine ⟨(b, cutW W8 b) :: K0, h9.markBlk (lt_of_heap hh) (fun q hq e => ?_) (fun q hq k2 hk2 e => ?_), ?_, fun q hq => List.mem_cons_of_mem _ hq, fun q hq => ?_⟩
  ·have := hOlt q hq; omega
  ·simp at hq
   subst hq
   obtain ⟨cs, h⟩ := hg k2 hk2
   rw [e, hh] at h
   injection h with h
   injection h with _ h
   exact absurd h (by decide)
  ·refine Held.more (Kk := [(b, cutW W8 b)]) (Held.one (p := fun W2 => RowN w0.heap.size W2 a c ws) fun W2 hag => ?_) (fun q hq => by simp at hq; subst hq; exact List.mem_cons_self)
   refine ⟨hN.1, .inr ⟨b, cap, cur, e1, Nat.le_trans hsz hb, ?_, k⟩⟩
   exact (hag.2 b (Nat.le_refl _) (cutW_lt (lt_of_heap hh))).trans ((cutW_at (lt_of_heap hh)).trans hh)
  ·rcases List.mem_cons.1 hq with rfl | hq
   ·show (cutW W8 b).heap.size ≤ _
    rw [cutW_size (lt_of_heap hh)]; exact lt_of_heap hh
   ·exact hKle q hq
theorem Met.map {b n : Nat} {ks : List (Int × List Int)} {W : World} (h : Met b n ks W) : ∃ es clock, W.heap[b]? = some (.map es clock) := by
 obtain ⟨D, ⟨es, clock, h1, _⟩, _⟩ := h
 exact ⟨es, clock, h1⟩
theorem Met.lt9 {b n : Nat} {ks : List (Int × List Int)} {W : World} (h : Met b n ks W) : b < W.heap.size := by
 obtain ⟨es, clock, h1⟩ := h.map
 exact lt_of_heap h1
theorem Met.held {b n : Nat} {ks : List (Int × List Int)} {w0 W : World} (h : Met b n ks W) : Held w0 [(b, cutW W b)] (Met b n ks) :=
 Held.one fun W2 hag => h.same fun hlt => (hag.2 b (Nat.le_refl _) (cutW_lt hlt)).trans (cutW_at hlt)
theorem Met.ext {b n : Nat} {ks ls : List (Int × List Int)} {W : World} (h : Met b n ks W) (e : ∀ x, x ∈ ks ↔ x ∈ ls) : Met b n ls W := by
 obtain ⟨D, h1, h2⟩ := h
 exact ⟨D, h1, fun x hx => by rw [h2 x hx]; exact decide_eq_decide.2 (e x)⟩
def CfX (lo : Nat) (ca : Option Addr) (cc : Nat) (xs : List CV) (W : World) : Prop := W.ownsRow lo 31 2 (.slice ca xs.length cc) xs.length (xs.flatMap two9) ∧ ∀ c ∈ xs, CHeld lo W c
theorem CfX.agree {lo : Nat} {ca : Option Addr} {cc : Nat} {xs : List CV} {A W : World} (h : CfX lo ca cc xs A) (hg : Agree lo A W) : CfX lo ca cc xs W := ⟨ownsRow_agree h.1 hg, fun c hc => ⟨(h.2 c hc).1.agree hg, (h.2 c hc).2⟩⟩
theorem CfX.mono {lo lo' : Nat} {ca : Option Addr} {cc : Nat} {xs : List CV} {W : World} (h : CfX lo ca cc xs W) (hl : lo' ≤ lo) : CfX lo' ca cc xs W := ⟨ownsRow_base h.1 hl, fun c hc => ⟨(h.2 c hc).1.mono hl, (h.2 c hc).2⟩⟩
theorem CfX.at_ {lo : Nat} {ca : Option Addr} {cc i : Nat} {xs : List CV} {W : World} {cv : CV} (h : CfX lo ca cc xs W) (hx : xs[i]? = some cv) : ∃ cb, ca = some ⟨cb, 0, none⟩ ∧ CellsAt W cb (0 + i * 2) [.int .i64 cv.p, .slice cv.wa cv.wl cv.wc] := by
 have hlt := (List.getElem?_eq_some_iff.1 hx).1
 obtain ⟨b, c9, e, _⟩ := ownsRow_at h.1 (by omega)
 injection e with e _ _
 subst e
 refine ⟨b, rfl, ?_⟩
 rw [Nat.zero_add]
 have e5 := flat2_at hx
 refine CellsAt.of fun j v hj => ownsRow_blk h.1 ?_
 rw [show ([.int .i64 cv.p, .slice cv.wa cv.wl cv.wc] : List Value) = two9 cv from rfl, ← e5, List.getElem?_take] at hj
 split at hj
 ·rw [List.getElem?_drop] at hj; exact hj
 ·cases hj
theorem CfX.lim {lo : Nat} {ca : Option Addr} {cc : Nat} {xs : List CV} {W : World} (h : CfX lo ca cc xs W) : xs.length ≤ 9223372036854775807 := by
 rcases h.1.2 with ⟨_, e2⟩ | ⟨g, cap, cur, _, _, _, hn, hm, _⟩
 ·omega
 ·simp only [maxLen] at hm; omega
theorem mv_no {R : Option NxL} {w w' : World} {e : Ending} (hR : R = none) (h : MvRet R w e w') : e = .returned (.tuple #[.slice none 0 0, .slice none 0 0, .bool false]) ∧ Below w.heap.size w w' := by
 subst hR; exact ⟨h.2, h.1⟩
theorem mv_yes {R : Option NxL} {l : NxL} {w w' : World} {e : Ending} (hR : R = some l) (h : MvRet R w e w') : ∃ v8 ca cc xs, e = .returned (.tuple #[v8, .slice ca xs.length cc, .bool true]) ∧ CfX w.heap.size ca cc xs w' ∧ xs.map CV.pl = l.map (·.2) ∧ Below w.heap.size w w' := by
 subst hR
 obtain ⟨hb, v8, v9, he, _, ⟨xs, h3, h4, h5⟩⟩ := h
 obtain ⟨a8, c8, rfl, _⟩ := ownsRow_sl h3
 exact ⟨v8, a8, c8, xs, he, ⟨h3, h5⟩, h4, hb⟩
theorem next_all {p : PV} {c : CV} {l : NxL} {xs : List CV} (h : stepE p c = 0) (hl : nextF c.p c.ws p.rs 0 = some l) (hlen : ∀ r ∈ p.rs, r.ws.length = r.wl) (hx : xs.map CV.pl = l.map (·.2)) (hw : ∀ x ∈ xs, x.wl = x.ws.length) : ∀ x ∈ xs, stepE p x = 0 ∧ x.wl = x.ws.length := fun x hxm => by
 have h1 : x.pl ∈ l.map (·.2) := by rw [← hx]; exact List.mem_map_of_mem hxm
 obtain ⟨y, h2, h3⟩ := List.mem_map.1 h1
 exact ⟨next_valid h hl h2 hlen h3.symm (hw x hxm), hw x hxm⟩
structure RF (w : World) (P : PV) (lo1 bg bm mo : Nat) (X : World → Prop) (cs : List CV) (Kk : List (Nat × World)) (Mw : World) : Prop where
 len : cs.length ≤ mo
 ok : ∀ c ∈ cs, stepE P c = 0 ∧ c.wl = c.ws.length
 met : Held w [(bm, Mw)] (Met bm cs.length (cs.map CV.pl))
 held : Held w Kk (fun W2 => GrpT lo1 P.rs bg W2 ∧ (∀ c ∈ cs, CHeld w.heap.size W2 c) ∧ X W2)
 kb : ∀ q ∈ Kk, bm < q.1 ∨ q.2.heap.size ≤ bm
section
variable {w Mw : World} {P : PV} {lo1 bg bm mo : Nat} {X : World → Prop} {cs : List CV} {Kk : List (Nat × World)}
theorem RF.metNow {W : World} {O : Own} {G : Grows} {K : List (Nat × World)} (h : RF w P lo1 bg bm mo X cs Kk Mw) (hS : St w O G ((bm, Mw) :: K) W) : Met bm cs.length (cs.map CV.pl) W := h.met hS (fun q hq => by simp at hq; subst hq; exact List.mem_cons_self)
theorem RF.now {W : World} {O : Own} {G : Grows} (h : RF w P lo1 bg bm mo X cs Kk Mw) (hS : St w O G ((bm, Mw) :: Kk) W) : GrpT lo1 P.rs bg W ∧ (∀ c ∈ cs, CHeld w.heap.size W c) ∧ X W := h.held hS (fun q hq => List.mem_cons_of_mem _ hq)
theorem RF.forget (h : RF w P lo1 bg bm mo X cs Kk Mw) : RF w P lo1 bg bm mo (fun _ => True) cs Kk Mw := by
 obtain ⟨h1, h2, h3, h4, h5⟩ := h
 exact ⟨h1, h2, h3, fun h6 h7 => ⟨(h4 h6 h7).1, (h4 h6 h7).2.1, trivial⟩, h5⟩
theorem RF.grow {Y : World → Prop} {Kl : List (Nat × World)} (h : RF w P lo1 bg bm mo X cs Kk Mw) (hs : ∀ q ∈ Kk, q ∈ Kl) (hY : Held w Kl Y) (hk : ∀ q ∈ Kl, bm < q.1 ∨ q.2.heap.size ≤ bm) : RF w P lo1 bg bm mo Y cs Kl Mw :=
 by
 obtain ⟨h1, h3, h4, h5, h6⟩ := h
 exact ⟨h1, h3, h4, fun h2 k2 => ⟨(h5 h2 (fun q hq => k2 q (hs q hq))).1, (h5 h2 (fun q hq => k2 q (hs q hq))).2.1, hY h2 k2⟩, hk⟩
theorem RF.add {Mw' : World} {x : CV} (h : RF w P lo1 bg bm mo X cs Kk Mw) (hl : ¬ cs.length = mo) (hok : stepE P x = 0 ∧ x.wl = x.ws.length) (hm : Held w [(bm, Mw')] (Met bm (cs.length + 1) (x.pl :: cs.map CV.pl))) (hX : ∀ W2, X W2 → CHeld w.heap.size W2 x) : RF w P lo1 bg bm mo X (cs ++ [x]) Kk Mw' := by
 obtain ⟨hlen, h1, h3, h4, h5⟩ := h
 refine ⟨by rw [List.length_append]; show cs.length + 1 ≤ mo; omega, fun c hc => ?_, ?_, fun {O2 G2 K2 W2} h6 h7 => ⟨(h4 h6 h7).1, fun c hc => ?_, (h4 h6 h7).2.2⟩, h5⟩
 ·rcases List.mem_append.1 hc with hc | hc
  ·exact h1 c hc
  ·simp at hc; subst hc; exact hok
 ·intro O2 G2 K2 W2 h6 h7
  rw [List.length_append]
  exact (hm h6 h7).ext fun y => by simp [or_comm]
 ·rcases List.mem_append.1 hc with hc | hc
  ·exact (h4 h6 h7).2.1 c hc
  ·simp at hc; subst hc; exact hX _ (h4 h6 h7).2.2
end
end Go.Proofs.YtgjojhmninbkoaaGreatDoor
namespace Go.Proofs.YtgjojhmninbkoaaGreatDoor
open Go Go.RowKit
theorem bld_60 : Tryz.prog.built 60 [] = some #[] := by kernel_rfl
theorem goes_14 : goesIn Tryz.prog 14 = true := by kernel_rfl
theorem stepE_len {s : SV} {st sy : Int} {ra : Option Addr} {rl rc : Nat} {rs : List RV} {p : Int} {wa a : Option Addr} {wl wc c : Nat} {ws : List Int} (h : stepE ⟨s, st, sy, ra, rl, rc, rs⟩ ⟨p, wa, wl, wc, ws⟩ = 0) (hl : ws.length = wl) : stepE ⟨s, st, sy, ra, rl, rc, rs⟩ ⟨p, a, ws.length, c, ws⟩ = 0 := by
 rw [hl]; exact h
theorem reachA_c (ds d : Nat) (s : SV) (st sy : Int) (ra : Option Addr) (rl rc : Nat) (rs : List RV) (p : Int) (wa : Option Addr) (wl wc : Nat) (ws : List Int) (n most : Int) (w : World) (hs : SIn w ds s) (hprow : RRow w ra rs) (hplen : rs.length = rl) (hin : ∀ r ∈ rs, RIn w d r) (hrow : Row w wa ws) (hlen : ws.length = wl) (hcap : wl ≤ wc) :
  Calls Tryz.prog 5 #[.agg #[.int .i64 s.f.tag, .int .i64 s.f.dim, .slice s.f.a s.f.len s.f.cap, .int .i64 st, .int .i64 sy, .slice ra rl rc], .agg #[.int .i64 p, .slice wa wl wc], .int .i64 n, .int .i64 most] w (ReachRet (reachE ⟨s, st, sy, ra, rl, rc, rs⟩ ⟨p, wa, wl, wc, ws⟩ n most) w) := by
 refine enterF (args := [.agg #[.int .i64 s.f.tag, .int .i64 s.f.dim, .slice s.f.a s.f.len s.f.cap, .int .i64 st, .int .i64 sy, .slice ra rl rc], .agg #[.int .i64 p, .slice wa wl wc], .int .i64 n, .int .i64 most]) Tryz.func5 rfl Tryz.ntmps5 rfl ?_
 have hS := St.start w
 refine seqF (regF ?_)
 refine op_box (cs := [_, _, _, _, _, _]) hS rfl rfl rfl ?_
 clear hS; intro B1 W1 hS
 refine op_box (cs := [_, _]) hS rfl rfl rfl ?_
 clear hS; intro B2 W2 hS
 refine op_assign rfl rfl ?_
 refine op_assign rfl rfl ?_
 refine endF (XF.thenN ?_)
 refine seqF ?_
 refine seqF (regF ?_)
 refine op_loadA (vs := [_, _, _, _, _, _]) Tryz.isAgg28 Tryz.sizeOf28 rfl (CellsAt.own (j := 0) (m := 6) (hS.at_ 1 rfl) rfl) rfl ?_
 refine op_loadA (vs := [_, _]) Tryz.isAgg31 Tryz.sizeOf31 rfl (CellsAt.own (j := 0) (m := 2) (hS.at_ 0 rfl) rfl) rfl ?_
 refine op_call (vs := [_, _]) hS goes_11 rfl (stepA_is ds d ⟨s, st, sy, ra, rl, rc, rs⟩ ⟨p, wa, wl, wc, ws⟩ _ (PvIn.below ⟨hs, hprow, hplen, hin⟩ hS.below) (CIn.below ⟨hrow, hlen⟩ hS.below)) rfl ?_
 rintro e W3 ⟨rfl, hb⟩
 refine ⟨_, rfl, hb, fun hS' => ?_⟩
 clear hS; have hS := hS'; clear hS' hb
 refine op_assign rfl rfl ?_
 refine endF (XF.thenN ?_)
 refine seqF (regF ?_)
 refine op_move rfl rfl ?_
 refine op_neq rfl rfl rfl ?_
 refine endF (XF.thenN ?_)
 refine condF rfl (fun hc => ?_) (fun hc => ?_)
 ·have hc30 := of_decide_eq_true hc; clear hc
  refine seqF (regF ?_)
  refine op_move rfl rfl ?_
  refine op_assign rfl rfl ?_
  refine op_assign rfl rfl ?_
  refine endF (XF.thenN ?_)
  refine retF ?_
  refine XF.thenR ?_
  refine XF.res (res2 Tryz.results5 rfl rfl) ?_
  exact reachRet_err (reachE_bad hc30) hS.below
 ·have hc30 := of_decide_eq_false hc; clear hc
  have hE : stepE ⟨s, st, sy, ra, rl, rc, rs⟩ ⟨p, wa, wl, wc, ws⟩ = 0 := Decidable.of_not_not hc30
  have ok := stepOk hE
  have hok1 : rl ≤ 16384 := ok.rl
  have hok2 : wl ≤ 4096 := ok.cw
  refine skipF ?_
  refine XF.thenN ?_
  refine seqF ?_
  refine seqF (regF ?_)
  refine op_move rfl rfl ?_
  refine op_lss rfl rfl rfl ?_
  refine op_move rfl rfl ?_
  refine op_cases (d := 34) rfl (fun hc => ?_) (fun hc => ?_)
  ·have hg34 := of_decide_eq_true hc; clear hc
   refine op_notF (d := 34) rfl rfl rfl rfl ?_
   refine op_notF (d := 34) rfl rfl rfl rfl ?_
   refine op_pickT rfl rfl rfl ?_
   refine op_move rfl rfl ?_
   refine op_notF (d := 38) rfl rfl rfl rfl ?_
   refine op_notF (d := 38) rfl rfl rfl rfl ?_
   refine op_pickT rfl rfl rfl ?_
   refine op_move rfl rfl ?_
   refine op_notF (d := 42) rfl rfl rfl rfl ?_
   refine op_notF (d := 42) rfl rfl rfl rfl ?_
   refine op_pickT rfl rfl rfl ?_
   refine endF (XF.thenN ?_)
   refine condT rfl ?_
   refine seqF (regF ?_)
   refine op_assign rfl rfl ?_
   refine op_assign rfl rfl ?_
   refine endF (XF.thenN ?_)
   refine retF ?_
   refine XF.thenR ?_
   refine XF.res (res2 Tryz.results5 rfl rfl) ?_
   exact reachRet_err (reachE_arg hE (by unfold argE; simp only [Bool.or_eq_true, decide_eq_true_eq]; omega)) hS.below
  ·have hg34 := of_decide_eq_false hc; clear hc
   refine op_wantedF (d := 34) rfl rfl ?_
   refine op_move rfl rfl ?_
   refine op_wantedF (d := 34) rfl rfl ?_
   refine op_gtr rfl rfl rfl ?_
   refine op_pickF rfl rfl rfl ?_
   refine op_move rfl rfl ?_
   refine op_cases (d := 38) rfl (fun hc => ?_) (fun hc => ?_)
   ·have hg38 := of_decide_eq_true hc; clear hc
    refine op_notF (d := 38) rfl rfl rfl rfl ?_
    refine op_notF (d := 38) rfl rfl rfl rfl ?_
    refine op_pickT rfl rfl rfl ?_
    refine op_move rfl rfl ?_
    refine op_notF (d := 42) rfl rfl rfl rfl ?_
    refine op_notF (d := 42) rfl rfl rfl rfl ?_
    refine op_pickT rfl rfl rfl ?_
    refine endF (XF.thenN ?_)
    refine condT rfl ?_
    refine seqF (regF ?_)
    refine op_assign rfl rfl ?_
    refine op_assign rfl rfl ?_
    refine endF (XF.thenN ?_)
    refine retF ?_
    refine XF.thenR ?_
    refine XF.res (res2 Tryz.results5 rfl rfl) ?_
    exact reachRet_err (reachE_arg hE (by unfold argE; simp only [Bool.or_eq_true, decide_eq_true_eq]; omega)) hS.below
   ·have hg38 := of_decide_eq_false hc; clear hc
    refine op_wantedF (d := 38) rfl rfl ?_
    refine op_move rfl rfl ?_
    refine op_wantedF (d := 38) rfl rfl ?_
    refine op_lss rfl rfl rfl ?_
    refine op_pickF rfl rfl rfl ?_
    refine op_move rfl rfl ?_
    refine op_cases (d := 42) rfl (fun hc => ?_) (fun hc => ?_)
    ·have hg42 := of_decide_eq_true hc; clear hc
     refine op_notF (d := 42) rfl rfl rfl rfl ?_
     refine op_notF (d := 42) rfl rfl rfl rfl ?_
     refine op_pickT rfl rfl rfl ?_
     refine endF (XF.thenN ?_)
     refine condT rfl ?_
     refine seqF (regF ?_)
     refine op_assign rfl rfl ?_
     refine op_assign rfl rfl ?_
     refine endF (XF.thenN ?_)
     refine retF ?_
     refine XF.thenR ?_
     refine XF.res (res2 Tryz.results5 rfl rfl) ?_
     exact reachRet_err (reachE_arg hE (by unfold argE; simp only [Bool.or_eq_true, decide_eq_true_eq]; omega)) hS.below
    ·have hg42 := of_decide_eq_false hc; clear hc
     refine op_wantedF (d := 42) rfl rfl ?_
     refine op_move rfl rfl ?_
     refine op_wantedF (d := 42) rfl rfl ?_
     refine op_gtr rfl rfl rfl ?_
     refine op_pickF rfl rfl rfl ?_
     refine endF (XF.thenN ?_)
     refine condF rfl (fun hc => ?_) (fun hc => ?_)
     ·have hc45 := of_decide_eq_true hc; clear hc
      refine seqF (regF ?_)
      refine op_assign rfl rfl ?_
      refine op_assign rfl rfl ?_
      refine endF (XF.thenN ?_)
      refine retF ?_
      refine XF.thenR ?_
      refine XF.res (res2 Tryz.results5 rfl rfl) ?_
      exact reachRet_err (reachE_arg hE (by unfold argE; simp only [Bool.or_eq_true, decide_eq_true_eq]; omega)) hS.below
     ·have hc45 := of_decide_eq_false hc; clear hc
      have hA : argE n most = false := by unfold argE; simp only [Bool.or_eq_false_iff, decide_eq_false_iff_not]; omega
      obtain ⟨nn, rfl⟩ : ∃ k : Nat, n = (k : Int) := ⟨n.toNat, by omega⟩
      obtain ⟨mo, rfl⟩ : ∃ k : Nat, most = (k : Int) := ⟨most.toNat, by omega⟩
      have hRE : reachE ⟨s, st, sy, ra, rl, rc, rs⟩ ⟨p, wa, wl, wc, ws⟩ (nn : Int) (mo : Int) = roundsF rs mo nn 0 [(p, ws)] := reachE_go hE hA
      refine skipF ?_
      refine XF.thenN ?_
      refine seqF (regF ?_)
      refine op_loadA (vs := [_, _, _, _, _, _]) Tryz.isAgg28 Tryz.sizeOf28 rfl (CellsAt.own (j := 0) (m := 6) (hS.at_ 1 rfl) rfl) rfl ?_
      refine op_call (vs := [_]) hS goes_12 rfl (mover_is _ _ _ _ _ _ _ _ (hprow.below hS.below) hplen hok1 ok.key) rfl ?_
      rintro e W4 ⟨bg, rfl, hbg, hg1, hb⟩
      refine ⟨_, rfl, hb, fun hS' => ?_⟩
      clear hS; have hS := hS'; clear hS'
      have HG : Held w [(W3.heap.size, W4)] (GrpT W3.heap.size rs bg) := Held.one (fun W2 hag => Grp.same hg1 (fun h1 => hag.2 bg hbg h1) (fun p h0 h1 => hag.2 p h0 h1))
      have hS := hS.keep [(W3.heap.size, W4)] (fun q hq => by simp at hq; subst hq; exact List.mem_cons_self)
      obtain ⟨lo1, hlo1⟩ : ∃ n, n = W3.heap.size := ⟨_, rfl⟩
      rw [← hlo1] at HG hS
      clear hb
      refine op_alloc (cs := [_, _]) hS Tryz.zeroValue54 rfl rfl ?_
      clear hS; intro B5 W5 hS
      refine op_storeA (i := 0) (vs := [_, _]) (cs' := [_, _]) (O' := [_, _, _]) hS Tryz.sizeOf54 rfl rfl rfl rfl rfl rfl rfl ?_
      clear hS; intro W6 hS
      refine endF (XF.thenN ?_)
      refine seqF ?_
      have hS7 := hS
      refine regY (al := []) (G := fun _ => []) (E := []) (k := 5) (ds := [12, 53, 54]) followsM rfl hS rfl rfl (by kernel_rfl) (by kernel_rfl) rfl (by decide) rfl ?_
      refine bly_cons 1 rfl (isV _) (syV fst_take [(5, _)] rfl rfl (fun _ => (w_free rfl)) (fun _ => ⟨g_fr (by kernel_rfl) rfl, trivial⟩) (fun s w hw => rn_field (o' := 0) fa_31_0 rfl rfl) (at_top rfl)) ?_
      refine bly_cons 2 rfl (isV _) (syV fst_take [(48, _)] rfl rfl (fun _ => (w_free rfl)) (fun _ => ⟨g_dep 0 (by kernel_rfl) (at_n rfl rfl (at_dep rfl rfl rfl)), trivial⟩) (fun s w hw => rn_load Tryz.isAgg3 rfl ((cell_own (hw.at_ 1 rfl) rfl))) (at_top rfl)) ?_
      refine bly_cons 3 rfl (isV _) (syV fst_take [(5, _)] rfl rfl (fun _ => (w_free rfl)) (fun _ => ⟨g_fr (by kernel_rfl) rfl, trivial⟩) (fun s w hw => rn_field (o' := 1) fa_31_1 rfl rfl) (at_top rfl)) ?_
      refine bly_cons 4 rfl (isV _) (syV fst_take [(50, _)] rfl rfl (fun _ => (w_free rfl)) (fun _ => ⟨g_dep 2 (by kernel_rfl) (at_n rfl rfl (at_dep rfl rfl rfl)), trivial⟩) (fun s w hw => rn_load Tryz.isAgg29 rfl ((cell_own (hw.at_ 1 rfl) rfl))) (at_top rfl)) ?_
      refine bly_cons 5 rfl (isClN W6.heap.size ws) (sy_call fst_take (fun s => [isV _]) rfl rfl goes_13 (fun _ => w_free rfl) (fun s => ⟨p_tmp (g_dep 3 (by kernel_rfl) (at_n rfl rfl (at_dep rfl rfl rfl))), trivial⟩) (fun vs s w' hk hw hlo hh => by have e := holds_isV (us := [_]) hh; subst e; exact cl_gN hlo hlen (clone_ints (c := wc) (hrow.below hw.below) hlen (by omega))) (at_top rfl)) ?_
      refine bly_nil ?_
      intro s7 W7 Ks7 hall7 hsz7 hKs7 hS' hcov7 hfx7 hno7
      clear hS; have hS := hS'.castO (O' := [_, _, _]) rfl; clear hS'
      refine castL (L' := [AwS _ _ (isV _), AwS _ _ (isV _), AwS _ _ (isV _), AwS _ _ (isV _), AwS _ _ (isClN W6.heap.size ws)]) rfl ?_
      refine fin_sV ?_
      refine fin_sV ?_
      refine fin_sV ?_
      refine fin_sV ?_
      refine fin_p ?_; rintro v7 h7; have hcovC := @hcov7; obtain ⟨a7, c7, rfl, _⟩ := h7.here
      refine fin_nil ?_
      refine op_build (us := [(0, .int .i64 _), (1, .slice _ _ _)]) rfl (bld_31_0_1 _ _ _ _) rfl ?_
      refine op_buildSlice (us := [(0, .agg (List.toArray [_, _]))]) hS Tryz.underlying33 Tryz.sizeOf31 Tryz.zeroValue31 rfl rfl rfl (bs_33_1 _ _) rfl ?_
      clear hS; intro B8 W8 hS
      refine op_assign rfl rfl ?_
      refine endF (XF.thenN ?_)
      refine seqF ?_
      have hB8 := hS.at_ 0 rfl
      obtain ⟨a2, c2, e2, hN8⟩ := h7 _ (hcovC hS (fun q hq => by simp [hq]))
      injection e2 with e2 _ e3
      subst e2; subst e3
      have hS := hS.ownG9 (n := 1) (size := 2) rfl (by simp only [maxLen]; omega)
      obtain ⟨Kk, hS9, hcl7, hsub7, hkle7⟩ := after7 hS7 hS hN8 (fun k hk => ⟨_, by cases hk; exact hB8⟩)
      clear hS; have hS := hS9; clear hS9
      refine regF ?_
      have hsz8 := hS.below.size
      refine op_makeMap hS rfl ?_
      clear hS; intro bm W70 hb70 hbl70 hS
      refine op_loadA (vs := [_, _]) Tryz.isAgg31 Tryz.sizeOf31 rfl (CellsAt.own (j := 0) (m := 2) (hS.at_ 1 rfl) rfl) rfl ?_
      refine op_call (vs := [_]) hS goes_14 rfl (keyOf_c p wa wl wc ws _ (hrow.below hS.below) hlen (by omega)) rfl ?_
      rintro e W9 ⟨rfl, hb⟩
      refine ⟨_, rfl, hb, fun hS' => ?_⟩
      clear hS; have hS := hS'; clear hS' hb
      have hm71 : W9.heap[bm]? = some (.map (List.toArray []) 0) := ((hS.since 1 rfl).2 bm hbl70 (lt_of_heap hb70)).trans hb70
      have hS := hS.keep Kk (fun q hq => by simp [hq])
      refine op_build (us := []) rfl (bld_60) rfl ?_
      have hkb : ∀ q ∈ Kk, bm < q.1 ∨ q.2.heap.size ≤ bm := fun q hq => .inr (Nat.le_trans (hkle7 q hq) hbl70)
      have hwb : w.heap.size ≤ bm := Nat.le_trans hsz8 hbl70
      have hk0 : KOk (p, ws) := conf_kok (c := ⟨p, wa, wl, wc, ws⟩) hE hlen.symm
      refine op_setInsert (m := 0) (ks := []) (k := (p, ws)) hS (Met.made hm71) hk0 (by simp only [maxLen]; omega) hwb hkb rfl rfl rfl ?_
      clear hS; intro W72 hS hM72
      obtain ⟨es72, ck72, hbk72⟩ := hM72.map
      have hS := hS.markMap hbk72
      have hF0 : RF w ⟨s, st, sy, ra, rl, rc, rs⟩ lo1 bg bm mo (fun _ => True) [⟨p, a7, ws.length, c7, ws⟩] Kk (cutW W72 bm) := ⟨by obtain ⟨_, _, h, _⟩ := argE_false hA; simp; omega, fun c hc => (by simp at hc; subst hc; exact ⟨stepE_len hE hlen, rfl⟩), hM72.held, fun h2 hk => ⟨HG h2 (fun q hq => hk q (hsub7 q hq)), fun c hc => (by simp at hc; subst hc; exact ⟨hcl7 h2 hk, rfl⟩), trivial⟩, hkb⟩
      refine op_move rfl rfl ?_
      refine op_assign rfl rfl ?_
      refine endF (XF.thenN ?_)
      refine seqF (regF ?_)
      refine op_assign rfl rfl ?_
      refine endF (XF.thenN ?_)
      refine seqF ?_
      refine seqF (regF ?_)
      refine op_move rfl rfl ?_
      refine op_move rfl rfl ?_
      refine endF (XF.thenN ?_)
      refine blockF ?_
      refine loopF (fun m l W => ∃ (k : Nat) (v : Value) (fr : Nat) (cs : List CV) (Kk : List (Nat × World)) (Mw : World), k ≤ nn ∧ m = nn - k ∧ l = [(2, .int .i64 (nn : Int)), (3, .int .i64 (mo : Int)), (4, .pointer (some ⟨B1, 0, none⟩)), (5, .pointer (some ⟨B2, 0, none⟩)), (11, .pointer (some ⟨B5, 0, none⟩)), (12, v), (13, .map (some bm)), (14, .int .i64 (fr : Int)), (60, .int .i64 (nn : Int)), (61, .int .i64 (k : Int))] ∧ roundsF rs mo (nn - k) fr (cs.map CV.pl) = roundsF rs mo nn 0 [(p, ws)] ∧ fr ≤ cs.length ∧ 0 < cs.length ∧ RF w ⟨s, st, sy, ra, rl, rc, rs⟩ lo1 bg bm mo (fun _ => True) cs Kk Mw ∧ St w [(B5, [.slice ra rl rc, .map (some bg)], 54), (B2, [.int .i64 p, .slice wa wl wc], 31), (B1, [.int .i64 s.f.tag, .int .i64 s.f.dim, .slice s.f.a s.f.len s.f.cap, .int .i64 st, .int .i64 sy, .slice ra rl rc], 28)] [⟨v, cs.length, cs.flatMap two9, 31, 2⟩] ((bm, Mw) :: Kk) W) (nn - 0) ([(2, _), (3, _), (4, _), (5, _), (11, _), (12, _), (13, _), (14, _), (60, _), (61, _)]) ⟨rfl, rfl, rfl, rfl, rfl, rfl, rfl, rfl, rfl, rfl, trivial⟩ (⟨0, _, 0, [⟨p, a7, ws.length, c7, ws⟩], Kk, _, Nat.zero_le _, rfl, rfl, rfl, Nat.zero_le _, Nat.one_pos, hF0, hS⟩) ?_
      clear hS
      rintro m l W ⟨k, v, fr, cs0, Kk, Mw, hk, rfl, rfl, hrun, hfr, hpos, hF, hS⟩
      refine seqF (regF ?_)
      refine op_lss rfl rfl rfl ?_
      refine endF (XF.thenN ?_)
      refine seqF ?_
      refine condF rfl (fun hc => ?_) (fun hc => ?_)
      ·have hc62 := of_decide_eq_true hc; clear hc
       have hkl : k < nn := by omega
       have hle0 := hF.len
       have hmo0 : mo ≤ 100000 := by obtain ⟨_, _, _, h⟩ := argE_false hA; omega
       rw [show nn - k = (nn - (k + 1)) + 1 by omega] at hrun
       simp only [roundsF, ← List.map_drop, List.length_map] at hrun
       have hrw9 : W.ownsRow w.heap.size 31 2 v cs0.length (cs0.flatMap two9) := hS.row 0 rfl
       obtain ⟨lb, lc, rfl, _⟩ := ownsRow_at hrw9 hpos
       have hlc : cs0.length ≤ lc := by
        obtain ⟨_, _, e, h⟩ := ownsRow_sl hrw9
        injection e with _ _ e
        subst e; exact h
       refine skipF ?_
       refine XF.thenN ?_
       refine seqF ?_
       refine blockF ?_
       refine seqF (regF ?_)
       refine op_move rfl rfl ?_
       refine op_move rfl rfl ?_
       refine op_sliceFrom  Tryz.underlying33 Tryz.sizeOf31 rfl rfl rfl (by omega) rfl ?_
       intro ad10 hadE10 hadN10
       obtain ⟨ad, had⟩ : ∃ a, a = ad10 := ⟨_, rfl⟩
       rw [← had] at hadE10 hadN10 ⊢
       have hadN := hadN10
       refine op_assign rfl rfl ?_
       refine endF (XF.thenN ?_)
       refine seqF (regF ?_)
       refine op_move rfl rfl ?_
       refine op_len Tryz.underlying33 rfl rfl ?_
       refine op_assign rfl rfl ?_
       refine endF (XF.thenN ?_)
       refine seqF ?_
       have hS := hS.nilG 31 2
       have hL : Lvl lb (cs0.flatMap two9) ⟨.slice (some ⟨lb, 0, none⟩) cs0.length lc, cs0.length, cs0.flatMap two9, 31, 2⟩ ⟨.slice none 0 0, 0, [], 31, 2⟩ := .inl ⟨lc, rfl, [], by simp⟩
       refine regF ?_
       refine op_move rfl rfl ?_
       refine op_len Tryz.underlying33 rfl rfl ?_
       refine op_move rfl rfl ?_
       refine endF (XF.thenN ?_)
       refine blockF ?_
       refine loopF (fun m l W => ∃ (i : Nat) (v : Value) (u : GR) (cs : List CV) (Kk : List (Nat × World)) (Mw : World), i ≤ cs0.length - fr ∧ m = (cs0.length - fr) - i ∧ l = [(2, .int .i64 (nn : Int)), (3, .int .i64 (mo : Int)), (4, .pointer (some ⟨B1, 0, none⟩)), (5, .pointer (some ⟨B2, 0, none⟩)), (11, .pointer (some ⟨B5, 0, none⟩)), (12, v), (13, .map (some bm)), (14, .int .i64 (cs0.length : Int)), (60, .int .i64 (nn : Int)), (61, .int .i64 (k : Int)), (68, .slice ad (cs0.length - fr) (lc - fr)), (69, .int .i64 ((cs0.length - fr : Nat) : Int)), (70, .int .i64 (i : Int))] ∧ bindE (visitL rs mo (((cs0.drop fr).drop i).map CV.pl) (cs.map CV.pl)) (roundsF rs mo (nn - (k + 1)) cs0.length) = roundsF rs mo nn 0 [(p, ws)] ∧ (∃ t, cs = cs0 ++ t) ∧ RF w ⟨s, st, sy, ra, rl, rc, rs⟩ lo1 bg bm mo (fun _ => True) cs Kk Mw ∧ Lvl lb (cs0.flatMap two9) ⟨v, cs.length, cs.flatMap two9, 31, 2⟩ u ∧ St w [(B5, [.slice ra rl rc, .map (some bg)], 54), (B2, [.int .i64 p, .slice wa wl wc], 31), (B1, [.int .i64 s.f.tag, .int .i64 s.f.dim, .slice s.f.a s.f.len s.f.cap, .int .i64 st, .int .i64 sy, .slice ra rl rc], 28)] [⟨v, cs.length, cs.flatMap two9, 31, 2⟩, u] ((bm, Mw) :: Kk) W) ((cs0.length - fr) - 0) ([(2, _), (3, _), (4, _), (5, _), (11, _), (12, _), (13, _), (14, _), (60, _), (61, _), (68, _), (69, _), (70, _)]) ⟨rfl, rfl, rfl, rfl, rfl, rfl, rfl, rfl, rfl, rfl, rfl, rfl, rfl, trivial⟩ (⟨0, _, _, cs0, Kk, _, Nat.zero_le _, rfl, rfl, hrun, ⟨[], by simp⟩, hF, hL, hS⟩) ?_
       clear hS
       rintro m l W ⟨i, v, u, cs, Kk, Mw, hi, rfl, rfl, hrun, hpre, hF, hL, hS⟩
       refine seqF (regF ?_)
       refine op_lss rfl rfl rfl ?_
       refine endF (XF.thenN ?_)
       refine seqF ?_
       refine condF rfl (fun hc => ?_) (fun hc => ?_)
       ·have hc71 := of_decide_eq_true hc; clear hc
        have hil : i < cs0.length - fr := by omega
        obtain ⟨cd, hcd⟩ : ∃ cd, cs0[fr + i]? = some cd := ⟨cs0[fr + i]'(by omega), by simp [show fr + i < cs0.length by omega]⟩
        have hcd2 : (cs0.drop fr)[i]? = some cd := by rw [List.getElem?_drop]; exact hcd
        rw [drop_at9 hcd2, List.map_cons] at hrun
        obtain ⟨t9, ht9⟩ := hpre
        have hcdm : cd ∈ cs := by rw [ht9]; exact List.mem_append_left _ (List.mem_of_getElem? hcd)
        obtain ⟨hcdo, hcdl⟩ := hF.ok cd hcdm
        have okd := stepOk hcdo
        have had2 : ad = some ⟨lb, 0 + fr * 2, none⟩ := by rw [hadN (by omega)]; simp [Addr.add_lit]
        subst had2
        have k1 : CellsAt W lb (0 + fr * 2 + i * 2) [.int .i64 cd.p, .slice cd.wa cd.wl cd.wc] := hL.cells hS (by rw [show 0 + fr * 2 + i * 2 = (fr + i) * 2 by omega]; exact flat2_at hcd)
        refine skipF ?_
        refine XF.thenN ?_
        refine seqF ?_
        refine blockF ?_
        refine seqF (regF ?_)
        refine op_indexA  Tryz.underlying33 Tryz.sizeOf31 rfl rfl rfl (by omega) rfl rfl ?_
        refine op_loadA (vs := [_, _]) Tryz.isAgg31 Tryz.sizeOf31 rfl (k1) rfl ?_
        refine op_alloc (cs := [_, _]) hS Tryz.zeroValue31 rfl rfl ?_
        clear hS; intro B11 W11 hS
        refine op_storeA (i := 0) (vs := [_, _]) (cs' := [_, _]) (O' := [_, _, _, _]) hS Tryz.sizeOf31 rfl rfl rfl rfl rfl rfl rfl ?_
        clear hS; intro W12 hS
        refine endF (XF.thenN ?_)
        refine seqF ?_
        rcases hN9 : nextF cd.p cd.ws rs 0 with _ | l9
        ·skip
         refine regF ?_
         refine op_loadA (vs := [_, _]) Tryz.isAgg54 Tryz.sizeOf54 rfl (CellsAt.own (j := 0) (m := 2) (hS.at_ 1 rfl) rfl) rfl ?_
         refine op_loadA (vs := [_, _]) Tryz.isAgg31 Tryz.sizeOf31 rfl (CellsAt.own (j := 0) (m := 2) (hS.at_ 0 rfl) rfl) rfl ?_
         refine op_call (vs := [_, _]) hS goes_15 rfl ((next_is ra rl rc rs lo1 bg cd.p cd.wa cd.wl cd.wc cd.ws _ (hprow.below hS.below) hplen (fun r hr => ⟨((hin r hr).below hS.below).row, (hin r hr).len, ok.w4 r hr⟩) hok1 (hF.now hS).1 ((hF.now hS).2.1 cd hcdm).1.row hcdl.symm (by rw [hcdl]; exact ((hF.now hS).2.1 cd hcdm).1.cap) okd.cw okd.p okd.ws).mono fun e w2 h => mv_no hN9 h) rfl ?_
         rintro e W13 ⟨rfl, hb⟩
         refine ⟨_, rfl, hb, fun hS' => ?_⟩
         clear hS; have hS := hS'; clear hS' hb
         refine op_move rfl rfl ?_
         refine op_extract rfl rfl rfl ?_
         refine op_extract rfl rfl rfl ?_
         refine op_extract rfl rfl rfl ?_
         refine op_assign rfl rfl ?_
         refine op_assign rfl rfl ?_
         refine op_assign rfl rfl ?_
         refine endF (XF.thenN ?_)
         refine seqF ?_
         refine seqF (regF ?_)
         refine op_move rfl rfl ?_
         refine op_not rfl rfl ?_
         refine endF (XF.thenN ?_)
         refine condF rfl (fun hc => ?_) (fun hc => absurd hc (by decide))
         skip
         refine seqF (regF ?_)
         refine op_assign rfl rfl ?_
         refine op_assign rfl rfl ?_
         refine endF (XF.thenN ?_)
         refine retF ?_
         refine XF.thenR ?_
         refine XF.blkR ?_
         refine XF.thenR ?_
         refine XF.thenR ?_
         refine XF.blkR ?_
         refine XF.blkR ?_
         refine XF.thenR ?_
         refine XF.thenR ?_
         refine XF.blkR ?_
         refine XF.thenR ?_
         refine XF.res (res2 Tryz.results5 rfl rfl) ?_
         rw [visit_no (d := cd.pl) hN9, bindE_err] at hrun
         exact reachRet_err (by rw [hRE, ← hrun]) hS.below
        ·skip
         refine regF ?_
         refine op_loadA (vs := [_, _]) Tryz.isAgg54 Tryz.sizeOf54 rfl (CellsAt.own (j := 0) (m := 2) (hS.at_ 1 rfl) rfl) rfl ?_
         refine op_loadA (vs := [_, _]) Tryz.isAgg31 Tryz.sizeOf31 rfl (CellsAt.own (j := 0) (m := 2) (hS.at_ 0 rfl) rfl) rfl ?_
         have hbmlt := (hF.metNow hS).lt9
         have hszN := hS.below.size
         have hmvN := (next_is ra rl rc rs lo1 bg cd.p cd.wa cd.wl cd.wc cd.ws _ (hprow.below hS.below) hplen (fun r hr => ⟨((hin r hr).below hS.below).row, (hin r hr).len, ok.w4 r hr⟩) hok1 (hF.now hS).1 ((hF.now hS).2.1 cd hcdm).1.row hcdl.symm (by rw [hcdl]; exact ((hF.now hS).2.1 cd hcdm).1.cap) okd.cw okd.p okd.ws).mono fun e w2 h => mv_yes hN9 h
         refine op_call (vs := [_, _]) hS goes_15 rfl (hmvN) rfl ?_
         rintro e W14 ⟨v8, ca, cc, xs, rfl, hX, hxl, hb⟩
         refine ⟨_, rfl, hb, fun hS' => ?_⟩
         clear hS; have hS := hS'; clear hS'
         clear hmvN hb
         have hxw : ∀ x ∈ xs, x.wl = x.ws.length := fun x hx => (hX.2 x hx).2
         have HX : Held w ((W12.heap.size, W14) :: Kk) (CfX w.heap.size ca cc xs) := Held.more (Kk := [(W12.heap.size, W14)]) (Held.one (p := CfX w.heap.size ca cc xs) (fun W2 hg => (hX.agree hg).mono hszN)) (fun q hq => by simp at hq; subst hq; exact List.mem_cons_self)
         have hF := hF.grow (Kl := (W12.heap.size, W14) :: Kk) (fun q hq => List.mem_cons_of_mem _ hq) HX (fun q hq => by
          rcases List.mem_cons.1 hq with rfl | hq
          ·exact .inl hbmlt
          ·exact hF.kb q hq)
         have hS := hS.keep ((bm, Mw) :: (W12.heap.size, W14) :: Kk) (fun q hq => by simp at hq; rcases hq with rfl | rfl | hq <;> simp [*])
         obtain ⟨Kk9, hKk9⟩ : ∃ K, K = (W12.heap.size, W14) :: Kk := ⟨_, rfl⟩
         rw [← hKk9] at hS hF
         clear HX hKk9
         refine op_move rfl rfl ?_
         refine op_extract rfl rfl rfl ?_
         refine op_extract rfl rfl rfl ?_
         refine op_extract rfl rfl rfl ?_
         refine op_assign rfl rfl ?_
         refine op_assign rfl rfl ?_
         refine op_assign rfl rfl ?_
         refine endF (XF.thenN ?_)
         refine seqF ?_
         refine seqF (regF ?_)
         refine op_move rfl rfl ?_
         refine op_not rfl rfl ?_
         refine endF (XF.thenN ?_)
         refine condF rfl (fun hc => absurd hc (by decide)) (fun hc => ?_)
         skip
         rw [visit_yes (d := cd.pl) hN9, bindE_assoc, ← hxl] at hrun
         have hxok : ∀ x ∈ xs, stepE ⟨s, st, sy, ra, rl, rc, rs⟩ x = 0 ∧ x.wl = x.ws.length := next_all hcdo hN9 (fun r hr => (hin r hr).len) hxl hxw
         refine skipF ?_
         refine XF.thenN ?_
         refine seqF (regF ?_)
         refine op_move rfl rfl ?_
         refine op_len Tryz.underlying33 rfl rfl ?_
         refine op_move rfl rfl ?_
         refine endF (XF.thenN ?_)
         refine blockF ?_
         refine loopF (fun m l W => ∃ (j : Nat) (v : Value) (u : GR) (cs : List CV) (Kk : List (Nat × World)) (Mw : World), j ≤ xs.length ∧ m = xs.length - j ∧ l = [(2, .int .i64 (nn : Int)), (3, .int .i64 (mo : Int)), (4, .pointer (some ⟨B1, 0, none⟩)), (5, .pointer (some ⟨B2, 0, none⟩)), (11, .pointer (some ⟨B5, 0, none⟩)), (12, v), (13, .map (some bm)), (14, .int .i64 (cs0.length : Int)), (60, .int .i64 (nn : Int)), (61, .int .i64 (k : Int)), (68, .slice (some ⟨lb, 0 + fr * 2, none⟩) (cs0.length - fr) (lc - fr)), (69, .int .i64 ((cs0.length - fr : Nat) : Int)), (70, .int .i64 (i : Int)), (83, .slice ca xs.length cc), (84, .int .i64 (xs.length : Int)), (85, .int .i64 (j : Int))] ∧ bindE (addAll mo ((xs.drop j).map CV.pl) (cs.map CV.pl)) (fun a => bindE (visitL rs mo (((cs0.drop fr).drop (i + 1)).map CV.pl) a) (roundsF rs mo (nn - (k + 1)) cs0.length)) = roundsF rs mo nn 0 [(p, ws)] ∧ (∃ t, cs = cs0 ++ t) ∧ RF w ⟨s, st, sy, ra, rl, rc, rs⟩ lo1 bg bm mo (CfX w.heap.size ca cc xs) cs Kk Mw ∧ Lvl lb (cs0.flatMap two9) ⟨v, cs.length, cs.flatMap two9, 31, 2⟩ u ∧ St w [(B5, [.slice ra rl rc, .map (some bg)], 54), (B2, [.int .i64 p, .slice wa wl wc], 31), (B1, [.int .i64 s.f.tag, .int .i64 s.f.dim, .slice s.f.a s.f.len s.f.cap, .int .i64 st, .int .i64 sy, .slice ra rl rc], 28)] [⟨v, cs.length, cs.flatMap two9, 31, 2⟩, u] ((bm, Mw) :: Kk) W) (xs.length - 0) ([(2, _), (3, _), (4, _), (5, _), (11, _), (12, _), (13, _), (14, _), (60, _), (61, _), (68, _), (69, _), (70, _), (83, _), (84, _), (85, _)]) ⟨rfl, rfl, rfl, rfl, rfl, rfl, rfl, rfl, rfl, rfl, rfl, rfl, rfl, rfl, rfl, rfl, trivial⟩ (⟨0, _, u, cs, Kk9, _, Nat.zero_le _, rfl, rfl, hrun, ⟨t9, ht9⟩, hF, hL, hS.tail⟩) ?_
         clear hS
         rintro m l W ⟨j, v, u, cs, Kk, Mw, hj, rfl, rfl, hrun, hpre, hF, hL, hS⟩
         refine seqF (regF ?_)
         refine op_lss rfl rfl rfl ?_
         refine endF (XF.thenN ?_)
         refine seqF ?_
         refine condF rfl (fun hc => ?_) (fun hc => ?_)
         ·have hc86 := of_decide_eq_true hc; clear hc
          have hjl : j < xs.length := by omega
          have hxlim : xs.length ≤ 9223372036854775807 := (hF.now hS).2.2.lim
          obtain ⟨cx, hcx⟩ : ∃ cx, xs[j]? = some cx := ⟨xs[j], by simp [hjl]⟩
          rw [drop_at9 hcx, List.map_cons] at hrun
          obtain ⟨cb, rfl, k1⟩ := (hF.now hS).2.2.at_ hcx
          have hcxm := List.mem_of_getElem? hcx
          obtain ⟨hxo, hxl9⟩ := hxok cx hcxm
          have hkx : KOk cx.pl := conf_kok hxo hxl9
          have okx := stepOk hxo
          have hrw9 : W.ownsRow w.heap.size 31 2 v cs.length (cs.flatMap two9) := hS.row 0 rfl
          obtain ⟨va, vc, rfl, _⟩ := ownsRow_sl hrw9
          refine skipF ?_
          refine XF.thenN ?_
          refine seqF ?_
          refine blockF ?_
          refine seqF (regF ?_)
          refine op_indexA  Tryz.underlying33 Tryz.sizeOf31 rfl rfl rfl (by omega) rfl rfl ?_
          refine op_loadA (vs := [_, _]) Tryz.isAgg31 Tryz.sizeOf31 rfl (k1) rfl ?_
          refine op_alloc (cs := [_, _]) hS Tryz.zeroValue31 rfl rfl ?_
          clear hS; intro B15 W15 hS
          refine op_storeA (i := 0) (vs := [_, _]) (cs' := [_, _]) (O' := [_, _, _, _]) hS Tryz.sizeOf31 rfl rfl rfl rfl rfl rfl rfl ?_
          clear hS; intro W16 hS
          refine endF (XF.thenN ?_)
          refine seqF (regF ?_)
          refine op_loadA (vs := [_, _]) Tryz.isAgg31 Tryz.sizeOf31 rfl (CellsAt.own (j := 0) (m := 2) (hS.at_ 0 rfl) rfl) rfl ?_
          refine op_call (vs := [_]) hS goes_14 rfl (keyOf_c cx.p cx.wa cx.wl cx.wc cx.ws _ ((hF.now hS).2.2.2 cx hcxm).1.row hxl9.symm (by have := okx.cw; omega)) rfl ?_
          rintro e W17 ⟨rfl, hb⟩
          refine ⟨_, rfl, hb, fun hS' => ?_⟩
          clear hS; have hS := hS'; clear hS' hb
          have hS := hS.keep ((bm, Mw) :: Kk) (fun q hq => List.mem_cons_of_mem _ hq)
          refine op_alloc (cs := [_, _]) hS Tryz.zeroValue58 rfl rfl ?_
          clear hS; intro B18 W18 hS
          refine op_storeA (i := 0) (vs := [_, _]) (cs' := [_, _]) (O' := [_, _, _, _, _]) hS Tryz.sizeOf58 rfl rfl rfl rfl rfl rfl rfl ?_
          clear hS; intro W19 hS
          refine endF (XF.thenN ?_)
          refine seqF ?_
          refine seqF (regF ?_)
          refine op_move rfl rfl ?_
          refine op_loadA (vs := [_, _]) Tryz.isAgg58 Tryz.sizeOf58 rfl (CellsAt.own (j := 0) (m := 2) (hS.at_ 0 rfl) rfl) rfl ?_
          refine op_setLook (k := cx.pl) (hF.metNow hS) hkx Tryz.zeroValue60 rfl rfl rfl ?_
          refine op_move rfl rfl ?_
          refine op_extract rfl rfl rfl ?_
          refine op_extract rfl rfl rfl ?_
          refine op_alloc (cs := []) hS Tryz.zeroValue60 rfl rfl ?_
          clear hS; intro B20 W20 hS
          refine op_storeA (i := 0) (vs := []) (cs' := []) (O' := [_, _, _, _, _, _]) hS Tryz.sizeOf60 rfl rfl rfl rfl rfl rfl rfl ?_
          clear hS; intro W21 hS
          refine op_assign rfl rfl ?_
          refine endF (XF.thenN ?_)
          refine seqF (regF ?_)
          refine op_move rfl rfl ?_
          refine endF (XF.thenN ?_)
          refine condF rfl (fun hc => ?_) (fun hc => ?_)
          ·have hc97 := hc; clear hc
           refine exitF ?_
           refine XF.thenX ?_
           refine XF.blkX ?_
           refine XF.thenN ?_
           refine regF ?_
           refine op_add rfl rfl (IntWalk.i64_in _ (by omega)) rfl ?_
           refine op_move rfl rfl ?_
           refine endF ?_
           exact XF.round (xs.length - (j + 1)) [(2, _), (3, _), (4, _), (5, _), (11, _), (12, _), (13, _), (14, _), (60, _), (61, _), (68, _), (69, _), (70, _), (83, _), (84, _), (85, _)] (by omega) ⟨rfl, rfl, rfl, rfl, rfl, rfl, rfl, rfl, rfl, rfl, rfl, rfl, rfl, rfl, rfl, rfl, trivial⟩ ⟨j + 1, _, _, cs, Kk, _, by omega, rfl, rfl, by rw [addAll_in (of_decide_eq_true hc97)] at hrun; exact hrun, hpre, hF, hL, hS.tail.tail.tail⟩
          ·have hc97 := hc; clear hc
           have hnot : ¬ cx.pl ∈ cs.map CV.pl := of_decide_eq_false hc97
           refine skipF ?_
           refine XF.thenN ?_
           refine seqF ?_
           refine seqF (regF ?_)
           refine op_move rfl rfl ?_
           refine op_len Tryz.underlying33 rfl rfl ?_
           refine op_move rfl rfl ?_
           refine op_eql rfl rfl rfl ?_
           refine endF (XF.thenN ?_)
           refine condF rfl (fun hc => ?_) (fun hc => ?_)
           ·have hc101 := of_decide_eq_true hc; clear hc
            refine seqF (regF ?_)
            refine op_assign rfl rfl ?_
            refine op_assign rfl rfl ?_
            refine endF (XF.thenN ?_)
            refine retF ?_
            refine XF.thenR ?_
            refine XF.blkR ?_
            refine XF.thenR ?_
            refine XF.thenR ?_
            refine XF.blkR ?_
            refine XF.blkR ?_
            refine XF.thenR ?_
            refine XF.thenR ?_
            refine XF.blkR ?_
            refine XF.blkR ?_
            refine XF.thenR ?_
            refine XF.thenR ?_
            refine XF.blkR ?_
            refine XF.thenR ?_
            refine XF.res (res2 Tryz.results5 rfl rfl) ?_
            rw [addAll_many hnot (by rw [List.length_map]; omega), bindE_err] at hrun
            exact reachRet_err (by rw [hRE, ← hrun]) hS.below
           ·have hc101 := of_decide_eq_false hc; clear hc
            rw [addAll_new hnot (by rw [List.length_map]; omega)] at hrun
            have hne9 : ¬ cs.length = mo := by omega
            have hle9 := hF.len
            have hmo9 : mo ≤ 100000 := by obtain ⟨_, _, _, h⟩ := argE_false hA; omega
            refine skipF ?_
            refine XF.thenN ?_
            refine seqF (regF ?_)
            refine op_move rfl rfl ?_
            refine op_loadA (vs := [_, _]) Tryz.isAgg58 Tryz.sizeOf58 rfl (CellsAt.own (j := 0) (m := 2) (hS.at_ 1 rfl) rfl) rfl ?_
            refine op_build (us := []) rfl (bld_60) rfl ?_
            have hMet := hF.metNow hS
            have hS := hS.keep Kk (fun q hq => List.mem_cons_of_mem _ hq)
            refine op_setPut (k := cx.pl) hS hMet hkx (by simp only [maxLen]; omega) hwb hF.kb rfl rfl rfl ?_
            clear hS; intro W88 hS hM88
            obtain ⟨es88, ck88, hbk88⟩ := hM88.map
            have hS := hS.markMap hbk88
            refine endF (XF.thenN ?_)
            refine regF ?_
            refine op_move rfl rfl ?_
            refine op_loadA (vs := [_, _]) Tryz.isAgg31 Tryz.sizeOf31 rfl (CellsAt.own (j := 0) (m := 2) (hS.at_ 2 rfl) rfl) rfl ?_
            refine op_buildSlice (us := [(0, .agg (List.toArray [_, _]))]) hS Tryz.underlying33 Tryz.sizeOf31 Tryz.zeroValue31 rfl rfl rfl (bs_33_1 _ _) rfl ?_
            clear hS; intro B22 W22 hS
            refine op_appendM (news := [_, _]) hS hL Tryz.underlying33 inf_31 rfl rfl (by show 0 < 2; decide) rfl rfl rfl rfl (CellsAt.own (j := 0) (m := 2) (hS.at_ 0 rfl) rfl) rfl rfl (by dsimp only; simp only [maxLen]; omega) (by dsimp only; show _ * 32 ≤ _; omega) rfl ?_
            clear hS hL; intro v90 W90 u90 hS hL
            refine op_assign rfl rfl ?_
            refine endF ?_
            refine XF.blkN ?_
            refine XF.thenN ?_
            refine regF ?_
            refine op_add rfl rfl (IntWalk.i64_in _ (by omega)) rfl ?_
            refine op_move rfl rfl ?_
            refine endF ?_
            exact XF.round (xs.length - (j + 1)) [(2, _), (3, _), (4, _), (5, _), (11, _), (12, _), (13, _), (14, _), (60, _), (61, _), (68, _), (69, _), (70, _), (83, _), (84, _), (85, _)] (by omega) ⟨rfl, rfl, rfl, rfl, rfl, rfl, rfl, rfl, rfl, rfl, rfl, rfl, rfl, rfl, rfl, rfl, trivial⟩ ⟨j + 1, v90, u90, cs ++ [cx], Kk, _, by omega, rfl, rfl, by rw [List.map_append]; exact hrun, by obtain ⟨t, rfl⟩ := hpre; exact ⟨t ++ [cx], by rw [List.append_assoc]⟩, hF.add hne9 ⟨hxo, hxl9⟩ hM88.held (fun W2 h => h.2 cx hcxm), (by rw [List.length_append, List.flatMap_append]; exact hL), hS.tail.tail.tail.tail.castG (by simp [two9])⟩
         ·have hc86 := of_decide_eq_false hc; clear hc
          rw [List.drop_of_length_le (by omega)] at hrun
          refine exitF ?_
          refine XF.thenX ?_
          refine XF.thenX ?_
          refine XF.blkX ?_
          refine XF.blkN ?_
          refine XF.thenN ?_
          refine regF ?_
          refine op_add rfl rfl (IntWalk.i64_in _ (by omega)) rfl ?_
          refine op_move rfl rfl ?_
          refine endF ?_
          exact XF.round ((cs0.length - fr) - (i + 1)) [(2, _), (3, _), (4, _), (5, _), (11, _), (12, _), (13, _), (14, _), (60, _), (61, _), (68, _), (69, _), (70, _)] (by omega) ⟨rfl, rfl, rfl, rfl, rfl, rfl, rfl, rfl, rfl, rfl, rfl, rfl, rfl, trivial⟩ ⟨i + 1, _, _, cs, Kk, _, by omega, rfl, rfl, hrun, hpre, hF.forget, hL, hS⟩
       ·have hc71 := of_decide_eq_false hc; clear hc
        rw [List.drop_of_length_le (by rw [List.length_drop]; omega)] at hrun
        refine exitF ?_
        refine XF.thenX ?_
        refine XF.thenX ?_
        refine XF.blkX ?_
        refine XF.blkN ?_
        refine XF.thenN ?_
        refine regF ?_
        refine op_add rfl rfl (IntWalk.i64_in _ (by omega)) rfl ?_
        refine op_move rfl rfl ?_
        refine endF ?_
        exact XF.round (nn - (k + 1)) [(2, _), (3, _), (4, _), (5, _), (11, _), (12, _), (13, _), (14, _), (60, _), (61, _)] (by omega) ⟨rfl, rfl, rfl, rfl, rfl, rfl, rfl, rfl, rfl, rfl, trivial⟩ ⟨k + 1, _, cs0.length, cs, Kk, _, by omega, rfl, rfl, hrun, (by obtain ⟨t, rfl⟩ := hpre; simp), (by obtain ⟨t, rfl⟩ := hpre; simp; omega), hF, hS.subG (List.Sublist.cons_cons _ (List.nil_sublist _))⟩
      ·have hc62 := of_decide_eq_false hc; clear hc
       rw [show nn - k = 0 by omega] at hrun
       refine exitF ?_
       refine XF.thenX ?_
       refine XF.thenX ?_
       refine XF.blkX ?_
       refine XF.thenN ?_
       refine seqF (regF ?_)
       refine op_move rfl rfl ?_
       refine op_assign rfl rfl ?_
       refine op_assign rfl rfl ?_
       refine endF (XF.thenN ?_)
       refine retF ?_
       refine XF.res (res2 Tryz.results5 rfl rfl) ?_
       exact reachRet_ok (by rw [hRE, ← hrun]; rfl) (hS.row 0 rfl) (hF.now hS).2.1 hS.below
end Go.Proofs.YtgjojhmninbkoaaGreatDoor
namespace Go.Proofs.YtgjojhmninbkoaaGreatDoor
open Go Go.RowKit
theorem goes_5 : goesIn Tryz.prog 5 = true := by kernel_rfl
theorem goes_19 : goesIn Tryz.prog 19 = true := by kernel_rfl
theorem stReachA {ds d : Nat} {p : PV} {c : CV} {n most : Int} {w : World} (hp : PvIn w ds d p) (hc : CIn w c) (hcc : c.wl ≤ c.wc) : Calls Tryz.prog 5 #[p.val, c.val, .int .i64 n, .int .i64 most] w (ReachRet (reachE p c n most) w) :=
 reachA_c ds d p.s p.st p.sy p.ra p.rl p.rc p.rs c.p c.wa c.wl c.wc c.ws n most w hp.s hp.row hp.len hp.rin hc.row hc.len hcc
theorem CfX.cv {lo : Nat} {ca : Option Addr} {cc : Nat} {xs : List CV} {W : World} (h : CfX lo ca cc xs W) : CvRow W ca xs := by
 cases xs with
 | nil => exact .inl rfl
 | cons x r =>
  obtain ⟨cb, e, _⟩ := h.at_ (i := 0) rfl
  subst e
  exact .inr ⟨cb, 0, rfl, fun i c hi => by
   obtain ⟨cb2, e, k⟩ := h.at_ hi
   cases e; exact k⟩
theorem CfX.cin {lo : Nat} {ca : Option Addr} {cc : Nat} {xs : List CV} {W : World} (h : CfX lo ca cc xs W) : ∀ c ∈ xs, CIn W c ∧ c.wl ≤ 9223372036854775807 := fun c hc => by
 obtain ⟨h1, h2⟩ := h.2 c hc
 refine ⟨⟨h1.row, h2.symm⟩, ?_⟩
 have := h1.lim
 rw [h2]
 simp only [maxLen] at this; omega
end Go.Proofs.YtgjojhmninbkoaaGreatDoor
namespace Go.Proofs.YtgjojhmninbkoaaGreatDoor
open Go Go.RowKit
structure RGo (w : World) (P : PV) (mo : Nat) (X : World → Prop) (cs : List CV) (Kk : List (Nat × World)) : Prop where
 len : cs.length ≤ mo
 ok : ∀ c ∈ cs, stepE P c = 0 ∧ c.wl = c.ws.length
 held : Held w Kk (fun W2 => (∀ c ∈ cs, CHeld w.heap.size W2 c) ∧ X W2)
section
variable {w : World} {P : PV} {mo : Nat} {X : World → Prop} {cs : List CV} {Kk : List (Nat × World)}
theorem RGo.now {W : World} {O : Own} {G : Grows} {K : List (Nat × World)} (h : RGo w P mo X cs Kk) (hS : St w O G K W) (hk : ∀ q ∈ Kk, q ∈ K) : (∀ c ∈ cs, CHeld w.heap.size W c) ∧ X W := h.held hS hk
theorem RGo.forget (h : RGo w P mo X cs Kk) : RGo w P mo (fun _ => True) cs Kk := by
 obtain ⟨h1, h2, h4⟩ := h
 exact ⟨h1, h2, fun h6 h7 => ⟨(h4 h6 h7).1, trivial⟩⟩
theorem RGo.grow {Y : World → Prop} {Kl : List (Nat × World)} (h : RGo w P mo X cs Kk) (hs : ∀ q ∈ Kk, q ∈ Kl) (hY : Held w Kl Y) : RGo w P mo Y cs Kl := by
 obtain ⟨h1, h3, h5⟩ := h
 exact ⟨h1, h3, fun h2 k2 => ⟨(h5 h2 (fun q hq => k2 q (hs q hq))).1, hY h2 k2⟩⟩
theorem RGo.add {x : CV} (h : RGo w P mo X cs Kk) (hl : ¬ mo ≤ cs.length) (hok : stepE P x = 0 ∧ x.wl = x.ws.length) (hX : ∀ W2, X W2 → CHeld w.heap.size W2 x) : RGo w P mo X (cs ++ [x]) Kk := by
 obtain ⟨hlen, h1, h4⟩ := h
 refine ⟨by rw [List.length_append]; show cs.length + 1 ≤ mo; omega, fun c hc => ?_, fun {O2 G2 K2 W2} h6 h7 => ⟨fun c hc => ?_, (h4 h6 h7).2⟩⟩
 ·rcases List.mem_append.1 hc with hc | hc
  ·exact h1 c hc
  ·simp at hc; subst hc; exact hok
 ·rcases List.mem_append.1 hc with hc | hc
  ·exact (h4 h6 h7).1 c hc
  ·simp at hc; subst hc; exact hX _ (h4 h6 h7).2
end
theorem row_cell9 {w : World} {base n b c i : Nat} {cs : List CV} {cd : CV} (h : w.ownsRow base 31 2 (.slice (some ⟨b, 0, none⟩) n c) n (cs.flatMap two9)) (hx : cs[i]? = some cd) : CellsAt w b (0 + i * 2) [.int .i64 cd.p, .slice cd.wa cd.wl cd.wc] := by
 rw [Nat.zero_add]
 have e5 := flat2_at hx
 refine CellsAt.of fun j v hj => ownsRow_blk h ?_
 rw [show ([.int .i64 cd.p, .slice cd.wa cd.wl cd.wc] : List Value) = two9 cd from rfl, ← e5, List.getElem?_take] at hj
 split at hj
 ·rw [List.getElem?_drop] at hj; exact hj
 ·cases hj
theorem cfsN_x {lo : Nat} {l : NxL} {v : Value} {W : World} (h : isCfsN lo l v W) : ∃ ca cc xs, v = .slice ca xs.length cc ∧ xs.map CV.pl = l.map (·.2) ∧ CfX lo ca cc xs W := by
 obtain ⟨xs, h3, h4, h5⟩ := h
 obtain ⟨a8, c8, rfl, _⟩ := ownsRow_sl h3
 exact ⟨a8, c8, xs, rfl, h4, h3, h5⟩
theorem sameX_agree {lo : Nat} {X : Nat → Prop} {w w' : World} (h : SameX lo X w w') (hx : ∀ b, lo ≤ b → ¬ X b) : Agree lo w w' := ⟨h.2.1, fun b h1 h2 => h.2.2 b h1 h2 (hx b h1)⟩
theorem xb_lt {w0 W : World} {O : Own} {G : Grows} {K : List (Nat × World)} {b : Nat} (h : St w0 O G K W) (hx : XB O G b) : b < W.heap.size := by
 rcases hx with ⟨p, hp, rfl⟩ | ⟨g, hg, hb⟩
 ·exact lt_of_heap (h.own p hp).2
 ·exact (h.glt hg hb).2
theorem any_pl {cs : List CV} {x : CV} : cs.any (fun c => decide (c.pl = x.pl)) = true ↔ x.pl ∈ cs.map CV.pl := by
 rw [List.any_eq_true, List.mem_map]
 exact ⟨fun ⟨c, h1, h2⟩ => ⟨c, h1, of_decide_eq_true h2⟩, fun ⟨c, h1, h2⟩ => ⟨c, h1, decide_eq_true h2⟩⟩
def reachX : Except Int (List PL) → NxL × Int
 | .error c => ([], c)
 | .ok a => (a.map (fun x => ((0 : Int), x)), 0)
theorem reach_uni {R : Except Int (List PL)} {w w' : World} {e : Ending} (h : ReachRet R w e w') : ∃ v, e = .returned (.tuple #[v, .int .i64 (reachX R).2]) ∧ isCfsN w.heap.size (reachX R).1 v w' ∧ Below w.heap.size w w' := by
 cases R with
 | error c => exact ⟨_, h.2, ⟨[], World.ownsRow_nil _ _ _ _, rfl, fun c hc => by cases hc⟩, h.1⟩
 | ok a =>
  obtain ⟨hb, v, he, hc⟩ := h
  exact ⟨v, he, hc, hb⟩
theorem reachR_c (ds d : Nat) (s : SV) (st sy : Int) (ra : Option Addr) (rl rc : Nat) (rs : List RV) (p : Int) (wa : Option Addr) (wl wc : Nat) (ws : List Int) (n most : Int) (w : World) (hs : SIn w ds s) (hprow : RRow w ra rs) (hplen : rs.length = rl) (hin : ∀ r ∈ rs, RIn w d r) (hrow : Row w wa ws) (hlen : ws.length = wl) (hcap : wl ≤ wc) :
  Calls Tryz.prog 6 #[.agg #[.int .i64 s.f.tag, .int .i64 s.f.dim, .slice s.f.a s.f.len s.f.cap, .int .i64 st, .int .i64 sy, .slice ra rl rc], .agg #[.int .i64 p, .slice wa wl wc], .int .i64 n, .int .i64 most] w (ReachRet (reachE ⟨s, st, sy, ra, rl, rc, rs⟩ ⟨p, wa, wl, wc, ws⟩ n most) w) := by
 refine enterF (args := [.agg #[.int .i64 s.f.tag, .int .i64 s.f.dim, .slice s.f.a s.f.len s.f.cap, .int .i64 st, .int .i64 sy, .slice ra rl rc], .agg #[.int .i64 p, .slice wa wl wc], .int .i64 n, .int .i64 most]) Tryz.func6 rfl Tryz.ntmps6 rfl ?_
 have hS := St.start w
 refine seqF (regF ?_)
 refine op_box (cs := [_, _, _, _, _, _]) hS rfl rfl rfl ?_
 clear hS; intro B1 W1 hS
 refine op_box (cs := [_, _]) hS rfl rfl rfl ?_
 clear hS; intro B2 W2 hS
 refine op_assign rfl rfl ?_
 refine op_assign rfl rfl ?_
 refine endF (XF.thenN ?_)
 refine seqF (regF ?_)
 refine op_loadA (vs := [_, _, _, _, _, _]) Tryz.isAgg28 Tryz.sizeOf28 rfl (CellsAt.own (j := 0) (m := 6) (hS.at_ 1 rfl) rfl) rfl ?_
 refine op_loadA (vs := [_, _]) Tryz.isAgg31 Tryz.sizeOf31 rfl (CellsAt.own (j := 0) (m := 2) (hS.at_ 0 rfl) rfl) rfl ?_
 refine op_call (vs := [_, _]) hS goes_16 rfl (stepR_is ds d ⟨s, st, sy, ra, rl, rc, rs⟩ ⟨p, wa, wl, wc, ws⟩ _ (PvIn.below ⟨hs, hprow, hplen, hin⟩ hS.below) (CIn.below ⟨hrow, hlen⟩ hS.below)) rfl ?_
 rintro e W3 ⟨rfl, hb⟩
 refine ⟨_, rfl, hb, fun hS' => ?_⟩
 clear hS; have hS := hS'; clear hS' hb
 refine op_assign rfl rfl ?_
 refine endF (XF.thenN ?_)
 refine seqF ?_
 refine seqF (regF ?_)
 refine op_move rfl rfl ?_
 refine op_neq rfl rfl rfl ?_
 refine endF (XF.thenN ?_)
 refine condF rfl (fun hc => ?_) (fun hc => ?_)
 ·have hc24 := of_decide_eq_true hc; clear hc
  refine seqF (regF ?_)
  refine op_move rfl rfl ?_
  refine op_assign rfl rfl ?_
  refine op_assign rfl rfl ?_
  refine endF (XF.thenN ?_)
  refine retF ?_
  refine XF.thenR ?_
  refine XF.res (res2 Tryz.results6 rfl rfl) ?_
  exact reachRet_err (reachE_bad hc24) hS.below
 ·have hc24 := of_decide_eq_false hc; clear hc
  have hE : stepE ⟨s, st, sy, ra, rl, rc, rs⟩ ⟨p, wa, wl, wc, ws⟩ = 0 := Decidable.of_not_not hc24
  have ok := stepOk hE
  have hok1 : rl ≤ 16384 := ok.rl
  have hok2 : wl ≤ 4096 := ok.cw
  refine skipF ?_
  refine XF.thenN ?_
  refine seqF ?_
  refine seqF (regF ?_)
  refine op_move rfl rfl ?_
  refine op_lss rfl rfl rfl ?_
  refine op_move rfl rfl ?_
  refine op_cases (d := 28) rfl (fun hc => ?_) (fun hc => ?_)
  ·have hg28 := of_decide_eq_true hc; clear hc
   refine op_notF (d := 28) rfl rfl rfl rfl ?_
   refine op_notF (d := 28) rfl rfl rfl rfl ?_
   refine op_pickT rfl rfl rfl ?_
   refine op_move rfl rfl ?_
   refine op_notF (d := 32) rfl rfl rfl rfl ?_
   refine op_notF (d := 32) rfl rfl rfl rfl ?_
   refine op_pickT rfl rfl rfl ?_
   refine op_move rfl rfl ?_
   refine op_notF (d := 36) rfl rfl rfl rfl ?_
   refine op_notF (d := 36) rfl rfl rfl rfl ?_
   refine op_pickT rfl rfl rfl ?_
   refine endF (XF.thenN ?_)
   refine condT rfl ?_
   refine seqF (regF ?_)
   refine op_assign rfl rfl ?_
   refine op_assign rfl rfl ?_
   refine endF (XF.thenN ?_)
   refine retF ?_
   refine XF.thenR ?_
   refine XF.res (res2 Tryz.results6 rfl rfl) ?_
   exact reachRet_err (reachE_arg hE (by unfold argE; simp only [Bool.or_eq_true, decide_eq_true_eq]; omega)) hS.below
  ·have hg28 := of_decide_eq_false hc; clear hc
   refine op_wantedF (d := 28) rfl rfl ?_
   refine op_move rfl rfl ?_
   refine op_wantedF (d := 28) rfl rfl ?_
   refine op_gtr rfl rfl rfl ?_
   refine op_pickF rfl rfl rfl ?_
   refine op_move rfl rfl ?_
   refine op_cases (d := 32) rfl (fun hc => ?_) (fun hc => ?_)
   ·have hg32 := of_decide_eq_true hc; clear hc
    refine op_notF (d := 32) rfl rfl rfl rfl ?_
    refine op_notF (d := 32) rfl rfl rfl rfl ?_
    refine op_pickT rfl rfl rfl ?_
    refine op_move rfl rfl ?_
    refine op_notF (d := 36) rfl rfl rfl rfl ?_
    refine op_notF (d := 36) rfl rfl rfl rfl ?_
    refine op_pickT rfl rfl rfl ?_
    refine endF (XF.thenN ?_)
    refine condT rfl ?_
    refine seqF (regF ?_)
    refine op_assign rfl rfl ?_
    refine op_assign rfl rfl ?_
    refine endF (XF.thenN ?_)
    refine retF ?_
    refine XF.thenR ?_
    refine XF.res (res2 Tryz.results6 rfl rfl) ?_
    exact reachRet_err (reachE_arg hE (by unfold argE; simp only [Bool.or_eq_true, decide_eq_true_eq]; omega)) hS.below
   ·have hg32 := of_decide_eq_false hc; clear hc
    refine op_wantedF (d := 32) rfl rfl ?_
    refine op_move rfl rfl ?_
    refine op_wantedF (d := 32) rfl rfl ?_
    refine op_lss rfl rfl rfl ?_
    refine op_pickF rfl rfl rfl ?_
    refine op_move rfl rfl ?_
    refine op_cases (d := 36) rfl (fun hc => ?_) (fun hc => ?_)
    ·have hg36 := of_decide_eq_true hc; clear hc
     refine op_notF (d := 36) rfl rfl rfl rfl ?_
     refine op_notF (d := 36) rfl rfl rfl rfl ?_
     refine op_pickT rfl rfl rfl ?_
     refine endF (XF.thenN ?_)
     refine condT rfl ?_
     refine seqF (regF ?_)
     refine op_assign rfl rfl ?_
     refine op_assign rfl rfl ?_
     refine endF (XF.thenN ?_)
     refine retF ?_
     refine XF.thenR ?_
     refine XF.res (res2 Tryz.results6 rfl rfl) ?_
     exact reachRet_err (reachE_arg hE (by unfold argE; simp only [Bool.or_eq_true, decide_eq_true_eq]; omega)) hS.below
    ·have hg36 := of_decide_eq_false hc; clear hc
     refine op_wantedF (d := 36) rfl rfl ?_
     refine op_move rfl rfl ?_
     refine op_wantedF (d := 36) rfl rfl ?_
     refine op_gtr rfl rfl rfl ?_
     refine op_pickF rfl rfl rfl ?_
     refine endF (XF.thenN ?_)
     refine condF rfl (fun hc => ?_) (fun hc => ?_)
     ·have hc39 := of_decide_eq_true hc; clear hc
      refine seqF (regF ?_)
      refine op_assign rfl rfl ?_
      refine op_assign rfl rfl ?_
      refine endF (XF.thenN ?_)
      refine retF ?_
      refine XF.thenR ?_
      refine XF.res (res2 Tryz.results6 rfl rfl) ?_
      exact reachRet_err (reachE_arg hE (by unfold argE; simp only [Bool.or_eq_true, decide_eq_true_eq]; omega)) hS.below
     ·have hc39 := of_decide_eq_false hc; clear hc
      have hA : argE n most = false := by unfold argE; simp only [Bool.or_eq_false_iff, decide_eq_false_iff_not]; omega
      obtain ⟨nn, rfl⟩ : ∃ k : Nat, n = (k : Int) := ⟨n.toNat, by omega⟩
      obtain ⟨mo, rfl⟩ : ∃ k : Nat, most = (k : Int) := ⟨most.toNat, by omega⟩
      have hmo0 : mo ≤ 100000 ∧ 1 ≤ mo := by obtain ⟨_, _, h1, h2⟩ := argE_false hA; omega
      have hRE : reachE ⟨s, st, sy, ra, rl, rc, rs⟩ ⟨p, wa, wl, wc, ws⟩ (nn : Int) (mo : Int) = roundsF rs mo nn 0 [(p, ws)] := reachE_go hE hA
      refine skipF ?_
      refine XF.thenN ?_
      refine seqF (regF ?_)
      refine op_field (o' := 0) fa_31_0 rfl rfl rfl ?_
      refine op_load Tryz.isAgg3 rfl (cell_own (hS.at_ 0 rfl) rfl) rfl ?_
      refine op_field (o' := 1) fa_31_1 rfl rfl rfl ?_
      refine op_load Tryz.isAgg29 rfl (cell_own (hS.at_ 0 rfl) rfl) rfl ?_
      have hsz5 := hS.below.size
      refine op_call (vs := [_, _, _]) hS goes_17 rfl ((behind_c p _ _ _ 0 _ _ ws [] _ (hrow.below hS.below) hlen (.inl rfl) rfl (by omega) (by omega)).mono fun e w2 h => (by rw [List.append_nil] at h; exact h)) rfl ?_
      rintro e W4 ⟨a7, c7, rfl, hn0, hb⟩
      refine ⟨_, rfl, hb, fun hS' => ?_⟩
      clear hS; have hS := hS'; clear hS'
      have hcl7 : Held w [(W3.heap.size, W4)] (fun W2 => RowN w.heap.size W2 a7 c7 ws) := Held.one (fun W2 hag => (hn0.agree hag).mono hsz5)
      have hS := hS.keep [(W3.heap.size, W4)] (fun q hq => by simp at hq; subst hq; exact List.mem_cons_self)
      obtain ⟨K7, hK7⟩ : ∃ K, K = [(W3.heap.size, W4)] := ⟨_, rfl⟩
      rw [← hK7] at hcl7 hS
      clear hb hK7
      refine op_buildSlice (us := [(0, .agg (List.toArray [_, _]))]) hS Tryz.underlying33 Tryz.sizeOf31 Tryz.zeroValue31 rfl rfl rfl (bs_33_1 _ _) rfl ?_
      clear hS; intro B5 W5 hS
      refine op_assign rfl rfl ?_
      refine endF (XF.thenN ?_)
      refine seqF ?_
      have hS := hS.ownG9 (n := 1) (size := 2) rfl (by simp only [maxLen]; omega)
      have hF0 : RGo w ⟨s, st, sy, ra, rl, rc, rs⟩ mo (fun _ => True) [⟨p, a7, ws.length, c7, ws⟩] K7 := ⟨by simp; omega, fun c hc => (by simp at hc; subst hc; exact ⟨stepE_len hE hlen, rfl⟩), fun h2 hk => ⟨fun c hc => (by simp at hc; subst hc; exact ⟨hcl7 h2 hk, rfl⟩), trivial⟩⟩
      refine regF ?_
      refine op_assign rfl rfl ?_
      refine endF (XF.thenN ?_)
      refine seqF ?_
      refine seqF (regF ?_)
      refine op_assign rfl rfl ?_
      refine endF (XF.thenN ?_)
      refine blockF ?_
      refine loopF (fun m l W => ∃ (k : Nat) (v : Value) (fr : Nat) (cs : List CV) (Kk : List (Nat × World)), k ≤ nn ∧ m = nn - k ∧ l = [(2, .int .i64 (nn : Int)), (3, .int .i64 (mo : Int)), (4, .pointer (some ⟨B1, 0, none⟩)), (5, .pointer (some ⟨B2, 0, none⟩)), (11, v), (13, .int .i64 (k : Int)), (12, .int .i64 (fr : Int))] ∧ roundsF rs mo (nn - k) fr (cs.map CV.pl) = roundsF rs mo nn 0 [(p, ws)] ∧ fr ≤ cs.length ∧ 0 < cs.length ∧ RGo w ⟨s, st, sy, ra, rl, rc, rs⟩ mo (fun _ => True) cs Kk ∧ St w [(B2, [.int .i64 p, .slice wa wl wc], 31), (B1, [.int .i64 s.f.tag, .int .i64 s.f.dim, .slice s.f.a s.f.len s.f.cap, .int .i64 st, .int .i64 sy, .slice ra rl rc], 28)] [⟨v, cs.length, cs.flatMap two9, 31, 2⟩] Kk W) (nn - 0) ([(2, _), (3, _), (4, _), (5, _), (11, _), (13, _), (12, _)]) ⟨rfl, rfl, rfl, rfl, rfl, rfl, rfl, trivial⟩ (⟨0, _, 0, [⟨p, a7, ws.length, c7, ws⟩], K7, Nat.zero_le _, rfl, rfl, rfl, Nat.zero_le _, Nat.one_pos, hF0, hS⟩) ?_
      clear hS
      rintro m l W ⟨k, v, fr, cs0, Kk, hk, rfl, rfl, hrun, hfr, hpos, hF, hS⟩
      refine seqF ?_
      refine seqF (regF ?_)
      refine op_move rfl rfl ?_
      refine op_move rfl rfl ?_
      refine op_lss rfl rfl rfl ?_
      refine endF (XF.thenN ?_)
      refine condF rfl (fun hc => ?_) (fun hc => ?_)
      ·have hc48 := of_decide_eq_true hc; clear hc
       have hkl : k < nn := by omega
       have hle0 := hF.len
       rw [show nn - k = (nn - (k + 1)) + 1 by omega] at hrun
       simp only [roundsF, ← List.map_drop, List.length_map] at hrun
       have hrw9 : W.ownsRow w.heap.size 31 2 v cs0.length (cs0.flatMap two9) := hS.row 0 rfl
       obtain ⟨lb, lc, rfl, _⟩ := ownsRow_at hrw9 hpos
       refine skipF ?_
       refine XF.thenN ?_
       refine seqF ?_
       refine blockF ?_
       refine seqF (regF ?_)
       refine op_move rfl rfl ?_
       refine op_len Tryz.underlying33 rfl rfl ?_
       refine op_assign rfl rfl ?_
       refine endF (XF.thenN ?_)
       refine seqF ?_
       refine seqF (regF ?_)
       refine op_move rfl rfl ?_
       refine op_assign rfl rfl ?_
       refine endF (XF.thenN ?_)
       refine blockF ?_
       refine loopF (fun m l W => ∃ (i : Nat) (v : Value) (cs : List CV) (Kk : List (Nat × World)), i ≤ cs0.length ∧ m = cs0.length - i ∧ l = [(2, .int .i64 (nn : Int)), (3, .int .i64 (mo : Int)), (4, .pointer (some ⟨B1, 0, none⟩)), (5, .pointer (some ⟨B2, 0, none⟩)), (11, v), (13, .int .i64 (k : Int)), (14, .int .i64 (cs0.length : Int)), (15, .int .i64 (i : Int))] ∧ bindE (visitL rs mo ((cs0.drop i).map CV.pl) (cs.map CV.pl)) (roundsF rs mo (nn - (k + 1)) cs0.length) = roundsF rs mo nn 0 [(p, ws)] ∧ (∃ t, cs = cs0 ++ t) ∧ RGo w ⟨s, st, sy, ra, rl, rc, rs⟩ mo (fun _ => True) cs Kk ∧ St w [(B2, [.int .i64 p, .slice wa wl wc], 31), (B1, [.int .i64 s.f.tag, .int .i64 s.f.dim, .slice s.f.a s.f.len s.f.cap, .int .i64 st, .int .i64 sy, .slice ra rl rc], 28)] [⟨v, cs.length, cs.flatMap two9, 31, 2⟩] Kk W) (cs0.length - fr) ([(2, _), (3, _), (4, _), (5, _), (11, _), (13, _), (14, _), (15, _)]) ⟨rfl, rfl, rfl, rfl, rfl, rfl, rfl, rfl, trivial⟩ (⟨fr, _, cs0, Kk, hfr, rfl, rfl, hrun, ⟨[], by simp⟩, hF, hS⟩) ?_
       clear hS
       rintro m l W ⟨i, v, cs, Kk, hi, rfl, rfl, hrun, hpre, hF, hS⟩
       refine seqF ?_
       refine seqF (regF ?_)
       refine op_move rfl rfl ?_
       refine op_move rfl rfl ?_
       refine op_lss rfl rfl rfl ?_
       refine endF (XF.thenN ?_)
       refine condF rfl (fun hc => ?_) (fun hc => ?_)
       ·have hc56 := of_decide_eq_true hc; clear hc
        have hil : i < cs0.length := by omega
        obtain ⟨cd, hcd⟩ : ∃ cd, cs0[i]? = some cd := ⟨cs0[i], by simp [hil]⟩
        rw [drop_at9 hcd, List.map_cons] at hrun
        obtain ⟨t9, ht9⟩ := hpre
        have hcd2 : cs[i]? = some cd := by rw [ht9, List.getElem?_append_left hil]; exact hcd
        have hcdm := List.mem_of_getElem? hcd2
        obtain ⟨hcdo, hcdl⟩ := hF.ok cd hcdm
        have hcsl : cs0.length ≤ cs.length := by rw [ht9]; simp
        have hrw9 : W.ownsRow w.heap.size 31 2 v cs.length (cs.flatMap two9) := hS.row 0 rfl
        obtain ⟨lb, lc, rfl, _⟩ := ownsRow_at hrw9 (by omega)
        refine skipF ?_
        refine XF.thenN ?_
        refine seqF ?_
        refine blockF ?_
        refine seqF ?_
        rcases hN9 : nextF cd.p cd.ws rs 0 with _ | l9
        ·skip
         have hS15 := hS
         have hszN := hS.below.size
         refine regY (al := []) (G := fun _ => [⟨.slice (some ⟨lb, 0, none⟩) cs.length lc, cs.length, cs.flatMap two9, 31, 2⟩]) (E := []) (k := 12) (ds := [18]) followsM rfl hS rfl rfl (by kernel_rfl) (by kernel_rfl) rfl (by decide) rfl ?_
         refine bly_cons 1 rfl (isV _) (syV fst_take [(4, _)] rfl rfl (fun _ => (w_free rfl)) (fun _ => ⟨g_fr (by kernel_rfl) rfl, trivial⟩) (fun s w hw => rn_loadA (vs := [_, _, _, _, _, _]) Tryz.isAgg28 Tryz.sizeOf28 rfl ((CellsAt.own (j := 0) (m := 6) (hw.at_ 1 rfl) rfl))) (at_top rfl)) ?_
         refine bly_cons 2 rfl (isV _) (syV fst_take [(11, _)] rfl rfl (fun _ => (w_free rfl)) (fun _ => ⟨g_fr (by kernel_rfl) rfl, trivial⟩) (fun s w hw => rn_move rfl) (at_top rfl)) ?_
         refine bly_cons 3 rfl (isV _) (syV fst_take [(15, _)] rfl rfl (fun _ => (w_free rfl)) (fun _ => ⟨g_fr (by kernel_rfl) rfl, trivial⟩) (fun s w hw => rn_move rfl) (at_top rfl)) ?_
         refine bly_cons 4 rfl (isV _) (syV fst_take [(61, _), (62, _)] rfl rfl (fun _ => (w_free rfl)) (fun _ => ⟨g_dep 1 (by kernel_rfl) (at_n rfl rfl (at_dep rfl rfl rfl)), g_dep 2 (by kernel_rfl) (at_n rfl rfl (at_dep rfl rfl rfl)), trivial⟩) (fun s w hw => rn_indexA  Tryz.underlying33 Tryz.sizeOf31 rfl rfl rfl (by omega) rfl) (at_top rfl)) ?_
         refine bly_cons 5 rfl (isV _) (syV fst_take [(63, _)] rfl rfl (fun _ => (w_free rfl)) (fun _ => ⟨g_dep 3 (by kernel_rfl) (at_n rfl rfl (at_dep rfl rfl rfl)), trivial⟩) (fun s w hw => rn_loadA (vs := [_, _]) Tryz.isAgg31 Tryz.sizeOf31 rfl (row_cell9 (hw.row 0 rfl) hcd2)) (at_top rfl)) ?_
         refine bly_cons 6 rfl (isNxA W.heap.size ([], 2)) (sy_call fst_take (fun s => [isV _, isV _]) rfl rfl goes_18 (fun _ => w_free rfl) (fun s => ⟨p_tmp (g_dep 0 (by kernel_rfl) (at_n rfl rfl (at_dep rfl rfl rfl))), p_tmp (g_dep 4 (by kernel_rfl) (at_n rfl rfl (at_dep rfl rfl rfl))), trivial⟩) (fun vs s0 w' hk hw hlo hh => by have e := holds_isV (us := [_, _]) hh; subst e; have hcdh := (hF.now hw (fun q hq => hq)).1 cd hcdm; exact nxU_gN hlo (nxE_none hcdo hN9) (stNextR (c := cd) (PvIn.below (p := ⟨s, st, sy, ra, rl, rc, rs⟩) ⟨hs, hprow, hplen, hin⟩ hw.below) ⟨hcdh.1.row, hcdl.symm⟩ (by rw [hcdl]; exact hcdh.1.cap))) (at_top rfl)) ?_
         refine bly_cons 7 rfl (isNxA W.heap.size ([], 2)) (syP (q := isNxA W.heap.size ([], 2)) 5 65 rfl rfl (by kernel_rfl) (at_dep rfl rfl rfl) syp_move9 (at_top rfl)) ?_
         refine bly_cons 8 rfl (isNumN W.heap.size (([], 2)).1) (syP (q := isNumN W.heap.size (([], 2)).1) 6 59 rfl rfl (by kernel_rfl) (at_dep rfl rfl rfl) (syp_ext9 isNx_0) (at_top rfl)) ?_
         refine bly_cons 9 rfl (isCfsN W.heap.size (([], 2)).1) (syP (q := isCfsN W.heap.size (([], 2)).1) 6 59 rfl rfl (by kernel_rfl) (at_dep rfl rfl rfl) (syp_ext9 isNx_1) (at_top rfl)) ?_
         refine bly_cons 10 rfl (isV (.int .i64 (([], 2)).2)) (syP (q := isV (.int .i64 (([], 2)).2)) 6 59 rfl rfl (by kernel_rfl) (at_dep rfl rfl rfl) (syp_ext9 isNx_2) (at_top rfl)) ?_
         refine bly_cons 11 rfl (isNumN W.heap.size (([], 2)).1) (syP (q := isNumN W.heap.size (([], 2)).1) 7 66 rfl rfl (by kernel_rfl) (at_dep rfl rfl rfl) syp_assign9 (at_top rfl)) ?_
         refine bly_cons 12 rfl (isCfsN W.heap.size (([], 2)).1) (syP (q := isCfsN W.heap.size (([], 2)).1) 8 67 rfl rfl (by kernel_rfl) (at_dep rfl rfl rfl) syp_assign9 (at_top rfl)) ?_
         refine bly_nil ?_
         intro s6 W6 Ks6 hall6 hsz6 hKs6 hS' hcov6 hfx6 hno6
         clear hS; have hS := hS'.castO (O' := [_, _]) rfl; clear hS'
         refine castL (L' := [AwS _ _ (isV _), AwS _ _ (isV _), AwS _ _ (isV _), AwS _ _ (isV _), AwS _ _ (isV _), AwS _ _ (isNxA W.heap.size ([], 2)), AwS _ _ (isNxA W.heap.size ([], 2)), AwS _ _ (isNumN W.heap.size (([], 2)).1), AwS _ _ (isCfsN W.heap.size (([], 2)).1), AwS _ _ (isV (.int .i64 (([], 2)).2)), AwS _ _ (isNumN W.heap.size (([], 2)).1), AwS _ _ (isCfsN W.heap.size (([], 2)).1)]) rfl ?_
         refine fin_sV ?_
         refine fin_sV ?_
         refine fin_sV ?_
         refine fin_sV ?_
         refine fin_sV ?_
         refine fin_p ?_; intro _ _
         refine fin_p ?_; intro _ _
         refine fin_p ?_; intro _ _
         refine fin_p ?_; intro _ _
         refine fin_sV ?_
         refine fin_p ?_; intro v11 _
         refine fin_p ?_; intro v12 _
         refine fin_nil ?_
         refine op_assign rfl rfl ?_
         refine endF (XF.thenN ?_)
         refine seqF ?_
         refine seqF (regF ?_)
         refine op_move rfl rfl ?_
         refine op_neq rfl rfl rfl ?_
         refine endF (XF.thenN ?_)
         refine condF rfl (fun hc => ?_) (fun hc => absurd (of_decide_eq_false hc) (by exact fun h => h (by decide)))
         have hc := of_decide_eq_true hc
         refine seqF (regF ?_)
         refine op_move rfl rfl ?_
         refine op_assign rfl rfl ?_
         refine op_assign rfl rfl ?_
         refine endF (XF.thenN ?_)
         refine retF ?_
         refine XF.thenR ?_
         refine XF.blkR ?_
         refine XF.thenR ?_
         refine XF.thenR ?_
         refine XF.blkR ?_
         refine XF.thenR ?_
         refine XF.blkR ?_
         refine XF.thenR ?_
         refine XF.thenR ?_
         refine XF.blkR ?_
         refine XF.thenR ?_
         refine XF.res (res2 Tryz.results6 rfl rfl) ?_
         rw [visit_no (d := cd.pl) hN9, bindE_err] at hrun
         exact reachRet_err (by rw [hRE, ← hrun]) hS.below
        ·skip
         have hS15 := hS
         have hszN := hS.below.size
         refine regY (al := []) (G := fun _ => [⟨.slice (some ⟨lb, 0, none⟩) cs.length lc, cs.length, cs.flatMap two9, 31, 2⟩]) (E := []) (k := 12) (ds := [18]) followsM rfl hS rfl rfl (by kernel_rfl) (by kernel_rfl) rfl (by decide) rfl ?_
         refine bly_cons 1 rfl (isV _) (syV fst_take [(4, _)] rfl rfl (fun _ => (w_free rfl)) (fun _ => ⟨g_fr (by kernel_rfl) rfl, trivial⟩) (fun s w hw => rn_loadA (vs := [_, _, _, _, _, _]) Tryz.isAgg28 Tryz.sizeOf28 rfl ((CellsAt.own (j := 0) (m := 6) (hw.at_ 1 rfl) rfl))) (at_top rfl)) ?_
         refine bly_cons 2 rfl (isV _) (syV fst_take [(11, _)] rfl rfl (fun _ => (w_free rfl)) (fun _ => ⟨g_fr (by kernel_rfl) rfl, trivial⟩) (fun s w hw => rn_move rfl) (at_top rfl)) ?_
         refine bly_cons 3 rfl (isV _) (syV fst_take [(15, _)] rfl rfl (fun _ => (w_free rfl)) (fun _ => ⟨g_fr (by kernel_rfl) rfl, trivial⟩) (fun s w hw => rn_move rfl) (at_top rfl)) ?_
         refine bly_cons 4 rfl (isV _) (syV fst_take [(61, _), (62, _)] rfl rfl (fun _ => (w_free rfl)) (fun _ => ⟨g_dep 1 (by kernel_rfl) (at_n rfl rfl (at_dep rfl rfl rfl)), g_dep 2 (by kernel_rfl) (at_n rfl rfl (at_dep rfl rfl rfl)), trivial⟩) (fun s w hw => rn_indexA  Tryz.underlying33 Tryz.sizeOf31 rfl rfl rfl (by omega) rfl) (at_top rfl)) ?_
         refine bly_cons 5 rfl (isV _) (syV fst_take [(63, _)] rfl rfl (fun _ => (w_free rfl)) (fun _ => ⟨g_dep 3 (by kernel_rfl) (at_n rfl rfl (at_dep rfl rfl rfl)), trivial⟩) (fun s w hw => rn_loadA (vs := [_, _]) Tryz.isAgg31 Tryz.sizeOf31 rfl (row_cell9 (hw.row 0 rfl) hcd2)) (at_top rfl)) ?_
         refine bly_cons 6 rfl (isNxA W.heap.size (l9, 0)) (sy_call fst_take (fun s => [isV _, isV _]) rfl rfl goes_18 (fun _ => w_free rfl) (fun s => ⟨p_tmp (g_dep 0 (by kernel_rfl) (at_n rfl rfl (at_dep rfl rfl rfl))), p_tmp (g_dep 4 (by kernel_rfl) (at_n rfl rfl (at_dep rfl rfl rfl))), trivial⟩) (fun vs s0 w' hk hw hlo hh => by have e := holds_isV (us := [_, _]) hh; subst e; have hcdh := (hF.now hw (fun q hq => hq)).1 cd hcdm; exact nxU_gN hlo (nxE_some hcdo hN9) (stNextR (c := cd) (PvIn.below (p := ⟨s, st, sy, ra, rl, rc, rs⟩) ⟨hs, hprow, hplen, hin⟩ hw.below) ⟨hcdh.1.row, hcdl.symm⟩ (by rw [hcdl]; exact hcdh.1.cap))) (at_top rfl)) ?_
         refine bly_cons 7 rfl (isNxA W.heap.size (l9, 0)) (syP (q := isNxA W.heap.size (l9, 0)) 5 65 rfl rfl (by kernel_rfl) (at_dep rfl rfl rfl) syp_move9 (at_top rfl)) ?_
         refine bly_cons 8 rfl (isNumN W.heap.size ((l9, 0)).1) (syP (q := isNumN W.heap.size ((l9, 0)).1) 6 59 rfl rfl (by kernel_rfl) (at_dep rfl rfl rfl) (syp_ext9 isNx_0) (at_top rfl)) ?_
         refine bly_cons 9 rfl (isCfsN W.heap.size ((l9, 0)).1) (syP (q := isCfsN W.heap.size ((l9, 0)).1) 6 59 rfl rfl (by kernel_rfl) (at_dep rfl rfl rfl) (syp_ext9 isNx_1) (at_top rfl)) ?_
         refine bly_cons 10 rfl (isV (.int .i64 ((l9, 0)).2)) (syP (q := isV (.int .i64 ((l9, 0)).2)) 6 59 rfl rfl (by kernel_rfl) (at_dep rfl rfl rfl) (syp_ext9 isNx_2) (at_top rfl)) ?_
         refine bly_cons 11 rfl (isNumN W.heap.size ((l9, 0)).1) (syP (q := isNumN W.heap.size ((l9, 0)).1) 7 66 rfl rfl (by kernel_rfl) (at_dep rfl rfl rfl) syp_assign9 (at_top rfl)) ?_
         refine bly_cons 12 rfl (isCfsN W.heap.size ((l9, 0)).1) (syP (q := isCfsN W.heap.size ((l9, 0)).1) 8 67 rfl rfl (by kernel_rfl) (at_dep rfl rfl rfl) syp_assign9 (at_top rfl)) ?_
         refine bly_nil ?_
         intro s7 W7 Ks7 hall7 hsz7 hKs7 hS' hcov7 hfx7 hno7
         clear hS; have hS := hS'.castO (O' := [_, _]) rfl; clear hS'
         refine castL (L' := [AwS _ _ (isV _), AwS _ _ (isV _), AwS _ _ (isV _), AwS _ _ (isV _), AwS _ _ (isV _), AwS _ _ (isNxA W.heap.size (l9, 0)), AwS _ _ (isNxA W.heap.size (l9, 0)), AwS _ _ (isNumN W.heap.size ((l9, 0)).1), AwS _ _ (isCfsN W.heap.size ((l9, 0)).1), AwS _ _ (isV (.int .i64 ((l9, 0)).2)), AwS _ _ (isNumN W.heap.size ((l9, 0)).1), AwS _ _ (isCfsN W.heap.size ((l9, 0)).1)]) rfl ?_
         refine fin_sV ?_
         refine fin_sV ?_
         refine fin_sV ?_
         refine fin_sV ?_
         refine fin_sV ?_
         refine fin_p ?_; intro _ _
         refine fin_p ?_; intro _ _
         refine fin_p ?_; intro _ _
         refine fin_p ?_; intro _ _
         refine fin_sV ?_
         refine fin_p ?_; intro v11 _
         refine fin_p ?_; rintro v12 h12
         have hcovN := @hcov7
         obtain ⟨ca, cc, xs, rfl, hxl, hX⟩ := cfsN_x h12.here
         have hxw : ∀ x ∈ xs, x.wl = x.ws.length := fun x hx => (hX.2 x hx).2
         have HX : Held w (Ks7 ++ Kk) (CfX w.heap.size ca cc xs) := fun h2 hk => (hX.agree (sameX_agree (hcovN h2 (fun q hq => hk q (List.mem_append_left _ hq))) (fun b h1 hx => by have h3 := xb_lt hS15 hx; omega))).mono hszN
         have hF := hF.grow (Kl := Ks7 ++ Kk) (fun q hq => List.mem_append_right _ hq) HX
         obtain ⟨Kk9, hKk9⟩ : ∃ K, K = Ks7 ++ Kk := ⟨_, rfl⟩
         rw [← hKk9] at hS hF
         clear HX hKk9
         refine fin_nil ?_
         refine op_assign rfl rfl ?_
         refine endF (XF.thenN ?_)
         refine seqF ?_
         refine seqF (regF ?_)
         refine op_move rfl rfl ?_
         refine op_neq rfl rfl rfl ?_
         refine endF (XF.thenN ?_)
         refine condF rfl (fun hc => absurd (of_decide_eq_true hc) (by exact fun h => h rfl)) (fun hc => ?_)
         have hc := of_decide_eq_false hc
         rw [visit_yes (d := cd.pl) hN9, bindE_assoc, ← hxl] at hrun
         have hxok : ∀ x ∈ xs, stepE ⟨s, st, sy, ra, rl, rc, rs⟩ x = 0 ∧ x.wl = x.ws.length := next_all hcdo hN9 (fun r hr => (hin r hr).len) hxl hxw
         refine skipF ?_
         refine XF.thenN ?_
         refine seqF (regF ?_)
         refine op_assign rfl rfl ?_
         refine endF (XF.thenN ?_)
         refine blockF ?_
         refine loopF (fun m l W => ∃ (j : Nat) (v : Value) (cs : List CV) (Kk : List (Nat × World)), j ≤ xs.length ∧ m = xs.length - j ∧ l = [(2, .int .i64 (nn : Int)), (3, .int .i64 (mo : Int)), (4, .pointer (some ⟨B1, 0, none⟩)), (5, .pointer (some ⟨B2, 0, none⟩)), (11, v), (13, .int .i64 (k : Int)), (14, .int .i64 (cs0.length : Int)), (15, .int .i64 (i : Int)), (17, .slice ca xs.length cc), (19, .int .i64 (j : Int))] ∧ bindE (addAll mo ((xs.drop j).map CV.pl) (cs.map CV.pl)) (fun a => bindE (visitL rs mo ((cs0.drop (i + 1)).map CV.pl) a) (roundsF rs mo (nn - (k + 1)) cs0.length)) = roundsF rs mo nn 0 [(p, ws)] ∧ (∃ t, cs = cs0 ++ t) ∧ RGo w ⟨s, st, sy, ra, rl, rc, rs⟩ mo (CfX w.heap.size ca cc xs) cs Kk ∧ St w [(B2, [.int .i64 p, .slice wa wl wc], 31), (B1, [.int .i64 s.f.tag, .int .i64 s.f.dim, .slice s.f.a s.f.len s.f.cap, .int .i64 st, .int .i64 sy, .slice ra rl rc], 28)] [⟨v, cs.length, cs.flatMap two9, 31, 2⟩] Kk W) (xs.length - 0) ([(2, _), (3, _), (4, _), (5, _), (11, _), (13, _), (14, _), (15, _), (17, _), (19, _)]) ⟨rfl, rfl, rfl, rfl, rfl, rfl, rfl, rfl, rfl, rfl, trivial⟩ (⟨0, _, cs, Kk9, Nat.zero_le _, rfl, rfl, hrun, ⟨t9, ht9⟩, hF, hS⟩) ?_
         clear hS
         rintro m l W ⟨j, v, cs, Kk, hj, rfl, rfl, hrun, hpre, hF, hS⟩
         refine seqF ?_
         refine seqF (regF ?_)
         refine op_move rfl rfl ?_
         refine op_move rfl rfl ?_
         refine op_len Tryz.underlying33 rfl rfl ?_
         refine op_lss rfl rfl rfl ?_
         refine endF (XF.thenN ?_)
         refine condF rfl (fun hc => ?_) (fun hc => ?_)
         ·have hc75 := of_decide_eq_true hc; clear hc
          have hjl : j < xs.length := by omega
          obtain ⟨cx, hcx⟩ : ∃ cx, xs[j]? = some cx := ⟨xs[j], by simp [hjl]⟩
          rw [drop_at9 hcx, List.map_cons] at hrun
          have hnow := hF.now hS (fun q hq => hq)
          obtain ⟨cb, rfl, k1⟩ := hnow.2.at_ hcx
          have hcxm := List.mem_of_getElem? hcx
          obtain ⟨hxo, hxl9⟩ := hxok cx hcxm
          have hcsl := hF.len
          have hxlim := hnow.2.lim
          have hrw9 : W.ownsRow w.heap.size 31 2 v cs.length (cs.flatMap two9) := hS.row 0 rfl
          obtain ⟨va, vc, rfl, _⟩ := ownsRow_sl hrw9
          have hcfa : CfX w.heap.size va vc cs W := ⟨hrw9, hnow.1⟩
          refine skipF ?_
          refine XF.thenN ?_
          refine seqF ?_
          refine blockF ?_
          refine seqF ?_
          refine seqF (regF ?_)
          refine op_move rfl rfl ?_
          refine op_move rfl rfl ?_
          refine op_move rfl rfl ?_
          refine op_indexA  Tryz.underlying33 Tryz.sizeOf31 rfl rfl rfl (by omega) rfl rfl ?_
          refine op_loadA (vs := [_, _]) Tryz.isAgg31 Tryz.sizeOf31 rfl (k1) rfl ?_
          refine op_call (vs := [_, _]) hS goes_19 rfl (in_c va _ vc cs cx _ hcfa.cv rfl hcfa.cin ⟨(hnow.2.2 cx hcxm).1.row, hxl9.symm⟩ (by omega)) rfl ?_
          rintro e W8 ⟨rfl, hb⟩
          refine ⟨_, rfl, hb, fun hS' => ?_⟩
          clear hS; have hS := hS'; clear hS' hb
          refine endF (XF.thenN ?_)
          refine condF rfl (fun hc => ?_) (fun hc => ?_)
          ·have hc83 := hc; clear hc
           refine exitF ?_
           refine XF.thenX ?_
           refine XF.blkX ?_
           refine XF.thenN ?_
           refine regF ?_
           refine op_move rfl rfl ?_
           refine op_add rfl rfl (IntWalk.i64_in _ (by omega)) rfl ?_
           refine op_assign rfl rfl ?_
           refine endF ?_
           exact XF.round (xs.length - (j + 1)) [(2, _), (3, _), (4, _), (5, _), (11, _), (13, _), (14, _), (15, _), (17, _), (19, _)] (by omega) ⟨rfl, rfl, rfl, rfl, rfl, rfl, rfl, rfl, rfl, rfl, trivial⟩ ⟨j + 1, _, cs, Kk, by omega, rfl, rfl, by rw [addAll_in (any_pl.1 hc83)] at hrun; exact hrun, hpre, hF, hS.keep Kk (fun q hq => by simp [hq])⟩
          ·have hc83 := hc; clear hc
           have hnot : ¬ cx.pl ∈ cs.map CV.pl := fun h => by rw [any_pl.2 h] at hc83; cases hc83
           refine skipF ?_
           refine XF.thenN ?_
           refine seqF ?_
           refine seqF (regF ?_)
           refine op_move rfl rfl ?_
           refine op_len Tryz.underlying33 rfl rfl ?_
           refine op_move rfl rfl ?_
           refine op_geq rfl rfl rfl ?_
           refine endF (XF.thenN ?_)
           refine condF rfl (fun hc => ?_) (fun hc => ?_)
           ·have hc87 := of_decide_eq_true hc; clear hc
            refine seqF (regF ?_)
            refine op_assign rfl rfl ?_
            refine op_assign rfl rfl ?_
            refine endF (XF.thenN ?_)
            refine retF ?_
            refine XF.thenR ?_
            refine XF.blkR ?_
            refine XF.thenR ?_
            refine XF.thenR ?_
            refine XF.blkR ?_
            refine XF.blkR ?_
            refine XF.thenR ?_
            refine XF.thenR ?_
            refine XF.blkR ?_
            refine XF.thenR ?_
            refine XF.blkR ?_
            refine XF.thenR ?_
            refine XF.thenR ?_
            refine XF.blkR ?_
            refine XF.thenR ?_
            refine XF.res (res2 Tryz.results6 rfl rfl) ?_
            rw [addAll_many hnot (by rw [List.length_map]; omega), bindE_err] at hrun
            exact reachRet_err (by rw [hRE, ← hrun]) hS.below
           ·have hc87 := of_decide_eq_false hc; clear hc
            rw [addAll_new hnot (by rw [List.length_map]; omega)] at hrun
            have hne9 : ¬ mo ≤ cs.length := by omega
            obtain ⟨cb2, ecb, k2⟩ := (hF.now hS (fun q hq => by simp [hq])).2.at_ hcx
            cases ecb
            refine skipF ?_
            refine XF.thenN ?_
            refine regF ?_
            refine op_move rfl rfl ?_
            refine op_move rfl rfl ?_
            refine op_move rfl rfl ?_
            refine op_indexA  Tryz.underlying33 Tryz.sizeOf31 rfl rfl rfl (by omega) rfl rfl ?_
            refine op_loadA (vs := [_, _]) Tryz.isAgg31 Tryz.sizeOf31 rfl (k2) rfl ?_
            refine op_buildSlice (us := [(0, .agg (List.toArray [_, _]))]) hS Tryz.underlying33 Tryz.sizeOf31 Tryz.zeroValue31 rfl rfl rfl (bs_33_1 _ _) rfl ?_
            clear hS; intro B9 W9 hS
            refine op_append (i := 0) (news := [_, _]) hS Tryz.underlying33 inf_31 rfl rfl (by show 0 < 2; decide) rfl rfl rfl rfl rfl (CellsAt.own (j := 0) (m := 2) (hS.at_ 0 rfl) rfl) rfl rfl (by dsimp only; simp only [maxLen]; omega) (by dsimp only; show _ * 32 ≤ _; omega) rfl ?_
            clear hS; intro v10 W10 hS
            refine op_assign rfl rfl ?_
            refine endF ?_
            refine XF.blkN ?_
            refine XF.thenN ?_
            refine regF ?_
            refine op_move rfl rfl ?_
            refine op_add rfl rfl (IntWalk.i64_in _ (by omega)) rfl ?_
            refine op_assign rfl rfl ?_
            refine endF ?_
            exact XF.round (xs.length - (j + 1)) [(2, _), (3, _), (4, _), (5, _), (11, _), (13, _), (14, _), (15, _), (17, _), (19, _)] (by omega) ⟨rfl, rfl, rfl, rfl, rfl, rfl, rfl, rfl, rfl, rfl, trivial⟩ ⟨j + 1, _, cs ++ [cx], Kk, by omega, rfl, rfl, by rw [List.map_append]; exact hrun, by obtain ⟨t, rfl⟩ := hpre; exact ⟨t ++ [cx], by rw [List.append_assoc]⟩, hF.add hne9 ⟨hxo, hxl9⟩ (fun W2 h => h.2 cx hcxm), (hS.tail.keep Kk (fun q hq => by simp [hq])).castG (by simp [two9])⟩
         ·have hc75 := of_decide_eq_false hc; clear hc
          rw [List.drop_of_length_le (by omega)] at hrun
          refine exitF ?_
          refine XF.thenX ?_
          refine XF.thenX ?_
          refine XF.blkX ?_
          refine XF.blkN ?_
          refine XF.thenN ?_
          refine regF ?_
          refine op_move rfl rfl ?_
          refine op_add rfl rfl (IntWalk.i64_in _ (by omega)) rfl ?_
          refine op_assign rfl rfl ?_
          refine endF ?_
          exact XF.round (cs0.length - (i + 1)) [(2, _), (3, _), (4, _), (5, _), (11, _), (13, _), (14, _), (15, _)] (by omega) ⟨rfl, rfl, rfl, rfl, rfl, rfl, rfl, rfl, trivial⟩ ⟨i + 1, _, cs, Kk, by omega, rfl, rfl, hrun, hpre, hF.forget, hS⟩
       ·have hc56 := of_decide_eq_false hc; clear hc
        rw [List.drop_of_length_le (by omega)] at hrun
        refine exitF ?_
        refine XF.thenX ?_
        refine XF.thenX ?_
        refine XF.blkX ?_
        refine XF.thenN ?_
        refine regF ?_
        refine op_move rfl rfl ?_
        refine op_assign rfl rfl ?_
        refine endF ?_
        refine XF.blkN ?_
        refine XF.thenN ?_
        refine regF ?_
        refine op_move rfl rfl ?_
        refine op_add rfl rfl (IntWalk.i64_in _ (by omega)) rfl ?_
        refine op_assign rfl rfl ?_
        refine endF ?_
        exact XF.round (nn - (k + 1)) [(2, _), (3, _), (4, _), (5, _), (11, _), (13, _), (12, _)] (by omega) ⟨rfl, rfl, rfl, rfl, rfl, rfl, rfl, trivial⟩ ⟨k + 1, _, cs0.length, cs, Kk, by omega, rfl, rfl, hrun, (by obtain ⟨t, rfl⟩ := hpre; simp), (by obtain ⟨t, rfl⟩ := hpre; simp; omega), hF, hS⟩
      ·have hc48 := of_decide_eq_false hc; clear hc
       rw [show nn - k = 0 by omega] at hrun
       refine exitF ?_
       refine XF.thenX ?_
       refine XF.thenX ?_
       refine XF.blkX ?_
       refine XF.thenN ?_
       refine seqF (regF ?_)
       refine op_move rfl rfl ?_
       refine op_assign rfl rfl ?_
       refine op_assign rfl rfl ?_
       refine endF (XF.thenN ?_)
       refine retF ?_
       refine XF.res (res2 Tryz.results6 rfl rfl) ?_
       exact reachRet_ok (by rw [hRE, ← hrun]; rfl) (hS.row 0 rfl) (hF.now hS (fun q hq => hq)).1 hS.below
theorem stReachR {ds d : Nat} {p : PV} {c : CV} {n most : Int} {w : World} (hp : PvIn w ds d p) (hc : CIn w c) (hcc : c.wl ≤ c.wc) : Calls Tryz.prog 6 #[p.val, c.val, .int .i64 n, .int .i64 most] w (ReachRet (reachE p c n most) w) :=
 reachR_c ds d p.s p.st p.sy p.ra p.rl p.rc p.rs c.p c.wa c.wl c.wc c.ws n most w hp.s hp.row hp.len hp.rin hc.row hc.len hcc
end Go.Proofs.YtgjojhmninbkoaaGreatDoor
namespace Go.Proofs.YtgjojhmninbkoaaGreatDoor
open Go Go.RowKit
theorem goes_6 : goesIn Tryz.prog 6 = true := by kernel_rfl
theorem stepsReaches_walk0 (ds d : Nat) (p : PV) (c : CV) (n most : Int) (w : World) (hp : PvIn w ds d p) (hcf : CIn w c) (hcc : c.wl ≤ c.wc) (ht : Tabs w) :
  Calls Tryz.prog 3 #[p.val, c.val, .int .i64 n, .int .i64 most] w (fun e w' => e = .returned (.bool (true)) ∧ Below w.heap.size w w') := by
 refine enterF (args := [p.val, c.val, .int .i64 n, .int .i64 most]) Tryz.func3 rfl Tryz.ntmps3 rfl ?_
 have hS := St.start w
 refine seqF (regF ?_)
 refine op_box (cs := [_, _, _, _, _, _]) hS rfl rfl rfl ?_
 clear hS; intro B1 W1 hS
 refine op_box (cs := [_, _]) hS rfl rfl rfl ?_
 clear hS; intro B2 W2 hS
 refine op_assign rfl rfl ?_
 refine endF (XF.thenN ?_)
 refine seqF ?_
 refine seqF (regF ?_)
 refine op_call (vs := []) hS goes_4 rfl (awakeS_is _ (ht.below hS.below)) rfl ?_
 rintro e W3 ⟨rfl, hb⟩
 refine ⟨_, rfl, hb, fun hS' => ?_⟩
 clear hS; have hS := hS'; clear hS' hb
 refine op_not rfl rfl ?_
 refine endF (XF.thenN ?_)
 refine condN rfl ?_
 refine skipF ?_
 refine XF.thenN ?_
 refine joinF (fun l W => ∃ n2 : Int, l = [(2, .int .i64 n2), (3, .int .i64 most), (4, .pointer (some ⟨B1, 0, none⟩)), (5, .pointer (some ⟨B2, 0, none⟩))] ∧ St w [(B2, [.int .i64 c.p, .slice c.wa c.wl c.wc], 31), (B1, p.six, 28)] [] [] W) ?_ ?_
 ·clear hS
  rintro _ W ⟨n2, rfl, hS⟩
  refine joinF (fun l W => ∃ m2 : Int, l = [(2, .int .i64 n2), (3, .int .i64 m2), (4, .pointer (some ⟨B1, 0, none⟩)), (5, .pointer (some ⟨B2, 0, none⟩))] ∧ St w [(B2, [.int .i64 c.p, .slice c.wa c.wl c.wc], 31), (B1, p.six, 28)] [] [] W) ?_ ?_
  ·clear hS
   rintro _ W ⟨m2, rfl, hS⟩
   refine seqF ?_
   refine seqF (regF ?_)
   refine op_field (o' := 5) fa_28_3 rfl rfl rfl ?_
   refine op_load Tryz.isAgg26 rfl (cell_own (hS.at_ 1 rfl) rfl) rfl ?_
   refine op_len Tryz.underlying26 rfl rfl ?_
   refine op_gtr rfl rfl rfl ?_
   refine op_move rfl rfl ?_
   refine op_cases (d := 31) rfl (fun hc => ?_) (fun hc => ?_)
   ·have hg31 := of_decide_eq_true hc; clear hc
    refine op_notF (d := 31) rfl rfl rfl rfl ?_
    refine op_notF (d := 31) rfl rfl rfl rfl ?_
    refine op_notF (d := 31) rfl rfl rfl rfl ?_
    refine op_notF (d := 31) rfl rfl rfl rfl ?_
    refine op_pickT rfl rfl rfl ?_
    refine endF (XF.thenN ?_)
    refine condT rfl ?_
    refine seqF (regF ?_)
    refine op_assign rfl rfl ?_
    refine endF (XF.thenN ?_)
    refine retF ?_
    refine XF.thenR ?_
    refine XF.res (res1 Tryz.results3 rfl) ?_
    exact ⟨rfl, hS.below⟩
   ·have hg31 := of_decide_eq_false hc; clear hc
    refine op_wantedF (d := 31) rfl rfl ?_
    refine op_field (o' := 1) fa_31_1 rfl rfl rfl ?_
    refine op_wantedF (d := 31) rfl rfl ?_
    refine op_load Tryz.isAgg29 rfl (cell_own (hS.at_ 0 rfl) rfl) rfl ?_
    refine op_wantedF (d := 31) rfl rfl ?_
    refine op_len Tryz.underlying29 rfl rfl ?_
    refine op_wantedF (d := 31) rfl rfl ?_
    refine op_gtr rfl rfl rfl ?_
    refine op_pickF rfl rfl rfl ?_
    refine endF (XF.thenN ?_)
    refine condF rfl (fun hc => ?_) (fun hc => ?_)
    ·have hc36 := of_decide_eq_true hc; clear hc
     refine seqF (regF ?_)
     refine op_assign rfl rfl ?_
     refine endF (XF.thenN ?_)
     refine retF ?_
     refine XF.thenR ?_
     refine XF.res (res1 Tryz.results3 rfl) ?_
     exact ⟨rfl, hS.below⟩
    ·have hc36 := of_decide_eq_false hc; clear hc
     refine skipF ?_
     refine XF.thenN ?_
     refine seqF (regF ?_)
     refine op_loadA (vs := [_, _, _, _, _, _]) Tryz.isAgg28 Tryz.sizeOf28 rfl (CellsAt.own (j := 0) (m := 6) (hS.at_ 1 rfl) rfl) rfl ?_
     refine op_loadA (vs := [_, _]) Tryz.isAgg31 Tryz.sizeOf31 rfl (CellsAt.own (j := 0) (m := 2) (hS.at_ 0 rfl) rfl) rfl ?_
     refine op_move rfl rfl ?_
     refine op_move rfl rfl ?_
     refine op_call (vs := [_, _, _, _]) hS goes_5 rfl ((stReachA (hp.below hS.below) (hcf.below hS.below) hcc).mono fun e w2 h => reach_uni h) rfl ?_
     rintro e W4 ⟨vA, rfl, hA1, hb⟩
     refine ⟨_, rfl, hb, fun hS' => ?_⟩
     clear hS; have hS := hS'; clear hS' hb
     refine op_move rfl rfl ?_
     refine op_extract rfl rfl rfl ?_
     refine op_extract rfl rfl rfl ?_
     refine op_assign rfl rfl ?_
     refine op_assign rfl rfl ?_
     refine endF (XF.thenN ?_)
     refine seqF (regF ?_)
     refine op_loadA (vs := [_, _, _, _, _, _]) Tryz.isAgg28 Tryz.sizeOf28 rfl (CellsAt.own (j := 0) (m := 6) (hS.at_ 1 rfl) rfl) rfl ?_
     refine op_loadA (vs := [_, _]) Tryz.isAgg31 Tryz.sizeOf31 rfl (CellsAt.own (j := 0) (m := 2) (hS.at_ 0 rfl) rfl) rfl ?_
     refine op_move rfl rfl ?_
     refine op_move rfl rfl ?_
     refine op_call (vs := [_, _, _, _]) hS goes_6 rfl ((stReachR (hp.below hS.below) (hcf.below hS.below) hcc).mono fun e w2 h => reach_uni h) rfl ?_
     rintro e W5 ⟨vB, rfl, hB1, hb⟩
     refine ⟨_, rfl, hb, fun hS' => ?_⟩
     clear hS; have hS := hS'; clear hS' hb
     refine op_move rfl rfl ?_
     refine op_extract rfl rfl rfl ?_
     refine op_extract rfl rfl rfl ?_
     refine op_assign rfl rfl ?_
     refine op_assign rfl rfl ?_
     refine endF (XF.thenN ?_)
     refine seqF ?_
     have hA2 := isCfsN_agree hA1 (hS.since 1 rfl)
     have hB2 := isCfsN_agree hB1 (hS.since 0 rfl)
     refine regF ?_
     refine op_move rfl rfl ?_
     refine op_move rfl rfl ?_
     refine op_call (vs := [_, _]) hS goes_7 rfl (sames_same hA2 hB2) rfl ?_
     rintro e W6 ⟨rfl, hb⟩
     refine ⟨_, rfl, hb, fun hS' => ?_⟩
     clear hS; have hS := hS'; clear hS' hb
     refine op_move rfl rfl ?_
     refine op_wantedF (d := 56) rfl rfl ?_
     refine op_move rfl rfl ?_
     refine op_wantedF (d := 56) rfl rfl ?_
     refine op_move rfl rfl ?_
     refine op_wantedF (d := 56) rfl rfl ?_
     refine op_eql rfl rfl rfl ?_
     refine op_pickT rfl rfl rfl ?_
     refine op_assign rfl rfl ?_
     refine endF (XF.thenN ?_)
     refine retF ?_
     refine XF.res (res1 Tryz.results3 rfl) ?_
     exact ⟨rbool (decide_eq_true rfl), hS.below⟩
  ·skip
   refine seqF (regF ?_)
   refine op_move rfl rfl ?_
   refine op_gtr rfl rfl rfl ?_
   refine op_move rfl rfl ?_
   refine op_cases (d := 23) rfl (fun hc => ?_) (fun hc => ?_)
   ·have hg23 := of_decide_eq_true hc; clear hc
    refine op_wantedF (d := 23) rfl rfl ?_
    refine op_move rfl rfl ?_
    refine op_wantedF (d := 23) rfl rfl ?_
    refine op_leq rfl rfl rfl ?_
    refine op_pickT rfl rfl rfl ?_
    refine endF (XF.thenN ?_)
    refine condF rfl (fun hc => ?_) (fun hc => ?_)
    ·have hc26 := of_decide_eq_true hc; clear hc
     refine regF ?_
     refine op_assign rfl rfl ?_
     refine endF ?_
     exact XF.join [(2, _), (3, _), (4, _), (5, _)] ⟨rfl, rfl, rfl, rfl, trivial⟩ ⟨_, rfl, hS.clear⟩
    ·have hc26 := of_decide_eq_false hc; clear hc
     refine skipF ?_
     exact XF.join [(2, _), (3, _), (4, _), (5, _)] ⟨rfl, rfl, rfl, rfl, trivial⟩ ⟨_, rfl, hS.clear⟩
   ·have hg23 := of_decide_eq_false hc; clear hc
    refine op_notF (d := 23) rfl rfl rfl rfl ?_
    refine op_notF (d := 23) rfl rfl rfl rfl ?_
    refine op_pickF rfl rfl rfl ?_
    refine endF (XF.thenN ?_)
    refine condN rfl ?_
    refine skipF ?_
    exact XF.join [(2, _), (3, _), (4, _), (5, _)] ⟨rfl, rfl, rfl, rfl, trivial⟩ ⟨_, rfl, hS.clear⟩
 ·skip
  refine seqF (regF ?_)
  refine op_move rfl rfl ?_
  refine op_gtr rfl rfl rfl ?_
  refine op_move rfl rfl ?_
  refine op_cases (d := 17) rfl (fun hc => ?_) (fun hc => ?_)
  ·have hg17 := of_decide_eq_true hc; clear hc
   refine op_wantedF (d := 17) rfl rfl ?_
   refine op_move rfl rfl ?_
   refine op_wantedF (d := 17) rfl rfl ?_
   refine op_leq rfl rfl rfl ?_
   refine op_pickT rfl rfl rfl ?_
   refine endF (XF.thenN ?_)
   refine condF rfl (fun hc => ?_) (fun hc => ?_)
   ·have hc20 := of_decide_eq_true hc; clear hc
    refine regF ?_
    refine op_assign rfl rfl ?_
    refine endF ?_
    exact XF.join [(2, _), (3, _), (4, _), (5, _)] ⟨rfl, rfl, rfl, rfl, trivial⟩ ⟨_, rfl, hS.clear⟩
   ·have hc20 := of_decide_eq_false hc; clear hc
    refine skipF ?_
    exact XF.join [(2, _), (3, _), (4, _), (5, _)] ⟨rfl, rfl, rfl, rfl, trivial⟩ ⟨_, rfl, hS.clear⟩
  ·have hg17 := of_decide_eq_false hc; clear hc
   refine op_notF (d := 17) rfl rfl rfl rfl ?_
   refine op_notF (d := 17) rfl rfl rfl rfl ?_
   refine op_pickF rfl rfl rfl ?_
   refine endF (XF.thenN ?_)
   refine condN rfl ?_
   refine skipF ?_
   exact XF.join [(2, _), (3, _), (4, _), (5, _)] ⟨rfl, rfl, rfl, rfl, trivial⟩ ⟨_, rfl, hS.clear⟩
theorem stepsReaches_walk (d : Nat) (p : PV) (c : CV) (n most : Int) (w : World) (hp : PvIn w d d p) (hc : CIn w c ∧ c.wl ≤ c.wc) (hn : (Lit.int .i64 n).wf = true) (hm : (Lit.int .i64 most).wf = true) (ht : Tabs w) : Calls Tryz.prog 3 #[p.val, c.val, .int .i64 n, .int .i64 most] w (fun e w' => e = .returned (.bool (true)) ∧ Below w.heap.size w w') := stepsReaches_walk0 d d p c n most w hp hc.1 hc.2 ht
end Go.Proofs.YtgjojhmninbkoaaGreatDoor
namespace Go.Proofs.YtgjojhmninbkoaaGreatDoor
open Go.RowKit Go.ChangeShapes Go.WideShapes Go.Deep Go.Joins
theorem ten_len {cs : List Value} (h : cs.length = 10) : ∃ a b c d e f g i j k, cs = [a, b, c, d, e, f, g, i, j, k] := by
 match cs, h with
 | [a, b, c, d, e, f, g, i, j, k], _ => exact ⟨a, b, c, d, e, f, g, i, j, k, rfl⟩
theorem cellsAt_of {w : World} {b : Nat} : ∀ (vs : List Value) (o : Nat), (∀ (j : Nat) u, vs[j]? = some u → w.cell? ⟨b, o + j, none⟩ = some u) → CellsAt w b o vs
 | [], _, _ => trivial
 | v :: vs, o, h => ⟨h 0 v rfl, cellsAt_of vs (o + 1) fun j u hj => by have := h (j + 1) u (by simpa using hj); rwa [show o + 1 + j = o + (j + 1) by omega]⟩
section
variable {H : Type} {enc : TypeId × Value → H} {w : World} {base : Nat} {spare : Nat → Bool} {held : Bool}
theorem ints_in {n : Nat} {v : Value} {x : DataW H × List MemPlace} (h : DataW.trod enc Tryz.prog w base spare held n 29 [v] = some x) :
  ∃ (a : Option Addr) (len cap : Nat) (zs : List Int), v = .slice a len cap ∧ Row w a zs ∧ zs.length = len ∧ len ≤ cap ∧ cap ≤ maxLen := by
 rcases open_ints (t := 29) (e := 3) (k := .i64) (by kernel_rfl) (by kernel_rfl) (by kernel_rfl) h with ⟨hcs, _⟩ | ⟨x, len, cap, zs, hcs, _, hl, hm, hz, _, hcell, hwz⟩
 ·have hcs' : v = .slice none 0 0 := by simpa using hcs
  subst hcs'
  exact ⟨none, 0, 0, [], rfl, .inl rfl, rfl, Nat.le_refl _, Nat.zero_le _⟩
 ·have hcs' : v = .slice (some x) len cap := by simpa using hcs
  subst hcs'
  have hzl : len ≤ zs.length := by rw [hz]; split <;> omega
  refine ⟨some x, len, cap, zs.take len, rfl, ?_, by simp; omega, hl, hm⟩
  rcases Nat.eq_zero_or_pos len with h0 | h0
  ·subst h0; exact .inl (by simp)
  ·obtain ⟨b, off, spot⟩ := x
   have hc0 := hcell 0 (by omega)
   have hspot : spot = none := by simpa [Addr.add] using World.cell?_spot hc0
   subst hspot
   refine .inr ⟨b, off, rfl, fun i hi => ?_⟩
   have hi1 : i < len := by simp at hi; omega
   have hi2 : i < zs.length := by omega
   have hc := hcell i hi2
   have e : ({ block := b, off := off } : Addr).add i = ⟨b, off + i, none⟩ := by simp [Addr.add]
   rw [e] at hc
   rw [hc]
   simp [List.getD, List.getElem?_take, hi1]
theorem rule_in {n : Nat} {cs : List Value} {x : DataW H × List MemPlace} (h : DataW.trod enc Tryz.prog w base spare held n 76 cs = some x) : ∃ r : RV, cs = r.ten ∧ RIn w n r := by
 obtain ⟨xs, n', hn, _, hl, hlen, hg⟩ := DataW.trod_struct Tryz.underlying76 h
 rw [show Tryz.prog.cellsOf 76 = 10 by kernel_rfl] at hl
 obtain ⟨a, b, c, d, e, f, g, i, j, k, rfl⟩ := ten_len hl
 have hlen5 : xs.length = 5 := hlen
 have g0 := hg 0 _ rfl
 have g1 := hg 1 _ rfl
 have g2 := hg 2 _ rfl
 have g3 := hg 3 _ rfl
 have g4 := hg 4 _ rfl
 rw [show Tryz.prog.cellsOf _ = 1 by kernel_rfl, List.getElem?_eq_getElem (by omega)] at g0 g1 g2 g3
 rw [show Tryz.prog.cellsOf _ = 6 by kernel_rfl, List.getElem?_eq_getElem (by omega)] at g4
 obtain ⟨z0, e0, _, w0⟩ := DataW.trod_int (k := .i64) (by kernel_rfl) g0
 obtain ⟨z1, e1, _, w1⟩ := DataW.trod_int (k := .i64) (by kernel_rfl) g1
 obtain ⟨z2, e2, _, w2⟩ := DataW.trod_int (k := .i64) (by kernel_rfl) g2
 simp at e0 e1 e2
 subst e0 e1 e2
 obtain ⟨ra, rl, rc, ws, rfl, hrow, hrl, _, _⟩ := ints_in (v := d) g3
 obtain ⟨s, e4, hs⟩ := weight_in n' g4
 have e4' : [e, f, g, i, j, k] = s.f.six := by simpa using e4
 simp only [List.cons.injEq, and_true] at e4'
 obtain ⟨rfl, rfl, rfl, rfl, rfl, rfl⟩ := e4'
 exact ⟨⟨z0, z1, z2, ra, rl, rc, ws, s⟩, rfl, hrow, hrl, hs.more (by omega)⟩
theorem pds_in {n : Nat} {cs : List Value} {x : DataW H × List MemPlace} (h : DataW.trod enc Tryz.prog w base spare held n 28 cs = some x) : ∃ p : PV, cs = p.six ∧ PvIn w n n p := by
 obtain ⟨xs, n', hn, _, hl, hlen, hg⟩ := DataW.trod_struct Tryz.underlying28 h
 rw [show Tryz.prog.cellsOf 28 = 6 by kernel_rfl] at hl
 obtain ⟨a, b, c, d, e, f, rfl⟩ := six_len hl
 have hlen4 : xs.length = 4 := hlen
 have g0 := hg 0 _ rfl
 have g1 := hg 1 _ rfl
 have g2 := hg 2 _ rfl
 have g3 := hg 3 _ rfl
 rw [show Tryz.prog.cellsOf _ = 3 by kernel_rfl, List.getElem?_eq_getElem (by omega)] at g0
 rw [show Tryz.prog.cellsOf _ = 1 by kernel_rfl, List.getElem?_eq_getElem (by omega)] at g1 g2 g3
 obtain ⟨s, es, hs⟩ := space_in n' g0
 have es' : [a, b, c] = [.int .i64 s.f.tag, .int .i64 s.f.dim, .slice s.f.a s.f.len s.f.cap] := by simpa using es
 simp only [List.cons.injEq, and_true] at es'
 obtain ⟨rfl, rfl, rfl⟩ := es'
 obtain ⟨z1, e1, _, w1⟩ := DataW.trod_int (k := .i64) (by kernel_rfl) g1
 obtain ⟨z2, e2, _, w2⟩ := DataW.trod_int (k := .i64) (by kernel_rfl) g2
 simp at e1 e2
 subst e1 e2
 rcases DataW.trod_slice Tryz.underlying26 g3 with ⟨hcs, _⟩ | ⟨ad, len, cap, elems, rest, n2, hn2, hcs, _, hb, hle, hcap, hel, hi, _, _⟩
 ·simp at hcs
  subst hcs
  exact ⟨⟨s, z1, z2, none, 0, 0, []⟩, rfl, hs.more (by omega), .inl rfl, rfl, fun r hr => by cases hr⟩
 ·simp at hcs
  subst hcs
  rw [show Tryz.prog.cellsOf 76 = 10 by kernel_rfl] at hi
  obtain ⟨rs, hrl, hrs⟩ := list_pick len (fun i (r : RV) => (∀ (j : Nat) u, r.ten[j]? = some u → w.cell? (ad.add (i * 10 + j)) = some u) ∧ RIn w n2 r) (fun i hil => by
   have hii := hi i hil
   rw [List.getElem?_eq_getElem (by omega)] at hii
   obtain ⟨cs', hc, ht⟩ := Option.bind_eq_some_iff.1 hii
   obtain ⟨_, hcl, hat⟩ := World.cells?_some hc
   obtain ⟨r, rfl, hr⟩ := rule_in ht
   refine ⟨r, fun j u hj => ?_, hr⟩
   have hj10 : j < 10 := (List.getElem?_eq_some_iff.1 hj).1
   have h0 := hat j (by omega)
   rw [Go.Deep.add_add] at h0
   rw [h0]; exact hj)
  refine ⟨⟨s, z1, z2, some ad, len, cap, rs⟩, rfl, hs.more (by omega), ?_, hrl, fun r hr => ?_⟩
  ·rcases Nat.eq_zero_or_pos len with h0 | h0
   ·exact .inl (List.length_eq_zero_iff.1 (by dsimp only; omega))
   ·obtain ⟨b, off, spot⟩ := ad
    have h1 := (hrs 0 (rs[0]'(by omega)) (List.getElem?_eq_getElem (by omega))).1 0 _ rfl
    have hspot : spot = none := by simpa [Addr.add] using World.cell?_spot h1
    subst hspot
    refine .inr ⟨b, off, rfl, fun i r hir => cellsAt_of _ _ fun j u hj => ?_⟩
    have h3 := (hrs i r hir).1 j u hj
    have e : ∀ k, ({ block := b, off := off } : Addr).add k = ⟨b, off + k, none⟩ := fun k => by simp [Addr.add]
    rw [e, ← Nat.add_assoc] at h3
    exact h3
  ·obtain ⟨i, hi', hic⟩ := List.mem_iff_getElem.1 hr
   have h4 := (hrs i r (by rw [← hic]; exact List.getElem?_eq_getElem hi')).2
   exact ⟨h4.row, h4.len, h4.x.more (by omega)⟩
theorem conf_in {n : Nat} {cs : List Value} {x : DataW H × List MemPlace} (h : DataW.trod enc Tryz.prog w base spare held n 31 cs = some x) : ∃ c : CV, cs = [.int .i64 c.p, .slice c.wa c.wl c.wc] ∧ CIn w c ∧ c.wl ≤ c.wc := by
 obtain ⟨xs, n', hn, _, hl, hlen, hg⟩ := DataW.trod_struct Tryz.underlying31 h
 rw [show Tryz.prog.cellsOf 31 = 2 by kernel_rfl] at hl
 obtain ⟨a, b, rfl⟩ := two_len hl
 have hlen2 : xs.length = 2 := hlen
 have g0 := hg 0 _ rfl
 have g1 := hg 1 _ rfl
 rw [show Tryz.prog.cellsOf _ = 1 by kernel_rfl, List.getElem?_eq_getElem (by omega)] at g0 g1
 obtain ⟨z0, e0, _, w0⟩ := DataW.trod_int (k := .i64) (by kernel_rfl) g0
 simp at e0
 subst e0
 obtain ⟨ra, rl, rc, ws, rfl, hrow, hrl, hcap, _⟩ := ints_in (v := b) g1
 exact ⟨⟨z0, ra, rl, rc, ws⟩, rfl, ⟨hrow, hrl⟩, hcap⟩
theorem pds_open {r : Reach} {b0 : Nat} {v : Value} {d : DataW H} {p : List MemPlace} (hv : Value.okWide Tryz.prog w r b0 28 v) (h : DataW.Trod enc Tryz.prog w base spare held 28 v d p) :
  ∃ (n : Nat) (s : PV), v = s.val ∧ PvIn w n n s := by
 obtain ⟨cs, rfl, _⟩ := okWide_struct Tryz.underlying28 hv
 obtain ⟨n, h⟩ := h
 obtain ⟨s, e, hs⟩ := pds_in (n := n) h
 have e' : cs.toList = _ := e
 exact ⟨n, s, by show Value.agg cs = Value.agg _; congr 1; exact Array.ext' e', hs⟩
theorem conf_open {r : Reach} {b0 : Nat} {v : Value} {d : DataW H} {p : List MemPlace} (hv : Value.okWide Tryz.prog w r b0 31 v) (h : DataW.Trod enc Tryz.prog w base spare held 31 v d p) :
  ∃ (s : CV), v = s.val ∧ CIn w s ∧ s.wl ≤ s.wc := by
 obtain ⟨cs, rfl, _⟩ := okWide_struct Tryz.underlying31 hv
 obtain ⟨n, h⟩ := h
 obtain ⟨s, e, hs⟩ := conf_in (n := n) h
 have e' : cs.toList = _ := e
 exact ⟨s, by show Value.agg cs = Value.agg _; congr 1; exact Array.ext' e', hs⟩
end
end Go.Proofs.YtgjojhmninbkoaaGreatDoor
