import Derived.Orders
import Derived.Below
import Derived.Deep.RegionHeld
import Derived.WalkKit
import Derived.KernelRfl
import Derived.Laws.Rows
import Derived.Laws.AppendOwn
import Derived.Laws.Strings
import Derived.Laws.Small
import Derived.Lib.Hide
import Derived.IntWalk
import Derived.Laws.Tables
import Derived.Laws.Concat
import Derived.Laws.MakeOwn
import Derived.Test.YtfkbkekgnoanaaaGreatDoorProg
import Derived.Test.YtfkbkekgnoanaaaGreatDoorRows
import Derived.Lib.LaidTab
import Derived.Lib.ItoaNum
import Derived.Lib.TrailingZeros
import Derived.Stop.LaidErr
import Derived.WalkSmall
import Derived.LaidMore
import Derived.Shelf.Spec.TrailingZeros
import Derived.Laws.BitsAllLaws
import Derived.Laws.Bits64
import Derived.Deep.QuietTactic
import Derived.BigQuiet
import Derived.RegionTactic
import Derived.BigRegion
import Derived.Deep.RegionHeld3
import Derived.ChangeAlike
import Derived.RangeFuncNested
import Derived.RangeFuncBound
import Derived.RangeFuncCalls
import Derived.RangeFuncLeaves
import Derived.Shelf.Abstract
import Derived.Shelf.RegionOpen
import Derived.OwnWalkIn
import Derived.TacticsInMore
import Derived.LoopNIn
import Derived.LoopIn
import Derived.Laws.Bits128
import Derived.Deep.AppendLies
import Derived.Shelf.Strconv.Itoa0
import Derived.Shelf.Strconv.Itoa1
import Derived.Shelf.LaysM
import Derived.Shelf.Strconv.Itoa2
import Derived.Shelf.Strconv.AppendUint10
import Derived.Shelf.Strconv.AppendInt10
import Derived.Shelf.Strconv.AppendIntPublic10
import Derived.Shelf.Slices.Reverse
import Derived.Ground.Names2Prog
import Derived.Shelf.Slices.Clone
import Derived.Shelf.Slices.Cells
import Derived.Ground.SlgnProg
import Derived.Shelf.SlicesE.Clone
import Derived.Sort.Grow
import Derived.Maps.AppendAt
import Derived.Lib.OthersKept
import Derived.Laws.IdiomStrings
import Derived.StillTailTactics
import Derived.Deep.RegionLaw
import Derived.Deep.DeepCutAuto
import Derived.Deep.CutRange
import Derived.Deep.RegionWith
import Derived.Laws.Bits64b
import Derived.Deep.DrawnRows
import Derived.Lib.SliceRun
import Derived.Laws.OwnMore
import Derived.OwnWalk
import Derived.WalkSpells
import Derived.Lib.Join
import Derived.Lib.OwnBridge
import Derived.WideKeyEntry
import Derived.DeepKeys4
import Derived.Lib.AppendZeros
import Derived.Lib.ItoaLen
import Derived.Lib.UnsafeStr
import Derived.Lib.AppendIntMem
import Derived.Deep.Slices
import Derived.Deep.Fields
import Derived.ChangeSame
import Derived.Lib.SmallJoins
import Derived.ChangeSlices
import Derived.ProofKit
import Derived.Test.YtfkbkekgnoanaaaGreatDoorNxA
import Derived.Test.YtfkbkekgnoanaaaGreatDoorNxB
import Derived.Test.YtfkbkekgnoanaaaGreatDoorNxC
import Derived.Test.YtfkbkekgnoanaaaGreatDoorNxD
import Derived.Test.YtfkbkekgnoanaaaGreatDoorNxE
set_option maxRecDepth 100000
set_option maxHeartbeats 4000000
set_option linter.unusedVariables false
set_option linter.unusedVariables false
set_option linter.unusedSimpArgs false
set_option linter.unusedSectionVars false
set_option linter.unnecessarySimpa false
namespace Go.Proofs.YtfkbkekgnoanaaaGreatDoor
open Go Go.RowKit
section
variable {P : Program} {ops opf : Array Oper} {Q : Exit → Act → World → Prop} {n : Nat} {l : Fr} {w0 W : World} {K : List (Nat × World)} {lo : Nat} {al : List AB} {Ob : Own} {G : Sy → Grows} {E : List Nat} {L : List Asr} {i : Nat}
variable {d : Nat} {op : Op} {ty : TypeId} {pos : String} {aft_ : Array Edge} {v : Value} {gd : Option (Nat × Bool)}
theorem sy_rowV {T e : TypeId} {m sz : Nat} {xs : List (Nat × Operand)} {us : List Value} {z : Value} {cs : List Value} (hf0 : Fst ops opf) (hie : E.contains i = false) (hi : ops[i]? = some ⟨some d, .buildSlice T m xs.toArray, ty, pos, aft_, gd⟩) (hw : ∀ s, Wants ops (LS E s 0 L) i ⟨some d, .buildSlice T m xs.toArray, ty, pos, aft_, gd⟩)
  (hU : P.underlying T = some (.slice e)) (hs : ∀ w, (sizeOf e).run P w = .ok sz w) (hz : ∀ w, (zeroValue e).run P w = .ok z w) (hm : Nat.ble (m * sz) 16777216 = true) (hm0 : Nat.beq (m * sz) 0 = false) (hp : ∀ s, AllP n opf l (LS E s 0 L) i (xs.map (·.2)) (us.map isV))
  (hf : Instr.fill (fun i => some (i * sz, sz)) ((Array.range (m * sz)).map (z.cells[· % z.cells.size]!)) ((xs.map (·.1)).zip us) = some cs.toArray) (hI : atI L i = isRow lo m e cs) : SY P n ops opf Q l w0 K lo al Ob G E L i :=
 sy_base hie hi fun t0 a s w h0 hF hG hk hD hD' => by
  have hv := holds_isV (allP_holds h0 hF (fun j d h => hD' j d (hf0.waits h)) (hp s))
  have h4 : m * sz ≤ 16777216 := Nat.le_of_ble_eq_true hm
  have h5 : m * sz ≠ 0 := fun e => by rw [e] at hm0; cases hm0
  have h6 : ¬ (m * sz > 2 ^ 24) := by omega
  have h7 : xs.map (fun p => (p.1, a.eval p.2)) = (xs.map (·.1)).zip us := by
   rw [← hv]
   clear hi hw hp hv hf
   induction xs with
   | nil => rfl
   | cons x xs ih => simp only [List.map_cons, List.zip_cons_cons, ← ih]
  have hB : Below w.heap.size w (w.alloc (.cells cs.toArray e)) := (Below.refl _ _).alloc (Nat.le_refl _) _
  refine wp_val hi ((hw s).yes hD') (v := .slice (some ⟨w.heap.size, 0, none⟩) m m) (w' := w.alloc (.cells cs.toArray e)) ?_ ⟨_, rfl, ?_, hB⟩
  ·unfold execOp
   simp only []
   rw [show (Array.map (fun p => (p.1, a.eval p.2)) xs.toArray) = (xs.map (fun p => (p.1, a.eval p.2))).toArray by simp, h7]
   simp only [Instr.buildSlice, Sem.run_bind, run_underlying hU, Result.andThen_ok, hs, if_neg h6, if_neg h5, hz, Sem.run_pure, hf, newRow, run_newObj_alloc]
  ·rw [hI]
   intro w2 h2
   have hnew := heap_alloc_new w (.cells cs.toArray e)
   refine ⟨w.heap.size, rfl, hG.2, (h2.2.2 _ hG.2 (lt_of_heap hnew) (fun hx => ?_)).trans hnew⟩
   rcases hx with ⟨q, hq, e1⟩ | ⟨g, hg, hgb⟩
   ·have := lt_of_heap (hG.1.own q hq).2; omega
   ·have := (hG.1.glt hg hgb).2; omega
theorem rn_sliceToG {T e : TypeId} {x y : Operand} {kk : IntKind} {a : Option Addr} {m c k s : Nat} {j : Int} {aft : Array Edge} (hU : P.underlying T = some (.slice e)) (hs : ∀ w, (sizeOf e).run P w = .ok s w) (hx : evL l x = some (.slice a m c)) (hy : evL l y = some (.int kk j)) (hj : j = (k : Int)) (hk : k ≤ c) :
  Runs P l ⟨some d, .slice T x none (some y) none, ty, pos, aft, none⟩ W (.slice (if c = 0 then a else a.map (·.add (0 * s))) k c) W := fun ev he => by
 subst hj
 have h1 : (0 : Int) ≤ (k : Int) := by omega
 have h2 : (k : Int) ≤ (c : Int) := by omega
 unfold execOp; simp only [Option.map_some, Option.map_none]; rw [he x _ hx, he y _ hy]
 simp [Instr.sliceAt, Instr.slice, Instr.sliceBounds, Instr.sliceBound, run_underlying hU, asIntOf, hk, hs]
end
end Go.Proofs.YtfkbkekgnoanaaaGreatDoor
namespace Go.Proofs.YtfkbkekgnoanaaaGreatDoor
open Go Go.RowKit
theorem goes_21 : goesIn Tryz.prog 21 = true := by kernel_rfl
theorem goes_22 : goesIn Tryz.prog 22 = true := by kernel_rfl
theorem ite9 {c x : Int} {p : Prop} [Decidable p] (h : (if p then x else c) = 0) (hx : x ≠ 0) : ¬ p ∧ c = 0 := by
 by_cases hp : p
 ·rw [if_pos hp] at h; exact absurd h hx
 ·rw [if_neg hp] at h; exact ⟨hp, h⟩
theorem inQ_le {x n m : Int} (h : inQ x n = true) (hn : n ≤ m) : 0 ≤ x ∧ x ≤ m := by
 unfold inQ at h
 rw [Bool.and_eq_true, decide_eq_true_eq, decide_eq_true_eq] at h
 omega
structure StepOk (p : PV) (c : CV) : Prop where
 rl : p.rl ≤ 16384
 key : Keyed p.rs
 w4 : ∀ r ∈ p.rs, r.wl ≤ 4096
 p : 0 ≤ c.p ∧ c.p ≤ 1000000
 cw : c.wl ≤ 4096
 ws : ∀ y ∈ c.ws, 0 ≤ y ∧ y ≤ 1000000
theorem stepOk {p : PV} {c : CV} (h : stepE p c = 0) : StepOk p c := by
 unfold stepE at h
 by_cases h0 : pdsE p = 0
 ·rw [if_neg (not_not_intro h0)] at h
  have hc : confB p c = true := by
   by_cases h2 : confB p c = true
   ·exact h2
   ·rw [if_neg h2] at h; cases h
  unfold pdsE at h0
  by_cases h1 : spaceE p.s = 0
  ·rw [if_neg (not_not_intro h1)] at h0
   obtain ⟨h2, h0⟩ := ite9 h0 (by decide)
   obtain ⟨h3, h0⟩ := ite9 h0 (by decide)
   have hall : p.rs.all (ruleB p.st p.sy) = true := by
    by_cases h4 : p.rs.all (ruleB p.st p.sy) = true
    ·exact h4
    ·rw [if_neg h4] at h0; cases h0
   have hst : p.st ≤ 1000000 := by omega
   have hsy : p.sy ≤ 1000000 := by omega
   unfold confB at hc
   rw [Bool.and_eq_true, Bool.and_eq_true, decide_eq_true_eq] at hc
   refine ⟨by omega, fun r hr => ?_, fun r hr => ?_, inQ_le hc.1 hst, hc.2.1, fun y hy => inQ_le (List.all_eq_true.1 hc.2.2 y hy) hsy⟩
   ·have := List.all_eq_true.1 hall r hr
    unfold ruleB at this
    simp only [Bool.and_eq_true] at this
    exact ⟨inQ_le this.1 hst, inQ_le this.2.2.1 hsy⟩
   ·have := List.all_eq_true.1 hall r hr
    unfold ruleB at this
    simp only [Bool.and_eq_true, decide_eq_true_eq] at this
    exact this.2.2.2.1
  ·rw [if_pos h1] at h0; exact absurd h0 h1
 ·rw [if_pos h0] at h; exact absurd h h0
def nxE (R : Option NxL) (E : Int) : NxL × Int := if E ≠ 0 then ([], E) else match R with
 | none => ([], 2)
 | some l => (l, 0)
def NxU (X : NxL × Int) (w : World) (e : Ending) (w' : World) : Prop := ∃ v8 v9 : Value, e = .returned (.tuple #[v8, v9, .int .i64 X.2]) ∧ isNumN w.heap.size X.1 v8 w' ∧ isCfsN w.heap.size X.1 v9 w' ∧ Below w.heap.size w w'
theorem nxU_no {R : Option NxL} {E c : Int} {w w' : World} (h : nxE R E = ([], c)) (hb : Below w.heap.size w w') : NxU (nxE R E) w (.returned (.tuple #[.slice none 0 0, .slice none 0 0, .int .i64 c])) w' := by
 rw [h]
 exact ⟨_, _, rfl, World.ownsRow_nil _ _ _ _, ⟨[], World.ownsRow_nil _ _ _ _, rfl, fun c hc => by cases hc⟩, hb⟩
theorem nxE_bad {R : Option NxL} {E : Int} (h : E ≠ 0) : nxE R E = ([], E) := by unfold nxE; rw [if_pos h]
theorem nxE_none {R : Option NxL} {E : Int} (h : E = 0) (hR : R = none) : nxE R E = ([], 2) := by unfold nxE; rw [if_neg (not_not_intro h), hR]
theorem nxE_some {R : Option NxL} {E : Int} {l : NxL} (h : E = 0) (hR : R = some l) : nxE R E = (l, 0) := by unfold nxE; rw [if_neg (not_not_intro h), hR]
theorem nxU_yes {R : Option NxL} {E : Int} {l : NxL} {w w' : World} {v8 v9 : Value} (h : E = 0) (hR : R = some l) (h1 : isNumN w.heap.size l v8 w') (h2 : isCfsN w.heap.size l v9 w') (hb : Below w.heap.size w w') : NxU (nxE R E) w (.returned (.tuple #[v8, v9, .int .i64 0])) w' := by
 rw [nxE_some h hR]; exact ⟨v8, v9, rfl, h1, h2, hb⟩
theorem nxU_ref {R : Option NxL} {E : Int} {w w' : World} {e : Ending} (h : E = 0) (hr : NextRet R w e w') : NxU (nxE R E) w e w' := by
 cases R with
 | none =>
  obtain ⟨hb, he⟩ := hr
  have he : e = .returned (.tuple #[.slice none 0 0, .slice none 0 0, .int .i64 2]) := he
  subst he
  exact nxU_no (nxE_none h rfl) hb
 | some l =>
  obtain ⟨hb, v8, v9, cs, he, h1, h2, h3, h4⟩ := hr
  subst he
  exact nxU_yes h rfl h1 ⟨cs, h2, h3, h4⟩ hb
def isMvN (ra : Option Addr) (rl rc : Nat) (lo : Nat) (rs : List RV) : Asr := fun v w => ∃ b, v = .agg #[.slice ra rl rc, .map (some b)] ∧ GrpT lo rs b w
theorem mover_gN {P : Program} {f : FuncId} {vs : Array Value} {w : World} {ra : Option Addr} {rl rc lo : Nat} {rs : List RV} (hlo : lo ≤ w.heap.size) (h : Calls P f vs w fun e w' => ∃ b, e = .returned (.agg #[.slice ra rl rc, .map (some b)]) ∧ w.heap.size ≤ b ∧ GrpT w.heap.size rs b w' ∧ Below w.heap.size w w') : Calls P f vs w (GivesN (isMvN ra rl rc lo rs) w) :=
 h.mono fun e w2 ⟨b, he, hl, hg, hb⟩ => ⟨_, he, fun w3 h3 => ⟨b, rfl, Grp.lower (Grp.same hg (fun h1 => h3.2 b hl h1) (fun p h0 h1 => h3.2 p h0 h1)) hlo⟩, hb⟩
def isMvOk (lo : Nat) (l : NxL) : Asr := fun v w => ∃ v8 v9 : Value, v = .tuple #[v8, v9, .bool true] ∧ isNumN lo l v8 w ∧ isCfsN lo l v9 w
theorem mv_gN {P : Program} {f : FuncId} {vs : Array Value} {w : World} {R : Option NxL} {l : NxL} {lo : Nat} (hlo : lo ≤ w.heap.size) (hR : R = some l) (h : Calls P f vs w (MvRet R w)) : Calls P f vs w (GivesN (isMvOk lo l) w) := by
 subst hR
 exact h.mono fun e w2 ⟨hb, v8, v9, he, h1, h2⟩ => ⟨_, he, fun w3 hg => ⟨v8, v9, rfl, isNumN_mono (isNumN_agree h1 hg) hlo, isCfsN_mono (isCfsN_agree h2 hg) hlo⟩, hb⟩
theorem mv_gN0 {P : Program} {f : FuncId} {vs : Array Value} {w : World} {R : Option NxL} (hR : R = none) (h : Calls P f vs w (MvRet R w)) : Calls P f vs w (GivesN (isV (.tuple #[.slice none 0 0, .slice none 0 0, .bool false])) w) := by
 subst hR
 exact h.mono fun e w2 ⟨hb, he⟩ => ⟨_, he, fun _ _ => rfl, hb⟩
theorem syp_assign9 {P : Program} {p : Asr} {d td : Nat} {ty : TypeId} {pos : String} : ∀ (ev : Operand → Value) (w : World), p (ev (.tmp td)) w → ∃ v, (execOp ev ⟨some d, .assign (.tmp td), ty, pos, #[], none⟩).run P w = .ok (.value v) w ∧ ∀ w2, p (ev (.tmp td)) w2 → p v w2 := fun ev w h => ⟨ev (.tmp td), by unfold execOp; rfl, fun _ h => h⟩
theorem isMv_0 {lo : Nat} {l : NxL} : ∀ v w, isMvOk lo l v w → ∃ (vs : Array Value) (u : Value), v = .tuple vs ∧ vs[0]? = some u ∧ ∀ w2, isMvOk lo l v w2 → isNumN lo l u w2 := fun v w ⟨a, c, e, h1, h2⟩ => by
 subst e
 exact ⟨_, _, rfl, rfl, fun w2 ⟨a2, c2, e2, h3, h4⟩ => by rw [(tup3_inj e2).1]; exact h3⟩
theorem isMv_1 {lo : Nat} {l : NxL} : ∀ v w, isMvOk lo l v w → ∃ (vs : Array Value) (u : Value), v = .tuple vs ∧ vs[1]? = some u ∧ ∀ w2, isMvOk lo l v w2 → isCfsN lo l u w2 := fun v w ⟨a, c, e, h1, h2⟩ => by
 subst e
 exact ⟨_, _, rfl, rfl, fun w2 ⟨a2, c2, e2, h3, h4⟩ => by rw [(tup3_inj e2).2.1]; exact h4⟩
theorem isMv_2 {lo : Nat} {l : NxL} : ∀ v w, isMvOk lo l v w → ∃ (vs : Array Value) (u : Value), v = .tuple vs ∧ vs[2]? = some u ∧ ∀ w2, isMvOk lo l v w2 → isV (.bool true) u w2 := fun v w ⟨a, c, e, h1, h2⟩ => by
 subst e
 exact ⟨_, _, rfl, rfl, fun w2 _ => rfl⟩
theorem nextA_c (ds d : Nat) (s : SV) (st sy : Int) (ra : Option Addr) (rl rc : Nat) (rs : List RV) (p : Int) (wa : Option Addr) (wl wc : Nat) (ws : List Int) (w : World) (hs : SIn w ds s) (hprow : RRow w ra rs) (hplen : rs.length = rl) (hin : ∀ r ∈ rs, RIn w d r) (hrow : Row w wa ws) (hlen : ws.length = wl) (hcap : wl ≤ wc) :
  Calls Tryz.prog 6 #[.agg #[.int .i64 s.f.tag, .int .i64 s.f.dim, .slice s.f.a s.f.len s.f.cap, .int .i64 st, .int .i64 sy, .slice ra rl rc], .agg #[.int .i64 p, .slice wa wl wc]] w (NxU (nxE (nextF p ws rs 0) (stepE ⟨s, st, sy, ra, rl, rc, rs⟩ ⟨p, wa, wl, wc, ws⟩)) w) := by
 refine enterF (args := [.agg #[.int .i64 s.f.tag, .int .i64 s.f.dim, .slice s.f.a s.f.len s.f.cap, .int .i64 st, .int .i64 sy, .slice ra rl rc], .agg #[.int .i64 p, .slice wa wl wc]]) Tryz.func6 rfl Tryz.ntmps6 rfl ?_
 have hS := St.start w
 refine seqF (regF ?_)
 refine op_box (cs := [_, _, _, _, _, _]) hS rfl rfl rfl ?_
 clear hS; intro B1 W1 hS
 refine op_box (cs := [_, _]) hS rfl rfl rfl ?_
 clear hS; intro B2 W2 hS
 refine op_assign rfl rfl ?_
 refine op_assign rfl rfl ?_
 refine op_assign rfl rfl ?_
 refine endF (XF.thenN ?_)
 refine seqF ?_
 refine seqF (regF ?_)
 refine op_loadA (vs := [_, _, _, _, _, _]) Tryz.isAgg28 Tryz.sizeOf28 rfl (CellsAt.own (j := 0) (m := 6) (hS.at_ 1 rfl) rfl) rfl ?_
 refine op_loadA (vs := [_, _]) Tryz.isAgg31 Tryz.sizeOf31 rfl (CellsAt.own (j := 0) (m := 2) (hS.at_ 0 rfl) rfl) rfl ?_
 refine op_call (vs := [_, _]) hS goes_12 rfl (stepA_is ds d ⟨s, st, sy, ra, rl, rc, rs⟩ ⟨p, wa, wl, wc, ws⟩ _ (PvIn.below ⟨hs, hprow, hplen, hin⟩ hS.below) (CIn.below ⟨hrow, hlen⟩ hS.below)) rfl ?_
 rintro e W3 ⟨rfl, hb⟩
 refine ⟨_, rfl, hb, fun hS' => ?_⟩
 clear hS; have hS := hS'; clear hS' hb
 refine op_assign rfl rfl ?_
 refine endF (XF.thenN ?_)
 refine seqF (regF ?_)
 refine op_move rfl rfl ?_
 refine op_neq rfl rfl rfl ?_
 refine endF (XF.thenN ?_)
 refine condF rfl (fun hc => ?_) (fun hc => ?_)
 ·have hc15 := of_decide_eq_true hc; clear hc
  refine seqF (regF ?_)
  refine op_move rfl rfl ?_
  refine op_assign rfl rfl ?_
  refine op_assign rfl rfl ?_
  refine op_assign rfl rfl ?_
  refine endF (XF.thenN ?_)
  refine retF ?_
  refine XF.thenR ?_
  refine XF.res (res3 Tryz.results6 rfl rfl rfl) ?_
  exact nxU_no (nxE_bad hc15) hS.below
 ·have hc15 := of_decide_eq_false hc; clear hc
  have hE : stepE ⟨s, st, sy, ra, rl, rc, rs⟩ ⟨p, wa, wl, wc, ws⟩ = 0 := Decidable.of_not_not hc15
  have ok := stepOk hE
  have hok1 : rl ≤ 16384 := ok.rl
  have hok2 : wl ≤ 4096 := ok.cw
  refine skipF ?_
  refine XF.thenN ?_
  refine seqF ?_
  rcases hR : (nextF p ws rs 0) with _ | l9
  ·skip
   have hszA := hS.below.size
   refine regY (al := []) (G := fun _ => []) (E := []) (k := 10) (ds := [10]) followsM rfl hS rfl rfl (by kernel_rfl) (by kernel_rfl) rfl (by decide) rfl ?_
   refine bly_cons 1 rfl (isV _) (syV fst_take [(2, _)] rfl rfl (fun _ => (w_free rfl)) (fun _ => ⟨g_fr (by kernel_rfl) rfl, trivial⟩) (fun s w hw => rn_loadA (vs := [_, _, _, _, _, _]) Tryz.isAgg28 Tryz.sizeOf28 rfl ((CellsAt.own (j := 0) (m := 6) (hw.at_ 1 rfl) rfl))) (at_top rfl)) ?_
   refine bly_cons 2 rfl (isMvN ra rl rc W3.heap.size rs) (sy_call fst_take (fun s => [isV _]) rfl rfl goes_21 (fun _ => w_free rfl) (fun s => ⟨p_tmp (g_dep 0 (by kernel_rfl) (at_n rfl rfl (at_dep rfl rfl rfl))), trivial⟩) (fun vs s w' hk hw hlo hh => by have e := holds_isV (us := [_]) hh; subst e; exact mover_gN hlo (mover_is _ _ _ _ _ _ _ w' (hprow.below hw.below) hplen hok1 ok.key)) (at_top rfl)) ?_
   refine bly_cons 3 rfl (isV _) (syV fst_take [(3, _)] rfl rfl (fun _ => (w_free rfl)) (fun _ => ⟨g_fr (by kernel_rfl) rfl, trivial⟩) (fun s w hw => rn_loadA (vs := [_, _]) Tryz.isAgg31 Tryz.sizeOf31 rfl ((CellsAt.own (j := 0) (m := 2) (hw.at_ 0 rfl) rfl))) (at_top rfl)) ?_
   refine bly_cons 4 rfl (isV (.tuple #[.slice none 0 0, .slice none 0 0, .bool false])) (sy_call fst_take (fun s => [isMvN ra rl rc W3.heap.size rs, isV _]) rfl rfl goes_22 (fun _ => w_free rfl) (fun s => ⟨p_tmp (g_dep 1 (by kernel_rfl) (at_n rfl rfl (at_dep rfl rfl rfl))), p_tmp (g_dep 2 (by kernel_rfl) (at_n rfl rfl (at_dep rfl rfl rfl))), trivial⟩) (fun vs s w' hk hw hlo hh => by obtain ⟨v1, v2, rfl, ⟨b9, rfl, hg9⟩, e2⟩ := holds2 hh; have e2 : v2 = _ := e2; subst e2; exact mv_gN0 hR (next_is _ _ _ _ _ _ _ _ _ _ _ w' (hprow.below hw.below) hplen (fun r hr => ⟨((hin r hr).below hw.below).row, (hin r hr).len, ok.w4 r hr⟩) hok1 hg9 (hrow.below hw.below) hlen hcap hok2 ok.p ok.ws)) (at_top rfl)) ?_
   refine bly_cons 5 rfl (isV _) (syV fst_take [(21, _)] rfl rfl (fun _ => (w_free rfl)) (fun _ => ⟨g_dep 3 (by kernel_rfl) (at_n rfl rfl (at_dep rfl rfl rfl)), trivial⟩) (fun s w hw => rn_move rfl) (at_top rfl)) ?_
   refine bly_cons 6 rfl (isV _) (syV fst_take [(17, _)] rfl rfl (fun _ => (w_free rfl)) (fun _ => ⟨g_dep 4 (by kernel_rfl) (at_n rfl rfl (at_dep rfl rfl rfl)), trivial⟩) (fun s w hw => rn_extract rfl rfl) (at_top rfl)) ?_
   refine bly_cons 7 rfl (isV _) (syV fst_take [(17, _)] rfl rfl (fun _ => (w_free rfl)) (fun _ => ⟨g_dep 4 (by kernel_rfl) (at_n rfl rfl (at_dep rfl rfl rfl)), trivial⟩) (fun s w hw => rn_extract rfl rfl) (at_top rfl)) ?_
   refine bly_cons 8 rfl (isV _) (syV fst_take [(17, _)] rfl rfl (fun _ => (w_free rfl)) (fun _ => ⟨g_dep 4 (by kernel_rfl) (at_n rfl rfl (at_dep rfl rfl rfl)), trivial⟩) (fun s w hw => rn_extract rfl rfl) (at_top rfl)) ?_
   refine bly_cons 9 rfl (isV _) (syV fst_take [(22, _)] rfl rfl (fun _ => (w_free rfl)) (fun _ => ⟨g_dep 5 (by kernel_rfl) (at_n rfl rfl (at_dep rfl rfl rfl)), trivial⟩) (fun s w hw => rn_assign rfl) (at_top rfl)) ?_
   refine bly_cons 10 rfl (isV _) (syV fst_take [(23, _)] rfl rfl (fun _ => (w_free rfl)) (fun _ => ⟨g_dep 6 (by kernel_rfl) (at_n rfl rfl (at_dep rfl rfl rfl)), trivial⟩) (fun s w hw => rn_assign rfl) (at_top rfl)) ?_
   refine bly_nil ?_
   intro s4 W4 Ks4 hall4 hsz4 hKs4 hS' hcov4 hfx4 hno4
   clear hS; have hS := hS'.castO (O' := [_, _]) rfl; clear hS'
   refine castL (L' := [AwS _ _ (isV _), AwS _ _ (isMvN ra rl rc W3.heap.size rs), AwS _ _ (isV _), AwS _ _ (isV (.tuple #[.slice none 0 0, .slice none 0 0, .bool false])), AwS _ _ (isV _), AwS _ _ (isV _), AwS _ _ (isV _), AwS _ _ (isV _), AwS _ _ (isV _), AwS _ _ (isV _)]) rfl ?_
   refine fin_sV ?_
   refine fin_p ?_; intro _ _
   refine fin_sV ?_
   refine fin_sV ?_
   refine fin_sV ?_
   refine fin_sV ?_
   refine fin_sV ?_
   refine fin_sV ?_
   refine fin_sV ?_
   refine fin_sV ?_
   refine fin_nil ?_
   refine op_assign rfl rfl ?_
   refine endF (XF.thenN ?_)
   refine seqF ?_
   refine seqF (regF ?_)
   refine op_move rfl rfl ?_
   refine op_not rfl rfl ?_
   refine endF (XF.thenN ?_)
   refine condF rfl (fun hc => ?_) (fun hc => absurd hc (by decide))
   skip
   refine seqF (regF ?_)
   refine op_assign rfl rfl ?_
   refine op_assign rfl rfl ?_
   refine op_assign rfl rfl ?_
   refine endF (XF.thenN ?_)
   refine retF ?_
   refine XF.thenR ?_
   refine XF.res (res3 Tryz.results6 rfl rfl rfl) ?_
   exact nxU_no (nxE_none hE rfl) hS.below
  ·skip
   have hszA := hS.below.size
   refine regY (al := []) (G := fun _ => []) (E := []) (k := 10) (ds := [10]) followsM rfl hS rfl rfl (by kernel_rfl) (by kernel_rfl) rfl (by decide) rfl ?_
   refine bly_cons 1 rfl (isV _) (syV fst_take [(2, _)] rfl rfl (fun _ => (w_free rfl)) (fun _ => ⟨g_fr (by kernel_rfl) rfl, trivial⟩) (fun s w hw => rn_loadA (vs := [_, _, _, _, _, _]) Tryz.isAgg28 Tryz.sizeOf28 rfl ((CellsAt.own (j := 0) (m := 6) (hw.at_ 1 rfl) rfl))) (at_top rfl)) ?_
   refine bly_cons 2 rfl (isMvN ra rl rc W3.heap.size rs) (sy_call fst_take (fun s => [isV _]) rfl rfl goes_21 (fun _ => w_free rfl) (fun s => ⟨p_tmp (g_dep 0 (by kernel_rfl) (at_n rfl rfl (at_dep rfl rfl rfl))), trivial⟩) (fun vs s w' hk hw hlo hh => by have e := holds_isV (us := [_]) hh; subst e; exact mover_gN hlo (mover_is _ _ _ _ _ _ _ w' (hprow.below hw.below) hplen hok1 ok.key)) (at_top rfl)) ?_
   refine bly_cons 3 rfl (isV _) (syV fst_take [(3, _)] rfl rfl (fun _ => (w_free rfl)) (fun _ => ⟨g_fr (by kernel_rfl) rfl, trivial⟩) (fun s w hw => rn_loadA (vs := [_, _]) Tryz.isAgg31 Tryz.sizeOf31 rfl ((CellsAt.own (j := 0) (m := 2) (hw.at_ 0 rfl) rfl))) (at_top rfl)) ?_
   refine bly_cons 4 rfl (isMvOk W3.heap.size l9) (sy_call fst_take (fun s => [isMvN ra rl rc W3.heap.size rs, isV _]) rfl rfl goes_22 (fun _ => w_free rfl) (fun s => ⟨p_tmp (g_dep 1 (by kernel_rfl) (at_n rfl rfl (at_dep rfl rfl rfl))), p_tmp (g_dep 2 (by kernel_rfl) (at_n rfl rfl (at_dep rfl rfl rfl))), trivial⟩) (fun vs s w' hk hw hlo hh => by obtain ⟨v1, v2, rfl, ⟨b9, rfl, hg9⟩, e2⟩ := holds2 hh; have e2 : v2 = _ := e2; subst e2; exact mv_gN hlo hR (next_is _ _ _ _ _ _ _ _ _ _ _ w' (hprow.below hw.below) hplen (fun r hr => ⟨((hin r hr).below hw.below).row, (hin r hr).len, ok.w4 r hr⟩) hok1 hg9 (hrow.below hw.below) hlen hcap hok2 ok.p ok.ws)) (at_top rfl)) ?_
   refine bly_cons 5 rfl (isMvOk W3.heap.size l9) (syP (q := isMvOk W3.heap.size l9) 3 21 rfl rfl (by kernel_rfl) (at_dep rfl rfl rfl) syp_move9 (at_top rfl)) ?_
   refine bly_cons 6 rfl (isNumN W3.heap.size l9) (syP (q := isNumN W3.heap.size l9) 4 17 rfl rfl (by kernel_rfl) (at_dep rfl rfl rfl) (syp_ext9 isMv_0) (at_top rfl)) ?_
   refine bly_cons 7 rfl (isCfsN W3.heap.size l9) (syP (q := isCfsN W3.heap.size l9) 4 17 rfl rfl (by kernel_rfl) (at_dep rfl rfl rfl) (syp_ext9 isMv_1) (at_top rfl)) ?_
   refine bly_cons 8 rfl (isV (.bool true)) (syP (q := isV (.bool true)) 4 17 rfl rfl (by kernel_rfl) (at_dep rfl rfl rfl) (syp_ext9 isMv_2) (at_top rfl)) ?_
   refine bly_cons 9 rfl (isNumN W3.heap.size l9) (syP (q := isNumN W3.heap.size l9) 5 22 rfl rfl (by kernel_rfl) (at_dep rfl rfl rfl) syp_assign9 (at_top rfl)) ?_
   refine bly_cons 10 rfl (isCfsN W3.heap.size l9) (syP (q := isCfsN W3.heap.size l9) 6 23 rfl rfl (by kernel_rfl) (at_dep rfl rfl rfl) syp_assign9 (at_top rfl)) ?_
   refine bly_nil ?_
   intro s5 W5 Ks5 hall5 hsz5 hKs5 hS' hcov5 hfx5 hno5
   clear hS; have hS := hS'.castO (O' := [_, _]) rfl; clear hS'
   refine castL (L' := [AwS _ _ (isV _), AwS _ _ (isMvN ra rl rc W3.heap.size rs), AwS _ _ (isV _), AwS _ _ (isMvOk W3.heap.size l9), AwS _ _ (isMvOk W3.heap.size l9), AwS _ _ (isNumN W3.heap.size l9), AwS _ _ (isCfsN W3.heap.size l9), AwS _ _ (isV (.bool true)), AwS _ _ (isNumN W3.heap.size l9), AwS _ _ (isCfsN W3.heap.size l9)]) rfl ?_
   refine fin_sV ?_
   refine fin_p ?_; intro _ _
   refine fin_sV ?_
   refine fin_p ?_; intro _ _
   refine fin_p ?_; intro _ _
   refine fin_p ?_; intro _ _
   refine fin_p ?_; intro _ _
   refine fin_sV ?_
   refine fin_p ?_; intro v22 h22; have hn22 := isNumN_mono h22.here hszA
   refine fin_p ?_; intro v23 h23; have hn23 := isCfsN_mono h23.here hszA
   refine fin_nil ?_
   refine op_assign rfl rfl ?_
   refine endF (XF.thenN ?_)
   refine seqF ?_
   refine seqF (regF ?_)
   refine op_move rfl rfl ?_
   refine op_not rfl rfl ?_
   refine endF (XF.thenN ?_)
   refine condF rfl (fun hc => absurd hc (by decide)) (fun hc => ?_)
   skip
   refine skipF ?_
   refine XF.thenN ?_
   refine seqF (regF ?_)
   refine op_move rfl rfl ?_
   refine op_move rfl rfl ?_
   refine op_assign rfl rfl ?_
   refine op_assign rfl rfl ?_
   refine op_assign rfl rfl ?_
   refine endF (XF.thenN ?_)
   refine retF ?_
   refine XF.res (res3 Tryz.results6 rfl rfl rfl) ?_
   exact nxU_yes hE rfl hn22 hn23 hS.below
end Go.Proofs.YtfkbkekgnoanaaaGreatDoor
namespace Go.Proofs.YtfkbkekgnoanaaaGreatDoor
open Go Go.RowKit
def comB (r : RV) (p : Int) (ws : List Int) : Bool := decide (r.q = p) && decide (r.ws = ws.take r.ws.length)
def backF (p : Int) (ws : List Int) : List RV → Nat → Option NxL
 | [], _ => some []
 | r :: rs, i => if comB r p ws = true then (if 4096 < 1 + (ws.length - r.wl) then none else (backF p ws rs (i + 1)).map (((i : Int), r.p, r.g :: ws.drop r.wl) :: ·)) else backF p ws rs (i + 1)
theorem comB_q {r : RV} {p : Int} {ws : List Int} (h : ¬ r.q = p) : comB r p ws = false := by unfold comB; rw [decide_eq_false h]; rfl
theorem comB_len {r : RV} {p : Int} {ws : List Int} (h : ws.length < r.ws.length) : comB r p ws = false := by
 unfold comB
 rw [decide_eq_false (show ¬ r.ws = ws.take r.ws.length from fun e => ?_), Bool.and_false]
 have := congrArg List.length e
 rw [List.length_take] at this
 omega
theorem comB_at {r : RV} {p : Int} {ws : List Int} {i : Nat} {y z : Int} (hy : ws[i]? = some y) (hz : r.ws[i]? = some z) (h : ¬ y = z) : comB r p ws = false := by
 unfold comB
 rw [decide_eq_false (show ¬ r.ws = ws.take r.ws.length from fun e => h ?_), Bool.and_false]
 have hlt := (List.getElem?_eq_some_iff.1 hz).1
 rw [e, List.getElem?_take, if_pos hlt, hy] at hz
 exact Option.some.inj hz
theorem comB_yes {r : RV} {p : Int} {ws : List Int} (h : r.q = p) (he : ws.take r.ws.length = r.ws) : comB r p ws = true := by
 unfold comB
 rw [decide_eq_true h, decide_eq_true he.symm]; rfl
theorem comB_true {r : RV} {p : Int} {ws : List Int} (h : comB r p ws = true) : r.q = p ∧ r.ws = ws.take r.ws.length := by
 unfold comB at h
 rw [Bool.and_eq_true, decide_eq_true_eq, decide_eq_true_eq] at h
 exact h
theorem comB_le {r : RV} {p : Int} {ws : List Int} (h : comB r p ws = true) : r.ws.length ≤ ws.length := by
 have := congrArg List.length (comB_true h).2
 rw [List.length_take] at this
 omega
theorem back_skip {p : Int} {ws : List Int} {r : RV} {rs : List RV} {i : Nat} (h : comB r p ws = false) : backF p ws (r :: rs) i = backF p ws rs (i + 1) := by
 simp only [backF]; rw [if_neg (by rw [h]; simp)]
theorem back_long {p : Int} {ws : List Int} {r : RV} {rs : List RV} {i : Nat} (h : comB r p ws = true) (hl : 4096 < 1 + (ws.length - r.wl)) : backF p ws (r :: rs) i = none := by
 simp only [backF]; rw [if_pos h, if_pos hl]
theorem back_fit {p : Int} {ws : List Int} {r : RV} {rs : List RV} {i : Nat} (h : comB r p ws = true) (hl : ¬ 4096 < 1 + (ws.length - r.wl)) : backF p ws (r :: rs) i = (backF p ws rs (i + 1)).map (((i : Int), r.p, r.g :: ws.drop r.wl) :: ·) := by
 simp only [backF]; rw [if_pos h, if_neg hl]
theorem comes_c (rp rg rq : Int) (rwa : Option Addr) (rwl rwc : Nat) (rws : List Int) (rx : WV) (p : Int) (wa : Option Addr) (wl wc : Nat) (ws : List Int) (w : World) (hrr : Row w rwa rws) (hrl : rws.length = rwl) (hrow : Row w wa ws) (hlen : ws.length = wl) (hwm : wl ≤ 8192) :
  Calls Tryz.prog 28 #[.agg #[.int .i64 rp, .int .i64 rg, .int .i64 rq, .slice rwa rwl rwc, .bool rx.f.z, .int .i64 rx.f.c, .int .u64 (rx.f.g : Int), .slice rx.f.ra rx.f.rl rx.f.rc, .slice rx.f.ca rx.f.cl rx.f.cc, .slice rx.f.pa rx.f.pl rx.f.pc], .agg #[.int .i64 p, .slice wa wl wc]] w (fun e w' => e = .returned (.bool (comB ⟨rp, rg, rq, rwa, rwl, rwc, rws, rx⟩ p ws)) ∧ Below w.heap.size w w') := by
 refine enterF (args := [.agg #[.int .i64 rp, .int .i64 rg, .int .i64 rq, .slice rwa rwl rwc, .bool rx.f.z, .int .i64 rx.f.c, .int .u64 (rx.f.g : Int), .slice rx.f.ra rx.f.rl rx.f.rc, .slice rx.f.ca rx.f.cl rx.f.cc, .slice rx.f.pa rx.f.pl rx.f.pc], .agg #[.int .i64 p, .slice wa wl wc]]) Tryz.func28 rfl Tryz.ntmps28 rfl ?_
 have hS := St.start w
 refine seqF (regF ?_)
 refine op_box (cs := [_, _, _, _, _, _, _, _, _, _]) hS rfl rfl rfl ?_
 clear hS; intro B1 W1 hS
 refine op_box (cs := [_, _]) hS rfl rfl rfl ?_
 clear hS; intro B2 W2 hS
 refine op_assign rfl rfl ?_
 refine endF (XF.thenN ?_)
 refine seqF ?_
 refine seqF (regF ?_)
 refine op_field (o' := 2) fa_66_2 rfl rfl rfl ?_
 refine op_load Tryz.isAgg3 rfl (cell_own (hS.at_ 1 rfl) rfl) rfl ?_
 refine op_field (o' := 0) fa_31_0 rfl rfl rfl ?_
 refine op_load Tryz.isAgg3 rfl (cell_own (hS.at_ 0 rfl) rfl) rfl ?_
 refine op_neq rfl rfl rfl ?_
 refine op_move rfl rfl ?_
 refine op_cases (d := 11) rfl (fun hc => ?_) (fun hc => ?_)
 ·have hg11 := of_decide_eq_true hc; clear hc
  refine op_notF (d := 11) rfl rfl rfl rfl ?_
  refine op_notF (d := 11) rfl rfl rfl rfl ?_
  refine op_notF (d := 11) rfl rfl rfl rfl ?_
  refine op_notF (d := 11) rfl rfl rfl rfl ?_
  refine op_notF (d := 11) rfl rfl rfl rfl ?_
  refine op_notF (d := 11) rfl rfl rfl rfl ?_
  refine op_notF (d := 11) rfl rfl rfl rfl ?_
  refine op_pickT rfl rfl rfl ?_
  refine endF (XF.thenN ?_)
  refine condT rfl ?_
  refine seqF (regF ?_)
  refine op_assign rfl rfl ?_
  refine endF (XF.thenN ?_)
  refine retF ?_
  refine XF.thenR ?_
  refine XF.res (res1 Tryz.results28 rfl) ?_
  exact ⟨rbool (comB_q (r := ⟨rp, rg, rq, rwa, rwl, rwc, rws, rx⟩) hg11).symm, hS.below⟩
 ·have hg11 := of_decide_eq_false hc; clear hc
  refine op_wantedF (d := 11) rfl rfl ?_
  refine op_field (o' := 1) fa_31_1 rfl rfl rfl ?_
  refine op_wantedF (d := 11) rfl rfl ?_
  refine op_load Tryz.isAgg29 rfl (cell_own (hS.at_ 0 rfl) rfl) rfl ?_
  refine op_wantedF (d := 11) rfl rfl ?_
  refine op_len Tryz.underlying29 rfl rfl ?_
  refine op_wantedF (d := 11) rfl rfl ?_
  refine op_field (o' := 3) fa_66_3 rfl rfl rfl ?_
  refine op_wantedF (d := 11) rfl rfl ?_
  refine op_load Tryz.isAgg29 rfl (cell_own (hS.at_ 1 rfl) rfl) rfl ?_
  refine op_wantedF (d := 11) rfl rfl ?_
  refine op_len Tryz.underlying29 rfl rfl ?_
  refine op_wantedF (d := 11) rfl rfl ?_
  refine op_lss rfl rfl rfl ?_
  refine op_pickF rfl rfl rfl ?_
  refine endF (XF.thenN ?_)
  refine condF rfl (fun hc => ?_) (fun hc => ?_)
  ·have hc19 := of_decide_eq_true hc; clear hc
   refine seqF (regF ?_)
   refine op_assign rfl rfl ?_
   refine endF (XF.thenN ?_)
   refine retF ?_
   refine XF.thenR ?_
   refine XF.res (res1 Tryz.results28 rfl) ?_
   exact ⟨rbool (comB_len (r := ⟨rp, rg, rq, rwa, rwl, rwc, rws, rx⟩) (by show ws.length < rws.length; omega)).symm, hS.below⟩
  ·have hc19 := of_decide_eq_false hc; clear hc
   have hq : rq = p := Decidable.of_not_not hg11
   have hrwm : rwl ≤ 8192 := by omega
   refine skipF ?_
   refine XF.thenN ?_
   refine seqF ?_
   refine seqF (regF ?_)
   refine op_assign rfl rfl ?_
   refine endF (XF.thenN ?_)
   refine blockF ?_
   refine loopF (fun m l W => ∃ i : Nat, i ≤ rwl ∧ m = rwl - i ∧ l = [(2, .pointer (some ⟨B1, 0, none⟩)), (3, .pointer (some ⟨B2, 0, none⟩)), (5, .int .i64 (i : Int))] ∧ ws.take i = rws.take i ∧ St w [(B2, [.int .i64 p, .slice wa wl wc], 31), (B1, [.int .i64 rp, .int .i64 rg, .int .i64 rq, .slice rwa rwl rwc, .bool rx.f.z, .int .i64 rx.f.c, .int .u64 (rx.f.g : Int), .slice rx.f.ra rx.f.rl rx.f.rc, .slice rx.f.ca rx.f.cl rx.f.cc, .slice rx.f.pa rx.f.pl rx.f.pc], 66)] [] [] W) (rwl - 0) ([(2, _), (3, _), (5, _)]) ⟨rfl, rfl, rfl, trivial⟩ (⟨0, Nat.zero_le _, rfl, rfl, rfl, hS.clear⟩) ?_
   clear hS
   rintro m l W ⟨i, hi, rfl, rfl, hall, hS⟩
   refine seqF ?_
   refine seqF (regF ?_)
   refine op_move rfl rfl ?_
   refine op_field (o' := 3) fa_66_3 rfl rfl rfl ?_
   refine op_load Tryz.isAgg29 rfl (cell_own (hS.at_ 1 rfl) rfl) rfl ?_
   refine op_len Tryz.underlying29 rfl rfl ?_
   refine op_lss rfl rfl rfl ?_
   refine endF (XF.thenN ?_)
   refine condF rfl (fun hc => ?_) (fun hc => ?_)
   ·have hc24 := of_decide_eq_true hc; clear hc
    have hk : i < rwl := by omega
    obtain ⟨b1, o1, y, hwa, hy, hyc⟩ := hrow.at1 (show i < ws.length by omega)
    obtain ⟨b2, o2, z, hra, hz, hzc⟩ := hrr.at1 (show i < rws.length by omega)
    subst hwa; subst hra
    refine skipF ?_
    refine XF.thenN ?_
    refine seqF ?_
    refine blockF ?_
    refine seqF ?_
    have k1 := hS.old hyc
    have k2 := hS.old hzc
    refine regB (m := 11) followsM hS (by kernel_rfl) (by kernel_rfl) rfl ?_
    refine bl_cons 1 rfl (isV _) (stab_isV _) (rgV (li := [(3, _)]) rfl (w_free rfl) ⟨g_fr (by kernel_rfl) rfl, trivial⟩ (fun w hw => rn_field (o' := 1) fa_31_1 rfl rfl) (at_top rfl)) ?_
    refine bl_cons 2 rfl (isV _) (stab_isV _) (rgV (li := [(27, _)]) rfl (w_free rfl) ⟨g_dep 0 (by kernel_rfl) (at_dep rfl rfl rfl), trivial⟩ (fun w hw => rn_load Tryz.isAgg29 rfl ((below_agree hw 0).cell (Nat.zero_le _) (cell_own (hS.at_ 0 rfl) rfl))) (at_top rfl)) ?_
    refine bl_cons 3 rfl (isV _) (stab_isV _) (rgV (li := [(5, _)]) rfl (w_free rfl) ⟨g_fr (by kernel_rfl) rfl, trivial⟩ (fun w hw => rn_move rfl) (at_top rfl)) ?_
    refine bl_cons 4 rfl (isV _) (stab_isV _) (rgV (li := [(28, _), (29, _)]) rfl (w_free rfl) ⟨g_dep 1 (by kernel_rfl) (at_dep rfl rfl rfl), g_dep 2 (by kernel_rfl) (at_dep rfl rfl rfl), trivial⟩ (fun w hw => rn_indexA  Tryz.underlying29 Tryz.sizeOf3 rfl rfl rfl (by omega) rfl) (at_top rfl)) ?_
    refine bl_cons 5 rfl (isV _) (stab_isV _) (rgV (li := [(30, _)]) rfl (w_free rfl) ⟨g_dep 3 (by kernel_rfl) (at_dep rfl rfl rfl), trivial⟩ (fun w hw => rn_load Tryz.isAgg3 rfl ((below_agree hw 0).cell (Nat.zero_le _) (k1))) (at_top rfl)) ?_
    refine bl_cons 6 rfl (isV _) (stab_isV _) (rgV (li := [(2, _)]) rfl (w_free rfl) ⟨g_fr (by kernel_rfl) rfl, trivial⟩ (fun w hw => rn_field (o' := 3) fa_66_3 rfl rfl) (at_top rfl)) ?_
    refine bl_cons 7 rfl (isV _) (stab_isV _) (rgV (li := [(32, _)]) rfl (w_free rfl) ⟨g_dep 5 (by kernel_rfl) (at_dep rfl rfl rfl), trivial⟩ (fun w hw => rn_load Tryz.isAgg29 rfl ((below_agree hw 0).cell (Nat.zero_le _) (cell_own (hS.at_ 1 rfl) rfl))) (at_top rfl)) ?_
    refine bl_cons 8 rfl (isV _) (stab_isV _) (rgV (li := [(5, _)]) rfl (w_free rfl) ⟨g_fr (by kernel_rfl) rfl, trivial⟩ (fun w hw => rn_move rfl) (at_top rfl)) ?_
    refine bl_cons 9 rfl (isV _) (stab_isV _) (rgV (li := [(33, _), (34, _)]) rfl (w_free rfl) ⟨g_dep 6 (by kernel_rfl) (at_dep rfl rfl rfl), g_dep 7 (by kernel_rfl) (at_dep rfl rfl rfl), trivial⟩ (fun w hw => rn_indexA  Tryz.underlying29 Tryz.sizeOf3 rfl rfl rfl (by omega) rfl) (at_top rfl)) ?_
    refine bl_cons 10 rfl (isV _) (stab_isV _) (rgV (li := [(35, _)]) rfl (w_free rfl) ⟨g_dep 8 (by kernel_rfl) (at_dep rfl rfl rfl), trivial⟩ (fun w hw => rn_load Tryz.isAgg3 rfl ((below_agree hw 0).cell (Nat.zero_le _) (k2))) (at_top rfl)) ?_
    refine bl_cons 11 rfl (isV _) (stab_isV _) (rgV (li := [(31, _), (36, _)]) rfl (w_free rfl) ⟨g_dep 4 (by kernel_rfl) (at_dep rfl rfl rfl), g_dep 9 (by kernel_rfl) (at_dep rfl rfl rfl), trivial⟩ (fun w hw => rn_neq rfl rfl) (at_top rfl)) ?_
    refine bl_nil ?_
    intro W3 hbR hS'
    clear hS; have hS := hS'; clear hS'
    refine fin_v ?_
    refine fin_v ?_
    refine fin_v ?_
    refine fin_v ?_
    refine fin_v ?_
    refine fin_v ?_
    refine fin_v ?_
    refine fin_v ?_
    refine fin_v ?_
    refine fin_v ?_
    refine fin_v ?_
    refine fin_nil ?_
    refine XF.thenN ?_
    refine condF rfl (fun hc => ?_) (fun hc => ?_)
    ·have hc37 := hc; clear hc
     refine seqF (regF ?_)
     refine op_assign rfl rfl ?_
     refine endF (XF.thenN ?_)
     refine retF ?_
     refine XF.blkR ?_
     refine XF.thenR ?_
     refine XF.thenR ?_
     refine XF.blkR ?_
     refine XF.thenR ?_
     refine XF.res (res1 Tryz.results28 rfl) ?_
     exact ⟨rbool (comB_at (r := ⟨rp, rg, rq, _, rwl, rwc, rws, rx⟩) hy hz (by simpa using hc37)).symm, hS.below⟩
    ·have hc37 := hc; clear hc
     refine skipF ?_
     refine XF.blkN ?_
     refine XF.thenN ?_
     refine regF ?_
     refine op_move rfl rfl ?_
     refine op_add rfl rfl (IntWalk.i64_in _ (by omega)) rfl ?_
     refine op_assign rfl rfl ?_
     refine endF ?_
     exact XF.round (rwl - (i + 1)) [(2, _), (3, _), (5, _)] (by omega) ⟨rfl, rfl, rfl, trivial⟩ ⟨i + 1, by omega, rfl, rfl, take_same hall hy hz (by simpa using hc37), hS.clear⟩
   ·have hc24 := of_decide_eq_false hc; clear hc
    have hir : i = rwl := by omega
    rw [hir, ← hrl, List.take_length] at hall
    refine exitF ?_
    refine XF.thenX ?_
    refine XF.thenX ?_
    refine XF.blkX ?_
    refine XF.thenN ?_
    refine seqF (regF ?_)
    refine op_assign rfl rfl ?_
    refine endF (XF.thenN ?_)
    refine retF ?_
    refine XF.res (res1 Tryz.results28 rfl) ?_
    exact ⟨rbool (comB_yes (r := ⟨rp, rg, rq, rwa, rwl, rwc, rws, rx⟩) hq hall).symm, hS.below⟩
theorem comes_is (r : RV) (p : Int) (wa : Option Addr) (wl wc : Nat) (ws : List Int) (w : World) (hrr : Row w r.wa r.ws) (hrl : r.ws.length = r.wl) (hrow : Row w wa ws) (hlen : ws.length = wl) (hwm : wl ≤ 8192) : Calls Tryz.prog 28 #[r.val, .agg #[.int .i64 p, .slice wa wl wc]] w (fun e w' => e = .returned (.bool (comB r p ws)) ∧ Below w.heap.size w w') := comes_c r.p r.g r.q r.wa r.wl r.wc r.ws r.x p wa wl wc ws w hrr hrl hrow hlen hwm
end Go.Proofs.YtfkbkekgnoanaaaGreatDoor
namespace Go.Proofs.YtfkbkekgnoanaaaGreatDoor
open Go Go.RowKit
theorem goes_28 : goesIn Tryz.prog 28 = true := by kernel_rfl
theorem row_one9 {w : World} {B : Nat} {x : Int} (h : w.heap[B]? = some (.cells [Value.int .i64 x].toArray 3 (0, 0))) : Row w (some ⟨B, 0, none⟩) [x] :=
 .inr ⟨B, 0, rfl, fun i hi => by
  have : i = 0 := by simp at hi; exact hi
  subst this
  exact cell_own (cs := [_]) h rfl⟩
theorem backR_c (ds d : Nat) (s : SV) (st sy : Int) (ra : Option Addr) (rl rc : Nat) (rs : List RV) (p : Int) (wa : Option Addr) (wl wc : Nat) (ws : List Int) (w : World) (hs : SIn w ds s) (hprow : RRow w ra rs) (hplen : rs.length = rl) (hin : ∀ r ∈ rs, RIn w d r) (hrow : Row w wa ws) (hlen : ws.length = wl) (hcap : wl ≤ wc) :
  Calls Tryz.prog 9 #[.agg #[.int .i64 s.f.tag, .int .i64 s.f.dim, .slice s.f.a s.f.len s.f.cap, .int .i64 st, .int .i64 sy, .slice ra rl rc], .agg #[.int .i64 p, .slice wa wl wc]] w (NxU (nxE (backF p ws rs 0) (stepE ⟨s, st, sy, ra, rl, rc, rs⟩ ⟨p, wa, wl, wc, ws⟩)) w) := by
 refine enterF (args := [.agg #[.int .i64 s.f.tag, .int .i64 s.f.dim, .slice s.f.a s.f.len s.f.cap, .int .i64 st, .int .i64 sy, .slice ra rl rc], .agg #[.int .i64 p, .slice wa wl wc]]) Tryz.func9 rfl Tryz.ntmps9 rfl ?_
 have hS := St.start w
 refine seqF (regF ?_)
 refine op_box (cs := [_, _, _, _, _, _]) hS rfl rfl rfl ?_
 clear hS; intro B1 W1 hS
 refine op_box (cs := [_, _]) hS rfl rfl rfl ?_
 clear hS; intro B2 W2 hS
 refine op_assign rfl rfl ?_
 refine op_assign rfl rfl ?_
 refine op_assign rfl rfl ?_
 refine endF (XF.thenN ?_)
 refine seqF (regF ?_)
 refine op_loadA (vs := [_, _, _, _, _, _]) Tryz.isAgg28 Tryz.sizeOf28 rfl (CellsAt.own (j := 0) (m := 6) (hS.at_ 1 rfl) rfl) rfl ?_
 refine op_loadA (vs := [_, _]) Tryz.isAgg31 Tryz.sizeOf31 rfl (CellsAt.own (j := 0) (m := 2) (hS.at_ 0 rfl) rfl) rfl ?_
 refine op_call (vs := [_, _]) hS goes_13 rfl (stepR_is ds d ⟨s, st, sy, ra, rl, rc, rs⟩ ⟨p, wa, wl, wc, ws⟩ _ (PvIn.below ⟨hs, hprow, hplen, hin⟩ hS.below) (CIn.below ⟨hrow, hlen⟩ hS.below)) rfl ?_
 rintro e W3 ⟨rfl, hb⟩
 refine ⟨_, rfl, hb, fun hS' => ?_⟩
 clear hS; have hS := hS'; clear hS' hb
 refine op_assign rfl rfl ?_
 refine endF (XF.thenN ?_)
 refine seqF ?_
 refine seqF (regF ?_)
 refine op_move rfl rfl ?_
 refine op_neq rfl rfl rfl ?_
 refine endF (XF.thenN ?_)
 refine condF rfl (fun hc => ?_) (fun hc => ?_)
 ·have hc17 := of_decide_eq_true hc; clear hc
  refine seqF (regF ?_)
  refine op_move rfl rfl ?_
  refine op_assign rfl rfl ?_
  refine op_assign rfl rfl ?_
  refine op_assign rfl rfl ?_
  refine endF (XF.thenN ?_)
  refine retF ?_
  refine XF.thenR ?_
  refine XF.res (res3 Tryz.results9 rfl rfl rfl) ?_
  exact nxU_no (nxE_bad hc17) hS.below
 ·have hc17 := of_decide_eq_false hc; clear hc
  have hE : stepE ⟨s, st, sy, ra, rl, rc, rs⟩ ⟨p, wa, wl, wc, ws⟩ = 0 := Decidable.of_not_not hc17
  have ok := stepOk hE
  have hok1 : rl ≤ 16384 := ok.rl
  have hok2 : wl ≤ 4096 := ok.cw
  refine skipF ?_
  refine XF.thenN ?_
  refine seqF (regF ?_)
  refine op_assign rfl rfl ?_
  refine endF (XF.thenN ?_)
  refine seqF (regF ?_)
  refine op_assign rfl rfl ?_
  refine endF (XF.thenN ?_)
  refine seqF ?_
  refine seqF ?_
  have hS := (hS.newG 31 2).newG 3 1
  refine regF ?_
  refine op_assign rfl rfl ?_
  refine endF (XF.thenN ?_)
  refine blockF ?_
  refine loopF (fun m l W => ∃ (i : Nat) (v8 v9 : Value) (acc : NxL) (cs : List CV) (Kk : List (Nat × World)), i ≤ rl ∧ m = rl - i ∧ l = [(2, .pointer (some ⟨B1, 0, none⟩)), (3, .pointer (some ⟨B2, 0, none⟩)), (8, v8), (9, v9), (10, .int .i64 (i : Int))] ∧ (backF p ws (rs.drop i) i).map (acc ++ ·) = backF p ws rs 0 ∧ acc.length ≤ i ∧ cs.map CV.pl = acc.map (·.2) ∧ Held w Kk (fun W2 => ∀ c ∈ cs, CHeld w.heap.size W2 c) ∧ St w [(B2, [.int .i64 p, .slice wa wl wc], 31), (B1, [.int .i64 s.f.tag, .int .i64 s.f.dim, .slice s.f.a s.f.len s.f.cap, .int .i64 st, .int .i64 sy, .slice ra rl rc], 28)] [⟨v8, acc.length, (acc.map (·.1)).map (Value.int .i64), 3, 1⟩, ⟨v9, cs.length, cs.flatMap two9, 31, 2⟩] Kk W) (rl - 0) ([(2, _), (3, _), (8, _), (9, _), (10, _)]) ⟨rfl, rfl, rfl, rfl, rfl, trivial⟩ (⟨0, _, _, [], [], [], Nat.zero_le _, rfl, rfl, by rw [List.drop_zero]; cases backF p ws rs 0 <;> rfl, Nat.le_refl _, rfl, (fun _ _ c hc => by cases hc), hS.clear⟩) ?_
  clear hS
  rintro m l W ⟨i, v8, v9, acc, cs, Kk, hi, rfl, rfl, hrun, hacc, hcs9, hX, hS⟩
  refine seqF ?_
  refine seqF (regF ?_)
  refine op_move rfl rfl ?_
  refine op_field (o' := 5) fa_28_3 rfl rfl rfl ?_
  refine op_load Tryz.isAgg26 rfl (cell_own (hS.at_ 1 rfl) rfl) rfl ?_
  refine op_len Tryz.underlying26 rfl rfl ?_
  refine op_lss rfl rfl rfl ?_
  refine endF (XF.thenN ?_)
  refine condF rfl (fun hc => ?_) (fun hc => ?_)
  ·have hc23 := of_decide_eq_true hc; clear hc
   have hk : i < rl := by omega
   obtain ⟨r, hr⟩ : ∃ r, rs[i]? = some r := ⟨rs[i]'(by omega), by simp [show i < rs.length by omega]⟩
   obtain ⟨b, off, rfl, hcs⟩ := hprow.at_ hr
   have k1 := CellsAt.agree hS.agree (Nat.zero_le _) hcs
   have hri := hin r (List.mem_of_getElem? hr)
   have hr4 := ok.w4 r (List.mem_of_getElem? hr)
   have hcl : cs.length = acc.length := by have := congrArg List.length hcs9; simpa using this
   rw [drop_at9 hr] at hrun
   refine skipF ?_
   refine XF.thenN ?_
   refine seqF ?_
   refine blockF ?_
   refine seqF (regF ?_)
   refine op_field (o' := 5) fa_28_3 rfl rfl rfl ?_
   refine op_load Tryz.isAgg26 rfl (cell_own (hS.at_ 1 rfl) rfl) rfl ?_
   refine op_move rfl rfl ?_
   refine op_indexA  Tryz.underlying26 Tryz.sizeOf66 rfl rfl rfl (by omega) rfl rfl ?_
   refine op_loadA (vs := [_, _, _, _, _, _, _, _, _, _]) Tryz.isAgg66 Tryz.sizeOf66 rfl (k1) rfl ?_
   refine op_alloc (cs := [_, _, _, _, _, _, _, _, _, _]) hS Tryz.zeroValue66 rfl rfl ?_
   clear hS; intro B4 W4 hS
   refine op_storeA (i := 0) (vs := [_, _, _, _, _, _, _, _, _, _]) (cs' := [_, _, _, _, _, _, _, _, _, _]) (O' := [_, _, _]) hS Tryz.sizeOf66 rfl rfl rfl rfl rfl rfl rfl ?_
   clear hS; intro W5 hS
   refine endF (XF.thenN ?_)
   refine seqF ?_
   refine seqF (regF ?_)
   refine op_loadA (vs := [_, _, _, _, _, _, _, _, _, _]) Tryz.isAgg66 Tryz.sizeOf66 rfl (CellsAt.own (j := 0) (m := 10) (hS.at_ 0 rfl) rfl) rfl ?_
   refine op_loadA (vs := [_, _]) Tryz.isAgg31 Tryz.sizeOf31 rfl (CellsAt.own (j := 0) (m := 2) (hS.at_ 1 rfl) rfl) rfl ?_
   refine op_call (vs := [_, _]) hS goes_28 rfl (comes_is r p _ wl wc ws _ (hri.row.below hS.below) hri.len (hrow.below hS.below) hlen (by omega)) rfl ?_
   rintro e W6 ⟨rfl, hb⟩
   refine ⟨_, rfl, hb, fun hS' => ?_⟩
   clear hS; have hS := hS'; clear hS' hb
   refine op_not rfl rfl ?_
   refine endF (XF.thenN ?_)
   refine condF rfl (fun hc => ?_) (fun hc => ?_)
   ·have hc34 := hc; clear hc
    have hcm : comB r p ws = false := by simpa using hc34
    refine exitF ?_
    refine XF.thenX ?_
    refine XF.blkX ?_
    refine XF.thenN ?_
    refine regF ?_
    refine op_move rfl rfl ?_
    refine op_add rfl rfl (IntWalk.i64_in _ (by omega)) rfl ?_
    refine op_assign rfl rfl ?_
    refine endF ?_
    exact XF.round (rl - (i + 1)) [(2, _), (3, _), (8, _), (9, _), (10, _)] (by omega) ⟨rfl, rfl, rfl, rfl, rfl, trivial⟩ ⟨i + 1, v8, v9, acc, cs, _, by omega, rfl, rfl, by rw [← hrun, back_skip hcm], by omega, hcs9, hX.more (fun q hq => by simp [hq]), hS.tail⟩
   ·have hc34 := hc; clear hc
    have hcm : comB r p ws = true := by simpa using hc34
    have hle := comB_le hcm
    rw [hri.len, hlen] at hle
    refine skipF ?_
    refine XF.thenN ?_
    refine seqF ?_
    have hsz11 := hS.below.size
    refine regY (al := [⟨12, 31, [.int .i64 0, .slice none 0 0], 26⟩]) (G := fun _ => [⟨v8, acc.length, (acc.map (·.1)).map (Value.int .i64), 3, 1⟩, ⟨v9, cs.length, cs.flatMap two9, 31, 2⟩]) (E := [12]) (k := 13) (ds := []) followsM rfl hS rfl rfl (by kernel_rfl) (by kernel_rfl) rfl (by decide) rfl ?_
    refine bly_cons 1 rfl (isV _) (syV fst_take [(11, _)] rfl rfl (fun _ => (w_free rfl)) (fun _ => ⟨g_fr (by kernel_rfl) rfl, trivial⟩) (fun s w hw => rn_field (o' := 0) fa_66_0 rfl rfl) (at_top rfl)) ?_
    refine bly_cons 2 rfl (isV _) (syV fst_take [(35, _)] rfl rfl (fun _ => (w_free rfl)) (fun _ => ⟨g_dep 0 (by kernel_rfl) (at_n rfl rfl (at_dep rfl rfl rfl)), trivial⟩) (fun s w hw => rn_load Tryz.isAgg3 rfl ((cell_own (hw.at_ 0 rfl) rfl))) (at_top rfl)) ?_
    refine bly_cons 3 rfl (isV _) (syV fst_take [(11, _)] rfl rfl (fun _ => (w_free rfl)) (fun _ => ⟨g_fr (by kernel_rfl) rfl, trivial⟩) (fun s w hw => rn_field (o' := 1) fa_66_1 rfl rfl) (at_top rfl)) ?_
    refine bly_cons 4 rfl (isV _) (syV fst_take [(37, _)] rfl rfl (fun _ => (w_free rfl)) (fun _ => ⟨g_dep 2 (by kernel_rfl) (at_n rfl rfl (at_dep rfl rfl rfl)), trivial⟩) (fun s w hw => rn_load Tryz.isAgg3 rfl ((cell_own (hw.at_ 0 rfl) rfl))) (at_top rfl)) ?_
    refine bly_cons 5 rfl (isRow W6.heap.size 1 3 _) (sy_rowV fst_take (us := [.int .i64 _]) rfl rfl (fun _ => (w_free rfl)) Tryz.underlying29 Tryz.sizeOf3 Tryz.zeroValue3 rfl rfl (fun _ => ⟨p_tmp (g_dep 3 (by kernel_rfl) (at_n rfl rfl (at_dep rfl rfl rfl))), trivial⟩) (bs_29_1 _) (at_top rfl)) ?_
    refine bly_cons 6 rfl (isV _) (syV fst_take [(3, _)] rfl rfl (fun _ => (w_free rfl)) (fun _ => ⟨g_fr (by kernel_rfl) rfl, trivial⟩) (fun s w hw => rn_field (o' := 1) fa_31_1 rfl rfl) (at_top rfl)) ?_
    refine bly_cons 7 rfl (isV _) (syV fst_take [(40, _)] rfl rfl (fun _ => (w_free rfl)) (fun _ => ⟨g_dep 5 (by kernel_rfl) (at_n rfl rfl (at_dep rfl rfl rfl)), trivial⟩) (fun s w hw => rn_load Tryz.isAgg29 rfl ((cell_own (hw.at_ 1 rfl) rfl))) (at_top rfl)) ?_
    refine bly_cons 8 rfl (isV _) (syV fst_take [(11, _)] rfl rfl (fun _ => (w_free rfl)) (fun _ => ⟨g_fr (by kernel_rfl) rfl, trivial⟩) (fun s w hw => rn_field (o' := 3) fa_66_3 rfl rfl) (at_top rfl)) ?_
    refine bly_cons 9 rfl (isV _) (syV fst_take [(42, _)] rfl rfl (fun _ => (w_free rfl)) (fun _ => ⟨g_dep 7 (by kernel_rfl) (at_n rfl rfl (at_dep rfl rfl rfl)), trivial⟩) (fun s w hw => rn_load Tryz.isAgg29 rfl ((cell_own (hw.at_ 0 rfl) rfl))) (at_top rfl)) ?_
    refine bly_cons 10 rfl (isV _) (syV fst_take [(43, _)] rfl rfl (fun _ => (w_free rfl)) (fun _ => ⟨g_dep 8 (by kernel_rfl) (at_n rfl rfl (at_dep rfl rfl rfl)), trivial⟩) (fun s w hw => rn_len Tryz.underlying29 rfl) (at_top rfl)) ?_
    refine bly_cons 11 rfl (isV _) (syV fst_take [(41, _), (44, _)] rfl rfl (fun _ => (w_free rfl)) (fun _ => ⟨g_dep 6 (by kernel_rfl) (at_n rfl rfl (at_dep rfl rfl rfl)), g_dep 9 (by kernel_rfl) (at_n rfl rfl (at_dep rfl rfl rfl)), trivial⟩) (fun s w hw => rn_sliceFrom  Tryz.underlying29 Tryz.sizeOf3 rfl rfl rfl (by omega)) (at_top rfl)) ?_
    refine bly_cons 12 rfl (isConfN W6.heap.size r.p (r.g :: ws.drop r.wl)) (sy_call fst_take (fun s => [isV _, isRow W6.heap.size 1 3 [.int .i64 r.g], isV _]) rfl rfl goes_29 (fun _ => w_free rfl) (fun s => ⟨p_tmp (g_dep 1 (by kernel_rfl) (at_n rfl rfl (at_dep rfl rfl rfl))), p_tmp (g_dep 4 (by kernel_rfl) (at_n rfl rfl (at_dep rfl rfl rfl))), p_tmp (g_dep 10 (by kernel_rfl) (at_n rfl rfl (at_dep rfl rfl rfl))), trivial⟩) (fun vs s w' hk hw hlo hh => by
      obtain ⟨v1, v2, v3, rfl, e1, ⟨BB, rfl, hB1, hB2⟩, e3⟩ := holds3 hh
      have e1 : v1 = _ := e1
      have e3 : v3 = _ := e3
      subst e1; subst e3
      exact cret_givesN hlo (behind_c r.p _ _ _ _ _ _ [r.g] (ws.drop r.wl) w' (row_one9 hB2) rfl (Row.dropN (hrow.below hw.below) hlen hle hcap (fun e => if_pos e) (fun e => if_neg e)) (by rw [List.length_drop, hlen]) (by decide) (by omega))) (at_top rfl)) ?_
    refine bly_cons 13 rfl (isPtr W6.heap.size) (sy_alloc ⟨12, 31, [.int .i64 0, .slice none 0 0], 26⟩ rfl rfl Tryz.zeroValue31 List.mem_cons_self rfl rfl rfl (.inr rfl) (by decide) rfl (fun _ _ => rfl) (at_top rfl)) ?_
    refine bly_nil ?_
    intro s7 W7 Ks7 hall7 hsz7 hKs7 hS' hcov7 hfx7 hno7
    obtain ⟨v7_12, h7_12⟩ := hall7 12 rfl
    have f7_12 : AwS _ _ (isPtr W6.heap.size) _ _ := hfx7 12 rfl _ h7_12
    obtain ⟨B7_12, rfl, hB7_12⟩ := f7_12.here
    clear hS; have hS := hS'.castO (O' := [(B7_12, _, 31), _, _, _]) (by simp only [OY, AS_cons, AB.cs, h7_12, hno7 26 rfl]; rfl); clear hS'
    refine castL (L' := [AwS _ _ (isV _), AwS _ _ (isV _), AwS _ _ (isV _), AwS _ _ (isV _), AwS _ _ (isRow W6.heap.size 1 3 _), AwS _ _ (isV _), AwS _ _ (isV _), AwS _ _ (isV _), AwS _ _ (isV _), AwS _ _ (isV _), AwS _ _ (isV _), AwS _ _ (isConfN W6.heap.size r.p (r.g :: ws.drop r.wl)), isE s7 12]) rfl ?_
    refine fin_sV ?_
    refine fin_sV ?_
    refine fin_sV ?_
    refine fin_sV ?_
    refine fin_p ?_; intro _ _
    refine fin_sV ?_
    refine fin_sV ?_
    refine fin_sV ?_
    refine fin_sV ?_
    refine fin_sV ?_
    refine fin_sV ?_
    refine fin_p ?_; intro v46 h46; obtain ⟨aD, cD, rfl, hnD⟩ := h46.here
    refine fin_p ?_; intro u hu; obtain rfl := Option.some.inj (h7_12.symm.trans hu); clear hu
    have HD : Held w Ks7 (fun W2 => RowN _ W2 aD cD (r.g :: ws.drop r.wl)) := fun h2 hk => confN_row9 (h46 _ (hcov7 h2 hk))
    refine fin_nil ?_
    refine op_storeA (i := 0) (vs := [_, _]) (cs' := [_, _]) (O' := [_, _, _, _]) hS Tryz.sizeOf31 rfl rfl rfl rfl rfl rfl rfl ?_
    clear hS; intro W8 hS
    refine endF (XF.thenN ?_)
    refine seqF ?_
    refine seqF (regF ?_)
    refine op_loadA (vs := [_, _]) Tryz.isAgg31 Tryz.sizeOf31 rfl (CellsAt.own (j := 0) (m := 2) (hS.at_ 0 rfl) rfl) rfl ?_
    refine op_call (vs := [_]) hS goes_25 rfl (long_is ⟨r.p, aD, (r.g :: ws.drop r.wl).length, cD, r.g :: ws.drop r.wl⟩ _) rfl ?_
    rintro e W9 ⟨rfl, hb⟩
    refine ⟨_, rfl, hb, fun hS' => ?_⟩
    clear hS; have hS := hS'; clear hS' hb
    refine endF (XF.thenN ?_)
    refine condF rfl (fun hc => ?_) (fun hc => ?_)
    ·have hc48 := hc; clear hc
     have hlong : 4096 < 1 + (ws.length - r.wl) := by have h9 : 4096 < (r.g :: ws.drop r.wl).length := of_decide_eq_true hc48; rw [List.length_cons, List.length_drop] at h9; omega
     refine seqF (regF ?_)
     refine op_assign rfl rfl ?_
     refine op_assign rfl rfl ?_
     refine op_assign rfl rfl ?_
     refine endF (XF.thenN ?_)
     refine retF ?_
     refine XF.thenR ?_
     refine XF.blkR ?_
     refine XF.thenR ?_
     refine XF.thenR ?_
     refine XF.blkR ?_
     refine XF.thenR ?_
     refine XF.res (res3 Tryz.results9 rfl rfl rfl) ?_
     exact nxU_no (nxE_none hE (by rw [← hrun, back_long hcm hlong]; rfl)) hS.below
    ·have hc48 := hc; clear hc
     have hlong : ¬ 4096 < 1 + (ws.length - r.wl) := by have h9 : ¬ 4096 < (r.g :: ws.drop r.wl).length := of_decide_eq_false hc48; rw [List.length_cons, List.length_drop] at h9; omega
     refine skipF ?_
     refine XF.thenN ?_
     refine regCF (Gs := gsC _ [(0, fun v => ⟨v, acc.length + 1, (acc.map (·.1)).map (Value.int .i64) ++ [.int .i64 (i : Int)], 3, 1⟩)]) (efs := [3]) (k := 7) (ds := [8, 9, 56]) followsM rfl hS rfl (by kernel_rfl) (by kernel_rfl) rfl (by decide) rfl rfl ?_
     refine blc_consF 1 rfl rfl (isV _) (fun hNo => scVF fst_take [(8, _)] rfl rfl hNo (w_free rfl) ⟨g_fr (by kernel_rfl) rfl, trivial⟩ (fun s w hw => rn_move rfl) (at_top rfl)) ?_
     refine blc_consF 2 rfl rfl (isV _) (fun hNo => scVF fst_take [(10, _)] rfl rfl hNo (w_free rfl) ⟨g_fr (by kernel_rfl) rfl, trivial⟩ (fun s w hw => rn_move rfl) (at_top rfl)) ?_
     refine blc_consF 3 rfl rfl (isRow W9.heap.size 1 3 _) (fun hNo => sc_rowVF fst_take (us := [.int .i64 _]) rfl rfl hNo (w_free rfl) Tryz.underlying29 Tryz.sizeOf3 Tryz.zeroValue3 rfl rfl ⟨p_tmp (g_dep 1 (by kernel_rfl) (at_dep rfl rfl rfl)), trivial⟩ (bs_29_1 _) (at_top rfl)) ?_
     refine blc_anyF 4 rfl (sc_appF (efs := [3]) (jy := 2) (m := 1) fst_take 0 0 [(49, _)] rfl rfl (by decide) rfl (fun j hj => by simp at hj; subst hj; rfl) Tryz.underlying29 inf_3 rfl rfl (by show 0 < 1; decide) (hg0 rfl) (hgs0 (fun _ => rfl)) ⟨g_dep 0 (by kernel_rfl) (at_dep rfl rfl rfl), trivial⟩ rfl (by kernel_rfl) rfl rfl rfl rfl (by simp only [maxLen]; omega) (by show (acc.length + 1) * 8 ≤ _; omega)) ?_
     refine blc_consF 5 rfl rfl (isV _) (fun hNo => scVF fst_take [(9, _)] rfl rfl hNo (w_free rfl) ⟨g_fr (by kernel_rfl) rfl, trivial⟩ (fun s w hw => rn_move rfl) (at_top rfl)) ?_
     refine blc_consF 6 rfl rfl (isV _) (fun hNo => scVF fst_take [(12, _)] rfl rfl hNo (w_free rfl) ⟨g_fr (by kernel_rfl) rfl, trivial⟩ (fun s w hw => rn_loadA (vs := [_, _]) Tryz.isAgg31 Tryz.sizeOf31 rfl ((CellsAt.own (j := 0) (m := 2) (hw.at_ 0 rfl) rfl))) (at_top rfl)) ?_
     refine blc_consF 7 rfl rfl (isRow W9.heap.size 1 31 _) (fun hNo => sc_rowVF fst_take (us := [.agg (List.toArray [_, _])]) rfl rfl hNo (w_free rfl) Tryz.underlying32 Tryz.sizeOf31 Tryz.zeroValue31 rfl rfl ⟨p_tmp (g_dep 5 (by kernel_rfl) (at_dep rfl rfl rfl)), trivial⟩ (bs_32_1 _ _) (at_top rfl)) ?_
     refine blc_nilF ?_
     intro s10 W10 Ks10 hlen10 hsz10 hKs10 hS' hcov10
     obtain ⟨v10_3, rfl⟩ := List.length_eq_one_iff.1 hlen10
     clear hS; have hS := hS'.castG (G' := [_, _]) rfl; clear hS'
     refine castL (L' := [AwS _ _ (isV _), AwS _ _ (isV _), AwS _ _ (isRow W9.heap.size 1 3 _), isV _, AwS _ _ (isV _), AwS _ _ (isV _), AwS _ _ (isRow W9.heap.size 1 31 _)]) rfl ?_
     refine fin_sV ?_
     refine fin_sV ?_
     refine fin_p ?_; rintro _ hA10_2; obtain ⟨BR2, rfl, hlo2, hrow2⟩ := hA10_2.here
     refine fin_v ?_
     refine fin_sV ?_
     refine fin_sV ?_
     refine fin_p ?_; rintro _ hA10_6; obtain ⟨BR6, rfl, hlo6, hrow6⟩ := hA10_6.here
     refine fin_nil ?_
     refine op_appendV (i := 1) (news := [.int .i64 r.p, .slice aD (r.g :: ws.drop r.wl).length cD]) hS Tryz.underlying32 inf_31 rfl rfl (by show 0 < 2; decide) rfl rfl rfl rfl rfl (rowSrc hrow6) (rfl) (fun u hu => by simp at hu; rcases hu with rfl | rfl <;> rfl) (by dsimp only; simp only [maxLen]; omega) (by dsimp only; show (cs.length + 1) * 32 ≤ _; omega) rfl ?_
     clear hS; intro v11 W11 hS
     refine op_assign rfl rfl ?_
     refine op_assign rfl rfl ?_
     refine endF ?_
     refine XF.blkN ?_
     refine XF.thenN ?_
     refine regF ?_
     refine op_move rfl rfl ?_
     refine op_add rfl rfl (IntWalk.i64_in _ (by omega)) rfl ?_
     refine op_assign rfl rfl ?_
     refine endF ?_
     exact XF.round (rl - (i + 1)) [(2, _), (3, _), (8, _), (9, _), (10, _)] (by omega) ⟨rfl, rfl, rfl, rfl, rfl, trivial⟩ ⟨i + 1, _, _, acc ++ [((i : Int), r.p, r.g :: ws.drop r.wl)], cs ++ [⟨r.p, aD, (r.g :: ws.drop r.wl).length, cD, r.g :: ws.drop r.wl⟩], _, by omega, rfl, rfl, by rw [← hrun, back_fit hcm hlong, Option.map_map]; congr 1; funext z; simp, by simp; omega, by simp [hcs9, CV.pl], (fun h2 hk c hc => by
       rcases List.mem_append.1 hc with hc | hc
       ·exact hX h2 (fun q hq => hk q (by simp [hq])) c hc
       ·simp at hc; subst hc
        exact ⟨(HD h2 (fun q hq => hk q (by simp [hq]))).mono hsz11, by simp⟩), hS.tail.tail.castG (by simp [two9])⟩
  ·have hc23 := of_decide_eq_false hc; clear hc
   rw [List.drop_of_length_le (by omega)] at hrun
   refine exitF ?_
   refine XF.thenX ?_
   refine XF.thenX ?_
   refine XF.blkX ?_
   refine XF.thenN ?_
   refine seqF (regF ?_)
   refine op_move rfl rfl ?_
   refine op_move rfl rfl ?_
   refine op_assign rfl rfl ?_
   refine op_assign rfl rfl ?_
   refine op_assign rfl rfl ?_
   refine endF (XF.thenN ?_)
   refine retF ?_
   refine XF.res (res3 Tryz.results9 rfl rfl rfl) ?_
   exact nxU_yes hE (by rw [← hrun]; simp [backF]) (hS.row 0 rfl) ⟨cs, hS.row 1 rfl, hcs9, hX.now hS⟩ hS.below
end Go.Proofs.YtfkbkekgnoanaaaGreatDoor
namespace Go.Proofs.YtfkbkekgnoanaaaGreatDoor
open Go Go.RowKit
theorem goes_26 : goesIn Tryz.prog 26 = true := by kernel_rfl
theorem Row.takeG {w : World} {a : Option Addr} {zs : List Int} {c : Nat} (h : Row w a zs) (hc : zs.length ≤ c) (k : Nat) : Row w (if c = 0 then a else a.map (·.add (0 * 1))) (zs.take k) := by
 by_cases h0 : c = 0
 ·exact .inl (by rw [List.eq_nil_of_length_eq_zero (show zs.length = 0 by omega)]; simp)
 ·rw [if_neg h0]
  rcases h with rfl | ⟨b, off, rfl, h1⟩
  ·exact .inl (by simp)
  ·refine .inr ⟨b, off, by simp [Addr.add_lit], fun i hi => ?_⟩
   rw [List.length_take] at hi
   rw [h1 i (by omega)]
   simp [List.getD, List.getElem?_take, show i < k by omega]
theorem comB_no {r : RV} {p : Int} {ws : List Int} (h : ¬ r.ws = ws.take r.ws.length) : comB r p ws = false := by
 unfold comB
 rw [decide_eq_false h, Bool.and_false]
theorem rpl_no {R : Option (Int × List Int)} {w w' : World} {e : Ending} (hR : R = none) (h : RplRet R w e w') : e = .returned (.tuple #[.agg #[.int .i64 0, .slice none 0 0], .bool false]) ∧ Below w.heap.size w w' := by subst hR; exact ⟨h.2, h.1⟩
theorem rpl_yes {R : Option (Int × List Int)} {w w' : World} {e : Ending} {p : Int} {xs : List Int} (hR : R = some (p, xs)) (h : RplRet R w e w') : ∃ a c, e = .returned (.tuple #[.agg #[.int .i64 p, .slice a xs.length c], .bool true]) ∧ RowN w.heap.size w' a c xs ∧ Below w.heap.size w w' := by
 subst hR
 obtain ⟨hb, a, c, h1, h2⟩ := h
 exact ⟨a, c, h1, h2, hb⟩
theorem backA_c (ds d : Nat) (s : SV) (st sy : Int) (ra : Option Addr) (rl rc : Nat) (rs : List RV) (p : Int) (wa : Option Addr) (wl wc : Nat) (ws : List Int) (w : World) (hs : SIn w ds s) (hprow : RRow w ra rs) (hplen : rs.length = rl) (hin : ∀ r ∈ rs, RIn w d r) (hrow : Row w wa ws) (hlen : ws.length = wl) (hcap : wl ≤ wc) :
  Calls Tryz.prog 8 #[.agg #[.int .i64 s.f.tag, .int .i64 s.f.dim, .slice s.f.a s.f.len s.f.cap, .int .i64 st, .int .i64 sy, .slice ra rl rc], .agg #[.int .i64 p, .slice wa wl wc]] w (NxU (nxE (backF p ws rs 0) (stepE ⟨s, st, sy, ra, rl, rc, rs⟩ ⟨p, wa, wl, wc, ws⟩)) w) := by
 refine enterF (args := [.agg #[.int .i64 s.f.tag, .int .i64 s.f.dim, .slice s.f.a s.f.len s.f.cap, .int .i64 st, .int .i64 sy, .slice ra rl rc], .agg #[.int .i64 p, .slice wa wl wc]]) Tryz.func8 rfl Tryz.ntmps8 rfl ?_
 have hS := St.start w
 refine seqF (regF ?_)
 refine op_box (cs := [_, _, _, _, _, _]) hS rfl rfl rfl ?_
 clear hS; intro B1 W1 hS
 refine op_box (cs := [_, _]) hS rfl rfl rfl ?_
 clear hS; intro B2 W2 hS
 refine op_assign rfl rfl ?_
 refine op_assign rfl rfl ?_
 refine op_assign rfl rfl ?_
 refine endF (XF.thenN ?_)
 refine seqF ?_
 refine seqF (regF ?_)
 refine op_loadA (vs := [_, _, _, _, _, _]) Tryz.isAgg28 Tryz.sizeOf28 rfl (CellsAt.own (j := 0) (m := 6) (hS.at_ 1 rfl) rfl) rfl ?_
 refine op_loadA (vs := [_, _]) Tryz.isAgg31 Tryz.sizeOf31 rfl (CellsAt.own (j := 0) (m := 2) (hS.at_ 0 rfl) rfl) rfl ?_
 refine op_call (vs := [_, _]) hS goes_12 rfl (stepA_is ds d ⟨s, st, sy, ra, rl, rc, rs⟩ ⟨p, wa, wl, wc, ws⟩ _ (PvIn.below ⟨hs, hprow, hplen, hin⟩ hS.below) (CIn.below ⟨hrow, hlen⟩ hS.below)) rfl ?_
 rintro e W3 ⟨rfl, hb⟩
 refine ⟨_, rfl, hb, fun hS' => ?_⟩
 clear hS; have hS := hS'; clear hS' hb
 refine op_assign rfl rfl ?_
 refine endF (XF.thenN ?_)
 refine seqF (regF ?_)
 refine op_move rfl rfl ?_
 refine op_neq rfl rfl rfl ?_
 refine endF (XF.thenN ?_)
 refine condF rfl (fun hc => ?_) (fun hc => ?_)
 ·have hc19 := of_decide_eq_true hc; clear hc
  refine seqF (regF ?_)
  refine op_move rfl rfl ?_
  refine op_assign rfl rfl ?_
  refine op_assign rfl rfl ?_
  refine op_assign rfl rfl ?_
  refine endF (XF.thenN ?_)
  refine retF ?_
  refine XF.thenR ?_
  refine XF.res (res3 Tryz.results8 rfl rfl rfl) ?_
  exact nxU_no (nxE_bad hc19) hS.below
 ·have hc19 := of_decide_eq_false hc; clear hc
  have hE : stepE ⟨s, st, sy, ra, rl, rc, rs⟩ ⟨p, wa, wl, wc, ws⟩ = 0 := Decidable.of_not_not hc19
  have ok := stepOk hE
  have hok1 : rl ≤ 16384 := ok.rl
  have hok2 : wl ≤ 4096 := ok.cw
  refine skipF ?_
  refine XF.thenN ?_
  refine seqF (regF ?_)
  refine op_assign rfl rfl ?_
  refine endF (XF.thenN ?_)
  refine seqF (regF ?_)
  refine op_assign rfl rfl ?_
  refine endF (XF.thenN ?_)
  refine seqF ?_
  refine seqF ?_
  have hS := (hS.newG 31 2).newG 3 1
  refine regF ?_
  refine op_field (o' := 5) fa_28_3 rfl rfl rfl ?_
  refine op_load Tryz.isAgg26 rfl (cell_own (hS.at_ 1 rfl) rfl) rfl ?_
  refine op_len Tryz.underlying26 rfl rfl ?_
  refine op_move rfl rfl ?_
  refine endF (XF.thenN ?_)
  refine blockF ?_
  refine loopF (fun m l W => ∃ (i : Nat) (v8 v9 : Value) (acc : NxL) (cs : List CV) (Kk : List (Nat × World)), i ≤ rl ∧ m = rl - i ∧ l = [(2, .pointer (some ⟨B1, 0, none⟩)), (3, .pointer (some ⟨B2, 0, none⟩)), (8, v8), (9, v9), (22, .slice ra rl rc), (23, .int .i64 (rl : Int)), (24, .int .i64 (i : Int))] ∧ (backF p ws (rs.drop i) i).map (acc ++ ·) = backF p ws rs 0 ∧ acc.length ≤ i ∧ cs.map CV.pl = acc.map (·.2) ∧ Held w Kk (fun W2 => ∀ c ∈ cs, CHeld w.heap.size W2 c) ∧ St w [(B2, [.int .i64 p, .slice wa wl wc], 31), (B1, [.int .i64 s.f.tag, .int .i64 s.f.dim, .slice s.f.a s.f.len s.f.cap, .int .i64 st, .int .i64 sy, .slice ra rl rc], 28)] [⟨v8, acc.length, (acc.map (·.1)).map (Value.int .i64), 3, 1⟩, ⟨v9, cs.length, cs.flatMap two9, 31, 2⟩] Kk W) (rl - 0) ([(2, _), (3, _), (8, _), (9, _), (22, _), (23, _), (24, _)]) ⟨rfl, rfl, rfl, rfl, rfl, rfl, rfl, trivial⟩ (⟨0, _, _, [], [], [], Nat.zero_le _, rfl, rfl, by rw [List.drop_zero]; cases backF p ws rs 0 <;> rfl, Nat.le_refl _, rfl, (fun _ _ c hc => by cases hc), hS.clear⟩) ?_
  clear hS
  rintro m l W ⟨i, v8, v9, acc, cs, Kk, hi, rfl, rfl, hrun, hacc, hcs9, hX, hS⟩
  refine seqF (regF ?_)
  refine op_lss rfl rfl rfl ?_
  refine endF (XF.thenN ?_)
  refine seqF ?_
  refine condF rfl (fun hc => ?_) (fun hc => ?_)
  ·have hc25 := of_decide_eq_true hc; clear hc
   have hk : i < rl := by omega
   obtain ⟨r, hr⟩ : ∃ r, rs[i]? = some r := ⟨rs[i]'(by omega), by simp [show i < rs.length by omega]⟩
   obtain ⟨b, off, rfl, hcs⟩ := hprow.at_ hr
   have k1 := CellsAt.agree hS.agree (Nat.zero_le _) hcs
   have hri := hin r (List.mem_of_getElem? hr)
   have hr4 := ok.w4 r (List.mem_of_getElem? hr)
   have hcl : cs.length = acc.length := by have := congrArg List.length hcs9; simpa using this
   rw [drop_at9 hr] at hrun
   refine skipF ?_
   refine XF.thenN ?_
   refine seqF ?_
   refine blockF ?_
   refine seqF (regF ?_)
   refine op_move rfl rfl ?_
   refine op_indexA  Tryz.underlying26 Tryz.sizeOf66 rfl rfl rfl (by omega) rfl rfl ?_
   refine op_loadA (vs := [_, _, _, _, _, _, _, _, _, _]) Tryz.isAgg66 Tryz.sizeOf66 rfl (k1) rfl ?_
   refine op_alloc (cs := [_, _, _, _, _, _, _, _, _, _]) hS Tryz.zeroValue66 rfl rfl ?_
   clear hS; intro B4 W4 hS
   refine op_assign rfl rfl ?_
   refine op_storeA (i := 0) (vs := [_, _, _, _, _, _, _, _, _, _]) (cs' := [_, _, _, _, _, _, _, _, _, _]) (O' := [_, _, _]) hS Tryz.sizeOf66 rfl rfl rfl rfl rfl rfl rfl ?_
   clear hS; intro W5 hS
   refine endF (XF.thenN ?_)
   refine seqF (regF ?_)
   refine op_field (o' := 3) fa_66_3 rfl rfl rfl ?_
   refine op_load Tryz.isAgg29 rfl (cell_own (hS.at_ 0 rfl) rfl) rfl ?_
   refine op_len Tryz.underlying29 rfl rfl ?_
   refine op_assign rfl rfl ?_
   refine endF (XF.thenN ?_)
   refine seqF ?_
   refine seqF ?_
   rcases (show ¬ r.q = p ∨ (r.q = p ∧ wl < r.wl) ∨ (r.q = p ∧ r.wl ≤ wl) by omega) with h1 | ⟨h1, h2⟩ | ⟨h1, h2⟩
   ·have hcm : comB r p ws = false := comB_q h1
    refine regB (m := 22) followsM hS (by kernel_rfl) (by kernel_rfl) rfl ?_
    refine bl_cons 1 rfl (isV _) (stab_isV _) (rgV (li := [(11, _)]) rfl (w_free rfl) ⟨g_fr (by kernel_rfl) rfl, trivial⟩ (fun w hw => rn_field (o' := 2) fa_66_2 rfl rfl) (at_top rfl)) ?_
    refine bl_cons 2 rfl (isV _) (stab_isV _) (rgV (li := [(32, _)]) rfl (w_free rfl) ⟨g_dep 0 (by kernel_rfl) (at_dep rfl rfl rfl), trivial⟩ (fun w hw => rn_load Tryz.isAgg3 rfl ((below_agree hw 0).cell (Nat.zero_le _) (cell_own (hS.at_ 0 rfl) rfl))) (at_top rfl)) ?_
    refine bl_cons 3 rfl (isV _) (stab_isV _) (rgV (li := [(3, _)]) rfl (w_free rfl) ⟨g_fr (by kernel_rfl) rfl, trivial⟩ (fun w hw => rn_field (o' := 0) fa_31_0 rfl rfl) (at_top rfl)) ?_
    refine bl_cons 4 rfl (isV _) (stab_isV _) (rgV (li := [(34, _)]) rfl (w_free rfl) ⟨g_dep 2 (by kernel_rfl) (at_dep rfl rfl rfl), trivial⟩ (fun w hw => rn_load Tryz.isAgg3 rfl ((below_agree hw 0).cell (Nat.zero_le _) (cell_own (hS.at_ 1 rfl) rfl))) (at_top rfl)) ?_
    refine bl_cons 5 rfl (isV (.bool true)) (stab_isV _) (rgVe (li := [(33, _), (35, _)]) rfl (w_free rfl) ⟨g_dep 1 (by kernel_rfl) (at_dep rfl rfl rfl), g_dep 3 (by kernel_rfl) (at_dep rfl rfl rfl), trivial⟩ (fun w hw => rn_neq rfl rfl) (by rw [decide_eq_true h1]) (at_top rfl)) ?_
    refine bl_cons 6 rfl (isV _) (stab_isV _) (rgV (li := [(36, _)]) rfl (w_free rfl) ⟨g_dep 4 (by kernel_rfl) (at_dep rfl rfl rfl), trivial⟩ (fun w hw => rn_move rfl) (at_top rfl)) ?_
    refine bl_cons 7 rfl (isV undef) (stab_isV _) (rg_no rfl (w_no 37 rfl (by kernel_rfl) (by kernel_rfl) (at_dep rfl rfl rfl) rfl) (at_top rfl)) ?_
    refine bl_cons 8 rfl (isV undef) (stab_isV _) (rg_no rfl (w_no 37 rfl (by kernel_rfl) (by kernel_rfl) (at_dep rfl rfl rfl) rfl) (at_top rfl)) ?_
    refine bl_cons 9 rfl (isV undef) (stab_isV _) (rg_no rfl (w_no 37 rfl (by kernel_rfl) (by kernel_rfl) (at_dep rfl rfl rfl) rfl) (at_top rfl)) ?_
    refine bl_cons 10 rfl (isV undef) (stab_isV _) (rg_no rfl (w_no 37 rfl (by kernel_rfl) (by kernel_rfl) (at_dep rfl rfl rfl) rfl) (at_top rfl)) ?_
    refine bl_cons 11 rfl (isV undef) (stab_isV _) (rg_no rfl (w_no 37 rfl (by kernel_rfl) (by kernel_rfl) (at_dep rfl rfl rfl) rfl) (at_top rfl)) ?_
    refine bl_cons 12 rfl (isV _) (stab_isV _) (rgV (li := [(37, _)]) rfl (w_free rfl) ⟨g_dep 5 (by kernel_rfl) (at_dep rfl rfl rfl), trivial⟩ (fun w hw => rn_pickT rfl rfl) (at_top rfl)) ?_
    refine bl_cons 13 rfl (isV _) (stab_isV _) (rgV (li := [(43, _)]) rfl (w_free rfl) ⟨g_dep 11 (by kernel_rfl) (at_dep rfl rfl rfl), trivial⟩ (fun w hw => rn_move rfl) (at_top rfl)) ?_
    refine bl_cons 14 rfl (isV undef) (stab_isV _) (rg_no rfl (w_no 44 rfl (by kernel_rfl) (by kernel_rfl) (at_dep rfl rfl rfl) rfl) (at_top rfl)) ?_
    refine bl_cons 15 rfl (isV undef) (stab_isV _) (rg_no rfl (w_no 44 rfl (by kernel_rfl) (by kernel_rfl) (at_dep rfl rfl rfl) rfl) (at_top rfl)) ?_
    refine bl_cons 16 rfl (isV undef) (stab_isV _) (rg_no rfl (w_no 44 rfl (by kernel_rfl) (by kernel_rfl) (at_dep rfl rfl rfl) rfl) (at_top rfl)) ?_
    refine bl_cons 17 rfl (isV undef) (stab_isV _) (rg_no rfl (w_no 44 rfl (by kernel_rfl) (by kernel_rfl) (at_dep rfl rfl rfl) rfl) (at_top rfl)) ?_
    refine bl_cons 18 rfl (isV undef) (stab_isV _) (rg_no rfl (w_no 44 rfl (by kernel_rfl) (by kernel_rfl) (at_dep rfl rfl rfl) rfl) (at_top rfl)) ?_
    refine bl_cons 19 rfl (isV undef) (stab_isV _) (rg_no rfl (w_no 44 rfl (by kernel_rfl) (by kernel_rfl) (at_dep rfl rfl rfl) rfl) (at_top rfl)) ?_
    refine bl_cons 20 rfl (isV undef) (stab_isV _) (rg_no rfl (w_no 44 rfl (by kernel_rfl) (by kernel_rfl) (at_dep rfl rfl rfl) rfl) (at_top rfl)) ?_
    refine bl_cons 21 rfl (isV undef) (stab_isV _) (rg_no rfl (w_no 44 rfl (by kernel_rfl) (by kernel_rfl) (at_dep rfl rfl rfl) rfl) (at_top rfl)) ?_
    refine bl_cons 22 rfl (isV _) (stab_isV _) (rgV (li := [(44, _)]) rfl (w_free rfl) ⟨g_dep 12 (by kernel_rfl) (at_dep rfl rfl rfl), trivial⟩ (fun w hw => rn_pickT rfl rfl) (at_top rfl)) ?_
    refine bl_nil ?_
    intro W6 hbR hS'
    clear hS; have hS := hS'; clear hS'
    refine fin_v ?_
    refine fin_v ?_
    refine fin_v ?_
    refine fin_v ?_
    refine fin_v ?_
    refine fin_v ?_
    refine fin_v ?_
    refine fin_v ?_
    refine fin_v ?_
    refine fin_v ?_
    refine fin_v ?_
    refine fin_v ?_
    refine fin_v ?_
    refine fin_v ?_
    refine fin_v ?_
    refine fin_v ?_
    refine fin_v ?_
    refine fin_v ?_
    refine fin_v ?_
    refine fin_v ?_
    refine fin_v ?_
    refine fin_v ?_
    refine fin_nil ?_
    refine XF.thenN ?_
    refine condT rfl ?_
    refine exitF ?_
    refine XF.thenX ?_
    refine XF.blkX ?_
    refine XF.thenN ?_
    refine regF ?_
    refine op_add rfl rfl (IntWalk.i64_in _ (by omega)) rfl ?_
    refine op_move rfl rfl ?_
    refine endF ?_
    exact XF.round (rl - (i + 1)) [(2, _), (3, _), (8, _), (9, _), (22, _), (23, _), (24, _)] (by omega) ⟨rfl, rfl, rfl, rfl, rfl, rfl, rfl, trivial⟩ ⟨i + 1, v8, v9, acc, cs, _, by omega, rfl, rfl, by rw [← hrun, back_skip hcm], by omega, hcs9, hX.more (fun q hq => by simp [hq]), hS.tail⟩
   ·have hcm : comB r p ws = false := comB_len (by rw [hri.len, hlen]; exact h2)
    refine regB (m := 22) followsM hS (by kernel_rfl) (by kernel_rfl) rfl ?_
    refine bl_cons 1 rfl (isV _) (stab_isV _) (rgV (li := [(11, _)]) rfl (w_free rfl) ⟨g_fr (by kernel_rfl) rfl, trivial⟩ (fun w hw => rn_field (o' := 2) fa_66_2 rfl rfl) (at_top rfl)) ?_
    refine bl_cons 2 rfl (isV _) (stab_isV _) (rgV (li := [(32, _)]) rfl (w_free rfl) ⟨g_dep 0 (by kernel_rfl) (at_dep rfl rfl rfl), trivial⟩ (fun w hw => rn_load Tryz.isAgg3 rfl ((below_agree hw 0).cell (Nat.zero_le _) (cell_own (hS.at_ 0 rfl) rfl))) (at_top rfl)) ?_
    refine bl_cons 3 rfl (isV _) (stab_isV _) (rgV (li := [(3, _)]) rfl (w_free rfl) ⟨g_fr (by kernel_rfl) rfl, trivial⟩ (fun w hw => rn_field (o' := 0) fa_31_0 rfl rfl) (at_top rfl)) ?_
    refine bl_cons 4 rfl (isV _) (stab_isV _) (rgV (li := [(34, _)]) rfl (w_free rfl) ⟨g_dep 2 (by kernel_rfl) (at_dep rfl rfl rfl), trivial⟩ (fun w hw => rn_load Tryz.isAgg3 rfl ((below_agree hw 0).cell (Nat.zero_le _) (cell_own (hS.at_ 1 rfl) rfl))) (at_top rfl)) ?_
    refine bl_cons 5 rfl (isV (.bool false)) (stab_isV _) (rgVe (li := [(33, _), (35, _)]) rfl (w_free rfl) ⟨g_dep 1 (by kernel_rfl) (at_dep rfl rfl rfl), g_dep 3 (by kernel_rfl) (at_dep rfl rfl rfl), trivial⟩ (fun w hw => rn_neq rfl rfl) (by rw [decide_eq_false (not_not_intro h1)]) (at_top rfl)) ?_
    refine bl_cons 6 rfl (isV _) (stab_isV _) (rgV (li := [(36, _)]) rfl (w_free rfl) ⟨g_dep 4 (by kernel_rfl) (at_dep rfl rfl rfl), trivial⟩ (fun w hw => rn_move rfl) (at_top rfl)) ?_
    refine bl_cons 7 rfl (isV _) (stab_isV _) (rgV (li := [(12, _)]) rfl (w_yes 37 rfl (by kernel_rfl) (by kernel_rfl) (at_dep rfl rfl rfl)) ⟨g_fr (by kernel_rfl) rfl, trivial⟩ (fun w hw => rn_move rfl) (at_top rfl)) ?_
    refine bl_cons 8 rfl (isV _) (stab_isV _) (rgV (li := [(3, _)]) rfl (w_yes 37 rfl (by kernel_rfl) (by kernel_rfl) (at_dep rfl rfl rfl)) ⟨g_fr (by kernel_rfl) rfl, trivial⟩ (fun w hw => rn_field (o' := 1) fa_31_1 rfl rfl) (at_top rfl)) ?_
    refine bl_cons 9 rfl (isV _) (stab_isV _) (rgV (li := [(39, _)]) rfl (w_yes 37 rfl (by kernel_rfl) (by kernel_rfl) (at_dep rfl rfl rfl)) ⟨g_dep 7 (by kernel_rfl) (at_dep rfl rfl rfl), trivial⟩ (fun w hw => rn_load Tryz.isAgg29 rfl ((below_agree hw 0).cell (Nat.zero_le _) (cell_own (hS.at_ 1 rfl) rfl))) (at_top rfl)) ?_
    refine bl_cons 10 rfl (isV _) (stab_isV _) (rgV (li := [(40, _)]) rfl (w_yes 37 rfl (by kernel_rfl) (by kernel_rfl) (at_dep rfl rfl rfl)) ⟨g_dep 8 (by kernel_rfl) (at_dep rfl rfl rfl), trivial⟩ (fun w hw => rn_len Tryz.underlying29 rfl) (at_top rfl)) ?_
    refine bl_cons 11 rfl (isV (.bool true)) (stab_isV _) (rgVe (li := [(38, _), (41, _)]) rfl (w_yes 37 rfl (by kernel_rfl) (by kernel_rfl) (at_dep rfl rfl rfl)) ⟨g_dep 6 (by kernel_rfl) (at_dep rfl rfl rfl), g_dep 9 (by kernel_rfl) (at_dep rfl rfl rfl), trivial⟩ (fun w hw => rn_gtr rfl rfl) (by rw [decide_eq_true (by omega)]) (at_top rfl)) ?_
    refine bl_cons 12 rfl (isV _) (stab_isV _) (rgV (li := [(37, _), (42, _)]) rfl (w_free rfl) ⟨g_dep 5 (by kernel_rfl) (at_dep rfl rfl rfl), g_dep 10 (by kernel_rfl) (at_dep rfl rfl rfl), trivial⟩ (fun w hw => rn_pickF rfl rfl) (at_top rfl)) ?_
    refine bl_cons 13 rfl (isV _) (stab_isV _) (rgV (li := [(43, _)]) rfl (w_free rfl) ⟨g_dep 11 (by kernel_rfl) (at_dep rfl rfl rfl), trivial⟩ (fun w hw => rn_move rfl) (at_top rfl)) ?_
    refine bl_cons 14 rfl (isV undef) (stab_isV _) (rg_no rfl (w_no 44 rfl (by kernel_rfl) (by kernel_rfl) (at_dep rfl rfl rfl) rfl) (at_top rfl)) ?_
    refine bl_cons 15 rfl (isV undef) (stab_isV _) (rg_no rfl (w_no 44 rfl (by kernel_rfl) (by kernel_rfl) (at_dep rfl rfl rfl) rfl) (at_top rfl)) ?_
    refine bl_cons 16 rfl (isV undef) (stab_isV _) (rg_no rfl (w_no 44 rfl (by kernel_rfl) (by kernel_rfl) (at_dep rfl rfl rfl) rfl) (at_top rfl)) ?_
    refine bl_cons 17 rfl (isV undef) (stab_isV _) (rg_no rfl (w_no 44 rfl (by kernel_rfl) (by kernel_rfl) (at_dep rfl rfl rfl) rfl) (at_top rfl)) ?_
    refine bl_cons 18 rfl (isV undef) (stab_isV _) (rg_no rfl (w_no 44 rfl (by kernel_rfl) (by kernel_rfl) (at_dep rfl rfl rfl) rfl) (at_top rfl)) ?_
    refine bl_cons 19 rfl (isV undef) (stab_isV _) (rg_no rfl (w_no 44 rfl (by kernel_rfl) (by kernel_rfl) (at_dep rfl rfl rfl) rfl) (at_top rfl)) ?_
    refine bl_cons 20 rfl (isV undef) (stab_isV _) (rg_no rfl (w_no 44 rfl (by kernel_rfl) (by kernel_rfl) (at_dep rfl rfl rfl) rfl) (at_top rfl)) ?_
    refine bl_cons 21 rfl (isV undef) (stab_isV _) (rg_no rfl (w_no 44 rfl (by kernel_rfl) (by kernel_rfl) (at_dep rfl rfl rfl) rfl) (at_top rfl)) ?_
    refine bl_cons 22 rfl (isV _) (stab_isV _) (rgV (li := [(44, _)]) rfl (w_free rfl) ⟨g_dep 12 (by kernel_rfl) (at_dep rfl rfl rfl), trivial⟩ (fun w hw => rn_pickT rfl rfl) (at_top rfl)) ?_
    refine bl_nil ?_
    intro W7 hbR hS'
    clear hS; have hS := hS'; clear hS'
    refine fin_v ?_
    refine fin_v ?_
    refine fin_v ?_
    refine fin_v ?_
    refine fin_v ?_
    refine fin_v ?_
    refine fin_v ?_
    refine fin_v ?_
    refine fin_v ?_
    refine fin_v ?_
    refine fin_v ?_
    refine fin_v ?_
    refine fin_v ?_
    refine fin_v ?_
    refine fin_v ?_
    refine fin_v ?_
    refine fin_v ?_
    refine fin_v ?_
    refine fin_v ?_
    refine fin_v ?_
    refine fin_v ?_
    refine fin_v ?_
    refine fin_nil ?_
    refine XF.thenN ?_
    refine condT rfl ?_
    refine exitF ?_
    refine XF.thenX ?_
    refine XF.blkX ?_
    refine XF.thenN ?_
    refine regF ?_
    refine op_add rfl rfl (IntWalk.i64_in _ (by omega)) rfl ?_
    refine op_move rfl rfl ?_
    refine endF ?_
    exact XF.round (rl - (i + 1)) [(2, _), (3, _), (8, _), (9, _), (22, _), (23, _), (24, _)] (by omega) ⟨rfl, rfl, rfl, rfl, rfl, rfl, rfl, trivial⟩ ⟨i + 1, v8, v9, acc, cs, _, by omega, rfl, rfl, by rw [← hrun, back_skip hcm], by omega, hcs9, hX.more (fun q hq => by simp [hq]), hS.tail⟩
   ·skip
    refine regB (m := 22) followsM hS (by kernel_rfl) (by kernel_rfl) rfl ?_
    refine bl_cons 1 rfl (isV _) (stab_isV _) (rgV (li := [(11, _)]) rfl (w_free rfl) ⟨g_fr (by kernel_rfl) rfl, trivial⟩ (fun w hw => rn_field (o' := 2) fa_66_2 rfl rfl) (at_top rfl)) ?_
    refine bl_cons 2 rfl (isV _) (stab_isV _) (rgV (li := [(32, _)]) rfl (w_free rfl) ⟨g_dep 0 (by kernel_rfl) (at_dep rfl rfl rfl), trivial⟩ (fun w hw => rn_load Tryz.isAgg3 rfl ((below_agree hw 0).cell (Nat.zero_le _) (cell_own (hS.at_ 0 rfl) rfl))) (at_top rfl)) ?_
    refine bl_cons 3 rfl (isV _) (stab_isV _) (rgV (li := [(3, _)]) rfl (w_free rfl) ⟨g_fr (by kernel_rfl) rfl, trivial⟩ (fun w hw => rn_field (o' := 0) fa_31_0 rfl rfl) (at_top rfl)) ?_
    refine bl_cons 4 rfl (isV _) (stab_isV _) (rgV (li := [(34, _)]) rfl (w_free rfl) ⟨g_dep 2 (by kernel_rfl) (at_dep rfl rfl rfl), trivial⟩ (fun w hw => rn_load Tryz.isAgg3 rfl ((below_agree hw 0).cell (Nat.zero_le _) (cell_own (hS.at_ 1 rfl) rfl))) (at_top rfl)) ?_
    refine bl_cons 5 rfl (isV (.bool false)) (stab_isV _) (rgVe (li := [(33, _), (35, _)]) rfl (w_free rfl) ⟨g_dep 1 (by kernel_rfl) (at_dep rfl rfl rfl), g_dep 3 (by kernel_rfl) (at_dep rfl rfl rfl), trivial⟩ (fun w hw => rn_neq rfl rfl) (by rw [decide_eq_false (not_not_intro h1)]) (at_top rfl)) ?_
    refine bl_cons 6 rfl (isV _) (stab_isV _) (rgV (li := [(36, _)]) rfl (w_free rfl) ⟨g_dep 4 (by kernel_rfl) (at_dep rfl rfl rfl), trivial⟩ (fun w hw => rn_move rfl) (at_top rfl)) ?_
    refine bl_cons 7 rfl (isV _) (stab_isV _) (rgV (li := [(12, _)]) rfl (w_yes 37 rfl (by kernel_rfl) (by kernel_rfl) (at_dep rfl rfl rfl)) ⟨g_fr (by kernel_rfl) rfl, trivial⟩ (fun w hw => rn_move rfl) (at_top rfl)) ?_
    refine bl_cons 8 rfl (isV _) (stab_isV _) (rgV (li := [(3, _)]) rfl (w_yes 37 rfl (by kernel_rfl) (by kernel_rfl) (at_dep rfl rfl rfl)) ⟨g_fr (by kernel_rfl) rfl, trivial⟩ (fun w hw => rn_field (o' := 1) fa_31_1 rfl rfl) (at_top rfl)) ?_
    refine bl_cons 9 rfl (isV _) (stab_isV _) (rgV (li := [(39, _)]) rfl (w_yes 37 rfl (by kernel_rfl) (by kernel_rfl) (at_dep rfl rfl rfl)) ⟨g_dep 7 (by kernel_rfl) (at_dep rfl rfl rfl), trivial⟩ (fun w hw => rn_load Tryz.isAgg29 rfl ((below_agree hw 0).cell (Nat.zero_le _) (cell_own (hS.at_ 1 rfl) rfl))) (at_top rfl)) ?_
    refine bl_cons 10 rfl (isV _) (stab_isV _) (rgV (li := [(40, _)]) rfl (w_yes 37 rfl (by kernel_rfl) (by kernel_rfl) (at_dep rfl rfl rfl)) ⟨g_dep 8 (by kernel_rfl) (at_dep rfl rfl rfl), trivial⟩ (fun w hw => rn_len Tryz.underlying29 rfl) (at_top rfl)) ?_
    refine bl_cons 11 rfl (isV (.bool false)) (stab_isV _) (rgVe (li := [(38, _), (41, _)]) rfl (w_yes 37 rfl (by kernel_rfl) (by kernel_rfl) (at_dep rfl rfl rfl)) ⟨g_dep 6 (by kernel_rfl) (at_dep rfl rfl rfl), g_dep 9 (by kernel_rfl) (at_dep rfl rfl rfl), trivial⟩ (fun w hw => rn_gtr rfl rfl) (by rw [decide_eq_false (by omega)]) (at_top rfl)) ?_
    refine bl_cons 12 rfl (isV _) (stab_isV _) (rgV (li := [(37, _), (42, _)]) rfl (w_free rfl) ⟨g_dep 5 (by kernel_rfl) (at_dep rfl rfl rfl), g_dep 10 (by kernel_rfl) (at_dep rfl rfl rfl), trivial⟩ (fun w hw => rn_pickF rfl rfl) (at_top rfl)) ?_
    refine bl_cons 13 rfl (isV _) (stab_isV _) (rgV (li := [(43, _)]) rfl (w_free rfl) ⟨g_dep 11 (by kernel_rfl) (at_dep rfl rfl rfl), trivial⟩ (fun w hw => rn_move rfl) (at_top rfl)) ?_
    refine bl_cons 14 rfl (isV _) (stab_isV _) (rgV (li := [(11, _)]) rfl (w_yes 44 rfl (by kernel_rfl) (by kernel_rfl) (at_dep rfl rfl rfl)) ⟨g_fr (by kernel_rfl) rfl, trivial⟩ (fun w hw => rn_field (o' := 3) fa_66_3 rfl rfl) (at_top rfl)) ?_
    refine bl_cons 15 rfl (isV _) (stab_isV _) (rgV (li := [(45, _)]) rfl (w_yes 44 rfl (by kernel_rfl) (by kernel_rfl) (at_dep rfl rfl rfl)) ⟨g_dep 13 (by kernel_rfl) (at_dep rfl rfl rfl), trivial⟩ (fun w hw => rn_load Tryz.isAgg29 rfl ((below_agree hw 0).cell (Nat.zero_le _) (cell_own (hS.at_ 0 rfl) rfl))) (at_top rfl)) ?_
    refine bl_cons 16 rfl (isV _) (stab_isV _) (rgV (li := [(3, _)]) rfl (w_yes 44 rfl (by kernel_rfl) (by kernel_rfl) (at_dep rfl rfl rfl)) ⟨g_fr (by kernel_rfl) rfl, trivial⟩ (fun w hw => rn_field (o' := 1) fa_31_1 rfl rfl) (at_top rfl)) ?_
    refine bl_cons 17 rfl (isV _) (stab_isV _) (rgV (li := [(47, _)]) rfl (w_yes 44 rfl (by kernel_rfl) (by kernel_rfl) (at_dep rfl rfl rfl)) ⟨g_dep 15 (by kernel_rfl) (at_dep rfl rfl rfl), trivial⟩ (fun w hw => rn_load Tryz.isAgg29 rfl ((below_agree hw 0).cell (Nat.zero_le _) (cell_own (hS.at_ 1 rfl) rfl))) (at_top rfl)) ?_
    refine bl_cons 18 rfl (isV _) (stab_isV _) (rgV (li := [(12, _)]) rfl (w_yes 44 rfl (by kernel_rfl) (by kernel_rfl) (at_dep rfl rfl rfl)) ⟨g_fr (by kernel_rfl) rfl, trivial⟩ (fun w hw => rn_move rfl) (at_top rfl)) ?_
    refine bl_cons 19 rfl (isV _) (stab_isV _) (rgV (li := [(48, _), (49, _)]) rfl (w_yes 44 rfl (by kernel_rfl) (by kernel_rfl) (at_dep rfl rfl rfl)) ⟨g_dep 16 (by kernel_rfl) (at_dep rfl rfl rfl), g_dep 17 (by kernel_rfl) (at_dep rfl rfl rfl), trivial⟩ (fun w hw => rn_sliceToG (k := r.wl) Tryz.underlying29 Tryz.sizeOf3 rfl rfl rfl (by omega)) (at_top rfl)) ?_
    refine bl_cons 20 rfl (isV (.bool (decide (r.ws = ws.take r.wl)))) (stab_isV _) (rg_call [isV _, isV _] rfl goes_26 (w_yes 44 rfl (by kernel_rfl) (by kernel_rfl) (at_dep rfl rfl rfl)) ⟨p_tmp (g_dep 14 (by kernel_rfl) (at_dep rfl rfl rfl)), p_tmp (g_dep 18 (by kernel_rfl) (at_dep rfl rfl rfl)), trivial⟩ (fun vs w' hb hh => by have e := holds_isV (us := [_, _]) hh; subst e; exact (equalI_is _ _ r.wl r.wc r.wl wc r.ws (ws.take r.wl) _ (hri.row.below (hS.below.trans (hb.mono hS.below.size))) hri.len ((hrow.below (hS.below.trans (hb.mono hS.below.size))).takeG (by omega) r.wl) (by rw [List.length_take]; omega) (by omega)).mono fun e w2 h => ⟨_, h.1, rfl, h.2⟩) (at_top rfl)) ?_
    refine bl_cons 21 rfl (isV _) (stab_isV _) (rgV (li := [(51, _)]) rfl (w_yes 44 rfl (by kernel_rfl) (by kernel_rfl) (at_dep rfl rfl rfl)) ⟨g_dep 19 (by kernel_rfl) (at_dep rfl rfl rfl), trivial⟩ (fun w hw => rn_not rfl) (at_top rfl)) ?_
    refine bl_cons 22 rfl (isV _) (stab_isV _) (rgV (li := [(44, _), (52, _)]) rfl (w_free rfl) ⟨g_dep 12 (by kernel_rfl) (at_dep rfl rfl rfl), g_dep 20 (by kernel_rfl) (at_dep rfl rfl rfl), trivial⟩ (fun w hw => rn_pickF rfl rfl) (at_top rfl)) ?_
    refine bl_nil ?_
    intro W8 hbR hS'
    clear hS; have hS := hS'; clear hS'
    refine fin_v ?_
    refine fin_v ?_
    refine fin_v ?_
    refine fin_v ?_
    refine fin_v ?_
    refine fin_v ?_
    refine fin_v ?_
    refine fin_v ?_
    refine fin_v ?_
    refine fin_v ?_
    refine fin_v ?_
    refine fin_v ?_
    refine fin_v ?_
    refine fin_v ?_
    refine fin_v ?_
    refine fin_v ?_
    refine fin_v ?_
    refine fin_v ?_
    refine fin_v ?_
    refine fin_v ?_
    refine fin_v ?_
    refine fin_v ?_
    refine fin_nil ?_
    refine XF.thenN ?_
    refine condF rfl (fun hc => ?_) (fun hc => ?_)
    ·have hc53 := hc; clear hc
     have hcm : comB r p ws = false := comB_no (by rw [hri.len]; simpa using hc53)
     refine exitF ?_
     refine XF.thenX ?_
     refine XF.blkX ?_
     refine XF.thenN ?_
     refine regF ?_
     refine op_add rfl rfl (IntWalk.i64_in _ (by omega)) rfl ?_
     refine op_move rfl rfl ?_
     refine endF ?_
     exact XF.round (rl - (i + 1)) [(2, _), (3, _), (8, _), (9, _), (22, _), (23, _), (24, _)] (by omega) ⟨rfl, rfl, rfl, rfl, rfl, rfl, rfl, trivial⟩ ⟨i + 1, v8, v9, acc, cs, _, by omega, rfl, rfl, by rw [← hrun, back_skip hcm], by omega, hcs9, hX.more (fun q hq => by simp [hq]), hS.tail⟩
    ·have hc53 := hc; clear hc
     have hcm : comB r p ws = true := comB_yes h1 (by rw [hri.len]; exact (show r.ws = ws.take r.wl by simpa using hc53).symm)
     have hle := comB_le hcm
     rw [hri.len, hlen] at hle
     refine skipF ?_
     refine XF.thenN ?_
     refine seqF ?_
     by_cases hlong : 4096 < 1 + (ws.length - r.wl)
     ·skip
      have hsz11 := hS.below.size
      refine regF ?_
      refine op_field (o' := 0) fa_66_0 rfl rfl rfl ?_
      refine op_load Tryz.isAgg3 rfl (cell_own (hS.at_ 0 rfl) rfl) rfl ?_
      refine op_field (o' := 1) fa_66_1 rfl rfl rfl ?_
      refine op_load Tryz.isAgg3 rfl (cell_own (hS.at_ 0 rfl) rfl) rfl ?_
      refine op_buildSlice (us := [(0, .int .i64 _)]) hS Tryz.underlying29 Tryz.sizeOf3 Tryz.zeroValue3 rfl rfl rfl (bs_29_1 _) rfl ?_
      clear hS; intro B9 W9 hS
      refine op_loadA (vs := [_, _]) Tryz.isAgg31 Tryz.sizeOf31 rfl (CellsAt.own (j := 0) (m := 2) (hS.at_ 2 rfl) rfl) rfl ?_
      refine op_move rfl rfl ?_
      have hsz12 := hS.below.size
      refine op_call (vs := [_, _, _, _]) hS goes_27 rfl ((replaced_is r.p p _ _ 1 1 wl wc r.wl [r.g] ws _ (row_one9 (hS.at_ 0 rfl)) rfl (hrow.below hS.below) hlen hle hcap (by decide) (by omega)).mono fun e w2 h => rpl_no (if_pos (by omega)) h) rfl ?_
      rintro e W10 ⟨rfl, hb⟩
      refine ⟨_, rfl, hb, fun hS' => ?_⟩
      clear hS; have hS := hS'; clear hS' hb
      refine op_move rfl rfl ?_
      refine op_extract rfl rfl rfl ?_
      refine op_extract rfl rfl rfl ?_
      refine op_alloc (cs := [_, _]) hS Tryz.zeroValue31 rfl rfl ?_
      clear hS; intro B11 W11 hS
      refine op_storeA (i := 0) (vs := [_, _]) (cs' := [_, _]) (O' := [_, _, _, _, _]) hS Tryz.sizeOf31 rfl rfl rfl rfl rfl rfl rfl ?_
      clear hS; intro W12 hS
      refine op_assign rfl rfl ?_
      refine endF (XF.thenN ?_)
      refine seqF ?_
      refine seqF (regF ?_)
      refine op_move rfl rfl ?_
      refine op_not rfl rfl ?_
      refine endF (XF.thenN ?_)
      refine condF rfl (fun hc => ?_) (fun hc => absurd hc (by decide))
      skip
      refine seqF (regF ?_)
      refine op_assign rfl rfl ?_
      refine op_assign rfl rfl ?_
      refine op_assign rfl rfl ?_
      refine endF (XF.thenN ?_)
      refine retF ?_
      refine XF.thenR ?_
      refine XF.blkR ?_
      refine XF.thenR ?_
      refine XF.thenR ?_
      refine XF.blkR ?_
      refine XF.thenR ?_
      refine XF.res (res3 Tryz.results8 rfl rfl rfl) ?_
      exact nxU_no (nxE_none hE (by rw [← hrun, back_long hcm hlong]; rfl)) hS.below
     ·skip
      have hsz11 := hS.below.size
      refine regF ?_
      refine op_field (o' := 0) fa_66_0 rfl rfl rfl ?_
      refine op_load Tryz.isAgg3 rfl (cell_own (hS.at_ 0 rfl) rfl) rfl ?_
      refine op_field (o' := 1) fa_66_1 rfl rfl rfl ?_
      refine op_load Tryz.isAgg3 rfl (cell_own (hS.at_ 0 rfl) rfl) rfl ?_
      refine op_buildSlice (us := [(0, .int .i64 _)]) hS Tryz.underlying29 Tryz.sizeOf3 Tryz.zeroValue3 rfl rfl rfl (bs_29_1 _) rfl ?_
      clear hS; intro B13 W13 hS
      refine op_loadA (vs := [_, _]) Tryz.isAgg31 Tryz.sizeOf31 rfl (CellsAt.own (j := 0) (m := 2) (hS.at_ 2 rfl) rfl) rfl ?_
      refine op_move rfl rfl ?_
      have hsz12 := hS.below.size
      refine op_call (vs := [_, _, _, _]) hS goes_27 rfl ((replaced_is r.p p _ _ 1 1 wl wc r.wl [r.g] ws _ (row_one9 (hS.at_ 0 rfl)) rfl (hrow.below hS.below) hlen hle hcap (by decide) (by omega)).mono fun e w2 h => rpl_yes (p := r.p) (xs := r.g :: ws.drop r.wl) (if_neg (by omega)) h) rfl ?_
      rintro e W14 ⟨aD, cD, rfl, hn9, hb⟩
      refine ⟨_, rfl, hb, fun hS' => ?_⟩
      clear hS; have hS := hS'; clear hS'
      have HD : Held w [(_, _)] (fun W2 => RowN _ W2 aD cD (r.g :: ws.drop r.wl)) := Held.one (fun W2 hg => hn9.agree hg)
      clear hb
      refine op_move rfl rfl ?_
      refine op_extract rfl rfl rfl ?_
      refine op_extract rfl rfl rfl ?_
      refine op_alloc (cs := [_, _]) hS Tryz.zeroValue31 rfl rfl ?_
      clear hS; intro B15 W15 hS
      refine op_storeA (i := 0) (vs := [_, _]) (cs' := [_, _]) (O' := [_, _, _, _, _]) hS Tryz.sizeOf31 rfl rfl rfl rfl rfl rfl rfl ?_
      clear hS; intro W16 hS
      refine op_assign rfl rfl ?_
      refine endF (XF.thenN ?_)
      refine seqF ?_
      refine seqF (regF ?_)
      refine op_move rfl rfl ?_
      refine op_not rfl rfl ?_
      refine endF (XF.thenN ?_)
      refine condF rfl (fun hc => absurd hc (by decide)) (fun hc => ?_)
      skip
      refine skipF ?_
      refine XF.thenN ?_
      refine regCF (Gs := gsC _ [(0, fun v => ⟨v, acc.length + 1, (acc.map (·.1)).map (Value.int .i64) ++ [.int .i64 (i : Int)], 3, 1⟩)]) (efs := [3]) (k := 7) (ds := [8, 9, 74]) followsM rfl hS rfl (by kernel_rfl) (by kernel_rfl) rfl (by decide) rfl rfl ?_
      refine blc_consF 1 rfl rfl (isV _) (fun hNo => scVF fst_take [(8, _)] rfl rfl hNo (w_free rfl) ⟨g_fr (by kernel_rfl) rfl, trivial⟩ (fun s w hw => rn_move rfl) (at_top rfl)) ?_
      refine blc_consF 2 rfl rfl (isV _) (fun hNo => scVF fst_take [(10, _)] rfl rfl hNo (w_free rfl) ⟨g_fr (by kernel_rfl) rfl, trivial⟩ (fun s w hw => rn_move rfl) (at_top rfl)) ?_
      refine blc_consF 3 rfl rfl (isRow W16.heap.size 1 3 _) (fun hNo => sc_rowVF fst_take (us := [.int .i64 _]) rfl rfl hNo (w_free rfl) Tryz.underlying29 Tryz.sizeOf3 Tryz.zeroValue3 rfl rfl ⟨p_tmp (g_dep 1 (by kernel_rfl) (at_dep rfl rfl rfl)), trivial⟩ (bs_29_1 _) (at_top rfl)) ?_
      refine blc_anyF 4 rfl (sc_appF (efs := [3]) (jy := 2) (m := 1) fst_take 0 0 [(67, _)] rfl rfl (by decide) rfl (fun j hj => by simp at hj; subst hj; rfl) Tryz.underlying29 inf_3 rfl rfl (by show 0 < 1; decide) (hg0 rfl) (hgs0 (fun _ => rfl)) ⟨g_dep 0 (by kernel_rfl) (at_dep rfl rfl rfl), trivial⟩ rfl (by kernel_rfl) rfl rfl rfl rfl (by simp only [maxLen]; omega) (by show (acc.length + 1) * 8 ≤ _; omega)) ?_
      refine blc_consF 5 rfl rfl (isV _) (fun hNo => scVF fst_take [(9, _)] rfl rfl hNo (w_free rfl) ⟨g_fr (by kernel_rfl) rfl, trivial⟩ (fun s w hw => rn_move rfl) (at_top rfl)) ?_
      refine blc_consF 6 rfl rfl (isV _) (fun hNo => scVF fst_take [(13, _)] rfl rfl hNo (w_free rfl) ⟨g_fr (by kernel_rfl) rfl, trivial⟩ (fun s w hw => rn_loadA (vs := [_, _]) Tryz.isAgg31 Tryz.sizeOf31 rfl ((CellsAt.own (j := 0) (m := 2) (hw.at_ 0 rfl) rfl))) (at_top rfl)) ?_
      refine blc_consF 7 rfl rfl (isRow W16.heap.size 1 31 _) (fun hNo => sc_rowVF fst_take (us := [.agg (List.toArray [_, _])]) rfl rfl hNo (w_free rfl) Tryz.underlying32 Tryz.sizeOf31 Tryz.zeroValue31 rfl rfl ⟨p_tmp (g_dep 5 (by kernel_rfl) (at_dep rfl rfl rfl)), trivial⟩ (bs_32_1 _ _) (at_top rfl)) ?_
      refine blc_nilF ?_
      intro s17 W17 Ks17 hlen17 hsz17 hKs17 hS' hcov17
      obtain ⟨v17_3, rfl⟩ := List.length_eq_one_iff.1 hlen17
      clear hS; have hS := hS'.castG (G' := [_, _]) rfl; clear hS'
      refine castL (L' := [AwS _ _ (isV _), AwS _ _ (isV _), AwS _ _ (isRow W16.heap.size 1 3 _), isV _, AwS _ _ (isV _), AwS _ _ (isV _), AwS _ _ (isRow W16.heap.size 1 31 _)]) rfl ?_
      refine fin_sV ?_
      refine fin_sV ?_
      refine fin_p ?_; rintro _ hA17_2; obtain ⟨BR2, rfl, hlo2, hrow2⟩ := hA17_2.here
      refine fin_v ?_
      refine fin_sV ?_
      refine fin_sV ?_
      refine fin_p ?_; rintro _ hA17_6; obtain ⟨BR6, rfl, hlo6, hrow6⟩ := hA17_6.here
      refine fin_nil ?_
      refine op_appendV (i := 1) (news := [.int .i64 r.p, .slice aD (r.g :: ws.drop r.wl).length cD]) hS Tryz.underlying32 inf_31 rfl rfl (by show 0 < 2; decide) rfl rfl rfl rfl rfl (rowSrc hrow6) (rfl) (fun u hu => by simp at hu; rcases hu with rfl | rfl <;> rfl) (by dsimp only; simp only [maxLen]; omega) (by dsimp only; show (cs.length + 1) * 32 ≤ _; omega) rfl ?_
      clear hS; intro v18 W18 hS
      refine op_assign rfl rfl ?_
      refine op_assign rfl rfl ?_
      refine endF ?_
      refine XF.blkN ?_
      refine XF.thenN ?_
      refine regF ?_
      refine op_add rfl rfl (IntWalk.i64_in _ (by omega)) rfl ?_
      refine op_move rfl rfl ?_
      refine endF ?_
      exact XF.round (rl - (i + 1)) [(2, _), (3, _), (8, _), (9, _), (22, _), (23, _), (24, _)] (by omega) ⟨rfl, rfl, rfl, rfl, rfl, rfl, rfl, trivial⟩ ⟨i + 1, _, _, acc ++ [((i : Int), r.p, r.g :: ws.drop r.wl)], cs ++ [⟨r.p, aD, (r.g :: ws.drop r.wl).length, cD, r.g :: ws.drop r.wl⟩], _, by omega, rfl, rfl, by rw [← hrun, back_fit hcm hlong, Option.map_map]; congr 1; funext z; simp, by simp; omega, by simp [hcs9, CV.pl], (fun h2 hk c hc => by
        rcases List.mem_append.1 hc with hc | hc
        ·exact hX h2 (fun q hq => hk q (by simp [hq])) c hc
        ·simp at hc; subst hc
         exact ⟨(HD h2 (fun q hq => hk q (by rw [List.mem_singleton] at hq; simp [hq]))).mono hsz12, by simp⟩), hS.tail.tail.tail.castG (by simp [two9])⟩
  ·have hc25 := of_decide_eq_false hc; clear hc
   rw [List.drop_of_length_le (by omega)] at hrun
   refine exitF ?_
   refine XF.thenX ?_
   refine XF.thenX ?_
   refine XF.blkX ?_
   refine XF.thenN ?_
   refine seqF (regF ?_)
   refine op_move rfl rfl ?_
   refine op_move rfl rfl ?_
   refine op_assign rfl rfl ?_
   refine op_assign rfl rfl ?_
   refine op_assign rfl rfl ?_
   refine endF (XF.thenN ?_)
   refine retF ?_
   refine XF.res (res3 Tryz.results8 rfl rfl rfl) ?_
   exact nxU_yes hE (by rw [← hrun]; simp [backF]) (hS.row 0 rfl) ⟨cs, hS.row 1 rfl, hcs9, hX.now hS⟩ hS.below
end Go.Proofs.YtfkbkekgnoanaaaGreatDoor
namespace Go.Proofs.YtfkbkekgnoanaaaGreatDoor
open Go Go.RowKit
theorem St.regrow {w0 W W' : World} {v v' : Value} {n n' : Nat} {xs xs' : List Value} {e : TypeId} {size : Nat} (h : St w0 [] [⟨v, n, xs, e, size⟩] [] W) (hb : Below w0.heap.size W W') (hr : W'.ownsRow w0.heap.size e size v' n' xs') : St w0 [] [⟨v', n', xs', e, size⟩] [] W' :=
 ⟨h.below.trans hb, (fun p hp => by cases hp), List.Pairwise.nil, (fun q hq => by cases hq), (fun g hg => by
  rcases List.mem_cons.1 hg with rfl | hg
  ·exact ⟨hr, fun b hb => ⟨fun p hp => (by cases hp), fun q hq => (by cases hq)⟩⟩
  ·cases hg), List.pairwise_singleton _ _⟩
section
variable {P : Program} {n : Nat} {ops : Array Oper} {Q : Exit → Act → World → Prop} {l : Fr} {w0 W : World} {O : Own} {G : Grows} {K : List (Nat × World)} {os : List Oper} {d : Nat} {ty : TypeId} {pos : String} {aft : Array Edge}
theorem op_convB {src dst e : TypeId} {x : Operand} {base : Nat} {v : Value} {bs : List UInt8} (hs : P.underlying src = some (.slice e)) (he : P.underlying e = some (.int .u8)) (hdst : P.underlying dst = some .string) (hx : evL l x = some v) (hr : W.ownsRow base e 1 v bs.length (Lib.byteCells bs)) (h0 : 0 < bs.length) (hd : Nat.blt d n = true)
  (h : OpsF P n ops Q os ((d, .string ⟨bs.toArray⟩) :: l) W) : OpsF P n ops Q (⟨some d, .convert src dst x, ty, pos, aft, none⟩ :: os) l W :=
 opV (v := .string ⟨bs.toArray⟩) (fun ev hev => by
  obtain ⟨b, c, rfl, _⟩ := ownsRow_at hr h0
  have hc : ∀ j (hj : j < bs.length), W.cell? (Addr.add ⟨b, 0, none⟩ j) = some (.int .u8 (bs[j].toNat : Int)) := fun j hj => by
   rcases ownsRow_cells hr with ⟨h1, _⟩ | ⟨b', h1, _, h2⟩
   ·cases h1
   ·cases h1
    rw [Addr.add_lit, Nat.zero_add]
    exact h2 j _ (by simp [Lib.byteCells, hj])
  have hr := run_convert_bytes_back (P := P) W src dst e ⟨b, 0, none⟩ c bs hs he hdst hc
  unfold execOp; simp only []; rw [hev x _ hx]
  simp [hr]) hd h
end
end Go.Proofs.YtfkbkekgnoanaaaGreatDoor
namespace Go.Proofs.YtfkbkekgnoanaaaGreatDoor
open Go Go.RowKit
def confT (p : Int) (ws : List Int) : List UInt8 := Lib.itoa p ++ ws.flatMap (fun g => 32 :: Lib.itoa g)
theorem confT_take {p : Int} {ws : List Int} {i : Nat} {y : Int} (h : ws[i]? = some y) : confT p (ws.take (i + 1)) = confT p (ws.take i) ++ 32 :: Lib.itoa y := by
 unfold confT
 rw [List.take_add_one, h]
 simp [List.flatMap_append]
theorem confT_len {p : Int} {ws : List Int} (hp : -9223372036854775808 ≤ p ∧ p ≤ 9223372036854775807) (hw : ∀ y ∈ ws, -9223372036854775808 ≤ y ∧ y ≤ 9223372036854775807) : (confT p ws).length ≤ 21 + 22 * ws.length := by
 unfold confT
 rw [List.length_append]
 have h1 := Lib.itoa_length_le p hp.1 hp.2
 have h2 : (ws.flatMap (fun g => 32 :: Lib.itoa g)).length ≤ 22 * ws.length := by
  induction ws with
  | nil => simp
  | cons y t ih =>
   have h3 := hw y List.mem_cons_self
   have h4 := Lib.itoa_length_le y h3.1 h3.2
   have h5 := ih (fun z hz => hw z (List.mem_cons_of_mem _ hz))
   simp only [List.flatMap_cons, List.length_append, List.length_cons]
   omega
 omega
theorem text_c (p : Int) (wa : Option Addr) (wl wc : Nat) (ws : List Int) (w : World) (hrow : Row w wa ws) (hlen : ws.length = wl) (hm : wl ≤ 4096) (hp : -9223372036854775808 ≤ p ∧ p ≤ 9223372036854775807) (hwr : ∀ y ∈ ws, -9223372036854775808 ≤ y ∧ y ≤ 9223372036854775807) (hne : 0 < (confT p ws).length) (ht : Tabs w) :
  Calls Tryz.prog 34 #[.agg #[.int .i64 p, .slice wa wl wc]] w (fun e w' => e = .returned (.string ⟨(confT p ws).toArray⟩) ∧ Below w.heap.size w w') := by
 refine enterF (args := [.agg #[.int .i64 p, .slice wa wl wc]]) Tryz.func34 rfl Tryz.ntmps34 rfl ?_
 have hS := St.start w
 refine seqF (regF ?_)
 refine op_box (cs := [_, _]) hS rfl rfl rfl ?_
 clear hS; intro B1 W1 hS
 refine op_assign rfl rfl ?_
 refine endF (XF.thenN ?_)
 refine seqF ?_
 have hRoot := hS.below
 have c0 : W1.cell? ⟨B1, 0, none⟩ = some (.int .i64 p) := cell_own (hS.at_ 0 rfl) rfl
 have c1 : W1.cell? ⟨B1, 1, none⟩ = some (.slice wa wl wc) := cell_own (hS.at_ 0 rfl) rfl
 have hT : Lib.TabBelow Tryz.prog W1.heap.size W1 "internal/strconv.uint64pow10" .u64 Lib.pow10Tab := fun w2 hb2 => (ht.below (hRoot.trans (hb2.mono hRoot.size))).pow
 have hRoot0 := hRoot
 clear hS; have hS := St.start W1
 refine regF ?_
 refine op_field fa_31_0 rfl (Nat.add_zero _) rfl ?_
 refine op_load Tryz.isAgg3 rfl (by first | assumption | exact hS.old (by assumption)) rfl ?_
 refine op_callG (vs := [_, _, _]) (xs := [] ++ Lib.byteCells (Lib.itoa p)) (e1 := 5) (size := 1) (m := 0 + (Lib.itoa p).length) hS goes_52 rfl (Tryz.strconv_AppendInt_10 W1.heap.size 0 p hp.1 hp.2 _ [] _ (World.ownsRow_nil _ _ _ _) (Nat.le_refl _) (by decide) hT) rfl (fun e W2 ⟨v, h1, h2, h3, _⟩ => ⟨v, h1, h3, h2⟩) ?_
 clear hS; intro v2 W2 hS
 refine op_assign rfl rfl ?_
 refine endF (XF.thenN ?_)
 refine seqF ?_
 refine seqF (regF ?_)
 refine op_field fa_31_1 rfl rfl rfl ?_
 refine op_load Tryz.isAgg29 rfl (by first | assumption | exact hS.old (by assumption)) rfl ?_
 refine op_len Tryz.underlying29 rfl rfl ?_
 refine op_move rfl rfl ?_
 refine endF (XF.thenN ?_)
 refine blockF ?_
 refine loopF (fun m l W => ∃ (i : Nat) (v : Value), i ≤ wl ∧ m = wl - i ∧ l = [(3, v), (10, .slice wa wl wc), (11, .int .i64 (wl : Int)), (12, .int .i64 (i : Int))] ∧ St W1 [] [⟨v, (confT p (ws.take i)).length, Lib.byteCells (confT p (ws.take i)), 5, 1⟩] [] W) (wl - 0) ([(3, _), (10, _), (11, _), (12, _)]) ⟨rfl, rfl, rfl, rfl, trivial⟩ (⟨0, _, Nat.zero_le _, rfl, rfl, hS.castG (by simp [confT])⟩) ?_
 clear hS
 rintro m l W ⟨i, v, hi, rfl, rfl, hS⟩
 refine seqF (regF ?_)
 refine op_lss rfl rfl rfl ?_
 refine endF (XF.thenN ?_)
 refine seqF ?_
 refine condF rfl (fun hc => ?_) (fun hc => ?_)
 ·have hc13 := of_decide_eq_true hc; clear hc
  have hk : i < wl := by omega
  obtain ⟨b, off, y, rfl, hy, hyc⟩ := hrow.at1 (show i < ws.length by omega)
  have k1 := hS.old (cell_old hyc hRoot0)
  have hyr := hwr y (List.mem_of_getElem? hy)
  have hTl := confT_len (ws := ws.take i) hp (fun z hz => hwr z (List.mem_of_mem_take hz))
  have hTl2 : (ws.take i).length ≤ 4096 := by rw [List.length_take]; omega
  refine skipF ?_
  refine XF.thenN ?_
  refine seqF ?_
  refine blockF ?_
  refine seqF (regF ?_)
  refine op_indexA  Tryz.underlying29 Tryz.sizeOf3 rfl rfl rfl (by omega) rfl rfl ?_
  refine op_load Tryz.isAgg3 rfl (by first | assumption | exact hS.old (by assumption)) rfl ?_
  refine op_assign rfl rfl ?_
  refine endF (XF.thenN ?_)
  refine seqF (regF ?_)
  refine op_move rfl rfl ?_
  refine op_buildSlice (us := [(0, .int .u8 _)]) hS Tryz.underlying105 Tryz.sizeOf5 Tryz.zeroValue5 rfl rfl rfl (bs_105_1 _) rfl ?_
  clear hS; intro B3 W3 hS
  refine op_append (i := 0) (news := [_]) hS Tryz.underlying105 inf_5 rfl rfl (by show 0 < 1; decide) rfl rfl rfl rfl rfl (CellsAt.own (j := 0) (m := 1) (hS.at_ 0 rfl) rfl) rfl rfl (by simp only [maxLen]; omega) (by show ((confT p (ws.take i)).length + 1) * 1 ≤ _; omega) rfl ?_
  clear hS; intro v4 W4 hS
  refine op_assign rfl rfl ?_
  refine endF (XF.thenN ?_)
  refine regF ?_
  refine op_move rfl rfl ?_
  refine op_move rfl rfl ?_
  refine op_callX (vs := [_, _, _]) goes_52 rfl (Tryz.strconv_AppendInt_10 W1.heap.size ((confT p (ws.take i)).length + 1) y hyr.1 hyr.2 _ _ _ (hS.row 0 rfl) hS.below.size (by omega) (fun w2 hb2 => hT w2 (hS.below.trans hb2))) rfl ?_
  rintro e W90 ⟨v90, rfl, hown90, hb90, _⟩
  refine ⟨_, rfl, ?_⟩
  have hS := (hS.tail.clear).regrow hb90 hown90
  refine op_assign rfl rfl ?_
  refine endF ?_
  refine XF.blkN ?_
  refine XF.thenN ?_
  refine regF ?_
  refine op_add rfl rfl (IntWalk.i64_in _ (by omega)) rfl ?_
  refine op_move rfl rfl ?_
  refine endF ?_
  exact XF.round (wl - (i + 1)) [(3, _), (10, _), (11, _), (12, _)] (by omega) ⟨rfl, rfl, rfl, rfl, trivial⟩ ⟨i + 1, v90, by omega, rfl, rfl, hS.castG (by rw [confT_take hy]; simp [Lib.byteCells, Nat.add_assoc, Nat.add_comm 1])⟩
 ·have hc13 := of_decide_eq_false hc; clear hc
  rw [List.take_of_length_le (by omega)] at hS
  refine exitF ?_
  refine XF.thenX ?_
  refine XF.thenX ?_
  refine XF.blkX ?_
  refine XF.thenN ?_
  refine seqF (regF ?_)
  refine op_move rfl rfl ?_
  refine op_convB Tryz.underlying105 Tryz.underlying5 Tryz.underlying9 rfl (hS.row 0 rfl) hne rfl ?_
  refine op_assign rfl rfl ?_
  refine endF (XF.thenN ?_)
  refine retF ?_
  refine XF.res (res1 Tryz.results34 rfl) ?_
  exact ⟨rfl, hRoot0.trans (hS.below.mono hRoot0.size)⟩
end Go.Proofs.YtfkbkekgnoanaaaGreatDoor
namespace Go.Proofs.YtfkbkekgnoanaaaGreatDoor
open Go Go.RowKit
structure Ready (w : World) (S : PS) (px : RV → PX) (p : PV) (c : CV) : Prop where
 chk : stepE p c = 0
 ok : S.ok
 si : SIs w S p.s.f
 w4 : ∀ r ∈ p.rs, r.wl ≤ 4096
 c4 : c.wl ≤ 4096
 x : ∀ r ∈ p.rs, XIs w S r.x.f (px r)
theorem ready {w : World} {ds d : Nat} {p : PV} {c : CV} (hp : PvIn w ds d p) (h : stepE p c = 0) : ∃ S px, Ready w S px p c := by
 classical
 have h1 : pdsE p = 0 ∧ confB p c = true := by
  unfold stepE at h
  split at h
  ·rename_i hn; exact absurd h hn
  ·rename_i hn
   split at h
   ·rename_i hc; exact ⟨Decidable.of_not_not hn, hc⟩
   ·cases h
 obtain ⟨hd, hc⟩ := h1
 have h2 : spaceE p.s = 0 ∧ p.rs.all (ruleB p.st p.sy) = true ∧ wtE p.s p.rs = 0 := by
  unfold pdsE at hd
  split at hd
  ·rename_i hn; exact absurd hd hn
  ·rename_i hn
   split at hd
   ·cases hd
   ·split at hd
    ·cases hd
    ·split at hd
     ·rename_i ha; exact ⟨Decidable.of_not_not hn, ha, hd⟩
     ·cases hd
 obtain ⟨hs, hr, hw⟩ := h2
 obtain ⟨S, hok, hsi, hx⟩ := space_of hp.s hs
 have hall : ∀ r ∈ p.rs, chkW p.s r.x = 0 := by
  have key : ∀ rs : List RV, wtE p.s rs = 0 → ∀ r ∈ rs, chkW p.s r.x = 0 := by
   intro rs
   induction rs with
   | nil => intro _ r hr; cases hr
   | cons a rs ih =>
    intro hz r hr
    unfold wtE at hz
    split at hz
    ·rename_i h0
     rcases List.mem_cons.1 hr with rfl | hr
     ·exact h0
     ·exact ih hz r hr
    ·rename_i h0; exact absurd hz h0
  exact key _ hw
 have hex : ∀ r, ∃ x, r ∈ p.rs → XIs w S r.x.f x := fun r => by
  by_cases hm : r ∈ p.rs
  ·have h0 := hall r hm
   have hokw : okW p.s r.x = true := by
    unfold chkW at h0
    rw [if_pos hs] at h0
    split at h0
    ·assumption
    ·cases h0
   obtain ⟨x, hxx⟩ := hx r.x d (hp.rin r hm).x hokw
   exact ⟨x, fun _ => hxx⟩
  ·exact ⟨zeroX S, fun h => absurd h hm⟩
 refine ⟨S, fun r => Classical.choose (hex r), h, hok, hsi, fun r hm => ?_, ?_, fun r hm => Classical.choose_spec (hex r) hm⟩
 ·have := List.all_eq_true.1 hr r hm
  unfold ruleB at this
  simp only [Bool.and_eq_true, decide_eq_true_eq] at this
  exact this.2.2.2.1
 ·unfold confB at hc
  simp only [Bool.and_eq_true, decide_eq_true_eq] at hc
  exact hc.2.1
section
variable {w : World} {ds d : Nat} {S : PS} {px : RV → PX} {p : PV} {c : CV} {la : Option Addr} {ll lc : Nat} {is : List Int} {R : Option StT × Int × Int}
theorem runA_is (hp : PvIn w ds d p) (hcf : CIn w c) (hcc : c.wl ≤ c.wc) (hrla : Row w la is) (hll : is.length = ll) (hlm : ll ≤ 9223372036854775807) (hr : Ready w S px p c) (ht : Tabs w) (hR : runF S px p.rs is 0 (c.p, c.ws, oneX S) = R) : Calls Tryz.prog 15 #[p.val, c.val, .slice la ll lc] w (RunRet S R w) := by
 subst hR
 exact runA_c ds d S px p.s p.st p.sy p.ra p.rl p.rc p.rs c.p c.wa c.wl c.wc c.ws la ll lc is w hp.s hp.row hp.len hp.rin hcf.row hcf.len hcc hrla hll hlm hr.si hr.ok hr.chk hr.w4 hr.c4 hr.x ht
end
end Go.Proofs.YtfkbkekgnoanaaaGreatDoor
namespace Go.Proofs.YtfkbkekgnoanaaaGreatDoor
open Go Go.RowKit
def exW : WV := .mk ⟨false, 1, 0, none, 0, 0, [], none, 0, 0, [], none, 0, 0⟩ []
def exP (b1 b2 : Nat) : PV := ⟨.mk ⟨2, 9, none, 0, 0⟩ [], 2, 3, some ⟨b2, 0, none⟩, 2, 2, [⟨0, 1, 0, some ⟨b1, 0, none⟩, 2, 2, [2, 1], exW⟩, ⟨0, 2, 1, none, 0, 0, [], exW⟩]⟩
theorem exW_in (w : World) : WIn w 1 exW := ⟨⟨.inl rfl, rfl, by decide, (fun r hr => by cases hr), .inl rfl, rfl, (fun c hc => by cases hc), by decide⟩, rfl, .inl rfl, fun p hp => by cases hp⟩
theorem row2 {w : World} {b : Nat} {x y : Int} {T : TypeId} (h : w.heap[b]? = some (.cells (List.toArray [.int .i64 x, .int .i64 y]) T (0, 0))) : Row w (some ⟨b, 0, none⟩) [x, y] := row_own h
theorem row1 {w : World} {b : Nat} {x : Int} {T : TypeId} (h : w.heap[b]? = some (.cells (List.toArray [.int .i64 x]) T (0, 0))) : Row w (some ⟨b, 0, none⟩) [x] := by
 refine .inr ⟨b, 0, rfl, fun i hi => ?_⟩
 have : i = 0 := by simp at hi; omega
 subst this
 simp [World.cell?, h]
theorem exP_in {w : World} {b1 b2 : Nat} {T1 T2 : TypeId} (h1 : w.heap[b1]? = some (.cells (List.toArray [.int .i64 2, .int .i64 1]) T1 (0, 0)))
  (h2 : w.heap[b2]? = some (.cells (List.toArray ((⟨0, 1, 0, some ⟨b1, 0, none⟩, 2, 2, [2, 1], exW⟩ : RV).ten ++ (⟨0, 2, 1, none, 0, 0, [], exW⟩ : RV).ten)) T2 (0, 0))) : PvIn w 1 1 (exP b1 b2) := by
 refine ⟨⟨rfl, .inl rfl, fun p hp => by cases hp⟩, .inr ⟨b2, 0, rfl, fun i r hi => ?_⟩, rfl, fun r hr => ?_⟩
 ·match i, hi with
  | 0, hi =>
   cases hi
   exact CellsAt.own (j := 0) (m := 10) h2 rfl
  | 1, hi =>
   cases hi
   exact CellsAt.own (j := 10) (m := 10) h2 rfl
  | i + 2, hi => exact absurd hi (by simp [exP])
 ·rcases List.mem_cons.1 hr with rfl | hr
  ·exact ⟨row2 h1, rfl, exW_in w⟩
  ·rcases List.mem_cons.1 hr with rfl | hr
   ·exact ⟨.inl rfl, rfl, exW_in w⟩
   ·cases hr
theorem example_is (w : World) :
  Calls Tryz.prog 33 #[] w (fun e w' => ∃ b1 b2, e = .returned (exP b1 b2).val ∧ (∀ w2, Agree w.heap.size w' w2 → PvIn w2 1 1 (exP b1 b2)) ∧ Below w.heap.size w w') := by
 refine enterF (args := []) Tryz.func33 rfl Tryz.ntmps33 rfl ?_
 have hS := St.start w
 refine seqF (regF ?_)
 refine op_alloc (cs := [_, _, _, _, _, _]) hS Tryz.zeroValue28 rfl rfl ?_
 clear hS; intro B1 W1 hS
 refine endF (XF.thenN ?_)
 refine seqF (regF ?_)
 refine op_build (us := [(1, .int .i64 _)]) rfl (bld_48_1 _) rfl ?_
 refine op_alloc (cs := [_, _, _, _, _, _]) hS Tryz.zeroValue48 rfl rfl ?_
 clear hS; intro B2 W2 hS
 refine op_storeA (i := 0) (vs := [_, _, _, _, _, _]) (cs' := [_, _, _, _, _, _]) (O' := [_, _]) hS Tryz.sizeOf48 rfl rfl rfl rfl rfl rfl rfl ?_
 clear hS; intro W3 hS
 refine endF (XF.thenN ?_)
 refine seqF (regF ?_)
 refine op_build (us := [(0, .int .i64 _), (1, .int .i64 _)]) rfl (bld_25_0_1 _ _) rfl ?_
 refine op_buildSlice (us := [(0, .int .i64 _), (1, .int .i64 _)]) hS Tryz.underlying29 Tryz.sizeOf3 Tryz.zeroValue3 rfl rfl rfl (bs_29_2 _ _) rfl ?_
 clear hS; intro B4 W4 hS
 refine op_loadA (vs := [_, _, _, _, _, _]) Tryz.isAgg48 Tryz.sizeOf48 rfl (CellsAt.own (j := 0) (m := 6) (hS.at_ 1 rfl) rfl) rfl ?_
 refine op_build (us := [(1, .int .i64 _), (3, .slice _ _ _), (4, .agg (List.toArray [_, _, _, _, _, _]))]) rfl (bld_66_1_3_4 _ _ _ _ _ _ _ _ _ _) rfl ?_
 refine op_loadA (vs := [_, _, _, _, _, _]) Tryz.isAgg48 Tryz.sizeOf48 rfl (CellsAt.own (j := 0) (m := 6) (hS.at_ 1 rfl) rfl) rfl ?_
 refine op_build (us := [(1, .int .i64 _), (2, .int .i64 _), (4, .agg (List.toArray [_, _, _, _, _, _]))]) rfl (bld_66_1_2_4 _ _ _ _ _ _ _ _) rfl ?_
 refine op_buildSlice (us := [(0, .agg (List.toArray [_, _, _, _, _, _, _, _, _, _])), (1, .agg (List.toArray [_, _, _, _, _, _, _, _, _, _]))]) hS Tryz.underlying26 Tryz.sizeOf66 Tryz.zeroValue66 rfl rfl rfl (bs_26_2 _ _ _ _ _ _ _ _ _ _ _ _ _ _ _ _ _ _ _ _) rfl ?_
 clear hS; intro B5 W5 hS
 refine op_build (us := [(0, .agg (List.toArray [_, _, _])), (1, .int .i64 _), (2, .int .i64 _), (3, .slice _ _ _)]) rfl (bld_28_0_1_2_3 _ _ _ _ _ _ _ _) rfl ?_
 refine op_storeA (i := 3) (vs := [_, _, _, _, _, _]) (cs' := [_, _, _, _, _, _]) (O' := [_, _, _, _]) hS Tryz.sizeOf28 rfl rfl rfl rfl rfl rfl rfl ?_
 clear hS; intro W6 hS
 refine endF (XF.thenN ?_)
 refine retF ?_
 refine XF.res (resC1 (vs := [_, _, _, _, _, _]) Tryz.results33 Tryz.isAgg28 Tryz.sizeOf28 rfl (CellsAt.own (j := 0) (m := 6) (hS.at_ 3 rfl) rfl)) ?_
 exact ⟨B4, B5, rfl, fun w2 hg => exP_in ((hg.2 _ (hS.ge 1 rfl) (lt_of_heap (hS.at_ 1 rfl))).trans (hS.at_ 1 rfl)) ((hg.2 _ (hS.ge 0 rfl) (lt_of_heap (hS.at_ 0 rfl))).trans (hS.at_ 0 rfl)), hS.below⟩
theorem ex_ready {w : World} {b1 b2 b3 : Nat} (S : PS) (hS : S = .one 2 9) : Ready w S (fun _ => .one (pC 1)) (exP b1 b2) ⟨0, some ⟨b3, 0, none⟩, 1, 1, [1]⟩ := by
 subst hS
 have hx : XIs w (.one 2 9) exW.f (.one (pC 1)) := PIs.of (by decide) (exW_in w).1 (by decide)
 refine ⟨?_, by show plainB 2 9 0 = true; decide, ⟨none, 0, rfl⟩, fun r hr => ?_, by show 1 ≤ 4096; decide, fun r hr => ?_⟩
 ·have e1 : spaceE (exP b1 b2).s = 0 := by show spaceE (.mk ⟨2, 9, none, 0, 0⟩ []) = 0; decide
  have e2 : (exP b1 b2).rs.all (ruleB 2 3) = true := by simp [exP, ruleB, inQ]
  have e3 : chkW (exP b1 b2).s exW = 0 := by show chkW (.mk ⟨2, 9, none, 0, 0⟩ []) exW = 0; decide
  have e4 : wtE (exP b1 b2).s (exP b1 b2).rs = 0 := wtE_all (by simp [exP]; exact decide_eq_true e3)
  have e5 : pdsE (exP b1 b2) = 0 := by
   unfold pdsE
   rw [if_neg (by rw [e1]; simp), if_neg (by simp [exP]), if_neg (by simp [exP]), if_pos (show (exP b1 b2).rs.all (ruleB (exP b1 b2).st (exP b1 b2).sy) = true from e2), e4]
  unfold stepE
  rw [if_neg (by rw [e5]; simp), if_pos (by simp [confB, exP, inQ])]
 ·rcases List.mem_cons.1 hr with rfl | hr
  ·show 2 ≤ 4096; decide
  ·rcases List.mem_cons.1 hr with rfl | hr
   ·show 0 ≤ 4096; decide
   ·cases hr
 ·rcases List.mem_cons.1 hr with rfl | hr
  ·exact hx
  ·rcases List.mem_cons.1 hr with rfl | hr
   ·exact hx
   ·cases hr
theorem ex_run {b1 b2 : Nat} : runF (.one 2 9) (fun _ => .one (pC 1)) (exP b1 b2).rs [0, 1] 0 (0, [1], oneX (.one 2 9)) = (some (1, [1], .one (pC 2)), 0, 0) := by rfl
theorem conf11 : confT 1 [1] = [49, 32, 49] := by
 have h : Lib.itoa 1 = [49] := by simp [Lib.itoa, Lib.decDigits]
 simp [confT, h]
theorem exRun {w : World} {b1 b2 b3 b4 : Nat} (hp : PvIn w 1 1 (exP b1 b2)) (h3 : Row w (some ⟨b3, 0, none⟩) [1]) (h4 : Row w (some ⟨b4, 0, none⟩) [0, 1]) (ht : Tabs w) : Calls Tryz.prog 15 #[(exP b1 b2).val, .agg #[.int .i64 0, .slice (some ⟨b3, 0, none⟩) 1 1], .slice (some ⟨b4, 0, none⟩) 2 2] w fun e w' => ∃ a c f, e = .returned (.tuple #[.agg #[.int .i64 1, .slice a 1 c], WF.val f, .int .i64 0, .int .i64 0]) ∧ RowN w.heap.size w' a c [1] ∧ f.c = 2 ∧ Below w.heap.size w w' := by
 have hr := ex_ready (w := w) (b1 := b1) (b2 := b2) (b3 := b3) _ rfl
 refine (runA_is (c := ⟨0, some ⟨b3, 0, none⟩, 1, 1, [1]⟩) (is := [0, 1]) hp ⟨h3, rfl⟩ (by show 1 ≤ 1; decide) h4 rfl (by decide) hr ht ex_run).mono ?_
 rintro e w' ⟨hb, a, c, f, rfl, hn, hx⟩
 exact ⟨a, c, f, rfl, hn, (pf_inj (hx.is).pf).2.1, hb⟩
end Go.Proofs.YtfkbkekgnoanaaaGreatDoor
namespace Go.Proofs.YtfkbkekgnoanaaaGreatDoor
open Go Go.RowKit
theorem text11 {w : World} {a : Option Addr} {c : Nat} (hr : Row w a [1]) (ht : Tabs w) : Calls Tryz.prog 34 #[.agg #[.int .i64 1, .slice a 1 c]] w fun e w' => e = .returned (.string ⟨#[49, 32, 49]⟩) ∧ Below w.heap.size w w' := by
 have h := text_c 1 a 1 c [1] w hr rfl (by decide) (by decide) (by decide) (by rw [conf11]; decide) ht
 rw [conf11] at h
 exact h
theorem awakeS_is (w : World) (ht : Tabs w) :
  Calls Tryz.prog 14 #[] w (fun e w' => e = .returned (.bool (true)) ∧ Below w.heap.size w w') := by
 refine enterF (args := []) Tryz.func14 rfl Tryz.ntmps14 rfl ?_
 have hS := St.start w
 refine seqF (regF ?_)
 refine op_assign rfl rfl ?_
 refine endF (XF.thenN ?_)
 refine seqF (regF ?_)
 refine op_call (vs := []) hS goes_33 rfl (example_is _) rfl ?_
 rintro e W1 ⟨b1, b2, rfl, hex, hb⟩
 refine ⟨_, rfl, hb, fun hS' => ?_⟩
 clear hS; have hS := hS'; clear hS'
 refine op_buildSlice (us := [(0, .int .i64 _)]) hS Tryz.underlying29 Tryz.sizeOf3 Tryz.zeroValue3 rfl rfl rfl (bs_29_1 _) rfl ?_
 clear hS; intro B2 W2 hS
 refine op_build (us := [(1, .slice _ _ _)]) rfl (bld_31_1 _ _ _) rfl ?_
 refine op_buildSlice (us := [(0, .int .i64 _), (1, .int .i64 _)]) hS Tryz.underlying29 Tryz.sizeOf3 Tryz.zeroValue3 rfl rfl rfl (bs_29_2 _ _) rfl ?_
 clear hS; intro B3 W3 hS
 have hsz := hS.below.size
 refine op_call (vs := [_, _, _]) hS goes_15 rfl (exRun (hex _ (hS.since 0 rfl)) (row1 (hS.at_ 1 rfl)) (row2 (hS.at_ 0 rfl)) (ht.below hS.below)) rfl ?_
 rintro e W4 ⟨a5, c5, f5, rfl, hrn, hfc, hb⟩
 refine ⟨_, rfl, hb, fun hS' => ?_⟩
 clear hS; have hS := hS'; clear hS'
 refine op_move rfl rfl ?_
 refine op_extract rfl rfl rfl ?_
 refine op_extract rfl rfl rfl ?_
 refine op_extract rfl rfl rfl ?_
 refine op_extract rfl rfl rfl ?_
 refine op_alloc (cs := [_, _]) hS Tryz.zeroValue31 rfl rfl ?_
 clear hS; intro B5 W5 hS
 refine op_alloc (cs := [_, _, _, _, _, _]) hS Tryz.zeroValue48 rfl rfl ?_
 clear hS; intro B6 W6 hS
 refine op_storeA (i := 1) (vs := [_, _]) (cs' := [_, _]) (O' := [_, _, _, _]) hS Tryz.sizeOf31 rfl rfl rfl rfl rfl rfl rfl ?_
 clear hS; intro W7 hS
 refine op_storeA (i := 0) (vs := [_, _, _, _, _, _]) (cs' := [_, _, _, _, _, _]) (O' := [_, _, _, _]) hS Tryz.sizeOf48 rfl rfl rfl rfl rfl rfl rfl ?_
 clear hS; intro W8 hS
 refine op_assign rfl rfl ?_
 refine op_assign rfl rfl ?_
 refine endF (XF.thenN ?_)
 refine seqF (regF ?_)
 refine op_move rfl rfl ?_
 refine op_eql rfl rfl rfl ?_
 refine op_move rfl rfl ?_
 refine op_cases (d := 17) rfl (fun hc => ?_) (fun hc => absurd (of_decide_eq_false hc) (by omega))
 have hc := of_decide_eq_true hc
 refine op_wantedF (d := 17) rfl rfl ?_
 refine op_loadA (vs := [_, _]) Tryz.isAgg31 Tryz.sizeOf31 rfl (CellsAt.own (j := 0) (m := 2) (hS.at_ 1 rfl) rfl) rfl ?_
 refine op_wantedF (d := 17) rfl rfl ?_
 refine op_call (vs := [_]) hS goes_34 rfl (text11 (hrn.agree (hS.since 0 rfl)).row (ht.below hS.below)) rfl ?_
 rintro e W9 ⟨rfl, hb⟩
 refine ⟨_, rfl, hb, fun hS' => ?_⟩
 clear hS; have hS := hS'; clear hS' hb
 refine op_wantedF (d := 17) rfl rfl ?_
 refine op_binG rfl rfl rfl (run_eqlS_same _ _ _) rfl ?_
 refine op_pickT rfl rfl rfl ?_
 refine op_move rfl rfl ?_
 refine op_wantedF (d := 22) rfl rfl ?_
 refine op_field (o' := 1) fa_48_1 rfl rfl rfl ?_
 refine op_wantedF (d := 22) rfl rfl ?_
 refine op_load Tryz.isAgg3 rfl (cell_own (hS.at_ 0 rfl) rfl) rfl ?_
 refine op_wantedF (d := 22) rfl rfl ?_
 refine op_eql rfl rfl rfl ?_
 refine op_pickT rfl rfl rfl ?_
 refine op_assign rfl rfl ?_
 refine endF (XF.thenN ?_)
 refine retF ?_
 refine XF.res (res1 Tryz.results14 rfl) ?_
 exact ⟨rbool (decide_eq_true hfc), hS.below⟩
end Go.Proofs.YtfkbkekgnoanaaaGreatDoor
namespace Go.Proofs.YtfkbkekgnoanaaaGreatDoor
open Go.RowKit Go.ChangeShapes Go.WideShapes Go.Deep
section
variable {H : Type} {enc : TypeId × Value → H} {w : World} {base : Nat} {spare : Nat → Bool} {held : Bool}
theorem three_len {cs : List Value} (h : cs.length = 3) : ∃ a b c, cs = [a, b, c] := by
 match cs, h with
 | [a, b, c], _ => exact ⟨a, b, c, rfl⟩
theorem cell_open {n : Nat} {cs : List Value} {x : DataW H × List MemPlace} (hl : cs.length = 3) (h : DataW.trod enc Tryz.prog w base spare held n 89 cs = some x) :
  ∃ c : Cl, c.f < 18446744073709551616 ∧ cs = [.int .u64 (c.f : Int), .int .i64 c.k, .int .i64 c.v] := by
 obtain ⟨xs, n', _, hx, _, hlen, hg⟩ := DataW.trod_struct Tryz.underlying89 h
 obtain ⟨a, b, c, rfl⟩ := three_len hl
 ·skip
  have hlen3 : xs.length = 3 := hlen
  have g0 := hg 0 _ rfl
  have g1 := hg 1 _ rfl
  have g2 := hg 2 _ rfl
  rw [show Tryz.prog.cellsOf _ = 1 by kernel_rfl, List.getElem?_eq_getElem (by omega)] at g0 g1 g2
  obtain ⟨z0, e0, _, w0⟩ := DataW.trod_int Tryz.underlying41 g0
  obtain ⟨z1, e1, _, w1⟩ := DataW.trod_int (k := .i64) (by kernel_rfl) g1
  obtain ⟨z2, e2, _, w2⟩ := DataW.trod_int (k := .i64) (by kernel_rfl) g2
  simp at e0 e1 e2
  subst e0 e1 e2
  have hw : 0 ≤ z0 ∧ z0 ≤ 18446744073709551615 := by simpa [Lit.wf, IntKind.signed, IntKind.bits, IntKind.min, IntKind.max] using w0
  exact ⟨⟨z0.toNat, z1, z2⟩, by show z0.toNat < _; omega, by simp; omega⟩
theorem list_of : ∀ (n : Nat) (p : Nat → Cl → Prop), (∀ i, i < n → ∃ c, p i c) → ∃ xs : List Cl, xs.length = n ∧ ∀ i c, xs[i]? = some c → p i c
 | 0, p, h => ⟨[], rfl, fun i c hi => by simp at hi⟩
 | n + 1, p, h => by
  obtain ⟨xs, hl, hp⟩ := list_of n p (fun i hi => h i (by omega))
  obtain ⟨c, hc⟩ := h n (by omega)
  refine ⟨xs ++ [c], by simp [hl], fun i d hi => ?_⟩
  rcases Nat.lt_or_ge i n with h1 | h1
  ·rw [List.getElem?_append_left (by omega)] at hi
   exact hp i d hi
  ·obtain ⟨h2, _⟩ := List.getElem?_eq_some_iff.1 hi
   simp [hl] at h2
   obtain rfl : i = n := by omega
   rw [List.getElem?_append_right (by omega), hl, Nat.sub_self] at hi
   simp at hi
   subst hi
   exact hc
theorem cells_open {n : Nat} {a : Option Addr} {len cap : Nat} {x : DataW H × List MemPlace} (h : DataW.trod enc Tryz.prog w base spare held n 45 [.slice a len cap] = some x) :
  ∃ xs, IsCells w a len cap xs := by
 rcases open_slice Tryz.underlying45 h with ⟨hcs, _⟩ | ⟨ad, len', cap', m, n', D, Pl, hcs, hb, hl, hm, hmm, hx, hi⟩
 ·simp at hcs
  obtain ⟨rfl, rfl, rfl⟩ := hcs
  exact ⟨[], rfl, by simp, .inl rfl, fun c hc => by simp at hc⟩
 ·simp at hcs
  obtain ⟨rfl, rfl, rfl⟩ := hcs
  rw [show Tryz.prog.cellsOf 89 = 3 by kernel_rfl] at hi
  obtain ⟨xs, hxl, hxs⟩ := list_of len (fun i c => c.f < 18446744073709551616 ∧ w.cell? (ad.add (i * 3)) = some (.int .u64 (c.f : Int)) ∧ w.cell? (ad.add (i * 3 + 1)) = some (.int .i64 c.k) ∧ w.cell? (ad.add (i * 3 + 2)) = some (.int .i64 c.v)) (fun i hil => by
   obtain ⟨cs', hc, ht⟩ := hi i (by rw [hmm]; split <;> omega)
   obtain ⟨_, hcl, hat⟩ := World.cells?_some hc
   obtain ⟨c, hf, rfl⟩ := cell_open hcl ht
   have e0 := hat 0 (by omega)
   have e1 := hat 1 (by omega)
   have e2 := hat 2 (by omega)
   rw [add_add] at e0 e1 e2
   exact ⟨c, hf, e0, e1, e2⟩)
  refine ⟨xs, hxl.symm, by omega, ?_, fun c hc => ?_⟩
  ·rcases Nat.eq_zero_or_pos len with h0 | h0
   ·exact .inl (List.length_eq_zero_iff.1 (by omega))
   ·obtain ⟨b, off, spot⟩ := ad
    obtain ⟨_, h1, _, _⟩ := hxs 0 (xs[0]'(by omega)) (List.getElem?_eq_getElem (by omega))
    have hspot : spot = none := by simpa [Addr.add] using World.cell?_spot h1
    subst hspot
    refine .inr ⟨b, off, rfl, fun i c hic => ?_⟩
    have e : ∀ k, ({ block := b, off := off } : Addr).add k = ⟨b, off + k, none⟩ := fun k => by simp [Addr.add]
    have h3 := (hxs i c hic).2
    rw [e, e, e, ← Nat.add_assoc, ← Nat.add_assoc] at h3
    exact h3
  ·obtain ⟨i, hi', hic⟩ := List.mem_iff_getElem.1 hc
   exact (hxs i c (by rw [← hic]; exact List.getElem?_eq_getElem hi')).1
end
end Go.Proofs.YtfkbkekgnoanaaaGreatDoor
namespace Go.Proofs.YtfkbkekgnoanaaaGreatDoor
open Go.RowKit Go.ChangeShapes Go.WideShapes Go.Deep
section
variable {H : Type} {enc : TypeId × Value → H} {w : World} {base : Nat} {spare : Nat → Bool} {held : Bool}
theorem slice_form {n : Nat} {cs : List Value} {x : DataW H × List MemPlace} (h : DataW.trod enc Tryz.prog w base spare held n 45 cs = some x) : ∃ a len cap, cs = [.slice a len cap] := by
 rcases open_slice Tryz.underlying45 h with ⟨hcs, _⟩ | ⟨ad, len', cap', m, n', D, Pl, hcs, _⟩
 ·exact ⟨_, _, _, hcs⟩
 ·exact ⟨_, _, _, hcs⟩
end
end Go.Proofs.YtfkbkekgnoanaaaGreatDoor
namespace Go.Proofs.YtfkbkekgnoanaaaGreatDoor
open Go.RowKit Go.ChangeShapes Go.WideShapes Go.Deep Go.Joins
theorem list_pick {α : Type} : ∀ (n : Nat) (p : Nat → α → Prop), (∀ i, i < n → ∃ c, p i c) → ∃ xs : List α, xs.length = n ∧ ∀ i c, xs[i]? = some c → p i c
 | 0, p, h => ⟨[], rfl, fun i c hi => by simp at hi⟩
 | n + 1, p, h => by
  obtain ⟨xs, hl, hp⟩ := list_pick n p (fun i hi => h i (by omega))
  obtain ⟨c, hc⟩ := h n (by omega)
  refine ⟨xs ++ [c], by simp [hl], fun i d hi => ?_⟩
  rcases Nat.lt_or_ge i n with h1 | h1
  ·rw [List.getElem?_append_left (by omega)] at hi
   exact hp i d hi
  ·obtain ⟨h2, _⟩ := List.getElem?_eq_some_iff.1 hi
   simp [hl] at h2
   obtain rfl : i = n := by omega
   rw [List.getElem?_append_right (by omega), hl, Nat.sub_self] at hi
   simp at hi
   subst hi
   exact hc
theorem SIn.more {w : World} : ∀ {d e : Nat} {s : SV}, d ≤ e → SIn w d s → SIn w e s
 | 0, _, _, _, h => h.elim
 | d + 1, 0, _, hl, _ => by omega
 | d + 1, e + 1, .mk f ps, hl, ⟨h1, h2, h3⟩ => ⟨h1, h2, fun p hp => SIn.more (by omega) (h3 p hp)⟩
theorem WIn.more {w : World} : ∀ {d e : Nat} {s : WV}, d ≤ e → WIn w d s → WIn w e s
 | 0, _, _, _, h => h.elim
 | d + 1, 0, _, hl, _ => by omega
 | d + 1, e + 1, .mk f ps, hl, ⟨h0, h1, h2, h3⟩ => ⟨h0, h1, h2, fun p hp => WIn.more (by omega) (h3 p hp)⟩
theorem six_len {cs : List Value} (h : cs.length = 6) : ∃ a b c d e f, cs = [a, b, c, d, e, f] := by
 match cs, h with
 | [a, b, c, d, e, f], _ => exact ⟨a, b, c, d, e, f, rfl⟩
theorem two_len {cs : List Value} (h : cs.length = 2) : ∃ a b, cs = [a, b] := by
 match cs, h with
 | [a, b], _ => exact ⟨a, b, rfl⟩
section
variable {H : Type} {enc : TypeId × Value → H} {w : World} {base : Nat} {spare : Nat → Bool} {held : Bool}
theorem space_in : ∀ (fuel : Nat) {cs : List Value} {x : DataW H × List MemPlace}, DataW.trod enc Tryz.prog w base spare held fuel 25 cs = some x → ∃ s : SV, cs = [.int .i64 s.f.tag, .int .i64 s.f.dim, .slice s.f.a s.f.len s.f.cap] ∧ SIn w fuel s := by
 intro fuel
 induction fuel using Nat.strongRecOn with
 | _ fuel ih =>
 intro cs x h
 obtain ⟨xs, n, hn, _, hl, hlen, hg⟩ := DataW.trod_struct Tryz.underlying25 h
 rw [show Tryz.prog.cellsOf 25 = 3 by kernel_rfl] at hl
 obtain ⟨a, b, c, rfl⟩ := three_len hl
 have hlen3 : xs.length = 3 := hlen
 have g0 := hg 0 _ rfl
 have g1 := hg 1 _ rfl
 have g2 := hg 2 _ rfl
 rw [show Tryz.prog.cellsOf _ = 1 by kernel_rfl, List.getElem?_eq_getElem (by omega)] at g0 g1 g2
 obtain ⟨z0, e0, _, w0⟩ := DataW.trod_int (k := .i64) (by kernel_rfl) g0
 obtain ⟨z1, e1, _, w1⟩ := DataW.trod_int (k := .i64) (by kernel_rfl) g1
 simp at e0 e1
 subst e0 e1
 rcases DataW.trod_slice Tryz.underlying23 g2 with ⟨hcs, _⟩ | ⟨ad, len, cap, elems, rest, n', hn', hcs, _, hb, hle, hcap, hel, hi, _, _⟩
 ·simp at hcs
  subst hcs
  subst hn
  exact ⟨.mk ⟨z0, z1, none, 0, 0⟩ [], rfl, rfl, .inl rfl, fun p hp => by cases hp⟩
 ·simp at hcs
  subst hcs
  subst hn
  rw [show Tryz.prog.cellsOf 25 = 3 by kernel_rfl] at hi
  obtain ⟨ps, hpl, hps⟩ := list_pick len (fun i (p : SV) => (w.cell? (ad.add (i * 3)) = some (.int .i64 p.f.tag) ∧ w.cell? (ad.add (i * 3 + 1)) = some (.int .i64 p.f.dim) ∧ w.cell? (ad.add (i * 3 + 2)) = some (.slice p.f.a p.f.len p.f.cap)) ∧ SIn w n' p) (fun i hil => by
   have hii := hi i hil
   rw [List.getElem?_eq_getElem (by omega)] at hii
   obtain ⟨cs', hc, ht⟩ := Option.bind_eq_some_iff.1 hii
   obtain ⟨_, hcl, hat⟩ := World.cells?_some hc
   obtain ⟨s, rfl, hs⟩ := ih n' (by omega) ht
   have e0 := hat 0 (by omega)
   have e1 := hat 1 (by omega)
   have e2 := hat 2 (by omega)
   rw [Go.Deep.add_add] at e0 e1 e2
   exact ⟨s, ⟨e0, e1, e2⟩, hs⟩)
  refine ⟨.mk ⟨z0, z1, some ad, len, cap⟩ ps, rfl, hpl, ?_, fun p hp => ?_⟩
  ·rcases Nat.eq_zero_or_pos len with h0 | h0
   ·exact .inl (List.length_eq_zero_iff.1 (by omega))
   ·obtain ⟨b, off, spot⟩ := ad
    obtain ⟨⟨h1, _, _⟩, _⟩ := hps 0 (ps[0]'(by omega)) (List.getElem?_eq_getElem (by omega))
    have hspot : spot = none := by simpa [Addr.add] using World.cell?_spot h1
    subst hspot
    refine .inr ⟨b, off, rfl, fun i c hic => ?_⟩
    have e : ∀ k, ({ block := b, off := off } : Addr).add k = ⟨b, off + k, none⟩ := fun k => by simp [Addr.add]
    have h3 := (hps i c hic).1
    rw [e, e, e, ← Nat.add_assoc, ← Nat.add_assoc] at h3
    exact h3
  ·obtain ⟨i, hi', hic⟩ := List.mem_iff_getElem.1 hp
   exact (hps i p (by rw [← hic]; exact List.getElem?_eq_getElem hi')).2.more (by omega)
theorem u64s_open {n : Nat} {v : Value} {x : DataW H × List MemPlace} (h : DataW.trod enc Tryz.prog w base spare held n 42 [v] = some x) :
  ∃ (a : Option Addr) (len cap : Nat) (rows : List Nat), v = .slice a len cap ∧ VRow w a (u64s rows) ∧ rows.length = len ∧ ∀ r ∈ rows, r < 18446744073709551616 := by
 rcases open_ints (t := 42) (e := 41) (k := .u64) (by kernel_rfl) (by kernel_rfl) (by kernel_rfl) h with ⟨hcs, _⟩ | ⟨x, len, cap, zs, hcs, _, hl, hm, hz, _, hcell, hwz⟩
 ·have hcs' : v = .slice none 0 0 := by simpa using hcs
  subst hcs'
  exact ⟨none, 0, 0, [], rfl, .inl rfl, rfl, fun r hr => by cases hr⟩
 ·have hcs' : v = .slice (some x) len cap := by simpa using hcs
  subst hcs'
  have hzl : len ≤ zs.length := by rw [hz]; split <;> omega
  refine ⟨some x, len, cap, (zs.take len).map Int.toNat, rfl, ?_, ?_, ?_⟩
  ·rcases Nat.eq_zero_or_pos len with h0 | h0
   ·subst h0; exact .inl (by simp [u64s])
   ·obtain ⟨b, off, spot⟩ := x
    have hc0 := hcell 0 (by omega)
    have hspot : spot = none := by simpa [Addr.add] using World.cell?_spot hc0
    subst hspot
    refine .inr ⟨b, off, rfl, fun i v hi => ?_⟩
    obtain ⟨q, hq, rfl⟩ := u64s_at hi
    rw [List.getElem?_map, List.getElem?_take] at hq
    split at hq
    ·rename_i hlt
     have hi2 : i < zs.length := by omega
     rw [List.getElem?_eq_getElem hi2] at hq
     have hq' : (zs[i]).toNat = q := by simpa using hq
     obtain ⟨m, hm1, hm2⟩ := u64_nat (hwz _ (List.getElem_mem hi2))
     have hc := hcell i hi2
     have e : ({ block := b, off := off } : Addr).add i = ⟨b, off + i, none⟩ := by simp [Addr.add]
     rw [e] at hc
     rw [hc]
     have : zs.getD i 0 = zs[i] := by simp [List.getD, List.getElem?_eq_getElem hi2]
     rw [this, hm1, ← hq', hm1]
     rfl
    ·cases hq
  ·simp; omega
  ·intro r hr
   obtain ⟨z, hz1, rfl⟩ := List.mem_map.1 hr
   obtain ⟨m, hm1, hm2⟩ := u64_nat (hwz z (List.mem_of_mem_take hz1))
   rw [hm1]; exact hm2
theorem facts_in {n : Nat} {a b : Value} {x : DataW H × List MemPlace} (h : DataW.trod enc Tryz.prog w base spare held n 44 [a, b] = some x) :
  ∃ (g : Nat) (ra : Option Addr) (rl rc : Nat) (rows : List Nat), a = .int .u64 (g : Int) ∧ b = .slice ra rl rc ∧ g < 18446744073709551616 ∧ VRow w ra (u64s rows) ∧ rows.length = rl ∧ ∀ r ∈ rows, r < 18446744073709551616 := by
 obtain ⟨xs, n', _, _, hl, hlen, hg⟩ := DataW.trod_struct Tryz.underlying44 h
 have hlen2 : xs.length = 2 := hlen
 have g0 := hg 0 _ rfl
 have g1 := hg 1 _ rfl
 rw [show Tryz.prog.cellsOf _ = 1 by kernel_rfl, List.getElem?_eq_getElem (by omega)] at g0 g1
 obtain ⟨z0, e0, _, w0⟩ := DataW.trod_int (k := .u64) (by kernel_rfl) g0
 simp at e0
 subst e0
 obtain ⟨g, rfl, hg64⟩ := u64_nat w0
 obtain ⟨ra, rl, rc, rows, e1, h1, h2, h3⟩ := u64s_open (v := b) g1
 exact ⟨g, ra, rl, rc, rows, rfl, e1, hg64, h1, h2, h3⟩
theorem weight_in : ∀ (fuel : Nat) {cs : List Value} {x : DataW H × List MemPlace}, DataW.trod enc Tryz.prog w base spare held fuel 48 cs = some x → ∃ s : WV, cs = s.f.six ∧ WIn w fuel s := by
 intro fuel
 induction fuel using Nat.strongRecOn with
 | _ fuel ih =>
 intro cs x h
 obtain ⟨xs, n, hn, _, hl, hlen, hg⟩ := DataW.trod_struct Tryz.underlying48 h
 rw [show Tryz.prog.cellsOf 48 = 6 by kernel_rfl] at hl
 obtain ⟨a, b, c, d, e, f, rfl⟩ := six_len hl
 have hlen5 : xs.length = 5 := hlen
 have g0 := hg 0 _ rfl
 have g1 := hg 1 _ rfl
 have g2 := hg 2 _ rfl
 have g3 := hg 3 _ rfl
 have g4 := hg 4 _ rfl
 rw [show Tryz.prog.cellsOf _ = 1 by kernel_rfl, List.getElem?_eq_getElem (by omega)] at g0 g1 g3 g4
 rw [show Tryz.prog.cellsOf _ = 2 by kernel_rfl, List.getElem?_eq_getElem (by omega)] at g2
 obtain ⟨z0, e0, _⟩ := DataW.trod_bool (by kernel_rfl) g0
 obtain ⟨z1, e1, _, w1⟩ := DataW.trod_int (k := .i64) (by kernel_rfl) g1
 simp at e0 e1
 subst e0 e1
 obtain ⟨gg, ra, rl, rc, rows, rfl, rfl, hg64, hrow, hrl, hr64⟩ := facts_in (a := c) (b := d) g2
 obtain ⟨ca, cl, cc, e3⟩ := slice_form g3
 have e3' : e = .slice ca cl cc := by simpa using e3
 subst e3'
 obtain ⟨cells, hcl, hcm, hcrow, hcbits⟩ := cells_open (a := ca) (len := cl) (cap := cc) g3
 rcases DataW.trod_slice Tryz.underlying46 g4 with ⟨hcs, _⟩ | ⟨ad, len, cap, elems, rest, n', hn', hcs, _, hb, hle, hcap, hel, hi, _, _⟩
 ·simp at hcs
  subst hcs
  subst hn
  exact ⟨.mk ⟨z0, z1, gg, ra, rl, rc, rows, ca, cl, cc, cells, none, 0, 0⟩ [], rfl, ⟨hrow, hrl, hg64, hr64, hcrow, hcl.symm, hcbits, by dsimp only; omega⟩, rfl, .inl rfl, fun p hp => by cases hp⟩
 ·simp at hcs
  subst hcs
  subst hn
  rw [show Tryz.prog.cellsOf 48 = 6 by kernel_rfl] at hi
  obtain ⟨ps, hpl, hps⟩ := list_pick len (fun i (p : WV) => (w.cell? (ad.add (i * 6)) = some (.bool p.f.z) ∧ w.cell? (ad.add (i * 6 + 1)) = some (.int .i64 p.f.c) ∧ w.cell? (ad.add (i * 6 + 2)) = some (.int .u64 (p.f.g : Int)) ∧ w.cell? (ad.add (i * 6 + 3)) = some (.slice p.f.ra p.f.rl p.f.rc) ∧ w.cell? (ad.add (i * 6 + 4)) = some (.slice p.f.ca p.f.cl p.f.cc) ∧ w.cell? (ad.add (i * 6 + 5)) = some (.slice p.f.pa p.f.pl p.f.pc)) ∧ WIn w n' p) (fun i hil => by
   have hii := hi i hil
   rw [List.getElem?_eq_getElem (by omega)] at hii
   obtain ⟨cs', hc, ht⟩ := Option.bind_eq_some_iff.1 hii
   obtain ⟨_, hcl, hat⟩ := World.cells?_some hc
   obtain ⟨s, rfl, hs⟩ := ih n' (by omega) ht
   have e0 := hat 0 (by omega)
   have e1 := hat 1 (by omega)
   have e2 := hat 2 (by omega)
   have e3 := hat 3 (by omega)
   have e4 := hat 4 (by omega)
   have e5 := hat 5 (by omega)
   rw [Go.Deep.add_add] at e0 e1 e2 e3 e4 e5
   exact ⟨s, ⟨e0, e1, e2, e3, e4, e5⟩, hs⟩)
  refine ⟨.mk ⟨z0, z1, gg, ra, rl, rc, rows, ca, cl, cc, cells, some ad, len, cap⟩ ps, rfl, ⟨hrow, hrl, hg64, hr64, hcrow, hcl.symm, hcbits, by dsimp only; omega⟩, hpl, ?_, fun p hp => ?_⟩
  ·rcases Nat.eq_zero_or_pos len with h0 | h0
   ·exact .inl (List.length_eq_zero_iff.1 (by omega))
   ·obtain ⟨b, off, spot⟩ := ad
    obtain ⟨⟨h1, _⟩, _⟩ := hps 0 (ps[0]'(by omega)) (List.getElem?_eq_getElem (by omega))
    have hspot : spot = none := by simpa [Addr.add] using World.cell?_spot h1
    subst hspot
    refine .inr ⟨b, off, rfl, fun i c hic => ?_⟩
    have e : ∀ k, ({ block := b, off := off } : Addr).add k = ⟨b, off + k, none⟩ := fun k => by simp [Addr.add]
    have h3 := (hps i c hic).1
    rw [e, e, e, e, e, e, ← Nat.add_assoc, ← Nat.add_assoc, ← Nat.add_assoc, ← Nat.add_assoc, ← Nat.add_assoc] at h3
    exact h3
  ·obtain ⟨i, hi', hic⟩ := List.mem_iff_getElem.1 hp
   exact (hps i p (by rw [← hic]; exact List.getElem?_eq_getElem hi')).2.more (by omega)
end
end Go.Proofs.YtfkbkekgnoanaaaGreatDoor
namespace Go.Proofs.YtfkbkekgnoanaaaGreatDoor
open Go Go.RowKit
theorem RowN.lim {lo : Nat} {W : World} {a : Option Addr} {c : Nat} {xs : List Int} (h : RowN lo W a c xs) : xs.length ≤ maxLen := by
 rcases h.2 with ⟨e1, e2⟩ | ⟨g, cap, cur, e1, _, _, hn, hm, _⟩
 ·omega
 ·omega
end Go.Proofs.YtfkbkekgnoanaaaGreatDoor
namespace Go.Proofs.YtfkbkekgnoanaaaGreatDoor
open Go Go.RowKit
theorem goes_10 : goesIn Tryz.prog 10 = true := by kernel_rfl
theorem goes_11 : goesIn Tryz.prog 11 = true := by kernel_rfl
theorem goes_6 : goesIn Tryz.prog 6 = true := by kernel_rfl
theorem goes_7 : goesIn Tryz.prog 7 = true := by kernel_rfl
theorem goes_8 : goesIn Tryz.prog 8 = true := by kernel_rfl
theorem goes_9 : goesIn Tryz.prog 9 = true := by kernel_rfl
theorem nextR_bad (ds d : Nat) (s : SV) (st sy : Int) (ra : Option Addr) (rl rc : Nat) (rs : List RV) (p : Int) (wa : Option Addr) (wl wc : Nat) (ws : List Int) (w : World) (hs : SIn w ds s) (hprow : RRow w ra rs) (hplen : rs.length = rl) (hin : ∀ r ∈ rs, RIn w d r) (hrow : Row w wa ws) (hlen : ws.length = wl) (hcap : wl ≤ wc) (hne : stepE ⟨s, st, sy, ra, rl, rc, rs⟩ ⟨p, wa, wl, wc, ws⟩ ≠ 0) :
  Calls Tryz.prog 7 #[.agg #[.int .i64 s.f.tag, .int .i64 s.f.dim, .slice s.f.a s.f.len s.f.cap, .int .i64 st, .int .i64 sy, .slice ra rl rc], .agg #[.int .i64 p, .slice wa wl wc]] w (NxU (nxE (nextF p ws rs 0) (stepE ⟨s, st, sy, ra, rl, rc, rs⟩ ⟨p, wa, wl, wc, ws⟩)) w) := by
 refine enterF (args := [.agg #[.int .i64 s.f.tag, .int .i64 s.f.dim, .slice s.f.a s.f.len s.f.cap, .int .i64 st, .int .i64 sy, .slice ra rl rc], .agg #[.int .i64 p, .slice wa wl wc]]) Tryz.func7 rfl Tryz.ntmps7 rfl ?_
 have hS := St.start w
 refine seqF (regF ?_)
 refine op_box (cs := [_, _, _, _, _, _]) hS rfl rfl rfl ?_
 clear hS; intro B1 W1 hS
 refine op_box (cs := [_, _]) hS rfl rfl rfl ?_
 clear hS; intro B2 W2 hS
 refine op_assign rfl rfl ?_
 refine op_assign rfl rfl ?_
 refine op_assign rfl rfl ?_
 refine endF (XF.thenN ?_)
 refine seqF (regF ?_)
 refine op_loadA (vs := [_, _, _, _, _, _]) Tryz.isAgg28 Tryz.sizeOf28 rfl (CellsAt.own (j := 0) (m := 6) (hS.at_ 1 rfl) rfl) rfl ?_
 refine op_loadA (vs := [_, _]) Tryz.isAgg31 Tryz.sizeOf31 rfl (CellsAt.own (j := 0) (m := 2) (hS.at_ 0 rfl) rfl) rfl ?_
 refine op_call (vs := [_, _]) hS goes_13 rfl (stepR_is ds d ⟨s, st, sy, ra, rl, rc, rs⟩ ⟨p, wa, wl, wc, ws⟩ _ (PvIn.below ⟨hs, hprow, hplen, hin⟩ hS.below) (CIn.below ⟨hrow, hlen⟩ hS.below)) rfl ?_
 rintro e W3 ⟨rfl, hb⟩
 refine ⟨_, rfl, hb, fun hS' => ?_⟩
 clear hS; have hS := hS'; clear hS' hb
 refine op_assign rfl rfl ?_
 refine endF (XF.thenN ?_)
 refine seqF ?_
 refine seqF (regF ?_)
 refine op_move rfl rfl ?_
 refine op_neq rfl rfl rfl ?_
 refine endF (XF.thenN ?_)
 refine condF rfl (fun hc => ?_) (fun hc => absurd (of_decide_eq_false hc) (by exact fun h => h hne))
 have hc := of_decide_eq_true hc
 refine seqF (regF ?_)
 refine op_move rfl rfl ?_
 refine op_assign rfl rfl ?_
 refine op_assign rfl rfl ?_
 refine op_assign rfl rfl ?_
 refine endF (XF.thenN ?_)
 refine retF ?_
 refine XF.thenR ?_
 refine XF.res (res3 Tryz.results7 rfl rfl rfl) ?_
 exact nxU_no (nxE_bad hne) hS.below
theorem stNextA {ds d : Nat} {p : PV} {c : CV} {w : World} (hp : PvIn w ds d p) (hc : CIn w c) (hcc : c.wl ≤ c.wc) : Calls Tryz.prog 6 #[p.val, c.val] w (NxU (nxE (nextF c.p c.ws p.rs 0) (stepE p c)) w) :=
 nextA_c ds d p.s p.st p.sy p.ra p.rl p.rc p.rs c.p c.wa c.wl c.wc c.ws w hp.s hp.row hp.len hp.rin hc.row hc.len hcc
theorem stBackA {ds d : Nat} {p : PV} {c : CV} {w : World} (hp : PvIn w ds d p) (hc : CIn w c) (hcc : c.wl ≤ c.wc) : Calls Tryz.prog 8 #[p.val, c.val] w (NxU (nxE (backF c.p c.ws p.rs 0) (stepE p c)) w) :=
 backA_c ds d p.s p.st p.sy p.ra p.rl p.rc p.rs c.p c.wa c.wl c.wc c.ws w hp.s hp.row hp.len hp.rin hc.row hc.len hcc
theorem stBackR {ds d : Nat} {p : PV} {c : CV} {w : World} (hp : PvIn w ds d p) (hc : CIn w c) (hcc : c.wl ≤ c.wc) : Calls Tryz.prog 9 #[p.val, c.val] w (NxU (nxE (backF c.p c.ws p.rs 0) (stepE p c)) w) :=
 backR_c ds d p.s p.st p.sy p.ra p.rl p.rc p.rs c.p c.wa c.wl c.wc c.ws w hp.s hp.row hp.len hp.rin hc.row hc.len hcc
theorem stNextR {ds d : Nat} {p : PV} {c : CV} {w : World} (hp : PvIn w ds d p) (hc : CIn w c) (hcc : c.wl ≤ c.wc) : Calls Tryz.prog 7 #[p.val, c.val] w (NxU (nxE (nextF c.p c.ws p.rs 0) (stepE p c)) w) :=
 by
 by_cases h : stepE p c = 0
 ·have ok := stepOk h
  exact (nextR_c ds d p.s p.st p.sy p.ra p.rl p.rc p.rs c.p c.wa c.wl c.wc c.ws w hp.s hp.row hp.len hp.rin hc.row hc.len hcc h ok.rl ok.w4 ok.cw).mono fun e w' hr => nxU_ref h hr
 ·exact nextR_bad ds d p.s p.st p.sy p.ra p.rl p.rc p.rs c.p c.wa c.wl c.wc c.ws w hp.s hp.row hp.len hp.rin hc.row hc.len hcc h
theorem numN_row {w : World} {lo : Nat} {l : NxL} {v : Value} (h : isNumN lo l v w) : ∃ a c, v = .slice a (l.map (·.1)).length c ∧ RowN lo w a c (l.map (·.1)) := by
 obtain ⟨a, c, rfl, _⟩ := ownsRow_sl h
 refine ⟨a, c, by rw [List.length_map], ?_⟩
 unfold RowN
 rw [List.length_map]
 exact h
theorem numbers_same {w : World} {lo lo2 : Nat} {l : NxL} {v1 v2 : Value} (h1 : isNumN lo l v1 w) (h2 : isNumN lo2 l v2 w) : Calls Tryz.prog 10 #[v1, v2] w (fun e w' => e = .returned (.bool (true)) ∧ Below w.heap.size w w') := by
 obtain ⟨a1, c1, rfl, r1⟩ := numN_row h1
 obtain ⟨a2, c2, rfl, r2⟩ := numN_row h2
 have h := numbers_is a1 a2 _ c1 _ c2 (l.map (·.1)) (l.map (·.1)) w r1.row rfl r2.row rfl (by have := r1.lim; simp only [maxLen] at this; omega)
 rw [show decide (l.map (·.1) = l.map (·.1)) = true from decide_eq_true rfl] at h
 exact h
theorem flat2_at {cs : List CV} {i : Nat} {c : CV} (h : cs[i]? = some c) : ((cs.flatMap two9).drop (i * 2)).take 2 = two9 c := by
 induction cs generalizing i with
 | nil => simp at h
 | cons x cs ih =>
  cases i with
  | zero => simp at h; subst h; rfl
  | succ i =>
   have e : (i + 1) * 2 = 2 + i * 2 := by omega
   rw [List.flatMap_cons, e, ← List.drop_drop]
   exact ih (by simpa using h)
theorem cfsN_row {w : World} {lo : Nat} {l : NxL} {v : Value} (h : isCfsN lo l v w) : ∃ a c, ∃ cs : List CV, v = .slice a cs.length c ∧ CvRow w a cs ∧ cs.map CV.pl = l.map (·.2) ∧ (∀ c ∈ cs, CIn w c ∧ c.wl ≤ 9223372036854775807 ∧ CHeld lo w c) ∧ cs.length ≤ 9223372036854775807 ∧ cs.length ≤ c := by
 obtain ⟨cs, h1, h2, h3⟩ := h
 obtain ⟨a, c, rfl, hac⟩ := ownsRow_sl h1
 refine ⟨a, c, cs, rfl, ?_, h2, fun x hx => ⟨⟨(h3 x hx).1.row, (h3 x hx).2.symm⟩, ?_, h3 x hx⟩, ?_, hac⟩
 ·rcases h1.2 with ⟨e1, e2⟩ | ⟨g, cap, cur, e1, _, hg, _, _, hs, ht⟩
  ·exact .inl (List.eq_nil_of_length_eq_zero e2)
  ·cases e1
   refine .inr ⟨g, 0, rfl, fun i x hx => ?_⟩
   rw [Nat.zero_add]
   have hg2 : w.heap[g]? = some (.cells cur.toList.toArray 31 (0, 0)) := hg
   refine CellsAt.own (j := i * 2) (m := 2) hg2 ?_
   have hlt := (List.getElem?_eq_some_iff.1 hx).1
   have e5 := flat2_at hx
   rw [← ht, List.drop_take, List.take_take] at e5
   rw [Nat.min_eq_left (by omega)] at e5
   exact e5
 ·have := (h3 x hx).1.lim
  rw [(h3 x hx).2]
  simp only [maxLen] at this; omega
 ·rcases h1.2 with ⟨_, e2⟩ | ⟨g, cap, cur, e1, _, _, hn, hm, _⟩
  ·omega
  ·simp only [maxLen] at hm; omega
theorem sames_same {w : World} {lo lo2 : Nat} {l : NxL} {v1 v2 : Value} (h1 : isCfsN lo l v1 w) (h2 : isCfsN lo2 l v2 w) : Calls Tryz.prog 11 #[v1, v2] w (fun e w' => e = .returned (.bool (true)) ∧ Below w.heap.size w w') := by
 obtain ⟨a1, c1, cs, rfl, r1, e1, k1, m1, _⟩ := cfsN_row h1
 obtain ⟨a2, c2, ds, rfl, r2, e2, k2, m2, _⟩ := cfsN_row h2
 have h := sames_is a1 a2 _ c1 _ c2 cs ds w r1 rfl r2 rfl (fun c hc => ⟨(k1 c hc).1, (k1 c hc).2.1⟩) (fun c hc => (k2 c hc).1) m1
 rw [show decide (cs.map CV.pl = ds.map CV.pl) = true from decide_eq_true (by rw [e1, e2])] at h
 exact h
theorem stepsNexts_walk0 (ds d : Nat) (p : PV) (c : CV) (w : World) (hp : PvIn w ds d p) (hcf : CIn w c) (hcc : c.wl ≤ c.wc) (ht : Tabs w) :
  Calls Tryz.prog 3 #[p.val, c.val] w (fun e w' => e = .returned (.bool (true)) ∧ Below w.heap.size w w') := by
 refine enterF (args := [p.val, c.val]) Tryz.func3 rfl Tryz.ntmps3 rfl ?_
 have hS := St.start w
 refine seqF (regF ?_)
 refine op_box (cs := [_, _, _, _, _, _]) hS rfl rfl rfl ?_
 clear hS; intro B1 W1 hS
 refine op_box (cs := [_, _]) hS rfl rfl rfl ?_
 clear hS; intro B2 W2 hS
 refine op_assign rfl rfl ?_
 refine endF (XF.thenN ?_)
 refine seqF (regF ?_)
 refine op_loadA (vs := [_, _, _, _, _, _]) Tryz.isAgg28 Tryz.sizeOf28 rfl (CellsAt.own (j := 0) (m := 6) (hS.at_ 1 rfl) rfl) rfl ?_
 refine op_loadA (vs := [_, _]) Tryz.isAgg31 Tryz.sizeOf31 rfl (CellsAt.own (j := 0) (m := 2) (hS.at_ 0 rfl) rfl) rfl ?_
 refine op_call (vs := [_, _]) hS goes_6 rfl (stNextA (hp.below hS.below) (hcf.below hS.below) hcc) rfl ?_
 rintro e W3 ⟨a1, b1, rfl, hn1, hc1, hb⟩
 refine ⟨_, rfl, hb, fun hS' => ?_⟩
 clear hS; have hS := hS'; clear hS' hb
 refine op_move rfl rfl ?_
 refine op_extract rfl rfl rfl ?_
 refine op_extract rfl rfl rfl ?_
 refine op_extract rfl rfl rfl ?_
 refine op_assign rfl rfl ?_
 refine op_assign rfl rfl ?_
 refine op_assign rfl rfl ?_
 refine endF (XF.thenN ?_)
 refine seqF (regF ?_)
 refine op_loadA (vs := [_, _, _, _, _, _]) Tryz.isAgg28 Tryz.sizeOf28 rfl (CellsAt.own (j := 0) (m := 6) (hS.at_ 1 rfl) rfl) rfl ?_
 refine op_loadA (vs := [_, _]) Tryz.isAgg31 Tryz.sizeOf31 rfl (CellsAt.own (j := 0) (m := 2) (hS.at_ 0 rfl) rfl) rfl ?_
 refine op_call (vs := [_, _]) hS goes_7 rfl (stNextR (hp.below hS.below) (hcf.below hS.below) hcc) rfl ?_
 rintro e W4 ⟨a2, b2, rfl, hn2, hc2, hb⟩
 refine ⟨_, rfl, hb, fun hS' => ?_⟩
 clear hS; have hS := hS'; clear hS' hb
 refine op_move rfl rfl ?_
 refine op_extract rfl rfl rfl ?_
 refine op_extract rfl rfl rfl ?_
 refine op_extract rfl rfl rfl ?_
 refine op_assign rfl rfl ?_
 refine op_assign rfl rfl ?_
 refine op_assign rfl rfl ?_
 refine endF (XF.thenN ?_)
 refine seqF (regF ?_)
 refine op_loadA (vs := [_, _, _, _, _, _]) Tryz.isAgg28 Tryz.sizeOf28 rfl (CellsAt.own (j := 0) (m := 6) (hS.at_ 1 rfl) rfl) rfl ?_
 refine op_loadA (vs := [_, _]) Tryz.isAgg31 Tryz.sizeOf31 rfl (CellsAt.own (j := 0) (m := 2) (hS.at_ 0 rfl) rfl) rfl ?_
 refine op_call (vs := [_, _]) hS goes_8 rfl (stBackA (hp.below hS.below) (hcf.below hS.below) hcc) rfl ?_
 rintro e W5 ⟨a3, b3, rfl, hn3, hc3, hb⟩
 refine ⟨_, rfl, hb, fun hS' => ?_⟩
 clear hS; have hS := hS'; clear hS' hb
 refine op_move rfl rfl ?_
 refine op_extract rfl rfl rfl ?_
 refine op_extract rfl rfl rfl ?_
 refine op_extract rfl rfl rfl ?_
 refine op_assign rfl rfl ?_
 refine op_assign rfl rfl ?_
 refine op_assign rfl rfl ?_
 refine endF (XF.thenN ?_)
 refine seqF (regF ?_)
 refine op_loadA (vs := [_, _, _, _, _, _]) Tryz.isAgg28 Tryz.sizeOf28 rfl (CellsAt.own (j := 0) (m := 6) (hS.at_ 1 rfl) rfl) rfl ?_
 refine op_loadA (vs := [_, _]) Tryz.isAgg31 Tryz.sizeOf31 rfl (CellsAt.own (j := 0) (m := 2) (hS.at_ 0 rfl) rfl) rfl ?_
 refine op_call (vs := [_, _]) hS goes_9 rfl (stBackR (hp.below hS.below) (hcf.below hS.below) hcc) rfl ?_
 rintro e W6 ⟨a4, b4, rfl, hn4, hc4, hb⟩
 refine ⟨_, rfl, hb, fun hS' => ?_⟩
 clear hS; have hS := hS'; clear hS' hb
 refine op_move rfl rfl ?_
 refine op_extract rfl rfl rfl ?_
 refine op_extract rfl rfl rfl ?_
 refine op_extract rfl rfl rfl ?_
 refine op_assign rfl rfl ?_
 refine op_assign rfl rfl ?_
 refine op_assign rfl rfl ?_
 refine endF (XF.thenN ?_)
 refine seqF ?_
 have n1 := isNumN_agree hn1 (hS.since 3 rfl)
 have m1 := isCfsN_agree hc1 (hS.since 3 rfl)
 have n2 := isNumN_agree hn2 (hS.since 2 rfl)
 have m2 := isCfsN_agree hc2 (hS.since 2 rfl)
 have n3 := isNumN_agree hn3 (hS.since 1 rfl)
 have m3 := isCfsN_agree hc3 (hS.since 1 rfl)
 have n4 := isNumN_agree hn4 (hS.since 0 rfl)
 have m4 := isCfsN_agree hc4 (hS.since 0 rfl)
 refine regB (m := 41) followsM hS (by kernel_rfl) (by kernel_rfl) rfl ?_
 refine bl_cons 1 rfl (isV _) (stab_isV _) (rgV (li := [(5, _)]) rfl (w_free rfl) ⟨g_fr (by kernel_rfl) rfl, trivial⟩ (fun w hw => rn_move rfl) (at_top rfl)) ?_
 refine bl_cons 2 rfl (isV _) (stab_isV _) (rgV (li := [(8, _)]) rfl (w_free rfl) ⟨g_fr (by kernel_rfl) rfl, trivial⟩ (fun w hw => rn_move rfl) (at_top rfl)) ?_
 refine bl_cons 3 rfl (isV (.bool true)) (stab_isV _) (rg_call [isV _, isV _] rfl goes_10 (w_free rfl) ⟨p_tmp (g_dep 0 (by kernel_rfl) (at_dep rfl rfl rfl)), p_tmp (g_dep 1 (by kernel_rfl) (at_dep rfl rfl rfl)), trivial⟩ (fun vs w' hb hh => by have e := holds_isV (us := [_, _]) hh; subst e; exact (numbers_same (isNumN_agree n1 (below_agree hb _)) (isNumN_agree n2 (below_agree hb _))).mono fun e w2 h => ⟨_, h.1, rfl, h.2⟩) (at_top rfl)) ?_
 refine bl_cons 4 rfl (isV _) (stab_isV _) (rgV (li := [(47, _)]) rfl (w_free rfl) ⟨g_dep 2 (by kernel_rfl) (at_dep rfl rfl rfl), trivial⟩ (fun w hw => rn_move rfl) (at_top rfl)) ?_
 refine bl_cons 5 rfl (isV _) (stab_isV _) (rgV (li := [(6, _)]) rfl (w_yes 48 rfl (by kernel_rfl) (by kernel_rfl) (at_dep rfl rfl rfl)) ⟨g_fr (by kernel_rfl) rfl, trivial⟩ (fun w hw => rn_move rfl) (at_top rfl)) ?_
 refine bl_cons 6 rfl (isV _) (stab_isV _) (rgV (li := [(9, _)]) rfl (w_yes 48 rfl (by kernel_rfl) (by kernel_rfl) (at_dep rfl rfl rfl)) ⟨g_fr (by kernel_rfl) rfl, trivial⟩ (fun w hw => rn_move rfl) (at_top rfl)) ?_
 refine bl_cons 7 rfl (isV (.bool true)) (stab_isV _) (rg_call [isV _, isV _] rfl goes_11 (w_yes 48 rfl (by kernel_rfl) (by kernel_rfl) (at_dep rfl rfl rfl)) ⟨p_tmp (g_dep 4 (by kernel_rfl) (at_dep rfl rfl rfl)), p_tmp (g_dep 5 (by kernel_rfl) (at_dep rfl rfl rfl)), trivial⟩ (fun vs w' hb hh => by have e := holds_isV (us := [_, _]) hh; subst e; exact (sames_same (isCfsN_agree m1 (below_agree hb _)) (isCfsN_agree m2 (below_agree hb _))).mono fun e w2 h => ⟨_, h.1, rfl, h.2⟩) (at_top rfl)) ?_
 refine bl_cons 8 rfl (isV _) (stab_isV _) (rgV (li := [(48, _), (51, _)]) rfl (w_free rfl) ⟨g_dep 3 (by kernel_rfl) (at_dep rfl rfl rfl), g_dep 6 (by kernel_rfl) (at_dep rfl rfl rfl), trivial⟩ (fun w hw => rn_pickT rfl rfl) (at_top rfl)) ?_
 refine bl_cons 9 rfl (isV _) (stab_isV _) (rgV (li := [(52, _)]) rfl (w_free rfl) ⟨g_dep 7 (by kernel_rfl) (at_dep rfl rfl rfl), trivial⟩ (fun w hw => rn_move rfl) (at_top rfl)) ?_
 refine bl_cons 10 rfl (isV _) (stab_isV _) (rgV (li := [(7, _)]) rfl (w_yes 53 rfl (by kernel_rfl) (by kernel_rfl) (at_dep rfl rfl rfl)) ⟨g_fr (by kernel_rfl) rfl, trivial⟩ (fun w hw => rn_move rfl) (at_top rfl)) ?_
 refine bl_cons 11 rfl (isV _) (stab_isV _) (rgV (li := [(10, _)]) rfl (w_yes 53 rfl (by kernel_rfl) (by kernel_rfl) (at_dep rfl rfl rfl)) ⟨g_fr (by kernel_rfl) rfl, trivial⟩ (fun w hw => rn_move rfl) (at_top rfl)) ?_
 refine bl_cons 12 rfl (isV (.bool true)) (stab_isV _) (rgVe (li := [(54, _), (55, _)]) rfl (w_yes 53 rfl (by kernel_rfl) (by kernel_rfl) (at_dep rfl rfl rfl)) ⟨g_dep 9 (by kernel_rfl) (at_dep rfl rfl rfl), g_dep 10 (by kernel_rfl) (at_dep rfl rfl rfl), trivial⟩ (fun w hw => rn_eql rfl rfl) (by rw [decide_eq_true rfl]) (at_top rfl)) ?_
 refine bl_cons 13 rfl (isV _) (stab_isV _) (rgV (li := [(53, _), (56, _)]) rfl (w_free rfl) ⟨g_dep 8 (by kernel_rfl) (at_dep rfl rfl rfl), g_dep 11 (by kernel_rfl) (at_dep rfl rfl rfl), trivial⟩ (fun w hw => rn_pickT rfl rfl) (at_top rfl)) ?_
 refine bl_cons 14 rfl (isV _) (stab_isV _) (rgV (li := [(57, _)]) rfl (w_free rfl) ⟨g_dep 12 (by kernel_rfl) (at_dep rfl rfl rfl), trivial⟩ (fun w hw => rn_move rfl) (at_top rfl)) ?_
 refine bl_cons 15 rfl (isV _) (stab_isV _) (rgV (li := [(11, _)]) rfl (w_yes 58 rfl (by kernel_rfl) (by kernel_rfl) (at_dep rfl rfl rfl)) ⟨g_fr (by kernel_rfl) rfl, trivial⟩ (fun w hw => rn_move rfl) (at_top rfl)) ?_
 refine bl_cons 16 rfl (isV _) (stab_isV _) (rgV (li := [(14, _)]) rfl (w_yes 58 rfl (by kernel_rfl) (by kernel_rfl) (at_dep rfl rfl rfl)) ⟨g_fr (by kernel_rfl) rfl, trivial⟩ (fun w hw => rn_move rfl) (at_top rfl)) ?_
 refine bl_cons 17 rfl (isV (.bool true)) (stab_isV _) (rg_call [isV _, isV _] rfl goes_10 (w_yes 58 rfl (by kernel_rfl) (by kernel_rfl) (at_dep rfl rfl rfl)) ⟨p_tmp (g_dep 14 (by kernel_rfl) (at_dep rfl rfl rfl)), p_tmp (g_dep 15 (by kernel_rfl) (at_dep rfl rfl rfl)), trivial⟩ (fun vs w' hb hh => by have e := holds_isV (us := [_, _]) hh; subst e; exact (numbers_same (isNumN_agree n3 (below_agree hb _)) (isNumN_agree n4 (below_agree hb _))).mono fun e w2 h => ⟨_, h.1, rfl, h.2⟩) (at_top rfl)) ?_
 refine bl_cons 18 rfl (isV _) (stab_isV _) (rgV (li := [(58, _), (61, _)]) rfl (w_free rfl) ⟨g_dep 13 (by kernel_rfl) (at_dep rfl rfl rfl), g_dep 16 (by kernel_rfl) (at_dep rfl rfl rfl), trivial⟩ (fun w hw => rn_pickT rfl rfl) (at_top rfl)) ?_
 refine bl_cons 19 rfl (isV _) (stab_isV _) (rgV (li := [(62, _)]) rfl (w_free rfl) ⟨g_dep 17 (by kernel_rfl) (at_dep rfl rfl rfl), trivial⟩ (fun w hw => rn_move rfl) (at_top rfl)) ?_
 refine bl_cons 20 rfl (isV _) (stab_isV _) (rgV (li := [(12, _)]) rfl (w_yes 63 rfl (by kernel_rfl) (by kernel_rfl) (at_dep rfl rfl rfl)) ⟨g_fr (by kernel_rfl) rfl, trivial⟩ (fun w hw => rn_move rfl) (at_top rfl)) ?_
 refine bl_cons 21 rfl (isV _) (stab_isV _) (rgV (li := [(15, _)]) rfl (w_yes 63 rfl (by kernel_rfl) (by kernel_rfl) (at_dep rfl rfl rfl)) ⟨g_fr (by kernel_rfl) rfl, trivial⟩ (fun w hw => rn_move rfl) (at_top rfl)) ?_
 refine bl_cons 22 rfl (isV (.bool true)) (stab_isV _) (rg_call [isV _, isV _] rfl goes_11 (w_yes 63 rfl (by kernel_rfl) (by kernel_rfl) (at_dep rfl rfl rfl)) ⟨p_tmp (g_dep 19 (by kernel_rfl) (at_dep rfl rfl rfl)), p_tmp (g_dep 20 (by kernel_rfl) (at_dep rfl rfl rfl)), trivial⟩ (fun vs w' hb hh => by have e := holds_isV (us := [_, _]) hh; subst e; exact (sames_same (isCfsN_agree m3 (below_agree hb _)) (isCfsN_agree m4 (below_agree hb _))).mono fun e w2 h => ⟨_, h.1, rfl, h.2⟩) (at_top rfl)) ?_
 refine bl_cons 23 rfl (isV _) (stab_isV _) (rgV (li := [(63, _), (66, _)]) rfl (w_free rfl) ⟨g_dep 18 (by kernel_rfl) (at_dep rfl rfl rfl), g_dep 21 (by kernel_rfl) (at_dep rfl rfl rfl), trivial⟩ (fun w hw => rn_pickT rfl rfl) (at_top rfl)) ?_
 refine bl_cons 24 rfl (isV _) (stab_isV _) (rgV (li := [(67, _)]) rfl (w_free rfl) ⟨g_dep 22 (by kernel_rfl) (at_dep rfl rfl rfl), trivial⟩ (fun w hw => rn_move rfl) (at_top rfl)) ?_
 refine bl_cons 25 rfl (isV _) (stab_isV _) (rgV (li := [(13, _)]) rfl (w_yes 68 rfl (by kernel_rfl) (by kernel_rfl) (at_dep rfl rfl rfl)) ⟨g_fr (by kernel_rfl) rfl, trivial⟩ (fun w hw => rn_move rfl) (at_top rfl)) ?_
 refine bl_cons 26 rfl (isV _) (stab_isV _) (rgV (li := [(16, _)]) rfl (w_yes 68 rfl (by kernel_rfl) (by kernel_rfl) (at_dep rfl rfl rfl)) ⟨g_fr (by kernel_rfl) rfl, trivial⟩ (fun w hw => rn_move rfl) (at_top rfl)) ?_
 refine bl_cons 27 rfl (isV (.bool true)) (stab_isV _) (rgVe (li := [(69, _), (70, _)]) rfl (w_yes 68 rfl (by kernel_rfl) (by kernel_rfl) (at_dep rfl rfl rfl)) ⟨g_dep 24 (by kernel_rfl) (at_dep rfl rfl rfl), g_dep 25 (by kernel_rfl) (at_dep rfl rfl rfl), trivial⟩ (fun w hw => rn_eql rfl rfl) (by rw [decide_eq_true rfl]) (at_top rfl)) ?_
 refine bl_cons 28 rfl (isV _) (stab_isV _) (rgV (li := [(68, _), (71, _)]) rfl (w_free rfl) ⟨g_dep 23 (by kernel_rfl) (at_dep rfl rfl rfl), g_dep 26 (by kernel_rfl) (at_dep rfl rfl rfl), trivial⟩ (fun w hw => rn_pickT rfl rfl) (at_top rfl)) ?_
 refine bl_cons 29 rfl (isV _) (stab_isV _) (rgV (li := [(72, _)]) rfl (w_free rfl) ⟨g_dep 27 (by kernel_rfl) (at_dep rfl rfl rfl), trivial⟩ (fun w hw => rn_move rfl) (at_top rfl)) ?_
 refine bl_cons 30 rfl (isV _) (stab_isV _) (rgV (li := [(2, _)]) rfl (w_yes 73 rfl (by kernel_rfl) (by kernel_rfl) (at_dep rfl rfl rfl)) ⟨g_fr (by kernel_rfl) rfl, trivial⟩ (fun w hw => rn_loadA (vs := [_, _, _, _, _, _]) Tryz.isAgg28 Tryz.sizeOf28 rfl (CellsAt.agree (below_agree hw 0) (Nat.zero_le _) (CellsAt.own (j := 0) (m := 6) (hS.at_ 1 rfl) rfl))) (at_top rfl)) ?_
 refine bl_cons 31 rfl (isV _) (stab_isV _) (rgV (li := [(3, _)]) rfl (w_yes 73 rfl (by kernel_rfl) (by kernel_rfl) (at_dep rfl rfl rfl)) ⟨g_fr (by kernel_rfl) rfl, trivial⟩ (fun w hw => rn_loadA (vs := [_, _]) Tryz.isAgg31 Tryz.sizeOf31 rfl (CellsAt.agree (below_agree hw 0) (Nat.zero_le _) (CellsAt.own (j := 0) (m := 2) (hS.at_ 0 rfl) rfl))) (at_top rfl)) ?_
 refine bl_cons 32 rfl (isV (.int .i64 (stepE p c))) (stab_isV _) (rg_call [isV _, isV _] rfl goes_12 (w_yes 73 rfl (by kernel_rfl) (by kernel_rfl) (at_dep rfl rfl rfl)) ⟨p_tmp (g_dep 29 (by kernel_rfl) (at_dep rfl rfl rfl)), p_tmp (g_dep 30 (by kernel_rfl) (at_dep rfl rfl rfl)), trivial⟩ (fun vs w' hb hh => by have e := holds_isV (us := [_, _]) hh; subst e; exact (stepA_is ds d p c _ (hp.below (hS.below.trans (hb.mono hS.below.size))) (hcf.below (hS.below.trans (hb.mono hS.below.size)))).mono fun e w2 h => ⟨_, h.1, rfl, h.2⟩) (at_top rfl)) ?_
 refine bl_cons 33 rfl (isV _) (stab_isV _) (rgV (li := [(2, _)]) rfl (w_yes 73 rfl (by kernel_rfl) (by kernel_rfl) (at_dep rfl rfl rfl)) ⟨g_fr (by kernel_rfl) rfl, trivial⟩ (fun w hw => rn_loadA (vs := [_, _, _, _, _, _]) Tryz.isAgg28 Tryz.sizeOf28 rfl (CellsAt.agree (below_agree hw 0) (Nat.zero_le _) (CellsAt.own (j := 0) (m := 6) (hS.at_ 1 rfl) rfl))) (at_top rfl)) ?_
 refine bl_cons 34 rfl (isV _) (stab_isV _) (rgV (li := [(3, _)]) rfl (w_yes 73 rfl (by kernel_rfl) (by kernel_rfl) (at_dep rfl rfl rfl)) ⟨g_fr (by kernel_rfl) rfl, trivial⟩ (fun w hw => rn_loadA (vs := [_, _]) Tryz.isAgg31 Tryz.sizeOf31 rfl (CellsAt.agree (below_agree hw 0) (Nat.zero_le _) (CellsAt.own (j := 0) (m := 2) (hS.at_ 0 rfl) rfl))) (at_top rfl)) ?_
 refine bl_cons 35 rfl (isV (.int .i64 (stepE p c))) (stab_isV _) (rg_call [isV _, isV _] rfl goes_13 (w_yes 73 rfl (by kernel_rfl) (by kernel_rfl) (at_dep rfl rfl rfl)) ⟨p_tmp (g_dep 32 (by kernel_rfl) (at_dep rfl rfl rfl)), p_tmp (g_dep 33 (by kernel_rfl) (at_dep rfl rfl rfl)), trivial⟩ (fun vs w' hb hh => by have e := holds_isV (us := [_, _]) hh; subst e; exact (stepR_is ds d p c _ (hp.below (hS.below.trans (hb.mono hS.below.size))) (hcf.below (hS.below.trans (hb.mono hS.below.size)))).mono fun e w2 h => ⟨_, h.1, rfl, h.2⟩) (at_top rfl)) ?_
 refine bl_cons 36 rfl (isV (.bool true)) (stab_isV _) (rgVe (li := [(76, _), (79, _)]) rfl (w_yes 73 rfl (by kernel_rfl) (by kernel_rfl) (at_dep rfl rfl rfl)) ⟨g_dep 31 (by kernel_rfl) (at_dep rfl rfl rfl), g_dep 34 (by kernel_rfl) (at_dep rfl rfl rfl), trivial⟩ (fun w hw => rn_eql rfl rfl) (by rw [decide_eq_true rfl]) (at_top rfl)) ?_
 refine bl_cons 37 rfl (isV _) (stab_isV _) (rgV (li := [(73, _), (80, _)]) rfl (w_free rfl) ⟨g_dep 28 (by kernel_rfl) (at_dep rfl rfl rfl), g_dep 35 (by kernel_rfl) (at_dep rfl rfl rfl), trivial⟩ (fun w hw => rn_pickT rfl rfl) (at_top rfl)) ?_
 refine bl_cons 38 rfl (isV _) (stab_isV _) (rgV (li := [(81, _)]) rfl (w_free rfl) ⟨g_dep 36 (by kernel_rfl) (at_dep rfl rfl rfl), trivial⟩ (fun w hw => rn_move rfl) (at_top rfl)) ?_
 refine bl_cons 39 rfl (isV (.bool true)) (stab_isV _) (rg_call [] rfl goes_14 (w_yes 82 rfl (by kernel_rfl) (by kernel_rfl) (at_dep rfl rfl rfl)) trivial (fun vs w' hb hh => by have e := holds_isV (us := []) hh; subst e; exact (awakeS_is w' (ht.below (hS.below.trans (hb.mono hS.below.size)))).mono fun e w2 h => ⟨_, h.1, rfl, h.2⟩) (at_top rfl)) ?_
 refine bl_cons 40 rfl (isV _) (stab_isV _) (rgV (li := [(82, _), (83, _)]) rfl (w_free rfl) ⟨g_dep 37 (by kernel_rfl) (at_dep rfl rfl rfl), g_dep 38 (by kernel_rfl) (at_dep rfl rfl rfl), trivial⟩ (fun w hw => rn_pickT rfl rfl) (at_top rfl)) ?_
 refine bl_cons 41 rfl (isV _) (stab_isV _) (rgV (li := [(84, _)]) rfl (w_free rfl) ⟨g_dep 39 (by kernel_rfl) (at_dep rfl rfl rfl), trivial⟩ (fun w hw => rn_assign rfl) (at_top rfl)) ?_
 refine bl_nil ?_
 intro W7 hbR hS'
 clear hS; have hS := hS'; clear hS'
 refine fin_v ?_
 refine fin_v ?_
 refine fin_v ?_
 refine fin_v ?_
 refine fin_v ?_
 refine fin_v ?_
 refine fin_v ?_
 refine fin_v ?_
 refine fin_v ?_
 refine fin_v ?_
 refine fin_v ?_
 refine fin_v ?_
 refine fin_v ?_
 refine fin_v ?_
 refine fin_v ?_
 refine fin_v ?_
 refine fin_v ?_
 refine fin_v ?_
 refine fin_v ?_
 refine fin_v ?_
 refine fin_v ?_
 refine fin_v ?_
 refine fin_v ?_
 refine fin_v ?_
 refine fin_v ?_
 refine fin_v ?_
 refine fin_v ?_
 refine fin_v ?_
 refine fin_v ?_
 refine fin_v ?_
 refine fin_v ?_
 refine fin_v ?_
 refine fin_v ?_
 refine fin_v ?_
 refine fin_v ?_
 refine fin_v ?_
 refine fin_v ?_
 refine fin_v ?_
 refine fin_v ?_
 refine fin_v ?_
 refine fin_v ?_
 refine fin_nil ?_
 refine XF.thenN ?_
 refine retF ?_
 refine XF.res (res1 Tryz.results3 rfl) ?_
 exact ⟨rfl, hS.below⟩
theorem stepsNexts_walk (d : Nat) (p : PV) (c : CV) (w : World) (hp : PvIn w d d p) (hc : CIn w c ∧ c.wl ≤ c.wc) (ht : Tabs w) : Calls Tryz.prog 3 #[p.val, c.val] w (fun e w' => e = .returned (.bool (true)) ∧ Below w.heap.size w w') := stepsNexts_walk0 d d p c w hp hc.1 hc.2 ht
end Go.Proofs.YtfkbkekgnoanaaaGreatDoor
namespace Go.Proofs.YtfkbkekgnoanaaaGreatDoor
open Go.RowKit Go.ChangeShapes Go.WideShapes Go.Deep Go.Joins
theorem ten_len {cs : List Value} (h : cs.length = 10) : ∃ a b c d e f g i j k, cs = [a, b, c, d, e, f, g, i, j, k] := by
 match cs, h with
 | [a, b, c, d, e, f, g, i, j, k], _ => exact ⟨a, b, c, d, e, f, g, i, j, k, rfl⟩
theorem cellsAt_of {w : World} {b : Nat} : ∀ (vs : List Value) (o : Nat), (∀ (j : Nat) u, vs[j]? = some u → w.cell? ⟨b, o + j, none⟩ = some u) → CellsAt w b o vs
 | [], _, _ => trivial
 | v :: vs, o, h => ⟨h 0 v rfl, cellsAt_of vs (o + 1) fun j u hj => by have := h (j + 1) u (by simpa using hj); rwa [show o + 1 + j = o + (j + 1) by omega]⟩
section
variable {H : Type} {enc : TypeId × Value → H} {w : World} {base : Nat} {spare : Nat → Bool} {held : Bool}
theorem ints_in {n : Nat} {v : Value} {x : DataW H × List MemPlace} (h : DataW.trod enc Tryz.prog w base spare held n 29 [v] = some x) :
  ∃ (a : Option Addr) (len cap : Nat) (zs : List Int), v = .slice a len cap ∧ Row w a zs ∧ zs.length = len ∧ len ≤ cap ∧ cap ≤ maxLen := by
 rcases open_ints (t := 29) (e := 3) (k := .i64) (by kernel_rfl) (by kernel_rfl) (by kernel_rfl) h with ⟨hcs, _⟩ | ⟨x, len, cap, zs, hcs, _, hl, hm, hz, _, hcell, hwz⟩
 ·have hcs' : v = .slice none 0 0 := by simpa using hcs
  subst hcs'
  exact ⟨none, 0, 0, [], rfl, .inl rfl, rfl, Nat.le_refl _, Nat.zero_le _⟩
 ·have hcs' : v = .slice (some x) len cap := by simpa using hcs
  subst hcs'
  have hzl : len ≤ zs.length := by rw [hz]; split <;> omega
  refine ⟨some x, len, cap, zs.take len, rfl, ?_, by simp; omega, hl, hm⟩
  rcases Nat.eq_zero_or_pos len with h0 | h0
  ·subst h0; exact .inl (by simp)
  ·obtain ⟨b, off, spot⟩ := x
   have hc0 := hcell 0 (by omega)
   have hspot : spot = none := by simpa [Addr.add] using World.cell?_spot hc0
   subst hspot
   refine .inr ⟨b, off, rfl, fun i hi => ?_⟩
   have hi1 : i < len := by simp at hi; omega
   have hi2 : i < zs.length := by omega
   have hc := hcell i hi2
   have e : ({ block := b, off := off } : Addr).add i = ⟨b, off + i, none⟩ := by simp [Addr.add]
   rw [e] at hc
   rw [hc]
   simp [List.getD, List.getElem?_take, hi1]
theorem rule_in {n : Nat} {cs : List Value} {x : DataW H × List MemPlace} (h : DataW.trod enc Tryz.prog w base spare held n 66 cs = some x) : ∃ r : RV, cs = r.ten ∧ RIn w n r := by
 obtain ⟨xs, n', hn, _, hl, hlen, hg⟩ := DataW.trod_struct Tryz.underlying66 h
 rw [show Tryz.prog.cellsOf 66 = 10 by kernel_rfl] at hl
 obtain ⟨a, b, c, d, e, f, g, i, j, k, rfl⟩ := ten_len hl
 have hlen5 : xs.length = 5 := hlen
 have g0 := hg 0 _ rfl
 have g1 := hg 1 _ rfl
 have g2 := hg 2 _ rfl
 have g3 := hg 3 _ rfl
 have g4 := hg 4 _ rfl
 rw [show Tryz.prog.cellsOf _ = 1 by kernel_rfl, List.getElem?_eq_getElem (by omega)] at g0 g1 g2 g3
 rw [show Tryz.prog.cellsOf _ = 6 by kernel_rfl, List.getElem?_eq_getElem (by omega)] at g4
 obtain ⟨z0, e0, _, w0⟩ := DataW.trod_int (k := .i64) (by kernel_rfl) g0
 obtain ⟨z1, e1, _, w1⟩ := DataW.trod_int (k := .i64) (by kernel_rfl) g1
 obtain ⟨z2, e2, _, w2⟩ := DataW.trod_int (k := .i64) (by kernel_rfl) g2
 simp at e0 e1 e2
 subst e0 e1 e2
 obtain ⟨ra, rl, rc, ws, rfl, hrow, hrl, _, _⟩ := ints_in (v := d) g3
 obtain ⟨s, e4, hs⟩ := weight_in n' g4
 have e4' : [e, f, g, i, j, k] = s.f.six := by simpa using e4
 simp only [List.cons.injEq, and_true] at e4'
 obtain ⟨rfl, rfl, rfl, rfl, rfl, rfl⟩ := e4'
 exact ⟨⟨z0, z1, z2, ra, rl, rc, ws, s⟩, rfl, hrow, hrl, hs.more (by omega)⟩
theorem pds_in {n : Nat} {cs : List Value} {x : DataW H × List MemPlace} (h : DataW.trod enc Tryz.prog w base spare held n 28 cs = some x) : ∃ p : PV, cs = p.six ∧ PvIn w n n p := by
 obtain ⟨xs, n', hn, _, hl, hlen, hg⟩ := DataW.trod_struct Tryz.underlying28 h
 rw [show Tryz.prog.cellsOf 28 = 6 by kernel_rfl] at hl
 obtain ⟨a, b, c, d, e, f, rfl⟩ := six_len hl
 have hlen4 : xs.length = 4 := hlen
 have g0 := hg 0 _ rfl
 have g1 := hg 1 _ rfl
 have g2 := hg 2 _ rfl
 have g3 := hg 3 _ rfl
 rw [show Tryz.prog.cellsOf _ = 3 by kernel_rfl, List.getElem?_eq_getElem (by omega)] at g0
 rw [show Tryz.prog.cellsOf _ = 1 by kernel_rfl, List.getElem?_eq_getElem (by omega)] at g1 g2 g3
 obtain ⟨s, es, hs⟩ := space_in n' g0
 have es' : [a, b, c] = [.int .i64 s.f.tag, .int .i64 s.f.dim, .slice s.f.a s.f.len s.f.cap] := by simpa using es
 simp only [List.cons.injEq, and_true] at es'
 obtain ⟨rfl, rfl, rfl⟩ := es'
 obtain ⟨z1, e1, _, w1⟩ := DataW.trod_int (k := .i64) (by kernel_rfl) g1
 obtain ⟨z2, e2, _, w2⟩ := DataW.trod_int (k := .i64) (by kernel_rfl) g2
 simp at e1 e2
 subst e1 e2
 rcases DataW.trod_slice Tryz.underlying26 g3 with ⟨hcs, _⟩ | ⟨ad, len, cap, elems, rest, n2, hn2, hcs, _, hb, hle, hcap, hel, hi, _, _⟩
 ·simp at hcs
  subst hcs
  exact ⟨⟨s, z1, z2, none, 0, 0, []⟩, rfl, hs.more (by omega), .inl rfl, rfl, fun r hr => by cases hr⟩
 ·simp at hcs
  subst hcs
  rw [show Tryz.prog.cellsOf 66 = 10 by kernel_rfl] at hi
  obtain ⟨rs, hrl, hrs⟩ := list_pick len (fun i (r : RV) => (∀ (j : Nat) u, r.ten[j]? = some u → w.cell? (ad.add (i * 10 + j)) = some u) ∧ RIn w n2 r) (fun i hil => by
   have hii := hi i hil
   rw [List.getElem?_eq_getElem (by omega)] at hii
   obtain ⟨cs', hc, ht⟩ := Option.bind_eq_some_iff.1 hii
   obtain ⟨_, hcl, hat⟩ := World.cells?_some hc
   obtain ⟨r, rfl, hr⟩ := rule_in ht
   refine ⟨r, fun j u hj => ?_, hr⟩
   have hj10 : j < 10 := (List.getElem?_eq_some_iff.1 hj).1
   have h0 := hat j (by omega)
   rw [Go.Deep.add_add] at h0
   rw [h0]; exact hj)
  refine ⟨⟨s, z1, z2, some ad, len, cap, rs⟩, rfl, hs.more (by omega), ?_, hrl, fun r hr => ?_⟩
  ·rcases Nat.eq_zero_or_pos len with h0 | h0
   ·exact .inl (List.length_eq_zero_iff.1 (by dsimp only; omega))
   ·obtain ⟨b, off, spot⟩ := ad
    have h1 := (hrs 0 (rs[0]'(by omega)) (List.getElem?_eq_getElem (by omega))).1 0 _ rfl
    have hspot : spot = none := by simpa [Addr.add] using World.cell?_spot h1
    subst hspot
    refine .inr ⟨b, off, rfl, fun i r hir => cellsAt_of _ _ fun j u hj => ?_⟩
    have h3 := (hrs i r hir).1 j u hj
    have e : ∀ k, ({ block := b, off := off } : Addr).add k = ⟨b, off + k, none⟩ := fun k => by simp [Addr.add]
    rw [e, ← Nat.add_assoc] at h3
    exact h3
  ·obtain ⟨i, hi', hic⟩ := List.mem_iff_getElem.1 hr
   have h4 := (hrs i r (by rw [← hic]; exact List.getElem?_eq_getElem hi')).2
   exact ⟨h4.row, h4.len, h4.x.more (by omega)⟩
theorem conf_in {n : Nat} {cs : List Value} {x : DataW H × List MemPlace} (h : DataW.trod enc Tryz.prog w base spare held n 31 cs = some x) : ∃ c : CV, cs = [.int .i64 c.p, .slice c.wa c.wl c.wc] ∧ CIn w c ∧ c.wl ≤ c.wc := by
 obtain ⟨xs, n', hn, _, hl, hlen, hg⟩ := DataW.trod_struct Tryz.underlying31 h
 rw [show Tryz.prog.cellsOf 31 = 2 by kernel_rfl] at hl
 obtain ⟨a, b, rfl⟩ := two_len hl
 have hlen2 : xs.length = 2 := hlen
 have g0 := hg 0 _ rfl
 have g1 := hg 1 _ rfl
 rw [show Tryz.prog.cellsOf _ = 1 by kernel_rfl, List.getElem?_eq_getElem (by omega)] at g0 g1
 obtain ⟨z0, e0, _, w0⟩ := DataW.trod_int (k := .i64) (by kernel_rfl) g0
 simp at e0
 subst e0
 obtain ⟨ra, rl, rc, ws, rfl, hrow, hrl, hcap, _⟩ := ints_in (v := b) g1
 exact ⟨⟨z0, ra, rl, rc, ws⟩, rfl, ⟨hrow, hrl⟩, hcap⟩
theorem pds_open {r : Reach} {b0 : Nat} {v : Value} {d : DataW H} {p : List MemPlace} (hv : Value.okWide Tryz.prog w r b0 28 v) (h : DataW.Trod enc Tryz.prog w base spare held 28 v d p) :
  ∃ (n : Nat) (s : PV), v = s.val ∧ PvIn w n n s := by
 obtain ⟨cs, rfl, _⟩ := okWide_struct Tryz.underlying28 hv
 obtain ⟨n, h⟩ := h
 obtain ⟨s, e, hs⟩ := pds_in (n := n) h
 have e' : cs.toList = _ := e
 exact ⟨n, s, by show Value.agg cs = Value.agg _; congr 1; exact Array.ext' e', hs⟩
theorem conf_open {r : Reach} {b0 : Nat} {v : Value} {d : DataW H} {p : List MemPlace} (hv : Value.okWide Tryz.prog w r b0 31 v) (h : DataW.Trod enc Tryz.prog w base spare held 31 v d p) :
  ∃ (s : CV), v = s.val ∧ CIn w s ∧ s.wl ≤ s.wc := by
 obtain ⟨cs, rfl, _⟩ := okWide_struct Tryz.underlying31 hv
 obtain ⟨n, h⟩ := h
 obtain ⟨s, e, hs⟩ := conf_in (n := n) h
 have e' : cs.toList = _ := e
 exact ⟨s, by show Value.agg cs = Value.agg _; congr 1; exact Array.ext' e', hs⟩
end
end Go.Proofs.YtfkbkekgnoanaaaGreatDoor
