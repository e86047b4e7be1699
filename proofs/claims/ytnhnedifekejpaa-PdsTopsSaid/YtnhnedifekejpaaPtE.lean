import Derived.Orders
import Derived.Below
import Derived.Deep.RegionHeld
import Derived.WalkKit
import Derived.KernelRfl
import Derived.Laws.Rows
import Derived.Laws.AppendOwn
import Derived.Laws.Strings
import Derived.Laws.Small
import Derived.Lib.Hide
import Derived.IntWalk
import Derived.Laws.Tables
import Derived.Laws.Concat
import Derived.Laws.MakeOwn
import Derived.Lib.OwnBridge
import Derived.WideKeyEntry
import Derived.DeepKeys4
import Derived.Lib.AppendZeros
import Derived.Test.YtnhnedifekejpaaProg
import Derived.Test.YtnhnedifekejpaaRows
import Derived.Lib.LaidTab
import Derived.Lib.ItoaNum
import Derived.Lib.TrailingZeros
import Derived.Stop.LaidErr
import Derived.WalkSmall
import Derived.LaidMore
import Derived.Shelf.Spec.TrailingZeros
import Derived.Laws.BitsAllLaws
import Derived.Laws.Bits64
import Derived.Deep.QuietTactic
import Derived.BigQuiet
import Derived.RegionTactic
import Derived.BigRegion
import Derived.Deep.RegionHeld3
import Derived.ChangeAlike
import Derived.RangeFuncNested
import Derived.RangeFuncBound
import Derived.RangeFuncCalls
import Derived.RangeFuncLeaves
import Derived.Shelf.Abstract
import Derived.Shelf.RegionOpen
import Derived.OwnWalkIn
import Derived.TacticsInMore
import Derived.LoopNIn
import Derived.LoopIn
import Derived.Laws.Bits128
import Derived.Deep.AppendLies
import Derived.Ground.Names2Prog
import Derived.Shelf.Slices.Clone
import Derived.Ground.SlgnProg
import Derived.Shelf.SlicesE.Clone
import Derived.Sort.Grow
import Derived.Maps.AppendAt
import Derived.Lib.OthersKept
import Derived.Laws.IdiomStrings
import Derived.StillTailTactics
import Derived.Deep.RegionLaw
import Derived.Deep.DeepCutAuto
import Derived.Deep.CutRange
import Derived.Deep.RegionWith
import Derived.Laws.Bits64b
import Derived.Deep.DrawnRows
import Derived.Lib.SliceRun
import Derived.Laws.OwnMore
import Derived.OwnWalk
import Derived.WalkSpells
import Derived.Lib.Join
import Derived.Lib.ItoaLen
import Derived.Lib.UnsafeStr
import Derived.Lib.AppendIntMem
import Derived.Deep.Slices
import Derived.Deep.Fields
import Derived.ChangeSame
import Derived.Lib.SmallJoins
import Derived.ChangeSlices
import Derived.ProofKit
import Derived.Test.YtnhnedifekejpaaPtA
import Derived.Test.YtnhnedifekejpaaPtB
import Derived.Test.YtnhnedifekejpaaPtC
import Derived.Test.YtnhnedifekejpaaPtD
set_option maxRecDepth 100000
set_option maxHeartbeats 4000000
set_option linter.unusedVariables false
set_option linter.unusedVariables false
set_option linter.unusedSimpArgs false
set_option linter.unusedSectionVars false
set_option linter.unnecessarySimpa false
namespace Go.Proofs.Ytnhnedifekejpaa
open Go Go.RowKit
section
variable {P : Program} {n : Nat} {Q : Exit → Act → World → Prop} {l : Fr} {w0 W : World} {ops : Array Oper} {os : List Oper} {O : Own} {G : Grows} {K : List (Nat × World)} {L L2 : List Asr} {i : Nat} {ty : TypeId} {pos : String}
def lastC (ops : Array Oper) (k : Nat) : Bool := decide (k + 1 = ops.size) && (List.range k).all fun j => (earlyL ops k).contains j
theorem lastC_size {k : Nat} (h : lastC ops k = true) : k + 1 = ops.size := by
 unfold lastC at h
 exact of_decide_eq_true (Bool.and_eq_true_iff.1 h).1
theorem lastC_all {k : Nat} {o : Oper} {LB : Array Bool} (h : lastC ops k = true) (ho : ops[k]? = some o) (hdep : ∀ e ∈ o.after, Region.binds .any e = true → LB.getD e.on false = true) (hcl : ∀ j, LB.getD j false = true → ∀ x ∈ aft ops j, LB.getD x false = true) : ∀ j, j < k → LB.getD j false = true := fun j hj => by
 unfold lastC at h
 have h2 := List.all_eq_true.1 (Bool.and_eq_true_iff.1 h).2 j (List.mem_range.2 hj)
 refine early_done (D := fun x => LB.getD x false = true) (fun x hx => ?_) hcl j (List.contains_iff_mem.1 h2)
 obtain ⟨e, he, h5, h6⟩ := aft_mem ho hx
 have h7 := hdep e he h6
 rw [h5] at h7
 exact h7
theorem closed_step {o : Oper} {LB : Array Bool} (hi : i < LB.size) (ho : ops[i]? = some o) (hdep : ∀ e ∈ o.after, Region.binds .any e = true → LB.getD e.on false = true) (hcl : ∀ j, LB.getD j false = true → ∀ x ∈ aft ops j, LB.getD x false = true) : ∀ j, (LB.setIfInBounds i true).getD j false = true → ∀ x ∈ aft ops j, (LB.setIfInBounds i true).getD x false = true := fun j hj x hx => by
 have hx2 : LB.getD x false = true := by
  by_cases hji : j = i
  ·subst hji
   obtain ⟨e, he, h5, h6⟩ := aft_mem ho hx
   have h7 := hdep e he h6
   rw [h5] at h7
   exact h7
  ·rw [getD_set_ne false (Ne.symm hji)] at hj
   exact hcl j hj x hx
 by_cases hxi : x = i
 ·subst hxi
  rw [Array.getD_eq_getD_getElem?, Array.getElem?_setIfInBounds_self_of_lt hi]; rfl
 ·rw [getD_set_ne false (Ne.symm hxi)]; exact hx2
theorem region_lastSC {k : Nat} {dn : Nat → Bool} {t0 : Array Value} {d0 : List Deferred} {G : World → Prop} {I : Nat → Value → World → Prop} (hl : lastC ops k = true) (ht : tidyR ops t0.size = true) (hst : ∀ i v w w', G w → I i v w → Below w.heap.size w w' → I i v w')
  (hstep : ∀ i, i < k → dn i = false → RStep P ops Q t0 G I i) (hfin : RFin ops t0 d0 G I k (wpOp P ops Q k (Q .normal))) :
  ∀ (fuel : Nat) (L : Array Bool) (a : Act) (w : World), L.size = ops.size → L.getD k true = false → (∀ i, dn i = true → L.getD i false = true) → L.toList.count false ≤ fuel → (∀ j, L.getD j false = true → ∀ x ∈ aft ops j, L.getD x false = true) → RInv ops t0 d0 G I L a w → wpAny P .any ops Q fuel L a w := by
 have hk : k + 1 = ops.size := lastC_size hl
 have cnt : ∀ (L : Array Bool) i, L.getD i true = false → L.toList[i]? = some false := fun L i h1 => by
  rw [Array.getD_eq_getD_getElem?] at h1
  rw [Array.getElem?_toList]
  cases hL : L[i]? with
  | none => rw [hL] at h1; cases h1
  | some b => rw [hL] at h1; simpa using h1
 intro fuel
 induction fuel with
 | zero =>
  intro L a w hs hlk hlp hc hcl h
  have := cnt_set _ _ (cnt L k hlk)
  omega
 | succ fuel ih =>
  intro L a w hs hlk hlp hc hcl h
  refine ⟨fun hr => ?_, fun i hi => ?_⟩
  ·rw [ready_nil ht hs hr k (by omega)] at hlk
   cases hlk
  ·obtain ⟨h1, o, ho, hdep⟩ := mem_ready.1 hi
   have his : i < ops.size := (Array.getElem?_eq_some_iff.1 ho).1
   have hc1 := cnt_set _ _ (cnt L i h1)
   have hip : dn i = false := by
    cases hd : dn i with
    | false => rfl
    | true =>
     have h3 := hlp i hd
     have h2 := cnt L i h1
     rw [Array.getElem?_toList] at h2
     rw [Array.getD_eq_getD_getElem?, h2] at h3
     cases h3
   by_cases hik : i = k
   ·subst hik
    have hall : ∀ j, j < i → L.getD j false = true := lastC_all hl ho (fun e he hb => hdep e he hb) hcl
    refine wpOp_mono ?_ (hfin a w h.size h.defers h.frame h.glob fun j d hj hd => h.done j d hd (hall j hj))
    intro a' w' hq
    have hnil : Region.ready .any ops (L.setIfInBounds i true) = [] := by
     cases hr : Region.ready .any ops (L.setIfInBounds i true) with
     | nil => rfl
     | cons j rest =>
      have hj : j ∈ Region.ready .any ops (L.setIfInBounds i true) := by rw [hr]; exact List.mem_cons_self
      obtain ⟨h5, o', ho', _⟩ := mem_ready.1 hj
      have hjs : j < ops.size := (Array.getElem?_eq_some_iff.1 ho').1
      by_cases hji : j = i
      ·subst hji
       rw [Array.getD_eq_getD_getElem?, Array.getElem?_eq_getElem (by simpa using (by omega : j < L.size))] at h5
       simp at h5
      ·rw [getD_set_ne true (Ne.symm hji)] at h5
       have h6 := hall j (by omega)
       rw [Array.getD_eq_getD_getElem?] at h5 h6
       rw [Array.getElem?_eq_getElem (by omega)] at h5 h6
       simp at h5 h6
       rw [h5] at h6
       cases h6
    cases fuel with
    | zero => exact ⟨hnil, hq⟩
    | succ fuel => exact ⟨fun _ => hq, by rw [hnil]; simp⟩
   ·refine wpOp_mono ?_ (hstep i (by omega) hip a w h.frameE h.glob (h.deps hi))
    rintro a' w' ⟨⟨v, rfl, hI⟩, hG, hB⟩
    refine ih _ _ _ (by simpa using hs) (by rw [getD_set_ne true hik]; exact hlk) (fun j hj => ?_) ?_ (closed_step (by omega) ho (fun e he hb => hdep e he hb) hcl) (h.next ht h1 hst hI hG hB)
    ·have hij : i ≠ j := fun e => by subst e; rw [hip] at hj; cases hj
     rw [getD_set_ne false hij]; exact hlp j hj
    ·rw [Array.toList_setIfInBounds]
     omega
theorem region_appendC {k p dp : Nat} {t0 : Array Value} {d0 : List Deferred} {late : Nat → Bool} {o : Oper} {RA : World → Value → World → Prop} (hl : lastC ops k = true) (ht : tidyR ops t0.size = true) (hst : StabL L) (hst2 : StabL L2) (hpk : p < k) (hp : ops[p]? = some o) (hod : o.dst = some dp) (hog : o.guard = none)
  (hearly : ∀ j, j < k → j ≠ p → late j = false → j ∈ earlyL ops p)
  (hstep : ∀ i, i < k → i ≠ p → RStep P ops Q t0 (fun w => Below W.heap.size W w) (atI L) i)
  (happ : ∀ (a : Act) (w : World), (∀ t, freeT ops t = true → a.eval (.tmp t) = t0.getD t undef) → Below W.heap.size W w → (∀ j d, waitsFor ops p j d = true → atI L j (a.eval (.tmp d)) w) → ∃ v w', (execOp a.eval o).run P w = .ok (.value v) w' ∧ RA w v w')
  (hL2p : atI L2 p = anyA) (hpure : ∀ i, i < k → i ≠ p → ∀ v w w', atI L i v w → atI L2 i v w')
  (hlate : ∀ v' W2 i, i < k → i ≠ p → late i = true → RStep P ops Q t0 (fun w => w = W2) (IP L2 p v') i)
  (hfin : ∀ A v' W2, Below W.heap.size W A → RA A v' W2 → RFin ops t0 d0 (fun w => w = W2) (IP L2 p v') k (wpOp P ops Q k (Q .normal))) :
  ∀ (fuel : Nat) (LB : Array Bool) (a : Act) (w : World), LB.size = ops.size → LB.getD k true = false → LB.toList.count false ≤ fuel → LB.getD p true = false → (∀ j, LB.getD j false = true → ∀ x ∈ aft ops j, LB.getD x false = true) → RInv ops t0 d0 (fun w => Below W.heap.size W w) (atI L) LB a w → wpAny P .any ops Q fuel LB a w := by
 have hl0 := hl
 have hk : k + 1 = ops.size := lastC_size hl
 have cnt : ∀ (L : Array Bool) i, L.getD i true = false → L.toList[i]? = some false := fun L i h1 => by
  rw [Array.getD_eq_getD_getElem?] at h1
  rw [Array.getElem?_toList]
  cases hL : L[i]? with
  | none => rw [hL] at h1; cases h1
  | some b => rw [hL] at h1; simpa using h1
 intro fuel
 induction fuel with
 | zero =>
  intro LB a w hs hlk hc hlp hcl h
  have := cnt_set _ _ (cnt LB k hlk)
  omega
 | succ fuel ih =>
  intro LB a w hs hlk hc hlp hcl h
  refine ⟨fun hr => ?_, fun i hi => ?_⟩
  ·rw [ready_nil ht hs hr k (by omega)] at hlk
   cases hlk
  ·obtain ⟨h1, o', ho, hdep⟩ := mem_ready.1 hi
   have his : i < ops.size := (Array.getElem?_eq_some_iff.1 ho).1
   have hc1 := cnt_set _ _ (cnt LB i h1)
   by_cases hik : i = k
   ·subst hik
    have h3 := lastC_all hl ho (fun e he hb => hdep e he hb) hcl p hpk
    have h4 := cnt LB p hlp
    rw [Array.getElem?_toList] at h4
    rw [Array.getD_eq_getD_getElem?, h4] at h3
    cases h3
   ·by_cases hip : i = p
    ·subst hip
     rw [hp] at ho
     have ho' := (Option.some.inj ho).symm
     subst ho'
     obtain ⟨v', w', hr, hRA⟩ := happ a w h.frameE h.glob (h.deps hi)
     have step : wpOp P ops Q i (fun a2 w2 => a2 = a.put (some dp) v' ∧ w2 = w') a w := by
      unfold wpOp
      simp only [hp, wanted_free hog, if_true]
      refine .inl ?_
      unfold Oper.wp
      rw [hr]
      exact ⟨by rw [hod], rfl⟩
     refine wpOp_mono ?_ step
     rintro a2 w2 ⟨rfl, rfl⟩
     have hdst : (ops[i]?).bind (·.dst) = some dp := by rw [hp]; exact hod
     refine region_lastSC (t0 := t0) (d0 := d0) (dn := fun j => decide (j = i) || (decide (j < k) && !late j)) (G := fun w => w = w2) (I := IP L2 i v') hl0 ht ?_ ?_ (hfin _ _ _ h.glob hRA) fuel _ _ _ (by simpa using hs) (by rw [getD_set_ne true hik]; exact hlk) ?_ ?_ (closed_step (by omega) hp (fun e he hb => hdep e he hb) hcl) ?_
     ·rintro j v w1 w3 _ ⟨h5, h6⟩ hb
      exact ⟨h5, atI_stab hst2 _ _ _ _ h6 hb⟩
     ·intro j hj hd
      simp only [Bool.or_eq_false_iff, decide_eq_false_iff_not, Bool.and_eq_false_iff, Bool.not_eq_false'] at hd
      refine hlate v' w2 j hj hd.1 ?_
      rcases hd.2 with h5 | h5
      ·exact absurd hj h5
      ·exact h5
     ·intro j hd
      simp only [Bool.or_eq_true, decide_eq_true_eq, Bool.and_eq_true, Bool.not_eq_true'] at hd
      by_cases hji : j = i
      ·subst hji
       rw [Array.getD_eq_getD_getElem?, Array.getElem?_setIfInBounds_self_of_lt (by omega)]; rfl
      ·rcases hd with hd | ⟨hd1, hd2⟩
       ·exact absurd hd hji
       ·rw [getD_set_ne false (Ne.symm hji)]
        refine early_done (D := fun x => LB.getD x false = true) (fun x hx => ?_) (fun j hj x hx => hcl j hj x hx) j (hearly j hd1 hji hd2)
        obtain ⟨e, he, h5, h6⟩ := aft_mem hp hx
        have h7 := hdep e he h6
        rw [h5] at h7
        exact h7
     ·rw [Array.toList_setIfInBounds]; omega
     ·refine ⟨by rw [put_size]; exact h.size, by rw [put_defers]; exact h.defers, fun t hf => ?_, rfl, fun j d hd hj => ?_⟩
      ·rw [put_other ?_]
       ·exact h.frame t hf
       ·intro e
        have := Array.all_eq_true'.1 hf _ (Array.mem_of_getElem? hp)
        simp at this
        exact this (hod.trans e)
      ·by_cases hji : j = i
       ·subst hji
        rw [hdst] at hd
        rw [put_at hd (by rw [h.size]; exact (tidy_dst ht (hdst.trans hd)).1)]
        exact ⟨fun _ => rfl, by rw [hL2p]; trivial⟩
       ·rw [getD_set_ne false (Ne.symm hji)] at hj
        rw [put_other (fun e => hji ((tidy_dst ht (hdst.trans e)).2 j hd))]
        have hjk : j < k := by
         obtain ⟨o2, ho2, _⟩ := Option.bind_eq_some_iff.1 hd
         have h5 := (Array.getElem?_eq_some_iff.1 ho2).1
         have h6 : j ≠ k := fun e => by
          subst e
          have h4 := cnt LB j hlk
          rw [Array.getElem?_toList] at h4
          rw [Array.getD_eq_getD_getElem?, h4] at hj
          cases hj
         omega
        exact ⟨fun e => absurd e hji, hpure j hjk hji _ _ _ (h.done j d hd hj)⟩
    ·refine wpOp_mono ?_ (hstep i (by omega) hip a w h.frameE h.glob (h.deps hi))
     rintro a' w' ⟨⟨v, rfl, hI⟩, hG, hB⟩
     refine ih _ _ _ (by simpa using hs) (by rw [getD_set_ne true hik]; exact hlk) ?_ (by rw [getD_set_ne true hip]; exact hlp) (fun j hj x hx => ?_) (h.next ht h1 (fun i v w w' _ h hb => atI_stab hst i v w w' h hb) hI hG hB)
     ·rw [Array.toList_setIfInBounds]
      omega
     ·have hx2 : LB.getD x false = true := by
       by_cases hji : j = i
       ·subst hji
        obtain ⟨e, he, h5, h6⟩ := aft_mem ho hx
        have h7 := hdep e he h6
        rw [h5] at h7
        exact h7
       ·rw [getD_set_ne false (Ne.symm hji)] at hj
        exact hcl j hj x hx
      by_cases hxi : x = i
      ·subst hxi
       rw [Array.getD_eq_getD_getElem?, Array.getElem?_setIfInBounds_self_of_lt (by omega)]; rfl
      ·rw [getD_set_ne false (Ne.symm hxi)]; exact hx2
theorem regBPC {id dp p k : Nat} {o : Oper} {t e tx tz : TypeId} {inf : TypeInfo} {z : Value} {gi m : Nat} {g : GR} {aftp : Array Edge} (hm : P.follows .mixedOrders = true) (hS : St w0 O G K W) (hk : os[k]? = some o) (hlen : os.length = k + 1) (hl : lastC os.toArray k = true) (ht : tidyR os.toArray n = true) (hdst : (os.take k).all (fun o => o.dst.isSome) = true) (hfree : ∀ d, o.dst = some d → look l d = none)
  (hp : os[p]? = some ⟨some dp, .call { callee := .builtin .append, args := #[.tmp tx, .tmp tz], argTypes := #[t, t] }, ty, pos, aftp, none⟩) (hpk : Nat.blt p k = true)
  (hU : P.underlying t = some (.slice e)) (hinf : P.info? e = some inf) (hz : inf.zero = some z) (hzs : z.cells.size = inf.size) (hsz : 0 < inf.size)
  (hi : G[gi]? = some g) (he : g.e = e) (hgs : g.size = inf.size) (h63 : g.n + m ≤ maxLen) (hbytes : (g.n + m) * inf.bytes ≤ 140737488355328)
  (h : BLP P n os.toArray Q l W p (fun Lr L2r => ∃ (py : Asr) (q : List Value → World → Prop), OpG n os.toArray l Lr.reverse p tx (isV g.v) ∧ OpG n os.toArray l Lr.reverse p tz py ∧ RowOf m inf.size q py ∧
   ∀ A v' news W', Below W.heap.size W A → q news A → St w0 O (G.set gi ⟨v', g.n + m, g.xs ++ news, e, g.size⟩) ((W.heap.size, A) :: K) W' → FinI (os.take k) (pvL v' p 0 L2r.reverse) l (fun l' W' => OpsF P n os.toArray Q [o] l' W') W') k [] [] 0) : CodeF P n (.region id os.toArray true) Q l W := by
 obtain ⟨Lr, L2r, h1, h2, h3, h4, h5, py, q, hx, hy, hpy, hfin⟩ := blp_run p ht k 0 [] [] rfl rfl (fun p hp => by cases hp) (fun p hp => by cases hp) (fun i hi => by omega) h
 have hpk' : p < k := Nat.lt_of_lt_of_le (Nat.lt_succ_self _) (Nat.le_of_ble_eq_true hpk)
 subst he
 rw [Nat.zero_add] at h1 h2 h5
 have hpo : os.toArray[p]? = some ⟨some dp, .call { callee := .builtin .append, args := #[.tmp tx, .tmp tz], argTypes := #[t, t] }, ty, pos, aftp, none⟩ := by simpa using hp
 have hko : os.toArray[k]? = some o := by simpa using hk
 have hL2p : atI L2r.reverse p = anyA := by
  rcases (h5 p hpk').2 with h6 | h6
  ·exact h6.2
  ·exact absurd rfl h6.1
 intro a ha
 refine wp_region_any hm (region_appendC (W := W) (t0 := a.tmps) (d0 := a.defers) (L := Lr.reverse) (L2 := L2r.reverse) (late := fun j => !earlyR os.toArray p j)
  (RA := fun A v' W' => ∃ news, q news A ∧ St w0 O (G.set gi ⟨v', g.n + m, g.xs ++ news, g.e, g.size⟩) ((W.heap.size, A) :: K) W') hl (by rw [ha.size]; exact ht) (stabL_of fun q hq => h3 q (List.mem_reverse.1 hq)) (stabL_of fun q hq => h4 q (List.mem_reverse.1 hq)) hpk' hpo rfl rfl ?_ ?_ ?_ hL2p ?_ ?_ ?_ _ _ _ _ (by simp) ?_ (count_rep _) ?_ (fun j hj => by rw [Array.getD_eq_getD_getElem?, Array.getElem?_replicate] at hj; split at hj <;> simp at hj) (inv_zero ((Below.refl _ _).drew)))
 ·intro j hj hjp he
  simp only [Bool.not_eq_false'] at he
  exact List.contains_iff_mem.1 he
 ·intro i hi hip
  rcases (h5 i hi).2 with h6 | h6
  ·exact absurd h6.1 hip
  ·exact h6.2.1 a ha
 ·intro b w hF hG hD
  have ex : b.eval (.tmp tx) = g.v := hx a ha b w hF hD
  obtain ⟨bb, oo, c, cs, ey, hc, hcl, h1c, hq⟩ := hpy _ w (hy a ha b w hF hD)
  have hS2 := hS.call hG
  have hrow := hS2.row gi hi
  rw [hgs] at hrow
  obtain ⟨v', W', hr, k2, k3, k4⟩ := append_own2 (P := P) (w := w) w0.heap.size t ty g.e inf z hU hinf hz hzs hsz g.v g.n g.xs hrow ⟨bb, oo, none⟩ m c cs hcl (fun j u hj => by rw [Addr.add_lit]; exact hc.get j u hj) (fun u hu => List.all_eq_true.1 h1c u hu) h63 hbytes hS2.below.size
  rw [← hgs] at k2
  refine ⟨v', W', ?_, cs, hq, hS2.setG gi hi k2 k3 k4⟩
  unfold execOp
  simp only [resolve, invoke, builtin, Sem.run_bind, Sem.run_pure, Result.andThen_ok, List.map_toArray, List.map_cons, List.map_nil, ex, ey, hr]
 ·intro i hi hip v w w' hv
  exact (h5 i hi).1 v w w' hv
 ·intro v' W2 i hi hip hlt
  rcases (h5 i hi).2 with h6 | h6
  ·exact absurd h6.1 hip
  ·rcases h6.2.2 with h7 | h7
   ·rw [h7] at hlt; cases hlt
   ·exact h7 v' W2 a ha
 ·rintro A v' W2 hB ⟨news, hq, hS2⟩
  intro a' W' hs hd hf hG hI
  subst hG
  have hdst' : ∀ o ∈ os.take k, ∃ d, o.dst = some d := fun o ho => Option.isSome_iff_exists.1 (List.all_eq_true.1 hdst o ho)
  have htk : (os.take k).length = k := by simp; omega
  refine fin_has (os.take k) (pvL v' p 0 L2r.reverse) l (fun i d hi hd' => ?_) (hs.trans ha.size) (hd.trans ha.defers) ?_ hdst' (fun l' h ha' => ?_) (hfin A v' news W' hB hq hS2)
  ·have hik : i < k := by omega
   have h6 := hI i d hik (by rw [List.getElem?_take, if_pos hik] at hd'; simpa using hd')
   rw [atI_pvL L2r.reverse 0 i (by simp; omega)]
   by_cases hip : i + 0 = p
   ·rw [if_pos hip]; exact h6.1 hip
   ·rw [if_neg hip]; exact h6.2
  ·intro t' v hv hno
   rw [hf t' (by
    unfold freeT; rw [Array.all_eq_true']; intro o' ho'
    have ho2 : o' ∈ os := by simpa using ho'
    obtain ⟨j, hj⟩ := List.getElem?_of_mem ho2
    by_cases hjk : j < k
    ·have : o' ∈ os.take k := List.mem_of_getElem? (by rw [List.getElem?_take, if_pos hjk]; exact hj)
     simpa using hno o' this
    ·have hjl := (List.getElem?_eq_some_iff.1 hj).1
     have : j = k := by omega
     subst this
     rw [hk] at hj
     have e2 := Option.some.inj hj
     subst e2
     cases hx : o.dst with
     | none => simp
     | some d => simp; intro e; subst e; rw [hfree d hx] at hv; cases hv)]
   exact ha.at_ t' v hv
  ·have h6 := h a' ha'
   unfold wpOp
   rw [hko]
   exact h6
 ·rw [Array.getD_eq_getD_getElem?, Array.getElem?_replicate, if_pos (by simp; omega)]; rfl
 ·rw [Array.getD_eq_getD_getElem?, Array.getElem?_replicate, if_pos (by simp; omega)]; rfl
end
end Go.Proofs.Ytnhnedifekejpaa
namespace Go.Proofs.Ytnhnedifekejpaa
open Go Go.RowKit
theorem bs_26_1 (v00 : Value) (v01 : Value) (v02 : Value) (v03 : Value) (v04 : Value) (v05 : Value) (v06 : Value) (v07 : Value) (v08 : Value) (v09 : Value) : Instr.fill (fun i => some (i * 10, 10)) ((Array.range (1 * 10)).map ((Value.cells (.agg #[.int .i64 0, .int .i64 0, .int .i64 0, .slice none 0 0, .bool false, .int .i64 0, .int .u64 0, .slice none 0 0, .slice none 0 0, .slice none 0 0]))[· % (Value.cells (.agg #[.int .i64 0, .int .i64 0, .int .i64 0, .slice none 0 0, .bool false, .int .i64 0, .int .u64 0, .slice none 0 0, .slice none 0 0, .slice none 0 0])).size]!)) [(0, .agg #[v00, v01, v02, v03, v04, v05, v06, v07, v08, v09])] = some (List.toArray [v00, v01, v02, v03, v04, v05, v06, v07, v08, v09]) := by kernel_rfl
theorem bs_38_1 (v0 : Bool) : Instr.fill (fun i => some (i * 1, 1)) ((Array.range (1 * 1)).map ((Value.cells (.bool false))[· % (Value.cells (.bool false)).size]!)) [(0, .bool v0)] = some (List.toArray [.bool v0]) := by kernel_rfl
theorem fa_101_1 (w : World) (b o : Nat) : (Instr.fieldAt 101 (.pointer (some ⟨b, o, none⟩)) 1).run Try.prog w = .ok (.pointer (some ⟨b, o + 9, none⟩)) w := by
 simp [Instr.fieldAt, run_underlying Try.underlying101, Instr.sureAddr, go_sem, Addr.add_lit]
theorem fa_40_0 (w : World) (b o : Nat) : (Instr.fieldAt 40 (.pointer (some ⟨b, o, none⟩)) 0).run Try.prog w = .ok (.pointer (some ⟨b, o + 0, none⟩)) w := by
 simp [Instr.fieldAt, run_underlying Try.underlying40, Instr.sureAddr, go_sem, Addr.add_lit]
theorem fa_40_1 (w : World) (b o : Nat) : (Instr.fieldAt 40 (.pointer (some ⟨b, o, none⟩)) 1).run Try.prog w = .ok (.pointer (some ⟨b, o + 6, none⟩)) w := by
 simp [Instr.fieldAt, run_underlying Try.underlying40, Instr.sureAddr, go_sem, Addr.add_lit]
theorem fa_40_2 (w : World) (b o : Nat) : (Instr.fieldAt 40 (.pointer (some ⟨b, o, none⟩)) 2).run Try.prog w = .ok (.pointer (some ⟨b, o + 7, none⟩)) w := by
 simp [Instr.fieldAt, run_underlying Try.underlying40, Instr.sureAddr, go_sem, Addr.add_lit]
theorem inf_4 : Try.prog.info? 4 = some Try.t4 := by kernel_rfl
theorem inf_56 : Try.prog.info? 56 = some Try.t56 := by kernel_rfl
theorem shPut_is (sf : SF) (f0 : WF) (s2 : SF) (zt yt : Int) (v1 v2 v3 : Value) (n : Nat) (xs1 xs2 xs3 : List Value) (B : Nat) (Ot : Own) (K : List (Nat × World)) (w0 : World) (num : Int) (fl : Bool) (rp rg rq : Int) (rwa : Option Addr) (rwl rwc : Nat) (f : WF) (w : World) (hS0 : St w0 ((B, shC sf f0 s2 zt yt v1 v2 v3, 101) :: Ot) [⟨v1, n, xs1, 56, 10⟩, ⟨v2, n, xs2, 3, 1⟩, ⟨v3, n, xs3, 4, 1⟩] K w) (hn : n ≤ 100000) :
  Calls Try.prog 73 #[.pointer (some ⟨B, 0, none⟩), .int .i64 num, .bool fl, .agg #[.int .i64 rp, .int .i64 rg, .int .i64 rq, .slice rwa rwl rwc, .bool f.z, .int .i64 f.c, .int .u64 (f.g : Int), .slice f.ra f.rl f.rc, .slice f.ca f.cl f.cc, .slice f.pa f.pl f.pc]] w (fun e w' => ∃ u1 u2 u3 : Value, e = .returned (.tuple #[]) ∧ St w0 ((B, shC sf f0 s2 zt yt u1 u2 u3, 101) :: Ot) [⟨u1, n + 1, xs1 ++ [.int .i64 rp, .int .i64 rg, .int .i64 rq, .slice rwa rwl rwc, .bool f.z, .int .i64 f.c, .int .u64 (f.g : Int), .slice f.ra f.rl f.rc, .slice f.ca f.cl f.cc, .slice f.pa f.pl f.pc], 56, 10⟩, ⟨u2, n + 1, xs2 ++ [.int .i64 num], 3, 1⟩, ⟨u3, n + 1, xs3 ++ [.bool fl], 4, 1⟩] K w') := by
 refine enterF (args := [.pointer (some ⟨B, 0, none⟩), .int .i64 num, .bool fl, .agg #[.int .i64 rp, .int .i64 rg, .int .i64 rq, .slice rwa rwl rwc, .bool f.z, .int .i64 f.c, .int .u64 (f.g : Int), .slice f.ra f.rl f.rc, .slice f.ca f.cl f.cc, .slice f.pa f.pl f.pc]]) Try.func73 rfl Try.ntmps73 rfl ?_
 have hS := hS0
 refine seqF (regF ?_)
 refine op_box (cs := [_, _, _, _, _, _, _, _, _, _]) hS rfl rfl rfl ?_
 clear hS; intro B1 W1 hS
 refine endF (XF.thenN ?_)
 refine seqF ?_
 refine regBPC (p := 9) (k := 14) (gi := 0) (m := 1) followsM hS rfl rfl (by kernel_rfl) (by kernel_rfl) (by kernel_rfl) (fun d hd => by cases hd) rfl rfl Try.underlying26 inf_56 rfl rfl (by show 0 < 10; decide) rfl rfl rfl (by dsimp only; simp only [maxLen]; omega) (by dsimp only; show _ * 144 ≤ _; omega) ?_
 refine blp_late 1 rfl rfl (rgV (li := [(0, _)]) rfl (w_free rfl) ⟨g_fr (by kernel_rfl) rfl, trivial⟩ (fun w hw => rn_move rfl) (at_top rfl)) (lgV (li := [(0, _)]) rfl (w_free rfl) ⟨g_fr (by kernel_rfl) rfl, trivial⟩ (fun w => rn_move rfl) (at_top rfl) rfl) ?_
 refine blp_v 2 rfl rfl (by kernel_rfl) (rgV (li := [(0, _)]) rfl (w_free rfl) ⟨g_fr (by kernel_rfl) rfl, trivial⟩ (fun w hw => rn_move rfl) (at_top rfl)) ?_
 refine blp_v 3 rfl rfl (by kernel_rfl) (rgV (li := [(9, _)]) rfl (w_free rfl) ⟨g_dep 1 (by kernel_rfl) (at_dep rfl rfl rfl), trivial⟩ (fun w hw => rn_nilCheck rfl) (at_top rfl)) ?_
 refine blp_v 4 rfl rfl (by kernel_rfl) (rgV (li := [(10, _)]) rfl (w_free rfl) ⟨g_dep 2 (by kernel_rfl) (at_dep rfl rfl rfl), trivial⟩ (fun w hw => rn_field (o' := 9) fa_101_1 rfl rfl) (at_top rfl)) ?_
 refine blp_v 5 rfl rfl (by kernel_rfl) (rgV (li := [(11, _)]) rfl (w_free rfl) ⟨g_dep 3 (by kernel_rfl) (at_dep rfl rfl rfl), trivial⟩ (fun w hw => rn_field (o' := 9) fa_40_0 rfl rfl) (at_top rfl)) ?_
 refine blp_v 6 rfl rfl (by kernel_rfl) (rgV (li := [(12, _)]) rfl (w_free rfl) ⟨g_dep 4 (by kernel_rfl) (at_dep rfl rfl rfl), trivial⟩ (fun w hw => rn_field (o' := 14) fa_28_3 rfl rfl) (at_top rfl)) ?_
 refine blp_v 7 rfl rfl (by kernel_rfl) (rgV (li := [(13, _)]) rfl (w_free rfl) ⟨g_dep 5 (by kernel_rfl) (at_dep rfl rfl rfl), trivial⟩ (fun w hw => rn_load Try.isAgg26 rfl ((below_agree hw 0).cell (Nat.zero_le _) (cell_own (hS.at_ 1 rfl) rfl))) (at_top rfl)) ?_
 refine blp_v 8 rfl rfl (by kernel_rfl) (rgV (li := [(7, _)]) rfl (w_free rfl) ⟨g_fr (by kernel_rfl) rfl, trivial⟩ (fun w hw => rn_loadA (vs := [_, _, _, _, _, _, _, _, _, _]) Try.isAgg56 Try.sizeOf56 rfl (CellsAt.agree (below_agree hw 0) (Nat.zero_le _) (CellsAt.own (j := 0) (m := 10) (hS.at_ 0 rfl) rfl))) (at_top rfl)) ?_
 refine blp_q 9 rfl rfl (by kernel_rfl) (isRow W1.heap.size 1 56 _) (stab_isRow) (rg_rowV (us := [.agg (List.toArray [_, _, _, _, _, _, _, _, _, _])]) rfl (w_free rfl) Try.underlying26 Try.sizeOf56 Try.zeroValue56 rfl rfl ⟨p_tmp (g_dep 7 (by kernel_rfl) (at_dep rfl rfl rfl)), trivial⟩ (bs_26_1 _ _ _ _ _ _ _ _ _ _) (at_top rfl)) ?_
 refine blp_app 10 rfl rfl ?_
 refine blp_late 11 rfl rfl (rgV (li := [(8, _)]) rfl (w_free rfl) ⟨g_dep 0 (by kernel_rfl) (at_dep rfl rfl rfl), trivial⟩ (fun w hw => rn_nilCheck rfl) (at_top rfl)) (lgV (li := [(8, _)]) rfl (w_free rfl) ⟨g_dep 0 (by kernel_rfl) (at_dep rfl rfl rfl), trivial⟩ (fun w => rn_nilCheck rfl) (at_top rfl) rfl) ?_
 refine blp_late 12 rfl rfl (rgV (li := [(18, _)]) rfl (w_free rfl) ⟨g_dep 10 (by kernel_rfl) (at_dep rfl rfl rfl), trivial⟩ (fun w hw => rn_field (o' := 9) fa_101_1 rfl rfl) (at_top rfl)) (lgV (li := [(18, _)]) rfl (w_free rfl) ⟨g_dep 10 (by kernel_rfl) (at_dep rfl rfl rfl), trivial⟩ (fun w => rn_field (o' := 9) fa_101_1 rfl rfl) (at_top rfl) rfl) ?_
 refine blp_late 13 rfl rfl (rgV (li := [(19, _)]) rfl (w_free rfl) ⟨g_dep 11 (by kernel_rfl) (at_dep rfl rfl rfl), trivial⟩ (fun w hw => rn_field (o' := 9) fa_40_0 rfl rfl) (at_top rfl)) (lgV (li := [(19, _)]) rfl (w_free rfl) ⟨g_dep 11 (by kernel_rfl) (at_dep rfl rfl rfl), trivial⟩ (fun w => rn_field (o' := 9) fa_40_0 rfl rfl) (at_top rfl) rfl) ?_
 refine blp_late 14 rfl rfl (rgV (li := [(20, _)]) rfl (w_free rfl) ⟨g_dep 12 (by kernel_rfl) (at_dep rfl rfl rfl), trivial⟩ (fun w hw => rn_field (o' := 14) fa_28_3 rfl rfl) (at_top rfl)) (lgV (li := [(20, _)]) rfl (w_free rfl) ⟨g_dep 12 (by kernel_rfl) (at_dep rfl rfl rfl), trivial⟩ (fun w => rn_field (o' := 14) fa_28_3 rfl rfl) (at_top rfl) rfl) ?_
 refine blp_nil ⟨_, _, g_dep 6 (by kernel_rfl) (at_dep rfl rfl rfl), g_dep 8 (by kernel_rfl) (at_dep rfl rfl rfl), rowOf_isRow rfl rfl, ?_⟩
 intro A2 v2 news2 W2 hbR hqA2 hS'
 clear hS; have hS := hS'; clear hS'
 cases hqA2
 refine fin_v ?_
 refine fin_v ?_
 refine fin_v ?_
 refine fin_v ?_
 refine fin_v ?_
 refine fin_v ?_
 refine fin_v ?_
 refine fin_v ?_
 refine fin_p ?_; intro _ _
 refine fin_v ?_
 refine fin_v ?_
 refine fin_v ?_
 refine fin_v ?_
 refine fin_v ?_
 refine fin_nil ?_
 refine op_store (i := 1) (cs' := [_, _, _, _, _, _, _, _, _, _, _, _, _, _, _, _, _]) (O' := (_ :: _ :: Ot)) hS Try.sizeOf26 rfl rfl (by first | rfl | exact (hS.oneV 0 _ rfl :) | exact (hS.oneV 1 _ rfl :) | exact (hS.oneV 2 _ rfl :) | exact (hS.oneV 3 _ rfl :)) rfl rfl rfl rfl ?_
 clear hS; intro W3 hS
 refine endF (XF.thenN ?_)
 refine seqF (regF ?_)
 refine op_move rfl rfl ?_
 refine op_move rfl rfl ?_
 refine op_nilCheck rfl rfl ?_
 refine op_field (o' := 9) fa_101_1 rfl rfl rfl ?_
 refine op_field (o' := 15) fa_40_1 rfl rfl rfl ?_
 refine op_load Try.isAgg30 rfl (cell_own (hS.at_ 1 rfl) rfl) rfl ?_
 refine op_move rfl rfl ?_
 refine op_buildSlice (us := [(0, .int .i64 _)]) hS Try.underlying30 Try.sizeOf3 Try.zeroValue3 rfl rfl rfl (bs_30_1 _) rfl ?_
 clear hS; intro B4 W4 hS
 refine op_append (i := 1) (news := [_]) hS Try.underlying30 inf_3 rfl rfl (by show 0 < 1; decide) rfl rfl rfl rfl rfl (CellsAt.own (j := 0) (m := 1) (hS.at_ 0 rfl) rfl) rfl rfl (by dsimp only; simp only [maxLen]; omega) (by dsimp only; show _ * 8 ≤ _; omega) rfl ?_
 clear hS; intro v5 W5 hS
 refine op_nilCheck rfl rfl ?_
 refine op_field (o' := 9) fa_101_1 rfl rfl rfl ?_
 refine op_field (o' := 15) fa_40_1 rfl rfl rfl ?_
 refine op_store (i := 2) (cs' := [_, _, _, _, _, _, _, _, _, _, _, _, _, _, _, _, _]) (O' := (_ :: _ :: _ :: Ot)) hS Try.sizeOf30 rfl rfl (by first | rfl | exact (hS.oneV 0 _ rfl :) | exact (hS.oneV 1 _ rfl :) | exact (hS.oneV 2 _ rfl :) | exact (hS.oneV 3 _ rfl :)) rfl rfl rfl rfl ?_
 clear hS; intro W6 hS
 refine endF (XF.thenN ?_)
 refine regF ?_
 refine op_move rfl rfl ?_
 refine op_move rfl rfl ?_
 refine op_nilCheck rfl rfl ?_
 refine op_field (o' := 9) fa_101_1 rfl rfl rfl ?_
 refine op_field (o' := 16) fa_40_2 rfl rfl rfl ?_
 refine op_load Try.isAgg38 rfl (cell_own (hS.at_ 2 rfl) rfl) rfl ?_
 refine op_move rfl rfl ?_
 refine op_buildSlice (us := [(0, .bool _)]) hS Try.underlying38 Try.sizeOf4 Try.zeroValue4 rfl rfl rfl (bs_38_1 _) rfl ?_
 clear hS; intro B7 W7 hS
 refine op_append (i := 2) (news := [_]) hS Try.underlying38 inf_4 rfl rfl (by show 0 < 1; decide) rfl rfl rfl rfl rfl (CellsAt.own (j := 0) (m := 1) (hS.at_ 0 rfl) rfl) rfl rfl (by dsimp only; simp only [maxLen]; omega) (by dsimp only; show _ * 1 ≤ _; omega) rfl ?_
 clear hS; intro v8 W8 hS
 refine op_nilCheck rfl rfl ?_
 refine op_field (o' := 9) fa_101_1 rfl rfl rfl ?_
 refine op_field (o' := 16) fa_40_2 rfl rfl rfl ?_
 refine op_store (i := 3) (cs' := [_, _, _, _, _, _, _, _, _, _, _, _, _, _, _, _, _]) (O' := (_ :: _ :: _ :: _ :: Ot)) hS Try.sizeOf38 rfl rfl (by first | rfl | exact (hS.oneV 0 _ rfl :) | exact (hS.oneV 1 _ rfl :) | exact (hS.oneV 2 _ rfl :) | exact (hS.oneV 3 _ rfl :)) rfl rfl rfl rfl ?_
 clear hS; intro W9 hS
 refine endF ?_
 refine XF.resN (res0 Try.results73) ?_
 exact ⟨_, _, _, rfl, hS.tail.tail.tail.keep K (fun q hq => by simp [hq])⟩
end Go.Proofs.Ytnhnedifekejpaa
namespace Go.Proofs.Ytnhnedifekejpaa
open Go Go.RowKit
theorem fa_101_0 (w : World) (b o : Nat) : (Instr.fieldAt 101 (.pointer (some ⟨b, o, none⟩)) 0).run Try.prog w = .ok (.pointer (some ⟨b, o + 0, none⟩)) w := by
 simp [Instr.fieldAt, run_underlying Try.underlying101, Instr.sureAddr, go_sem, Addr.add_lit]
theorem goes_73 : goesIn Try.prog 73 = true := by kernel_rfl
theorem goes_75 : goesIn Try.prog 75 = true := by kernel_rfl
theorem shParts_is (sf : SF) (f0 : WF) (sq : SF) (zt yt : Int) (v1 v2 v3 : Value) (n : Nat) (xs1 xs2 xs3 : List Value) (B : Nat) (Ot : Own) (K : List (Nat × World)) (w0 : World) (S : PS) (x : PX) (num rp rg rq : Int) (rwa : Option Addr) (rwl rwc : Nat) (ws : List Int) (f : WF) (w : World) (hS0 : St w0 ((B, shC sf f0 sq (zt) (yt) v1 v2 v3, 101) :: Ot) [⟨v1, n, xs1, 56, 10⟩, ⟨v2, n, xs2, 3, 1⟩, ⟨v3, n, xs3, 4, 1⟩] K w) (hn : n ≤ 50000) (hs : SIs w0 S sf) (hok : S.ok) (hx : XIs w0 S f x) (hrow : Row w0 rwa ws) (hlen : ws.length = rwl) (hw4 : rwl ≤ 4096) (hz : 0 ≤ zt ∧ zt ≤ 10000) (hy : 0 ≤ yt ∧ yt ≤ 10000) (ht : Tabs w0) :
  Calls Try.prog 43 #[.pointer (some ⟨B, 0, none⟩), .int .i64 num, .agg #[.int .i64 rp, .int .i64 rg, .int .i64 rq, .slice rwa rwl rwc, .bool f.z, .int .i64 f.c, .int .u64 (f.g : Int), .slice f.ra f.rl f.rc, .slice f.ca f.cl f.cc, .slice f.pa f.pl f.pc]] w (fun e w' => ∃ (u1 u2 u3 : Value) (Kn : List (Nat × World)) (ns : List R9), e = .returned (.tuple #[]) ∧ ns.map R9.pl = partsF (oneX S) num rp rg rq ws x zt yt ∧ (∀ q ∈ K, q ∈ Kn) ∧ Held w0 Kn (fun W2 => ∀ r ∈ ns, RHeld w0.heap.size S W2 r) ∧ St w0 ((B, shC sf f0 sq (zt + ((rwl - 2 : Nat) : Int)) (yt + ((rwl - 2 : Nat) : Int)) u1 u2 u3, 101) :: Ot) [⟨u1, n + ns.length, xs1 ++ ns.flatMap ten9, 56, 10⟩, ⟨u2, n + ns.length, xs2 ++ ns.map (fun r => Value.int .i64 r.num), 3, 1⟩, ⟨u3, n + ns.length, xs3 ++ ns.map (fun r => Value.bool r.first), 4, 1⟩] Kn w') := by
 refine enterF (args := [.pointer (some ⟨B, 0, none⟩), .int .i64 num, .agg #[.int .i64 rp, .int .i64 rg, .int .i64 rq, .slice rwa rwl rwc, .bool f.z, .int .i64 f.c, .int .u64 (f.g : Int), .slice f.ra f.rl f.rc, .slice f.ca f.cl f.cc, .slice f.pa f.pl f.pc]]) Try.func43 rfl Try.ntmps43 rfl ?_
 have hS := hS0
 refine seqF (regF ?_)
 refine op_box (cs := [_, _, _, _, _, _, _, _, _, _]) hS rfl rfl rfl ?_
 clear hS; intro B1 W1 hS
 refine endF (XF.thenN ?_)
 refine seqF (regF ?_)
 refine op_field (o' := 3) fa_56_3 rfl rfl rfl ?_
 refine op_load Try.isAgg30 rfl (cell_own (hS.at_ 0 rfl) rfl) rfl ?_
 refine op_len Try.underlying30 rfl rfl ?_
 refine op_assign rfl rfl ?_
 refine endF (XF.thenN ?_)
 refine seqF ?_
 refine seqF (regF ?_)
 refine op_move rfl rfl ?_
 refine op_leq rfl rfl rfl ?_
 refine endF (XF.thenN ?_)
 refine condF rfl (fun hc => ?_) (fun hc => ?_)
 ·have hc14 := of_decide_eq_true hc; clear hc
  refine seqF ?_
  have hS7 := hS
  have hszN := hS.below.size
  refine regY (al := []) (G := fun _ => [⟨v1, n, xs1, 56, 10⟩, ⟨v2, n, xs2, 3, 1⟩, ⟨v3, n, xs3, 4, 1⟩]) (E := []) (k := 19) (ds := [34]) followsM rfl hS rfl rfl (by kernel_rfl) (by kernel_rfl) rfl (by decide) rfl ?_
  refine bly_cons 1 rfl (isV _) (syV fst_take [(0, _)] rfl rfl (fun _ => (w_free rfl)) (fun _ => ⟨g_fr (by kernel_rfl) rfl, trivial⟩) (fun s w hw => rn_move rfl) (at_top rfl)) ?_
  refine bly_cons 2 rfl (isV _) (syV fst_take [(1, _)] rfl rfl (fun _ => (w_free rfl)) (fun _ => ⟨g_fr (by kernel_rfl) rfl, trivial⟩) (fun s w hw => rn_move rfl) (at_top rfl)) ?_
  refine bly_cons 3 rfl (isV _) (syV fst_take [(5, _)] rfl rfl (fun _ => (w_free rfl)) (fun _ => ⟨g_fr (by kernel_rfl) rfl, trivial⟩) (fun s w hw => rn_field (o' := 0) fa_56_0 rfl rfl) (at_top rfl)) ?_
  refine bly_cons 4 rfl (isV _) (syV fst_take [(17, _)] rfl rfl (fun _ => (w_free rfl)) (fun _ => ⟨g_dep 2 (by kernel_rfl) (at_n rfl rfl (at_dep rfl rfl rfl)), trivial⟩) (fun s w hw => rn_load Try.isAgg3 rfl ((cell_own (hw.at_ 0 rfl) rfl))) (at_top rfl)) ?_
  refine bly_cons 5 rfl (isV _) (syV fst_take [(5, _)] rfl rfl (fun _ => (w_free rfl)) (fun _ => ⟨g_fr (by kernel_rfl) rfl, trivial⟩) (fun s w hw => rn_field (o' := 1) fa_56_1 rfl rfl) (at_top rfl)) ?_
  refine bly_cons 6 rfl (isV _) (syV fst_take [(19, _)] rfl rfl (fun _ => (w_free rfl)) (fun _ => ⟨g_dep 4 (by kernel_rfl) (at_n rfl rfl (at_dep rfl rfl rfl)), trivial⟩) (fun s w hw => rn_load Try.isAgg3 rfl ((cell_own (hw.at_ 0 rfl) rfl))) (at_top rfl)) ?_
  refine bly_cons 7 rfl (isV _) (syV fst_take [(5, _)] rfl rfl (fun _ => (w_free rfl)) (fun _ => ⟨g_fr (by kernel_rfl) rfl, trivial⟩) (fun s w hw => rn_field (o' := 2) fa_56_2 rfl rfl) (at_top rfl)) ?_
  refine bly_cons 8 rfl (isV _) (syV fst_take [(21, _)] rfl rfl (fun _ => (w_free rfl)) (fun _ => ⟨g_dep 6 (by kernel_rfl) (at_n rfl rfl (at_dep rfl rfl rfl)), trivial⟩) (fun s w hw => rn_load Try.isAgg3 rfl ((cell_own (hw.at_ 0 rfl) rfl))) (at_top rfl)) ?_
  refine bly_cons 9 rfl (isV _) (syV fst_take [(5, _)] rfl rfl (fun _ => (w_free rfl)) (fun _ => ⟨g_fr (by kernel_rfl) rfl, trivial⟩) (fun s w hw => rn_field (o' := 3) fa_56_3 rfl rfl) (at_top rfl)) ?_
  refine bly_cons 10 rfl (isV _) (syV fst_take [(23, _)] rfl rfl (fun _ => (w_free rfl)) (fun _ => ⟨g_dep 8 (by kernel_rfl) (at_n rfl rfl (at_dep rfl rfl rfl)), trivial⟩) (fun s w hw => rn_load Try.isAgg30 rfl ((cell_own (hw.at_ 0 rfl) rfl))) (at_top rfl)) ?_
  refine bly_cons 11 rfl (isClN9 W1.heap.size ws) (sy_call fst_take (fun s => [isV _]) rfl rfl goes_74 (fun _ => w_free rfl) (fun s => ⟨p_tmp (g_dep 9 (by kernel_rfl) (at_n rfl rfl (at_dep rfl rfl rfl))), trivial⟩) (fun vs s0 w' hk hw hlo hh => by have e := holds_isV (us := [_]) hh; subst e; exact cl_gN9 hlo hlen (clone_ints (c := rwc) (hrow.below hw.below) hlen (by omega))) (at_top rfl)) ?_
  refine bly_cons 12 rfl (isV _) (syV fst_take [(0, _)] rfl rfl (fun _ => (w_free rfl)) (fun _ => ⟨g_fr (by kernel_rfl) rfl, trivial⟩) (fun s w hw => rn_move rfl) (at_top rfl)) ?_
  refine bly_cons 13 rfl (isV _) (syV fst_take [(26, _)] rfl rfl (fun _ => (w_free rfl)) (fun _ => ⟨g_dep 11 (by kernel_rfl) (at_n rfl rfl (at_dep rfl rfl rfl)), trivial⟩) (fun s w hw => rn_nilCheck rfl) (at_top rfl)) ?_
  refine bly_cons 14 rfl (isV _) (syV fst_take [(27, _)] rfl rfl (fun _ => (w_free rfl)) (fun _ => ⟨g_dep 12 (by kernel_rfl) (at_n rfl rfl (at_dep rfl rfl rfl)), trivial⟩) (fun s w hw => rn_field (o' := 0) fa_101_0 rfl rfl) (at_top rfl)) ?_
  refine bly_cons 15 rfl (isV _) (syV fst_take [(28, _)] rfl rfl (fun _ => (w_free rfl)) (fun _ => ⟨g_dep 13 (by kernel_rfl) (at_n rfl rfl (at_dep rfl rfl rfl)), trivial⟩) (fun s w hw => rn_loadA (vs := [_, _, _, _, _, _, _, _, _]) Try.isAgg98 Try.sizeOf98 rfl ((CellsAt.own (j := 0) (m := 9) (hw.at_ 1 rfl) rfl))) (at_top rfl)) ?_
  refine bly_cons 16 rfl (isV _) (syV fst_take [(5, _)] rfl rfl (fun _ => (w_free rfl)) (fun _ => ⟨g_fr (by kernel_rfl) rfl, trivial⟩) (fun s w hw => rn_field (o' := 4) fa_56_4 rfl rfl) (at_top rfl)) ?_
  refine bly_cons 17 rfl (isV _) (syV fst_take [(30, _)] rfl rfl (fun _ => (w_free rfl)) (fun _ => ⟨g_dep 15 (by kernel_rfl) (at_n rfl rfl (at_dep rfl rfl rfl)), trivial⟩) (fun s w hw => rn_loadA (vs := [_, _, _, _, _, _]) Try.isAgg54 Try.sizeOf54 rfl ((CellsAt.own (j := 4) (m := 6) (hw.at_ 0 rfl) rfl))) (at_top rfl)) ?_
  refine bly_cons 18 rfl (isNew W1.heap.size S x) (sy_call fst_take (fun s => [isV _, isV _]) rfl rfl goes_75 (fun _ => w_free rfl) (fun s => ⟨p_tmp (g_dep 14 (by kernel_rfl) (at_n rfl rfl (at_dep rfl rfl rfl))), p_tmp (g_dep 16 (by kernel_rfl) (at_n rfl rfl (at_dep rfl rfl rfl))), trivial⟩) (fun vs s0 w' hk hw hlo hh => by have e := holds_isV (us := [_, _]) hh; subst e; exact wret_gN hlo (ringCopy_is S sf f0 f x w' (hs.below hw.below) hok (hx.below hw.below) (ht.below hw.below))) (at_top rfl)) ?_
  refine bly_cons 19 rfl (isRuleN W1.heap.size S (rp) (rg) (rq) ws (x)) (syPs [(3, 18, isV _), (5, 20, isV _), (7, 22, isV _), (10, 25, isClN9 W1.heap.size ws), (17, 32, isNew W1.heap.size S x)] rfl rfl ⟨⟨by kernel_rfl, at_dep rfl rfl rfl⟩, ⟨by kernel_rfl, at_dep rfl rfl rfl⟩, ⟨by kernel_rfl, at_dep rfl rfl rfl⟩, ⟨by kernel_rfl, at_dep rfl rfl rfl⟩, ⟨by kernel_rfl, at_dep rfl rfl rfl⟩, trivial⟩ (bld_rule9 (fun _ _ h => h)) (at_top rfl)) ?_
  refine bly_nil ?_
  intro s2 W2 Ks2 hall2 hsz2 hKs2 hS' hcov2 hfx2 hno2
  clear hS; have hS := hS'.castO (O' := (_ :: _ :: Ot)) rfl; clear hS'
  refine castL (L' := [AwS _ _ (isV _), AwS _ _ (isV _), AwS _ _ (isV _), AwS _ _ (isV _), AwS _ _ (isV _), AwS _ _ (isV _), AwS _ _ (isV _), AwS _ _ (isV _), AwS _ _ (isV _), AwS _ _ (isV _), AwS _ _ (isClN9 W1.heap.size ws), AwS _ _ (isV _), AwS _ _ (isV _), AwS _ _ (isV _), AwS _ _ (isV _), AwS _ _ (isV _), AwS _ _ (isV _), AwS _ _ (isNew W1.heap.size S x), AwS _ _ (isRuleN W1.heap.size S (rp) (rg) (rq) ws (x))]) rfl ?_
  refine fin_sV ?_
  refine fin_sV ?_
  refine fin_sV ?_
  refine fin_sV ?_
  refine fin_sV ?_
  refine fin_sV ?_
  refine fin_sV ?_
  refine fin_sV ?_
  refine fin_sV ?_
  refine fin_sV ?_
  refine fin_p ?_; intro _ _
  refine fin_sV ?_
  refine fin_sV ?_
  refine fin_sV ?_
  refine fin_sV ?_
  refine fin_sV ?_
  refine fin_sV ?_
  refine fin_p ?_; intro _ _
  refine fin_p ?_; rintro vR hR9; have hcovC := @hcov2; obtain ⟨aR, cR, fR, rfl, hwR, hxR⟩ := hR9.here
  refine fin_nil ?_
  have HR : Held w0 (_ ++ K) (fun W2 => RHeld w0.heap.size S W2 ⟨num, true, rp, rg, rq, aR, cR, ws, fR, x⟩) := fun h2 hk => (RHeld.agree (r := ⟨num, true, rp, rg, rq, aR, cR, ws, fR, x⟩) ⟨hwR, hxR⟩ (sameX_agree9 (hcovC h2 (fun q hq => hk q (List.mem_append_left _ hq))) (fun b h1 hx => by have h3 := xb_lt9 hS7 hx; omega))).mono hszN
  refine op_callX (vs := [_, _, _, _]) goes_73 rfl (shPut_is sf f0 sq (zt) (yt) v1 v2 v3 (n) (xs1) (xs2) (xs3) B _ _ w0 num true (rp) (rg) (rq) aR (ws).length cR fR _ (hS.perm (List.Perm.swap _ _ _)) (by omega)) rfl ?_
  rintro e W9 ⟨w1, w2, w3, rfl, hS9⟩
  refine ⟨_, rfl, ?_⟩
  clear hS; have hS := hS9.perm (List.Perm.swap _ _ _); clear hS9
  refine endF (XF.thenN ?_)
  refine retF ?_
  refine XF.thenR ?_
  refine XF.res (res0 Try.results43) ?_
  have e0 : ((rwl - 2 : Nat) : Int) = 0 := by omega
  refine ⟨w1, w2, w3, _, [⟨num, true, rp, rg, rq, aR, cR, ws, fR, x⟩], rfl, by unfold partsF; rw [if_pos (by omega)]; rfl, fun q hq => List.mem_append_right _ hq, fun h2 hk r hr => by simp at hr; subst hr; exact HR h2 hk, ?_⟩
  rw [e0, Int.add_zero, Int.add_zero]
  exact hS.tail.castG (by simp)
 ·have hc14 := of_decide_eq_false hc; clear hc
  obtain ⟨wb, wo, rfl, hcell⟩ : ∃ b o, rwa = some ⟨b, o, none⟩ ∧ ∀ i, i < ws.length → w0.cell? ⟨b, o + i, none⟩ = some (.int .i64 (ws.getD i 0)) := by
   rcases hrow with h | ⟨b, o, h, hc⟩
   ·rw [h] at hlen; simp at hlen; omega
   ·exact ⟨b, o, h, hc⟩
  refine skipF ?_
  refine XF.thenN ?_
  refine seqF ?_
  refine regB (m := 14) followsM hS (by kernel_rfl) (by kernel_rfl) rfl ?_
  refine bl_cons 1 rfl (isV _) (stab_isV _) (rgV (li := [(0, _)]) rfl (w_free rfl) ⟨g_fr (by kernel_rfl) rfl, trivial⟩ (fun w hw => rn_move rfl) (at_top rfl)) ?_
  refine bl_cons 2 rfl (isV _) (stab_isV _) (rgV (li := [(35, _)]) rfl (w_free rfl) ⟨g_dep 0 (by kernel_rfl) (at_dep rfl rfl rfl), trivial⟩ (fun w hw => rn_nilCheck rfl) (at_top rfl)) ?_
  refine bl_cons 3 rfl (isV _) (stab_isV _) (rgV (li := [(36, _)]) rfl (w_free rfl) ⟨g_dep 1 (by kernel_rfl) (at_dep rfl rfl rfl), trivial⟩ (fun w hw => rn_field (o' := 9) fa_101_1 rfl rfl) (at_top rfl)) ?_
  refine bl_cons 4 rfl (isV _) (stab_isV _) (rgV (li := [(37, _)]) rfl (w_free rfl) ⟨g_dep 2 (by kernel_rfl) (at_dep rfl rfl rfl), trivial⟩ (fun w hw => rn_field (o' := 9) fa_40_0 rfl rfl) (at_top rfl)) ?_
  refine bl_cons 5 rfl (isV _) (stab_isV _) (rgV (li := [(38, _)]) rfl (w_free rfl) ⟨g_dep 3 (by kernel_rfl) (at_dep rfl rfl rfl), trivial⟩ (fun w hw => rn_field (o' := 12) fa_28_1 rfl rfl) (at_top rfl)) ?_
  refine bl_cons 6 rfl (isV _) (stab_isV _) (rgV (li := [(39, _)]) rfl (w_free rfl) ⟨g_dep 4 (by kernel_rfl) (at_dep rfl rfl rfl), trivial⟩ (fun w hw => rn_load Try.isAgg3 rfl ((below_agree hw 0).cell (Nat.zero_le _) (cell_own (hS.at_ 1 rfl) rfl))) (at_top rfl)) ?_
  refine bl_cons 7 rfl (isV _) (stab_isV _) (rgV (li := [(0, _)]) rfl (w_free rfl) ⟨g_fr (by kernel_rfl) rfl, trivial⟩ (fun w hw => rn_move rfl) (at_top rfl)) ?_
  refine bl_cons 8 rfl (isV _) (stab_isV _) (rgV (li := [(41, _)]) rfl (w_free rfl) ⟨g_dep 6 (by kernel_rfl) (at_dep rfl rfl rfl), trivial⟩ (fun w hw => rn_nilCheck rfl) (at_top rfl)) ?_
  refine bl_cons 9 rfl (isV _) (stab_isV _) (rgV (li := [(42, _)]) rfl (w_free rfl) ⟨g_dep 7 (by kernel_rfl) (at_dep rfl rfl rfl), trivial⟩ (fun w hw => rn_field (o' := 9) fa_101_1 rfl rfl) (at_top rfl)) ?_
  refine bl_cons 10 rfl (isV _) (stab_isV _) (rgV (li := [(43, _)]) rfl (w_free rfl) ⟨g_dep 8 (by kernel_rfl) (at_dep rfl rfl rfl), trivial⟩ (fun w hw => rn_field (o' := 9) fa_40_0 rfl rfl) (at_top rfl)) ?_
  refine bl_cons 11 rfl (isV _) (stab_isV _) (rgV (li := [(44, _)]) rfl (w_free rfl) ⟨g_dep 9 (by kernel_rfl) (at_dep rfl rfl rfl), trivial⟩ (fun w hw => rn_field (o' := 13) fa_28_2 rfl rfl) (at_top rfl)) ?_
  refine bl_cons 12 rfl (isV _) (stab_isV _) (rgV (li := [(45, _)]) rfl (w_free rfl) ⟨g_dep 10 (by kernel_rfl) (at_dep rfl rfl rfl), trivial⟩ (fun w hw => rn_load Try.isAgg3 rfl ((below_agree hw 0).cell (Nat.zero_le _) (cell_own (hS.at_ 1 rfl) rfl))) (at_top rfl)) ?_
  refine bl_cons 13 rfl (isV _) (stab_isV _) (rgV (li := [(40, _)]) rfl (w_free rfl) ⟨g_dep 5 (by kernel_rfl) (at_dep rfl rfl rfl), trivial⟩ (fun w hw => rn_assign rfl) (at_top rfl)) ?_
  refine bl_cons 14 rfl (isV _) (stab_isV _) (rgV (li := [(46, _)]) rfl (w_free rfl) ⟨g_dep 11 (by kernel_rfl) (at_dep rfl rfl rfl), trivial⟩ (fun w hw => rn_assign rfl) (at_top rfl)) ?_
  refine bl_nil ?_
  intro W3 hbR hS'
  clear hS; have hS := hS'; clear hS'
  refine fin_v ?_
  refine fin_v ?_
  refine fin_v ?_
  refine fin_v ?_
  refine fin_v ?_
  refine fin_v ?_
  refine fin_v ?_
  refine fin_v ?_
  refine fin_v ?_
  refine fin_v ?_
  refine fin_v ?_
  refine fin_v ?_
  refine fin_v ?_
  refine fin_v ?_
  refine fin_nil ?_
  refine XF.thenN ?_
  refine seqF (regF ?_)
  refine op_move rfl rfl ?_
  refine op_nilCheck rfl rfl ?_
  refine op_field (o' := 9) fa_101_1 rfl rfl rfl ?_
  refine op_field (o' := 9) fa_40_0 rfl rfl rfl ?_
  refine op_field (o' := 12) fa_28_1 rfl rfl rfl ?_
  refine op_load Try.isAgg3 rfl (cell_own (hS.at_ 1 rfl) rfl) rfl ?_
  refine op_move rfl rfl ?_
  refine op_sub rfl rfl (IntWalk.i64_in _ (by omega)) rfl ?_
  refine op_add rfl rfl (IntWalk.i64_in _ (by omega)) rfl ?_
  refine op_nilCheck rfl rfl ?_
  refine op_field (o' := 9) fa_101_1 rfl rfl rfl ?_
  refine op_field (o' := 9) fa_40_0 rfl rfl rfl ?_
  refine op_field (o' := 12) fa_28_1 rfl rfl rfl ?_
  refine op_store (i := 1) (cs' := [_, _, _, _, _, _, _, _, _, _, _, _, _, _, _, _, _]) (O' := (_ :: _ :: Ot)) hS Try.sizeOf3 rfl rfl rfl rfl rfl rfl rfl ?_
  clear hS; intro W4 hS
  refine endF (XF.thenN ?_)
  refine seqF (regF ?_)
  refine op_move rfl rfl ?_
  refine op_nilCheck rfl rfl ?_
  refine op_field (o' := 9) fa_101_1 rfl rfl rfl ?_
  refine op_field (o' := 9) fa_40_0 rfl rfl rfl ?_
  refine op_field (o' := 13) fa_28_2 rfl rfl rfl ?_
  refine op_load Try.isAgg3 rfl (cell_own (hS.at_ 1 rfl) rfl) rfl ?_
  refine op_move rfl rfl ?_
  refine op_sub rfl rfl (IntWalk.i64_in _ (by omega)) rfl ?_
  refine op_add rfl rfl (IntWalk.i64_in _ (by omega)) rfl ?_
  refine op_nilCheck rfl rfl ?_
  refine op_field (o' := 9) fa_101_1 rfl rfl rfl ?_
  refine op_field (o' := 9) fa_40_0 rfl rfl rfl ?_
  refine op_field (o' := 13) fa_28_2 rfl rfl rfl ?_
  refine op_store (i := 1) (cs' := [_, _, _, _, _, _, _, _, _, _, _, _, _, _, _, _, _]) (O' := (_ :: _ :: Ot)) hS Try.sizeOf3 rfl rfl rfl rfl rfl rfl rfl ?_
  clear hS; intro W5 hS
  refine endF (XF.thenN ?_)
  refine seqF ?_
  have e2 : (rwl : Int) - 2 = ((rwl - 2 : Nat) : Int) := by omega
  rw [e2] at hS
  have k7 : w0.cell? ⟨wb, wo + (rwl - 1) * 1, none⟩ = some (.int .i64 (ws.getD (ws.length - 1) 0)) := by rw [Nat.mul_one, hlen]; exact hlen ▸ hcell (ws.length - 1) (by omega)
  have hS7 := hS
  have hszN := hS.below.size
  refine regY (al := []) (G := fun _ => [⟨v1, n, xs1, 56, 10⟩, ⟨v2, n, xs2, 3, 1⟩, ⟨v3, n, xs3, 4, 1⟩]) (E := []) (k := 23) (ds := [96]) followsM rfl hS rfl rfl (by kernel_rfl) (by kernel_rfl) rfl (by decide) rfl ?_
  refine bly_cons 1 rfl (isV _) (syV fst_take [(0, _)] rfl rfl (fun _ => (w_free rfl)) (fun _ => ⟨g_fr (by kernel_rfl) rfl, trivial⟩) (fun s w hw => rn_move rfl) (at_top rfl)) ?_
  refine bly_cons 2 rfl (isV _) (syV fst_take [(1, _)] rfl rfl (fun _ => (w_free rfl)) (fun _ => ⟨g_fr (by kernel_rfl) rfl, trivial⟩) (fun s w hw => rn_move rfl) (at_top rfl)) ?_
  refine bly_cons 3 rfl (isV _) (syV fst_take [(5, _)] rfl rfl (fun _ => (w_free rfl)) (fun _ => ⟨g_fr (by kernel_rfl) rfl, trivial⟩) (fun s w hw => rn_field (o' := 0) fa_56_0 rfl rfl) (at_top rfl)) ?_
  refine bly_cons 4 rfl (isV _) (syV fst_take [(75, _)] rfl rfl (fun _ => (w_free rfl)) (fun _ => ⟨g_dep 2 (by kernel_rfl) (at_n rfl rfl (at_dep rfl rfl rfl)), trivial⟩) (fun s w hw => rn_load Try.isAgg3 rfl ((cell_own (hw.at_ 0 rfl) rfl))) (at_top rfl)) ?_
  refine bly_cons 5 rfl (isV _) (syV fst_take [(5, _)] rfl rfl (fun _ => (w_free rfl)) (fun _ => ⟨g_fr (by kernel_rfl) rfl, trivial⟩) (fun s w hw => rn_field (o' := 1) fa_56_1 rfl rfl) (at_top rfl)) ?_
  refine bly_cons 6 rfl (isV _) (syV fst_take [(77, _)] rfl rfl (fun _ => (w_free rfl)) (fun _ => ⟨g_dep 4 (by kernel_rfl) (at_n rfl rfl (at_dep rfl rfl rfl)), trivial⟩) (fun s w hw => rn_load Try.isAgg3 rfl ((cell_own (hw.at_ 0 rfl) rfl))) (at_top rfl)) ?_
  refine bly_cons 7 rfl (isV _) (syV fst_take [(7, _)] rfl rfl (fun _ => (w_free rfl)) (fun _ => ⟨g_fr (by kernel_rfl) rfl, trivial⟩) (fun s w hw => rn_move rfl) (at_top rfl)) ?_
  refine bly_cons 8 rfl (isV _) (syV fst_take [(8, _)] rfl rfl (fun _ => (w_free rfl)) (fun _ => ⟨g_fr (by kernel_rfl) rfl, trivial⟩) (fun s w hw => rn_move rfl) (at_top rfl)) ?_
  refine bly_cons 9 rfl (isV _) (syV fst_take [(5, _)] rfl rfl (fun _ => (w_free rfl)) (fun _ => ⟨g_fr (by kernel_rfl) rfl, trivial⟩) (fun s w hw => rn_field (o' := 3) fa_56_3 rfl rfl) (at_top rfl)) ?_
  refine bly_cons 10 rfl (isV _) (syV fst_take [(81, _)] rfl rfl (fun _ => (w_free rfl)) (fun _ => ⟨g_dep 8 (by kernel_rfl) (at_n rfl rfl (at_dep rfl rfl rfl)), trivial⟩) (fun s w hw => rn_load Try.isAgg30 rfl ((cell_own (hw.at_ 0 rfl) rfl))) (at_top rfl)) ?_
  refine bly_cons 11 rfl (isV _) (syV fst_take [(6, _)] rfl rfl (fun _ => (w_free rfl)) (fun _ => ⟨g_fr (by kernel_rfl) rfl, trivial⟩) (fun s w hw => rn_move rfl) (at_top rfl)) ?_
  refine bly_cons 12 rfl (isV _) (syV fst_take [(83, _)] rfl rfl (fun _ => (w_free rfl)) (fun _ => ⟨g_dep 10 (by kernel_rfl) (at_n rfl rfl (at_dep rfl rfl rfl)), trivial⟩) (fun s w hw => rn_sub rfl rfl (IntWalk.i64_in _ (by omega))) (at_top rfl)) ?_
  refine bly_cons 13 rfl (isV _) (syV fst_take [(82, _), (84, _)] rfl rfl (fun _ => (w_free rfl)) (fun _ => ⟨g_dep 9 (by kernel_rfl) (at_n rfl rfl (at_dep rfl rfl rfl)), g_dep 11 (by kernel_rfl) (at_n rfl rfl (at_dep rfl rfl rfl)), trivial⟩) (fun s w hw => rn_indexA (j := rwl - 1) Try.underlying30 Try.sizeOf3 rfl rfl (by omega) (by omega) rfl) (at_top rfl)) ?_
  refine bly_cons 14 rfl (isV _) (syV fst_take [(85, _)] rfl rfl (fun _ => (w_free rfl)) (fun _ => ⟨g_dep 12 (by kernel_rfl) (at_n rfl rfl (at_dep rfl rfl rfl)), trivial⟩) (fun s w hw => rn_load Try.isAgg3 rfl (hw.agree.cell (Nat.zero_le _) (k7))) (at_top rfl)) ?_
  refine bly_cons 15 rfl (isRow W5.heap.size 2 3 _) (sy_rowV fst_take (us := [.int .i64 _, .int .i64 _]) rfl rfl (fun _ => (w_free rfl)) Try.underlying30 Try.sizeOf3 Try.zeroValue3 rfl rfl (fun _ => ⟨p_tmp (g_dep 7 (by kernel_rfl) (at_n rfl rfl (at_dep rfl rfl rfl))), p_tmp (g_dep 13 (by kernel_rfl) (at_n rfl rfl (at_dep rfl rfl rfl))), trivial⟩) (bs_30_2 _ _) (at_top rfl)) ?_
  refine bly_cons 16 rfl (isV _) (syV fst_take [(0, _)] rfl rfl (fun _ => (w_free rfl)) (fun _ => ⟨g_fr (by kernel_rfl) rfl, trivial⟩) (fun s w hw => rn_move rfl) (at_top rfl)) ?_
  refine bly_cons 17 rfl (isV _) (syV fst_take [(88, _)] rfl rfl (fun _ => (w_free rfl)) (fun _ => ⟨g_dep 15 (by kernel_rfl) (at_n rfl rfl (at_dep rfl rfl rfl)), trivial⟩) (fun s w hw => rn_nilCheck rfl) (at_top rfl)) ?_
  refine bly_cons 18 rfl (isV _) (syV fst_take [(89, _)] rfl rfl (fun _ => (w_free rfl)) (fun _ => ⟨g_dep 16 (by kernel_rfl) (at_n rfl rfl (at_dep rfl rfl rfl)), trivial⟩) (fun s w hw => rn_field (o' := 0) fa_101_0 rfl rfl) (at_top rfl)) ?_
  refine bly_cons 19 rfl (isV _) (syV fst_take [(90, _)] rfl rfl (fun _ => (w_free rfl)) (fun _ => ⟨g_dep 17 (by kernel_rfl) (at_n rfl rfl (at_dep rfl rfl rfl)), trivial⟩) (fun s w hw => rn_loadA (vs := [_, _, _, _, _, _, _, _, _]) Try.isAgg98 Try.sizeOf98 rfl ((CellsAt.own (j := 0) (m := 9) (hw.at_ 1 rfl) rfl))) (at_top rfl)) ?_
  refine bly_cons 20 rfl (isV _) (syV fst_take [(5, _)] rfl rfl (fun _ => (w_free rfl)) (fun _ => ⟨g_fr (by kernel_rfl) rfl, trivial⟩) (fun s w hw => rn_field (o' := 4) fa_56_4 rfl rfl) (at_top rfl)) ?_
  refine bly_cons 21 rfl (isV _) (syV fst_take [(92, _)] rfl rfl (fun _ => (w_free rfl)) (fun _ => ⟨g_dep 19 (by kernel_rfl) (at_n rfl rfl (at_dep rfl rfl rfl)), trivial⟩) (fun s w hw => rn_loadA (vs := [_, _, _, _, _, _]) Try.isAgg54 Try.sizeOf54 rfl ((CellsAt.own (j := 4) (m := 6) (hw.at_ 0 rfl) rfl))) (at_top rfl)) ?_
  refine bly_cons 22 rfl (isNew W5.heap.size S x) (sy_call fst_take (fun s => [isV _, isV _]) rfl rfl goes_75 (fun _ => w_free rfl) (fun s => ⟨p_tmp (g_dep 18 (by kernel_rfl) (at_n rfl rfl (at_dep rfl rfl rfl))), p_tmp (g_dep 20 (by kernel_rfl) (at_n rfl rfl (at_dep rfl rfl rfl))), trivial⟩) (fun vs s0 w' hk hw hlo hh => by have e := holds_isV (us := [_, _]) hh; subst e; exact wret_gN hlo (ringCopy_is S sf f0 f x w' (hs.below hw.below) hok (hx.below hw.below) (ht.below hw.below))) (at_top rfl)) ?_
  refine bly_cons 23 rfl (isRuleN W5.heap.size S (rp) (rg) (zt) [yt, ws.getD (ws.length - 1) 0] (x)) (syPs [(3, 76, isV _), (5, 78, isV _), (6, 79, isV _), (14, 87, isRow W5.heap.size 2 3 [.int .i64 (yt), .int .i64 (ws.getD (ws.length - 1) 0)]), (21, 94, isNew W5.heap.size S x)] rfl rfl ⟨⟨by kernel_rfl, at_dep rfl rfl rfl⟩, ⟨by kernel_rfl, at_dep rfl rfl rfl⟩, ⟨by kernel_rfl, at_dep rfl rfl rfl⟩, ⟨by kernel_rfl, at_dep rfl rfl rfl⟩, ⟨by kernel_rfl, at_dep rfl rfl rfl⟩, trivial⟩ (bld_rule9 (fun _ _ h => row_cl9 h)) (at_top rfl)) ?_
  refine bly_nil ?_
  intro s6 W6 Ks6 hall6 hsz6 hKs6 hS' hcov6 hfx6 hno6
  clear hS; have hS := hS'.castO (O' := (_ :: _ :: Ot)) rfl; clear hS'
  refine castL (L' := [AwS _ _ (isV _), AwS _ _ (isV _), AwS _ _ (isV _), AwS _ _ (isV _), AwS _ _ (isV _), AwS _ _ (isV _), AwS _ _ (isV _), AwS _ _ (isV _), AwS _ _ (isV _), AwS _ _ (isV _), AwS _ _ (isV _), AwS _ _ (isV _), AwS _ _ (isV _), AwS _ _ (isV _), AwS _ _ (isRow W5.heap.size 2 3 _), AwS _ _ (isV _), AwS _ _ (isV _), AwS _ _ (isV _), AwS _ _ (isV _), AwS _ _ (isV _), AwS _ _ (isV _), AwS _ _ (isNew W5.heap.size S x), AwS _ _ (isRuleN W5.heap.size S (rp) (rg) (zt) [yt, ws.getD (ws.length - 1) 0] (x))]) rfl ?_
  refine fin_sV ?_
  refine fin_sV ?_
  refine fin_sV ?_
  refine fin_sV ?_
  refine fin_sV ?_
  refine fin_sV ?_
  refine fin_sV ?_
  refine fin_sV ?_
  refine fin_sV ?_
  refine fin_sV ?_
  refine fin_sV ?_
  refine fin_sV ?_
  refine fin_sV ?_
  refine fin_sV ?_
  refine fin_p ?_; intro _ _
  refine fin_sV ?_
  refine fin_sV ?_
  refine fin_sV ?_
  refine fin_sV ?_
  refine fin_sV ?_
  refine fin_sV ?_
  refine fin_p ?_; intro _ _
  refine fin_p ?_; rintro vR hR9; have hcovC := @hcov6; obtain ⟨aR, cR, fR, rfl, hwR, hxR⟩ := hR9.here
  refine fin_nil ?_
  have HR : Held w0 (_ ++ ((W1.heap.size, W3) :: K)) (fun W2 => RHeld w0.heap.size S W2 ⟨num, true, rp, rg, zt, aR, cR, [yt, ws.getD (ws.length - 1) 0], fR, x⟩) := fun h2 hk => (RHeld.agree (r := ⟨num, true, rp, rg, zt, aR, cR, [yt, ws.getD (ws.length - 1) 0], fR, x⟩) ⟨hwR, hxR⟩ (sameX_agree9 (hcovC h2 (fun q hq => hk q (List.mem_append_left _ hq))) (fun b h1 hx => by have h3 := xb_lt9 hS7 hx; omega))).mono hszN
  refine op_callX (vs := [_, _, _, _]) goes_73 rfl (shPut_is sf f0 sq (zt + ((rwl - 2 : Nat) : Int)) (yt + ((rwl - 2 : Nat) : Int)) v1 v2 v3 (n) (xs1) (xs2) (xs3) B _ _ w0 num true (rp) (rg) (zt) aR ([yt, ws.getD (ws.length - 1) 0]).length cR fR _ (hS.perm (List.Perm.swap _ _ _)) (by omega)) rfl ?_
  rintro e W9 ⟨w1, w2, w3, rfl, hS9⟩
  refine ⟨_, rfl, ?_⟩
  clear hS; have hS := hS9.perm (List.Perm.swap _ _ _); clear hS9
  refine endF (XF.thenN ?_)
  refine seqF ?_
  refine seqF (regF ?_)
  refine op_move rfl rfl ?_
  refine op_sub rfl rfl (IntWalk.i64_in _ (by omega)) rfl ?_
  refine op_move rfl rfl ?_
  refine endF (XF.thenN ?_)
  refine blockF ?_
  refine loopF (fun m l W => ∃ (i : Nat) (u1 u2 u3 : Value) (Kk : List (Nat × World)) (ns : List R9), i ≤ rwl - 3 ∧ m = (rwl - 3) - i ∧ l = [(0, .pointer (some ⟨B, 0, none⟩)), (1, .int .i64 num), (5, .pointer (some ⟨B1, 0, none⟩)), (6, .int .i64 (rwl : Int)), (7, .int .i64 zt), (8, .int .i64 yt), (98, .int .i64 ((rwl : Int) - 3)), (99, .int .i64 (i : Int))] ∧ ns.map R9.pl = (num, true, rp, rg, zt, [yt, ws.getD (ws.length - 1) 0], x) :: (List.range i).map (fun i : Nat => ((num, false, zt + (i : Int), yt + (i : Int), zt + (i : Int) + 1, [yt + (i : Int) + 1, ws.getD (ws.length - 2 - i) 0], oneX S) : PR)) ∧ (∀ q ∈ K, q ∈ Kk) ∧ Held w0 Kk (fun W2 => ∀ r ∈ ns, RHeld w0.heap.size S W2 r) ∧ St w0 ((B1, [.int .i64 rp, .int .i64 rg, .int .i64 rq, .slice (some ⟨wb, wo, none⟩) rwl rwc, .bool f.z, .int .i64 f.c, .int .u64 (f.g : Int), .slice f.ra f.rl f.rc, .slice f.ca f.cl f.cc, .slice f.pa f.pl f.pc], 56) :: (B, shC sf f0 sq (zt + ((rwl - 2 : Nat) : Int)) (yt + ((rwl - 2 : Nat) : Int)) u1 u2 u3, 101) :: Ot) [⟨u1, n + ns.length, xs1 ++ ns.flatMap ten9, 56, 10⟩, ⟨u2, n + ns.length, xs2 ++ ns.map (fun r => Value.int .i64 r.num), 3, 1⟩, ⟨u3, n + ns.length, xs3 ++ ns.map (fun r => Value.bool r.first), 4, 1⟩] Kk W) ((rwl - 3) - 0) ([(0, _), (1, _), (5, _), (6, _), (7, _), (8, _), (98, _), (99, _)]) ⟨rfl, rfl, rfl, rfl, rfl, rfl, rfl, rfl, trivial⟩ (⟨0, w1, w2, w3, _, [⟨num, true, rp, rg, zt, aR, cR, [yt, ws.getD (ws.length - 1) 0], fR, x⟩], Nat.zero_le _, rfl, rfl, rfl, fun q hq => List.mem_append_right _ (List.mem_cons_of_mem _ hq), fun h2 hk r hr => by simp at hr; subst hr; exact HR h2 hk, by exact hS.castG (by simp)⟩) ?_
  clear hS
  rintro m l W ⟨i, u1, u2, u3, Kk, ns, hi, rfl, rfl, hns, hsub, HN, hS⟩
  refine seqF (regF ?_)
  refine op_lss rfl rfl rfl ?_
  refine endF (XF.thenN ?_)
  refine seqF ?_
  refine condF rfl (fun hc => ?_) (fun hc => ?_)
  ·have hc100 := of_decide_eq_true hc; clear hc
   have hk : i < rwl - 3 := by omega
   have hnl : ns.length = i + 1 := by have := congrArg List.length hns; simpa using this
   have k11 : w0.cell? ⟨wb, wo + (rwl - 2 - i) * 1, none⟩ = some (.int .i64 (ws.getD (ws.length - 2 - i) 0)) := by rw [Nat.mul_one, hlen]; exact hlen ▸ hcell (ws.length - 2 - i) (by omega)
   refine skipF ?_
   refine XF.thenN ?_
   refine seqF ?_
   refine blockF ?_
   refine seqF (regF ?_)
   refine op_move rfl rfl ?_
   refine op_assign rfl rfl ?_
   refine endF (XF.thenN ?_)
   have hS7 := hS
   have hszN := hS.below.size
   refine regY (al := []) (G := fun _ => [⟨u1, n + ns.length, xs1 ++ ns.flatMap ten9, 56, 10⟩, ⟨u2, n + ns.length, xs2 ++ ns.map (fun r => Value.int .i64 r.num), 3, 1⟩, ⟨u3, n + ns.length, xs3 ++ ns.map (fun r => Value.bool r.first), 4, 1⟩]) (E := []) (k := 31) (ds := [133]) followsM rfl hS rfl rfl (by kernel_rfl) (by kernel_rfl) rfl (by decide) rfl ?_
   refine bly_cons 1 rfl (isV _) (syV fst_take [(0, _)] rfl rfl (fun _ => (w_free rfl)) (fun _ => ⟨g_fr (by kernel_rfl) rfl, trivial⟩) (fun s w hw => rn_move rfl) (at_top rfl)) ?_
   refine bly_cons 2 rfl (isV _) (syV fst_take [(1, _)] rfl rfl (fun _ => (w_free rfl)) (fun _ => ⟨g_fr (by kernel_rfl) rfl, trivial⟩) (fun s w hw => rn_move rfl) (at_top rfl)) ?_
   refine bly_cons 3 rfl (isV _) (syV fst_take [(7, _)] rfl rfl (fun _ => (w_free rfl)) (fun _ => ⟨g_fr (by kernel_rfl) rfl, trivial⟩) (fun s w hw => rn_move rfl) (at_top rfl)) ?_
   refine bly_cons 4 rfl (isV _) (syV fst_take [(9, _)] rfl rfl (fun _ => (w_free rfl)) (fun _ => ⟨g_fr (by kernel_rfl) rfl, trivial⟩) (fun s w hw => rn_move rfl) (at_top rfl)) ?_
   refine bly_cons 5 rfl (isV _) (syV fst_take [(104, _), (105, _)] rfl rfl (fun _ => (w_free rfl)) (fun _ => ⟨g_dep 2 (by kernel_rfl) (at_n rfl rfl (at_dep rfl rfl rfl)), g_dep 3 (by kernel_rfl) (at_n rfl rfl (at_dep rfl rfl rfl)), trivial⟩) (fun s w hw => rn_add rfl rfl (IntWalk.i64_in _ (by omega))) (at_top rfl)) ?_
   refine bly_cons 6 rfl (isV _) (syV fst_take [(8, _)] rfl rfl (fun _ => (w_free rfl)) (fun _ => ⟨g_fr (by kernel_rfl) rfl, trivial⟩) (fun s w hw => rn_move rfl) (at_top rfl)) ?_
   refine bly_cons 7 rfl (isV _) (syV fst_take [(9, _)] rfl rfl (fun _ => (w_free rfl)) (fun _ => ⟨g_fr (by kernel_rfl) rfl, trivial⟩) (fun s w hw => rn_move rfl) (at_top rfl)) ?_
   refine bly_cons 8 rfl (isV _) (syV fst_take [(107, _), (108, _)] rfl rfl (fun _ => (w_free rfl)) (fun _ => ⟨g_dep 5 (by kernel_rfl) (at_n rfl rfl (at_dep rfl rfl rfl)), g_dep 6 (by kernel_rfl) (at_n rfl rfl (at_dep rfl rfl rfl)), trivial⟩) (fun s w hw => rn_add rfl rfl (IntWalk.i64_in _ (by omega))) (at_top rfl)) ?_
   refine bly_cons 9 rfl (isV _) (syV fst_take [(7, _)] rfl rfl (fun _ => (w_free rfl)) (fun _ => ⟨g_fr (by kernel_rfl) rfl, trivial⟩) (fun s w hw => rn_move rfl) (at_top rfl)) ?_
   refine bly_cons 10 rfl (isV _) (syV fst_take [(9, _)] rfl rfl (fun _ => (w_free rfl)) (fun _ => ⟨g_fr (by kernel_rfl) rfl, trivial⟩) (fun s w hw => rn_move rfl) (at_top rfl)) ?_
   refine bly_cons 11 rfl (isV _) (syV fst_take [(110, _), (111, _)] rfl rfl (fun _ => (w_free rfl)) (fun _ => ⟨g_dep 8 (by kernel_rfl) (at_n rfl rfl (at_dep rfl rfl rfl)), g_dep 9 (by kernel_rfl) (at_n rfl rfl (at_dep rfl rfl rfl)), trivial⟩) (fun s w hw => rn_add rfl rfl (IntWalk.i64_in _ (by omega))) (at_top rfl)) ?_
   refine bly_cons 12 rfl (isV _) (syV fst_take [(112, _)] rfl rfl (fun _ => (w_free rfl)) (fun _ => ⟨g_dep 10 (by kernel_rfl) (at_n rfl rfl (at_dep rfl rfl rfl)), trivial⟩) (fun s w hw => rn_add rfl rfl (IntWalk.i64_in _ (by omega))) (at_top rfl)) ?_
   refine bly_cons 13 rfl (isV _) (syV fst_take [(8, _)] rfl rfl (fun _ => (w_free rfl)) (fun _ => ⟨g_fr (by kernel_rfl) rfl, trivial⟩) (fun s w hw => rn_move rfl) (at_top rfl)) ?_
   refine bly_cons 14 rfl (isV _) (syV fst_take [(9, _)] rfl rfl (fun _ => (w_free rfl)) (fun _ => ⟨g_fr (by kernel_rfl) rfl, trivial⟩) (fun s w hw => rn_move rfl) (at_top rfl)) ?_
   refine bly_cons 15 rfl (isV _) (syV fst_take [(114, _), (115, _)] rfl rfl (fun _ => (w_free rfl)) (fun _ => ⟨g_dep 12 (by kernel_rfl) (at_n rfl rfl (at_dep rfl rfl rfl)), g_dep 13 (by kernel_rfl) (at_n rfl rfl (at_dep rfl rfl rfl)), trivial⟩) (fun s w hw => rn_add rfl rfl (IntWalk.i64_in _ (by omega))) (at_top rfl)) ?_
   refine bly_cons 16 rfl (isV _) (syV fst_take [(116, _)] rfl rfl (fun _ => (w_free rfl)) (fun _ => ⟨g_dep 14 (by kernel_rfl) (at_n rfl rfl (at_dep rfl rfl rfl)), trivial⟩) (fun s w hw => rn_add rfl rfl (IntWalk.i64_in _ (by omega))) (at_top rfl)) ?_
   refine bly_cons 17 rfl (isV _) (syV fst_take [(5, _)] rfl rfl (fun _ => (w_free rfl)) (fun _ => ⟨g_fr (by kernel_rfl) rfl, trivial⟩) (fun s w hw => rn_field (o' := 3) fa_56_3 rfl rfl) (at_top rfl)) ?_
   refine bly_cons 18 rfl (isV _) (syV fst_take [(118, _)] rfl rfl (fun _ => (w_free rfl)) (fun _ => ⟨g_dep 16 (by kernel_rfl) (at_n rfl rfl (at_dep rfl rfl rfl)), trivial⟩) (fun s w hw => rn_load Try.isAgg30 rfl ((cell_own (hw.at_ 0 rfl) rfl))) (at_top rfl)) ?_
   refine bly_cons 19 rfl (isV _) (syV fst_take [(6, _)] rfl rfl (fun _ => (w_free rfl)) (fun _ => ⟨g_fr (by kernel_rfl) rfl, trivial⟩) (fun s w hw => rn_move rfl) (at_top rfl)) ?_
   refine bly_cons 20 rfl (isV _) (syV fst_take [(120, _)] rfl rfl (fun _ => (w_free rfl)) (fun _ => ⟨g_dep 18 (by kernel_rfl) (at_n rfl rfl (at_dep rfl rfl rfl)), trivial⟩) (fun s w hw => rn_sub rfl rfl (IntWalk.i64_in _ (by omega))) (at_top rfl)) ?_
   refine bly_cons 21 rfl (isV _) (syV fst_take [(9, _)] rfl rfl (fun _ => (w_free rfl)) (fun _ => ⟨g_fr (by kernel_rfl) rfl, trivial⟩) (fun s w hw => rn_move rfl) (at_top rfl)) ?_
   refine bly_cons 22 rfl (isV _) (syV fst_take [(121, _), (122, _)] rfl rfl (fun _ => (w_free rfl)) (fun _ => ⟨g_dep 19 (by kernel_rfl) (at_n rfl rfl (at_dep rfl rfl rfl)), g_dep 20 (by kernel_rfl) (at_n rfl rfl (at_dep rfl rfl rfl)), trivial⟩) (fun s w hw => rn_sub rfl rfl (IntWalk.i64_in _ (by omega))) (at_top rfl)) ?_
   refine bly_cons 23 rfl (isV _) (syV fst_take [(119, _), (123, _)] rfl rfl (fun _ => (w_free rfl)) (fun _ => ⟨g_dep 17 (by kernel_rfl) (at_n rfl rfl (at_dep rfl rfl rfl)), g_dep 21 (by kernel_rfl) (at_n rfl rfl (at_dep rfl rfl rfl)), trivial⟩) (fun s w hw => rn_indexA (j := rwl - 2 - i) Try.underlying30 Try.sizeOf3 rfl rfl (by omega) (by omega) rfl) (at_top rfl)) ?_
   refine bly_cons 24 rfl (isV _) (syV fst_take [(124, _)] rfl rfl (fun _ => (w_free rfl)) (fun _ => ⟨g_dep 22 (by kernel_rfl) (at_n rfl rfl (at_dep rfl rfl rfl)), trivial⟩) (fun s w hw => rn_load Try.isAgg3 rfl (hw.agree.cell (Nat.zero_le _) (k11))) (at_top rfl)) ?_
   refine bly_cons 25 rfl (isRow W.heap.size 2 3 _) (sy_rowV fst_take (us := [.int .i64 _, .int .i64 _]) rfl rfl (fun _ => (w_free rfl)) Try.underlying30 Try.sizeOf3 Try.zeroValue3 rfl rfl (fun _ => ⟨p_tmp (g_dep 15 (by kernel_rfl) (at_n rfl rfl (at_dep rfl rfl rfl))), p_tmp (g_dep 23 (by kernel_rfl) (at_n rfl rfl (at_dep rfl rfl rfl))), trivial⟩) (bs_30_2 _ _) (at_top rfl)) ?_
   refine bly_cons 26 rfl (isV _) (syV fst_take [(0, _)] rfl rfl (fun _ => (w_free rfl)) (fun _ => ⟨g_fr (by kernel_rfl) rfl, trivial⟩) (fun s w hw => rn_move rfl) (at_top rfl)) ?_
   refine bly_cons 27 rfl (isV _) (syV fst_take [(127, _)] rfl rfl (fun _ => (w_free rfl)) (fun _ => ⟨g_dep 25 (by kernel_rfl) (at_n rfl rfl (at_dep rfl rfl rfl)), trivial⟩) (fun s w hw => rn_nilCheck rfl) (at_top rfl)) ?_
   refine bly_cons 28 rfl (isV _) (syV fst_take [(128, _)] rfl rfl (fun _ => (w_free rfl)) (fun _ => ⟨g_dep 26 (by kernel_rfl) (at_n rfl rfl (at_dep rfl rfl rfl)), trivial⟩) (fun s w hw => rn_field (o' := 0) fa_101_0 rfl rfl) (at_top rfl)) ?_
   refine bly_cons 29 rfl (isV _) (syV fst_take [(129, _)] rfl rfl (fun _ => (w_free rfl)) (fun _ => ⟨g_dep 27 (by kernel_rfl) (at_n rfl rfl (at_dep rfl rfl rfl)), trivial⟩) (fun s w hw => rn_loadA (vs := [_, _, _, _, _, _, _, _, _]) Try.isAgg98 Try.sizeOf98 rfl ((CellsAt.own (j := 0) (m := 9) (hw.at_ 1 rfl) rfl))) (at_top rfl)) ?_
   refine bly_cons 30 rfl (isNew W.heap.size S (oneX S)) (sy_call fst_take (fun s => [isV _]) rfl rfl goes_76 (fun _ => w_free rfl) (fun s => ⟨p_tmp (g_dep 28 (by kernel_rfl) (at_n rfl rfl (at_dep rfl rfl rfl))), trivial⟩) (fun vs s0 w' hk hw hlo hh => by have e := holds_isV (us := [_]) hh; subst e; exact wret_gN hlo (ringOne_is S sf f0 w' (hs.below hw.below) hok)) (at_top rfl)) ?_
   refine bly_cons 31 rfl (isRuleN W.heap.size S (zt + (i : Int)) (yt + (i : Int)) (zt + (i : Int) + 1) [yt + (i : Int) + 1, ws.getD (ws.length - 2 - i) 0] (oneX S)) (syPs [(4, 106, isV _), (7, 109, isV _), (11, 113, isV _), (24, 126, isRow W.heap.size 2 3 [.int .i64 (yt + (i : Int) + 1), .int .i64 (ws.getD (ws.length - 2 - i) 0)]), (29, 131, isNew W.heap.size S (oneX S))] rfl rfl ⟨⟨by kernel_rfl, at_dep rfl rfl rfl⟩, ⟨by kernel_rfl, at_dep rfl rfl rfl⟩, ⟨by kernel_rfl, at_dep rfl rfl rfl⟩, ⟨by kernel_rfl, at_dep rfl rfl rfl⟩, ⟨by kernel_rfl, at_dep rfl rfl rfl⟩, trivial⟩ (bld_rule9 (fun _ _ h => row_cl9 h)) (at_top rfl)) ?_
   refine bly_nil ?_
   intro s7 W7 Ks7 hall7 hsz7 hKs7 hS' hcov7 hfx7 hno7
   clear hS; have hS := hS'.castO (O' := (_ :: _ :: Ot)) rfl; clear hS'
   refine castL (L' := [AwS _ _ (isV _), AwS _ _ (isV _), AwS _ _ (isV _), AwS _ _ (isV _), AwS _ _ (isV _), AwS _ _ (isV _), AwS _ _ (isV _), AwS _ _ (isV _), AwS _ _ (isV _), AwS _ _ (isV _), AwS _ _ (isV _), AwS _ _ (isV _), AwS _ _ (isV _), AwS _ _ (isV _), AwS _ _ (isV _), AwS _ _ (isV _), AwS _ _ (isV _), AwS _ _ (isV _), AwS _ _ (isV _), AwS _ _ (isV _), AwS _ _ (isV _), AwS _ _ (isV _), AwS _ _ (isV _), AwS _ _ (isV _), AwS _ _ (isRow W.heap.size 2 3 _), AwS _ _ (isV _), AwS _ _ (isV _), AwS _ _ (isV _), AwS _ _ (isV _), AwS _ _ (isNew W.heap.size S (oneX S)), AwS _ _ (isRuleN W.heap.size S (zt + (i : Int)) (yt + (i : Int)) (zt + (i : Int) + 1) [yt + (i : Int) + 1, ws.getD (ws.length - 2 - i) 0] (oneX S))]) rfl ?_
   refine fin_sV ?_
   refine fin_sV ?_
   refine fin_sV ?_
   refine fin_sV ?_
   refine fin_sV ?_
   refine fin_sV ?_
   refine fin_sV ?_
   refine fin_sV ?_
   refine fin_sV ?_
   refine fin_sV ?_
   refine fin_sV ?_
   refine fin_sV ?_
   refine fin_sV ?_
   refine fin_sV ?_
   refine fin_sV ?_
   refine fin_sV ?_
   refine fin_sV ?_
   refine fin_sV ?_
   refine fin_sV ?_
   refine fin_sV ?_
   refine fin_sV ?_
   refine fin_sV ?_
   refine fin_sV ?_
   refine fin_sV ?_
   refine fin_p ?_; intro _ _
   refine fin_sV ?_
   refine fin_sV ?_
   refine fin_sV ?_
   refine fin_sV ?_
   refine fin_p ?_; intro _ _
   refine fin_p ?_; rintro vR hR9; have hcovC := @hcov7; obtain ⟨aR, cR, fR, rfl, hwR, hxR⟩ := hR9.here
   refine fin_nil ?_
   have HR : Held w0 (_ ++ Kk) (fun W2 => RHeld w0.heap.size S W2 ⟨num, false, zt + (i : Int), yt + (i : Int), zt + (i : Int) + 1, aR, cR, [yt + (i : Int) + 1, ws.getD (ws.length - 2 - i) 0], fR, oneX S⟩) := fun h2 hk => (RHeld.agree (r := ⟨num, false, zt + (i : Int), yt + (i : Int), zt + (i : Int) + 1, aR, cR, [yt + (i : Int) + 1, ws.getD (ws.length - 2 - i) 0], fR, oneX S⟩) ⟨hwR, hxR⟩ (sameX_agree9 (hcovC h2 (fun q hq => hk q (List.mem_append_left _ hq))) (fun b h1 hx => by have h3 := xb_lt9 hS7 hx; omega))).mono hszN
   refine op_callX (vs := [_, _, _, _]) goes_73 rfl (shPut_is sf f0 sq (zt + ((rwl - 2 : Nat) : Int)) (yt + ((rwl - 2 : Nat) : Int)) u1 u2 u3 (n + ns.length) (xs1 ++ ns.flatMap ten9) (xs2 ++ ns.map (fun r => Value.int .i64 r.num)) (xs3 ++ ns.map (fun r => Value.bool r.first)) B _ _ w0 num false (zt + (i : Int)) (yt + (i : Int)) (zt + (i : Int) + 1) aR ([yt + (i : Int) + 1, ws.getD (ws.length - 2 - i) 0]).length cR fR _ (hS.perm (List.Perm.swap _ _ _)) (by omega)) rfl ?_
   rintro e W9 ⟨w1, w2, w3, rfl, hS9⟩
   refine ⟨_, rfl, ?_⟩
   clear hS; have hS := hS9.perm (List.Perm.swap _ _ _); clear hS9
   refine endF ?_
   refine XF.blkN ?_
   refine XF.thenN ?_
   refine regF ?_
   refine op_add rfl rfl (IntWalk.i64_in _ (by omega)) rfl ?_
   refine op_move rfl rfl ?_
   refine endF ?_
   exact XF.round ((rwl - 3) - (i + 1)) [(0, _), (1, _), (5, _), (6, _), (7, _), (8, _), (98, _), (99, _)] (by omega) ⟨rfl, rfl, rfl, rfl, rfl, rfl, rfl, rfl, trivial⟩ ⟨i + 1, w1, w2, w3, _, ns ++ [⟨num, false, zt + (i : Int), yt + (i : Int), zt + (i : Int) + 1, aR, cR, [yt + (i : Int) + 1, ws.getD (ws.length - 2 - i) 0], fR, oneX S⟩], by omega, rfl, rfl, by rw [List.map_append, hns, List.range_succ, List.map_append]; rfl, fun q hq => List.mem_append_right _ (hsub q hq), fun h2 hk r hr => by
     rcases List.mem_append.1 hr with hr | hr
     ·exact HN h2 (fun q hq => hk q (List.mem_append_right _ hq)) r hr
     ·simp at hr; subst hr; exact HR h2 hk, hS.castG (by simp [Nat.add_assoc])⟩
  ·have hc100 := of_decide_eq_false hc; clear hc
   obtain rfl : i = rwl - 3 := by omega
   have hnl : ns.length = rwl - 3 + 1 := by have := congrArg List.length hns; simpa using this
   have k13a : w0.cell? ⟨wb, wo, none⟩ = some (.int .i64 (ws.getD 0 0)) := hcell 0 (by omega)
   have k13b : w0.cell? ⟨wb, wo + 1, none⟩ = some (.int .i64 (ws.getD 1 0)) := hcell 1 (by omega)
   refine exitF ?_
   refine XF.thenX ?_
   refine XF.thenX ?_
   refine XF.blkX ?_
   refine XF.thenN ?_
   have hS7 := hS
   have hszN := hS.below.size
   refine regY (al := []) (G := fun _ => [⟨u1, n + ns.length, xs1 ++ ns.flatMap ten9, 56, 10⟩, ⟨u2, n + ns.length, xs2 ++ ns.map (fun r => Value.int .i64 r.num), 3, 1⟩, ⟨u3, n + ns.length, xs3 ++ ns.map (fun r => Value.bool r.first), 4, 1⟩]) (E := []) (k := 27) (ds := [162]) followsM rfl hS rfl rfl (by kernel_rfl) (by kernel_rfl) rfl (by decide) rfl ?_
   refine bly_cons 1 rfl (isV _) (syV fst_take [(0, _)] rfl rfl (fun _ => (w_free rfl)) (fun _ => ⟨g_fr (by kernel_rfl) rfl, trivial⟩) (fun s w hw => rn_move rfl) (at_top rfl)) ?_
   refine bly_cons 2 rfl (isV _) (syV fst_take [(1, _)] rfl rfl (fun _ => (w_free rfl)) (fun _ => ⟨g_fr (by kernel_rfl) rfl, trivial⟩) (fun s w hw => rn_move rfl) (at_top rfl)) ?_
   refine bly_cons 3 rfl (isV _) (syV fst_take [(7, _)] rfl rfl (fun _ => (w_free rfl)) (fun _ => ⟨g_fr (by kernel_rfl) rfl, trivial⟩) (fun s w hw => rn_move rfl) (at_top rfl)) ?_
   refine bly_cons 4 rfl (isV _) (syV fst_take [(6, _)] rfl rfl (fun _ => (w_free rfl)) (fun _ => ⟨g_fr (by kernel_rfl) rfl, trivial⟩) (fun s w hw => rn_move rfl) (at_top rfl)) ?_
   refine bly_cons 5 rfl (isV _) (syV fst_take [(137, _), (138, _)] rfl rfl (fun _ => (w_free rfl)) (fun _ => ⟨g_dep 2 (by kernel_rfl) (at_n rfl rfl (at_dep rfl rfl rfl)), g_dep 3 (by kernel_rfl) (at_n rfl rfl (at_dep rfl rfl rfl)), trivial⟩) (fun s w hw => rn_add rfl rfl (IntWalk.i64_in _ (by omega))) (at_top rfl)) ?_
   refine bly_cons 6 rfl (isV _) (syV fst_take [(139, _)] rfl rfl (fun _ => (w_free rfl)) (fun _ => ⟨g_dep 4 (by kernel_rfl) (at_n rfl rfl (at_dep rfl rfl rfl)), trivial⟩) (fun s w hw => rn_sub rfl rfl (IntWalk.i64_in _ (by omega))) (at_top rfl)) ?_
   refine bly_cons 7 rfl (isV _) (syV fst_take [(8, _)] rfl rfl (fun _ => (w_free rfl)) (fun _ => ⟨g_fr (by kernel_rfl) rfl, trivial⟩) (fun s w hw => rn_move rfl) (at_top rfl)) ?_
   refine bly_cons 8 rfl (isV _) (syV fst_take [(6, _)] rfl rfl (fun _ => (w_free rfl)) (fun _ => ⟨g_fr (by kernel_rfl) rfl, trivial⟩) (fun s w hw => rn_move rfl) (at_top rfl)) ?_
   refine bly_cons 9 rfl (isV _) (syV fst_take [(141, _), (142, _)] rfl rfl (fun _ => (w_free rfl)) (fun _ => ⟨g_dep 6 (by kernel_rfl) (at_n rfl rfl (at_dep rfl rfl rfl)), g_dep 7 (by kernel_rfl) (at_n rfl rfl (at_dep rfl rfl rfl)), trivial⟩) (fun s w hw => rn_add rfl rfl (IntWalk.i64_in _ (by omega))) (at_top rfl)) ?_
   refine bly_cons 10 rfl (isV _) (syV fst_take [(143, _)] rfl rfl (fun _ => (w_free rfl)) (fun _ => ⟨g_dep 8 (by kernel_rfl) (at_n rfl rfl (at_dep rfl rfl rfl)), trivial⟩) (fun s w hw => rn_sub rfl rfl (IntWalk.i64_in _ (by omega))) (at_top rfl)) ?_
   refine bly_cons 11 rfl (isV _) (syV fst_take [(5, _)] rfl rfl (fun _ => (w_free rfl)) (fun _ => ⟨g_fr (by kernel_rfl) rfl, trivial⟩) (fun s w hw => rn_field (o' := 2) fa_56_2 rfl rfl) (at_top rfl)) ?_
   refine bly_cons 12 rfl (isV _) (syV fst_take [(145, _)] rfl rfl (fun _ => (w_free rfl)) (fun _ => ⟨g_dep 10 (by kernel_rfl) (at_n rfl rfl (at_dep rfl rfl rfl)), trivial⟩) (fun s w hw => rn_load Try.isAgg3 rfl ((cell_own (hw.at_ 0 rfl) rfl))) (at_top rfl)) ?_
   refine bly_cons 13 rfl (isV _) (syV fst_take [(5, _)] rfl rfl (fun _ => (w_free rfl)) (fun _ => ⟨g_fr (by kernel_rfl) rfl, trivial⟩) (fun s w hw => rn_field (o' := 3) fa_56_3 rfl rfl) (at_top rfl)) ?_
   refine bly_cons 14 rfl (isV _) (syV fst_take [(147, _)] rfl rfl (fun _ => (w_free rfl)) (fun _ => ⟨g_dep 12 (by kernel_rfl) (at_n rfl rfl (at_dep rfl rfl rfl)), trivial⟩) (fun s w hw => rn_load Try.isAgg30 rfl ((cell_own (hw.at_ 0 rfl) rfl))) (at_top rfl)) ?_
   refine bly_cons 15 rfl (isV _) (syV fst_take [(148, _)] rfl rfl (fun _ => (w_free rfl)) (fun _ => ⟨g_dep 13 (by kernel_rfl) (at_n rfl rfl (at_dep rfl rfl rfl)), trivial⟩) (fun s w hw => rn_indexA (j := 0) Try.underlying30 Try.sizeOf3 rfl rfl rfl (by omega) (Nat.add_zero _)) (at_top rfl)) ?_
   refine bly_cons 16 rfl (isV _) (syV fst_take [(149, _)] rfl rfl (fun _ => (w_free rfl)) (fun _ => ⟨g_dep 14 (by kernel_rfl) (at_n rfl rfl (at_dep rfl rfl rfl)), trivial⟩) (fun s w hw => rn_load Try.isAgg3 rfl (hw.agree.cell (Nat.zero_le _) (k13a))) (at_top rfl)) ?_
   refine bly_cons 17 rfl (isV _) (syV fst_take [(5, _)] rfl rfl (fun _ => (w_free rfl)) (fun _ => ⟨g_fr (by kernel_rfl) rfl, trivial⟩) (fun s w hw => rn_field (o' := 3) fa_56_3 rfl rfl) (at_top rfl)) ?_
   refine bly_cons 18 rfl (isV _) (syV fst_take [(151, _)] rfl rfl (fun _ => (w_free rfl)) (fun _ => ⟨g_dep 16 (by kernel_rfl) (at_n rfl rfl (at_dep rfl rfl rfl)), trivial⟩) (fun s w hw => rn_load Try.isAgg30 rfl ((cell_own (hw.at_ 0 rfl) rfl))) (at_top rfl)) ?_
   refine bly_cons 19 rfl (isV _) (syV fst_take [(152, _)] rfl rfl (fun _ => (w_free rfl)) (fun _ => ⟨g_dep 17 (by kernel_rfl) (at_n rfl rfl (at_dep rfl rfl rfl)), trivial⟩) (fun s w hw => rn_indexA (j := 1) Try.underlying30 Try.sizeOf3 rfl rfl rfl (by omega) rfl) (at_top rfl)) ?_
   refine bly_cons 20 rfl (isV _) (syV fst_take [(153, _)] rfl rfl (fun _ => (w_free rfl)) (fun _ => ⟨g_dep 18 (by kernel_rfl) (at_n rfl rfl (at_dep rfl rfl rfl)), trivial⟩) (fun s w hw => rn_load Try.isAgg3 rfl (hw.agree.cell (Nat.zero_le _) (k13b))) (at_top rfl)) ?_
   refine bly_cons 21 rfl (isRow W.heap.size 2 3 _) (sy_rowV fst_take (us := [.int .i64 _, .int .i64 _]) rfl rfl (fun _ => (w_free rfl)) Try.underlying30 Try.sizeOf3 Try.zeroValue3 rfl rfl (fun _ => ⟨p_tmp (g_dep 15 (by kernel_rfl) (at_n rfl rfl (at_dep rfl rfl rfl))), p_tmp (g_dep 19 (by kernel_rfl) (at_n rfl rfl (at_dep rfl rfl rfl))), trivial⟩) (bs_30_2 _ _) (at_top rfl)) ?_
   refine bly_cons 22 rfl (isV _) (syV fst_take [(0, _)] rfl rfl (fun _ => (w_free rfl)) (fun _ => ⟨g_fr (by kernel_rfl) rfl, trivial⟩) (fun s w hw => rn_move rfl) (at_top rfl)) ?_
   refine bly_cons 23 rfl (isV _) (syV fst_take [(156, _)] rfl rfl (fun _ => (w_free rfl)) (fun _ => ⟨g_dep 21 (by kernel_rfl) (at_n rfl rfl (at_dep rfl rfl rfl)), trivial⟩) (fun s w hw => rn_nilCheck rfl) (at_top rfl)) ?_
   refine bly_cons 24 rfl (isV _) (syV fst_take [(157, _)] rfl rfl (fun _ => (w_free rfl)) (fun _ => ⟨g_dep 22 (by kernel_rfl) (at_n rfl rfl (at_dep rfl rfl rfl)), trivial⟩) (fun s w hw => rn_field (o' := 0) fa_101_0 rfl rfl) (at_top rfl)) ?_
   refine bly_cons 25 rfl (isV _) (syV fst_take [(158, _)] rfl rfl (fun _ => (w_free rfl)) (fun _ => ⟨g_dep 23 (by kernel_rfl) (at_n rfl rfl (at_dep rfl rfl rfl)), trivial⟩) (fun s w hw => rn_loadA (vs := [_, _, _, _, _, _, _, _, _]) Try.isAgg98 Try.sizeOf98 rfl ((CellsAt.own (j := 0) (m := 9) (hw.at_ 1 rfl) rfl))) (at_top rfl)) ?_
   refine bly_cons 26 rfl (isNew W.heap.size S (oneX S)) (sy_call fst_take (fun s => [isV _]) rfl rfl goes_76 (fun _ => w_free rfl) (fun s => ⟨p_tmp (g_dep 24 (by kernel_rfl) (at_n rfl rfl (at_dep rfl rfl rfl))), trivial⟩) (fun vs s0 w' hk hw hlo hh => by have e := holds_isV (us := [_]) hh; subst e; exact wret_gN hlo (ringOne_is S sf f0 w' (hs.below hw.below) hok)) (at_top rfl)) ?_
   refine bly_cons 27 rfl (isRuleN W.heap.size S (zt + (rwl : Int) - 3) (yt + (rwl : Int) - 3) (rq) [ws.getD 0 0, ws.getD 1 0] (oneX S)) (syPs [(5, 140, isV _), (9, 144, isV _), (11, 146, isV _), (20, 155, isRow W.heap.size 2 3 [.int .i64 (ws.getD 0 0), .int .i64 (ws.getD 1 0)]), (25, 160, isNew W.heap.size S (oneX S))] rfl rfl ⟨⟨by kernel_rfl, at_dep rfl rfl rfl⟩, ⟨by kernel_rfl, at_dep rfl rfl rfl⟩, ⟨by kernel_rfl, at_dep rfl rfl rfl⟩, ⟨by kernel_rfl, at_dep rfl rfl rfl⟩, ⟨by kernel_rfl, at_dep rfl rfl rfl⟩, trivial⟩ (bld_rule9 (fun _ _ h => row_cl9 h)) (at_top rfl)) ?_
   refine bly_nil ?_
   intro s8 W8 Ks8 hall8 hsz8 hKs8 hS' hcov8 hfx8 hno8
   clear hS; have hS := hS'.castO (O' := (_ :: _ :: Ot)) rfl; clear hS'
   refine castL (L' := [AwS _ _ (isV _), AwS _ _ (isV _), AwS _ _ (isV _), AwS _ _ (isV _), AwS _ _ (isV _), AwS _ _ (isV _), AwS _ _ (isV _), AwS _ _ (isV _), AwS _ _ (isV _), AwS _ _ (isV _), AwS _ _ (isV _), AwS _ _ (isV _), AwS _ _ (isV _), AwS _ _ (isV _), AwS _ _ (isV _), AwS _ _ (isV _), AwS _ _ (isV _), AwS _ _ (isV _), AwS _ _ (isV _), AwS _ _ (isV _), AwS _ _ (isRow W.heap.size 2 3 _), AwS _ _ (isV _), AwS _ _ (isV _), AwS _ _ (isV _), AwS _ _ (isV _), AwS _ _ (isNew W.heap.size S (oneX S)), AwS _ _ (isRuleN W.heap.size S (zt + (rwl : Int) - 3) (yt + (rwl : Int) - 3) (rq) [ws.getD 0 0, ws.getD 1 0] (oneX S))]) rfl ?_
   refine fin_sV ?_
   refine fin_sV ?_
   refine fin_sV ?_
   refine fin_sV ?_
   refine fin_sV ?_
   refine fin_sV ?_
   refine fin_sV ?_
   refine fin_sV ?_
   refine fin_sV ?_
   refine fin_sV ?_
   refine fin_sV ?_
   refine fin_sV ?_
   refine fin_sV ?_
   refine fin_sV ?_
   refine fin_sV ?_
   refine fin_sV ?_
   refine fin_sV ?_
   refine fin_sV ?_
   refine fin_sV ?_
   refine fin_sV ?_
   refine fin_p ?_; intro _ _
   refine fin_sV ?_
   refine fin_sV ?_
   refine fin_sV ?_
   refine fin_sV ?_
   refine fin_p ?_; intro _ _
   refine fin_p ?_; rintro vR hR9; have hcovC := @hcov8; obtain ⟨aR, cR, fR, rfl, hwR, hxR⟩ := hR9.here
   refine fin_nil ?_
   have HR : Held w0 (_ ++ Kk) (fun W2 => RHeld w0.heap.size S W2 ⟨num, false, zt + (rwl : Int) - 3, yt + (rwl : Int) - 3, rq, aR, cR, [ws.getD 0 0, ws.getD 1 0], fR, oneX S⟩) := fun h2 hk => (RHeld.agree (r := ⟨num, false, zt + (rwl : Int) - 3, yt + (rwl : Int) - 3, rq, aR, cR, [ws.getD 0 0, ws.getD 1 0], fR, oneX S⟩) ⟨hwR, hxR⟩ (sameX_agree9 (hcovC h2 (fun q hq => hk q (List.mem_append_left _ hq))) (fun b h1 hx => by have h3 := xb_lt9 hS7 hx; omega))).mono hszN
   refine op_callX (vs := [_, _, _, _]) goes_73 rfl (shPut_is sf f0 sq (zt + ((rwl - 2 : Nat) : Int)) (yt + ((rwl - 2 : Nat) : Int)) u1 u2 u3 (n + ns.length) (xs1 ++ ns.flatMap ten9) (xs2 ++ ns.map (fun r => Value.int .i64 r.num)) (xs3 ++ ns.map (fun r => Value.bool r.first)) B _ _ w0 num false (zt + (rwl : Int) - 3) (yt + (rwl : Int) - 3) (rq) aR ([ws.getD 0 0, ws.getD 1 0]).length cR fR _ (hS.perm (List.Perm.swap _ _ _)) (by omega)) rfl ?_
   rintro e W9 ⟨w1, w2, w3, rfl, hS9⟩
   refine ⟨_, rfl, ?_⟩
   clear hS; have hS := hS9.perm (List.Perm.swap _ _ _); clear hS9
   refine endF ?_
   refine XF.resN (res0 Try.results43) ?_
   refine ⟨w1, w2, w3, _, ns ++ [⟨num, false, zt + (rwl : Int) - 3, yt + (rwl : Int) - 3, rq, aR, cR, [ws.getD 0 0, ws.getD 1 0], fR, oneX S⟩], rfl, ?_, fun q hq => List.mem_append_right _ (hsub q hq), fun h2 hk r hr => ?_, hS.tail.castG (by simp [Nat.add_assoc])⟩
   ·rw [List.map_append, hns]
    unfold partsF
    rw [if_neg (by omega), ← hlen]
    simp only [List.map_cons, List.map_nil, List.cons_append]
    rw [show zt + ((ws.length - 3 : Nat) : Int) = zt + (ws.length : Int) - 3 by omega, show yt + ((ws.length - 3 : Nat) : Int) = yt + (ws.length : Int) - 3 by omega]
   ·rcases List.mem_append.1 hr with hr | hr
    ·exact HN h2 (fun q hq => hk q (List.mem_append_right _ hq)) r hr
    ·simp at hr; subst hr; exact HR h2 hk
end Go.Proofs.Ytnhnedifekejpaa
namespace Go.Proofs.Ytnhnedifekejpaa
open Go Go.RowKit
abbrev z8 : List Value := [.int .i64 0, .int .i64 0, .slice none 0 0, .int .i64 0, .int .i64 0, .slice none 0 0, .slice none 0 0, .slice none 0 0]
def tooMany (p : PV) : Bool := decide (4096 < p.st + (moreF p.rs : Int)) || (decide (4096 < p.sy + (moreF p.rs : Int)) || decide (16384 < (p.rl : Int) + (moreF p.rs : Int)))
def SpFar (lo : Nat) (S : PS) (s2 : SF) (W : World) : Prop := ∀ W3, Agree lo W W3 → SIs W3 S s2
structure ShortOk (p : PV) (S : PS) (px : RV → PX) (w w' : World) (s2 : SF) (v1 v2 v3 : Value) (ns : List R9) : Prop where
 pds : PdsOk w S px p
 few : tooMany p = false
 pl : ns.map R9.pl = shortF (oneX S) px p.rs 0 p.st p.sy
 space : SpFar w.heap.size S s2 w'
 rules : ∀ r ∈ ns, RHeld w.heap.size S w' r
 r1 : w'.ownsRow w.heap.size 56 10 v1 ns.length (ns.flatMap ten9)
 r2 : w'.ownsRow w.heap.size 3 1 v2 ns.length (ns.map (fun r => Value.int .i64 r.num))
 r3 : w'.ownsRow w.heap.size 4 1 v3 ns.length (ns.map (fun r => Value.bool r.first))
abbrev shortV (p : PV) (s2 : SF) (v1 v2 v3 : Value) : List Value := [.int .i64 s2.tag, .int .i64 s2.dim, .slice s2.a s2.len s2.cap, .int .i64 (p.st + (moreF p.rs : Int)), .int .i64 (p.sy + (moreF p.rs : Int)), v1, v2, v3]
def ShortRet (p : PV) (w : World) (e : Ending) (w' : World) : Prop := Below w.heap.size w w' ∧ ((pdsE p ≠ 0 ∧ e = .returned (.tuple #[.agg z8.toArray, .int .i64 (pdsE p)])) ∨ (pdsE p = 0 ∧ tooMany p = true ∧ e = .returned (.tuple #[.agg z8.toArray, .int .i64 3])) ∨ (pdsE p = 0 ∧ ∃ S px s2 v1 v2 v3 ns, ShortOk p S px w w' s2 v1 v2 v3 ns ∧ e = .returned (.tuple #[.agg (shortV p s2 v1 v2 v3).toArray, .int .i64 0])))
theorem shortRet_bad {p : PV} {w w' : World} (h : pdsE p ≠ 0) (hb : Below w.heap.size w w') : ShortRet p w (.returned (.tuple #[.agg z8.toArray, .int .i64 (pdsE p)])) w' := ⟨hb, .inl ⟨h, rfl⟩⟩
theorem shortRet_many {p : PV} {w w' : World} (h : pdsE p = 0) (h2 : tooMany p = true) (hb : Below w.heap.size w w') : ShortRet p w (.returned (.tuple #[.agg z8.toArray, .int .i64 3])) w' := ⟨hb, .inr (.inl ⟨h, h2, rfl⟩)⟩
theorem shortRet_ok {p : PV} {S : PS} {px : RV → PX} {w w' : World} {s2 : SF} {v1 v2 v3 : Value} {ns : List R9} (h : ShortOk p S px w w' s2 v1 v2 v3 ns) (hb : Below w.heap.size w w') : ShortRet p w (.returned (.tuple #[.agg (shortV p s2 v1 v2 v3).toArray, .int .i64 0])) w' := ⟨hb, .inr (.inr ⟨h.pds.chk, S, px, s2, v1, v2, v3, ns, h, rfl⟩)⟩
def isSpN (lo : Nat) (S : PS) : Asr := fun v w => ∃ s2 : SF, v = s2.val ∧ ∀ W2, Agree lo w W2 → SIs W2 S s2
theorem copySp_is (S : PS) (sf : SF) (w : World) (hs : SIs w S sf) {lo : Nat} (hlo : lo ≤ w.heap.size) : Calls Try.prog 42 #[sf.val] w (GivesN (isSpN lo S) w) := by
 cases S with
 | one t n =>
  obtain ⟨a, c, rfl⟩ := hs
  refine (copySpace1 t n a c w).mono fun e w' ⟨he, hb⟩ => ⟨_, he, fun w3 hg => ⟨⟨t, n, none, 0, 0⟩, rfl, fun W2 h2 => ⟨none, 0, rfl⟩⟩, hb⟩
 | two t n u m =>
  obtain ⟨b, off, c, a1, c1, a2, c2, rfl, h1, h2⟩ := hs
  refine (copySpace2 5 0 (some ⟨b, off, none⟩) 2 c [⟨t, n, a1, 0, c1⟩, ⟨u, m, a2, 0, c2⟩] w (fun i q hq => ?_) rfl (fun q hq => ?_) (Nat.le_refl _)).mono ?_
  ·match i, hq with
   | 0, hq => cases hq; exact ⟨b, off, rfl, by rw [Nat.zero_mul, Nat.add_zero]; exact h1⟩
   | 1, hq => cases hq; exact ⟨b, off, rfl, by rw [Nat.one_mul]; exact h2⟩
   | i + 2, hq => simp at hq
  ·simp at hq; rcases hq with rfl | rfl <;> rfl
  ·rintro e w' ⟨v, he, hr, hb⟩
   refine ⟨_, he, fun w3 hg => ?_, hb⟩
   obtain ⟨b9, c9, rfl, _⟩ := ownsRow_at hr (by omega)
   refine ⟨⟨5, 0, some ⟨b9, 0, none⟩, 2, c9⟩, rfl, fun W2 h3 => ?_⟩
   have h4 := ownsRow_agree (ownsRow_base (ownsRow_agree hr hg) hlo) h3
   have hc : ∀ (j : Nat) x, ([SF.mk t n a1 0 c1, ⟨u, m, a2, 0, c2⟩].flatMap bare3)[j]? = some x → W2.cell? ⟨b9, j, none⟩ = some x := fun j x hj => ownsRow_blk h4 hj
   exact ⟨b9, 0, c9, none, 0, none, 0, rfl, ⟨hc 0 _ rfl, hc 1 _ rfl, hc 2 _ rfl⟩, ⟨hc 3 _ rfl, hc 4 _ rfl, hc 5 _ rfl⟩⟩
theorem moreF_bound {p : PV} {w : World} {S : PS} {px : RV → PX} (h : PdsOk w S px p) (hl : p.rs.length = p.rl) : moreF p.rs ≤ 67108864 := by
 have h1 := moreF_le (rs := p.rs) (m := 4096) h.w4
 have h2 := h.rl
 have h3 : p.rs.length * 4096 ≤ 16384 * 4096 := Nat.mul_le_mul_right _ (by omega)
 omega
theorem tooMany_of {p : PV} (h : 4096 < p.st + (moreF p.rs : Int) ∨ 4096 < p.sy + (moreF p.rs : Int) ∨ 16384 < (p.rl : Int) + (moreF p.rs : Int)) : tooMany p = true := by
 unfold tooMany
 simp only [Bool.or_eq_true, decide_eq_true_eq]; omega
theorem tooMany_no {p : PV} (h1 : ¬ 4096 < p.st + (moreF p.rs : Int)) (h2 : ¬ 4096 < p.sy + (moreF p.rs : Int)) (h3 : ¬ 16384 < (p.rl : Int) + (moreF p.rs : Int)) : tooMany p = false := by
 unfold tooMany
 simp only [Bool.or_eq_false_iff, decide_eq_false_iff_not]; omega
theorem shortF_len {one : PX} {px : RV → PX} : ∀ {rs : List RV} {i : Nat} {z y : Int}, (∀ r ∈ rs, r.ws.length = r.wl) → (shortF one px rs i z y).length = rs.length + moreF rs
 | [], _, _, _, _ => rfl
 | r :: rs, i, z, y, h => by
  simp only [shortF, List.length_append, List.length_cons, partsF_len, moreF_cons]
  rw [shortF_len (fun x hx => h x (List.mem_cons_of_mem _ hx)), h r List.mem_cons_self]
  omega
end Go.Proofs.Ytnhnedifekejpaa
namespace Go.Proofs.Ytnhnedifekejpaa
open Go Go.RowKit
theorem bld_101_0 (v00 : Value) (v01 : Value) (v02 : Value) (v03 : Value) (v04 : Value) (v05 : Value) (v06 : Value) (v07 : Value) (v08 : Value) : Try.prog.built 101 [(0, .agg #[v00, v01, v02, v03, v04, v05, v06, v07, v08])] = some #[v00, v01, v02, v03, v04, v05, v06, v07, v08, .int .i64 0, .int .i64 0, .slice none 0 0, .int .i64 0, .int .i64 0, .slice none 0 0, .slice none 0 0, .slice none 0 0] := by kernel_rfl
theorem bld_28_0_1_2 (v00 : Value) (v01 : Value) (v02 : Value) (v1 : Int) (v2 : Int) : Try.prog.built 28 [(0, .agg #[v00, v01, v02]), (1, .int .i64 v1), (2, .int .i64 v2)] = some #[v00, v01, v02, .int .i64 v1, .int .i64 v2, .slice none 0 0] := by kernel_rfl
theorem bld_40 : Try.prog.built 40 [] = some #[.int .i64 0, .int .i64 0, .slice none 0 0, .int .i64 0, .int .i64 0, .slice none 0 0, .slice none 0 0, .slice none 0 0] := by kernel_rfl
theorem goes_43 : goesIn Try.prog 43 = true := by kernel_rfl
theorem shortA_c (ds d : Nat) (s : SV) (st sy : Int) (ra : Option Addr) (rl rc : Nat) (rs : List RV) (w : World) (hs : SIn w ds s) (hprow : RRow w ra rs) (hplen : rs.length = rl) (hin : ∀ r ∈ rs, RIn w d r) (ht : Tabs w) :
  Calls Try.prog 13 #[.agg #[.int .i64 s.f.tag, .int .i64 s.f.dim, .slice s.f.a s.f.len s.f.cap, .int .i64 st, .int .i64 sy, .slice ra rl rc]] w (ShortRet ⟨s, st, sy, ra, rl, rc, rs⟩ w) := by
 refine enterF (args := [.agg #[.int .i64 s.f.tag, .int .i64 s.f.dim, .slice s.f.a s.f.len s.f.cap, .int .i64 st, .int .i64 sy, .slice ra rl rc]]) Try.func13 rfl Try.ntmps13 rfl ?_
 have hS := St.start w
 refine seqF (regF ?_)
 refine op_box (cs := [_, _, _, _, _, _]) hS rfl rfl rfl ?_
 clear hS; intro B1 W1 hS
 refine op_alloc (cs := [_, _, _, _, _, _, _, _]) hS Try.zeroValue40 rfl rfl ?_
 clear hS; intro B2 W2 hS
 refine op_assign rfl rfl ?_
 refine endF (XF.thenN ?_)
 refine seqF ?_
 refine seqF (regF ?_)
 refine op_loadA (vs := [_, _, _, _, _, _]) Try.isAgg28 Try.sizeOf28 rfl (CellsAt.own (j := 0) (m := 6) (hS.at_ 1 rfl) rfl) rfl ?_
 refine op_call (vs := [_]) hS goes_36 rfl (pdsA_is ds d ⟨s, st, sy, ra, rl, rc, rs⟩ _ (PvIn.below ⟨hs, hprow, hplen, hin⟩ hS.below)) rfl ?_
 rintro e W3 ⟨rfl, hb⟩
 refine ⟨_, rfl, hb, fun hS' => ?_⟩
 clear hS; have hS := hS'; clear hS' hb
 refine op_assign rfl rfl ?_
 refine endF (XF.thenN ?_)
 refine seqF (regF ?_)
 refine op_move rfl rfl ?_
 refine op_neq rfl rfl rfl ?_
 refine endF (XF.thenN ?_)
 refine condF rfl (fun hc => ?_) (fun hc => ?_)
 ·have hc14 := of_decide_eq_true hc; clear hc
  refine seqF (regF ?_)
  refine op_build (us := []) rfl (bld_40) rfl ?_
  refine op_move rfl rfl ?_
  refine op_storeA (i := 0) (vs := [_, _, _, _, _, _, _, _]) (cs' := [_, _, _, _, _, _, _, _]) (O' := [_, _]) hS Try.sizeOf40 rfl rfl (by first | rfl | (have h0 := hS.oneV 0 _ rfl; have h1 := hS.oneV 1 _ rfl; have h2 := hS.oneV 2 _ rfl; simp only [List.all_cons, List.all_nil, Bool.and_true, Bool.and_eq_true]; exact ⟨rfl, rfl, rfl, rfl, rfl, h0, h1, h2⟩)) rfl rfl rfl rfl ?_
  clear hS; intro W4 hS
  refine op_assign rfl rfl ?_
  refine endF (XF.thenN ?_)
  refine retF ?_
  refine XF.thenR ?_
  refine XF.res (resCT (vs := [_, _, _, _, _, _, _, _]) Try.results13 Try.isAgg40 Try.sizeOf40 rfl (CellsAt.own (j := 0) (m := 8) (hS.at_ 0 rfl) rfl) rfl) ?_
  exact shortRet_bad hc14 hS.below
 ·have hc14 := of_decide_eq_false hc; clear hc
  have hE : pdsE ⟨s, st, sy, ra, rl, rc, rs⟩ = 0 := Decidable.of_not_not hc14
  obtain ⟨S, px, hok⟩ := pdsOk_of (ds := ds) (d := d) (p := ⟨s, st, sy, ra, rl, rc, rs⟩) ⟨hs, hprow, hplen, hin⟩ hE
  have hmo := moreF_bound hok hplen
  have hrl : rl ≤ 16384 := hok.rl
  have hst : 0 ≤ st ∧ st ≤ 4096 := hok.st
  have hsy : 0 ≤ sy ∧ sy ≤ 4096 := hok.sy
  have hmo : moreF rs ≤ 67108864 := hmo
  refine skipF ?_
  refine XF.thenN ?_
  refine seqF (regF ?_)
  refine op_assign rfl rfl ?_
  refine endF (XF.thenN ?_)
  refine seqF ?_
  refine seqF (regF ?_)
  refine op_field (o' := 5) fa_28_3 rfl rfl rfl ?_
  refine op_load Try.isAgg26 rfl (cell_own (hS.at_ 1 rfl) rfl) rfl ?_
  refine op_len Try.underlying26 rfl rfl ?_
  refine op_move rfl rfl ?_
  refine endF (XF.thenN ?_)
  refine blockF ?_
  refine loopF (fun m l W => ∃ i : Nat, i ≤ rl ∧ m = rl - i ∧ l = [(1, .pointer (some ⟨B1, 0, none⟩)), (2, .pointer (some ⟨B2, 0, none⟩)), (3, .int .i64 0), (5, .int .i64 (moreF (rs.take i) : Int)), (18, .slice ra rl rc), (19, .int .i64 (rl : Int)), (20, .int .i64 (i : Int))] ∧ St w [(B2, z8, 40), (B1, [.int .i64 s.f.tag, .int .i64 s.f.dim, .slice s.f.a s.f.len s.f.cap, .int .i64 st, .int .i64 sy, .slice ra rl rc], 28)] [] [] W) (rl - 0) ([(1, _), (2, _), (3, _), (5, _), (18, _), (19, _), (20, _)]) ⟨rfl, rfl, rfl, rfl, rfl, rfl, rfl, trivial⟩ (⟨0, Nat.zero_le _, rfl, rfl, hS.clear⟩) ?_
  clear hS
  rintro m l W ⟨i, hi, rfl, rfl, hS⟩
  refine seqF (regF ?_)
  refine op_lss rfl rfl rfl ?_
  refine endF (XF.thenN ?_)
  refine seqF ?_
  refine condF rfl (fun hc => ?_) (fun hc => ?_)
  ·have hc21 := of_decide_eq_true hc; clear hc
   have hk : i < rl := by omega
   obtain ⟨r, hr⟩ : ∃ r, rs[i]? = some r := ⟨rs[i]'(by omega), by simp [show i < rs.length by omega]⟩
   obtain ⟨b, off, rfl, hcs⟩ := hprow.at_ hr
   have k1 := CellsAt.agree hS.agree (Nat.zero_le _) hcs
   have hri := hin r (List.mem_of_getElem? hr)
   have hr4 : r.wl ≤ 4096 := hok.w4 r (List.mem_of_getElem? hr)
   have hmt := moreF_take_le (rs := rs) (i := i)
   refine skipF ?_
   refine XF.thenN ?_
   refine seqF ?_
   refine blockF ?_
   refine seqF (regF ?_)
   refine op_indexA  Try.underlying26 Try.sizeOf56 rfl rfl rfl (by omega) rfl rfl ?_
   refine op_loadA (vs := [_, _, _, _, _, _, _, _, _, _]) Try.isAgg56 Try.sizeOf56 rfl (k1) rfl ?_
   refine op_alloc (cs := [_, _, _, _, _, _, _, _, _, _]) hS Try.zeroValue56 rfl rfl ?_
   clear hS; intro B5 W5 hS
   refine op_storeA (i := 0) (vs := [_, _, _, _, _, _, _, _, _, _]) (cs' := [_, _, _, _, _, _, _, _, _, _]) (O' := [_, _, _]) hS Try.sizeOf56 rfl rfl (by first | rfl | (have h0 := hS.oneV 0 _ rfl; have h1 := hS.oneV 1 _ rfl; have h2 := hS.oneV 2 _ rfl; simp only [List.all_cons, List.all_nil, Bool.and_true, Bool.and_eq_true]; exact ⟨rfl, rfl, rfl, rfl, rfl, h0, h1, h2⟩)) rfl rfl rfl rfl ?_
   clear hS; intro W6 hS
   refine endF (XF.thenN ?_)
   refine regF ?_
   refine op_move rfl rfl ?_
   refine op_field (o' := 3) fa_56_3 rfl rfl rfl ?_
   refine op_load Try.isAgg30 rfl (cell_own (hS.at_ 0 rfl) rfl) rfl ?_
   refine op_len Try.underlying30 rfl rfl ?_
   refine op_sub rfl rfl (IntWalk.i64_in _ (by omega)) rfl ?_
   refine op_max rfl rfl rfl ?_
   refine op_add rfl rfl (IntWalk.i64_in _ (by omega)) rfl ?_
   refine op_assign rfl rfl ?_
   refine endF ?_
   refine XF.blkN ?_
   refine XF.thenN ?_
   refine regF ?_
   refine op_add rfl rfl (IntWalk.i64_in _ (by omega)) rfl ?_
   refine op_move rfl rfl ?_
   refine endF ?_
   have e9 : (moreF (rs.take i) : Int) + max ((r.wl : Int) - 2) 0 = (moreF (rs.take (i + 1)) : Int) := by rw [moreF_take hr]; omega
   exact XF.round (rl - (i + 1)) [(1, _), (2, _), (3, _), (5, _), (18, _), (19, _), (20, _)] (by omega) ⟨rfl, rfl, rfl, rfl, rfl, rfl, rfl, trivial⟩ ⟨i + 1, by omega, rfl, by rw [← e9]; rfl, hS.tail⟩
  ·have hc21 := of_decide_eq_false hc; clear hc
   rw [List.take_of_length_le (by omega)]
   refine exitF ?_
   refine XF.thenX ?_
   refine XF.thenX ?_
   refine XF.blkX ?_
   refine XF.thenN ?_
   refine seqF ?_
   refine seqF (regF ?_)
   refine op_field (o' := 3) fa_28_1 rfl rfl rfl ?_
   refine op_load Try.isAgg3 rfl (cell_own (hS.at_ 1 rfl) rfl) rfl ?_
   refine op_move rfl rfl ?_
   refine op_add rfl rfl (IntWalk.i64_in _ (by omega)) rfl ?_
   refine op_gtr rfl rfl rfl ?_
   refine op_move rfl rfl ?_
   refine op_cases (d := 37) rfl (fun hc => ?_) (fun hc => ?_)
   ·have hg37 := of_decide_eq_true hc; clear hc
    refine op_notF (d := 37) rfl rfl rfl rfl ?_
    refine op_notF (d := 37) rfl rfl rfl rfl ?_
    refine op_notF (d := 37) rfl rfl rfl rfl ?_
    refine op_notF (d := 37) rfl rfl rfl rfl ?_
    refine op_notF (d := 37) rfl rfl rfl rfl ?_
    refine op_pickT rfl rfl rfl ?_
    refine op_move rfl rfl ?_
    refine op_notF (d := 44) rfl rfl rfl rfl ?_
    refine op_notF (d := 44) rfl rfl rfl rfl ?_
    refine op_notF (d := 44) rfl rfl rfl rfl ?_
    refine op_notF (d := 44) rfl rfl rfl rfl ?_
    refine op_notF (d := 44) rfl rfl rfl rfl ?_
    refine op_notF (d := 44) rfl rfl rfl rfl ?_
    refine op_pickT rfl rfl rfl ?_
    refine endF (XF.thenN ?_)
    refine condT rfl ?_
    refine seqF (regF ?_)
    refine op_build (us := []) rfl (bld_40) rfl ?_
    refine op_storeA (i := 0) (vs := [_, _, _, _, _, _, _, _]) (cs' := [_, _, _, _, _, _, _, _]) (O' := [_, _]) hS Try.sizeOf40 rfl rfl (by first | rfl | (have h0 := hS.oneV 0 _ rfl; have h1 := hS.oneV 1 _ rfl; have h2 := hS.oneV 2 _ rfl; simp only [List.all_cons, List.all_nil, Bool.and_true, Bool.and_eq_true]; exact ⟨rfl, rfl, rfl, rfl, rfl, h0, h1, h2⟩)) rfl rfl rfl rfl ?_
    clear hS; intro W7 hS
    refine op_assign rfl rfl ?_
    refine endF (XF.thenN ?_)
    refine retF ?_
    refine XF.thenR ?_
    refine XF.res (resCT (vs := [_, _, _, _, _, _, _, _]) Try.results13 Try.isAgg40 Try.sizeOf40 rfl (CellsAt.own (j := 0) (m := 8) (hS.at_ 0 rfl) rfl) rfl) ?_
    exact shortRet_many hE (tooMany_of (p := ⟨s, st, sy, ra, rl, rc, rs⟩) (by dsimp only; omega)) hS.below
   ·have hg37 := of_decide_eq_false hc; clear hc
    refine op_wantedF (d := 37) rfl rfl ?_
    refine op_field (o' := 4) fa_28_2 rfl rfl rfl ?_
    refine op_wantedF (d := 37) rfl rfl ?_
    refine op_load Try.isAgg3 rfl (cell_own (hS.at_ 1 rfl) rfl) rfl ?_
    refine op_wantedF (d := 37) rfl rfl ?_
    refine op_move rfl rfl ?_
    refine op_wantedF (d := 37) rfl rfl ?_
    refine op_add rfl rfl (IntWalk.i64_in _ (by omega)) rfl ?_
    refine op_wantedF (d := 37) rfl rfl ?_
    refine op_gtr rfl rfl rfl ?_
    refine op_pickF rfl rfl rfl ?_
    refine op_move rfl rfl ?_
    refine op_cases (d := 44) rfl (fun hc => ?_) (fun hc => ?_)
    ·have hg44 := of_decide_eq_true hc; clear hc
     refine op_notF (d := 44) rfl rfl rfl rfl ?_
     refine op_notF (d := 44) rfl rfl rfl rfl ?_
     refine op_notF (d := 44) rfl rfl rfl rfl ?_
     refine op_notF (d := 44) rfl rfl rfl rfl ?_
     refine op_notF (d := 44) rfl rfl rfl rfl ?_
     refine op_notF (d := 44) rfl rfl rfl rfl ?_
     refine op_pickT rfl rfl rfl ?_
     refine endF (XF.thenN ?_)
     refine condT rfl ?_
     refine seqF (regF ?_)
     refine op_build (us := []) rfl (bld_40) rfl ?_
     refine op_storeA (i := 0) (vs := [_, _, _, _, _, _, _, _]) (cs' := [_, _, _, _, _, _, _, _]) (O' := [_, _]) hS Try.sizeOf40 rfl rfl (by first | rfl | (have h0 := hS.oneV 0 _ rfl; have h1 := hS.oneV 1 _ rfl; have h2 := hS.oneV 2 _ rfl; simp only [List.all_cons, List.all_nil, Bool.and_true, Bool.and_eq_true]; exact ⟨rfl, rfl, rfl, rfl, rfl, h0, h1, h2⟩)) rfl rfl rfl rfl ?_
     clear hS; intro W8 hS
     refine op_assign rfl rfl ?_
     refine endF (XF.thenN ?_)
     refine retF ?_
     refine XF.thenR ?_
     refine XF.res (resCT (vs := [_, _, _, _, _, _, _, _]) Try.results13 Try.isAgg40 Try.sizeOf40 rfl (CellsAt.own (j := 0) (m := 8) (hS.at_ 0 rfl) rfl) rfl) ?_
     exact shortRet_many hE (tooMany_of (p := ⟨s, st, sy, ra, rl, rc, rs⟩) (by dsimp only; omega)) hS.below
    ·have hg44 := of_decide_eq_false hc; clear hc
     refine op_wantedF (d := 44) rfl rfl ?_
     refine op_field (o' := 5) fa_28_3 rfl rfl rfl ?_
     refine op_wantedF (d := 44) rfl rfl ?_
     refine op_load Try.isAgg26 rfl (cell_own (hS.at_ 1 rfl) rfl) rfl ?_
     refine op_wantedF (d := 44) rfl rfl ?_
     refine op_len Try.underlying26 rfl rfl ?_
     refine op_wantedF (d := 44) rfl rfl ?_
     refine op_move rfl rfl ?_
     refine op_wantedF (d := 44) rfl rfl ?_
     refine op_add rfl rfl (IntWalk.i64_in _ (by omega)) rfl ?_
     refine op_wantedF (d := 44) rfl rfl ?_
     refine op_gtr rfl rfl rfl ?_
     refine op_pickF rfl rfl rfl ?_
     refine endF (XF.thenN ?_)
     refine condF rfl (fun hc => ?_) (fun hc => ?_)
     ·have hc51 := of_decide_eq_true hc; clear hc
      refine seqF (regF ?_)
      refine op_build (us := []) rfl (bld_40) rfl ?_
      refine op_storeA (i := 0) (vs := [_, _, _, _, _, _, _, _]) (cs' := [_, _, _, _, _, _, _, _]) (O' := [_, _]) hS Try.sizeOf40 rfl rfl (by first | rfl | (have h0 := hS.oneV 0 _ rfl; have h1 := hS.oneV 1 _ rfl; have h2 := hS.oneV 2 _ rfl; simp only [List.all_cons, List.all_nil, Bool.and_true, Bool.and_eq_true]; exact ⟨rfl, rfl, rfl, rfl, rfl, h0, h1, h2⟩)) rfl rfl rfl rfl ?_
      clear hS; intro W9 hS
      refine op_assign rfl rfl ?_
      refine endF (XF.thenN ?_)
      refine retF ?_
      refine XF.thenR ?_
      refine XF.res (resCT (vs := [_, _, _, _, _, _, _, _]) Try.results13 Try.isAgg40 Try.sizeOf40 rfl (CellsAt.own (j := 0) (m := 8) (hS.at_ 0 rfl) rfl) rfl) ?_
      exact shortRet_many hE (tooMany_of (p := ⟨s, st, sy, ra, rl, rc, rs⟩) (by dsimp only; omega)) hS.below
     ·have hc51 := of_decide_eq_false hc; clear hc
      have hfew : tooMany ⟨s, st, sy, ra, rl, rc, rs⟩ = false := tooMany_no (by dsimp only; omega) (by dsimp only; omega) (by dsimp only; omega)
      refine skipF ?_
      refine XF.thenN ?_
      refine seqF (regF ?_)
      refine op_field (o' := 0) fa_28_0 rfl rfl rfl ?_
      refine op_loadA (vs := [_, _, _]) Try.isAgg25 Try.sizeOf25 rfl (CellsAt.own (j := 0) (m := 3) (hS.at_ 1 rfl) rfl) rfl ?_
      refine op_call (vs := [_]) hS goes_41 rfl (ringOf_is S s.f _ (hok.si.below hS.below) hok.ok) rfl ?_
      rintro e W10 ⟨f0, rfl, _, hb⟩
      refine ⟨_, rfl, hb, fun hS' => ?_⟩
      clear hS; have hS := hS'; clear hS' hb
      refine op_build (us := [(0, .agg (List.toArray [_, _, _, _, _, _, _, _, _]))]) rfl (bld_101_0 _ _ _ _ _ _ _ _ _) rfl ?_
      refine op_alloc (cs := [_, _, _, _, _, _, _, _, _, _, _, _, _, _, _, _, _]) hS Try.zeroValue101 rfl rfl ?_
      clear hS; intro B11 W11 hS
      refine op_storeA (i := 0) (vs := [_, _, _, _, _, _, _, _, _, _, _, _, _, _, _, _, _]) (cs' := [_, _, _, _, _, _, _, _, _, _, _, _, _, _, _, _, _]) (O' := [_, _, _]) hS Try.sizeOf101 rfl rfl (by first | rfl | (have h0 := hS.oneV 0 _ rfl; have h1 := hS.oneV 1 _ rfl; have h2 := hS.oneV 2 _ rfl; simp only [List.all_cons, List.all_nil, Bool.and_true, Bool.and_eq_true]; exact ⟨rfl, rfl, rfl, rfl, rfl, h0, h1, h2⟩)) rfl rfl rfl rfl ?_
      clear hS; intro W12 hS
      refine endF (XF.thenN ?_)
      refine seqF ?_
      have hS7 := hS
      have hszN := hS.below.size
      refine regY (al := []) (G := fun _ => []) (E := []) (k := 7) (ds := [64, 65, 66]) followsM rfl hS rfl rfl (by kernel_rfl) (by kernel_rfl) rfl (by decide) rfl ?_
      refine bly_cons 1 rfl (isV _) (syV fst_take [(1, _)] rfl rfl (fun _ => (w_free rfl)) (fun _ => ⟨g_fr (by kernel_rfl) rfl, trivial⟩) (fun s w hw => rn_field (o' := 0) fa_28_0 rfl rfl) (at_top rfl)) ?_
      refine bly_cons 2 rfl (isV _) (syV fst_take [(57, _)] rfl rfl (fun _ => (w_free rfl)) (fun _ => ⟨g_dep 0 (by kernel_rfl) (at_n rfl rfl (at_dep rfl rfl rfl)), trivial⟩) (fun s w hw => rn_loadA (vs := [_, _, _]) Try.isAgg25 Try.sizeOf25 rfl ((CellsAt.own (j := 0) (m := 3) (hw.at_ 2 rfl) rfl))) (at_top rfl)) ?_
      refine bly_cons 3 rfl (isSpN W12.heap.size S) (sy_call fst_take (fun s => [isV _]) rfl rfl goes_42 (fun _ => w_free rfl) (fun s => ⟨p_tmp (g_dep 1 (by kernel_rfl) (at_n rfl rfl (at_dep rfl rfl rfl))), trivial⟩) (fun vs s0 w' hk hw hlo hh => by have e := holds_isV (us := [_]) hh; subst e; exact copySp_is S s.f w' (hok.si.below hw.below) hlo) (at_top rfl)) ?_
      refine bly_cons 4 rfl (isV _) (syV fst_take [(1, _)] rfl rfl (fun _ => (w_free rfl)) (fun _ => ⟨g_fr (by kernel_rfl) rfl, trivial⟩) (fun s w hw => rn_field (o' := 3) fa_28_1 rfl rfl) (at_top rfl)) ?_
      refine bly_cons 5 rfl (isV _) (syV fst_take [(60, _)] rfl rfl (fun _ => (w_free rfl)) (fun _ => ⟨g_dep 3 (by kernel_rfl) (at_n rfl rfl (at_dep rfl rfl rfl)), trivial⟩) (fun s w hw => rn_load Try.isAgg3 rfl ((cell_own (hw.at_ 2 rfl) rfl))) (at_top rfl)) ?_
      refine bly_cons 6 rfl (isV _) (syV fst_take [(1, _)] rfl rfl (fun _ => (w_free rfl)) (fun _ => ⟨g_fr (by kernel_rfl) rfl, trivial⟩) (fun s w hw => rn_field (o' := 4) fa_28_2 rfl rfl) (at_top rfl)) ?_
      refine bly_cons 7 rfl (isV _) (syV fst_take [(62, _)] rfl rfl (fun _ => (w_free rfl)) (fun _ => ⟨g_dep 5 (by kernel_rfl) (at_n rfl rfl (at_dep rfl rfl rfl)), trivial⟩) (fun s w hw => rn_load Try.isAgg3 rfl ((cell_own (hw.at_ 2 rfl) rfl))) (at_top rfl)) ?_
      refine bly_nil ?_
      intro s13 W13 Ks13 hall13 hsz13 hKs13 hS' hcov13 hfx13 hno13
      clear hS; have hS := hS'.castO (O' := [_, _, _]) rfl; clear hS'
      refine castL (L' := [AwS _ _ (isV _), AwS _ _ (isV _), AwS _ _ (isSpN W12.heap.size S), AwS _ _ (isV _), AwS _ _ (isV _), AwS _ _ (isV _), AwS _ _ (isV _)]) rfl ?_
      refine fin_sV ?_
      refine fin_sV ?_
      refine fin_p ?_; rintro vC h59; have hcovS := @hcov13; obtain ⟨sq, rfl, hs2⟩ := h59.here
      refine fin_sV ?_
      refine fin_sV ?_
      refine fin_sV ?_
      refine fin_sV ?_
      refine fin_nil ?_
      refine op_build (us := [(0, .agg (List.toArray [_, _, _])), (1, .int .i64 _), (2, .int .i64 _)]) rfl (bld_28_0_1_2 _ _ _ _ _) rfl ?_
      refine op_field (o' := 9) fa_101_1 rfl rfl rfl ?_
      refine op_field (o' := 9) fa_40_0 rfl rfl rfl ?_
      refine op_storeA (i := 0) (vs := [_, _, _, _, _, _]) (cs' := [_, _, _, _, _, _, _, _, _, _, _, _, _, _, _, _, _]) (O' := [_, _, _]) hS Try.sizeOf28 rfl rfl (by first | rfl | (have h0 := hS.oneV 0 _ rfl; have h1 := hS.oneV 1 _ rfl; have h2 := hS.oneV 2 _ rfl; simp only [List.all_cons, List.all_nil, Bool.and_true, Bool.and_eq_true]; exact ⟨rfl, rfl, rfl, rfl, rfl, h0, h1, h2⟩)) rfl rfl rfl rfl ?_
      clear hS; intro W14 hS
      refine endF (XF.thenN ?_)
      refine seqF ?_
      refine seqF ?_
      have HS2 : Held w _ (fun W2 => SpFar w.heap.size S sq W2) := fun h2 hk W3 h3 => hs2 W3 ((sameX_agree9 (hcovS h2 (fun q hq => hk q hq)) (fun b h1 hx => by have h3 := xb_lt9 hS7 hx; omega)).trans (h3.mono hszN))
      have hS := ((hS.newG 4 1).newG 3 1).newG 56 10
      refine regF ?_
      refine op_field (o' := 5) fa_28_3 rfl rfl rfl ?_
      refine op_load Try.isAgg26 rfl (cell_own (hS.at_ 2 rfl) rfl) rfl ?_
      refine op_len Try.underlying26 rfl rfl ?_
      refine op_move rfl rfl ?_
      refine endF (XF.thenN ?_)
      refine blockF ?_
      refine loopF (fun m l W => ∃ (i : Nat) (u1 u2 u3 : Value) (Kk : List (Nat × World)) (ns : List R9), i ≤ rl ∧ m = rl - i ∧ l = [(1, .pointer (some ⟨B1, 0, none⟩)), (2, .pointer (some ⟨B2, 0, none⟩)), (3, .int .i64 0), (8, .pointer (some ⟨B11, 0, none⟩)), (68, .slice ra rl rc), (69, .int .i64 (rl : Int)), (70, .int .i64 (i : Int))] ∧ ns.map R9.pl = shortF (oneX S) px (rs.take i) 0 st sy ∧ Held w Kk (fun W2 => SpFar w.heap.size S sq W2 ∧ ∀ r ∈ ns, RHeld w.heap.size S W2 r) ∧ St w [(B11, shC s.f f0 sq (st + (moreF (rs.take i) : Int)) (sy + (moreF (rs.take i) : Int)) u1 u2 u3, 101), (B2, z8, 40), (B1, [.int .i64 s.f.tag, .int .i64 s.f.dim, .slice s.f.a s.f.len s.f.cap, .int .i64 st, .int .i64 sy, .slice ra rl rc], 28)] [⟨u1, ns.length, ns.flatMap ten9, 56, 10⟩, ⟨u2, ns.length, ns.map (fun r => Value.int .i64 r.num), 3, 1⟩, ⟨u3, ns.length, ns.map (fun r => Value.bool r.first), 4, 1⟩] Kk W) (rl - 0) ([(1, _), (2, _), (3, _), (8, _), (68, _), (69, _), (70, _)]) ⟨rfl, rfl, rfl, rfl, rfl, rfl, rfl, trivial⟩ (⟨0, _, _, _, _, [], Nat.zero_le _, rfl, rfl, rfl, fun h2 hk => ⟨HS2 h2 (fun q hq => hk q (List.mem_append_left _ hq)), fun r hr => by cases hr⟩, hS.castO (by simp [moreF])⟩) ?_
      clear hS
      rintro m l W ⟨i, u1, u2, u3, Kk, ns, hi, rfl, rfl, hns, HN, hS⟩
      refine seqF (regF ?_)
      refine op_lss rfl rfl rfl ?_
      refine endF (XF.thenN ?_)
      refine seqF ?_
      refine condF rfl (fun hc => ?_) (fun hc => ?_)
      ·have hc71 := of_decide_eq_true hc; clear hc
       have hk : i < rl := by omega
       obtain ⟨r, hr⟩ : ∃ r, rs[i]? = some r := ⟨rs[i]'(by omega), by simp [show i < rs.length by omega]⟩
       obtain ⟨b, off, rfl, hcs⟩ := hprow.at_ hr
       have k1 := CellsAt.agree hS.agree (Nat.zero_le _) hcs
       have hri := hin r (List.mem_of_getElem? hr)
       have hr4 : r.wl ≤ 4096 := hok.w4 r (List.mem_of_getElem? hr)
       have hmt := moreF_take_le (rs := rs) (i := i)
       have hnl : ns.length = i + moreF (rs.take i) := by
        have h1 := congrArg List.length hns
        rw [List.length_map, shortF_len (fun x hx => (hin x (List.mem_of_mem_take hx)).len), List.length_take, Nat.min_eq_left (by omega)] at h1
        exact h1
       have hfw : moreF rs ≤ 16384 := by
        have h1 := hfew
        unfold tooMany at h1
        simp only [Bool.or_eq_false_iff, decide_eq_false_iff_not] at h1
        omega
       have hf1 : st + (moreF rs : Int) ≤ 4096 ∧ sy + (moreF rs : Int) ≤ 4096 := by
        have h1 := hfew
        unfold tooMany at h1
        simp only [Bool.or_eq_false_iff, decide_eq_false_iff_not] at h1
        omega
       refine skipF ?_
       refine XF.thenN ?_
       refine seqF ?_
       refine blockF ?_
       refine seqF (regF ?_)
       refine op_move rfl rfl ?_
       refine op_indexA  Try.underlying26 Try.sizeOf56 rfl rfl rfl (by omega) rfl rfl ?_
       refine op_loadA (vs := [_, _, _, _, _, _, _, _, _, _]) Try.isAgg56 Try.sizeOf56 rfl (k1) rfl ?_
       refine op_alloc (cs := [_, _, _, _, _, _, _, _, _, _]) hS Try.zeroValue56 rfl rfl ?_
       clear hS; intro B15 W15 hS
       refine op_assign rfl rfl ?_
       refine op_storeA (i := 0) (vs := [_, _, _, _, _, _, _, _, _, _]) (cs' := [_, _, _, _, _, _, _, _, _, _]) (O' := [_, _, _, _]) hS Try.sizeOf56 rfl rfl (by first | rfl | (have h0 := hS.oneV 0 _ rfl; have h1 := hS.oneV 1 _ rfl; have h2 := hS.oneV 2 _ rfl; simp only [List.all_cons, List.all_nil, Bool.and_true, Bool.and_eq_true]; exact ⟨rfl, rfl, rfl, rfl, rfl, h0, h1, h2⟩)) rfl rfl rfl rfl ?_
       clear hS; intro W16 hS
       refine endF (XF.thenN ?_)
       refine regF ?_
       refine op_move rfl rfl ?_
       refine op_loadA (vs := [_, _, _, _, _, _, _, _, _, _]) Try.isAgg56 Try.sizeOf56 rfl (CellsAt.own (j := 0) (m := 10) (hS.at_ 0 rfl) rfl) rfl ?_
       refine op_callX (vs := [_, _, _]) goes_43 rfl (shParts_is s.f f0 sq (st + (moreF (rs.take i) : Int)) (sy + (moreF (rs.take i) : Int)) u1 u2 u3 ns.length (ns.flatMap ten9) (ns.map (fun r => Value.int .i64 r.num)) (ns.map (fun r => Value.bool r.first)) B11 _ _ w S (px r) (i : Int) r.p r.g r.q r.wa r.wl r.wc r.ws r.x.f _ (hS.perm (List.Perm.swap _ _ _)) (by omega) hok.si hok.ok (hok.x r (List.mem_of_getElem? hr)) hri.row hri.len hr4 (by omega) (by omega) ht) rfl ?_
       rintro e W9 ⟨w1, w2, w3, Kn, ns2, rfl, hpl, hsubn, HNn, hS9⟩
       refine ⟨_, rfl, ?_⟩
       clear hS; have hS := hS9.perm (List.Perm.swap _ _ _); clear hS9
       have ez : st + (moreF (rs.take i) : Int) + ((r.wl - 2 : Nat) : Int) = st + (moreF (rs.take (i + 1)) : Int) := by rw [moreF_take hr]; omega
       have ey : sy + (moreF (rs.take i) : Int) + ((r.wl - 2 : Nat) : Int) = sy + (moreF (rs.take (i + 1)) : Int) := by rw [moreF_take hr]; omega
       rw [ez, ey] at hS
       refine endF ?_
       refine XF.blkN ?_
       refine XF.thenN ?_
       refine regF ?_
       refine op_add rfl rfl (IntWalk.i64_in _ (by omega)) rfl ?_
       refine op_move rfl rfl ?_
       refine endF ?_
       exact XF.round (rl - (i + 1)) [(1, _), (2, _), (3, _), (8, _), (68, _), (69, _), (70, _)] (by omega) ⟨rfl, rfl, rfl, rfl, rfl, rfl, rfl, trivial⟩ ⟨i + 1, w1, w2, w3, Kn, ns ++ ns2, by omega, rfl, rfl, by rw [List.map_append, hns, hpl, shortF_take hr], fun h2 hk => ⟨(HN h2 (fun q hq => hk q (hsubn q hq))).1, fun x hx => by
         rcases List.mem_append.1 hx with hx | hx
         ·exact (HN h2 (fun q hq => hk q (hsubn q hq))).2 x hx
         ·exact HNn h2 hk x hx⟩, hS.tail.castG (by simp)⟩
      ·have hc71 := of_decide_eq_false hc; clear hc
       have hil : i = rl := by omega
       rw [List.take_of_length_le (by omega)] at hS hns
       refine exitF ?_
       refine XF.thenX ?_
       refine XF.thenX ?_
       refine XF.blkX ?_
       refine XF.thenN ?_
       refine seqF (regF ?_)
       refine op_field (o' := 9) fa_101_1 rfl rfl rfl ?_
       refine op_loadA (vs := [_, _, _, _, _, _, _, _]) Try.isAgg40 Try.sizeOf40 rfl (CellsAt.own (j := 9) (m := 8) (hS.at_ 0 rfl) rfl) rfl ?_
       refine op_storeA (i := 1) (vs := [_, _, _, _, _, _, _, _]) (cs' := [_, _, _, _, _, _, _, _]) (O' := [_, _, _]) hS Try.sizeOf40 rfl rfl (by first | rfl | (have h0 := hS.oneV 0 _ rfl; have h1 := hS.oneV 1 _ rfl; have h2 := hS.oneV 2 _ rfl; simp only [List.all_cons, List.all_nil, Bool.and_true, Bool.and_eq_true]; exact ⟨rfl, rfl, rfl, rfl, rfl, h0, h1, h2⟩)) rfl rfl rfl rfl ?_
       clear hS; intro W17 hS
       refine op_assign rfl rfl ?_
       refine endF (XF.thenN ?_)
       refine retF ?_
       refine XF.res (resCT (vs := [_, _, _, _, _, _, _, _]) Try.results13 Try.isAgg40 Try.sizeOf40 rfl (CellsAt.own (j := 0) (m := 8) (hS.at_ 1 rfl) rfl) rfl) ?_
       exact shortRet_ok (p := ⟨s, st, sy, ra, rl, rc, rs⟩) ⟨hok, hfew, hns, (HN hS (fun q hq => hq)).1, (HN hS (fun q hq => hq)).2, hS.row 0 rfl, hS.row 1 rfl, hS.row 2 rfl⟩ hS.below
end Go.Proofs.Ytnhnedifekejpaa
namespace Go.Proofs.Ytnhnedifekejpaa
open Go Go.RowKit
theorem bld_25_0 (v0 : Int) : Try.prog.built 25 [(0, .int .i64 v0)] = some #[.int .i64 v0, .int .i64 0, .slice none 0 0] := by kernel_rfl
theorem bld_56_2_3 (v2 : Int) (v3a : Option Addr) (v3l : Nat) (v3c : Nat) : Try.prog.built 56 [(2, .int .i64 v2), (3, .slice v3a v3l v3c)] = some #[.int .i64 0, .int .i64 0, .int .i64 v2, .slice v3a v3l v3c, .bool false, .int .i64 0, .int .u64 0, .slice none 0 0, .slice none 0 0, .slice none 0 0] := by kernel_rfl
theorem bs_30_3 (v0 : Int) (v1 : Int) (v2 : Int) : Instr.fill (fun i => some (i * 1, 1)) ((Array.range (3 * 1)).map ((Value.cells (.int .i64 0))[· % (Value.cells (.int .i64 0)).size]!)) [(0, .int .i64 v0), (1, .int .i64 v1), (2, .int .i64 v2)] = some (List.toArray [.int .i64 v0, .int .i64 v1, .int .i64 v2]) := by kernel_rfl
theorem goes_13 : goesIn Try.prog 13 = true := by kernel_rfl
theorem shortA_is {ds d : Nat} {p : PV} {w : World} (hp : PvIn w ds d p) (ht : Tabs w) : Calls Try.prog 13 #[p.val] w (ShortRet p w) := shortA_c ds d p.s p.st p.sy p.ra p.rl p.rc p.rs w hp.s hp.row hp.len hp.rin ht
def alW : WV := .mk ⟨false, 0, 0, none, 0, 0, [], none, 0, 0, [], none, 0, 0⟩ []
abbrev alR (b1 : Nat) : RV := ⟨0, 0, 1, some ⟨b1, 0, none⟩, 3, 3, [2, 3, 4], alW⟩
abbrev alP (b1 b2 : Nat) : PV := ⟨.mk ⟨1, 0, none, 0, 0⟩ [], 2, 5, some ⟨b2, 0, none⟩, 1, 1, [alR b1]⟩
theorem alW_in (w : World) : WIn w 1 alW := ⟨⟨.inl rfl, rfl, by decide, (fun r hr => by cases hr), .inl rfl, rfl, (fun c hc => by cases hc), by decide⟩, rfl, .inl rfl, fun p hp => by cases hp⟩
theorem row_own3 {W : World} {B : Nat} {T : TypeId} {a b c : Int} (h : W.heap[B]? = some (.cells (List.toArray [.int .i64 a, .int .i64 b, .int .i64 c]) T (0, 0))) : Row W (some ⟨B, 0, none⟩) [a, b, c] := by
 refine .inr ⟨B, 0, rfl, fun i hi => ?_⟩
 match i, hi with
 | 0, _ => exact cell_own h rfl
 | 1, _ => exact cell_own h rfl
 | 2, _ => exact cell_own h rfl
 | i + 3, hi => exact absurd hi (by simp)
theorem own_one9 {w : World} {lo n size : Nat} {e : TypeId} {v : Value} {xs : List Value} (h : w.ownsRow lo e size v n xs) : v.oneCell' = true := by
 rcases h.2 with ⟨h1, _⟩ | ⟨_, _, _, h1, _⟩ <;> rw [h1] <;> rfl
theorem alP_in {w : World} {b1 b2 : Nat} {T1 T2 : TypeId} (h1 : w.heap[b1]? = some (.cells (List.toArray [.int .i64 2, .int .i64 3, .int .i64 4]) T1 (0, 0))) (h2 : w.heap[b2]? = some (.cells (List.toArray (alR b1).ten) T2 (0, 0))) : PvIn w 1 1 (alP b1 b2) := by
 refine ⟨⟨rfl, .inl rfl, fun p hp => by cases hp⟩, .inr ⟨b2, 0, rfl, fun i r hi => ?_⟩, rfl, fun r hr => ?_⟩
 ·match i, hi with
  | 0, hi =>
   cases hi
   exact CellsAt.own (j := 0) (m := 10) h2 rfl
  | i + 1, hi => exact absurd hi (by simp)
 ·simp at hr
  subst hr
  exact ⟨row_own3 h1, rfl, alW_in w⟩
theorem alP_ok (b1 b2 : Nat) : pdsE (alP b1 b2) = 0 ∧ tooMany (alP b1 b2) = false := by
 have e1 : spaceE (alP b1 b2).s = 0 := by show spaceE (.mk ⟨1, 0, none, 0, 0⟩ []) = 0; decide
 have e2 : (alP b1 b2).rs.all (ruleB 2 5) = true := by simp [ruleB, inQ]
 have e3 : chkW (alP b1 b2).s alW = 0 := by show chkW (.mk ⟨1, 0, none, 0, 0⟩ []) alW = 0; decide
 have e4 : wtE (alP b1 b2).s (alP b1 b2).rs = 0 := wtE_all (by simp; exact e3)
 constructor
 ·unfold pdsE
  rw [if_neg (by rw [e1]; simp), if_neg (by simp), if_neg (by simp), if_pos (show (alP b1 b2).rs.all (ruleB (alP b1 b2).st (alP b1 b2).sy) = true from e2), e4]
 ·rfl
theorem two_map9 {α β : Type} {f : α → β} {l : List α} {a b : β} (h : l.map f = [a, b]) : ∃ x y, l = [x, y] ∧ f x = a ∧ f y = b := by
 match l, h with
 | [x, y], h => simp at h; exact ⟨x, y, rfl, h.1, h.2⟩
theorem rowN_addr {lo c : Nat} {W : World} {a : Option Addr} {xs : List Int} (h : RowN lo W a c xs) (hl : 0 < xs.length) : ∃ b, a = some ⟨b, 0, none⟩ := by
 obtain ⟨b, c9, e, _⟩ := ownsRow_at h hl
 injection e with e _ _
 exact ⟨b, e⟩
theorem rowN_lim9 {lo : Nat} {W : World} {a : Option Addr} {c : Nat} {xs : List Int} (h : RowN lo W a c xs) : xs.length ≤ maxLen := by
 rcases h.2 with ⟨e1, e2⟩ | ⟨g, cap, cur, e1, _, _, hn, hm, _⟩
 ·omega
 ·omega
theorem rowN_cell9 {lo c b i : Nat} {W : World} {xs : List Int} {y : Int} (h : RowN lo W (some ⟨b, 0, none⟩) c xs) (hi : xs[i]? = some y) : W.cell? ⟨b, i, none⟩ = some (.int .i64 y) := ownsRow_blk h (by rw [List.getElem?_map, hi]; rfl)
theorem row_ten9 {W : World} {lo b n c i : Nat} {ns : List R9} {r : R9} (h : W.ownsRow lo 56 10 (.slice (some ⟨b, 0, none⟩) n c) n (ns.flatMap ten9)) (hi : ns[i]? = some r) : CellsAt W b (i * 10) (ten9 r) := by
 have key : ∀ (l : List R9) (i : Nat), l[i]? = some r → ((l.flatMap ten9).drop (i * 10)).take 10 = ten9 r := by
  intro l
  induction l with
  | nil => intro i h; simp at h
  | cons z l ih =>
   intro i h
   cases i with
   | zero => simp at h; subst h; rfl
   | succ i =>
    have e : (i + 1) * 10 = 10 + i * 10 := by omega
    rw [List.flatMap_cons, e, ← List.drop_drop]
    exact ih i (by simpa using h)
 have e5 := key ns i hi
 refine CellsAt.of fun j v hj => ownsRow_blk h ?_
 rw [← e5, List.getElem?_take] at hj
 split at hj
 ·rw [List.getElem?_drop] at hj; exact hj
 ·cases hj
theorem alive_short {b1 b2 : Nat} {w : World} (hp : PvIn w 1 1 (alP b1 b2)) (ht : Tabs w) : Calls Try.prog 13 #[(alP b1 b2).val] w fun e w' => ∃ (s2 : SF) (c9 : Nat) (v2 v3 : Value) (S : PS) (x1 x2 : PX) (f1 f2 : WF) (b9 ba bb ca cb : Nat), e = .returned (.tuple #[.agg #[.int .i64 s2.tag, .int .i64 s2.dim, .slice s2.a s2.len s2.cap, .int .i64 3, .int .i64 6, .slice (some ⟨b9, 0, none⟩) 2 c9, v2, v3], .int .i64 0]) ∧ w'.ownsRow w.heap.size 56 10 (.slice (some ⟨b9, 0, none⟩) 2 c9) 2 ([⟨0, true, 0, 0, 2, some ⟨ba, 0, none⟩, ca, [5, 4], f1, x1⟩, ⟨0, false, 2, 5, 1, some ⟨bb, 0, none⟩, cb, [2, 3], f2, x2⟩].flatMap ten9) ∧ RowN w.heap.size w' (some ⟨ba, 0, none⟩) ca [5, 4] ∧ RowN w.heap.size w' (some ⟨bb, 0, none⟩) cb [2, 3] ∧ v2.oneCell' = true ∧ v3.oneCell' = true ∧ Below w.heap.size w w' := by
 refine (shortA_is hp ht).mono fun e w' h => ?_
 obtain ⟨hb, h | h | ⟨_, S, px, s2, v1, v2, v3, ns, hok, rfl⟩⟩ := h
 ·exact absurd (alP_ok b1 b2).1 h.1
 ·rw [(alP_ok b1 b2).2] at h; cases h.2.1
 ·have hpl : ns.map R9.pl = [(0, true, 0, 0, 2, [5, 4], px (alR b1)), (0, false, 2, 5, 1, [2, 3], oneX S)] := hok.pl
  obtain ⟨r1, r2, rfl, h1, h2⟩ := two_map9 hpl
  obtain ⟨n1, t1, p1, g1, q1, wa1, wc1, ws1, f1, x1⟩ := r1
  obtain ⟨n2, t2, p2, g2, q2, wa2, wc2, ws2, f2, x2⟩ := r2
  simp only [R9.pl, Prod.mk.injEq] at h1 h2
  obtain ⟨rfl, rfl, rfl, rfl, rfl, rfl, rfl⟩ := h1
  obtain ⟨rfl, rfl, rfl, rfl, rfl, rfl, rfl⟩ := h2
  have w1 : RowN w.heap.size w' wa1 wc1 [5, 4] := (hok.rules _ List.mem_cons_self).w
  have w2 : RowN w.heap.size w' wa2 wc2 [2, 3] := (hok.rules _ (List.mem_cons_of_mem _ List.mem_cons_self)).w
  obtain ⟨ba, rfl⟩ := rowN_addr w1 (by decide)
  obtain ⟨bb, rfl⟩ := rowN_addr w2 (by decide)
  have r1 := hok.r1
  obtain ⟨b9, c9, rfl, _⟩ := ownsRow_at (n := 2) r1 (by decide)
  exact ⟨s2, c9, v2, v3, S, _, _, f1, f2, b9, ba, bb, wc1, wc2, rfl, r1, w1, w2, own_one9 hok.r2, own_one9 hok.r3, hb⟩
theorem alive_is (w : World) (ht : Tabs w) :
  Calls Try.prog 12 #[] w (fun e w' => e = .returned (.bool (true)) ∧ Below w.heap.size w w') := by
 refine enterF (args := []) Try.func12 rfl Try.ntmps12 rfl ?_
 have hS := St.start w
 refine seqF (regF ?_)
 refine op_assign rfl rfl ?_
 refine endF (XF.thenN ?_)
 refine seqF (regF ?_)
 refine op_build (us := [(0, .int .i64 _)]) rfl (bld_25_0 _) rfl ?_
 refine op_buildSlice (us := [(0, .int .i64 _), (1, .int .i64 _), (2, .int .i64 _)]) hS Try.underlying30 Try.sizeOf3 Try.zeroValue3 rfl rfl rfl (bs_30_3 _ _ _) rfl ?_
 clear hS; intro B1 W1 hS
 refine op_build (us := [(2, .int .i64 _), (3, .slice _ _ _)]) rfl (bld_56_2_3 _ _ _ _) rfl ?_
 refine op_buildSlice (us := [(0, .agg (List.toArray [_, _, _, _, _, _, _, _, _, _]))]) hS Try.underlying26 Try.sizeOf56 Try.zeroValue56 rfl rfl rfl (bs_26_1 _ _ _ _ _ _ _ _ _ _) rfl ?_
 clear hS; intro B2 W2 hS
 refine op_build (us := [(0, .agg (List.toArray [_, _, _])), (1, .int .i64 _), (2, .int .i64 _), (3, .slice _ _ _)]) rfl (bld_28_0_1_2_3 _ _ _ _ _ _ _ _) rfl ?_
 refine op_alloc (cs := [_, _, _, _, _, _]) hS Try.zeroValue28 rfl rfl ?_
 clear hS; intro B3 W3 hS
 refine op_storeA (i := 0) (vs := [_, _, _, _, _, _]) (cs' := [_, _, _, _, _, _]) (O' := [_, _, _]) hS Try.sizeOf28 rfl rfl (by first | rfl | (simp only [List.all_cons, List.all_nil, Bool.and_true, Bool.and_eq_true]; exact ⟨rfl, rfl, rfl, rfl, rfl, rfl, h1v, h2v⟩)) rfl rfl rfl rfl ?_
 clear hS; intro W4 hS
 refine endF (XF.thenN ?_)
 refine seqF (regF ?_)
 refine op_loadA (vs := [_, _, _, _, _, _]) Try.isAgg28 Try.sizeOf28 rfl (CellsAt.own (j := 0) (m := 6) (hS.at_ 0 rfl) rfl) rfl ?_
 have hal := alive_short (alP_in (hS.at_ 2 rfl) (hS.at_ 1 rfl)) (ht.below hS.below)
 refine op_call (vs := [_]) hS goes_13 rfl (hal) rfl ?_
 rintro e W5 ⟨s2, c9, v2, v3, S, x1, x2, f1, f2, b9, ba, bb, ca, cb, rfl, hr9, hn1, hn2, h1v, h2v, hb⟩
 refine ⟨_, rfl, hb, fun hS' => ?_⟩
 clear hS; have hS := hS'; clear hS'
 clear hal hb
 obtain ⟨lo9, hlo9⟩ : ∃ n, n = W4.heap.size := ⟨_, rfl⟩
 rw [← hlo9] at hr9 hn1 hn2 hS
 have HN : Held w [(lo9, W5)] (fun W2 => W2.ownsRow lo9 56 10 (.slice (some ⟨b9, 0, none⟩) 2 c9) 2 ([⟨0, true, 0, 0, 2, some ⟨ba, 0, none⟩, ca, [5, 4], f1, x1⟩, ⟨0, false, 2, 5, 1, some ⟨bb, 0, none⟩, cb, [2, 3], f2, x2⟩].flatMap ten9) ∧ RowN lo9 W2 (some ⟨ba, 0, none⟩) ca [5, 4] ∧ RowN lo9 W2 (some ⟨bb, 0, none⟩) cb [2, 3]) := Held.one (p := fun W2 => W2.ownsRow lo9 56 10 (.slice (some ⟨b9, 0, none⟩) 2 c9) 2 ([⟨0, true, 0, 0, 2, some ⟨ba, 0, none⟩, ca, [5, 4], f1, x1⟩, ⟨0, false, 2, 5, 1, some ⟨bb, 0, none⟩, cb, [2, 3], f2, x2⟩].flatMap ten9) ∧ RowN lo9 W2 (some ⟨ba, 0, none⟩) ca [5, 4] ∧ RowN lo9 W2 (some ⟨bb, 0, none⟩) cb [2, 3]) (fun W2 hg => ⟨ownsRow_agree hr9 hg, hn1.agree hg, hn2.agree hg⟩)
 refine op_move rfl rfl ?_
 refine op_extract rfl rfl rfl ?_
 refine op_extract rfl rfl rfl ?_
 refine op_alloc (cs := [_, _, _, _, _, _, _, _]) hS Try.zeroValue40 rfl rfl ?_
 clear hS; intro B6 W6 hS
 refine op_storeA (i := 0) (vs := [_, _, _, _, _, _, _, _]) (cs' := [_, _, _, _, _, _, _, _]) (O' := [_, _, _, _]) hS Try.sizeOf40 rfl rfl (by first | rfl | (simp only [List.all_cons, List.all_nil, Bool.and_true, Bool.and_eq_true]; exact ⟨rfl, rfl, rfl, rfl, rfl, rfl, h1v, h2v⟩)) rfl rfl rfl rfl ?_
 clear hS; intro W7 hS
 refine op_assign rfl rfl ?_
 refine endF (XF.thenN ?_)
 refine seqF ?_
 refine seqF (regF ?_)
 refine op_move rfl rfl ?_
 refine op_neq rfl rfl rfl ?_
 refine op_move rfl rfl ?_
 refine op_cases (d := 18) rfl (fun hc => absurd (of_decide_eq_true hc) (by exact fun h => h rfl)) (fun hc => ?_)
 have hc := of_decide_eq_false hc
 refine op_wantedF (d := 18) rfl rfl ?_
 refine op_field (o' := 0) fa_40_0 rfl rfl rfl ?_
 refine op_wantedF (d := 18) rfl rfl ?_
 refine op_field (o' := 5) fa_28_3 rfl rfl rfl ?_
 refine op_wantedF (d := 18) rfl rfl ?_
 refine op_load Try.isAgg26 rfl (cell_own (hS.at_ 0 rfl) rfl) rfl ?_
 refine op_wantedF (d := 18) rfl rfl ?_
 refine op_len Try.underlying26 rfl rfl ?_
 refine op_wantedF (d := 18) rfl rfl ?_
 refine op_neq rfl rfl rfl ?_
 refine op_pickF rfl rfl rfl ?_
 refine endF (XF.thenN ?_)
 refine condF rfl (fun hc => absurd (of_decide_eq_true hc) (by exact fun h => h rfl)) (fun hc => ?_)
 have hc := of_decide_eq_false hc
 refine skipF ?_
 refine XF.thenN ?_
 refine seqF ?_
 refine regY (al := [⟨10, 56, [.int .i64 0, .int .i64 0, .int .i64 0, .slice none 0 0, .bool false, .int .i64 0, .int .u64 0, .slice none 0 0, .slice none 0 0, .slice none 0 0], 12⟩, ⟨11, 56, [.int .i64 0, .int .i64 0, .int .i64 0, .slice none 0 0, .bool false, .int .i64 0, .int .u64 0, .slice none 0 0, .slice none 0 0, .slice none 0 0], 25⟩]) (G := fun _ => []) (E := [10, 11, 12]) (k := 13) (ds := []) followsM rfl hS rfl rfl (by kernel_rfl) (by kernel_rfl) rfl (by decide) rfl ?_
 refine bly_cons 1 rfl (isV _) (syV fst_take [(2, _)] rfl rfl (fun _ => (w_free rfl)) (fun _ => ⟨g_fr (by kernel_rfl) rfl, trivial⟩) (fun s w hw => rn_field (o' := 0) fa_40_0 rfl rfl) (at_top rfl)) ?_
 refine bly_cons 2 rfl (isV _) (syV fst_take [(25, _)] rfl rfl (fun _ => (w_free rfl)) (fun _ => ⟨g_dep 0 (by kernel_rfl) (at_n rfl rfl (at_dep rfl rfl rfl)), trivial⟩) (fun s w hw => rn_field (o' := 5) fa_28_3 rfl rfl) (at_top rfl)) ?_
 refine bly_cons 3 rfl (isV _) (syV fst_take [(26, _)] rfl rfl (fun _ => (w_free rfl)) (fun _ => ⟨g_dep 1 (by kernel_rfl) (at_n rfl rfl (at_dep rfl rfl rfl)), trivial⟩) (fun s w hw => rn_load Try.isAgg26 rfl ((cell_own (hw.at_ 0 rfl) rfl))) (at_top rfl)) ?_
 refine bly_cons 4 rfl (isV _) (syV fst_take [(27, _)] rfl rfl (fun _ => (w_free rfl)) (fun _ => ⟨g_dep 2 (by kernel_rfl) (at_n rfl rfl (at_dep rfl rfl rfl)), trivial⟩) (fun s w hw => rn_indexA (j := 0) Try.underlying26 Try.sizeOf56 rfl rfl rfl (by omega) (Nat.add_zero _)) (at_top rfl)) ?_
 refine bly_cons 5 rfl (isV _) (syV fst_take [(28, _)] rfl rfl (fun _ => (w_free rfl)) (fun _ => ⟨g_dep 3 (by kernel_rfl) (at_n rfl rfl (at_dep rfl rfl rfl)), trivial⟩) (fun s w hw => rn_loadA (vs := [_, _, _, _, _, _, _, _, _, _]) Try.isAgg56 Try.sizeOf56 rfl (row_ten9 (i := 0) (HN hw (fun q hq => by simp at hq; subst hq; simp)).1 rfl)) (at_top rfl)) ?_
 refine bly_cons 6 rfl (isV _) (syV fst_take [(2, _)] rfl rfl (fun _ => (w_free rfl)) (fun _ => ⟨g_fr (by kernel_rfl) rfl, trivial⟩) (fun s w hw => rn_field (o' := 0) fa_40_0 rfl rfl) (at_top rfl)) ?_
 refine bly_cons 7 rfl (isV _) (syV fst_take [(30, _)] rfl rfl (fun _ => (w_free rfl)) (fun _ => ⟨g_dep 5 (by kernel_rfl) (at_n rfl rfl (at_dep rfl rfl rfl)), trivial⟩) (fun s w hw => rn_field (o' := 5) fa_28_3 rfl rfl) (at_top rfl)) ?_
 refine bly_cons 8 rfl (isV _) (syV fst_take [(31, _)] rfl rfl (fun _ => (w_free rfl)) (fun _ => ⟨g_dep 6 (by kernel_rfl) (at_n rfl rfl (at_dep rfl rfl rfl)), trivial⟩) (fun s w hw => rn_load Try.isAgg26 rfl ((cell_own (hw.at_ 0 rfl) rfl))) (at_top rfl)) ?_
 refine bly_cons 9 rfl (isV _) (syV fst_take [(32, _)] rfl rfl (fun _ => (w_free rfl)) (fun _ => ⟨g_dep 7 (by kernel_rfl) (at_n rfl rfl (at_dep rfl rfl rfl)), trivial⟩) (fun s w hw => rn_indexA (j := 1) Try.underlying26 Try.sizeOf56 rfl rfl rfl (by omega) rfl) (at_top rfl)) ?_
 refine bly_cons 10 rfl (isV _) (syV fst_take [(33, _)] rfl rfl (fun _ => (w_free rfl)) (fun _ => ⟨g_dep 8 (by kernel_rfl) (at_n rfl rfl (at_dep rfl rfl rfl)), trivial⟩) (fun s w hw => rn_loadA (vs := [_, _, _, _, _, _, _, _, _, _]) Try.isAgg56 Try.sizeOf56 rfl (row_ten9 (i := 1) (HN hw (fun q hq => by simp at hq; subst hq; simp)).1 rfl)) (at_top rfl)) ?_
 refine bly_cons 11 rfl (isPtr W7.heap.size) (sy_alloc ⟨10, 56, [.int .i64 0, .int .i64 0, .int .i64 0, .slice none 0 0, .bool false, .int .i64 0, .int .u64 0, .slice none 0 0, .slice none 0 0, .slice none 0 0], 12⟩ rfl rfl Try.zeroValue56 List.mem_cons_self rfl rfl rfl (.inl (by kernel_rfl)) (by decide) rfl (fun _ _ => rfl) (at_top rfl)) ?_
 refine bly_cons 12 rfl (isPtr W7.heap.size) (sy_alloc ⟨11, 56, [.int .i64 0, .int .i64 0, .int .i64 0, .slice none 0 0, .bool false, .int .i64 0, .int .u64 0, .slice none 0 0, .slice none 0 0, .slice none 0 0], 25⟩ rfl rfl Try.zeroValue56 (List.mem_cons_of_mem _ List.mem_cons_self) rfl rfl rfl (.inr rfl) (by decide) rfl (fun _ _ => rfl) (at_top rfl)) ?_
 refine bly_cons 13 rfl (isV _) (sy_store (jy := 4) (m := 10) ⟨10, 56, [.int .i64 0, .int .i64 0, .int .i64 0, .slice none 0 0, .bool false, .int .i64 0, .int .u64 0, .slice none 0 0, .slice none 0 0, .slice none 0 0], 12⟩ rfl rfl List.mem_cons_self rfl rfl (by kernel_rfl) (at_dep rfl rfl rfl) (by kernel_rfl) (at_dep rfl rfl rfl) (at_top rfl) Try.sizeOf56 rfl (fun v w h => by subst h; exact ⟨_, rfl, rfl, rfl⟩) (by decide) rfl (fun _ _ => rfl)) ?_
 refine bly_nil ?_
 intro s8 W8 Ks8 hall8 hsz8 hKs8 hS' hcov8 hfx8 hno8
 obtain ⟨v8_10, h8_10⟩ := hall8 10 rfl
 obtain ⟨v8_11, h8_11⟩ := hall8 11 rfl
 obtain ⟨v8_12, h8_12⟩ := hall8 12 rfl
 have f8_10 : AwS _ _ (isPtr W7.heap.size) _ _ := hfx8 10 rfl _ h8_10
 obtain ⟨B8_10, rfl, hB8_10⟩ := f8_10.here
 have f8_11 : AwS _ _ (isPtr W7.heap.size) _ _ := hfx8 11 rfl _ h8_11
 obtain ⟨B8_11, rfl, hB8_11⟩ := f8_11.here
 have f8_12 : AwS _ _ (isV _) _ _ := hfx8 12 rfl _ h8_12
 obtain rfl := f8_12.here
 clear hS; have hS := hS'.castO (O' := [(B8_10, _, 56), (B8_11, _, 56), _, _, _, _]) (by simp only [OY, AS_cons, AB.cs, h8_10, h8_11, h8_12, hno8 25 rfl]; rfl); clear hS'
 refine castL (L' := [AwS _ _ (isV _), AwS _ _ (isV _), AwS _ _ (isV _), AwS _ _ (isV _), AwS _ _ (isV _), AwS _ _ (isV _), AwS _ _ (isV _), AwS _ _ (isV _), AwS _ _ (isV _), AwS _ _ (isV _), isE s8 10, isE s8 11, isE s8 12]) rfl ?_
 refine fin_sV ?_
 refine fin_sV ?_
 refine fin_sV ?_
 refine fin_sV ?_
 refine fin_sV ?_
 refine fin_sV ?_
 refine fin_sV ?_
 refine fin_sV ?_
 refine fin_sV ?_
 refine fin_sV ?_
 refine fin_p ?_; intro u hu; obtain rfl := Option.some.inj (h8_10.symm.trans hu); clear hu
 refine fin_p ?_; intro u hu; obtain rfl := Option.some.inj (h8_11.symm.trans hu); clear hu
 refine fin_0 ?_
 refine fin_nil ?_
 refine op_storeA (i := 1) (vs := [_, _, _, _, _, _, _, _, _, _]) (cs' := [_, _, _, _, _, _, _, _, _, _]) (O' := [_, _, _, _, _, _]) hS Try.sizeOf56 rfl rfl (by first | rfl | (simp only [List.all_cons, List.all_nil, Bool.and_true, Bool.and_eq_true]; exact ⟨rfl, rfl, rfl, rfl, rfl, rfl, h1v, h2v⟩)) rfl rfl rfl rfl ?_
 clear hS; intro W9 hS
 refine endF (XF.thenN ?_)
 refine seqF ?_
 obtain ⟨_, hm1, hm2⟩ := HN hS (fun q hq => by simp at hq; subst hq; simp)
 have k1 := rowN_cell9 (i := 0) hm1 rfl
 have k2 := rowN_cell9 (i := 1) hm1 rfl
 have k3 := rowN_cell9 (i := 1) hm2 rfl
 refine regF ?_
 refine op_field (o' := 0) fa_40_0 rfl rfl rfl ?_
 refine op_field (o' := 3) fa_28_1 rfl rfl rfl ?_
 refine op_load Try.isAgg3 rfl (cell_own (hS.at_ 2 rfl) rfl) rfl ?_
 refine op_eql rfl rfl rfl ?_
 refine op_move rfl rfl ?_
 refine op_cases (d := 39) rfl (fun hc => ?_) (fun hc => absurd (of_decide_eq_false hc) (by exact fun h => h rfl))
 have hc := of_decide_eq_true hc
 refine op_wantedF (d := 39) rfl rfl ?_
 refine op_field (o' := 0) fa_40_0 rfl rfl rfl ?_
 refine op_wantedF (d := 39) rfl rfl ?_
 refine op_field (o' := 4) fa_28_2 rfl rfl rfl ?_
 refine op_wantedF (d := 39) rfl rfl ?_
 refine op_load Try.isAgg3 rfl (cell_own (hS.at_ 2 rfl) rfl) rfl ?_
 refine op_wantedF (d := 39) rfl rfl ?_
 refine op_eql rfl rfl rfl ?_
 refine op_pickT rfl rfl rfl ?_
 refine op_move rfl rfl ?_
 refine op_cases (d := 45) rfl (fun hc => ?_) (fun hc => absurd (of_decide_eq_false hc) (by exact fun h => h rfl))
 have hc := of_decide_eq_true hc
 refine op_wantedF (d := 45) rfl rfl ?_
 refine op_field (o' := 2) fa_56_2 rfl rfl rfl ?_
 refine op_wantedF (d := 45) rfl rfl ?_
 refine op_load Try.isAgg3 rfl (cell_own (hS.at_ 0 rfl) rfl) rfl ?_
 refine op_wantedF (d := 45) rfl rfl ?_
 refine op_eql rfl rfl rfl ?_
 refine op_pickT rfl rfl rfl ?_
 refine op_move rfl rfl ?_
 refine op_cases (d := 50) rfl (fun hc => ?_) (fun hc => absurd (of_decide_eq_false hc) (by exact fun h => h rfl))
 have hc := of_decide_eq_true hc
 refine op_wantedF (d := 50) rfl rfl ?_
 refine op_field (o' := 3) fa_56_3 rfl rfl rfl ?_
 refine op_wantedF (d := 50) rfl rfl ?_
 refine op_load Try.isAgg30 rfl (cell_own (hS.at_ 0 rfl) rfl) rfl ?_
 refine op_wantedF (d := 50) rfl rfl ?_
 refine op_len Try.underlying30 rfl rfl ?_
 refine op_wantedF (d := 50) rfl rfl ?_
 refine op_eql rfl rfl rfl ?_
 refine op_pickT rfl rfl rfl ?_
 refine op_move rfl rfl ?_
 refine op_cases (d := 56) rfl (fun hc => ?_) (fun hc => absurd (of_decide_eq_false hc) (by exact fun h => h rfl))
 have hc := of_decide_eq_true hc
 refine op_wantedF (d := 56) rfl rfl ?_
 refine op_field (o' := 3) fa_56_3 rfl rfl rfl ?_
 refine op_wantedF (d := 56) rfl rfl ?_
 refine op_load Try.isAgg30 rfl (cell_own (hS.at_ 0 rfl) rfl) rfl ?_
 refine op_wantedF (d := 56) rfl rfl ?_
 refine op_indexA (j := 0) Try.underlying30 Try.sizeOf3 rfl rfl rfl (by omega) (Nat.add_zero _) rfl ?_
 refine op_wantedF (d := 56) rfl rfl ?_
 refine op_load Try.isAgg3 rfl (k1) rfl ?_
 refine op_wantedF (d := 56) rfl rfl ?_
 refine op_eql rfl rfl rfl ?_
 refine op_pickT rfl rfl rfl ?_
 refine op_move rfl rfl ?_
 refine op_cases (d := 63) rfl (fun hc => ?_) (fun hc => absurd (of_decide_eq_false hc) (by exact fun h => h rfl))
 have hc := of_decide_eq_true hc
 refine op_wantedF (d := 63) rfl rfl ?_
 refine op_field (o' := 3) fa_56_3 rfl rfl rfl ?_
 refine op_wantedF (d := 63) rfl rfl ?_
 refine op_load Try.isAgg30 rfl (cell_own (hS.at_ 0 rfl) rfl) rfl ?_
 refine op_wantedF (d := 63) rfl rfl ?_
 refine op_indexA (j := 1) Try.underlying30 Try.sizeOf3 rfl rfl rfl (by omega) rfl rfl ?_
 refine op_wantedF (d := 63) rfl rfl ?_
 refine op_load Try.isAgg3 rfl (k2) rfl ?_
 refine op_wantedF (d := 63) rfl rfl ?_
 refine op_eql rfl rfl rfl ?_
 refine op_pickT rfl rfl rfl ?_
 refine op_move rfl rfl ?_
 refine op_cases (d := 70) rfl (fun hc => ?_) (fun hc => absurd (of_decide_eq_false hc) (by exact fun h => h rfl))
 have hc := of_decide_eq_true hc
 refine op_wantedF (d := 70) rfl rfl ?_
 refine op_field (o' := 0) fa_56_0 rfl rfl rfl ?_
 refine op_wantedF (d := 70) rfl rfl ?_
 refine op_load Try.isAgg3 rfl (cell_own (hS.at_ 1 rfl) rfl) rfl ?_
 refine op_wantedF (d := 70) rfl rfl ?_
 refine op_eql rfl rfl rfl ?_
 refine op_pickT rfl rfl rfl ?_
 refine op_move rfl rfl ?_
 refine op_cases (d := 75) rfl (fun hc => ?_) (fun hc => absurd (of_decide_eq_false hc) (by exact fun h => h rfl))
 have hc := of_decide_eq_true hc
 refine op_wantedF (d := 75) rfl rfl ?_
 refine op_field (o' := 1) fa_56_1 rfl rfl rfl ?_
 refine op_wantedF (d := 75) rfl rfl ?_
 refine op_load Try.isAgg3 rfl (cell_own (hS.at_ 1 rfl) rfl) rfl ?_
 refine op_wantedF (d := 75) rfl rfl ?_
 refine op_eql rfl rfl rfl ?_
 refine op_pickT rfl rfl rfl ?_
 refine op_move rfl rfl ?_
 refine op_cases (d := 80) rfl (fun hc => ?_) (fun hc => absurd (of_decide_eq_false hc) (by exact fun h => h rfl))
 have hc := of_decide_eq_true hc
 refine op_wantedF (d := 80) rfl rfl ?_
 refine op_field (o' := 2) fa_56_2 rfl rfl rfl ?_
 refine op_wantedF (d := 80) rfl rfl ?_
 refine op_load Try.isAgg3 rfl (cell_own (hS.at_ 1 rfl) rfl) rfl ?_
 refine op_wantedF (d := 80) rfl rfl ?_
 refine op_eql rfl rfl rfl ?_
 refine op_pickT rfl rfl rfl ?_
 refine op_move rfl rfl ?_
 refine op_cases (d := 85) rfl (fun hc => ?_) (fun hc => absurd (of_decide_eq_false hc) (by exact fun h => h rfl))
 have hc := of_decide_eq_true hc
 refine op_wantedF (d := 85) rfl rfl ?_
 refine op_field (o' := 3) fa_56_3 rfl rfl rfl ?_
 refine op_wantedF (d := 85) rfl rfl ?_
 refine op_load Try.isAgg30 rfl (cell_own (hS.at_ 1 rfl) rfl) rfl ?_
 refine op_wantedF (d := 85) rfl rfl ?_
 refine op_len Try.underlying30 rfl rfl ?_
 refine op_wantedF (d := 85) rfl rfl ?_
 refine op_eql rfl rfl rfl ?_
 refine op_pickT rfl rfl rfl ?_
 refine op_move rfl rfl ?_
 refine op_cases (d := 91) rfl (fun hc => ?_) (fun hc => absurd (of_decide_eq_false hc) (by exact fun h => h rfl))
 have hc := of_decide_eq_true hc
 refine op_wantedF (d := 91) rfl rfl ?_
 refine op_field (o' := 3) fa_56_3 rfl rfl rfl ?_
 refine op_wantedF (d := 91) rfl rfl ?_
 refine op_load Try.isAgg30 rfl (cell_own (hS.at_ 1 rfl) rfl) rfl ?_
 refine op_wantedF (d := 91) rfl rfl ?_
 refine op_indexA (j := 1) Try.underlying30 Try.sizeOf3 rfl rfl rfl (by omega) rfl rfl ?_
 refine op_wantedF (d := 91) rfl rfl ?_
 refine op_load Try.isAgg3 rfl (k3) rfl ?_
 refine op_wantedF (d := 91) rfl rfl ?_
 refine op_eql rfl rfl rfl ?_
 refine op_pickT rfl rfl rfl ?_
 refine op_assign rfl rfl ?_
 refine endF (XF.thenN ?_)
 refine retF ?_
 refine XF.res (res1 Try.results12 rfl) ?_
 exact ⟨rbool (decide_eq_true rfl), hS.below⟩
end Go.Proofs.Ytnhnedifekejpaa
namespace Go.Proofs.Ytnhnedifekejpaa
open Go.RowKit Go.ChangeShapes Go.WideShapes Go.Deep
section
variable {H : Type} {enc : TypeId × Value → H} {w : World} {base : Nat} {spare : Nat → Bool} {held : Bool}
theorem three_len {cs : List Value} (h : cs.length = 3) : ∃ a b c, cs = [a, b, c] := by
 match cs, h with
 | [a, b, c], _ => exact ⟨a, b, c, rfl⟩
theorem cell_open {n : Nat} {cs : List Value} {x : DataW H × List MemPlace} (hl : cs.length = 3) (h : DataW.trod enc Try.prog w base spare held n 112 cs = some x) :
  ∃ c : Cl, c.f < 18446744073709551616 ∧ cs = [.int .u64 (c.f : Int), .int .i64 c.k, .int .i64 c.v] := by
 obtain ⟨xs, n', _, hx, _, hlen, hg⟩ := DataW.trod_struct Try.underlying112 h
 obtain ⟨a, b, c, rfl⟩ := three_len hl
 ·skip
  have hlen3 : xs.length = 3 := hlen
  have g0 := hg 0 _ rfl
  have g1 := hg 1 _ rfl
  have g2 := hg 2 _ rfl
  rw [show Try.prog.cellsOf _ = 1 by kernel_rfl, List.getElem?_eq_getElem (by omega)] at g0 g1 g2
  obtain ⟨z0, e0, _, w0⟩ := DataW.trod_int Try.underlying47 g0
  obtain ⟨z1, e1, _, w1⟩ := DataW.trod_int (k := .i64) (by kernel_rfl) g1
  obtain ⟨z2, e2, _, w2⟩ := DataW.trod_int (k := .i64) (by kernel_rfl) g2
  simp at e0 e1 e2
  subst e0 e1 e2
  have hw : 0 ≤ z0 ∧ z0 ≤ 18446744073709551615 := by simpa [Lit.wf, IntKind.signed, IntKind.bits, IntKind.min, IntKind.max] using w0
  exact ⟨⟨z0.toNat, z1, z2⟩, by show z0.toNat < _; omega, by simp; omega⟩
theorem list_of : ∀ (n : Nat) (p : Nat → Cl → Prop), (∀ i, i < n → ∃ c, p i c) → ∃ xs : List Cl, xs.length = n ∧ ∀ i c, xs[i]? = some c → p i c
 | 0, p, h => ⟨[], rfl, fun i c hi => by simp at hi⟩
 | n + 1, p, h => by
  obtain ⟨xs, hl, hp⟩ := list_of n p (fun i hi => h i (by omega))
  obtain ⟨c, hc⟩ := h n (by omega)
  refine ⟨xs ++ [c], by simp [hl], fun i d hi => ?_⟩
  rcases Nat.lt_or_ge i n with h1 | h1
  ·rw [List.getElem?_append_left (by omega)] at hi
   exact hp i d hi
  ·obtain ⟨h2, _⟩ := List.getElem?_eq_some_iff.1 hi
   simp [hl] at h2
   obtain rfl : i = n := by omega
   rw [List.getElem?_append_right (by omega), hl, Nat.sub_self] at hi
   simp at hi
   subst hi
   exact hc
theorem cells_open {n : Nat} {a : Option Addr} {len cap : Nat} {x : DataW H × List MemPlace} (h : DataW.trod enc Try.prog w base spare held n 51 [.slice a len cap] = some x) :
  ∃ xs, IsCells w a len cap xs := by
 rcases open_slice Try.underlying51 h with ⟨hcs, _⟩ | ⟨ad, len', cap', m, n', D, Pl, hcs, hb, hl, hm, hmm, hx, hi⟩
 ·simp at hcs
  obtain ⟨rfl, rfl, rfl⟩ := hcs
  exact ⟨[], rfl, by simp, .inl rfl, fun c hc => by simp at hc⟩
 ·simp at hcs
  obtain ⟨rfl, rfl, rfl⟩ := hcs
  rw [show Try.prog.cellsOf 112 = 3 by kernel_rfl] at hi
  obtain ⟨xs, hxl, hxs⟩ := list_of len (fun i c => c.f < 18446744073709551616 ∧ w.cell? (ad.add (i * 3)) = some (.int .u64 (c.f : Int)) ∧ w.cell? (ad.add (i * 3 + 1)) = some (.int .i64 c.k) ∧ w.cell? (ad.add (i * 3 + 2)) = some (.int .i64 c.v)) (fun i hil => by
   obtain ⟨cs', hc, ht⟩ := hi i (by rw [hmm]; split <;> omega)
   obtain ⟨_, hcl, hat⟩ := World.cells?_some hc
   obtain ⟨c, hf, rfl⟩ := cell_open hcl ht
   have e0 := hat 0 (by omega)
   have e1 := hat 1 (by omega)
   have e2 := hat 2 (by omega)
   rw [add_add] at e0 e1 e2
   exact ⟨c, hf, e0, e1, e2⟩)
  refine ⟨xs, hxl.symm, by omega, ?_, fun c hc => ?_⟩
  ·rcases Nat.eq_zero_or_pos len with h0 | h0
   ·exact .inl (List.length_eq_zero_iff.1 (by omega))
   ·obtain ⟨b, off, spot⟩ := ad
    obtain ⟨_, h1, _, _⟩ := hxs 0 (xs[0]'(by omega)) (List.getElem?_eq_getElem (by omega))
    have hspot : spot = none := by simpa [Addr.add] using World.cell?_spot h1
    subst hspot
    refine .inr ⟨b, off, rfl, fun i c hic => ?_⟩
    have e : ∀ k, ({ block := b, off := off } : Addr).add k = ⟨b, off + k, none⟩ := fun k => by simp [Addr.add]
    have h3 := (hxs i c hic).2
    rw [e, e, e, ← Nat.add_assoc, ← Nat.add_assoc] at h3
    exact h3
  ·obtain ⟨i, hi', hic⟩ := List.mem_iff_getElem.1 hc
   exact (hxs i c (by rw [← hic]; exact List.getElem?_eq_getElem hi')).1
end
end Go.Proofs.Ytnhnedifekejpaa
namespace Go.Proofs.Ytnhnedifekejpaa
open Go.RowKit Go.ChangeShapes Go.WideShapes Go.Deep
section
variable {H : Type} {enc : TypeId × Value → H} {w : World} {base : Nat} {spare : Nat → Bool} {held : Bool}
theorem slice_form {n : Nat} {cs : List Value} {x : DataW H × List MemPlace} (h : DataW.trod enc Try.prog w base spare held n 51 cs = some x) : ∃ a len cap, cs = [.slice a len cap] := by
 rcases open_slice Try.underlying51 h with ⟨hcs, _⟩ | ⟨ad, len', cap', m, n', D, Pl, hcs, _⟩
 ·exact ⟨_, _, _, hcs⟩
 ·exact ⟨_, _, _, hcs⟩
end
end Go.Proofs.Ytnhnedifekejpaa
namespace Go.Proofs.Ytnhnedifekejpaa
open Go.RowKit Go.ChangeShapes Go.WideShapes Go.Deep Go.Joins
theorem list_pick {α : Type} : ∀ (n : Nat) (p : Nat → α → Prop), (∀ i, i < n → ∃ c, p i c) → ∃ xs : List α, xs.length = n ∧ ∀ i c, xs[i]? = some c → p i c
 | 0, p, h => ⟨[], rfl, fun i c hi => by simp at hi⟩
 | n + 1, p, h => by
  obtain ⟨xs, hl, hp⟩ := list_pick n p (fun i hi => h i (by omega))
  obtain ⟨c, hc⟩ := h n (by omega)
  refine ⟨xs ++ [c], by simp [hl], fun i d hi => ?_⟩
  rcases Nat.lt_or_ge i n with h1 | h1
  ·rw [List.getElem?_append_left (by omega)] at hi
   exact hp i d hi
  ·obtain ⟨h2, _⟩ := List.getElem?_eq_some_iff.1 hi
   simp [hl] at h2
   obtain rfl : i = n := by omega
   rw [List.getElem?_append_right (by omega), hl, Nat.sub_self] at hi
   simp at hi
   subst hi
   exact hc
theorem SIn.more {w : World} : ∀ {d e : Nat} {s : SV}, d ≤ e → SIn w d s → SIn w e s
 | 0, _, _, _, h => h.elim
 | d + 1, 0, _, hl, _ => by omega
 | d + 1, e + 1, .mk f ps, hl, ⟨h1, h2, h3⟩ => ⟨h1, h2, fun p hp => SIn.more (by omega) (h3 p hp)⟩
theorem WIn.more {w : World} : ∀ {d e : Nat} {s : WV}, d ≤ e → WIn w d s → WIn w e s
 | 0, _, _, _, h => h.elim
 | d + 1, 0, _, hl, _ => by omega
 | d + 1, e + 1, .mk f ps, hl, ⟨h0, h1, h2, h3⟩ => ⟨h0, h1, h2, fun p hp => WIn.more (by omega) (h3 p hp)⟩
theorem six_len {cs : List Value} (h : cs.length = 6) : ∃ a b c d e f, cs = [a, b, c, d, e, f] := by
 match cs, h with
 | [a, b, c, d, e, f], _ => exact ⟨a, b, c, d, e, f, rfl⟩
section
variable {H : Type} {enc : TypeId × Value → H} {w : World} {base : Nat} {spare : Nat → Bool} {held : Bool}
theorem space_in : ∀ (fuel : Nat) {cs : List Value} {x : DataW H × List MemPlace}, DataW.trod enc Try.prog w base spare held fuel 25 cs = some x → ∃ s : SV, cs = [.int .i64 s.f.tag, .int .i64 s.f.dim, .slice s.f.a s.f.len s.f.cap] ∧ SIn w fuel s := by
 intro fuel
 induction fuel using Nat.strongRecOn with
 | _ fuel ih =>
 intro cs x h
 obtain ⟨xs, n, hn, _, hl, hlen, hg⟩ := DataW.trod_struct Try.underlying25 h
 rw [show Try.prog.cellsOf 25 = 3 by kernel_rfl] at hl
 obtain ⟨a, b, c, rfl⟩ := three_len hl
 have hlen3 : xs.length = 3 := hlen
 have g0 := hg 0 _ rfl
 have g1 := hg 1 _ rfl
 have g2 := hg 2 _ rfl
 rw [show Try.prog.cellsOf _ = 1 by kernel_rfl, List.getElem?_eq_getElem (by omega)] at g0 g1 g2
 obtain ⟨z0, e0, _, w0⟩ := DataW.trod_int (k := .i64) (by kernel_rfl) g0
 obtain ⟨z1, e1, _, w1⟩ := DataW.trod_int (k := .i64) (by kernel_rfl) g1
 simp at e0 e1
 subst e0 e1
 rcases DataW.trod_slice Try.underlying23 g2 with ⟨hcs, _⟩ | ⟨ad, len, cap, elems, rest, n', hn', hcs, _, hb, hle, hcap, hel, hi, _, _⟩
 ·simp at hcs
  subst hcs
  subst hn
  exact ⟨.mk ⟨z0, z1, none, 0, 0⟩ [], rfl, rfl, .inl rfl, fun p hp => by cases hp⟩
 ·simp at hcs
  subst hcs
  subst hn
  rw [show Try.prog.cellsOf 25 = 3 by kernel_rfl] at hi
  obtain ⟨ps, hpl, hps⟩ := list_pick len (fun i (p : SV) => (w.cell? (ad.add (i * 3)) = some (.int .i64 p.f.tag) ∧ w.cell? (ad.add (i * 3 + 1)) = some (.int .i64 p.f.dim) ∧ w.cell? (ad.add (i * 3 + 2)) = some (.slice p.f.a p.f.len p.f.cap)) ∧ SIn w n' p) (fun i hil => by
   have hii := hi i hil
   rw [List.getElem?_eq_getElem (by omega)] at hii
   obtain ⟨cs', hc, ht⟩ := Option.bind_eq_some_iff.1 hii
   obtain ⟨_, hcl, hat⟩ := World.cells?_some hc
   obtain ⟨s, rfl, hs⟩ := ih n' (by omega) ht
   have e0 := hat 0 (by omega)
   have e1 := hat 1 (by omega)
   have e2 := hat 2 (by omega)
   rw [Go.Deep.add_add] at e0 e1 e2
   exact ⟨s, ⟨e0, e1, e2⟩, hs⟩)
  refine ⟨.mk ⟨z0, z1, some ad, len, cap⟩ ps, rfl, hpl, ?_, fun p hp => ?_⟩
  ·rcases Nat.eq_zero_or_pos len with h0 | h0
   ·exact .inl (List.length_eq_zero_iff.1 (by omega))
   ·obtain ⟨b, off, spot⟩ := ad
    obtain ⟨⟨h1, _, _⟩, _⟩ := hps 0 (ps[0]'(by omega)) (List.getElem?_eq_getElem (by omega))
    have hspot : spot = none := by simpa [Addr.add] using World.cell?_spot h1
    subst hspot
    refine .inr ⟨b, off, rfl, fun i c hic => ?_⟩
    have e : ∀ k, ({ block := b, off := off } : Addr).add k = ⟨b, off + k, none⟩ := fun k => by simp [Addr.add]
    have h3 := (hps i c hic).1
    rw [e, e, e, ← Nat.add_assoc, ← Nat.add_assoc] at h3
    exact h3
  ·obtain ⟨i, hi', hic⟩ := List.mem_iff_getElem.1 hp
   exact (hps i p (by rw [← hic]; exact List.getElem?_eq_getElem hi')).2.more (by omega)
theorem u64s_open {n : Nat} {v : Value} {x : DataW H × List MemPlace} (h : DataW.trod enc Try.prog w base spare held n 48 [v] = some x) :
  ∃ (a : Option Addr) (len cap : Nat) (rows : List Nat), v = .slice a len cap ∧ VRow w a (u64s rows) ∧ rows.length = len ∧ ∀ r ∈ rows, r < 18446744073709551616 := by
 rcases open_ints (t := 48) (e := 47) (k := .u64) (by kernel_rfl) (by kernel_rfl) (by kernel_rfl) h with ⟨hcs, _⟩ | ⟨x, len, cap, zs, hcs, _, hl, hm, hz, _, hcell, hwz⟩
 ·have hcs' : v = .slice none 0 0 := by simpa using hcs
  subst hcs'
  exact ⟨none, 0, 0, [], rfl, .inl rfl, rfl, fun r hr => by cases hr⟩
 ·have hcs' : v = .slice (some x) len cap := by simpa using hcs
  subst hcs'
  have hzl : len ≤ zs.length := by rw [hz]; split <;> omega
  refine ⟨some x, len, cap, (zs.take len).map Int.toNat, rfl, ?_, ?_, ?_⟩
  ·rcases Nat.eq_zero_or_pos len with h0 | h0
   ·subst h0; exact .inl (by simp [u64s])
   ·obtain ⟨b, off, spot⟩ := x
    have hc0 := hcell 0 (by omega)
    have hspot : spot = none := by simpa [Addr.add] using World.cell?_spot hc0
    subst hspot
    refine .inr ⟨b, off, rfl, fun i v hi => ?_⟩
    obtain ⟨q, hq, rfl⟩ := u64s_at hi
    rw [List.getElem?_map, List.getElem?_take] at hq
    split at hq
    ·rename_i hlt
     have hi2 : i < zs.length := by omega
     rw [List.getElem?_eq_getElem hi2] at hq
     have hq' : (zs[i]).toNat = q := by simpa using hq
     obtain ⟨m, hm1, hm2⟩ := u64_nat (hwz _ (List.getElem_mem hi2))
     have hc := hcell i hi2
     have e : ({ block := b, off := off } : Addr).add i = ⟨b, off + i, none⟩ := by simp [Addr.add]
     rw [e] at hc
     rw [hc]
     have : zs.getD i 0 = zs[i] := by simp [List.getD, List.getElem?_eq_getElem hi2]
     rw [this, hm1, ← hq', hm1]
     rfl
    ·cases hq
  ·simp; omega
  ·intro r hr
   obtain ⟨z, hz1, rfl⟩ := List.mem_map.1 hr
   obtain ⟨m, hm1, hm2⟩ := u64_nat (hwz z (List.mem_of_mem_take hz1))
   rw [hm1]; exact hm2
theorem facts_in {n : Nat} {a b : Value} {x : DataW H × List MemPlace} (h : DataW.trod enc Try.prog w base spare held n 50 [a, b] = some x) :
  ∃ (g : Nat) (ra : Option Addr) (rl rc : Nat) (rows : List Nat), a = .int .u64 (g : Int) ∧ b = .slice ra rl rc ∧ g < 18446744073709551616 ∧ VRow w ra (u64s rows) ∧ rows.length = rl ∧ ∀ r ∈ rows, r < 18446744073709551616 := by
 obtain ⟨xs, n', _, _, hl, hlen, hg⟩ := DataW.trod_struct Try.underlying50 h
 have hlen2 : xs.length = 2 := hlen
 have g0 := hg 0 _ rfl
 have g1 := hg 1 _ rfl
 rw [show Try.prog.cellsOf _ = 1 by kernel_rfl, List.getElem?_eq_getElem (by omega)] at g0 g1
 obtain ⟨z0, e0, _, w0⟩ := DataW.trod_int (k := .u64) (by kernel_rfl) g0
 simp at e0
 subst e0
 obtain ⟨g, rfl, hg64⟩ := u64_nat w0
 obtain ⟨ra, rl, rc, rows, e1, h1, h2, h3⟩ := u64s_open (v := b) g1
 exact ⟨g, ra, rl, rc, rows, rfl, e1, hg64, h1, h2, h3⟩
theorem weight_in : ∀ (fuel : Nat) {cs : List Value} {x : DataW H × List MemPlace}, DataW.trod enc Try.prog w base spare held fuel 54 cs = some x → ∃ s : WV, cs = s.f.six ∧ WIn w fuel s := by
 intro fuel
 induction fuel using Nat.strongRecOn with
 | _ fuel ih =>
 intro cs x h
 obtain ⟨xs, n, hn, _, hl, hlen, hg⟩ := DataW.trod_struct Try.underlying54 h
 rw [show Try.prog.cellsOf 54 = 6 by kernel_rfl] at hl
 obtain ⟨a, b, c, d, e, f, rfl⟩ := six_len hl
 have hlen5 : xs.length = 5 := hlen
 have g0 := hg 0 _ rfl
 have g1 := hg 1 _ rfl
 have g2 := hg 2 _ rfl
 have g3 := hg 3 _ rfl
 have g4 := hg 4 _ rfl
 rw [show Try.prog.cellsOf _ = 1 by kernel_rfl, List.getElem?_eq_getElem (by omega)] at g0 g1 g3 g4
 rw [show Try.prog.cellsOf _ = 2 by kernel_rfl, List.getElem?_eq_getElem (by omega)] at g2
 obtain ⟨z0, e0, _⟩ := DataW.trod_bool (by kernel_rfl) g0
 obtain ⟨z1, e1, _, w1⟩ := DataW.trod_int (k := .i64) (by kernel_rfl) g1
 simp at e0 e1
 subst e0 e1
 obtain ⟨gg, ra, rl, rc, rows, rfl, rfl, hg64, hrow, hrl, hr64⟩ := facts_in (a := c) (b := d) g2
 obtain ⟨ca, cl, cc, e3⟩ := slice_form g3
 have e3' : e = .slice ca cl cc := by simpa using e3
 subst e3'
 obtain ⟨cells, hcl, hcm, hcrow, hcbits⟩ := cells_open (a := ca) (len := cl) (cap := cc) g3
 rcases DataW.trod_slice Try.underlying52 g4 with ⟨hcs, _⟩ | ⟨ad, len, cap, elems, rest, n', hn', hcs, _, hb, hle, hcap, hel, hi, _, _⟩
 ·simp at hcs
  subst hcs
  subst hn
  exact ⟨.mk ⟨z0, z1, gg, ra, rl, rc, rows, ca, cl, cc, cells, none, 0, 0⟩ [], rfl, ⟨hrow, hrl, hg64, hr64, hcrow, hcl.symm, hcbits, by dsimp only; omega⟩, rfl, .inl rfl, fun p hp => by cases hp⟩
 ·simp at hcs
  subst hcs
  subst hn
  rw [show Try.prog.cellsOf 54 = 6 by kernel_rfl] at hi
  obtain ⟨ps, hpl, hps⟩ := list_pick len (fun i (p : WV) => (w.cell? (ad.add (i * 6)) = some (.bool p.f.z) ∧ w.cell? (ad.add (i * 6 + 1)) = some (.int .i64 p.f.c) ∧ w.cell? (ad.add (i * 6 + 2)) = some (.int .u64 (p.f.g : Int)) ∧ w.cell? (ad.add (i * 6 + 3)) = some (.slice p.f.ra p.f.rl p.f.rc) ∧ w.cell? (ad.add (i * 6 + 4)) = some (.slice p.f.ca p.f.cl p.f.cc) ∧ w.cell? (ad.add (i * 6 + 5)) = some (.slice p.f.pa p.f.pl p.f.pc)) ∧ WIn w n' p) (fun i hil => by
   have hii := hi i hil
   rw [List.getElem?_eq_getElem (by omega)] at hii
   obtain ⟨cs', hc, ht⟩ := Option.bind_eq_some_iff.1 hii
   obtain ⟨_, hcl, hat⟩ := World.cells?_some hc
   obtain ⟨s, rfl, hs⟩ := ih n' (by omega) ht
   have e0 := hat 0 (by omega)
   have e1 := hat 1 (by omega)
   have e2 := hat 2 (by omega)
   have e3 := hat 3 (by omega)
   have e4 := hat 4 (by omega)
   have e5 := hat 5 (by omega)
   rw [Go.Deep.add_add] at e0 e1 e2 e3 e4 e5
   exact ⟨s, ⟨e0, e1, e2, e3, e4, e5⟩, hs⟩)
  refine ⟨.mk ⟨z0, z1, gg, ra, rl, rc, rows, ca, cl, cc, cells, some ad, len, cap⟩ ps, rfl, ⟨hrow, hrl, hg64, hr64, hcrow, hcl.symm, hcbits, by dsimp only; omega⟩, hpl, ?_, fun p hp => ?_⟩
  ·rcases Nat.eq_zero_or_pos len with h0 | h0
   ·exact .inl (List.length_eq_zero_iff.1 (by omega))
   ·obtain ⟨b, off, spot⟩ := ad
    obtain ⟨⟨h1, _⟩, _⟩ := hps 0 (ps[0]'(by omega)) (List.getElem?_eq_getElem (by omega))
    have hspot : spot = none := by simpa [Addr.add] using World.cell?_spot h1
    subst hspot
    refine .inr ⟨b, off, rfl, fun i c hic => ?_⟩
    have e : ∀ k, ({ block := b, off := off } : Addr).add k = ⟨b, off + k, none⟩ := fun k => by simp [Addr.add]
    have h3 := (hps i c hic).1
    rw [e, e, e, e, e, e, ← Nat.add_assoc, ← Nat.add_assoc, ← Nat.add_assoc, ← Nat.add_assoc, ← Nat.add_assoc] at h3
    exact h3
  ·obtain ⟨i, hi', hic⟩ := List.mem_iff_getElem.1 hp
   exact (hps i p (by rw [← hic]; exact List.getElem?_eq_getElem hi')).2.more (by omega)
end
end Go.Proofs.Ytnhnedifekejpaa
namespace Go.Proofs.Ytnhnedifekejpaa
open Go.RowKit Go.ChangeShapes Go.WideShapes Go.Deep Go.Joins
theorem ten_len {cs : List Value} (h : cs.length = 10) : ∃ a b c d e f g i j k, cs = [a, b, c, d, e, f, g, i, j, k] := by
 match cs, h with
 | [a, b, c, d, e, f, g, i, j, k], _ => exact ⟨a, b, c, d, e, f, g, i, j, k, rfl⟩
theorem cellsAt_of {w : World} {b : Nat} : ∀ (vs : List Value) (o : Nat), (∀ (j : Nat) u, vs[j]? = some u → w.cell? ⟨b, o + j, none⟩ = some u) → CellsAt w b o vs
 | [], _, _ => trivial
 | v :: vs, o, h => ⟨h 0 v rfl, cellsAt_of vs (o + 1) fun j u hj => by have := h (j + 1) u (by simpa using hj); rwa [show o + 1 + j = o + (j + 1) by omega]⟩
section
variable {H : Type} {enc : TypeId × Value → H} {w : World} {base : Nat} {spare : Nat → Bool} {held : Bool}
theorem ints_in {n : Nat} {v : Value} {x : DataW H × List MemPlace} (h : DataW.trod enc Try.prog w base spare held n 30 [v] = some x) :
  ∃ (a : Option Addr) (len cap : Nat) (zs : List Int), v = .slice a len cap ∧ Row w a zs ∧ zs.length = len ∧ len ≤ cap ∧ cap ≤ maxLen := by
 rcases open_ints (t := 30) (e := 3) (k := .i64) (by kernel_rfl) (by kernel_rfl) (by kernel_rfl) h with ⟨hcs, _⟩ | ⟨x, len, cap, zs, hcs, _, hl, hm, hz, _, hcell, hwz⟩
 ·have hcs' : v = .slice none 0 0 := by simpa using hcs
  subst hcs'
  exact ⟨none, 0, 0, [], rfl, .inl rfl, rfl, Nat.le_refl _, Nat.zero_le _⟩
 ·have hcs' : v = .slice (some x) len cap := by simpa using hcs
  subst hcs'
  have hzl : len ≤ zs.length := by rw [hz]; split <;> omega
  refine ⟨some x, len, cap, zs.take len, rfl, ?_, by simp; omega, hl, hm⟩
  rcases Nat.eq_zero_or_pos len with h0 | h0
  ·subst h0; exact .inl (by simp)
  ·obtain ⟨b, off, spot⟩ := x
   have hc0 := hcell 0 (by omega)
   have hspot : spot = none := by simpa [Addr.add] using World.cell?_spot hc0
   subst hspot
   refine .inr ⟨b, off, rfl, fun i hi => ?_⟩
   have hi1 : i < len := by simp at hi; omega
   have hi2 : i < zs.length := by omega
   have hc := hcell i hi2
   have e : ({ block := b, off := off } : Addr).add i = ⟨b, off + i, none⟩ := by simp [Addr.add]
   rw [e] at hc
   rw [hc]
   simp [List.getD, List.getElem?_take, hi1]
end
end Go.Proofs.Ytnhnedifekejpaa
namespace Go.Proofs.Ytnhnedifekejpaa
open Go.RowKit Go.ChangeShapes Go.WideShapes Go.Deep Go.Joins
structure PvCap (p : PV) : Prop where
 s : p.s.f.len ≤ p.s.f.cap
 r : ∀ r ∈ p.rs, r.wl ≤ r.wc
 rl : p.rl ≤ 9223372036854775807
section
variable {H : Type} {enc : TypeId × Value → H} {w : World} {base : Nat} {spare : Nat → Bool} {held : Bool}
theorem space_cap {n : Nat} {sf : SF} {x : DataW H × List MemPlace} (h : DataW.trod enc Try.prog w base spare held n 25 [.int .i64 sf.tag, .int .i64 sf.dim, .slice sf.a sf.len sf.cap] = some x) : sf.len ≤ sf.cap := by
 obtain ⟨xs, n', hn, _, hl, hlen, hg⟩ := DataW.trod_struct Try.underlying25 h
 have hlen3 : xs.length = 3 := hlen
 have g2 := hg 2 _ rfl
 rw [show Try.prog.cellsOf _ = 1 by kernel_rfl, List.getElem?_eq_getElem (by omega)] at g2
 rcases DataW.trod_slice Try.underlying23 g2 with ⟨hcs, _⟩ | ⟨ad, len, cap, elems, rest, n2, hn2, hcs, _, hb, hle, hcap, hel, hi, _, _⟩
 ·simp at hcs
  omega
 ·simp at hcs
  obtain ⟨_, rfl, rfl⟩ := hcs
  omega
theorem rule_in2 {n : Nat} {cs : List Value} {x : DataW H × List MemPlace} (h : DataW.trod enc Try.prog w base spare held n 56 cs = some x) : ∃ r : RV, cs = r.ten ∧ RIn w n r ∧ r.wl ≤ r.wc := by
 obtain ⟨xs, n', hn, _, hl, hlen, hg⟩ := DataW.trod_struct Try.underlying56 h
 rw [show Try.prog.cellsOf 56 = 10 by kernel_rfl] at hl
 obtain ⟨a, b, c, d, e, f, g, i, j, k, rfl⟩ := ten_len hl
 have hlen5 : xs.length = 5 := hlen
 have g0 := hg 0 _ rfl
 have g1 := hg 1 _ rfl
 have g2 := hg 2 _ rfl
 have g3 := hg 3 _ rfl
 have g4 := hg 4 _ rfl
 rw [show Try.prog.cellsOf _ = 1 by kernel_rfl, List.getElem?_eq_getElem (by omega)] at g0 g1 g2 g3
 rw [show Try.prog.cellsOf _ = 6 by kernel_rfl, List.getElem?_eq_getElem (by omega)] at g4
 obtain ⟨z0, e0, _, w0⟩ := DataW.trod_int (k := .i64) (by kernel_rfl) g0
 obtain ⟨z1, e1, _, w1⟩ := DataW.trod_int (k := .i64) (by kernel_rfl) g1
 obtain ⟨z2, e2, _, w2⟩ := DataW.trod_int (k := .i64) (by kernel_rfl) g2
 simp at e0 e1 e2
 subst e0 e1 e2
 obtain ⟨ra, rl, rc, ws, rfl, hrow, hrl, hcap9, _⟩ := ints_in (v := d) g3
 obtain ⟨s, e4, hs⟩ := weight_in n' g4
 have e4' : [e, f, g, i, j, k] = s.f.six := by simpa using e4
 simp only [List.cons.injEq, and_true] at e4'
 obtain ⟨rfl, rfl, rfl, rfl, rfl, rfl⟩ := e4'
 exact ⟨⟨z0, z1, z2, ra, rl, rc, ws, s⟩, rfl, ⟨hrow, hrl, hs.more (by omega)⟩, hcap9⟩
theorem pds_in2 {n : Nat} {cs : List Value} {x : DataW H × List MemPlace} (h : DataW.trod enc Try.prog w base spare held n 28 cs = some x) : ∃ p : PV, cs = p.six ∧ PvIn w n n p ∧ PvCap p := by
 obtain ⟨xs, n', hn, _, hl, hlen, hg⟩ := DataW.trod_struct Try.underlying28 h
 rw [show Try.prog.cellsOf 28 = 6 by kernel_rfl] at hl
 obtain ⟨a, b, c, d, e, f, rfl⟩ := six_len hl
 have hlen4 : xs.length = 4 := hlen
 have g0 := hg 0 _ rfl
 have g1 := hg 1 _ rfl
 have g2 := hg 2 _ rfl
 have g3 := hg 3 _ rfl
 rw [show Try.prog.cellsOf _ = 3 by kernel_rfl, List.getElem?_eq_getElem (by omega)] at g0
 rw [show Try.prog.cellsOf _ = 1 by kernel_rfl, List.getElem?_eq_getElem (by omega)] at g1 g2 g3
 obtain ⟨s, es, hs⟩ := space_in n' g0
 have es' : [a, b, c] = [.int .i64 s.f.tag, .int .i64 s.f.dim, .slice s.f.a s.f.len s.f.cap] := by simpa using es
 simp only [List.cons.injEq, and_true] at es'
 obtain ⟨rfl, rfl, rfl⟩ := es'
 obtain ⟨z1, e1, _, w1⟩ := DataW.trod_int (k := .i64) (by kernel_rfl) g1
 obtain ⟨z2, e2, _, w2⟩ := DataW.trod_int (k := .i64) (by kernel_rfl) g2
 simp at e1 e2
 subst e1 e2
 rcases DataW.trod_slice Try.underlying26 g3 with ⟨hcs, _⟩ | ⟨ad, len, cap, elems, rest, n2, hn2, hcs, _, hb, hle, hcap, hel, hi, _, _⟩
 ·simp at hcs
  subst hcs
  exact ⟨⟨s, z1, z2, none, 0, 0, []⟩, rfl, ⟨hs.more (by omega), .inl rfl, rfl, fun r hr => by cases hr⟩, space_cap g0, (fun r hr => by cases hr), Nat.zero_le _⟩
 ·simp at hcs
  subst hcs
  rw [show Try.prog.cellsOf 56 = 10 by kernel_rfl] at hi
  obtain ⟨rs, hrl, hrs⟩ := list_pick len (fun i (r : RV) => (∀ (j : Nat) u, r.ten[j]? = some u → w.cell? (ad.add (i * 10 + j)) = some u) ∧ RIn w n2 r ∧ r.wl ≤ r.wc) (fun i hil => by
   have hii := hi i hil
   rw [List.getElem?_eq_getElem (by omega)] at hii
   obtain ⟨cs', hc, ht⟩ := Option.bind_eq_some_iff.1 hii
   obtain ⟨_, hcl, hat⟩ := World.cells?_some hc
   obtain ⟨r, rfl, hr, hr9⟩ := rule_in2 ht
   refine ⟨r, fun j u hj => ?_, hr, hr9⟩
   have hj10 : j < 10 := (List.getElem?_eq_some_iff.1 hj).1
   have h0 := hat j (by omega)
   rw [Go.Deep.add_add] at h0
   rw [h0]; exact hj)
  refine ⟨⟨s, z1, z2, some ad, len, cap, rs⟩, rfl, ⟨hs.more (by omega), ?_, hrl, fun r hr => ?_⟩, space_cap g0, fun r hr => ?_, by simp only [maxLen] at hcap hle; dsimp only; omega⟩
  ·rcases Nat.eq_zero_or_pos len with h0 | h0
   ·exact .inl (List.length_eq_zero_iff.1 (by dsimp only; omega))
   ·obtain ⟨b, off, spot⟩ := ad
    have h1 := (hrs 0 (rs[0]'(by omega)) (List.getElem?_eq_getElem (by omega))).1 0 _ rfl
    have hspot : spot = none := by simpa [Addr.add] using World.cell?_spot h1
    subst hspot
    refine .inr ⟨b, off, rfl, fun i r hir => cellsAt_of _ _ fun j u hj => ?_⟩
    have h3 := (hrs i r hir).1 j u hj
    have e : ∀ k, ({ block := b, off := off } : Addr).add k = ⟨b, off + k, none⟩ := fun k => by simp [Addr.add]
    rw [e, ← Nat.add_assoc] at h3
    exact h3
  ·obtain ⟨i, hi', hic⟩ := List.mem_iff_getElem.1 hr
   have h4 := (hrs i r (by rw [← hic]; exact List.getElem?_eq_getElem hi')).2.1
   exact ⟨h4.row, h4.len, h4.x.more (by omega)⟩
  ·obtain ⟨i, hi', hic⟩ := List.mem_iff_getElem.1 hr
   exact (hrs i r (by rw [← hic]; exact List.getElem?_eq_getElem hi')).2.2
theorem pds_open2 {r : Reach} {b0 : Nat} {v : Value} {d : DataW H} {p : List MemPlace} (hv : Value.okWide Try.prog w r b0 28 v) (h : DataW.Trod enc Try.prog w base spare held 28 v d p) :
  ∃ (n : Nat) (s : PV), v = s.val ∧ PvIn w n n s ∧ PvCap s := by
 obtain ⟨cs, rfl, _⟩ := okWide_struct Try.underlying28 hv
 obtain ⟨n, h⟩ := h
 obtain ⟨s, e, hs⟩ := pds_in2 (n := n) h
 have e' : cs.toList = _ := e
 exact ⟨n, s, by show Value.agg cs = Value.agg _; congr 1; exact Array.ext' e', hs⟩
end
end Go.Proofs.Ytnhnedifekejpaa
namespace Go.Proofs.Ytnhnedifekejpaa
open Go Go.RowKit
theorem goes_10 : goesIn Try.prog 10 = true := by kernel_rfl
theorem goes_11 : goesIn Try.prog 11 = true := by kernel_rfl
theorem goes_12 : goesIn Try.prog 12 = true := by kernel_rfl
theorem goes_9 : goesIn Try.prog 9 = true := by kernel_rfl
theorem topA_is {ds d : Nat} {p : PV} {a b : Int} {w : World} (hp : PvIn w ds d p) : Calls Try.prog 10 #[p.val, .int .i64 a, .int .i64 b] w (TopRet (topE p a b) w) := topA_c ds d p.s p.st p.sy p.ra p.rl p.rc p.rs a b w hp.s hp.row hp.len hp.rin
theorem topR_is {ds d : Nat} {p : PV} {a b : Int} {w : World} (hp : PvIn w ds d p) : Calls Try.prog 11 #[p.val, .int .i64 a, .int .i64 b] w (TopRet (topE p a b) w) := topR_c ds d p.s p.st p.sy p.ra p.rl p.rc p.rs a b w hp.s hp.row hp.len hp.rin
theorem topRet_pair {X : List Int × Int} {tl : List Int} {te : Int} {w w' : World} {e : Ending} (hX : X = (tl, te)) (h : TopRet X w e w') : ∃ a c, e = .returned (.tuple #[.slice a tl.length c, .int .i64 te]) ∧ RowN w.heap.size w' a c tl ∧ Below w.heap.size w w' := by
 subst hX; exact h
theorem pdsTops_walk0 (ds d : Nat) (p : PV) (pa pb : Int) (w : World) (hp : PvIn w (ds + 1) d p) (hc : PvCap9 p) (hrm : p.rl ≤ 9223372036854775807) (ht : Tabs w) :
  Calls Try.prog 3 #[p.val, .int .i64 pa, .int .i64 pb] w (fun e w' => e = .returned (.bool (true)) ∧ Below w.heap.size w w') := by
 refine enterF (args := [p.val, .int .i64 pa, .int .i64 pb]) Try.func3 rfl Try.ntmps3 rfl ?_
 have hS := St.start w
 refine seqF (regF ?_)
 refine op_box (cs := [_, _, _, _, _, _]) hS rfl rfl rfl ?_
 clear hS; intro B1 W1 hS
 refine op_assign rfl rfl ?_
 refine endF (XF.thenN ?_)
 refine seqF (regF ?_)
 refine op_loadA (vs := [_, _, _, _, _, _]) Try.isAgg28 Try.sizeOf28 rfl (CellsAt.own (j := 0) (m := 6) (hS.at_ 0 rfl) rfl) rfl ?_
 refine op_call (vs := [_]) hS goes_9 rfl (pcut_is hS.below hp hc hrm) rfl ?_
 rintro e W2 ⟨q, rfl, hq, hb⟩
 refine ⟨_, rfl, hb, fun hS' => ?_⟩
 clear hS; have hS := hS'; clear hS'
 clear hb
 have HQ : Held w [(W1.heap.size, W2)] (fun W2 => PvIn W2 (ds + 1) d q) := fun h2 hk => hq.far _ h2.below (h2.kept _ (hk _ List.mem_cons_self)).1
 obtain ⟨⟨tl, te⟩, hX⟩ : ∃ X, topE q pa pb = X := ⟨_, rfl⟩
 refine op_storeA (i := 0) (vs := [_, _, _, _, _, _]) (cs' := [_, _, _, _, _, _]) (O' := [_]) hS Try.sizeOf28 rfl rfl rfl rfl rfl rfl rfl ?_
 clear hS; intro W3 hS
 refine endF (XF.thenN ?_)
 refine seqF (regF ?_)
 refine op_loadA (vs := [_, _, _, _, _, _]) Try.isAgg28 Try.sizeOf28 rfl (CellsAt.own (j := 0) (m := 6) (hS.at_ 0 rfl) rfl) rfl ?_
 refine op_move rfl rfl ?_
 refine op_move rfl rfl ?_
 refine op_call (vs := [_, _, _]) hS goes_10 rfl ((topA_is (HQ hS (fun z hz => by simp at hz; subst hz; simp))).mono fun e w2 h => topRet_pair hX h) rfl ?_
 rintro e W4 ⟨a1, c1, rfl, hn1, hb⟩
 refine ⟨_, rfl, hb, fun hS' => ?_⟩
 clear hS; have hS := hS'; clear hS' hb
 refine op_move rfl rfl ?_
 refine op_extract rfl rfl rfl ?_
 refine op_extract rfl rfl rfl ?_
 refine op_assign rfl rfl ?_
 refine op_assign rfl rfl ?_
 refine endF (XF.thenN ?_)
 refine seqF (regF ?_)
 refine op_loadA (vs := [_, _, _, _, _, _]) Try.isAgg28 Try.sizeOf28 rfl (CellsAt.own (j := 0) (m := 6) (hS.at_ 0 rfl) rfl) rfl ?_
 refine op_move rfl rfl ?_
 refine op_move rfl rfl ?_
 refine op_call (vs := [_, _, _]) hS goes_11 rfl ((topR_is (HQ hS (fun z hz => by simp at hz; subst hz; simp))).mono fun e w2 h => topRet_pair hX h) rfl ?_
 rintro e W5 ⟨a2, c2, rfl, hn2, hb⟩
 refine ⟨_, rfl, hb, fun hS' => ?_⟩
 clear hS; have hS := hS'; clear hS' hb
 refine op_move rfl rfl ?_
 refine op_extract rfl rfl rfl ?_
 refine op_extract rfl rfl rfl ?_
 refine op_assign rfl rfl ?_
 refine op_assign rfl rfl ?_
 refine endF (XF.thenN ?_)
 refine seqF ?_
 refine seqF ?_
 have hm1 := hn1.agree (hS.since 1 rfl)
 have hm2 := hn2.agree (hS.since 0 rfl)
 have hll : tl.length ≤ 9223372036854775807 := by have h9 := rowN_lim9 hm1; simp only [maxLen] at h9; omega
 refine regF ?_
 refine op_move rfl rfl ?_
 refine op_len Try.underlying30 rfl rfl ?_
 refine op_move rfl rfl ?_
 refine op_len Try.underlying30 rfl rfl ?_
 refine op_neq rfl rfl rfl ?_
 refine op_move rfl rfl ?_
 refine op_cases (d := 33) rfl (fun hc => absurd (of_decide_eq_true hc) (by exact fun h => h rfl)) (fun hc => ?_)
 have hc := of_decide_eq_false hc
 refine op_wantedF (d := 33) rfl rfl ?_
 refine op_move rfl rfl ?_
 refine op_wantedF (d := 33) rfl rfl ?_
 refine op_move rfl rfl ?_
 refine op_wantedF (d := 33) rfl rfl ?_
 refine op_neq rfl rfl rfl ?_
 refine op_pickF rfl rfl rfl ?_
 refine endF (XF.thenN ?_)
 refine condF rfl (fun hc => absurd (of_decide_eq_true hc) (by exact fun h => h rfl)) (fun hc => ?_)
 have hc := of_decide_eq_false hc
 refine skipF ?_
 refine XF.thenN ?_
 refine seqF ?_
 refine seqF ?_
 have HR : Held w [(W4.heap.size, W5), (W3.heap.size, W4), (W1.heap.size, W2)] (fun W2 => RowN _ W2 a1 c1 tl ∧ RowN _ W2 a2 c2 tl) := fun h2 hk => ⟨hn1.agree (h2.kept (_, _) (hk _ (List.mem_cons_of_mem _ List.mem_cons_self))).1, hn2.agree (h2.kept (_, _) (hk _ List.mem_cons_self)).1⟩
 refine regF ?_
 refine op_assign rfl rfl ?_
 refine endF (XF.thenN ?_)
 refine blockF ?_
 refine loopF (fun m l W => ∃ (i : Nat) (lo1 lo2 : Nat) (Kk : List (Nat × World)), i ≤ tl.length ∧ m = tl.length - i ∧ l = [(3, .pointer (some ⟨B1, 0, none⟩)), (7, .slice a1 tl.length c1), (9, .slice a2 tl.length c2), (11, .int .i64 (i : Int))] ∧ Held w Kk (fun W2 => RowN lo1 W2 a1 c1 tl ∧ RowN lo2 W2 a2 c2 tl) ∧ St w [(B1, q.six, 28)] [] Kk W) (tl.length - 0) ([(3, _), (7, _), (9, _), (11, _)]) ⟨rfl, rfl, rfl, rfl, trivial⟩ (⟨0, _, _, _, Nat.zero_le _, rfl, rfl, HR.more (fun z hz => by simp at hz ⊢; rcases hz with rfl | rfl | rfl <;> simp), hS⟩) ?_
 clear hS
 rintro m l W ⟨i, lo1, lo2, Kk, hi, rfl, rfl, HR, hS⟩
 refine seqF ?_
 refine seqF (regF ?_)
 refine op_move rfl rfl ?_
 refine op_move rfl rfl ?_
 refine op_len Try.underlying30 rfl rfl ?_
 refine op_lss rfl rfl rfl ?_
 refine endF (XF.thenN ?_)
 refine condF rfl (fun hc => ?_) (fun hc => ?_)
 ·have hc41 := of_decide_eq_true hc; clear hc
  have hk : i < tl.length := by omega
  obtain ⟨y, hy⟩ : ∃ y, tl[i]? = some y := ⟨tl[i], by simp [hk]⟩
  obtain ⟨hw1, hw2⟩ := HR hS (fun z hz => hz)
  obtain ⟨b1, rfl⟩ := rowN_addr hw1 (by omega)
  obtain ⟨b2, rfl⟩ := rowN_addr hw2 (by omega)
  have k1 : W.cell? ⟨b1, 0 + i * 1, none⟩ = some (.int .i64 y) := by rw [Nat.zero_add, Nat.mul_one]; exact rowN_cell9 hw1 hy
  have k2 : W.cell? ⟨b2, 0 + i * 1, none⟩ = some (.int .i64 y) := by rw [Nat.zero_add, Nat.mul_one]; exact rowN_cell9 hw2 hy
  refine skipF ?_
  refine XF.thenN ?_
  refine seqF ?_
  refine blockF ?_
  refine seqF ?_
  refine regB (m := 9) followsM hS (by kernel_rfl) (by kernel_rfl) rfl ?_
  refine bl_cons 1 rfl (isV _) (stab_isV _) (rgV (li := [(7, _)]) rfl (w_free rfl) ⟨g_fr (by kernel_rfl) rfl, trivial⟩ (fun w hw => rn_move rfl) (at_top rfl)) ?_
  refine bl_cons 2 rfl (isV _) (stab_isV _) (rgV (li := [(11, _)]) rfl (w_free rfl) ⟨g_fr (by kernel_rfl) rfl, trivial⟩ (fun w hw => rn_move rfl) (at_top rfl)) ?_
  refine bl_cons 3 rfl (isV _) (stab_isV _) (rgV (li := [(44, _), (45, _)]) rfl (w_free rfl) ⟨g_dep 0 (by kernel_rfl) (at_dep rfl rfl rfl), g_dep 1 (by kernel_rfl) (at_dep rfl rfl rfl), trivial⟩ (fun w hw => rn_indexA  Try.underlying30 Try.sizeOf3 rfl rfl rfl (by omega) rfl) (at_top rfl)) ?_
  refine bl_cons 4 rfl (isV _) (stab_isV _) (rgV (li := [(46, _)]) rfl (w_free rfl) ⟨g_dep 2 (by kernel_rfl) (at_dep rfl rfl rfl), trivial⟩ (fun w hw => rn_load Try.isAgg3 rfl ((below_agree hw 0).cell (Nat.zero_le _) (k1))) (at_top rfl)) ?_
  refine bl_cons 5 rfl (isV _) (stab_isV _) (rgV (li := [(9, _)]) rfl (w_free rfl) ⟨g_fr (by kernel_rfl) rfl, trivial⟩ (fun w hw => rn_move rfl) (at_top rfl)) ?_
  refine bl_cons 6 rfl (isV _) (stab_isV _) (rgV (li := [(11, _)]) rfl (w_free rfl) ⟨g_fr (by kernel_rfl) rfl, trivial⟩ (fun w hw => rn_move rfl) (at_top rfl)) ?_
  refine bl_cons 7 rfl (isV _) (stab_isV _) (rgV (li := [(48, _), (49, _)]) rfl (w_free rfl) ⟨g_dep 4 (by kernel_rfl) (at_dep rfl rfl rfl), g_dep 5 (by kernel_rfl) (at_dep rfl rfl rfl), trivial⟩ (fun w hw => rn_indexA  Try.underlying30 Try.sizeOf3 rfl rfl rfl (by omega) rfl) (at_top rfl)) ?_
  refine bl_cons 8 rfl (isV _) (stab_isV _) (rgV (li := [(50, _)]) rfl (w_free rfl) ⟨g_dep 6 (by kernel_rfl) (at_dep rfl rfl rfl), trivial⟩ (fun w hw => rn_load Try.isAgg3 rfl ((below_agree hw 0).cell (Nat.zero_le _) (k2))) (at_top rfl)) ?_
  refine bl_cons 9 rfl (isV _) (stab_isV _) (rgV (li := [(47, _), (51, _)]) rfl (w_free rfl) ⟨g_dep 3 (by kernel_rfl) (at_dep rfl rfl rfl), g_dep 7 (by kernel_rfl) (at_dep rfl rfl rfl), trivial⟩ (fun w hw => rn_neq rfl rfl) (at_top rfl)) ?_
  refine bl_nil ?_
  intro W6 hbR hS'
  clear hS; have hS := hS'; clear hS'
  refine fin_v ?_
  refine fin_v ?_
  refine fin_v ?_
  refine fin_v ?_
  refine fin_v ?_
  refine fin_v ?_
  refine fin_v ?_
  refine fin_v ?_
  refine fin_v ?_
  refine fin_nil ?_
  refine XF.thenN ?_
  refine condF rfl (fun hc => absurd hc (by simp)) (fun hc => ?_)
  skip
  refine skipF ?_
  refine XF.blkN ?_
  refine XF.thenN ?_
  refine regF ?_
  refine op_move rfl rfl ?_
  refine op_add rfl rfl (IntWalk.i64_in _ (by omega)) rfl ?_
  refine op_assign rfl rfl ?_
  refine endF ?_
  exact XF.round (tl.length - (i + 1)) [(3, _), (7, _), (9, _), (11, _)] (by omega) ⟨rfl, rfl, rfl, rfl, trivial⟩ ⟨i + 1, lo1, lo2, _, by omega, rfl, rfl, HR.more (fun z hz => by simp [hz]), hS⟩
 ·have hc41 := of_decide_eq_false hc; clear hc
  refine exitF ?_
  refine XF.thenX ?_
  refine XF.thenX ?_
  refine XF.blkX ?_
  refine XF.thenN ?_
  refine seqF (regF ?_)
  refine op_call (vs := []) hS goes_12 rfl (alive_is _ (ht.below hS.below)) rfl ?_
  rintro e W7 ⟨rfl, hb⟩
  refine ⟨_, rfl, hb, fun hS' => ?_⟩
  clear hS; have hS := hS'; clear hS' hb
  refine op_assign rfl rfl ?_
  refine endF (XF.thenN ?_)
  refine retF ?_
  refine XF.res (res1 Try.results3 rfl) ?_
  exact ⟨rfl, hS.below⟩
theorem pdsTops_walk (n : Nat) (p : PV) (pa pb : Int) (w : World) (hp : PvIn w n n p ∧ PvCap p) (ha : (Lit.int .i64 pa).wf = true) (hb : (Lit.int .i64 pb).wf = true) : Calls Try.prog 3 #[p.val, .int .i64 pa, .int .i64 pb] w (fun e w' => e = .returned (.bool (true)) ∧ Below w.heap.size w w') := by
 cases n with
 | zero => exact hp.1.s.elim
 | succ n => exact pdsTops_walk0 n (n + 1) p pa pb w hp.1 ⟨hp.2.s, hp.2.r⟩ hp.2.rl (tabs_none w)
end Go.Proofs.Ytnhnedifekejpaa
