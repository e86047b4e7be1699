import Derived.Orders
import Derived.Below
import Derived.Deep.RegionHeld
import Derived.WalkKit
import Derived.KernelRfl
import Derived.Laws.Rows
import Derived.Laws.AppendOwn
import Derived.Laws.Strings
import Derived.Laws.Small
import Derived.Lib.Hide
import Derived.IntWalk
import Derived.Laws.Tables
import Derived.Laws.Concat
import Derived.Laws.MakeOwn
import Derived.Lib.OwnBridge
import Derived.WideKeyEntry
import Derived.DeepKeys4
import Derived.Lib.AppendZeros
import Derived.Test.YtnhnedifekejpaaProg
import Derived.Test.YtnhnedifekejpaaRows
import Derived.Lib.LaidTab
import Derived.Lib.ItoaNum
import Derived.Lib.TrailingZeros
import Derived.Stop.LaidErr
import Derived.WalkSmall
import Derived.LaidMore
import Derived.Shelf.Spec.TrailingZeros
import Derived.Laws.BitsAllLaws
import Derived.Laws.Bits64
import Derived.Deep.QuietTactic
import Derived.BigQuiet
import Derived.RegionTactic
import Derived.BigRegion
import Derived.Deep.RegionHeld3
import Derived.ChangeAlike
import Derived.RangeFuncNested
import Derived.RangeFuncBound
import Derived.RangeFuncCalls
import Derived.RangeFuncLeaves
import Derived.Shelf.Abstract
import Derived.Shelf.RegionOpen
import Derived.OwnWalkIn
import Derived.TacticsInMore
import Derived.LoopNIn
import Derived.LoopIn
import Derived.Laws.Bits128
import Derived.Deep.AppendLies
import Derived.Ground.Names2Prog
import Derived.Shelf.Slices.Clone
import Derived.Ground.SlgnProg
import Derived.Shelf.SlicesE.Clone
import Derived.Sort.Grow
import Derived.Maps.AppendAt
import Derived.Lib.OthersKept
import Derived.Laws.IdiomStrings
import Derived.StillTailTactics
import Derived.Deep.RegionLaw
import Derived.Deep.DeepCutAuto
import Derived.Deep.CutRange
import Derived.Deep.RegionWith
import Derived.Laws.Bits64b
import Derived.Deep.DrawnRows
import Derived.Lib.SliceRun
import Derived.Laws.OwnMore
import Derived.OwnWalk
import Derived.WalkSpells
import Derived.Lib.Join
import Derived.Lib.ItoaLen
import Derived.Lib.UnsafeStr
import Derived.Lib.AppendIntMem
import Derived.Test.YtnhnedifekejpaaPsA
import Derived.Test.YtnhnedifekejpaaPsB
import Derived.Test.YtnhnedifekejpaaPsC
import Derived.Test.YtnhnedifekejpaaPsD
set_option maxRecDepth 100000
set_option maxHeartbeats 4000000
set_option linter.unusedVariables false
set_option linter.unusedVariables false
set_option linter.unusedSimpArgs false
set_option linter.unusedSectionVars false
set_option linter.unnecessarySimpa false
namespace Go.Proofs.Ytnhnedifekejpaa
open Go Go.RowKit
section
variable {P : Program} {n : Nat} {Q : Exit → Act → World → Prop} {l : Fr} {w0 W : World} {ops : Array Oper} {os : List Oper} {O : Own} {G : Grows} {K : List (Nat × World)} {L L2 : List Asr} {i : Nat} {ty : TypeId} {pos : String}
def lastC (ops : Array Oper) (k : Nat) : Bool := decide (k + 1 = ops.size) && (List.range k).all fun j => (earlyL ops k).contains j
theorem lastC_size {k : Nat} (h : lastC ops k = true) : k + 1 = ops.size := by
 unfold lastC at h
 exact of_decide_eq_true (Bool.and_eq_true_iff.1 h).1
theorem lastC_all {k : Nat} {o : Oper} {LB : Array Bool} (h : lastC ops k = true) (ho : ops[k]? = some o) (hdep : ∀ e ∈ o.after, Region.binds .any e = true → LB.getD e.on false = true) (hcl : ∀ j, LB.getD j false = true → ∀ x ∈ aft ops j, LB.getD x false = true) : ∀ j, j < k → LB.getD j false = true := fun j hj => by
 unfold lastC at h
 have h2 := List.all_eq_true.1 (Bool.and_eq_true_iff.1 h).2 j (List.mem_range.2 hj)
 refine early_done (D := fun x => LB.getD x false = true) (fun x hx => ?_) hcl j (List.contains_iff_mem.1 h2)
 obtain ⟨e, he, h5, h6⟩ := aft_mem ho hx
 have h7 := hdep e he h6
 rw [h5] at h7
 exact h7
theorem closed_step {o : Oper} {LB : Array Bool} (hi : i < LB.size) (ho : ops[i]? = some o) (hdep : ∀ e ∈ o.after, Region.binds .any e = true → LB.getD e.on false = true) (hcl : ∀ j, LB.getD j false = true → ∀ x ∈ aft ops j, LB.getD x false = true) : ∀ j, (LB.setIfInBounds i true).getD j false = true → ∀ x ∈ aft ops j, (LB.setIfInBounds i true).getD x false = true := fun j hj x hx => by
 have hx2 : LB.getD x false = true := by
  by_cases hji : j = i
  ·subst hji
   obtain ⟨e, he, h5, h6⟩ := aft_mem ho hx
   have h7 := hdep e he h6
   rw [h5] at h7
   exact h7
  ·rw [getD_set_ne false (Ne.symm hji)] at hj
   exact hcl j hj x hx
 by_cases hxi : x = i
 ·subst hxi
  rw [Array.getD_eq_getD_getElem?, Array.getElem?_setIfInBounds_self_of_lt hi]; rfl
 ·rw [getD_set_ne false (Ne.symm hxi)]; exact hx2
theorem region_lastSC {k : Nat} {dn : Nat → Bool} {t0 : Array Value} {d0 : List Deferred} {G : World → Prop} {I : Nat → Value → World → Prop} (hl : lastC ops k = true) (ht : tidyR ops t0.size = true) (hst : ∀ i v w w', G w → I i v w → Below w.heap.size w w' → I i v w')
  (hstep : ∀ i, i < k → dn i = false → RStep P ops Q t0 G I i) (hfin : RFin ops t0 d0 G I k (wpOp P ops Q k (Q .normal))) :
  ∀ (fuel : Nat) (L : Array Bool) (a : Act) (w : World), L.size = ops.size → L.getD k true = false → (∀ i, dn i = true → L.getD i false = true) → L.toList.count false ≤ fuel → (∀ j, L.getD j false = true → ∀ x ∈ aft ops j, L.getD x false = true) → RInv ops t0 d0 G I L a w → wpAny P .any ops Q fuel L a w := by
 have hk : k + 1 = ops.size := lastC_size hl
 have cnt : ∀ (L : Array Bool) i, L.getD i true = false → L.toList[i]? = some false := fun L i h1 => by
  rw [Array.getD_eq_getD_getElem?] at h1
  rw [Array.getElem?_toList]
  cases hL : L[i]? with
  | none => rw [hL] at h1; cases h1
  | some b => rw [hL] at h1; simpa using h1
 intro fuel
 induction fuel with
 | zero =>
  intro L a w hs hlk hlp hc hcl h
  have := cnt_set _ _ (cnt L k hlk)
  omega
 | succ fuel ih =>
  intro L a w hs hlk hlp hc hcl h
  refine ⟨fun hr => ?_, fun i hi => ?_⟩
  ·rw [ready_nil ht hs hr k (by omega)] at hlk
   cases hlk
  ·obtain ⟨h1, o, ho, hdep⟩ := mem_ready.1 hi
   have his : i < ops.size := (Array.getElem?_eq_some_iff.1 ho).1
   have hc1 := cnt_set _ _ (cnt L i h1)
   have hip : dn i = false := by
    cases hd : dn i with
    | false => rfl
    | true =>
     have h3 := hlp i hd
     have h2 := cnt L i h1
     rw [Array.getElem?_toList] at h2
     rw [Array.getD_eq_getD_getElem?, h2] at h3
     cases h3
   by_cases hik : i = k
   ·subst hik
    have hall : ∀ j, j < i → L.getD j false = true := lastC_all hl ho (fun e he hb => hdep e he hb) hcl
    refine wpOp_mono ?_ (hfin a w h.size h.defers h.frame h.glob fun j d hj hd => h.done j d hd (hall j hj))
    intro a' w' hq
    have hnil : Region.ready .any ops (L.setIfInBounds i true) = [] := by
     cases hr : Region.ready .any ops (L.setIfInBounds i true) with
     | nil => rfl
     | cons j rest =>
      have hj : j ∈ Region.ready .any ops (L.setIfInBounds i true) := by rw [hr]; exact List.mem_cons_self
      obtain ⟨h5, o', ho', _⟩ := mem_ready.1 hj
      have hjs : j < ops.size := (Array.getElem?_eq_some_iff.1 ho').1
      by_cases hji : j = i
      ·subst hji
       rw [Array.getD_eq_getD_getElem?, Array.getElem?_eq_getElem (by simpa using (by omega : j < L.size))] at h5
       simp at h5
      ·rw [getD_set_ne true (Ne.symm hji)] at h5
       have h6 := hall j (by omega)
       rw [Array.getD_eq_getD_getElem?] at h5 h6
       rw [Array.getElem?_eq_getElem (by omega)] at h5 h6
       simp at h5 h6
       rw [h5] at h6
       cases h6
    cases fuel with
    | zero => exact ⟨hnil, hq⟩
    | succ fuel => exact ⟨fun _ => hq, by rw [hnil]; simp⟩
   ·refine wpOp_mono ?_ (hstep i (by omega) hip a w h.frameE h.glob (h.deps hi))
    rintro a' w' ⟨⟨v, rfl, hI⟩, hG, hB⟩
    refine ih _ _ _ (by simpa using hs) (by rw [getD_set_ne true hik]; exact hlk) (fun j hj => ?_) ?_ (closed_step (by omega) ho (fun e he hb => hdep e he hb) hcl) (h.next ht h1 hst hI hG hB)
    ·have hij : i ≠ j := fun e => by subst e; rw [hip] at hj; cases hj
     rw [getD_set_ne false hij]; exact hlp j hj
    ·rw [Array.toList_setIfInBounds]
     omega
theorem region_appendC {k p dp : Nat} {t0 : Array Value} {d0 : List Deferred} {late : Nat → Bool} {o : Oper} {RA : World → Value → World → Prop} (hl : lastC ops k = true) (ht : tidyR ops t0.size = true) (hst : StabL L) (hst2 : StabL L2) (hpk : p < k) (hp : ops[p]? = some o) (hod : o.dst = some dp) (hog : o.guard = none)
  (hearly : ∀ j, j < k → j ≠ p → late j = false → j ∈ earlyL ops p)
  (hstep : ∀ i, i < k → i ≠ p → RStep P ops Q t0 (fun w => Below W.heap.size W w) (atI L) i)
  (happ : ∀ (a : Act) (w : World), (∀ t, freeT ops t = true → a.eval (.tmp t) = t0.getD t undef) → Below W.heap.size W w → (∀ j d, waitsFor ops p j d = true → atI L j (a.eval (.tmp d)) w) → ∃ v w', (execOp a.eval o).run P w = .ok (.value v) w' ∧ RA w v w')
  (hL2p : atI L2 p = anyA) (hpure : ∀ i, i < k → i ≠ p → ∀ v w w', atI L i v w → atI L2 i v w')
  (hlate : ∀ v' W2 i, i < k → i ≠ p → late i = true → RStep P ops Q t0 (fun w => w = W2) (IP L2 p v') i)
  (hfin : ∀ A v' W2, Below W.heap.size W A → RA A v' W2 → RFin ops t0 d0 (fun w => w = W2) (IP L2 p v') k (wpOp P ops Q k (Q .normal))) :
  ∀ (fuel : Nat) (LB : Array Bool) (a : Act) (w : World), LB.size = ops.size → LB.getD k true = false → LB.toList.count false ≤ fuel → LB.getD p true = false → (∀ j, LB.getD j false = true → ∀ x ∈ aft ops j, LB.getD x false = true) → RInv ops t0 d0 (fun w => Below W.heap.size W w) (atI L) LB a w → wpAny P .any ops Q fuel LB a w := by
 have hl0 := hl
 have hk : k + 1 = ops.size := lastC_size hl
 have cnt : ∀ (L : Array Bool) i, L.getD i true = false → L.toList[i]? = some false := fun L i h1 => by
  rw [Array.getD_eq_getD_getElem?] at h1
  rw [Array.getElem?_toList]
  cases hL : L[i]? with
  | none => rw [hL] at h1; cases h1
  | some b => rw [hL] at h1; simpa using h1
 intro fuel
 induction fuel with
 | zero =>
  intro LB a w hs hlk hc hlp hcl h
  have := cnt_set _ _ (cnt LB k hlk)
  omega
 | succ fuel ih =>
  intro LB a w hs hlk hc hlp hcl h
  refine ⟨fun hr => ?_, fun i hi => ?_⟩
  ·rw [ready_nil ht hs hr k (by omega)] at hlk
   cases hlk
  ·obtain ⟨h1, o', ho, hdep⟩ := mem_ready.1 hi
   have his : i < ops.size := (Array.getElem?_eq_some_iff.1 ho).1
   have hc1 := cnt_set _ _ (cnt LB i h1)
   by_cases hik : i = k
   ·subst hik
    have h3 := lastC_all hl ho (fun e he hb => hdep e he hb) hcl p hpk
    have h4 := cnt LB p hlp
    rw [Array.getElem?_toList] at h4
    rw [Array.getD_eq_getD_getElem?, h4] at h3
    cases h3
   ·by_cases hip : i = p
    ·subst hip
     rw [hp] at ho
     have ho' := (Option.some.inj ho).symm
     subst ho'
     obtain ⟨v', w', hr, hRA⟩ := happ a w h.frameE h.glob (h.deps hi)
     have step : wpOp P ops Q i (fun a2 w2 => a2 = a.put (some dp) v' ∧ w2 = w') a w := by
      unfold wpOp
      simp only [hp, wanted_free hog, if_true]
      refine .inl ?_
      unfold Oper.wp
      rw [hr]
      exact ⟨by rw [hod], rfl⟩
     refine wpOp_mono ?_ step
     rintro a2 w2 ⟨rfl, rfl⟩
     have hdst : (ops[i]?).bind (·.dst) = some dp := by rw [hp]; exact hod
     refine region_lastSC (t0 := t0) (d0 := d0) (dn := fun j => decide (j = i) || (decide (j < k) && !late j)) (G := fun w => w = w2) (I := IP L2 i v') hl0 ht ?_ ?_ (hfin _ _ _ h.glob hRA) fuel _ _ _ (by simpa using hs) (by rw [getD_set_ne true hik]; exact hlk) ?_ ?_ (closed_step (by omega) hp (fun e he hb => hdep e he hb) hcl) ?_
     ·rintro j v w1 w3 _ ⟨h5, h6⟩ hb
      exact ⟨h5, atI_stab hst2 _ _ _ _ h6 hb⟩
     ·intro j hj hd
      simp only [Bool.or_eq_false_iff, decide_eq_false_iff_not, Bool.and_eq_false_iff, Bool.not_eq_false'] at hd
      refine hlate v' w2 j hj hd.1 ?_
      rcases hd.2 with h5 | h5
      ·exact absurd hj h5
      ·exact h5
     ·intro j hd
      simp only [Bool.or_eq_true, decide_eq_true_eq, Bool.and_eq_true, Bool.not_eq_true'] at hd
      by_cases hji : j = i
      ·subst hji
       rw [Array.getD_eq_getD_getElem?, Array.getElem?_setIfInBounds_self_of_lt (by omega)]; rfl
      ·rcases hd with hd | ⟨hd1, hd2⟩
       ·exact absurd hd hji
       ·rw [getD_set_ne false (Ne.symm hji)]
        refine early_done (D := fun x => LB.getD x false = true) (fun x hx => ?_) (fun j hj x hx => hcl j hj x hx) j (hearly j hd1 hji hd2)
        obtain ⟨e, he, h5, h6⟩ := aft_mem hp hx
        have h7 := hdep e he h6
        rw [h5] at h7
        exact h7
     ·rw [Array.toList_setIfInBounds]; omega
     ·refine ⟨by rw [put_size]; exact h.size, by rw [put_defers]; exact h.defers, fun t hf => ?_, rfl, fun j d hd hj => ?_⟩
      ·rw [put_other ?_]
       ·exact h.frame t hf
       ·intro e
        have := Array.all_eq_true'.1 hf _ (Array.mem_of_getElem? hp)
        simp at this
        exact this (hod.trans e)
      ·by_cases hji : j = i
       ·subst hji
        rw [hdst] at hd
        rw [put_at hd (by rw [h.size]; exact (tidy_dst ht (hdst.trans hd)).1)]
        exact ⟨fun _ => rfl, by rw [hL2p]; trivial⟩
       ·rw [getD_set_ne false (Ne.symm hji)] at hj
        rw [put_other (fun e => hji ((tidy_dst ht (hdst.trans e)).2 j hd))]
        have hjk : j < k := by
         obtain ⟨o2, ho2, _⟩ := Option.bind_eq_some_iff.1 hd
         have h5 := (Array.getElem?_eq_some_iff.1 ho2).1
         have h6 : j ≠ k := fun e => by
          subst e
          have h4 := cnt LB j hlk
          rw [Array.getElem?_toList] at h4
          rw [Array.getD_eq_getD_getElem?, h4] at hj
          cases hj
         omega
        exact ⟨fun e => absurd e hji, hpure j hjk hji _ _ _ (h.done j d hd hj)⟩
    ·refine wpOp_mono ?_ (hstep i (by omega) hip a w h.frameE h.glob (h.deps hi))
     rintro a' w' ⟨⟨v, rfl, hI⟩, hG, hB⟩
     refine ih _ _ _ (by simpa using hs) (by rw [getD_set_ne true hik]; exact hlk) ?_ (by rw [getD_set_ne true hip]; exact hlp) (fun j hj x hx => ?_) (h.next ht h1 (fun i v w w' _ h hb => atI_stab hst i v w w' h hb) hI hG hB)
     ·rw [Array.toList_setIfInBounds]
      omega
     ·have hx2 : LB.getD x false = true := by
       by_cases hji : j = i
       ·subst hji
        obtain ⟨e, he, h5, h6⟩ := aft_mem ho hx
        have h7 := hdep e he h6
        rw [h5] at h7
        exact h7
       ·rw [getD_set_ne false (Ne.symm hji)] at hj
        exact hcl j hj x hx
      by_cases hxi : x = i
      ·subst hxi
       rw [Array.getD_eq_getD_getElem?, Array.getElem?_setIfInBounds_self_of_lt (by omega)]; rfl
      ·rw [getD_set_ne false (Ne.symm hxi)]; exact hx2
theorem regBPC {id dp p k : Nat} {o : Oper} {t e tx tz : TypeId} {inf : TypeInfo} {z : Value} {gi m : Nat} {g : GR} {aftp : Array Edge} (hm : P.follows .mixedOrders = true) (hS : St w0 O G K W) (hk : os[k]? = some o) (hlen : os.length = k + 1) (hl : lastC os.toArray k = true) (ht : tidyR os.toArray n = true) (hdst : (os.take k).all (fun o => o.dst.isSome) = true) (hfree : ∀ d, o.dst = some d → look l d = none)
  (hp : os[p]? = some ⟨some dp, .call { callee := .builtin .append, args := #[.tmp tx, .tmp tz], argTypes := #[t, t] }, ty, pos, aftp, none⟩) (hpk : Nat.blt p k = true)
  (hU : P.underlying t = some (.slice e)) (hinf : P.info? e = some inf) (hz : inf.zero = some z) (hzs : z.cells.size = inf.size) (hsz : 0 < inf.size)
  (hi : G[gi]? = some g) (he : g.e = e) (hgs : g.size = inf.size) (h63 : g.n + m ≤ maxLen) (hbytes : (g.n + m) * inf.bytes ≤ 140737488355328)
  (h : BLP P n os.toArray Q l W p (fun Lr L2r => ∃ (py : Asr) (q : List Value → World → Prop), OpG n os.toArray l Lr.reverse p tx (isV g.v) ∧ OpG n os.toArray l Lr.reverse p tz py ∧ RowOf m inf.size q py ∧
   ∀ A v' news W', Below W.heap.size W A → q news A → St w0 O (G.set gi ⟨v', g.n + m, g.xs ++ news, e, g.size⟩) ((W.heap.size, A) :: K) W' → FinI (os.take k) (pvL v' p 0 L2r.reverse) l (fun l' W' => OpsF P n os.toArray Q [o] l' W') W') k [] [] 0) : CodeF P n (.region id os.toArray true) Q l W := by
 obtain ⟨Lr, L2r, h1, h2, h3, h4, h5, py, q, hx, hy, hpy, hfin⟩ := blp_run p ht k 0 [] [] rfl rfl (fun p hp => by cases hp) (fun p hp => by cases hp) (fun i hi => by omega) h
 have hpk' : p < k := Nat.lt_of_lt_of_le (Nat.lt_succ_self _) (Nat.le_of_ble_eq_true hpk)
 subst he
 rw [Nat.zero_add] at h1 h2 h5
 have hpo : os.toArray[p]? = some ⟨some dp, .call { callee := .builtin .append, args := #[.tmp tx, .tmp tz], argTypes := #[t, t] }, ty, pos, aftp, none⟩ := by simpa using hp
 have hko : os.toArray[k]? = some o := by simpa using hk
 have hL2p : atI L2r.reverse p = anyA := by
  rcases (h5 p hpk').2 with h6 | h6
  ·exact h6.2
  ·exact absurd rfl h6.1
 intro a ha
 refine wp_region_any hm (region_appendC (W := W) (t0 := a.tmps) (d0 := a.defers) (L := Lr.reverse) (L2 := L2r.reverse) (late := fun j => !earlyR os.toArray p j)
  (RA := fun A v' W' => ∃ news, q news A ∧ St w0 O (G.set gi ⟨v', g.n + m, g.xs ++ news, g.e, g.size⟩) ((W.heap.size, A) :: K) W') hl (by rw [ha.size]; exact ht) (stabL_of fun q hq => h3 q (List.mem_reverse.1 hq)) (stabL_of fun q hq => h4 q (List.mem_reverse.1 hq)) hpk' hpo rfl rfl ?_ ?_ ?_ hL2p ?_ ?_ ?_ _ _ _ _ (by simp) ?_ (count_rep _) ?_ (fun j hj => by rw [Array.getD_eq_getD_getElem?, Array.getElem?_replicate] at hj; split at hj <;> simp at hj) (inv_zero ((Below.refl _ _).drew)))
 ·intro j hj hjp he
  simp only [Bool.not_eq_false'] at he
  exact List.contains_iff_mem.1 he
 ·intro i hi hip
  rcases (h5 i hi).2 with h6 | h6
  ·exact absurd h6.1 hip
  ·exact h6.2.1 a ha
 ·intro b w hF hG hD
  have ex : b.eval (.tmp tx) = g.v := hx a ha b w hF hD
  obtain ⟨bb, oo, c, cs, ey, hc, hcl, h1c, hq⟩ := hpy _ w (hy a ha b w hF hD)
  have hS2 := hS.call hG
  have hrow := hS2.row gi hi
  rw [hgs] at hrow
  obtain ⟨v', W', hr, k2, k3, k4⟩ := append_own2 (P := P) (w := w) w0.heap.size t ty g.e inf z hU hinf hz hzs hsz g.v g.n g.xs hrow ⟨bb, oo, none⟩ m c cs hcl (fun j u hj => by rw [Addr.add_lit]; exact hc.get j u hj) (fun u hu => List.all_eq_true.1 h1c u hu) h63 hbytes hS2.below.size
  rw [← hgs] at k2
  refine ⟨v', W', ?_, cs, hq, hS2.setG gi hi k2 k3 k4⟩
  unfold execOp
  simp only [resolve, invoke, builtin, Sem.run_bind, Sem.run_pure, Result.andThen_ok, List.map_toArray, List.map_cons, List.map_nil, ex, ey, hr]
 ·intro i hi hip v w w' hv
  exact (h5 i hi).1 v w w' hv
 ·intro v' W2 i hi hip hlt
  rcases (h5 i hi).2 with h6 | h6
  ·exact absurd h6.1 hip
  ·rcases h6.2.2 with h7 | h7
   ·rw [h7] at hlt; cases hlt
   ·exact h7 v' W2 a ha
 ·rintro A v' W2 hB ⟨news, hq, hS2⟩
  intro a' W' hs hd hf hG hI
  subst hG
  have hdst' : ∀ o ∈ os.take k, ∃ d, o.dst = some d := fun o ho => Option.isSome_iff_exists.1 (List.all_eq_true.1 hdst o ho)
  have htk : (os.take k).length = k := by simp; omega
  refine fin_has (os.take k) (pvL v' p 0 L2r.reverse) l (fun i d hi hd' => ?_) (hs.trans ha.size) (hd.trans ha.defers) ?_ hdst' (fun l' h ha' => ?_) (hfin A v' news W' hB hq hS2)
  ·have hik : i < k := by omega
   have h6 := hI i d hik (by rw [List.getElem?_take, if_pos hik] at hd'; simpa using hd')
   rw [atI_pvL L2r.reverse 0 i (by simp; omega)]
   by_cases hip : i + 0 = p
   ·rw [if_pos hip]; exact h6.1 hip
   ·rw [if_neg hip]; exact h6.2
  ·intro t' v hv hno
   rw [hf t' (by
    unfold freeT; rw [Array.all_eq_true']; intro o' ho'
    have ho2 : o' ∈ os := by simpa using ho'
    obtain ⟨j, hj⟩ := List.getElem?_of_mem ho2
    by_cases hjk : j < k
    ·have : o' ∈ os.take k := List.mem_of_getElem? (by rw [List.getElem?_take, if_pos hjk]; exact hj)
     simpa using hno o' this
    ·have hjl := (List.getElem?_eq_some_iff.1 hj).1
     have : j = k := by omega
     subst this
     rw [hk] at hj
     have e2 := Option.some.inj hj
     subst e2
     cases hx : o.dst with
     | none => simp
     | some d => simp; intro e; subst e; rw [hfree d hx] at hv; cases hv)]
   exact ha.at_ t' v hv
  ·have h6 := h a' ha'
   unfold wpOp
   rw [hko]
   exact h6
 ·rw [Array.getD_eq_getD_getElem?, Array.getElem?_replicate, if_pos (by simp; omega)]; rfl
 ·rw [Array.getD_eq_getD_getElem?, Array.getElem?_replicate, if_pos (by simp; omega)]; rfl
end
end Go.Proofs.Ytnhnedifekejpaa
namespace Go.Proofs.Ytnhnedifekejpaa
open Go Go.RowKit
theorem bs_26_1 (v00 : Value) (v01 : Value) (v02 : Value) (v03 : Value) (v04 : Value) (v05 : Value) (v06 : Value) (v07 : Value) (v08 : Value) (v09 : Value) : Instr.fill (fun i => some (i * 10, 10)) ((Array.range (1 * 10)).map ((Value.cells (.agg #[.int .i64 0, .int .i64 0, .int .i64 0, .slice none 0 0, .bool false, .int .i64 0, .int .u64 0, .slice none 0 0, .slice none 0 0, .slice none 0 0]))[· % (Value.cells (.agg #[.int .i64 0, .int .i64 0, .int .i64 0, .slice none 0 0, .bool false, .int .i64 0, .int .u64 0, .slice none 0 0, .slice none 0 0, .slice none 0 0])).size]!)) [(0, .agg #[v00, v01, v02, v03, v04, v05, v06, v07, v08, v09])] = some (List.toArray [v00, v01, v02, v03, v04, v05, v06, v07, v08, v09]) := by kernel_rfl
theorem bs_38_1 (v0 : Bool) : Instr.fill (fun i => some (i * 1, 1)) ((Array.range (1 * 1)).map ((Value.cells (.bool false))[· % (Value.cells (.bool false)).size]!)) [(0, .bool v0)] = some (List.toArray [.bool v0]) := by kernel_rfl
theorem fa_101_1 (w : World) (b o : Nat) : (Instr.fieldAt 101 (.pointer (some ⟨b, o, none⟩)) 1).run Try.prog w = .ok (.pointer (some ⟨b, o + 9, none⟩)) w := by
 simp [Instr.fieldAt, run_underlying Try.underlying101, Instr.sureAddr, go_sem, Addr.add_lit]
theorem fa_40_0 (w : World) (b o : Nat) : (Instr.fieldAt 40 (.pointer (some ⟨b, o, none⟩)) 0).run Try.prog w = .ok (.pointer (some ⟨b, o + 0, none⟩)) w := by
 simp [Instr.fieldAt, run_underlying Try.underlying40, Instr.sureAddr, go_sem, Addr.add_lit]
theorem fa_40_1 (w : World) (b o : Nat) : (Instr.fieldAt 40 (.pointer (some ⟨b, o, none⟩)) 1).run Try.prog w = .ok (.pointer (some ⟨b, o + 6, none⟩)) w := by
 simp [Instr.fieldAt, run_underlying Try.underlying40, Instr.sureAddr, go_sem, Addr.add_lit]
theorem fa_40_2 (w : World) (b o : Nat) : (Instr.fieldAt 40 (.pointer (some ⟨b, o, none⟩)) 2).run Try.prog w = .ok (.pointer (some ⟨b, o + 7, none⟩)) w := by
 simp [Instr.fieldAt, run_underlying Try.underlying40, Instr.sureAddr, go_sem, Addr.add_lit]
theorem inf_4 : Try.prog.info? 4 = some Try.t4 := by kernel_rfl
theorem inf_56 : Try.prog.info? 56 = some Try.t56 := by kernel_rfl
theorem shPut_is (sf : SF) (f0 : WF) (s2 : SF) (zt yt : Int) (v1 v2 v3 : Value) (n : Nat) (xs1 xs2 xs3 : List Value) (B : Nat) (Ot : Own) (K : List (Nat × World)) (w0 : World) (num : Int) (fl : Bool) (rp rg rq : Int) (rwa : Option Addr) (rwl rwc : Nat) (f : WF) (w : World) (hS0 : St w0 ((B, shC sf f0 s2 zt yt v1 v2 v3, 101) :: Ot) [⟨v1, n, xs1, 56, 10⟩, ⟨v2, n, xs2, 3, 1⟩, ⟨v3, n, xs3, 4, 1⟩] K w) (hn : n ≤ 100000) :
  Calls Try.prog 73 #[.pointer (some ⟨B, 0, none⟩), .int .i64 num, .bool fl, .agg #[.int .i64 rp, .int .i64 rg, .int .i64 rq, .slice rwa rwl rwc, .bool f.z, .int .i64 f.c, .int .u64 (f.g : Int), .slice f.ra f.rl f.rc, .slice f.ca f.cl f.cc, .slice f.pa f.pl f.pc]] w (fun e w' => ∃ u1 u2 u3 : Value, e = .returned (.tuple #[]) ∧ St w0 ((B, shC sf f0 s2 zt yt u1 u2 u3, 101) :: Ot) [⟨u1, n + 1, xs1 ++ [.int .i64 rp, .int .i64 rg, .int .i64 rq, .slice rwa rwl rwc, .bool f.z, .int .i64 f.c, .int .u64 (f.g : Int), .slice f.ra f.rl f.rc, .slice f.ca f.cl f.cc, .slice f.pa f.pl f.pc], 56, 10⟩, ⟨u2, n + 1, xs2 ++ [.int .i64 num], 3, 1⟩, ⟨u3, n + 1, xs3 ++ [.bool fl], 4, 1⟩] K w') := by
 refine enterF (args := [.pointer (some ⟨B, 0, none⟩), .int .i64 num, .bool fl, .agg #[.int .i64 rp, .int .i64 rg, .int .i64 rq, .slice rwa rwl rwc, .bool f.z, .int .i64 f.c, .int .u64 (f.g : Int), .slice f.ra f.rl f.rc, .slice f.ca f.cl f.cc, .slice f.pa f.pl f.pc]]) Try.func73 rfl Try.ntmps73 rfl ?_
 have hS := hS0
 refine seqF (regF ?_)
 refine op_box (cs := [_, _, _, _, _, _, _, _, _, _]) hS rfl rfl rfl ?_
 clear hS; intro B1 W1 hS
 refine endF (XF.thenN ?_)
 refine seqF ?_
 refine regBPC (p := 9) (k := 14) (gi := 0) (m := 1) followsM hS rfl rfl (by kernel_rfl) (by kernel_rfl) (by kernel_rfl) (fun d hd => by cases hd) rfl rfl Try.underlying26 inf_56 rfl rfl (by show 0 < 10; decide) rfl rfl rfl (by dsimp only; simp only [maxLen]; omega) (by dsimp only; show _ * 144 ≤ _; omega) ?_
 refine blp_late 1 rfl rfl (rgV (li := [(0, _)]) rfl (w_free rfl) ⟨g_fr (by kernel_rfl) rfl, trivial⟩ (fun w hw => rn_move rfl) (at_top rfl)) (lgV (li := [(0, _)]) rfl (w_free rfl) ⟨g_fr (by kernel_rfl) rfl, trivial⟩ (fun w => rn_move rfl) (at_top rfl) rfl) ?_
 refine blp_v 2 rfl rfl (by kernel_rfl) (rgV (li := [(0, _)]) rfl (w_free rfl) ⟨g_fr (by kernel_rfl) rfl, trivial⟩ (fun w hw => rn_move rfl) (at_top rfl)) ?_
 refine blp_v 3 rfl rfl (by kernel_rfl) (rgV (li := [(9, _)]) rfl (w_free rfl) ⟨g_dep 1 (by kernel_rfl) (at_dep rfl rfl rfl), trivial⟩ (fun w hw => rn_nilCheck rfl) (at_top rfl)) ?_
 refine blp_v 4 rfl rfl (by kernel_rfl) (rgV (li := [(10, _)]) rfl (w_free rfl) ⟨g_dep 2 (by kernel_rfl) (at_dep rfl rfl rfl), trivial⟩ (fun w hw => rn_field (o' := 9) fa_101_1 rfl rfl) (at_top rfl)) ?_
 refine blp_v 5 rfl rfl (by kernel_rfl) (rgV (li := [(11, _)]) rfl (w_free rfl) ⟨g_dep 3 (by kernel_rfl) (at_dep rfl rfl rfl), trivial⟩ (fun w hw => rn_field (o' := 9) fa_40_0 rfl rfl) (at_top rfl)) ?_
 refine blp_v 6 rfl rfl (by kernel_rfl) (rgV (li := [(12, _)]) rfl (w_free rfl) ⟨g_dep 4 (by kernel_rfl) (at_dep rfl rfl rfl), trivial⟩ (fun w hw => rn_field (o' := 14) fa_28_3 rfl rfl) (at_top rfl)) ?_
 refine blp_v 7 rfl rfl (by kernel_rfl) (rgV (li := [(13, _)]) rfl (w_free rfl) ⟨g_dep 5 (by kernel_rfl) (at_dep rfl rfl rfl), trivial⟩ (fun w hw => rn_load Try.isAgg26 rfl ((below_agree hw 0).cell (Nat.zero_le _) (cell_own (hS.at_ 1 rfl) rfl))) (at_top rfl)) ?_
 refine blp_v 8 rfl rfl (by kernel_rfl) (rgV (li := [(7, _)]) rfl (w_free rfl) ⟨g_fr (by kernel_rfl) rfl, trivial⟩ (fun w hw => rn_loadA (vs := [_, _, _, _, _, _, _, _, _, _]) Try.isAgg56 Try.sizeOf56 rfl (CellsAt.agree (below_agree hw 0) (Nat.zero_le _) (CellsAt.own (j := 0) (m := 10) (hS.at_ 0 rfl) rfl))) (at_top rfl)) ?_
 refine blp_q 9 rfl rfl (by kernel_rfl) (isRow W1.heap.size 1 56 _) (stab_isRow) (rg_rowV (us := [.agg (List.toArray [_, _, _, _, _, _, _, _, _, _])]) rfl (w_free rfl) Try.underlying26 Try.sizeOf56 Try.zeroValue56 rfl rfl ⟨p_tmp (g_dep 7 (by kernel_rfl) (at_dep rfl rfl rfl)), trivial⟩ (bs_26_1 _ _ _ _ _ _ _ _ _ _) (at_top rfl)) ?_
 refine blp_app 10 rfl rfl ?_
 refine blp_late 11 rfl rfl (rgV (li := [(8, _)]) rfl (w_free rfl) ⟨g_dep 0 (by kernel_rfl) (at_dep rfl rfl rfl), trivial⟩ (fun w hw => rn_nilCheck rfl) (at_top rfl)) (lgV (li := [(8, _)]) rfl (w_free rfl) ⟨g_dep 0 (by kernel_rfl) (at_dep rfl rfl rfl), trivial⟩ (fun w => rn_nilCheck rfl) (at_top rfl) rfl) ?_
 refine blp_late 12 rfl rfl (rgV (li := [(18, _)]) rfl (w_free rfl) ⟨g_dep 10 (by kernel_rfl) (at_dep rfl rfl rfl), trivial⟩ (fun w hw => rn_field (o' := 9) fa_101_1 rfl rfl) (at_top rfl)) (lgV (li := [(18, _)]) rfl (w_free rfl) ⟨g_dep 10 (by kernel_rfl) (at_dep rfl rfl rfl), trivial⟩ (fun w => rn_field (o' := 9) fa_101_1 rfl rfl) (at_top rfl) rfl) ?_
 refine blp_late 13 rfl rfl (rgV (li := [(19, _)]) rfl (w_free rfl) ⟨g_dep 11 (by kernel_rfl) (at_dep rfl rfl rfl), trivial⟩ (fun w hw => rn_field (o' := 9) fa_40_0 rfl rfl) (at_top rfl)) (lgV (li := [(19, _)]) rfl (w_free rfl) ⟨g_dep 11 (by kernel_rfl) (at_dep rfl rfl rfl), trivial⟩ (fun w => rn_field (o' := 9) fa_40_0 rfl rfl) (at_top rfl) rfl) ?_
 refine blp_late 14 rfl rfl (rgV (li := [(20, _)]) rfl (w_free rfl) ⟨g_dep 12 (by kernel_rfl) (at_dep rfl rfl rfl), trivial⟩ (fun w hw => rn_field (o' := 14) fa_28_3 rfl rfl) (at_top rfl)) (lgV (li := [(20, _)]) rfl (w_free rfl) ⟨g_dep 12 (by kernel_rfl) (at_dep rfl rfl rfl), trivial⟩ (fun w => rn_field (o' := 14) fa_28_3 rfl rfl) (at_top rfl) rfl) ?_
 refine blp_nil ⟨_, _, g_dep 6 (by kernel_rfl) (at_dep rfl rfl rfl), g_dep 8 (by kernel_rfl) (at_dep rfl rfl rfl), rowOf_isRow rfl rfl, ?_⟩
 intro A2 v2 news2 W2 hbR hqA2 hS'
 clear hS; have hS := hS'; clear hS'
 cases hqA2
 refine fin_v ?_
 refine fin_v ?_
 refine fin_v ?_
 refine fin_v ?_
 refine fin_v ?_
 refine fin_v ?_
 refine fin_v ?_
 refine fin_v ?_
 refine fin_p ?_; intro _ _
 refine fin_v ?_
 refine fin_v ?_
 refine fin_v ?_
 refine fin_v ?_
 refine fin_v ?_
 refine fin_nil ?_
 refine op_store (i := 1) (cs' := [_, _, _, _, _, _, _, _, _, _, _, _, _, _, _, _, _]) (O' := (_ :: _ :: Ot)) hS Try.sizeOf26 rfl rfl (by first | rfl | exact (hS.oneV 0 _ rfl :) | exact (hS.oneV 1 _ rfl :) | exact (hS.oneV 2 _ rfl :) | exact (hS.oneV 3 _ rfl :)) rfl rfl rfl rfl ?_
 clear hS; intro W3 hS
 refine endF (XF.thenN ?_)
 refine seqF (regF ?_)
 refine op_move rfl rfl ?_
 refine op_move rfl rfl ?_
 refine op_nilCheck rfl rfl ?_
 refine op_field (o' := 9) fa_101_1 rfl rfl rfl ?_
 refine op_field (o' := 15) fa_40_1 rfl rfl rfl ?_
 refine op_load Try.isAgg30 rfl (cell_own (hS.at_ 1 rfl) rfl) rfl ?_
 refine op_move rfl rfl ?_
 refine op_buildSlice (us := [(0, .int .i64 _)]) hS Try.underlying30 Try.sizeOf3 Try.zeroValue3 rfl rfl rfl (bs_30_1 _) rfl ?_
 clear hS; intro B4 W4 hS
 refine op_append (i := 1) (news := [_]) hS Try.underlying30 inf_3 rfl rfl (by show 0 < 1; decide) rfl rfl rfl rfl rfl (CellsAt.own (j := 0) (m := 1) (hS.at_ 0 rfl) rfl) rfl rfl (by dsimp only; simp only [maxLen]; omega) (by dsimp only; show _ * 8 ≤ _; omega) rfl ?_
 clear hS; intro v5 W5 hS
 refine op_nilCheck rfl rfl ?_
 refine op_field (o' := 9) fa_101_1 rfl rfl rfl ?_
 refine op_field (o' := 15) fa_40_1 rfl rfl rfl ?_
 refine op_store (i := 2) (cs' := [_, _, _, _, _, _, _, _, _, _, _, _, _, _, _, _, _]) (O' := (_ :: _ :: _ :: Ot)) hS Try.sizeOf30 rfl rfl (by first | rfl | exact (hS.oneV 0 _ rfl :) | exact (hS.oneV 1 _ rfl :) | exact (hS.oneV 2 _ rfl :) | exact (hS.oneV 3 _ rfl :)) rfl rfl rfl rfl ?_
 clear hS; intro W6 hS
 refine endF (XF.thenN ?_)
 refine regF ?_
 refine op_move rfl rfl ?_
 refine op_move rfl rfl ?_
 refine op_nilCheck rfl rfl ?_
 refine op_field (o' := 9) fa_101_1 rfl rfl rfl ?_
 refine op_field (o' := 16) fa_40_2 rfl rfl rfl ?_
 refine op_load Try.isAgg38 rfl (cell_own (hS.at_ 2 rfl) rfl) rfl ?_
 refine op_move rfl rfl ?_
 refine op_buildSlice (us := [(0, .bool _)]) hS Try.underlying38 Try.sizeOf4 Try.zeroValue4 rfl rfl rfl (bs_38_1 _) rfl ?_
 clear hS; intro B7 W7 hS
 refine op_append (i := 2) (news := [_]) hS Try.underlying38 inf_4 rfl rfl (by show 0 < 1; decide) rfl rfl rfl rfl rfl (CellsAt.own (j := 0) (m := 1) (hS.at_ 0 rfl) rfl) rfl rfl (by dsimp only; simp only [maxLen]; omega) (by dsimp only; show _ * 1 ≤ _; omega) rfl ?_
 clear hS; intro v8 W8 hS
 refine op_nilCheck rfl rfl ?_
 refine op_field (o' := 9) fa_101_1 rfl rfl rfl ?_
 refine op_field (o' := 16) fa_40_2 rfl rfl rfl ?_
 refine op_store (i := 3) (cs' := [_, _, _, _, _, _, _, _, _, _, _, _, _, _, _, _, _]) (O' := (_ :: _ :: _ :: _ :: Ot)) hS Try.sizeOf38 rfl rfl (by first | rfl | exact (hS.oneV 0 _ rfl :) | exact (hS.oneV 1 _ rfl :) | exact (hS.oneV 2 _ rfl :) | exact (hS.oneV 3 _ rfl :)) rfl rfl rfl rfl ?_
 clear hS; intro W9 hS
 refine endF ?_
 refine XF.resN (res0 Try.results73) ?_
 exact ⟨_, _, _, rfl, hS.tail.tail.tail.keep K (fun q hq => by simp [hq])⟩
end Go.Proofs.Ytnhnedifekejpaa
namespace Go.Proofs.Ytnhnedifekejpaa
open Go Go.RowKit
theorem fa_101_0 (w : World) (b o : Nat) : (Instr.fieldAt 101 (.pointer (some ⟨b, o, none⟩)) 0).run Try.prog w = .ok (.pointer (some ⟨b, o + 0, none⟩)) w := by
 simp [Instr.fieldAt, run_underlying Try.underlying101, Instr.sureAddr, go_sem, Addr.add_lit]
theorem goes_73 : goesIn Try.prog 73 = true := by kernel_rfl
theorem goes_75 : goesIn Try.prog 75 = true := by kernel_rfl
theorem shParts_is (sf : SF) (f0 : WF) (sq : SF) (zt yt : Int) (v1 v2 v3 : Value) (n : Nat) (xs1 xs2 xs3 : List Value) (B : Nat) (Ot : Own) (K : List (Nat × World)) (w0 : World) (S : PS) (x : PX) (num rp rg rq : Int) (rwa : Option Addr) (rwl rwc : Nat) (ws : List Int) (f : WF) (w : World) (hS0 : St w0 ((B, shC sf f0 sq (zt) (yt) v1 v2 v3, 101) :: Ot) [⟨v1, n, xs1, 56, 10⟩, ⟨v2, n, xs2, 3, 1⟩, ⟨v3, n, xs3, 4, 1⟩] K w) (hn : n ≤ 50000) (hs : SIs w0 S sf) (hok : S.ok) (hx : XIs w0 S f x) (hrow : Row w0 rwa ws) (hlen : ws.length = rwl) (hw4 : rwl ≤ 4096) (hz : 0 ≤ zt ∧ zt ≤ 10000) (hy : 0 ≤ yt ∧ yt ≤ 10000) (ht : Tabs w0) :
  Calls Try.prog 43 #[.pointer (some ⟨B, 0, none⟩), .int .i64 num, .agg #[.int .i64 rp, .int .i64 rg, .int .i64 rq, .slice rwa rwl rwc, .bool f.z, .int .i64 f.c, .int .u64 (f.g : Int), .slice f.ra f.rl f.rc, .slice f.ca f.cl f.cc, .slice f.pa f.pl f.pc]] w (fun e w' => ∃ (u1 u2 u3 : Value) (Kn : List (Nat × World)) (ns : List R9), e = .returned (.tuple #[]) ∧ ns.map R9.pl = partsF (oneX S) num rp rg rq ws x zt yt ∧ (∀ q ∈ K, q ∈ Kn) ∧ Held w0 Kn (fun W2 => ∀ r ∈ ns, RHeld w0.heap.size S W2 r) ∧ St w0 ((B, shC sf f0 sq (zt + ((rwl - 2 : Nat) : Int)) (yt + ((rwl - 2 : Nat) : Int)) u1 u2 u3, 101) :: Ot) [⟨u1, n + ns.length, xs1 ++ ns.flatMap ten9, 56, 10⟩, ⟨u2, n + ns.length, xs2 ++ ns.map (fun r => Value.int .i64 r.num), 3, 1⟩, ⟨u3, n + ns.length, xs3 ++ ns.map (fun r => Value.bool r.first), 4, 1⟩] Kn w') := by
 refine enterF (args := [.pointer (some ⟨B, 0, none⟩), .int .i64 num, .agg #[.int .i64 rp, .int .i64 rg, .int .i64 rq, .slice rwa rwl rwc, .bool f.z, .int .i64 f.c, .int .u64 (f.g : Int), .slice f.ra f.rl f.rc, .slice f.ca f.cl f.cc, .slice f.pa f.pl f.pc]]) Try.func43 rfl Try.ntmps43 rfl ?_
 have hS := hS0
 refine seqF (regF ?_)
 refine op_box (cs := [_, _, _, _, _, _, _, _, _, _]) hS rfl rfl rfl ?_
 clear hS; intro B1 W1 hS
 refine endF (XF.thenN ?_)
 refine seqF (regF ?_)
 refine op_field (o' := 3) fa_56_3 rfl rfl rfl ?_
 refine op_load Try.isAgg30 rfl (cell_own (hS.at_ 0 rfl) rfl) rfl ?_
 refine op_len Try.underlying30 rfl rfl ?_
 refine op_assign rfl rfl ?_
 refine endF (XF.thenN ?_)
 refine seqF ?_
 refine seqF (regF ?_)
 refine op_move rfl rfl ?_
 refine op_leq rfl rfl rfl ?_
 refine endF (XF.thenN ?_)
 refine condF rfl (fun hc => ?_) (fun hc => ?_)
 ·have hc14 := of_decide_eq_true hc; clear hc
  refine seqF ?_
  have hS7 := hS
  have hszN := hS.below.size
  refine regY (al := []) (G := fun _ => [⟨v1, n, xs1, 56, 10⟩, ⟨v2, n, xs2, 3, 1⟩, ⟨v3, n, xs3, 4, 1⟩]) (E := []) (k := 19) (ds := [34]) followsM rfl hS rfl rfl (by kernel_rfl) (by kernel_rfl) rfl (by decide) rfl ?_
  refine bly_cons 1 rfl (isV _) (syV fst_take [(0, _)] rfl rfl (fun _ => (w_free rfl)) (fun _ => ⟨g_fr (by kernel_rfl) rfl, trivial⟩) (fun s w hw => rn_move rfl) (at_top rfl)) ?_
  refine bly_cons 2 rfl (isV _) (syV fst_take [(1, _)] rfl rfl (fun _ => (w_free rfl)) (fun _ => ⟨g_fr (by kernel_rfl) rfl, trivial⟩) (fun s w hw => rn_move rfl) (at_top rfl)) ?_
  refine bly_cons 3 rfl (isV _) (syV fst_take [(5, _)] rfl rfl (fun _ => (w_free rfl)) (fun _ => ⟨g_fr (by kernel_rfl) rfl, trivial⟩) (fun s w hw => rn_field (o' := 0) fa_56_0 rfl rfl) (at_top rfl)) ?_
  refine bly_cons 4 rfl (isV _) (syV fst_take [(17, _)] rfl rfl (fun _ => (w_free rfl)) (fun _ => ⟨g_dep 2 (by kernel_rfl) (at_n rfl rfl (at_dep rfl rfl rfl)), trivial⟩) (fun s w hw => rn_load Try.isAgg3 rfl ((cell_own (hw.at_ 0 rfl) rfl))) (at_top rfl)) ?_
  refine bly_cons 5 rfl (isV _) (syV fst_take [(5, _)] rfl rfl (fun _ => (w_free rfl)) (fun _ => ⟨g_fr (by kernel_rfl) rfl, trivial⟩) (fun s w hw => rn_field (o' := 1) fa_56_1 rfl rfl) (at_top rfl)) ?_
  refine bly_cons 6 rfl (isV _) (syV fst_take [(19, _)] rfl rfl (fun _ => (w_free rfl)) (fun _ => ⟨g_dep 4 (by kernel_rfl) (at_n rfl rfl (at_dep rfl rfl rfl)), trivial⟩) (fun s w hw => rn_load Try.isAgg3 rfl ((cell_own (hw.at_ 0 rfl) rfl))) (at_top rfl)) ?_
  refine bly_cons 7 rfl (isV _) (syV fst_take [(5, _)] rfl rfl (fun _ => (w_free rfl)) (fun _ => ⟨g_fr (by kernel_rfl) rfl, trivial⟩) (fun s w hw => rn_field (o' := 2) fa_56_2 rfl rfl) (at_top rfl)) ?_
  refine bly_cons 8 rfl (isV _) (syV fst_take [(21, _)] rfl rfl (fun _ => (w_free rfl)) (fun _ => ⟨g_dep 6 (by kernel_rfl) (at_n rfl rfl (at_dep rfl rfl rfl)), trivial⟩) (fun s w hw => rn_load Try.isAgg3 rfl ((cell_own (hw.at_ 0 rfl) rfl))) (at_top rfl)) ?_
  refine bly_cons 9 rfl (isV _) (syV fst_take [(5, _)] rfl rfl (fun _ => (w_free rfl)) (fun _ => ⟨g_fr (by kernel_rfl) rfl, trivial⟩) (fun s w hw => rn_field (o' := 3) fa_56_3 rfl rfl) (at_top rfl)) ?_
  refine bly_cons 10 rfl (isV _) (syV fst_take [(23, _)] rfl rfl (fun _ => (w_free rfl)) (fun _ => ⟨g_dep 8 (by kernel_rfl) (at_n rfl rfl (at_dep rfl rfl rfl)), trivial⟩) (fun s w hw => rn_load Try.isAgg30 rfl ((cell_own (hw.at_ 0 rfl) rfl))) (at_top rfl)) ?_
  refine bly_cons 11 rfl (isClN9 W1.heap.size ws) (sy_call fst_take (fun s => [isV _]) rfl rfl goes_74 (fun _ => w_free rfl) (fun s => ⟨p_tmp (g_dep 9 (by kernel_rfl) (at_n rfl rfl (at_dep rfl rfl rfl))), trivial⟩) (fun vs s0 w' hk hw hlo hh => by have e := holds_isV (us := [_]) hh; subst e; exact cl_gN9 hlo hlen (clone_ints (c := rwc) (hrow.below hw.below) hlen (by omega))) (at_top rfl)) ?_
  refine bly_cons 12 rfl (isV _) (syV fst_take [(0, _)] rfl rfl (fun _ => (w_free rfl)) (fun _ => ⟨g_fr (by kernel_rfl) rfl, trivial⟩) (fun s w hw => rn_move rfl) (at_top rfl)) ?_
  refine bly_cons 13 rfl (isV _) (syV fst_take [(26, _)] rfl rfl (fun _ => (w_free rfl)) (fun _ => ⟨g_dep 11 (by kernel_rfl) (at_n rfl rfl (at_dep rfl rfl rfl)), trivial⟩) (fun s w hw => rn_nilCheck rfl) (at_top rfl)) ?_
  refine bly_cons 14 rfl (isV _) (syV fst_take [(27, _)] rfl rfl (fun _ => (w_free rfl)) (fun _ => ⟨g_dep 12 (by kernel_rfl) (at_n rfl rfl (at_dep rfl rfl rfl)), trivial⟩) (fun s w hw => rn_field (o' := 0) fa_101_0 rfl rfl) (at_top rfl)) ?_
  refine bly_cons 15 rfl (isV _) (syV fst_take [(28, _)] rfl rfl (fun _ => (w_free rfl)) (fun _ => ⟨g_dep 13 (by kernel_rfl) (at_n rfl rfl (at_dep rfl rfl rfl)), trivial⟩) (fun s w hw => rn_loadA (vs := [_, _, _, _, _, _, _, _, _]) Try.isAgg98 Try.sizeOf98 rfl ((CellsAt.own (j := 0) (m := 9) (hw.at_ 1 rfl) rfl))) (at_top rfl)) ?_
  refine bly_cons 16 rfl (isV _) (syV fst_take [(5, _)] rfl rfl (fun _ => (w_free rfl)) (fun _ => ⟨g_fr (by kernel_rfl) rfl, trivial⟩) (fun s w hw => rn_field (o' := 4) fa_56_4 rfl rfl) (at_top rfl)) ?_
  refine bly_cons 17 rfl (isV _) (syV fst_take [(30, _)] rfl rfl (fun _ => (w_free rfl)) (fun _ => ⟨g_dep 15 (by kernel_rfl) (at_n rfl rfl (at_dep rfl rfl rfl)), trivial⟩) (fun s w hw => rn_loadA (vs := [_, _, _, _, _, _]) Try.isAgg54 Try.sizeOf54 rfl ((CellsAt.own (j := 4) (m := 6) (hw.at_ 0 rfl) rfl))) (at_top rfl)) ?_
  refine bly_cons 18 rfl (isNew W1.heap.size S x) (sy_call fst_take (fun s => [isV _, isV _]) rfl rfl goes_75 (fun _ => w_free rfl) (fun s => ⟨p_tmp (g_dep 14 (by kernel_rfl) (at_n rfl rfl (at_dep rfl rfl rfl))), p_tmp (g_dep 16 (by kernel_rfl) (at_n rfl rfl (at_dep rfl rfl rfl))), trivial⟩) (fun vs s0 w' hk hw hlo hh => by have e := holds_isV (us := [_, _]) hh; subst e; exact wret_gN hlo (ringCopy_is S sf f0 f x w' (hs.below hw.below) hok (hx.below hw.below) (ht.below hw.below))) (at_top rfl)) ?_
  refine bly_cons 19 rfl (isRuleN W1.heap.size S (rp) (rg) (rq) ws (x)) (syPs [(3, 18, isV _), (5, 20, isV _), (7, 22, isV _), (10, 25, isClN9 W1.heap.size ws), (17, 32, isNew W1.heap.size S x)] rfl rfl ⟨⟨by kernel_rfl, at_dep rfl rfl rfl⟩, ⟨by kernel_rfl, at_dep rfl rfl rfl⟩, ⟨by kernel_rfl, at_dep rfl rfl rfl⟩, ⟨by kernel_rfl, at_dep rfl rfl rfl⟩, ⟨by kernel_rfl, at_dep rfl rfl rfl⟩, trivial⟩ (bld_rule9 (fun _ _ h => h)) (at_top rfl)) ?_
  refine bly_nil ?_
  intro s2 W2 Ks2 hall2 hsz2 hKs2 hS' hcov2 hfx2 hno2
  clear hS; have hS := hS'.castO (O' := (_ :: _ :: Ot)) rfl; clear hS'
  refine castL (L' := [AwS _ _ (isV _), AwS _ _ (isV _), AwS _ _ (isV _), AwS _ _ (isV _), AwS _ _ (isV _), AwS _ _ (isV _), AwS _ _ (isV _), AwS _ _ (isV _), AwS _ _ (isV _), AwS _ _ (isV _), AwS _ _ (isClN9 W1.heap.size ws), AwS _ _ (isV _), AwS _ _ (isV _), AwS _ _ (isV _), AwS _ _ (isV _), AwS _ _ (isV _), AwS _ _ (isV _), AwS _ _ (isNew W1.heap.size S x), AwS _ _ (isRuleN W1.heap.size S (rp) (rg) (rq) ws (x))]) rfl ?_
  refine fin_sV ?_
  refine fin_sV ?_
  refine fin_sV ?_
  refine fin_sV ?_
  refine fin_sV ?_
  refine fin_sV ?_
  refine fin_sV ?_
  refine fin_sV ?_
  refine fin_sV ?_
  refine fin_sV ?_
  refine fin_p ?_; intro _ _
  refine fin_sV ?_
  refine fin_sV ?_
  refine fin_sV ?_
  refine fin_sV ?_
  refine fin_sV ?_
  refine fin_sV ?_
  refine fin_p ?_; intro _ _
  refine fin_p ?_; rintro vR hR9; have hcovC := @hcov2; obtain ⟨aR, cR, fR, rfl, hwR, hxR⟩ := hR9.here
  refine fin_nil ?_
  have HR : Held w0 (_ ++ K) (fun W2 => RHeld w0.heap.size S W2 ⟨num, true, rp, rg, rq, aR, cR, ws, fR, x⟩) := fun h2 hk => (RHeld.agree (r := ⟨num, true, rp, rg, rq, aR, cR, ws, fR, x⟩) ⟨hwR, hxR⟩ (sameX_agree9 (hcovC h2 (fun q hq => hk q (List.mem_append_left _ hq))) (fun b h1 hx => by have h3 := xb_lt9 hS7 hx; omega))).mono hszN
  refine op_callX (vs := [_, _, _, _]) goes_73 rfl (shPut_is sf f0 sq (zt) (yt) v1 v2 v3 (n) (xs1) (xs2) (xs3) B _ _ w0 num true (rp) (rg) (rq) aR (ws).length cR fR _ (hS.perm (List.Perm.swap _ _ _)) (by omega)) rfl ?_
  rintro e W9 ⟨w1, w2, w3, rfl, hS9⟩
  refine ⟨_, rfl, ?_⟩
  clear hS; have hS := hS9.perm (List.Perm.swap _ _ _); clear hS9
  refine endF (XF.thenN ?_)
  refine retF ?_
  refine XF.thenR ?_
  refine XF.res (res0 Try.results43) ?_
  have e0 : ((rwl - 2 : Nat) : Int) = 0 := by omega
  refine ⟨w1, w2, w3, _, [⟨num, true, rp, rg, rq, aR, cR, ws, fR, x⟩], rfl, by unfold partsF; rw [if_pos (by omega)]; rfl, fun q hq => List.mem_append_right _ hq, fun h2 hk r hr => by simp at hr; subst hr; exact HR h2 hk, ?_⟩
  rw [e0, Int.add_zero, Int.add_zero]
  exact hS.tail.castG (by simp)
 ·have hc14 := of_decide_eq_false hc; clear hc
  obtain ⟨wb, wo, rfl, hcell⟩ : ∃ b o, rwa = some ⟨b, o, none⟩ ∧ ∀ i, i < ws.length → w0.cell? ⟨b, o + i, none⟩ = some (.int .i64 (ws.getD i 0)) := by
   rcases hrow with h | ⟨b, o, h, hc⟩
   ·rw [h] at hlen; simp at hlen; omega
   ·exact ⟨b, o, h, hc⟩
  refine skipF ?_
  refine XF.thenN ?_
  refine seqF ?_
  refine regB (m := 14) followsM hS (by kernel_rfl) (by kernel_rfl) rfl ?_
  refine bl_cons 1 rfl (isV _) (stab_isV _) (rgV (li := [(0, _)]) rfl (w_free rfl) ⟨g_fr (by kernel_rfl) rfl, trivial⟩ (fun w hw => rn_move rfl) (at_top rfl)) ?_
  refine bl_cons 2 rfl (isV _) (stab_isV _) (rgV (li := [(35, _)]) rfl (w_free rfl) ⟨g_dep 0 (by kernel_rfl) (at_dep rfl rfl rfl), trivial⟩ (fun w hw => rn_nilCheck rfl) (at_top rfl)) ?_
  refine bl_cons 3 rfl (isV _) (stab_isV _) (rgV (li := [(36, _)]) rfl (w_free rfl) ⟨g_dep 1 (by kernel_rfl) (at_dep rfl rfl rfl), trivial⟩ (fun w hw => rn_field (o' := 9) fa_101_1 rfl rfl) (at_top rfl)) ?_
  refine bl_cons 4 rfl (isV _) (stab_isV _) (rgV (li := [(37, _)]) rfl (w_free rfl) ⟨g_dep 2 (by kernel_rfl) (at_dep rfl rfl rfl), trivial⟩ (fun w hw => rn_field (o' := 9) fa_40_0 rfl rfl) (at_top rfl)) ?_
  refine bl_cons 5 rfl (isV _) (stab_isV _) (rgV (li := [(38, _)]) rfl (w_free rfl) ⟨g_dep 3 (by kernel_rfl) (at_dep rfl rfl rfl), trivial⟩ (fun w hw => rn_field (o' := 12) fa_28_1 rfl rfl) (at_top rfl)) ?_
  refine bl_cons 6 rfl (isV _) (stab_isV _) (rgV (li := [(39, _)]) rfl (w_free rfl) ⟨g_dep 4 (by kernel_rfl) (at_dep rfl rfl rfl), trivial⟩ (fun w hw => rn_load Try.isAgg3 rfl ((below_agree hw 0).cell (Nat.zero_le _) (cell_own (hS.at_ 1 rfl) rfl))) (at_top rfl)) ?_
  refine bl_cons 7 rfl (isV _) (stab_isV _) (rgV (li := [(0, _)]) rfl (w_free rfl) ⟨g_fr (by kernel_rfl) rfl, trivial⟩ (fun w hw => rn_move rfl) (at_top rfl)) ?_
  refine bl_cons 8 rfl (isV _) (stab_isV _) (rgV (li := [(41, _)]) rfl (w_free rfl) ⟨g_dep 6 (by kernel_rfl) (at_dep rfl rfl rfl), trivial⟩ (fun w hw => rn_nilCheck rfl) (at_top rfl)) ?_
  refine bl_cons 9 rfl (isV _) (stab_isV _) (rgV (li := [(42, _)]) rfl (w_free rfl) ⟨g_dep 7 (by kernel_rfl) (at_dep rfl rfl rfl), trivial⟩ (fun w hw => rn_field (o' := 9) fa_101_1 rfl rfl) (at_top rfl)) ?_
  refine bl_cons 10 rfl (isV _) (stab_isV _) (rgV (li := [(43, _)]) rfl (w_free rfl) ⟨g_dep 8 (by kernel_rfl) (at_dep rfl rfl rfl), trivial⟩ (fun w hw => rn_field (o' := 9) fa_40_0 rfl rfl) (at_top rfl)) ?_
  refine bl_cons 11 rfl (isV _) (stab_isV _) (rgV (li := [(44, _)]) rfl (w_free rfl) ⟨g_dep 9 (by kernel_rfl) (at_dep rfl rfl rfl), trivial⟩ (fun w hw => rn_field (o' := 13) fa_28_2 rfl rfl) (at_top rfl)) ?_
  refine bl_cons 12 rfl (isV _) (stab_isV _) (rgV (li := [(45, _)]) rfl (w_free rfl) ⟨g_dep 10 (by kernel_rfl) (at_dep rfl rfl rfl), trivial⟩ (fun w hw => rn_load Try.isAgg3 rfl ((below_agree hw 0).cell (Nat.zero_le _) (cell_own (hS.at_ 1 rfl) rfl))) (at_top rfl)) ?_
  refine bl_cons 13 rfl (isV _) (stab_isV _) (rgV (li := [(40, _)]) rfl (w_free rfl) ⟨g_dep 5 (by kernel_rfl) (at_dep rfl rfl rfl), trivial⟩ (fun w hw => rn_assign rfl) (at_top rfl)) ?_
  refine bl_cons 14 rfl (isV _) (stab_isV _) (rgV (li := [(46, _)]) rfl (w_free rfl) ⟨g_dep 11 (by kernel_rfl) (at_dep rfl rfl rfl), trivial⟩ (fun w hw => rn_assign rfl) (at_top rfl)) ?_
  refine bl_nil ?_
  intro W3 hbR hS'
  clear hS; have hS := hS'; clear hS'
  refine fin_v ?_
  refine fin_v ?_
  refine fin_v ?_
  refine fin_v ?_
  refine fin_v ?_
  refine fin_v ?_
  refine fin_v ?_
  refine fin_v ?_
  refine fin_v ?_
  refine fin_v ?_
  refine fin_v ?_
  refine fin_v ?_
  refine fin_v ?_
  refine fin_v ?_
  refine fin_nil ?_
  refine XF.thenN ?_
  refine seqF (regF ?_)
  refine op_move rfl rfl ?_
  refine op_nilCheck rfl rfl ?_
  refine op_field (o' := 9) fa_101_1 rfl rfl rfl ?_
  refine op_field (o' := 9) fa_40_0 rfl rfl rfl ?_
  refine op_field (o' := 12) fa_28_1 rfl rfl rfl ?_
  refine op_load Try.isAgg3 rfl (cell_own (hS.at_ 1 rfl) rfl) rfl ?_
  refine op_move rfl rfl ?_
  refine op_sub rfl rfl (IntWalk.i64_in _ (by omega)) rfl ?_
  refine op_add rfl rfl (IntWalk.i64_in _ (by omega)) rfl ?_
  refine op_nilCheck rfl rfl ?_
  refine op_field (o' := 9) fa_101_1 rfl rfl rfl ?_
  refine op_field (o' := 9) fa_40_0 rfl rfl rfl ?_
  refine op_field (o' := 12) fa_28_1 rfl rfl rfl ?_
  refine op_store (i := 1) (cs' := [_, _, _, _, _, _, _, _, _, _, _, _, _, _, _, _, _]) (O' := (_ :: _ :: Ot)) hS Try.sizeOf3 rfl rfl rfl rfl rfl rfl rfl ?_
  clear hS; intro W4 hS
  refine endF (XF.thenN ?_)
  refine seqF (regF ?_)
  refine op_move rfl rfl ?_
  refine op_nilCheck rfl rfl ?_
  refine op_field (o' := 9) fa_101_1 rfl rfl rfl ?_
  refine op_field (o' := 9) fa_40_0 rfl rfl rfl ?_
  refine op_field (o' := 13) fa_28_2 rfl rfl rfl ?_
  refine op_load Try.isAgg3 rfl (cell_own (hS.at_ 1 rfl) rfl) rfl ?_
  refine op_move rfl rfl ?_
  refine op_sub rfl rfl (IntWalk.i64_in _ (by omega)) rfl ?_
  refine op_add rfl rfl (IntWalk.i64_in _ (by omega)) rfl ?_
  refine op_nilCheck rfl rfl ?_
  refine op_field (o' := 9) fa_101_1 rfl rfl rfl ?_
  refine op_field (o' := 9) fa_40_0 rfl rfl rfl ?_
  refine op_field (o' := 13) fa_28_2 rfl rfl rfl ?_
  refine op_store (i := 1) (cs' := [_, _, _, _, _, _, _, _, _, _, _, _, _, _, _, _, _]) (O' := (_ :: _ :: Ot)) hS Try.sizeOf3 rfl rfl rfl rfl rfl rfl rfl ?_
  clear hS; intro W5 hS
  refine endF (XF.thenN ?_)
  refine seqF ?_
  have e2 : (rwl : Int) - 2 = ((rwl - 2 : Nat) : Int) := by omega
  rw [e2] at hS
  have k7 : w0.cell? ⟨wb, wo + (rwl - 1) * 1, none⟩ = some (.int .i64 (ws.getD (ws.length - 1) 0)) := by rw [Nat.mul_one, hlen]; exact hlen ▸ hcell (ws.length - 1) (by omega)
  have hS7 := hS
  have hszN := hS.below.size
  refine regY (al := []) (G := fun _ => [⟨v1, n, xs1, 56, 10⟩, ⟨v2, n, xs2, 3, 1⟩, ⟨v3, n, xs3, 4, 1⟩]) (E := []) (k := 23) (ds := [96]) followsM rfl hS rfl rfl (by kernel_rfl) (by kernel_rfl) rfl (by decide) rfl ?_
  refine bly_cons 1 rfl (isV _) (syV fst_take [(0, _)] rfl rfl (fun _ => (w_free rfl)) (fun _ => ⟨g_fr (by kernel_rfl) rfl, trivial⟩) (fun s w hw => rn_move rfl) (at_top rfl)) ?_
  refine bly_cons 2 rfl (isV _) (syV fst_take [(1, _)] rfl rfl (fun _ => (w_free rfl)) (fun _ => ⟨g_fr (by kernel_rfl) rfl, trivial⟩) (fun s w hw => rn_move rfl) (at_top rfl)) ?_
  refine bly_cons 3 rfl (isV _) (syV fst_take [(5, _)] rfl rfl (fun _ => (w_free rfl)) (fun _ => ⟨g_fr (by kernel_rfl) rfl, trivial⟩) (fun s w hw => rn_field (o' := 0) fa_56_0 rfl rfl) (at_top rfl)) ?_
  refine bly_cons 4 rfl (isV _) (syV fst_take [(75, _)] rfl rfl (fun _ => (w_free rfl)) (fun _ => ⟨g_dep 2 (by kernel_rfl) (at_n rfl rfl (at_dep rfl rfl rfl)), trivial⟩) (fun s w hw => rn_load Try.isAgg3 rfl ((cell_own (hw.at_ 0 rfl) rfl))) (at_top rfl)) ?_
  refine bly_cons 5 rfl (isV _) (syV fst_take [(5, _)] rfl rfl (fun _ => (w_free rfl)) (fun _ => ⟨g_fr (by kernel_rfl) rfl, trivial⟩) (fun s w hw => rn_field (o' := 1) fa_56_1 rfl rfl) (at_top rfl)) ?_
  refine bly_cons 6 rfl (isV _) (syV fst_take [(77, _)] rfl rfl (fun _ => (w_free rfl)) (fun _ => ⟨g_dep 4 (by kernel_rfl) (at_n rfl rfl (at_dep rfl rfl rfl)), trivial⟩) (fun s w hw => rn_load Try.isAgg3 rfl ((cell_own (hw.at_ 0 rfl) rfl))) (at_top rfl)) ?_
  refine bly_cons 7 rfl (isV _) (syV fst_take [(7, _)] rfl rfl (fun _ => (w_free rfl)) (fun _ => ⟨g_fr (by kernel_rfl) rfl, trivial⟩) (fun s w hw => rn_move rfl) (at_top rfl)) ?_
  refine bly_cons 8 rfl (isV _) (syV fst_take [(8, _)] rfl rfl (fun _ => (w_free rfl)) (fun _ => ⟨g_fr (by kernel_rfl) rfl, trivial⟩) (fun s w hw => rn_move rfl) (at_top rfl)) ?_
  refine bly_cons 9 rfl (isV _) (syV fst_take [(5, _)] rfl rfl (fun _ => (w_free rfl)) (fun _ => ⟨g_fr (by kernel_rfl) rfl, trivial⟩) (fun s w hw => rn_field (o' := 3) fa_56_3 rfl rfl) (at_top rfl)) ?_
  refine bly_cons 10 rfl (isV _) (syV fst_take [(81, _)] rfl rfl (fun _ => (w_free rfl)) (fun _ => ⟨g_dep 8 (by kernel_rfl) (at_n rfl rfl (at_dep rfl rfl rfl)), trivial⟩) (fun s w hw => rn_load Try.isAgg30 rfl ((cell_own (hw.at_ 0 rfl) rfl))) (at_top rfl)) ?_
  refine bly_cons 11 rfl (isV _) (syV fst_take [(6, _)] rfl rfl (fun _ => (w_free rfl)) (fun _ => ⟨g_fr (by kernel_rfl) rfl, trivial⟩) (fun s w hw => rn_move rfl) (at_top rfl)) ?_
  refine bly_cons 12 rfl (isV _) (syV fst_take [(83, _)] rfl rfl (fun _ => (w_free rfl)) (fun _ => ⟨g_dep 10 (by kernel_rfl) (at_n rfl rfl (at_dep rfl rfl rfl)), trivial⟩) (fun s w hw => rn_sub rfl rfl (IntWalk.i64_in _ (by omega))) (at_top rfl)) ?_
  refine bly_cons 13 rfl (isV _) (syV fst_take [(82, _), (84, _)] rfl rfl (fun _ => (w_free rfl)) (fun _ => ⟨g_dep 9 (by kernel_rfl) (at_n rfl rfl (at_dep rfl rfl rfl)), g_dep 11 (by kernel_rfl) (at_n rfl rfl (at_dep rfl rfl rfl)), trivial⟩) (fun s w hw => rn_indexA (j := rwl - 1) Try.underlying30 Try.sizeOf3 rfl rfl (by omega) (by omega) rfl) (at_top rfl)) ?_
  refine bly_cons 14 rfl (isV _) (syV fst_take [(85, _)] rfl rfl (fun _ => (w_free rfl)) (fun _ => ⟨g_dep 12 (by kernel_rfl) (at_n rfl rfl (at_dep rfl rfl rfl)), trivial⟩) (fun s w hw => rn_load Try.isAgg3 rfl (hw.agree.cell (Nat.zero_le _) (k7))) (at_top rfl)) ?_
  refine bly_cons 15 rfl (isRow W5.heap.size 2 3 _) (sy_rowV fst_take (us := [.int .i64 _, .int .i64 _]) rfl rfl (fun _ => (w_free rfl)) Try.underlying30 Try.sizeOf3 Try.zeroValue3 rfl rfl (fun _ => ⟨p_tmp (g_dep 7 (by kernel_rfl) (at_n rfl rfl (at_dep rfl rfl rfl))), p_tmp (g_dep 13 (by kernel_rfl) (at_n rfl rfl (at_dep rfl rfl rfl))), trivial⟩) (bs_30_2 _ _) (at_top rfl)) ?_
  refine bly_cons 16 rfl (isV _) (syV fst_take [(0, _)] rfl rfl (fun _ => (w_free rfl)) (fun _ => ⟨g_fr (by kernel_rfl) rfl, trivial⟩) (fun s w hw => rn_move rfl) (at_top rfl)) ?_
  refine bly_cons 17 rfl (isV _) (syV fst_take [(88, _)] rfl rfl (fun _ => (w_free rfl)) (fun _ => ⟨g_dep 15 (by kernel_rfl) (at_n rfl rfl (at_dep rfl rfl rfl)), trivial⟩) (fun s w hw => rn_nilCheck rfl) (at_top rfl)) ?_
  refine bly_cons 18 rfl (isV _) (syV fst_take [(89, _)] rfl rfl (fun _ => (w_free rfl)) (fun _ => ⟨g_dep 16 (by kernel_rfl) (at_n rfl rfl (at_dep rfl rfl rfl)), trivial⟩) (fun s w hw => rn_field (o' := 0) fa_101_0 rfl rfl) (at_top rfl)) ?_
  refine bly_cons 19 rfl (isV _) (syV fst_take [(90, _)] rfl rfl (fun _ => (w_free rfl)) (fun _ => ⟨g_dep 17 (by kernel_rfl) (at_n rfl rfl (at_dep rfl rfl rfl)), trivial⟩) (fun s w hw => rn_loadA (vs := [_, _, _, _, _, _, _, _, _]) Try.isAgg98 Try.sizeOf98 rfl ((CellsAt.own (j := 0) (m := 9) (hw.at_ 1 rfl) rfl))) (at_top rfl)) ?_
  refine bly_cons 20 rfl (isV _) (syV fst_take [(5, _)] rfl rfl (fun _ => (w_free rfl)) (fun _ => ⟨g_fr (by kernel_rfl) rfl, trivial⟩) (fun s w hw => rn_field (o' := 4) fa_56_4 rfl rfl) (at_top rfl)) ?_
  refine bly_cons 21 rfl (isV _) (syV fst_take [(92, _)] rfl rfl (fun _ => (w_free rfl)) (fun _ => ⟨g_dep 19 (by kernel_rfl) (at_n rfl rfl (at_dep rfl rfl rfl)), trivial⟩) (fun s w hw => rn_loadA (vs := [_, _, _, _, _, _]) Try.isAgg54 Try.sizeOf54 rfl ((CellsAt.own (j := 4) (m := 6) (hw.at_ 0 rfl) rfl))) (at_top rfl)) ?_
  refine bly_cons 22 rfl (isNew W5.heap.size S x) (sy_call fst_take (fun s => [isV _, isV _]) rfl rfl goes_75 (fun _ => w_free rfl) (fun s => ⟨p_tmp (g_dep 18 (by kernel_rfl) (at_n rfl rfl (at_dep rfl rfl rfl))), p_tmp (g_dep 20 (by kernel_rfl) (at_n rfl rfl (at_dep rfl rfl rfl))), trivial⟩) (fun vs s0 w' hk hw hlo hh => by have e := holds_isV (us := [_, _]) hh; subst e; exact wret_gN hlo (ringCopy_is S sf f0 f x w' (hs.below hw.below) hok (hx.below hw.below) (ht.below hw.below))) (at_top rfl)) ?_
  refine bly_cons 23 rfl (isRuleN W5.heap.size S (rp) (rg) (zt) [yt, ws.getD (ws.length - 1) 0] (x)) (syPs [(3, 76, isV _), (5, 78, isV _), (6, 79, isV _), (14, 87, isRow W5.heap.size 2 3 [.int .i64 (yt), .int .i64 (ws.getD (ws.length - 1) 0)]), (21, 94, isNew W5.heap.size S x)] rfl rfl ⟨⟨by kernel_rfl, at_dep rfl rfl rfl⟩, ⟨by kernel_rfl, at_dep rfl rfl rfl⟩, ⟨by kernel_rfl, at_dep rfl rfl rfl⟩, ⟨by kernel_rfl, at_dep rfl rfl rfl⟩, ⟨by kernel_rfl, at_dep rfl rfl rfl⟩, trivial⟩ (bld_rule9 (fun _ _ h => row_cl9 h)) (at_top rfl)) ?_
  refine bly_nil ?_
  intro s6 W6 Ks6 hall6 hsz6 hKs6 hS' hcov6 hfx6 hno6
  clear hS; have hS := hS'.castO (O' := (_ :: _ :: Ot)) rfl; clear hS'
  refine castL (L' := [AwS _ _ (isV _), AwS _ _ (isV _), AwS _ _ (isV _), AwS _ _ (isV _), AwS _ _ (isV _), AwS _ _ (isV _), AwS _ _ (isV _), AwS _ _ (isV _), AwS _ _ (isV _), AwS _ _ (isV _), AwS _ _ (isV _), AwS _ _ (isV _), AwS _ _ (isV _), AwS _ _ (isV _), AwS _ _ (isRow W5.heap.size 2 3 _), AwS _ _ (isV _), AwS _ _ (isV _), AwS _ _ (isV _), AwS _ _ (isV _), AwS _ _ (isV _), AwS _ _ (isV _), AwS _ _ (isNew W5.heap.size S x), AwS _ _ (isRuleN W5.heap.size S (rp) (rg) (zt) [yt, ws.getD (ws.length - 1) 0] (x))]) rfl ?_
  refine fin_sV ?_
  refine fin_sV ?_
  refine fin_sV ?_
  refine fin_sV ?_
  refine fin_sV ?_
  refine fin_sV ?_
  refine fin_sV ?_
  refine fin_sV ?_
  refine fin_sV ?_
  refine fin_sV ?_
  refine fin_sV ?_
  refine fin_sV ?_
  refine fin_sV ?_
  refine fin_sV ?_
  refine fin_p ?_; intro _ _
  refine fin_sV ?_
  refine fin_sV ?_
  refine fin_sV ?_
  refine fin_sV ?_
  refine fin_sV ?_
  refine fin_sV ?_
  refine fin_p ?_; intro _ _
  refine fin_p ?_; rintro vR hR9; have hcovC := @hcov6; obtain ⟨aR, cR, fR, rfl, hwR, hxR⟩ := hR9.here
  refine fin_nil ?_
  have HR : Held w0 (_ ++ ((W1.heap.size, W3) :: K)) (fun W2 => RHeld w0.heap.size S W2 ⟨num, true, rp, rg, zt, aR, cR, [yt, ws.getD (ws.length - 1) 0], fR, x⟩) := fun h2 hk => (RHeld.agree (r := ⟨num, true, rp, rg, zt, aR, cR, [yt, ws.getD (ws.length - 1) 0], fR, x⟩) ⟨hwR, hxR⟩ (sameX_agree9 (hcovC h2 (fun q hq => hk q (List.mem_append_left _ hq))) (fun b h1 hx => by have h3 := xb_lt9 hS7 hx; omega))).mono hszN
  refine op_callX (vs := [_, _, _, _]) goes_73 rfl (shPut_is sf f0 sq (zt + ((rwl - 2 : Nat) : Int)) (yt + ((rwl - 2 : Nat) : Int)) v1 v2 v3 (n) (xs1) (xs2) (xs3) B _ _ w0 num true (rp) (rg) (zt) aR ([yt, ws.getD (ws.length - 1) 0]).length cR fR _ (hS.perm (List.Perm.swap _ _ _)) (by omega)) rfl ?_
  rintro e W9 ⟨w1, w2, w3, rfl, hS9⟩
  refine ⟨_, rfl, ?_⟩
  clear hS; have hS := hS9.perm (List.Perm.swap _ _ _); clear hS9
  refine endF (XF.thenN ?_)
  refine seqF ?_
  refine seqF (regF ?_)
  refine op_move rfl rfl ?_
  refine op_sub rfl rfl (IntWalk.i64_in _ (by omega)) rfl ?_
  refine op_move rfl rfl ?_
  refine endF (XF.thenN ?_)
  refine blockF ?_
  refine loopF (fun m l W => ∃ (i : Nat) (u1 u2 u3 : Value) (Kk : List (Nat × World)) (ns : List R9), i ≤ rwl - 3 ∧ m = (rwl - 3) - i ∧ l = [(0, .pointer (some ⟨B, 0, none⟩)), (1, .int .i64 num), (5, .pointer (some ⟨B1, 0, none⟩)), (6, .int .i64 (rwl : Int)), (7, .int .i64 zt), (8, .int .i64 yt), (98, .int .i64 ((rwl : Int) - 3)), (99, .int .i64 (i : Int))] ∧ ns.map R9.pl = (num, true, rp, rg, zt, [yt, ws.getD (ws.length - 1) 0], x) :: (List.range i).map (fun i : Nat => ((num, false, zt + (i : Int), yt + (i : Int), zt + (i : Int) + 1, [yt + (i : Int) + 1, ws.getD (ws.length - 2 - i) 0], oneX S) : PR)) ∧ (∀ q ∈ K, q ∈ Kk) ∧ Held w0 Kk (fun W2 => ∀ r ∈ ns, RHeld w0.heap.size S W2 r) ∧ St w0 ((B1, [.int .i64 rp, .int .i64 rg, .int .i64 rq, .slice (some ⟨wb, wo, none⟩) rwl rwc, .bool f.z, .int .i64 f.c, .int .u64 (f.g : Int), .slice f.ra f.rl f.rc, .slice f.ca f.cl f.cc, .slice f.pa f.pl f.pc], 56) :: (B, shC sf f0 sq (zt + ((rwl - 2 : Nat) : Int)) (yt + ((rwl - 2 : Nat) : Int)) u1 u2 u3, 101) :: Ot) [⟨u1, n + ns.length, xs1 ++ ns.flatMap ten9, 56, 10⟩, ⟨u2, n + ns.length, xs2 ++ ns.map (fun r => Value.int .i64 r.num), 3, 1⟩, ⟨u3, n + ns.length, xs3 ++ ns.map (fun r => Value.bool r.first), 4, 1⟩] Kk W) ((rwl - 3) - 0) ([(0, _), (1, _), (5, _), (6, _), (7, _), (8, _), (98, _), (99, _)]) ⟨rfl, rfl, rfl, rfl, rfl, rfl, rfl, rfl, trivial⟩ (⟨0, w1, w2, w3, _, [⟨num, true, rp, rg, zt, aR, cR, [yt, ws.getD (ws.length - 1) 0], fR, x⟩], Nat.zero_le _, rfl, rfl, rfl, fun q hq => List.mem_append_right _ (List.mem_cons_of_mem _ hq), fun h2 hk r hr => by simp at hr; subst hr; exact HR h2 hk, by exact hS.castG (by simp)⟩) ?_
  clear hS
  rintro m l W ⟨i, u1, u2, u3, Kk, ns, hi, rfl, rfl, hns, hsub, HN, hS⟩
  refine seqF (regF ?_)
  refine op_lss rfl rfl rfl ?_
  refine endF (XF.thenN ?_)
  refine seqF ?_
  refine condF rfl (fun hc => ?_) (fun hc => ?_)
  ·have hc100 := of_decide_eq_true hc; clear hc
   have hk : i < rwl - 3 := by omega
   have hnl : ns.length = i + 1 := by have := congrArg List.length hns; simpa using this
   have k11 : w0.cell? ⟨wb, wo + (rwl - 2 - i) * 1, none⟩ = some (.int .i64 (ws.getD (ws.length - 2 - i) 0)) := by rw [Nat.mul_one, hlen]; exact hlen ▸ hcell (ws.length - 2 - i) (by omega)
   refine skipF ?_
   refine XF.thenN ?_
   refine seqF ?_
   refine blockF ?_
   refine seqF (regF ?_)
   refine op_move rfl rfl ?_
   refine op_assign rfl rfl ?_
   refine endF (XF.thenN ?_)
   have hS7 := hS
   have hszN := hS.below.size
   refine regY (al := []) (G := fun _ => [⟨u1, n + ns.length, xs1 ++ ns.flatMap ten9, 56, 10⟩, ⟨u2, n + ns.length, xs2 ++ ns.map (fun r => Value.int .i64 r.num), 3, 1⟩, ⟨u3, n + ns.length, xs3 ++ ns.map (fun r => Value.bool r.first), 4, 1⟩]) (E := []) (k := 31) (ds := [133]) followsM rfl hS rfl rfl (by kernel_rfl) (by kernel_rfl) rfl (by decide) rfl ?_
   refine bly_cons 1 rfl (isV _) (syV fst_take [(0, _)] rfl rfl (fun _ => (w_free rfl)) (fun _ => ⟨g_fr (by kernel_rfl) rfl, trivial⟩) (fun s w hw => rn_move rfl) (at_top rfl)) ?_
   refine bly_cons 2 rfl (isV _) (syV fst_take [(1, _)] rfl rfl (fun _ => (w_free rfl)) (fun _ => ⟨g_fr (by kernel_rfl) rfl, trivial⟩) (fun s w hw => rn_move rfl) (at_top rfl)) ?_
   refine bly_cons 3 rfl (isV _) (syV fst_take [(7, _)] rfl rfl (fun _ => (w_free rfl)) (fun _ => ⟨g_fr (by kernel_rfl) rfl, trivial⟩) (fun s w hw => rn_move rfl) (at_top rfl)) ?_
   refine bly_cons 4 rfl (isV _) (syV fst_take [(9, _)] rfl rfl (fun _ => (w_free rfl)) (fun _ => ⟨g_fr (by kernel_rfl) rfl, trivial⟩) (fun s w hw => rn_move rfl) (at_top rfl)) ?_
   refine bly_cons 5 rfl (isV _) (syV fst_take [(104, _), (105, _)] rfl rfl (fun _ => (w_free rfl)) (fun _ => ⟨g_dep 2 (by kernel_rfl) (at_n rfl rfl (at_dep rfl rfl rfl)), g_dep 3 (by kernel_rfl) (at_n rfl rfl (at_dep rfl rfl rfl)), trivial⟩) (fun s w hw => rn_add rfl rfl (IntWalk.i64_in _ (by omega))) (at_top rfl)) ?_
   refine bly_cons 6 rfl (isV _) (syV fst_take [(8, _)] rfl rfl (fun _ => (w_free rfl)) (fun _ => ⟨g_fr (by kernel_rfl) rfl, trivial⟩) (fun s w hw => rn_move rfl) (at_top rfl)) ?_
   refine bly_cons 7 rfl (isV _) (syV fst_take [(9, _)] rfl rfl (fun _ => (w_free rfl)) (fun _ => ⟨g_fr (by kernel_rfl) rfl, trivial⟩) (fun s w hw => rn_move rfl) (at_top rfl)) ?_
   refine bly_cons 8 rfl (isV _) (syV fst_take [(107, _), (108, _)] rfl rfl (fun _ => (w_free rfl)) (fun _ => ⟨g_dep 5 (by kernel_rfl) (at_n rfl rfl (at_dep rfl rfl rfl)), g_dep 6 (by kernel_rfl) (at_n rfl rfl (at_dep rfl rfl rfl)), trivial⟩) (fun s w hw => rn_add rfl rfl (IntWalk.i64_in _ (by omega))) (at_top rfl)) ?_
   refine bly_cons 9 rfl (isV _) (syV fst_take [(7, _)] rfl rfl (fun _ => (w_free rfl)) (fun _ => ⟨g_fr (by kernel_rfl) rfl, trivial⟩) (fun s w hw => rn_move rfl) (at_top rfl)) ?_
   refine bly_cons 10 rfl (isV _) (syV fst_take [(9, _)] rfl rfl (fun _ => (w_free rfl)) (fun _ => ⟨g_fr (by kernel_rfl) rfl, trivial⟩) (fun s w hw => rn_move rfl) (at_top rfl)) ?_
   refine bly_cons 11 rfl (isV _) (syV fst_take [(110, _), (111, _)] rfl rfl (fun _ => (w_free rfl)) (fun _ => ⟨g_dep 8 (by kernel_rfl) (at_n rfl rfl (at_dep rfl rfl rfl)), g_dep 9 (by kernel_rfl) (at_n rfl rfl (at_dep rfl rfl rfl)), trivial⟩) (fun s w hw => rn_add rfl rfl (IntWalk.i64_in _ (by omega))) (at_top rfl)) ?_
   refine bly_cons 12 rfl (isV _) (syV fst_take [(112, _)] rfl rfl (fun _ => (w_free rfl)) (fun _ => ⟨g_dep 10 (by kernel_rfl) (at_n rfl rfl (at_dep rfl rfl rfl)), trivial⟩) (fun s w hw => rn_add rfl rfl (IntWalk.i64_in _ (by omega))) (at_top rfl)) ?_
   refine bly_cons 13 rfl (isV _) (syV fst_take [(8, _)] rfl rfl (fun _ => (w_free rfl)) (fun _ => ⟨g_fr (by kernel_rfl) rfl, trivial⟩) (fun s w hw => rn_move rfl) (at_top rfl)) ?_
   refine bly_cons 14 rfl (isV _) (syV fst_take [(9, _)] rfl rfl (fun _ => (w_free rfl)) (fun _ => ⟨g_fr (by kernel_rfl) rfl, trivial⟩) (fun s w hw => rn_move rfl) (at_top rfl)) ?_
   refine bly_cons 15 rfl (isV _) (syV fst_take [(114, _), (115, _)] rfl rfl (fun _ => (w_free rfl)) (fun _ => ⟨g_dep 12 (by kernel_rfl) (at_n rfl rfl (at_dep rfl rfl rfl)), g_dep 13 (by kernel_rfl) (at_n rfl rfl (at_dep rfl rfl rfl)), trivial⟩) (fun s w hw => rn_add rfl rfl (IntWalk.i64_in _ (by omega))) (at_top rfl)) ?_
   refine bly_cons 16 rfl (isV _) (syV fst_take [(116, _)] rfl rfl (fun _ => (w_free rfl)) (fun _ => ⟨g_dep 14 (by kernel_rfl) (at_n rfl rfl (at_dep rfl rfl rfl)), trivial⟩) (fun s w hw => rn_add rfl rfl (IntWalk.i64_in _ (by omega))) (at_top rfl)) ?_
   refine bly_cons 17 rfl (isV _) (syV fst_take [(5, _)] rfl rfl (fun _ => (w_free rfl)) (fun _ => ⟨g_fr (by kernel_rfl) rfl, trivial⟩) (fun s w hw => rn_field (o' := 3) fa_56_3 rfl rfl) (at_top rfl)) ?_
   refine bly_cons 18 rfl (isV _) (syV fst_take [(118, _)] rfl rfl (fun _ => (w_free rfl)) (fun _ => ⟨g_dep 16 (by kernel_rfl) (at_n rfl rfl (at_dep rfl rfl rfl)), trivial⟩) (fun s w hw => rn_load Try.isAgg30 rfl ((cell_own (hw.at_ 0 rfl) rfl))) (at_top rfl)) ?_
   refine bly_cons 19 rfl (isV _) (syV fst_take [(6, _)] rfl rfl (fun _ => (w_free rfl)) (fun _ => ⟨g_fr (by kernel_rfl) rfl, trivial⟩) (fun s w hw => rn_move rfl) (at_top rfl)) ?_
   refine bly_cons 20 rfl (isV _) (syV fst_take [(120, _)] rfl rfl (fun _ => (w_free rfl)) (fun _ => ⟨g_dep 18 (by kernel_rfl) (at_n rfl rfl (at_dep rfl rfl rfl)), trivial⟩) (fun s w hw => rn_sub rfl rfl (IntWalk.i64_in _ (by omega))) (at_top rfl)) ?_
   refine bly_cons 21 rfl (isV _) (syV fst_take [(9, _)] rfl rfl (fun _ => (w_free rfl)) (fun _ => ⟨g_fr (by kernel_rfl) rfl, trivial⟩) (fun s w hw => rn_move rfl) (at_top rfl)) ?_
   refine bly_cons 22 rfl (isV _) (syV fst_take [(121, _), (122, _)] rfl rfl (fun _ => (w_free rfl)) (fun _ => ⟨g_dep 19 (by kernel_rfl) (at_n rfl rfl (at_dep rfl rfl rfl)), g_dep 20 (by kernel_rfl) (at_n rfl rfl (at_dep rfl rfl rfl)), trivial⟩) (fun s w hw => rn_sub rfl rfl (IntWalk.i64_in _ (by omega))) (at_top rfl)) ?_
   refine bly_cons 23 rfl (isV _) (syV fst_take [(119, _), (123, _)] rfl rfl (fun _ => (w_free rfl)) (fun _ => ⟨g_dep 17 (by kernel_rfl) (at_n rfl rfl (at_dep rfl rfl rfl)), g_dep 21 (by kernel_rfl) (at_n rfl rfl (at_dep rfl rfl rfl)), trivial⟩) (fun s w hw => rn_indexA (j := rwl - 2 - i) Try.underlying30 Try.sizeOf3 rfl rfl (by omega) (by omega) rfl) (at_top rfl)) ?_
   refine bly_cons 24 rfl (isV _) (syV fst_take [(124, _)] rfl rfl (fun _ => (w_free rfl)) (fun _ => ⟨g_dep 22 (by kernel_rfl) (at_n rfl rfl (at_dep rfl rfl rfl)), trivial⟩) (fun s w hw => rn_load Try.isAgg3 rfl (hw.agree.cell (Nat.zero_le _) (k11))) (at_top rfl)) ?_
   refine bly_cons 25 rfl (isRow W.heap.size 2 3 _) (sy_rowV fst_take (us := [.int .i64 _, .int .i64 _]) rfl rfl (fun _ => (w_free rfl)) Try.underlying30 Try.sizeOf3 Try.zeroValue3 rfl rfl (fun _ => ⟨p_tmp (g_dep 15 (by kernel_rfl) (at_n rfl rfl (at_dep rfl rfl rfl))), p_tmp (g_dep 23 (by kernel_rfl) (at_n rfl rfl (at_dep rfl rfl rfl))), trivial⟩) (bs_30_2 _ _) (at_top rfl)) ?_
   refine bly_cons 26 rfl (isV _) (syV fst_take [(0, _)] rfl rfl (fun _ => (w_free rfl)) (fun _ => ⟨g_fr (by kernel_rfl) rfl, trivial⟩) (fun s w hw => rn_move rfl) (at_top rfl)) ?_
   refine bly_cons 27 rfl (isV _) (syV fst_take [(127, _)] rfl rfl (fun _ => (w_free rfl)) (fun _ => ⟨g_dep 25 (by kernel_rfl) (at_n rfl rfl (at_dep rfl rfl rfl)), trivial⟩) (fun s w hw => rn_nilCheck rfl) (at_top rfl)) ?_
   refine bly_cons 28 rfl (isV _) (syV fst_take [(128, _)] rfl rfl (fun _ => (w_free rfl)) (fun _ => ⟨g_dep 26 (by kernel_rfl) (at_n rfl rfl (at_dep rfl rfl rfl)), trivial⟩) (fun s w hw => rn_field (o' := 0) fa_101_0 rfl rfl) (at_top rfl)) ?_
   refine bly_cons 29 rfl (isV _) (syV fst_take [(129, _)] rfl rfl (fun _ => (w_free rfl)) (fun _ => ⟨g_dep 27 (by kernel_rfl) (at_n rfl rfl (at_dep rfl rfl rfl)), trivial⟩) (fun s w hw => rn_loadA (vs := [_, _, _, _, _, _, _, _, _]) Try.isAgg98 Try.sizeOf98 rfl ((CellsAt.own (j := 0) (m := 9) (hw.at_ 1 rfl) rfl))) (at_top rfl)) ?_
   refine bly_cons 30 rfl (isNew W.heap.size S (oneX S)) (sy_call fst_take (fun s => [isV _]) rfl rfl goes_76 (fun _ => w_free rfl) (fun s => ⟨p_tmp (g_dep 28 (by kernel_rfl) (at_n rfl rfl (at_dep rfl rfl rfl))), trivial⟩) (fun vs s0 w' hk hw hlo hh => by have e := holds_isV (us := [_]) hh; subst e; exact wret_gN hlo (ringOne_is S sf f0 w' (hs.below hw.below) hok)) (at_top rfl)) ?_
   refine bly_cons 31 rfl (isRuleN W.heap.size S (zt + (i : Int)) (yt + (i : Int)) (zt + (i : Int) + 1) [yt + (i : Int) + 1, ws.getD (ws.length - 2 - i) 0] (oneX S)) (syPs [(4, 106, isV _), (7, 109, isV _), (11, 113, isV _), (24, 126, isRow W.heap.size 2 3 [.int .i64 (yt + (i : Int) + 1), .int .i64 (ws.getD (ws.length - 2 - i) 0)]), (29, 131, isNew W.heap.size S (oneX S))] rfl rfl ⟨⟨by kernel_rfl, at_dep rfl rfl rfl⟩, ⟨by kernel_rfl, at_dep rfl rfl rfl⟩, ⟨by kernel_rfl, at_dep rfl rfl rfl⟩, ⟨by kernel_rfl, at_dep rfl rfl rfl⟩, ⟨by kernel_rfl, at_dep rfl rfl rfl⟩, trivial⟩ (bld_rule9 (fun _ _ h => row_cl9 h)) (at_top rfl)) ?_
   refine bly_nil ?_
   intro s7 W7 Ks7 hall7 hsz7 hKs7 hS' hcov7 hfx7 hno7
   clear hS; have hS := hS'.castO (O' := (_ :: _ :: Ot)) rfl; clear hS'
   refine castL (L' := [AwS _ _ (isV _), AwS _ _ (isV _), AwS _ _ (isV _), AwS _ _ (isV _), AwS _ _ (isV _), AwS _ _ (isV _), AwS _ _ (isV _), AwS _ _ (isV _), AwS _ _ (isV _), AwS _ _ (isV _), AwS _ _ (isV _), AwS _ _ (isV _), AwS _ _ (isV _), AwS _ _ (isV _), AwS _ _ (isV _), AwS _ _ (isV _), AwS _ _ (isV _), AwS _ _ (isV _), AwS _ _ (isV _), AwS _ _ (isV _), AwS _ _ (isV _), AwS _ _ (isV _), AwS _ _ (isV _), AwS _ _ (isV _), AwS _ _ (isRow W.heap.size 2 3 _), AwS _ _ (isV _), AwS _ _ (isV _), AwS _ _ (isV _), AwS _ _ (isV _), AwS _ _ (isNew W.heap.size S (oneX S)), AwS _ _ (isRuleN W.heap.size S (zt + (i : Int)) (yt + (i : Int)) (zt + (i : Int) + 1) [yt + (i : Int) + 1, ws.getD (ws.length - 2 - i) 0] (oneX S))]) rfl ?_
   refine fin_sV ?_
   refine fin_sV ?_
   refine fin_sV ?_
   refine fin_sV ?_
   refine fin_sV ?_
   refine fin_sV ?_
   refine fin_sV ?_
   refine fin_sV ?_
   refine fin_sV ?_
   refine fin_sV ?_
   refine fin_sV ?_
   refine fin_sV ?_
   refine fin_sV ?_
   refine fin_sV ?_
   refine fin_sV ?_
   refine fin_sV ?_
   refine fin_sV ?_
   refine fin_sV ?_
   refine fin_sV ?_
   refine fin_sV ?_
   refine fin_sV ?_
   refine fin_sV ?_
   refine fin_sV ?_
   refine fin_sV ?_
   refine fin_p ?_; intro _ _
   refine fin_sV ?_
   refine fin_sV ?_
   refine fin_sV ?_
   refine fin_sV ?_
   refine fin_p ?_; intro _ _
   refine fin_p ?_; rintro vR hR9; have hcovC := @hcov7; obtain ⟨aR, cR, fR, rfl, hwR, hxR⟩ := hR9.here
   refine fin_nil ?_
   have HR : Held w0 (_ ++ Kk) (fun W2 => RHeld w0.heap.size S W2 ⟨num, false, zt + (i : Int), yt + (i : Int), zt + (i : Int) + 1, aR, cR, [yt + (i : Int) + 1, ws.getD (ws.length - 2 - i) 0], fR, oneX S⟩) := fun h2 hk => (RHeld.agree (r := ⟨num, false, zt + (i : Int), yt + (i : Int), zt + (i : Int) + 1, aR, cR, [yt + (i : Int) + 1, ws.getD (ws.length - 2 - i) 0], fR, oneX S⟩) ⟨hwR, hxR⟩ (sameX_agree9 (hcovC h2 (fun q hq => hk q (List.mem_append_left _ hq))) (fun b h1 hx => by have h3 := xb_lt9 hS7 hx; omega))).mono hszN
   refine op_callX (vs := [_, _, _, _]) goes_73 rfl (shPut_is sf f0 sq (zt + ((rwl - 2 : Nat) : Int)) (yt + ((rwl - 2 : Nat) : Int)) u1 u2 u3 (n + ns.length) (xs1 ++ ns.flatMap ten9) (xs2 ++ ns.map (fun r => Value.int .i64 r.num)) (xs3 ++ ns.map (fun r => Value.bool r.first)) B _ _ w0 num false (zt + (i : Int)) (yt + (i : Int)) (zt + (i : Int) + 1) aR ([yt + (i : Int) + 1, ws.getD (ws.length - 2 - i) 0]).length cR fR _ (hS.perm (List.Perm.swap _ _ _)) (by omega)) rfl ?_
   rintro e W9 ⟨w1, w2, w3, rfl, hS9⟩
   refine ⟨_, rfl, ?_⟩
   clear hS; have hS := hS9.perm (List.Perm.swap _ _ _); clear hS9
   refine endF ?_
   refine XF.blkN ?_
   refine XF.thenN ?_
   refine regF ?_
   refine op_add rfl rfl (IntWalk.i64_in _ (by omega)) rfl ?_
   refine op_move rfl rfl ?_
   refine endF ?_
   exact XF.round ((rwl - 3) - (i + 1)) [(0, _), (1, _), (5, _), (6, _), (7, _), (8, _), (98, _), (99, _)] (by omega) ⟨rfl, rfl, rfl, rfl, rfl, rfl, rfl, rfl, trivial⟩ ⟨i + 1, w1, w2, w3, _, ns ++ [⟨num, false, zt + (i : Int), yt + (i : Int), zt + (i : Int) + 1, aR, cR, [yt + (i : Int) + 1, ws.getD (ws.length - 2 - i) 0], fR, oneX S⟩], by omega, rfl, rfl, by rw [List.map_append, hns, List.range_succ, List.map_append]; rfl, fun q hq => List.mem_append_right _ (hsub q hq), fun h2 hk r hr => by
     rcases List.mem_append.1 hr with hr | hr
     ·exact HN h2 (fun q hq => hk q (List.mem_append_right _ hq)) r hr
     ·simp at hr; subst hr; exact HR h2 hk, hS.castG (by simp [Nat.add_assoc])⟩
  ·have hc100 := of_decide_eq_false hc; clear hc
   obtain rfl : i = rwl - 3 := by omega
   have hnl : ns.length = rwl - 3 + 1 := by have := congrArg List.length hns; simpa using this
   have k13a : w0.cell? ⟨wb, wo, none⟩ = some (.int .i64 (ws.getD 0 0)) := hcell 0 (by omega)
   have k13b : w0.cell? ⟨wb, wo + 1, none⟩ = some (.int .i64 (ws.getD 1 0)) := hcell 1 (by omega)
   refine exitF ?_
   refine XF.thenX ?_
   refine XF.thenX ?_
   refine XF.blkX ?_
   refine XF.thenN ?_
   have hS7 := hS
   have hszN := hS.below.size
   refine regY (al := []) (G := fun _ => [⟨u1, n + ns.length, xs1 ++ ns.flatMap ten9, 56, 10⟩, ⟨u2, n + ns.length, xs2 ++ ns.map (fun r => Value.int .i64 r.num), 3, 1⟩, ⟨u3, n + ns.length, xs3 ++ ns.map (fun r => Value.bool r.first), 4, 1⟩]) (E := []) (k := 27) (ds := [162]) followsM rfl hS rfl rfl (by kernel_rfl) (by kernel_rfl) rfl (by decide) rfl ?_
   refine bly_cons 1 rfl (isV _) (syV fst_take [(0, _)] rfl rfl (fun _ => (w_free rfl)) (fun _ => ⟨g_fr (by kernel_rfl) rfl, trivial⟩) (fun s w hw => rn_move rfl) (at_top rfl)) ?_
   refine bly_cons 2 rfl (isV _) (syV fst_take [(1, _)] rfl rfl (fun _ => (w_free rfl)) (fun _ => ⟨g_fr (by kernel_rfl) rfl, trivial⟩) (fun s w hw => rn_move rfl) (at_top rfl)) ?_
   refine bly_cons 3 rfl (isV _) (syV fst_take [(7, _)] rfl rfl (fun _ => (w_free rfl)) (fun _ => ⟨g_fr (by kernel_rfl) rfl, trivial⟩) (fun s w hw => rn_move rfl) (at_top rfl)) ?_
   refine bly_cons 4 rfl (isV _) (syV fst_take [(6, _)] rfl rfl (fun _ => (w_free rfl)) (fun _ => ⟨g_fr (by kernel_rfl) rfl, trivial⟩) (fun s w hw => rn_move rfl) (at_top rfl)) ?_
   refine bly_cons 5 rfl (isV _) (syV fst_take [(137, _), (138, _)] rfl rfl (fun _ => (w_free rfl)) (fun _ => ⟨g_dep 2 (by kernel_rfl) (at_n rfl rfl (at_dep rfl rfl rfl)), g_dep 3 (by kernel_rfl) (at_n rfl rfl (at_dep rfl rfl rfl)), trivial⟩) (fun s w hw => rn_add rfl rfl (IntWalk.i64_in _ (by omega))) (at_top rfl)) ?_
   refine bly_cons 6 rfl (isV _) (syV fst_take [(139, _)] rfl rfl (fun _ => (w_free rfl)) (fun _ => ⟨g_dep 4 (by kernel_rfl) (at_n rfl rfl (at_dep rfl rfl rfl)), trivial⟩) (fun s w hw => rn_sub rfl rfl (IntWalk.i64_in _ (by omega))) (at_top rfl)) ?_
   refine bly_cons 7 rfl (isV _) (syV fst_take [(8, _)] rfl rfl (fun _ => (w_free rfl)) (fun _ => ⟨g_fr (by kernel_rfl) rfl, trivial⟩) (fun s w hw => rn_move rfl) (at_top rfl)) ?_
   refine bly_cons 8 rfl (isV _) (syV fst_take [(6, _)] rfl rfl (fun _ => (w_free rfl)) (fun _ => ⟨g_fr (by kernel_rfl) rfl, trivial⟩) (fun s w hw => rn_move rfl) (at_top rfl)) ?_
   refine bly_cons 9 rfl (isV _) (syV fst_take [(141, _), (142, _)] rfl rfl (fun _ => (w_free rfl)) (fun _ => ⟨g_dep 6 (by kernel_rfl) (at_n rfl rfl (at_dep rfl rfl rfl)), g_dep 7 (by kernel_rfl) (at_n rfl rfl (at_dep rfl rfl rfl)), trivial⟩) (fun s w hw => rn_add rfl rfl (IntWalk.i64_in _ (by omega))) (at_top rfl)) ?_
   refine bly_cons 10 rfl (isV _) (syV fst_take [(143, _)] rfl rfl (fun _ => (w_free rfl)) (fun _ => ⟨g_dep 8 (by kernel_rfl) (at_n rfl rfl (at_dep rfl rfl rfl)), trivial⟩) (fun s w hw => rn_sub rfl rfl (IntWalk.i64_in _ (by omega))) (at_top rfl)) ?_
   refine bly_cons 11 rfl (isV _) (syV fst_take [(5, _)] rfl rfl (fun _ => (w_free rfl)) (fun _ => ⟨g_fr (by kernel_rfl) rfl, trivial⟩) (fun s w hw => rn_field (o' := 2) fa_56_2 rfl rfl) (at_top rfl)) ?_
   refine bly_cons 12 rfl (isV _) (syV fst_take [(145, _)] rfl rfl (fun _ => (w_free rfl)) (fun _ => ⟨g_dep 10 (by kernel_rfl) (at_n rfl rfl (at_dep rfl rfl rfl)), trivial⟩) (fun s w hw => rn_load Try.isAgg3 rfl ((cell_own (hw.at_ 0 rfl) rfl))) (at_top rfl)) ?_
   refine bly_cons 13 rfl (isV _) (syV fst_take [(5, _)] rfl rfl (fun _ => (w_free rfl)) (fun _ => ⟨g_fr (by kernel_rfl) rfl, trivial⟩) (fun s w hw => rn_field (o' := 3) fa_56_3 rfl rfl) (at_top rfl)) ?_
   refine bly_cons 14 rfl (isV _) (syV fst_take [(147, _)] rfl rfl (fun _ => (w_free rfl)) (fun _ => ⟨g_dep 12 (by kernel_rfl) (at_n rfl rfl (at_dep rfl rfl rfl)), trivial⟩) (fun s w hw => rn_load Try.isAgg30 rfl ((cell_own (hw.at_ 0 rfl) rfl))) (at_top rfl)) ?_
   refine bly_cons 15 rfl (isV _) (syV fst_take [(148, _)] rfl rfl (fun _ => (w_free rfl)) (fun _ => ⟨g_dep 13 (by kernel_rfl) (at_n rfl rfl (at_dep rfl rfl rfl)), trivial⟩) (fun s w hw => rn_indexA (j := 0) Try.underlying30 Try.sizeOf3 rfl rfl rfl (by omega) (Nat.add_zero _)) (at_top rfl)) ?_
   refine bly_cons 16 rfl (isV _) (syV fst_take [(149, _)] rfl rfl (fun _ => (w_free rfl)) (fun _ => ⟨g_dep 14 (by kernel_rfl) (at_n rfl rfl (at_dep rfl rfl rfl)), trivial⟩) (fun s w hw => rn_load Try.isAgg3 rfl (hw.agree.cell (Nat.zero_le _) (k13a))) (at_top rfl)) ?_
   refine bly_cons 17 rfl (isV _) (syV fst_take [(5, _)] rfl rfl (fun _ => (w_free rfl)) (fun _ => ⟨g_fr (by kernel_rfl) rfl, trivial⟩) (fun s w hw => rn_field (o' := 3) fa_56_3 rfl rfl) (at_top rfl)) ?_
   refine bly_cons 18 rfl (isV _) (syV fst_take [(151, _)] rfl rfl (fun _ => (w_free rfl)) (fun _ => ⟨g_dep 16 (by kernel_rfl) (at_n rfl rfl (at_dep rfl rfl rfl)), trivial⟩) (fun s w hw => rn_load Try.isAgg30 rfl ((cell_own (hw.at_ 0 rfl) rfl))) (at_top rfl)) ?_
   refine bly_cons 19 rfl (isV _) (syV fst_take [(152, _)] rfl rfl (fun _ => (w_free rfl)) (fun _ => ⟨g_dep 17 (by kernel_rfl) (at_n rfl rfl (at_dep rfl rfl rfl)), trivial⟩) (fun s w hw => rn_indexA (j := 1) Try.underlying30 Try.sizeOf3 rfl rfl rfl (by omega) rfl) (at_top rfl)) ?_
   refine bly_cons 20 rfl (isV _) (syV fst_take [(153, _)] rfl rfl (fun _ => (w_free rfl)) (fun _ => ⟨g_dep 18 (by kernel_rfl) (at_n rfl rfl (at_dep rfl rfl rfl)), trivial⟩) (fun s w hw => rn_load Try.isAgg3 rfl (hw.agree.cell (Nat.zero_le _) (k13b))) (at_top rfl)) ?_
   refine bly_cons 21 rfl (isRow W.heap.size 2 3 _) (sy_rowV fst_take (us := [.int .i64 _, .int .i64 _]) rfl rfl (fun _ => (w_free rfl)) Try.underlying30 Try.sizeOf3 Try.zeroValue3 rfl rfl (fun _ => ⟨p_tmp (g_dep 15 (by kernel_rfl) (at_n rfl rfl (at_dep rfl rfl rfl))), p_tmp (g_dep 19 (by kernel_rfl) (at_n rfl rfl (at_dep rfl rfl rfl))), trivial⟩) (bs_30_2 _ _) (at_top rfl)) ?_
   refine bly_cons 22 rfl (isV _) (syV fst_take [(0, _)] rfl rfl (fun _ => (w_free rfl)) (fun _ => ⟨g_fr (by kernel_rfl) rfl, trivial⟩) (fun s w hw => rn_move rfl) (at_top rfl)) ?_
   refine bly_cons 23 rfl (isV _) (syV fst_take [(156, _)] rfl rfl (fun _ => (w_free rfl)) (fun _ => ⟨g_dep 21 (by kernel_rfl) (at_n rfl rfl (at_dep rfl rfl rfl)), trivial⟩) (fun s w hw => rn_nilCheck rfl) (at_top rfl)) ?_
   refine bly_cons 24 rfl (isV _) (syV fst_take [(157, _)] rfl rfl (fun _ => (w_free rfl)) (fun _ => ⟨g_dep 22 (by kernel_rfl) (at_n rfl rfl (at_dep rfl rfl rfl)), trivial⟩) (fun s w hw => rn_field (o' := 0) fa_101_0 rfl rfl) (at_top rfl)) ?_
   refine bly_cons 25 rfl (isV _) (syV fst_take [(158, _)] rfl rfl (fun _ => (w_free rfl)) (fun _ => ⟨g_dep 23 (by kernel_rfl) (at_n rfl rfl (at_dep rfl rfl rfl)), trivial⟩) (fun s w hw => rn_loadA (vs := [_, _, _, _, _, _, _, _, _]) Try.isAgg98 Try.sizeOf98 rfl ((CellsAt.own (j := 0) (m := 9) (hw.at_ 1 rfl) rfl))) (at_top rfl)) ?_
   refine bly_cons 26 rfl (isNew W.heap.size S (oneX S)) (sy_call fst_take (fun s => [isV _]) rfl rfl goes_76 (fun _ => w_free rfl) (fun s => ⟨p_tmp (g_dep 24 (by kernel_rfl) (at_n rfl rfl (at_dep rfl rfl rfl))), trivial⟩) (fun vs s0 w' hk hw hlo hh => by have e := holds_isV (us := [_]) hh; subst e; exact wret_gN hlo (ringOne_is S sf f0 w' (hs.below hw.below) hok)) (at_top rfl)) ?_
   refine bly_cons 27 rfl (isRuleN W.heap.size S (zt + (rwl : Int) - 3) (yt + (rwl : Int) - 3) (rq) [ws.getD 0 0, ws.getD 1 0] (oneX S)) (syPs [(5, 140, isV _), (9, 144, isV _), (11, 146, isV _), (20, 155, isRow W.heap.size 2 3 [.int .i64 (ws.getD 0 0), .int .i64 (ws.getD 1 0)]), (25, 160, isNew W.heap.size S (oneX S))] rfl rfl ⟨⟨by kernel_rfl, at_dep rfl rfl rfl⟩, ⟨by kernel_rfl, at_dep rfl rfl rfl⟩, ⟨by kernel_rfl, at_dep rfl rfl rfl⟩, ⟨by kernel_rfl, at_dep rfl rfl rfl⟩, ⟨by kernel_rfl, at_dep rfl rfl rfl⟩, trivial⟩ (bld_rule9 (fun _ _ h => row_cl9 h)) (at_top rfl)) ?_
   refine bly_nil ?_
   intro s8 W8 Ks8 hall8 hsz8 hKs8 hS' hcov8 hfx8 hno8
   clear hS; have hS := hS'.castO (O' := (_ :: _ :: Ot)) rfl; clear hS'
   refine castL (L' := [AwS _ _ (isV _), AwS _ _ (isV _), AwS _ _ (isV _), AwS _ _ (isV _), AwS _ _ (isV _), AwS _ _ (isV _), AwS _ _ (isV _), AwS _ _ (isV _), AwS _ _ (isV _), AwS _ _ (isV _), AwS _ _ (isV _), AwS _ _ (isV _), AwS _ _ (isV _), AwS _ _ (isV _), AwS _ _ (isV _), AwS _ _ (isV _), AwS _ _ (isV _), AwS _ _ (isV _), AwS _ _ (isV _), AwS _ _ (isV _), AwS _ _ (isRow W.heap.size 2 3 _), AwS _ _ (isV _), AwS _ _ (isV _), AwS _ _ (isV _), AwS _ _ (isV _), AwS _ _ (isNew W.heap.size S (oneX S)), AwS _ _ (isRuleN W.heap.size S (zt + (rwl : Int) - 3) (yt + (rwl : Int) - 3) (rq) [ws.getD 0 0, ws.getD 1 0] (oneX S))]) rfl ?_
   refine fin_sV ?_
   refine fin_sV ?_
   refine fin_sV ?_
   refine fin_sV ?_
   refine fin_sV ?_
   refine fin_sV ?_
   refine fin_sV ?_
   refine fin_sV ?_
   refine fin_sV ?_
   refine fin_sV ?_
   refine fin_sV ?_
   refine fin_sV ?_
   refine fin_sV ?_
   refine fin_sV ?_
   refine fin_sV ?_
   refine fin_sV ?_
   refine fin_sV ?_
   refine fin_sV ?_
   refine fin_sV ?_
   refine fin_sV ?_
   refine fin_p ?_; intro _ _
   refine fin_sV ?_
   refine fin_sV ?_
   refine fin_sV ?_
   refine fin_sV ?_
   refine fin_p ?_; intro _ _
   refine fin_p ?_; rintro vR hR9; have hcovC := @hcov8; obtain ⟨aR, cR, fR, rfl, hwR, hxR⟩ := hR9.here
   refine fin_nil ?_
   have HR : Held w0 (_ ++ Kk) (fun W2 => RHeld w0.heap.size S W2 ⟨num, false, zt + (rwl : Int) - 3, yt + (rwl : Int) - 3, rq, aR, cR, [ws.getD 0 0, ws.getD 1 0], fR, oneX S⟩) := fun h2 hk => (RHeld.agree (r := ⟨num, false, zt + (rwl : Int) - 3, yt + (rwl : Int) - 3, rq, aR, cR, [ws.getD 0 0, ws.getD 1 0], fR, oneX S⟩) ⟨hwR, hxR⟩ (sameX_agree9 (hcovC h2 (fun q hq => hk q (List.mem_append_left _ hq))) (fun b h1 hx => by have h3 := xb_lt9 hS7 hx; omega))).mono hszN
   refine op_callX (vs := [_, _, _, _]) goes_73 rfl (shPut_is sf f0 sq (zt + ((rwl - 2 : Nat) : Int)) (yt + ((rwl - 2 : Nat) : Int)) u1 u2 u3 (n + ns.length) (xs1 ++ ns.flatMap ten9) (xs2 ++ ns.map (fun r => Value.int .i64 r.num)) (xs3 ++ ns.map (fun r => Value.bool r.first)) B _ _ w0 num false (zt + (rwl : Int) - 3) (yt + (rwl : Int) - 3) (rq) aR ([ws.getD 0 0, ws.getD 1 0]).length cR fR _ (hS.perm (List.Perm.swap _ _ _)) (by omega)) rfl ?_
   rintro e W9 ⟨w1, w2, w3, rfl, hS9⟩
   refine ⟨_, rfl, ?_⟩
   clear hS; have hS := hS9.perm (List.Perm.swap _ _ _); clear hS9
   refine endF ?_
   refine XF.resN (res0 Try.results43) ?_
   refine ⟨w1, w2, w3, _, ns ++ [⟨num, false, zt + (rwl : Int) - 3, yt + (rwl : Int) - 3, rq, aR, cR, [ws.getD 0 0, ws.getD 1 0], fR, oneX S⟩], rfl, ?_, fun q hq => List.mem_append_right _ (hsub q hq), fun h2 hk r hr => ?_, hS.tail.castG (by simp [Nat.add_assoc])⟩
   ·rw [List.map_append, hns]
    unfold partsF
    rw [if_neg (by omega), ← hlen]
    simp only [List.map_cons, List.map_nil, List.cons_append]
    rw [show zt + ((ws.length - 3 : Nat) : Int) = zt + (ws.length : Int) - 3 by omega, show yt + ((ws.length - 3 : Nat) : Int) = yt + (ws.length : Int) - 3 by omega]
   ·rcases List.mem_append.1 hr with hr | hr
    ·exact HN h2 (fun q hq => hk q (List.mem_append_right _ hq)) r hr
    ·simp at hr; subst hr; exact HR h2 hk
end Go.Proofs.Ytnhnedifekejpaa
namespace Go.Proofs.Ytnhnedifekejpaa
open Go Go.RowKit
abbrev z8 : List Value := [.int .i64 0, .int .i64 0, .slice none 0 0, .int .i64 0, .int .i64 0, .slice none 0 0, .slice none 0 0, .slice none 0 0]
def tooMany (p : PV) : Bool := decide (4096 < p.st + (moreF p.rs : Int)) || (decide (4096 < p.sy + (moreF p.rs : Int)) || decide (16384 < (p.rl : Int) + (moreF p.rs : Int)))
def SpFar (lo : Nat) (S : PS) (s2 : SF) (W : World) : Prop := ∀ W3, Agree lo W W3 → SIs W3 S s2
structure ShortOk (p : PV) (S : PS) (px : RV → PX) (w w' : World) (s2 : SF) (v1 v2 v3 : Value) (ns : List R9) : Prop where
 pds : PdsOk w S px p
 few : tooMany p = false
 pl : ns.map R9.pl = shortF (oneX S) px p.rs 0 p.st p.sy
 space : SpFar w.heap.size S s2 w'
 rules : ∀ r ∈ ns, RHeld w.heap.size S w' r
 r1 : w'.ownsRow w.heap.size 56 10 v1 ns.length (ns.flatMap ten9)
 r2 : w'.ownsRow w.heap.size 3 1 v2 ns.length (ns.map (fun r => Value.int .i64 r.num))
 r3 : w'.ownsRow w.heap.size 4 1 v3 ns.length (ns.map (fun r => Value.bool r.first))
abbrev shortV (p : PV) (s2 : SF) (v1 v2 v3 : Value) : List Value := [.int .i64 s2.tag, .int .i64 s2.dim, .slice s2.a s2.len s2.cap, .int .i64 (p.st + (moreF p.rs : Int)), .int .i64 (p.sy + (moreF p.rs : Int)), v1, v2, v3]
def ShortRet (S : PS) (px : RV → PX) (p : PV) (w : World) (e : Ending) (w' : World) : Prop := Below w.heap.size w w' ∧ ((pdsE p ≠ 0 ∧ e = .returned (.tuple #[.agg z8.toArray, .int .i64 (pdsE p)])) ∨ (pdsE p = 0 ∧ tooMany p = true ∧ e = .returned (.tuple #[.agg z8.toArray, .int .i64 3])) ∨ (pdsE p = 0 ∧ ∃ s2 v1 v2 v3 ns, ShortOk p S px w w' s2 v1 v2 v3 ns ∧ e = .returned (.tuple #[.agg (shortV p s2 v1 v2 v3).toArray, .int .i64 0])))
theorem shortRet_bad {S : PS} {px : RV → PX} {p : PV} {w w' : World} (h : pdsE p ≠ 0) (hb : Below w.heap.size w w') : ShortRet S px p w (.returned (.tuple #[.agg z8.toArray, .int .i64 (pdsE p)])) w' := ⟨hb, .inl ⟨h, rfl⟩⟩
theorem shortRet_many {S : PS} {px : RV → PX} {p : PV} {w w' : World} (h : pdsE p = 0) (h2 : tooMany p = true) (hb : Below w.heap.size w w') : ShortRet S px p w (.returned (.tuple #[.agg z8.toArray, .int .i64 3])) w' := ⟨hb, .inr (.inl ⟨h, h2, rfl⟩)⟩
theorem shortRet_ok {p : PV} {S : PS} {px : RV → PX} {w w' : World} {s2 : SF} {v1 v2 v3 : Value} {ns : List R9} (h : ShortOk p S px w w' s2 v1 v2 v3 ns) (hb : Below w.heap.size w w') : ShortRet S px p w (.returned (.tuple #[.agg (shortV p s2 v1 v2 v3).toArray, .int .i64 0])) w' := ⟨hb, .inr (.inr ⟨h.pds.chk, s2, v1, v2, v3, ns, h, rfl⟩)⟩
def isSpN (lo : Nat) (S : PS) : Asr := fun v w => ∃ s2 : SF, v = s2.val ∧ ∀ W2, Agree lo w W2 → SIs W2 S s2
theorem copySp_is (S : PS) (sf : SF) (w : World) (hs : SIs w S sf) {lo : Nat} (hlo : lo ≤ w.heap.size) : Calls Try.prog 42 #[sf.val] w (GivesN (isSpN lo S) w) := by
 cases S with
 | one t n =>
  obtain ⟨a, c, rfl⟩ := hs
  refine (copySpace1 t n a c w).mono fun e w' ⟨he, hb⟩ => ⟨_, he, fun w3 hg => ⟨⟨t, n, none, 0, 0⟩, rfl, fun W2 h2 => ⟨none, 0, rfl⟩⟩, hb⟩
 | two t n u m =>
  obtain ⟨b, off, c, a1, c1, a2, c2, rfl, h1, h2⟩ := hs
  refine (copySpace2 5 0 (some ⟨b, off, none⟩) 2 c [⟨t, n, a1, 0, c1⟩, ⟨u, m, a2, 0, c2⟩] w (fun i q hq => ?_) rfl (fun q hq => ?_) (Nat.le_refl _)).mono ?_
  ·match i, hq with
   | 0, hq => cases hq; exact ⟨b, off, rfl, by rw [Nat.zero_mul, Nat.add_zero]; exact h1⟩
   | 1, hq => cases hq; exact ⟨b, off, rfl, by rw [Nat.one_mul]; exact h2⟩
   | i + 2, hq => simp at hq
  ·simp at hq; rcases hq with rfl | rfl <;> rfl
  ·rintro e w' ⟨v, he, hr, hb⟩
   refine ⟨_, he, fun w3 hg => ?_, hb⟩
   obtain ⟨b9, c9, rfl, _⟩ := ownsRow_at hr (by omega)
   refine ⟨⟨5, 0, some ⟨b9, 0, none⟩, 2, c9⟩, rfl, fun W2 h3 => ?_⟩
   have h4 := ownsRow_agree (ownsRow_base (ownsRow_agree hr hg) hlo) h3
   have hc : ∀ (j : Nat) x, ([SF.mk t n a1 0 c1, ⟨u, m, a2, 0, c2⟩].flatMap bare3)[j]? = some x → W2.cell? ⟨b9, j, none⟩ = some x := fun j x hj => ownsRow_blk h4 hj
   exact ⟨b9, 0, c9, none, 0, none, 0, rfl, ⟨hc 0 _ rfl, hc 1 _ rfl, hc 2 _ rfl⟩, ⟨hc 3 _ rfl, hc 4 _ rfl, hc 5 _ rfl⟩⟩
theorem moreF_bound {p : PV} {w : World} {S : PS} {px : RV → PX} (h : PdsOk w S px p) (hl : p.rs.length = p.rl) : moreF p.rs ≤ 67108864 := by
 have h1 := moreF_le (rs := p.rs) (m := 4096) h.w4
 have h2 := h.rl
 have h3 : p.rs.length * 4096 ≤ 16384 * 4096 := Nat.mul_le_mul_right _ (by omega)
 omega
theorem tooMany_of {p : PV} (h : 4096 < p.st + (moreF p.rs : Int) ∨ 4096 < p.sy + (moreF p.rs : Int) ∨ 16384 < (p.rl : Int) + (moreF p.rs : Int)) : tooMany p = true := by
 unfold tooMany
 simp only [Bool.or_eq_true, decide_eq_true_eq]; omega
theorem tooMany_no {p : PV} (h1 : ¬ 4096 < p.st + (moreF p.rs : Int)) (h2 : ¬ 4096 < p.sy + (moreF p.rs : Int)) (h3 : ¬ 16384 < (p.rl : Int) + (moreF p.rs : Int)) : tooMany p = false := by
 unfold tooMany
 simp only [Bool.or_eq_false_iff, decide_eq_false_iff_not]; omega
theorem shortF_len {one : PX} {px : RV → PX} : ∀ {rs : List RV} {i : Nat} {z y : Int}, (∀ r ∈ rs, r.ws.length = r.wl) → (shortF one px rs i z y).length = rs.length + moreF rs
 | [], _, _, _, _ => rfl
 | r :: rs, i, z, y, h => by
  simp only [shortF, List.length_append, List.length_cons, partsF_len, moreF_cons]
  rw [shortF_len (fun x hx => h x (List.mem_cons_of_mem _ hx)), h r List.mem_cons_self]
  omega
end Go.Proofs.Ytnhnedifekejpaa
namespace Go.Proofs.Ytnhnedifekejpaa
open Go Go.RowKit
def BRow (w : World) (a : Option Addr) (fs : List Bool) : Prop := ∀ (i : Nat) f, fs[i]? = some f → ∃ b off, a = some ⟨b, off, none⟩ ∧ w.cell? ⟨b, off + i * 1, none⟩ = some (.bool f)
def NRow (w : World) (a : Option Addr) (ns : List R9) : Prop := ∀ (i : Nat) r, ns[i]? = some r → ∃ b off, a = some ⟨b, off, none⟩ ∧ CellsAt w b (off + i * 10) (ten9 r)
theorem BRow.below {w w' : World} {a : Option Addr} {fs : List Bool} (h : BRow w a fs) (hb : Below w.heap.size w w') : BRow w' a fs := fun i f hi => by
 obtain ⟨b, off, e, h1⟩ := h i f hi
 exact ⟨b, off, e, (hb.cell (World.block_lt_of_cell? _ _ h1)).trans h1⟩
theorem NRow.below {w w' : World} {a : Option Addr} {ns : List R9} (h : NRow w a ns) (hb : Below w.heap.size w w') : NRow w' a ns := fun i r hi => by
 obtain ⟨b, off, e, h1⟩ := h i r hi
 exact ⟨b, off, e, h1.agree (below_agree hb 0) (Nat.zero_le _)⟩
theorem rowN_lim8 {lo : Nat} {W : World} {a : Option Addr} {c : Nat} {xs : List Int} (h : RowN lo W a c xs) : xs.length ≤ maxLen := by
 rcases h.2 with ⟨e1, e2⟩ | ⟨g, cap, cur, e1, _, _, hn, hm, _⟩
 ·omega
 ·omega
structure ROk (S : PS) (W : World) (r : R9) : Prop where
 w : Row W r.wa r.ws
 l : r.ws.length ≤ 9223372036854775807
 x : XIs W S r.f r.x
theorem ROk.below {S : PS} {w w' : World} {r : R9} (h : ROk S w r) (hb : Below w.heap.size w w') : ROk S w' r := ⟨h.w.below hb, h.l, h.x.below hb⟩
theorem RHeld.ok {lo : Nat} {S : PS} {W : World} {r : R9} (h : RHeld lo S W r) : ROk S W r := ⟨h.w.row, by have h9 := rowN_lim8 h.w; simp only [maxLen] at h9; omega, h.x.is⟩
def Spc : Option PS → World → SF → Prop
 | none, _, f => f = ⟨0, 0, none, 0, 0⟩
 | some S, w, f => S.ok ∧ SIs w S f
theorem Spc.below {o : Option PS} {w w' : World} {f : SF} (h : Spc o w f) (hb : Below w.heap.size w w') : Spc o w' f := by
 cases o with
 | none => exact h
 | some S => exact ⟨h.1, h.2.below hb⟩
theorem Spc.sin {o : Option PS} {w : World} {f g : SF} (h : Spc o w f) (h2 : Spc o w g) : ∃ s t : SV, s.f = f ∧ t.f = g ∧ SIn w 2 s ∧ SIn w 2 t ∧ smS 3 s = true ∧ eqS 2 s t = true := by
 cases o with
 | none =>
  cases h; cases h2
  exact ⟨.mk ⟨0, 0, none, 0, 0⟩ [], .mk ⟨0, 0, none, 0, 0⟩ [], rfl, rfl, ⟨rfl, .inl rfl, by simp⟩, ⟨rfl, .inl rfl, by simp⟩, rfl, by simp [eqS]⟩
 | some S =>
  obtain ⟨hok, h⟩ := h
  obtain ⟨_, h2⟩ := h2
  cases S with
  | one t n =>
   obtain ⟨a, c, rfl⟩ := h
   obtain ⟨a', c', rfl⟩ := h2
   exact ⟨.mk ⟨t, n, a, 0, c⟩ [], .mk ⟨t, n, a', 0, c'⟩ [], rfl, rfl, ⟨rfl, .inl rfl, by simp⟩, ⟨rfl, .inl rfl, by simp⟩, by simp [smS, SV.f], by simp [eqS]⟩
  | two t n u m =>
   have key : ∀ {f : SF}, SIs w (.two t n u m) f → ∃ (b off c c1 c2 : Nat) (a1 a2 : Option Addr), f = ⟨5, 0, some ⟨b, off, none⟩, 2, c⟩ ∧ SIn w 2 (.mk ⟨5, 0, some ⟨b, off, none⟩, 2, c⟩ [.mk ⟨t, n, a1, 0, c1⟩ [], .mk ⟨u, m, a2, 0, c2⟩ []]) := by
    rintro f ⟨b, off, c, a1, c1, a2, c2, rfl, h1, h2⟩
    refine ⟨b, off, c, c1, c2, a1, a2, rfl, rfl, .inr ⟨b, off, rfl, fun i p hi => ?_⟩, ?_⟩
    ·match i, hi with
     | 0, hi => simp at hi; subst hi; simpa [SV.f] using h1
     | 1, hi => simp at hi; subst hi; simpa [SV.f] using h2
    ·intro p hp
     simp at hp
     rcases hp with rfl | rfl <;> exact ⟨rfl, .inl rfl, by simp⟩
   obtain ⟨b, off, c, c1, c2, a1, a2, rfl, k1⟩ := key h
   obtain ⟨b', off', c', c1', c2', a1', a2', rfl, k2⟩ := key h2
   exact ⟨_, _, rfl, rfl, k1, k2, by simp [smS, SV.f], by simp [eqS]⟩
theorem sameSpc {o : Option PS} {w : World} {f g : SF} (h : Spc o w f) (h2 : Spc o w g) : Calls Try.prog 54 #[f.val, g.val] w fun e w' => e = .returned (.bool true) ∧ Below w.heap.size w w' := by
 obtain ⟨s, t, rfl, rfl, k1, k2, k3, k4⟩ := h.sin h2
 have h9 := sameSpaceR_is 2 3 s t w k1 k2 k3
 rw [k4] at h9
 exact h9
theorem pl_at9 {ns ms : List R9} (h : ns.map R9.pl = ms.map R9.pl) {i : Nat} {r : R9} (hi : ns[i]? = some r) : ∃ q, ms[i]? = some q ∧ q.num = r.num ∧ q.first = r.first ∧ q.p = r.p ∧ q.g = r.g ∧ q.q = r.q ∧ q.ws = r.ws ∧ q.x = r.x := by
 have h1 : (ms.map R9.pl)[i]? = some r.pl := by rw [← h, List.getElem?_map, hi]; rfl
 rw [List.getElem?_map] at h1
 obtain ⟨q, hq, e⟩ := Option.map_eq_some_iff.1 h1
 simp only [R9.pl, Prod.mk.injEq] at e
 exact ⟨q, hq, e.1, e.2.1, e.2.2.1, e.2.2.2.1, e.2.2.2.2.1, e.2.2.2.2.2.1, e.2.2.2.2.2.2⟩
structure ShO (o : Option PS) (pl : List PR) (W : World) (sf : SF) (n : Nat) (a1 a2 a3 : Option Addr) (ns : List R9) : Prop where
 r1 : NRow W a1 ns
 r2 : Row W a2 (ns.map R9.num)
 r3 : BRow W a3 (ns.map R9.first)
 ok : ∀ S, o = some S → ∀ r ∈ ns, ROk S W r
 no : o = none → ns = []
 pl : ns.map R9.pl = pl
 sp : Spc o W sf
 len : ns.length = n
 max : n ≤ 1000000
theorem ShO.below {o : Option PS} {pl : List PR} {w w' : World} {sf : SF} {n : Nat} {a1 a2 a3 : Option Addr} {ns : List R9} (h : ShO o pl w sf n a1 a2 a3 ns) (hb : Below w.heap.size w w') : ShO o pl w' sf n a1 a2 a3 ns := ⟨h.r1.below hb, h.r2.below hb, h.r3.below hb, fun S e r hr => (h.ok S e r hr).below hb, h.no, h.pl, h.sp.below hb, h.len, h.max⟩
end Go.Proofs.Ytnhnedifekejpaa
namespace Go.Proofs.Ytnhnedifekejpaa
open Go Go.RowKit
theorem sameWord_eq (wa va : Option Addr) (wl wc vc : Nat) (ws : List Int) (w : World) (hrow : Row w wa ws) (hrov : Row w va ws) (hlen : ws.length = wl) (hmx : wl ≤ 9223372036854775807) :
  Calls Try.prog 45 #[.slice wa wl wc, .slice va wl vc] w (fun e w' => e = .returned (.bool (true)) ∧ Below w.heap.size w w') := by
 refine enterF (args := [.slice wa wl wc, .slice va wl vc]) Try.func45 rfl Try.ntmps45 rfl ?_
 have hS := St.start w
 refine seqF (regF ?_)
 refine op_assign rfl rfl ?_
 refine endF (XF.thenN ?_)
 refine seqF ?_
 refine seqF (regF ?_)
 refine op_move rfl rfl ?_
 refine op_len Try.underlying30 rfl rfl ?_
 refine op_move rfl rfl ?_
 refine op_len Try.underlying30 rfl rfl ?_
 refine op_neq rfl rfl rfl ?_
 refine endF (XF.thenN ?_)
 refine condF rfl (fun hc => absurd (of_decide_eq_true hc) (by exact fun h => h rfl)) (fun hc => ?_)
 have hc := of_decide_eq_false hc
 refine skipF ?_
 refine XF.thenN ?_
 refine seqF ?_
 refine seqF (regF ?_)
 refine op_assign rfl rfl ?_
 refine endF (XF.thenN ?_)
 refine blockF ?_
 refine loopF (fun m l W => ∃ i : Nat, i ≤ wl ∧ m = wl - i ∧ l = [(0, .slice wa wl wc), (1, .slice va wl vc), (5, .int .i64 (i : Int))] ∧ St w [] [] [] W) (wl - 0) ([(0, _), (1, _), (5, _)]) ⟨rfl, rfl, rfl, trivial⟩ (⟨0, Nat.zero_le _, rfl, rfl, hS.clear⟩) ?_
 clear hS
 rintro m l W ⟨i, hi, rfl, rfl, hS⟩
 refine seqF ?_
 refine seqF (regF ?_)
 refine op_move rfl rfl ?_
 refine op_move rfl rfl ?_
 refine op_len Try.underlying30 rfl rfl ?_
 refine op_lss rfl rfl rfl ?_
 refine endF (XF.thenN ?_)
 refine condF rfl (fun hc => ?_) (fun hc => ?_)
 ·have hc14 := of_decide_eq_true hc; clear hc
  have hk : i < wl := by omega
  obtain ⟨b1, o1, y, rfl, hy, hyc⟩ := hrow.at1 (show i < ws.length by omega)
  obtain ⟨b2, o2, z, rfl, hz, hzc⟩ := hrov.at1 (show i < ws.length by omega)
  obtain rfl : y = z := Option.some.inj (hy.symm.trans hz)
  have k1 := hS.old hyc
  have k2 := hS.old hzc
  refine skipF ?_
  refine XF.thenN ?_
  refine seqF ?_
  refine blockF ?_
  refine seqF ?_
  refine regB (m := 9) followsM hS (by kernel_rfl) (by kernel_rfl) rfl ?_
  refine bl_cons 1 rfl (isV _) (stab_isV _) (rgV (li := [(0, _)]) rfl (w_free rfl) ⟨g_fr (by kernel_rfl) rfl, trivial⟩ (fun w hw => rn_move rfl) (at_top rfl)) ?_
  refine bl_cons 2 rfl (isV _) (stab_isV _) (rgV (li := [(5, _)]) rfl (w_free rfl) ⟨g_fr (by kernel_rfl) rfl, trivial⟩ (fun w hw => rn_move rfl) (at_top rfl)) ?_
  refine bl_cons 3 rfl (isV _) (stab_isV _) (rgV (li := [(17, _), (18, _)]) rfl (w_free rfl) ⟨g_dep 0 (by kernel_rfl) (at_dep rfl rfl rfl), g_dep 1 (by kernel_rfl) (at_dep rfl rfl rfl), trivial⟩ (fun w hw => rn_indexA  Try.underlying30 Try.sizeOf3 rfl rfl rfl (by omega) rfl) (at_top rfl)) ?_
  refine bl_cons 4 rfl (isV _) (stab_isV _) (rgV (li := [(19, _)]) rfl (w_free rfl) ⟨g_dep 2 (by kernel_rfl) (at_dep rfl rfl rfl), trivial⟩ (fun w hw => rn_load Try.isAgg3 rfl ((below_agree hw 0).cell (Nat.zero_le _) (k1))) (at_top rfl)) ?_
  refine bl_cons 5 rfl (isV _) (stab_isV _) (rgV (li := [(1, _)]) rfl (w_free rfl) ⟨g_fr (by kernel_rfl) rfl, trivial⟩ (fun w hw => rn_move rfl) (at_top rfl)) ?_
  refine bl_cons 6 rfl (isV _) (stab_isV _) (rgV (li := [(5, _)]) rfl (w_free rfl) ⟨g_fr (by kernel_rfl) rfl, trivial⟩ (fun w hw => rn_move rfl) (at_top rfl)) ?_
  refine bl_cons 7 rfl (isV _) (stab_isV _) (rgV (li := [(21, _), (22, _)]) rfl (w_free rfl) ⟨g_dep 4 (by kernel_rfl) (at_dep rfl rfl rfl), g_dep 5 (by kernel_rfl) (at_dep rfl rfl rfl), trivial⟩ (fun w hw => rn_indexA  Try.underlying30 Try.sizeOf3 rfl rfl rfl (by omega) rfl) (at_top rfl)) ?_
  refine bl_cons 8 rfl (isV _) (stab_isV _) (rgV (li := [(23, _)]) rfl (w_free rfl) ⟨g_dep 6 (by kernel_rfl) (at_dep rfl rfl rfl), trivial⟩ (fun w hw => rn_load Try.isAgg3 rfl ((below_agree hw 0).cell (Nat.zero_le _) (k2))) (at_top rfl)) ?_
  refine bl_cons 9 rfl (isV _) (stab_isV _) (rgV (li := [(20, _), (24, _)]) rfl (w_free rfl) ⟨g_dep 3 (by kernel_rfl) (at_dep rfl rfl rfl), g_dep 7 (by kernel_rfl) (at_dep rfl rfl rfl), trivial⟩ (fun w hw => rn_neq rfl rfl) (at_top rfl)) ?_
  refine bl_nil ?_
  intro W1 hbR hS'
  clear hS; have hS := hS'; clear hS'
  refine fin_v ?_
  refine fin_v ?_
  refine fin_v ?_
  refine fin_v ?_
  refine fin_v ?_
  refine fin_v ?_
  refine fin_v ?_
  refine fin_v ?_
  refine fin_v ?_
  refine fin_nil ?_
  refine XF.thenN ?_
  refine condF rfl (fun hc => absurd hc (by simp)) (fun hc => ?_)
  skip
  refine skipF ?_
  refine XF.blkN ?_
  refine XF.thenN ?_
  refine regF ?_
  refine op_move rfl rfl ?_
  refine op_add rfl rfl (IntWalk.i64_in _ (by omega)) rfl ?_
  refine op_assign rfl rfl ?_
  refine endF ?_
  exact XF.round (wl - (i + 1)) [(0, _), (1, _), (5, _)] (by omega) ⟨rfl, rfl, rfl, trivial⟩ ⟨i + 1, by omega, rfl, rfl, hS.clear⟩
 ·have hc14 := of_decide_eq_false hc; clear hc
  refine exitF ?_
  refine XF.thenX ?_
  refine XF.thenX ?_
  refine XF.blkX ?_
  refine XF.thenN ?_
  refine seqF (regF ?_)
  refine op_assign rfl rfl ?_
  refine endF (XF.thenN ?_)
  refine retF ?_
  refine XF.res (res1 Try.results45 rfl) ?_
  exact ⟨rfl, hS.below⟩
end Go.Proofs.Ytnhnedifekejpaa
namespace Go.Proofs.Ytnhnedifekejpaa
open Go Go.RowKit
theorem goes_45 : goesIn Try.prog 45 = true := by kernel_rfl
theorem sameP_eq (o : Option PS) (pl : List PR) (s1 s2 : SF) (st sy : Int) (n : Nat) (a1 a2 b1 b2 d1 d2 : Option Addr) (c1 c2 : Nat) (ns ms : List R9) (w : World) (h1 : ShO o pl w s1 n a1 b1 d1 ns) (h2 : ShO o pl w s2 n a2 b2 d2 ms) :
  Calls Try.prog 44 #[.agg #[.int .i64 s1.tag, .int .i64 s1.dim, .slice s1.a s1.len s1.cap, .int .i64 st, .int .i64 sy, .slice a1 n c1], .agg #[.int .i64 s2.tag, .int .i64 s2.dim, .slice s2.a s2.len s2.cap, .int .i64 st, .int .i64 sy, .slice a2 n c2]] w (fun e w' => e = .returned (.bool (true)) ∧ Below w.heap.size w w') := by
 refine enterF (args := [.agg #[.int .i64 s1.tag, .int .i64 s1.dim, .slice s1.a s1.len s1.cap, .int .i64 st, .int .i64 sy, .slice a1 n c1], .agg #[.int .i64 s2.tag, .int .i64 s2.dim, .slice s2.a s2.len s2.cap, .int .i64 st, .int .i64 sy, .slice a2 n c2]]) Try.func44 rfl Try.ntmps44 rfl ?_
 have hS := St.start w
 have hmx : n ≤ 1000000 := h1.max
 have hpl : ns.map R9.pl = ms.map R9.pl := h1.pl.trans h2.pl.symm
 have hln := h1.len
 refine seqF (regF ?_)
 refine op_box (cs := [_, _, _, _, _, _]) hS rfl rfl rfl ?_
 clear hS; intro B1 W1 hS
 refine op_box (cs := [_, _, _, _, _, _]) hS rfl rfl rfl ?_
 clear hS; intro B2 W2 hS
 refine op_assign rfl rfl ?_
 refine endF (XF.thenN ?_)
 refine seqF ?_
 refine seqF (regF ?_)
 refine op_field (o' := 0) fa_28_0 rfl rfl rfl ?_
 refine op_loadA (vs := [_, _, _]) Try.isAgg25 Try.sizeOf25 rfl (CellsAt.own (j := 0) (m := 3) (hS.at_ 1 rfl) rfl) rfl ?_
 refine op_field (o' := 0) fa_28_0 rfl rfl rfl ?_
 refine op_loadA (vs := [_, _, _]) Try.isAgg25 Try.sizeOf25 rfl (CellsAt.own (j := 0) (m := 3) (hS.at_ 0 rfl) rfl) rfl ?_
 refine op_call (vs := [_, _]) hS goes_54 rfl (sameSpc (h1.sp.below hS.below) (h2.sp.below hS.below)) rfl ?_
 rintro e W3 ⟨rfl, hb⟩
 refine ⟨_, rfl, hb, fun hS' => ?_⟩
 clear hS; have hS := hS'; clear hS' hb
 refine op_not rfl rfl ?_
 refine op_move rfl rfl ?_
 refine op_wantedF (d := 14) rfl rfl ?_
 refine op_field (o' := 3) fa_28_1 rfl rfl rfl ?_
 refine op_wantedF (d := 14) rfl rfl ?_
 refine op_load Try.isAgg3 rfl (cell_own (hS.at_ 1 rfl) rfl) rfl ?_
 refine op_wantedF (d := 14) rfl rfl ?_
 refine op_field (o' := 3) fa_28_1 rfl rfl rfl ?_
 refine op_wantedF (d := 14) rfl rfl ?_
 refine op_load Try.isAgg3 rfl (cell_own (hS.at_ 0 rfl) rfl) rfl ?_
 refine op_wantedF (d := 14) rfl rfl ?_
 refine op_neq rfl rfl rfl ?_
 refine op_pickF rfl rfl rfl ?_
 refine op_move rfl rfl ?_
 refine op_cases (d := 21) rfl (fun hc => absurd (of_decide_eq_true hc) (by exact fun h => h rfl)) (fun hc => ?_)
 have hc := of_decide_eq_false hc
 refine op_wantedF (d := 21) rfl rfl ?_
 refine op_field (o' := 4) fa_28_2 rfl rfl rfl ?_
 refine op_wantedF (d := 21) rfl rfl ?_
 refine op_load Try.isAgg3 rfl (cell_own (hS.at_ 1 rfl) rfl) rfl ?_
 refine op_wantedF (d := 21) rfl rfl ?_
 refine op_field (o' := 4) fa_28_2 rfl rfl rfl ?_
 refine op_wantedF (d := 21) rfl rfl ?_
 refine op_load Try.isAgg3 rfl (cell_own (hS.at_ 0 rfl) rfl) rfl ?_
 refine op_wantedF (d := 21) rfl rfl ?_
 refine op_neq rfl rfl rfl ?_
 refine op_pickF rfl rfl rfl ?_
 refine op_move rfl rfl ?_
 refine op_cases (d := 28) rfl (fun hc => absurd (of_decide_eq_true hc) (by exact fun h => h rfl)) (fun hc => ?_)
 have hc := of_decide_eq_false hc
 refine op_wantedF (d := 28) rfl rfl ?_
 refine op_field (o' := 5) fa_28_3 rfl rfl rfl ?_
 refine op_wantedF (d := 28) rfl rfl ?_
 refine op_load Try.isAgg26 rfl (cell_own (hS.at_ 1 rfl) rfl) rfl ?_
 refine op_wantedF (d := 28) rfl rfl ?_
 refine op_len Try.underlying26 rfl rfl ?_
 refine op_wantedF (d := 28) rfl rfl ?_
 refine op_field (o' := 5) fa_28_3 rfl rfl rfl ?_
 refine op_wantedF (d := 28) rfl rfl ?_
 refine op_load Try.isAgg26 rfl (cell_own (hS.at_ 0 rfl) rfl) rfl ?_
 refine op_wantedF (d := 28) rfl rfl ?_
 refine op_len Try.underlying26 rfl rfl ?_
 refine op_wantedF (d := 28) rfl rfl ?_
 refine op_neq rfl rfl rfl ?_
 refine op_pickF rfl rfl rfl ?_
 refine endF (XF.thenN ?_)
 refine condF rfl (fun hc => absurd (of_decide_eq_true hc) (by exact fun h => h rfl)) (fun hc => ?_)
 have hc := of_decide_eq_false hc
 refine skipF ?_
 refine XF.thenN ?_
 refine seqF ?_
 refine seqF (regF ?_)
 refine op_assign rfl rfl ?_
 refine endF (XF.thenN ?_)
 refine blockF ?_
 refine loopF (fun m l W => ∃ i : Nat, i ≤ n ∧ m = n - i ∧ l = [(2, .pointer (some ⟨B1, 0, none⟩)), (3, .pointer (some ⟨B2, 0, none⟩)), (5, .int .i64 (i : Int))] ∧ St w [(B2, [.int .i64 s2.tag, .int .i64 s2.dim, .slice s2.a s2.len s2.cap, .int .i64 st, .int .i64 sy, .slice a2 n c2], 28), (B1, [.int .i64 s1.tag, .int .i64 s1.dim, .slice s1.a s1.len s1.cap, .int .i64 st, .int .i64 sy, .slice a1 n c1], 28)] [] [] W) (n - 0) ([(2, _), (3, _), (5, _)]) ⟨rfl, rfl, rfl, trivial⟩ (⟨0, Nat.zero_le _, rfl, rfl, hS.clear⟩) ?_
 clear hS
 rintro m l W ⟨i, hi, rfl, rfl, hS⟩
 refine seqF ?_
 refine seqF (regF ?_)
 refine op_move rfl rfl ?_
 refine op_field (o' := 5) fa_28_3 rfl rfl rfl ?_
 refine op_load Try.isAgg26 rfl (cell_own (hS.at_ 1 rfl) rfl) rfl ?_
 refine op_len Try.underlying26 rfl rfl ?_
 refine op_lss rfl rfl rfl ?_
 refine endF (XF.thenN ?_)
 refine condF rfl (fun hc => ?_) (fun hc => ?_)
 ·have hc41 := of_decide_eq_true hc; clear hc
  have hk : i < n := by omega
  obtain ⟨r, hr⟩ : ∃ r, ns[i]? = some r := ⟨ns[i]'(by omega), by simp [show i < ns.length by omega]⟩
  obtain ⟨q, hq, -, -, e1, e2, e3, e4, e5⟩ := pl_at9 hpl hr
  obtain ⟨S, hS9⟩ : ∃ S, o = some S := by
   cases o with
   | none => rw [h1.no rfl] at hr; simp at hr
   | some S => exact ⟨S, rfl⟩
  have hro := h1.ok S hS9 r (List.mem_of_getElem? hr)
  have hqo := h2.ok S hS9 q (List.mem_of_getElem? hq)
  obtain ⟨rb, ro, rfl, hcr⟩ := h1.r1 i r hr
  obtain ⟨qb, qo, rfl, hcq⟩ := h2.r1 i q hq
  obtain ⟨n1, t1, p1, g1, q1, wa1, wc1, ws1, f1, x1⟩ := r
  obtain ⟨n2, t2, p2, g2, q2, wa2, wc2, ws2, f2, x2⟩ := q
  dsimp only at e1 e2 e3 e4 e5
  subst e1 e2 e3 e4 e5
  dsimp only [ten9] at hcr hcq
  have k1 := hcr
  have k2 := hcq
  have hwl9 : ws2.length ≤ 9223372036854775807 := hro.l
  refine skipF ?_
  refine XF.thenN ?_
  refine seqF ?_
  refine blockF ?_
  refine seqF ?_
  refine regS (ef := 12) (jy := 4) (ca := caSt (fun a => bif Nat.beq a 10 then [.int .i64 0, .int .i64 0, .int .i64 0, .slice none 0 0, .bool false, .int .i64 0, .int .u64 0, .slice none 0 0, .slice none 0 0, .slice none 0 0] else [.int .i64 0, .int .i64 0, .int .i64 0, .slice none 0 0, .bool false, .int .i64 0, .int .u64 0, .slice none 0 0, .slice none 0 0, .slice none 0 0]) 10) (ta := fun a => bif Nat.beq a 10 then 56 else 56) (Os := osNo _) (Gs := gsNo _) (al := [10, 11]) (k := 13) (ds := []) followsM rfl hS rfl (by kernel_rfl) (by kernel_rfl) rfl (by decide) rfl (some) (.inl ⟨rfl, rfl⟩) rfl rfl ?_
  refine bls_cons 1 rfl rfl (isV _) (fun hNo => sgV [(2, _)] rfl rfl rfl rfl hNo (w_free rfl) ⟨g_fr (by kernel_rfl) rfl, trivial⟩ (fun ev w he hw => rn_field (o' := 5) fa_28_3 rfl rfl) (at_top rfl)) ?_
  refine bls_cons 2 rfl rfl (isV _) (fun hNo => sgV [(44, _)] rfl rfl rfl rfl hNo (w_free rfl) ⟨g_dep 0 (by kernel_rfl) (at_dep rfl rfl rfl), trivial⟩ (fun ev w he hw => rn_load Try.isAgg26 rfl ((cell_own (hw.at_ 1 rfl) rfl))) (at_top rfl)) ?_
  refine bls_cons 3 rfl rfl (isV _) (fun hNo => sgV [(5, _)] rfl rfl rfl rfl hNo (w_free rfl) ⟨g_fr (by kernel_rfl) rfl, trivial⟩ (fun ev w he hw => rn_move rfl) (at_top rfl)) ?_
  refine bls_cons 4 rfl rfl (isV _) (fun hNo => sgV [(45, _), (46, _)] rfl rfl rfl rfl hNo (w_free rfl) ⟨g_dep 1 (by kernel_rfl) (at_dep rfl rfl rfl), g_dep 2 (by kernel_rfl) (at_dep rfl rfl rfl), trivial⟩ (fun ev w he hw => rn_indexA  Try.underlying26 Try.sizeOf56 rfl rfl rfl (by omega) rfl) (at_top rfl)) ?_
  refine bls_cons 5 rfl rfl (isV _) (fun hNo => sgV [(47, _)] rfl rfl rfl rfl hNo (w_free rfl) ⟨g_dep 3 (by kernel_rfl) (at_dep rfl rfl rfl), trivial⟩ (fun ev w he hw => rn_loadA (vs := [_, _, _, _, _, _, _, _, _, _]) Try.isAgg56 Try.sizeOf56 rfl (CellsAt.agree hw.agree (Nat.zero_le _) (k1))) (at_top rfl)) ?_
  refine bls_cons 6 rfl rfl (isV _) (fun hNo => sgV [(3, _)] rfl rfl rfl rfl hNo (w_free rfl) ⟨g_fr (by kernel_rfl) rfl, trivial⟩ (fun ev w he hw => rn_field (o' := 5) fa_28_3 rfl rfl) (at_top rfl)) ?_
  refine bls_cons 7 rfl rfl (isV _) (fun hNo => sgV [(49, _)] rfl rfl rfl rfl hNo (w_free rfl) ⟨g_dep 5 (by kernel_rfl) (at_dep rfl rfl rfl), trivial⟩ (fun ev w he hw => rn_load Try.isAgg26 rfl ((cell_own (hw.at_ 0 rfl) rfl))) (at_top rfl)) ?_
  refine bls_cons 8 rfl rfl (isV _) (fun hNo => sgV [(5, _)] rfl rfl rfl rfl hNo (w_free rfl) ⟨g_fr (by kernel_rfl) rfl, trivial⟩ (fun ev w he hw => rn_move rfl) (at_top rfl)) ?_
  refine bls_cons 9 rfl rfl (isV _) (fun hNo => sgV [(50, _), (51, _)] rfl rfl rfl rfl hNo (w_free rfl) ⟨g_dep 6 (by kernel_rfl) (at_dep rfl rfl rfl), g_dep 7 (by kernel_rfl) (at_dep rfl rfl rfl), trivial⟩ (fun ev w he hw => rn_indexA  Try.underlying26 Try.sizeOf56 rfl rfl rfl (by omega) rfl) (at_top rfl)) ?_
  refine bls_cons 10 rfl rfl (isV _) (fun hNo => sgV [(52, _)] rfl rfl rfl rfl hNo (w_free rfl) ⟨g_dep 8 (by kernel_rfl) (at_dep rfl rfl rfl), trivial⟩ (fun ev w he hw => rn_loadA (vs := [_, _, _, _, _, _, _, _, _, _]) Try.isAgg56 Try.sizeOf56 rfl (CellsAt.agree hw.agree (Nat.zero_le _) (k2))) (at_top rfl)) ?_
  refine bls_any 11 rfl (sg_alloc rfl rfl rfl rfl rfl Try.zeroValue56 (fun ev he => by rw [he rfl]; rfl)) ?_
  refine bls_any 12 rfl (sg_alloc rfl rfl rfl rfl rfl Try.zeroValue56 (fun ev he => by cases ev <;> rfl)) ?_
  refine bls_any 13 rfl (eff_stA (py := isV _) (m := 10) 10 rfl rfl rfl rfl (by kernel_rfl) rfl (by kernel_rfl) rfl rfl Try.sizeOf56 rfl (fun v w e => ⟨[.int .i64 p2, .int .i64 g2, .int .i64 q2, .slice wa1 ws2.length wc1, .bool f1.z, .int .i64 f1.c, .int .u64 (f1.g : Int), .slice f1.ra f1.rl f1.rc, .slice f1.ca f1.cl f1.cc, .slice f1.pa f1.pl f1.pc], by rw [show v = _ from e]; rfl, rfl, rfl⟩)) ?_
  refine bls_nil ?_
  intro Bf4 y4 W4 Ks4 hsz4 hKs4 hS' hcov4
  clear hS; have hS := hS'.castO (O' := [_, _, _, _]) rfl; clear hS'
  refine castL (L' := [AwS _ _ (isV _), AwS _ _ (isV _), AwS _ _ (isV _), AwS _ _ (isV _), (fun v w => v = _ ∧ AwS _ _ (isV _) v w), AwS _ _ (isV _), AwS _ _ (isV _), AwS _ _ (isV _), AwS _ _ (isV _), AwS _ _ (isV _), isV _, isV _, isV _]) rfl ?_
  refine fin_sV ?_
  refine fin_sV ?_
  refine fin_sV ?_
  refine fin_sV ?_
  refine fin_p ?_; rintro _ ⟨rfl, hA4⟩; have hA4 := hA4.here; cases hA4
  refine fin_sV ?_
  refine fin_sV ?_
  refine fin_sV ?_
  refine fin_sV ?_
  refine fin_sV ?_
  refine fin_v ?_
  refine fin_v ?_
  refine fin_0 ?_
  refine fin_nil ?_
  refine op_storeA (i := 1) (vs := [_, _, _, _, _, _, _, _, _, _]) (cs' := [_, _, _, _, _, _, _, _, _, _]) (O' := [_, _, _, _]) hS Try.sizeOf56 rfl rfl rfl rfl rfl rfl rfl ?_
  clear hS; intro W5 hS
  refine endF (XF.thenN ?_)
  refine seqF (regF ?_)
  refine op_field (o' := 0) fa_56_0 rfl rfl rfl ?_
  refine op_load Try.isAgg3 rfl (cell_own (hS.at_ 0 rfl) rfl) rfl ?_
  refine op_field (o' := 0) fa_56_0 rfl rfl rfl ?_
  refine op_load Try.isAgg3 rfl (cell_own (hS.at_ 1 rfl) rfl) rfl ?_
  refine op_neq rfl rfl rfl ?_
  refine op_move rfl rfl ?_
  refine op_cases (d := 59) rfl (fun hc => absurd (of_decide_eq_true hc) (by exact fun h => h rfl)) (fun hc => ?_)
  have hc := of_decide_eq_false hc
  refine op_wantedF (d := 59) rfl rfl ?_
  refine op_field (o' := 1) fa_56_1 rfl rfl rfl ?_
  refine op_wantedF (d := 59) rfl rfl ?_
  refine op_load Try.isAgg3 rfl (cell_own (hS.at_ 0 rfl) rfl) rfl ?_
  refine op_wantedF (d := 59) rfl rfl ?_
  refine op_field (o' := 1) fa_56_1 rfl rfl rfl ?_
  refine op_wantedF (d := 59) rfl rfl ?_
  refine op_load Try.isAgg3 rfl (cell_own (hS.at_ 1 rfl) rfl) rfl ?_
  refine op_wantedF (d := 59) rfl rfl ?_
  refine op_neq rfl rfl rfl ?_
  refine op_pickF rfl rfl rfl ?_
  refine op_move rfl rfl ?_
  refine op_cases (d := 66) rfl (fun hc => absurd (of_decide_eq_true hc) (by exact fun h => h rfl)) (fun hc => ?_)
  have hc := of_decide_eq_false hc
  refine op_wantedF (d := 66) rfl rfl ?_
  refine op_field (o' := 2) fa_56_2 rfl rfl rfl ?_
  refine op_wantedF (d := 66) rfl rfl ?_
  refine op_load Try.isAgg3 rfl (cell_own (hS.at_ 0 rfl) rfl) rfl ?_
  refine op_wantedF (d := 66) rfl rfl ?_
  refine op_field (o' := 2) fa_56_2 rfl rfl rfl ?_
  refine op_wantedF (d := 66) rfl rfl ?_
  refine op_load Try.isAgg3 rfl (cell_own (hS.at_ 1 rfl) rfl) rfl ?_
  refine op_wantedF (d := 66) rfl rfl ?_
  refine op_neq rfl rfl rfl ?_
  refine op_pickF rfl rfl rfl ?_
  refine op_move rfl rfl ?_
  refine op_cases (d := 73) rfl (fun hc => absurd (of_decide_eq_true hc) (by exact fun h => h rfl)) (fun hc => ?_)
  have hc := of_decide_eq_false hc
  refine op_wantedF (d := 73) rfl rfl ?_
  refine op_field (o' := 3) fa_56_3 rfl rfl rfl ?_
  refine op_wantedF (d := 73) rfl rfl ?_
  refine op_load Try.isAgg30 rfl (cell_own (hS.at_ 0 rfl) rfl) rfl ?_
  refine op_wantedF (d := 73) rfl rfl ?_
  refine op_field (o' := 3) fa_56_3 rfl rfl rfl ?_
  refine op_wantedF (d := 73) rfl rfl ?_
  refine op_load Try.isAgg30 rfl (cell_own (hS.at_ 1 rfl) rfl) rfl ?_
  refine op_wantedF (d := 73) rfl rfl ?_
  refine op_call (vs := [_, _]) hS goes_45 rfl (sameWord_eq _ _ _ _ _ ws2 _ (hro.w.below hS.below) (hqo.w.below hS.below) rfl (by omega)) rfl ?_
  rintro e W6 ⟨rfl, hb⟩
  refine ⟨_, rfl, hb, fun hS' => ?_⟩
  clear hS; have hS := hS'; clear hS' hb
  refine op_wantedF (d := 73) rfl rfl ?_
  refine op_not rfl rfl ?_
  refine op_pickF rfl rfl rfl ?_
  refine op_move rfl rfl ?_
  refine op_wantedF (d := 81) rfl rfl ?_
  refine op_field (o' := 4) fa_56_4 rfl rfl rfl ?_
  refine op_wantedF (d := 81) rfl rfl ?_
  refine op_loadA (vs := [_, _, _, _, _, _]) Try.isAgg54 Try.sizeOf54 rfl (CellsAt.own (j := 4) (m := 6) (hS.at_ 0 rfl) rfl) rfl ?_
  refine op_wantedF (d := 81) rfl rfl ?_
  refine op_field (o' := 4) fa_56_4 rfl rfl rfl ?_
  refine op_wantedF (d := 81) rfl rfl ?_
  refine op_loadA (vs := [_, _, _, _, _, _]) Try.isAgg54 Try.sizeOf54 rfl (CellsAt.own (j := 4) (m := 6) (hS.at_ 1 rfl) rfl) rfl ?_
  refine op_wantedF (d := 81) rfl rfl ?_
  refine op_call (vs := [_, _]) hS goes_20 rfl (sameW_is (hro.x.below hS.below) (hqo.x.below hS.below) true (by simp)) rfl ?_
  rintro e W7 ⟨rfl, hb⟩
  refine ⟨_, rfl, hb, fun hS' => ?_⟩
  clear hS; have hS := hS'; clear hS' hb
  refine op_wantedF (d := 81) rfl rfl ?_
  refine op_not rfl rfl ?_
  refine op_pickF rfl rfl rfl ?_
  refine endF (XF.thenN ?_)
  refine condN rfl ?_
  refine skipF ?_
  refine XF.blkN ?_
  refine XF.thenN ?_
  refine regF ?_
  refine op_move rfl rfl ?_
  refine op_add rfl rfl (IntWalk.i64_in _ (by omega)) rfl ?_
  refine op_assign rfl rfl ?_
  refine endF ?_
  exact XF.round (n - (i + 1)) [(2, _), (3, _), (5, _)] (by omega) ⟨rfl, rfl, rfl, trivial⟩ ⟨i + 1, by omega, rfl, rfl, hS.tail.tail.clear⟩
 ·have hc41 := of_decide_eq_false hc; clear hc
  refine exitF ?_
  refine XF.thenX ?_
  refine XF.thenX ?_
  refine XF.blkX ?_
  refine XF.thenN ?_
  refine seqF (regF ?_)
  refine op_assign rfl rfl ?_
  refine endF (XF.thenN ?_)
  refine retF ?_
  refine XF.res (res1 Try.results44 rfl) ?_
  exact ⟨rfl, hS.below⟩
end Go.Proofs.Ytnhnedifekejpaa
namespace Go.Proofs.Ytnhnedifekejpaa
open Go Go.RowKit
theorem goes_44 : goesIn Try.prog 44 = true := by kernel_rfl
theorem sameShort_eq (o : Option PS) (pl : List PR) (s1 s2 : SF) (st sy : Int) (n : Nat) (a1 a2 b1 b2 d1 d2 : Option Addr) (c1 c2 e1 e2 f1 f2 : Nat) (ns ms : List R9) (w : World) (h1 : ShO o pl w s1 n a1 b1 d1 ns) (h2 : ShO o pl w s2 n a2 b2 d2 ms) :
  Calls Try.prog 15 #[.agg #[.int .i64 s1.tag, .int .i64 s1.dim, .slice s1.a s1.len s1.cap, .int .i64 st, .int .i64 sy, .slice a1 n c1, .slice b1 n e1, .slice d1 n f1], .agg #[.int .i64 s2.tag, .int .i64 s2.dim, .slice s2.a s2.len s2.cap, .int .i64 st, .int .i64 sy, .slice a2 n c2, .slice b2 n e2, .slice d2 n f2]] w (fun e w' => e = .returned (.bool (true)) ∧ Below w.heap.size w w') := by
 refine enterF (args := [.agg #[.int .i64 s1.tag, .int .i64 s1.dim, .slice s1.a s1.len s1.cap, .int .i64 st, .int .i64 sy, .slice a1 n c1, .slice b1 n e1, .slice d1 n f1], .agg #[.int .i64 s2.tag, .int .i64 s2.dim, .slice s2.a s2.len s2.cap, .int .i64 st, .int .i64 sy, .slice a2 n c2, .slice b2 n e2, .slice d2 n f2]]) Try.func15 rfl Try.ntmps15 rfl ?_
 have hS := St.start w
 have hmx : n ≤ 1000000 := h1.max
 have hpl : ns.map R9.pl = ms.map R9.pl := h1.pl.trans h2.pl.symm
 have hln := h1.len
 have hnum : ns.map R9.num = ms.map R9.num := by have h9 := congrArg (List.map (fun x : PR => x.1)) hpl; simpa [List.map_map, Function.comp_def] using h9
 refine seqF (regF ?_)
 refine op_box (cs := [_, _, _, _, _, _, _, _]) hS rfl rfl rfl ?_
 clear hS; intro B1 W1 hS
 refine op_box (cs := [_, _, _, _, _, _, _, _]) hS rfl rfl rfl ?_
 clear hS; intro B2 W2 hS
 refine op_assign rfl rfl ?_
 refine endF (XF.thenN ?_)
 refine seqF ?_
 refine seqF (regF ?_)
 refine op_field (o' := 0) fa_40_0 rfl rfl rfl ?_
 refine op_loadA (vs := [_, _, _, _, _, _]) Try.isAgg28 Try.sizeOf28 rfl (CellsAt.own (j := 0) (m := 6) (hS.at_ 1 rfl) rfl) rfl ?_
 refine op_field (o' := 0) fa_40_0 rfl rfl rfl ?_
 refine op_loadA (vs := [_, _, _, _, _, _]) Try.isAgg28 Try.sizeOf28 rfl (CellsAt.own (j := 0) (m := 6) (hS.at_ 0 rfl) rfl) rfl ?_
 refine op_call (vs := [_, _]) hS goes_44 rfl (sameP_eq o pl s1 s2 st sy n a1 a2 b1 b2 d1 d2 c1 c2 ns ms _ (h1.below hS.below) (h2.below hS.below)) rfl ?_
 rintro e W3 ⟨rfl, hb⟩
 refine ⟨_, rfl, hb, fun hS' => ?_⟩
 clear hS; have hS := hS'; clear hS' hb
 refine op_not rfl rfl ?_
 refine op_move rfl rfl ?_
 refine op_wantedF (d := 12) rfl rfl ?_
 refine op_field (o' := 6) fa_40_1 rfl rfl rfl ?_
 refine op_wantedF (d := 12) rfl rfl ?_
 refine op_load Try.isAgg30 rfl (cell_own (hS.at_ 1 rfl) rfl) rfl ?_
 refine op_wantedF (d := 12) rfl rfl ?_
 refine op_field (o' := 6) fa_40_1 rfl rfl rfl ?_
 refine op_wantedF (d := 12) rfl rfl ?_
 refine op_load Try.isAgg30 rfl (cell_own (hS.at_ 0 rfl) rfl) rfl ?_
 refine op_wantedF (d := 12) rfl rfl ?_
 refine op_call (vs := [_, _]) hS goes_45 rfl (sameWord_eq b1 b2 n e1 e2 (ns.map R9.num) _ (h1.r2.below hS.below) (hnum ▸ h2.r2.below hS.below) (by simpa using hln) (by omega)) rfl ?_
 rintro e W4 ⟨rfl, hb⟩
 refine ⟨_, rfl, hb, fun hS' => ?_⟩
 clear hS; have hS := hS'; clear hS' hb
 refine op_wantedF (d := 12) rfl rfl ?_
 refine op_not rfl rfl ?_
 refine op_pickF rfl rfl rfl ?_
 refine op_move rfl rfl ?_
 refine op_wantedF (d := 20) rfl rfl ?_
 refine op_field (o' := 7) fa_40_2 rfl rfl rfl ?_
 refine op_wantedF (d := 20) rfl rfl ?_
 refine op_load Try.isAgg38 rfl (cell_own (hS.at_ 1 rfl) rfl) rfl ?_
 refine op_wantedF (d := 20) rfl rfl ?_
 refine op_len Try.underlying38 rfl rfl ?_
 refine op_wantedF (d := 20) rfl rfl ?_
 refine op_field (o' := 7) fa_40_2 rfl rfl rfl ?_
 refine op_wantedF (d := 20) rfl rfl ?_
 refine op_load Try.isAgg38 rfl (cell_own (hS.at_ 0 rfl) rfl) rfl ?_
 refine op_wantedF (d := 20) rfl rfl ?_
 refine op_len Try.underlying38 rfl rfl ?_
 refine op_wantedF (d := 20) rfl rfl ?_
 refine op_neq rfl rfl rfl ?_
 refine op_pickF rfl rfl rfl ?_
 refine endF (XF.thenN ?_)
 refine condF rfl (fun hc => absurd (of_decide_eq_true hc) (by exact fun h => h rfl)) (fun hc => ?_)
 have hc := of_decide_eq_false hc
 refine skipF ?_
 refine XF.thenN ?_
 refine seqF ?_
 refine seqF (regF ?_)
 refine op_assign rfl rfl ?_
 refine endF (XF.thenN ?_)
 refine blockF ?_
 refine loopF (fun m l W => ∃ i : Nat, i ≤ n ∧ m = n - i ∧ l = [(2, .pointer (some ⟨B1, 0, none⟩)), (3, .pointer (some ⟨B2, 0, none⟩)), (5, .int .i64 (i : Int))] ∧ St w [(B2, [.int .i64 s2.tag, .int .i64 s2.dim, .slice s2.a s2.len s2.cap, .int .i64 st, .int .i64 sy, .slice a2 n c2, .slice b2 n e2, .slice d2 n f2], 40), (B1, [.int .i64 s1.tag, .int .i64 s1.dim, .slice s1.a s1.len s1.cap, .int .i64 st, .int .i64 sy, .slice a1 n c1, .slice b1 n e1, .slice d1 n f1], 40)] [] [] W) (n - 0) ([(2, _), (3, _), (5, _)]) ⟨rfl, rfl, rfl, trivial⟩ (⟨0, Nat.zero_le _, rfl, rfl, hS.clear⟩) ?_
 clear hS
 rintro m l W ⟨i, hi, rfl, rfl, hS⟩
 refine seqF ?_
 refine seqF (regF ?_)
 refine op_move rfl rfl ?_
 refine op_field (o' := 7) fa_40_2 rfl rfl rfl ?_
 refine op_load Try.isAgg38 rfl (cell_own (hS.at_ 1 rfl) rfl) rfl ?_
 refine op_len Try.underlying38 rfl rfl ?_
 refine op_lss rfl rfl rfl ?_
 refine endF (XF.thenN ?_)
 refine condF rfl (fun hc => ?_) (fun hc => ?_)
 ·have hc33 := of_decide_eq_true hc; clear hc
  have hk : i < n := by omega
  obtain ⟨r, hr⟩ : ∃ r, ns[i]? = some r := ⟨ns[i]'(by omega), by simp [show i < ns.length by omega]⟩
  obtain ⟨q, hq, -, e1, -⟩ := pl_at9 hpl hr
  obtain ⟨rb, ro, rfl, hcr⟩ := h1.r3 i r.first (by rw [List.getElem?_map, hr]; rfl)
  obtain ⟨qb, qo, rfl, hcq⟩ := h2.r3 i r.first (by rw [List.getElem?_map, hq]; exact congrArg some e1)
  have k1 := hS.old hcr
  have k2 := hS.old hcq
  refine skipF ?_
  refine XF.thenN ?_
  refine seqF ?_
  refine blockF ?_
  refine seqF ?_
  refine regB (m := 11) followsM hS (by kernel_rfl) (by kernel_rfl) rfl ?_
  refine bl_cons 1 rfl (isV _) (stab_isV _) (rgV (li := [(2, _)]) rfl (w_free rfl) ⟨g_fr (by kernel_rfl) rfl, trivial⟩ (fun w hw => rn_field (o' := 7) fa_40_2 rfl rfl) (at_top rfl)) ?_
  refine bl_cons 2 rfl (isV _) (stab_isV _) (rgV (li := [(36, _)]) rfl (w_free rfl) ⟨g_dep 0 (by kernel_rfl) (at_dep rfl rfl rfl), trivial⟩ (fun w hw => rn_load Try.isAgg38 rfl ((below_agree hw 0).cell (Nat.zero_le _) (cell_own (hS.at_ 1 rfl) rfl))) (at_top rfl)) ?_
  refine bl_cons 3 rfl (isV _) (stab_isV _) (rgV (li := [(5, _)]) rfl (w_free rfl) ⟨g_fr (by kernel_rfl) rfl, trivial⟩ (fun w hw => rn_move rfl) (at_top rfl)) ?_
  refine bl_cons 4 rfl (isV _) (stab_isV _) (rgV (li := [(37, _), (38, _)]) rfl (w_free rfl) ⟨g_dep 1 (by kernel_rfl) (at_dep rfl rfl rfl), g_dep 2 (by kernel_rfl) (at_dep rfl rfl rfl), trivial⟩ (fun w hw => rn_indexA  Try.underlying38 Try.sizeOf4 rfl rfl rfl (by omega) rfl) (at_top rfl)) ?_
  refine bl_cons 5 rfl (isV _) (stab_isV _) (rgV (li := [(39, _)]) rfl (w_free rfl) ⟨g_dep 3 (by kernel_rfl) (at_dep rfl rfl rfl), trivial⟩ (fun w hw => rn_load Try.isAgg4 rfl ((below_agree hw 0).cell (Nat.zero_le _) (k1))) (at_top rfl)) ?_
  refine bl_cons 6 rfl (isV _) (stab_isV _) (rgV (li := [(3, _)]) rfl (w_free rfl) ⟨g_fr (by kernel_rfl) rfl, trivial⟩ (fun w hw => rn_field (o' := 7) fa_40_2 rfl rfl) (at_top rfl)) ?_
  refine bl_cons 7 rfl (isV _) (stab_isV _) (rgV (li := [(41, _)]) rfl (w_free rfl) ⟨g_dep 5 (by kernel_rfl) (at_dep rfl rfl rfl), trivial⟩ (fun w hw => rn_load Try.isAgg38 rfl ((below_agree hw 0).cell (Nat.zero_le _) (cell_own (hS.at_ 0 rfl) rfl))) (at_top rfl)) ?_
  refine bl_cons 8 rfl (isV _) (stab_isV _) (rgV (li := [(5, _)]) rfl (w_free rfl) ⟨g_fr (by kernel_rfl) rfl, trivial⟩ (fun w hw => rn_move rfl) (at_top rfl)) ?_
  refine bl_cons 9 rfl (isV _) (stab_isV _) (rgV (li := [(42, _), (43, _)]) rfl (w_free rfl) ⟨g_dep 6 (by kernel_rfl) (at_dep rfl rfl rfl), g_dep 7 (by kernel_rfl) (at_dep rfl rfl rfl), trivial⟩ (fun w hw => rn_indexA  Try.underlying38 Try.sizeOf4 rfl rfl rfl (by omega) rfl) (at_top rfl)) ?_
  refine bl_cons 10 rfl (isV _) (stab_isV _) (rgV (li := [(44, _)]) rfl (w_free rfl) ⟨g_dep 8 (by kernel_rfl) (at_dep rfl rfl rfl), trivial⟩ (fun w hw => rn_load Try.isAgg4 rfl ((below_agree hw 0).cell (Nat.zero_le _) (k2))) (at_top rfl)) ?_
  refine bl_cons 11 rfl (isV _) (stab_isV _) (rgV (li := [(40, _), (45, _)]) rfl (w_free rfl) ⟨g_dep 4 (by kernel_rfl) (at_dep rfl rfl rfl), g_dep 9 (by kernel_rfl) (at_dep rfl rfl rfl), trivial⟩ (fun w hw => rn_neqB Try.underlying4 rfl rfl) (at_top rfl)) ?_
  refine bl_nil ?_
  intro W5 hbR hS'
  clear hS; have hS := hS'; clear hS'
  refine fin_v ?_
  refine fin_v ?_
  refine fin_v ?_
  refine fin_v ?_
  refine fin_v ?_
  refine fin_v ?_
  refine fin_v ?_
  refine fin_v ?_
  refine fin_v ?_
  refine fin_v ?_
  refine fin_v ?_
  refine fin_nil ?_
  refine XF.thenN ?_
  refine condF rfl (fun hc => absurd hc (by simp)) (fun hc => ?_)
  skip
  refine skipF ?_
  refine XF.blkN ?_
  refine XF.thenN ?_
  refine regF ?_
  refine op_move rfl rfl ?_
  refine op_add rfl rfl (IntWalk.i64_in _ (by omega)) rfl ?_
  refine op_assign rfl rfl ?_
  refine endF ?_
  exact XF.round (n - (i + 1)) [(2, _), (3, _), (5, _)] (by omega) ⟨rfl, rfl, rfl, trivial⟩ ⟨i + 1, by omega, rfl, rfl, hS.clear⟩
 ·have hc33 := of_decide_eq_false hc; clear hc
  refine exitF ?_
  refine XF.thenX ?_
  refine XF.thenX ?_
  refine XF.blkX ?_
  refine XF.thenN ?_
  refine seqF (regF ?_)
  refine op_assign rfl rfl ?_
  refine endF (XF.thenN ?_)
  refine retF ?_
  refine XF.res (res1 Try.results15 rfl) ?_
  exact ⟨rfl, hS.below⟩
end Go.Proofs.Ytnhnedifekejpaa
namespace Go.Proofs.Ytnhnedifekejpaa
open Go Go.RowKit
section
variable {P : Program} {ops : Array Oper} {Q : Exit → Act → World → Prop} {n : Nat} {l : Fr} {W : World} {L : List Asr} {i : Nat}
variable {d : Nat} {op : Op} {ty : TypeId} {pos : String} {aft_ : Array Edge}
theorem rgPs (ds : List (Nat × Nat × Asr)) (hi : ops[i]? = some ⟨some d, op, ty, pos, aft_, none⟩) {q : Asr} (hds : DepsL ops L i ds)
  (hr : ∀ (ev : Operand → Value) w, Below W.heap.size W w → DepsH ds ev w → ∃ v, (execOp ev ⟨some d, op, ty, pos, #[], none⟩).run P w = .ok (.value v) w ∧ q v w) (hI : atI L i = q) : RG P n ops Q l W L i :=
 fun a ha => st_value hi (w_free rfl) fun b w hF hG hD => by
  have key : ∀ (ds : List (Nat × Nat × Asr)), DepsL ops L i ds → DepsH ds b.eval w := by
   intro ds
   induction ds with
   | nil => intro _; trivial
   | cons x xs ih =>
    intro h
    refine ⟨?_, ih h.2⟩
    have h1 := hD x.1 x.2.1 h.1.1
    rw [h.1.2] at h1
    exact h1
  obtain ⟨v, h2, h3⟩ := hr b.eval w hG (key ds hds)
  exact ⟨v, w, by rw [execOp_guard b.eval _ _ _ _ pos _ #[] _ none]; exact h2, by rw [hI]; exact h3, Below.refl _ _⟩
end
abbrev tenP (p g q : Int) (B : Nat) (f : WF) : List Value := [.int .i64 p, .int .i64 g, .int .i64 q, .slice (some ⟨B, 0, none⟩) 2 2, .bool f.z, .int .i64 f.c, .int .u64 (f.g : Int), .slice f.ra f.rl f.rc, .slice f.ca f.cl f.cc, .slice f.pa f.pl f.pc]
def isRuleP (lo : Nat) (p g q y z : Int) (f : WF) : Asr := fun v w => ∃ B, v = .agg (tenP p g q B f).toArray ∧ lo ≤ B ∧ w.heap[B]? = some (.cells (List.toArray [.int .i64 y, .int .i64 z]) 3 (0, 0))
def isRuleRow (lo : Nat) (p g q y z : Int) (f : WF) : Asr := fun v w => ∃ B B2, v = .slice (some ⟨B2, 0, none⟩) 1 1 ∧ w.heap[B2]? = some (.cells (tenP p g q B f).toArray 56 (0, 0)) ∧ lo ≤ B ∧ w.heap[B]? = some (.cells (List.toArray [.int .i64 y, .int .i64 z]) 3 (0, 0))
theorem stab_ruleP {lo : Nat} {p g q y z : Int} {f : WF} : Stab (isRuleP lo p g q y z f) := fun v w w' ⟨B, h1, h2, h3⟩ hb => ⟨B, h1, h2, (hb.block B (lt_of_heap h3)).trans h3⟩
theorem stab_ruleRow {lo : Nat} {p g q y z : Int} {f : WF} : Stab (isRuleRow lo p g q y z f) := fun v w w' ⟨B, B2, h1, h2, h3, h4⟩ hb => ⟨B, B2, h1, (hb.block B2 (lt_of_heap h2)).trans h2, h3, (hb.block B (lt_of_heap h4)).trans h4⟩
theorem bld_ruleP {d j1 j2 j3 j4 j5 t1 t2 t3 t4 t5 lo : Nat} {W : World} {ty : TypeId} {pos : String} {p g q y z : Int} {f : WF} : ∀ (ev : Operand → Value) (w : World), Below W.heap.size W w → DepsH [(j1, t1, isV (.int .i64 p)), (j2, t2, isV (.int .i64 g)), (j3, t3, isV (.int .i64 q)), (j4, t4, isRow lo 2 3 [.int .i64 y, .int .i64 z]), (j5, t5, isV f.val)] ev w →
  ∃ v, (execOp ev ⟨some d, .build 56 #[(0, .tmp t1), (1, .tmp t2), (2, .tmp t3), (3, .tmp t4), (4, .tmp t5)], ty, pos, #[], none⟩).run Try.prog w = .ok (.value v) w ∧ isRuleP lo p g q y z f v w := fun ev w _ ⟨h1, h2, h3, ⟨B, h4, h6, h7⟩, h5, _⟩ => by
 have e1 : ev (.tmp t1) = _ := h1
 have e2 : ev (.tmp t2) = _ := h2
 have e3 : ev (.tmp t3) = _ := h3
 have e5 : ev (.tmp t5) = _ := h5
 have e4 : ev (.tmp t4) = _ := h4
 refine ⟨.agg (tenP p g q B f).toArray, ?_, B, rfl, h6, h7⟩
 have hr := run_build w 56 #[(0, .int .i64 p), (1, .int .i64 g), (2, .int .i64 q), (3, .slice (some ⟨B, 0, none⟩) 2 2), (4, f.val)] _ (P := Try.prog) (bldR9 p g q (some ⟨B, 0, none⟩) 2 2 f)
 unfold execOp
 simp only [List.map_toArray, List.map_cons, List.map_nil, e1, e2, e3, e4, e5]
 simp [hr]
theorem rowOf_rule9 {lo : Nat} {p g q y z : Int} {f : WF} : RowOf 1 10 (fun cs w => ∃ B, cs = tenP p g q B f ∧ lo ≤ B ∧ w.heap[B]? = some (.cells (List.toArray [.int .i64 y, .int .i64 z]) 3 (0, 0))) (isRuleRow lo p g q y z f) := fun v w ⟨B, B2, h1, h2, h3, h4⟩ =>
 ⟨B2, 0, 1, _, h1, CellsAt.own (j := 0) (m := 10) h2 rfl, rfl, rfl, B, rfl, h3, h4⟩
section
variable {ops : Array Oper} {Q : Exit → Act → World → Prop} {n : Nat} {l : Fr} {W : World} {L : List Asr} {i : Nat} {d : Nat} {ty : TypeId} {pos : String} {aft_ : Array Edge}
theorem rg_ruleRow {t : Nat} {p g q y z : Int} {f : WF} (hi : ops[i]? = some ⟨some d, .buildSlice 26 1 #[(0, .tmp t)], ty, pos, aft_, none⟩) (hp : OpG n ops l L i t (isRuleP W.heap.size p g q y z f)) (hI : atI L i = isRuleRow W.heap.size p g q y z f) : RG Try.prog n ops Q l W L i :=
 rg_row (xs := [(0, .tmp t)]) [isRuleP W.heap.size p g q y z f] hi (w_free rfl) Try.underlying26 Try.sizeOf56 Try.zeroValue56 rfl rfl ⟨p_tmp hp, trivial⟩ fun vs w hb hh => by
  match vs, hh with
  | [v], ⟨⟨B, h1, h2, h3⟩, _⟩ =>
   subst h1
   exact ⟨tenP p g q B f, bs_26_1 _ _ _ _ _ _ _ _ _ _, fun B2 w' hB h4 h5 => by rw [hI]; exact ⟨B, B2, rfl, h4, h2, (h5.block B (lt_of_heap h3)).trans h3⟩⟩
end
def curF (one : PX) (p g : Int) (x : PX) (z y : Int) : Nat → Int × Int × PX
 | 0 => (p, g, x)
 | k + 1 => (z + (k : Int), y + (k : Int), one)
def headsF (one : PX) (num p g : Int) (ws : List Int) (x : PX) (z y : Int) (k : Nat) : List PR :=
 (List.range k).map (fun j => (num, decide (j = 0), (curF one p g x z y j).1, (curF one p g x z y j).2.1, z + (j : Int), [y + (j : Int), ws.getD (ws.length - 1 - j) 0], (curF one p g x z y j).2.2))
theorem headsF_succ (one : PX) (num p g : Int) (ws : List Int) (x : PX) (z y : Int) (k : Nat) : headsF one num p g ws x z y (k + 1) = headsF one num p g ws x z y k ++ [(num, decide (k = 0), (curF one p g x z y k).1, (curF one p g x z y k).2.1, z + (k : Int), [y + (k : Int), ws.getD (ws.length - 1 - k) 0], (curF one p g x z y k).2.2)] := by
 unfold headsF
 rw [List.range_succ, List.map_append]; rfl
theorem take_two9 : ∀ (ws : List Int), 2 ≤ ws.length → ws.take 2 = [ws.getD 0 0, ws.getD 1 0]
 | [], h => by simp at h
 | [_], h => by simp at h
 | a :: b :: _, _ => rfl
theorem parts_heads (one : PX) (num p g q : Int) (ws : List Int) (x : PX) (z y : Int) :
  partsF one num p g q ws x z y = headsF one num p g ws x z y (ws.length - 2) ++ [(num, decide (ws.length - 2 = 0), (curF one p g x z y (ws.length - 2)).1, (curF one p g x z y (ws.length - 2)).2.1, q, ws.take (ws.length - (ws.length - 2)), (curF one p g x z y (ws.length - 2)).2.2)] := by
 unfold partsF
 by_cases h : ws.length ≤ 2
 ·have e : ws.length - 2 = 0 := by omega
  rw [if_pos h, e, Nat.sub_zero, List.take_length]
  rfl
 ·rw [if_neg h]
  obtain ⟨m, hm⟩ : ∃ m, ws.length = m + 3 := ⟨ws.length - 3, by omega⟩
  have e1 : ws.length - 2 = m + 1 := by omega
  have e2 : ws.length - 3 = m := by omega
  have e3 : ws.length - (m + 1) = 2 := by omega
  rw [e1, e2, e3, take_two9 ws (by omega)]
  unfold headsF
  rw [List.range_succ_eq_map, List.map_cons, List.map_map, List.cons_append]
  have e4 : (List.range m).map (fun i : Nat => ((num, false, z + (i : Int), y + (i : Int), z + (i : Int) + 1, [y + (i : Int) + 1, ws.getD (m + 1 - i) 0], one) : PR)) = (List.range m).map ((fun j : Nat => ((num, decide (j = 0), (curF one p g x z y j).1, (curF one p g x z y j).2.1, z + (j : Int), [y + (j : Int), ws.getD (ws.length - 1 - j) 0], (curF one p g x z y j).2.2) : PR)) ∘ Nat.succ) := by
   refine List.map_congr_left fun i hi => ?_
   have h9 : ws.length - 1 - (i + 1) = m + 1 - i := by omega
   simp only [Function.comp_apply, Nat.succ_eq_add_one, h9, curF, Int.natCast_add, Int.add_assoc]
   simp
  rw [e4]
  simp [curF]
end Go.Proofs.Ytnhnedifekejpaa
namespace Go.Proofs.Ytnhnedifekejpaa
open Go Go.RowKit
theorem row_ten8 {W : World} {lo b n c i : Nat} {ns : List R9} {r : R9} (h : W.ownsRow lo 56 10 (.slice (some ⟨b, 0, none⟩) n c) n (ns.flatMap ten9)) (hi : ns[i]? = some r) : CellsAt W b (i * 10) (ten9 r) := by
 have key : ∀ (l : List R9) (i : Nat), l[i]? = some r → ((l.flatMap ten9).drop (i * 10)).take 10 = ten9 r := by
  intro l
  induction l with
  | nil => intro i h; simp at h
  | cons z l ih =>
   intro i h
   cases i with
   | zero => simp at h; subst h; rfl
   | succ i =>
    have e : (i + 1) * 10 = 10 + i * 10 := by omega
    rw [List.flatMap_cons, e, ← List.drop_drop]
    exact ih i (by simpa using h)
 have e5 := key ns i hi
 refine CellsAt.of fun j v hj => ownsRow_blk h ?_
 rw [← e5, List.getElem?_take] at hj
 split at hj
 ·rw [List.getElem?_drop] at hj; exact hj
 ·cases hj
theorem own_sl9 {w : World} {lo n size : Nat} {e : TypeId} {v : Value} {xs : List Value} (h : w.ownsRow lo e size v n xs) : ∃ a c, v = .slice a n c := by
 rcases h.2 with ⟨h1, h2⟩ | ⟨g, c, _, h1, _⟩
 ·subst h2; exact ⟨none, 0, h1⟩
 ·exact ⟨_, c, h1⟩
theorem nrow_own {w : World} {lo n c : Nat} {a : Option Addr} {ns : List R9} (h : w.ownsRow lo 56 10 (.slice a n c) n (ns.flatMap ten9)) (hn : ns.length = n) : NRow w a ns := fun i r hi => by
 have hl : i < ns.length := (List.getElem?_eq_some_iff.1 hi).1
 obtain ⟨b, c9, e, _⟩ := ownsRow_at h (by omega)
 injection e with e1 e2 e3
 subst e1; subst e3
 exact ⟨b, 0, rfl, by rw [Nat.zero_add]; exact row_ten8 h hi⟩
theorem row_own8 {w : World} {lo n c : Nat} {a : Option Addr} {ns : List R9} (h : w.ownsRow lo 3 1 (.slice a n c) n (ns.map (fun r => Value.int .i64 r.num))) (hn : ns.length = n) : Row w a (ns.map R9.num) := by
 have h2 : RowN lo w a c (ns.map R9.num) := by
  show w.ownsRow lo 3 1 (.slice a (ns.map R9.num).length c) (ns.map R9.num).length ((ns.map R9.num).map (Value.int .i64))
  rw [List.length_map, hn, List.map_map]; exact h
 exact h2.row
theorem brow_own {w : World} {lo n c : Nat} {a : Option Addr} {ns : List R9} (h : w.ownsRow lo 4 1 (.slice a n c) n (ns.map (fun r => Value.bool r.first))) (hn : ns.length = n) : BRow w a (ns.map R9.first) := fun i f hi => by
 have hl : i < (ns.map R9.first).length := (List.getElem?_eq_some_iff.1 hi).1
 rw [List.length_map] at hl
 obtain ⟨b, c9, e, _⟩ := ownsRow_at h (by omega)
 injection e with e1 e2 e3
 subst e1; subst e3
 refine ⟨b, 0, rfl, ?_⟩
 rw [Nat.zero_add, Nat.mul_one]
 rw [List.getElem?_map] at hi
 obtain ⟨r, hr, e⟩ := Option.map_eq_some_iff.1 hi
 exact ownsRow_blk h (by rw [List.getElem?_map, hr, ← e]; rfl)
theorem row_take9 {w : World} {a : Option Addr} {zs : List Int} (h : Row w a zs) (n : Nat) : Row w a (zs.take n) := by
 rcases h with h | ⟨b, off, e, hc⟩
 ·exact .inl (by rw [h]; simp)
 ·refine .inr ⟨b, off, e, fun i hi => ?_⟩
  rw [List.length_take] at hi
  have h1 := hc i (by omega)
  rw [h1]
  have h2 : (zs.take n)[i]? = zs[i]? := by rw [List.getElem?_take, if_pos (by omega)]
  rw [List.getD_eq_getElem?_getD, List.getD_eq_getElem?_getD, h2]
def shortD (S : PS) (px : RV → PX) (p : PV) : Option PS × List PR × Int × Int × Int :=
 if pdsE p ≠ 0 then (none, [], 0, 0, pdsE p) else if tooMany p = true then (none, [], 0, 0, 3) else (some S, shortF (oneX S) px p.rs 0 p.st p.sy, p.st + (moreF p.rs : Int), p.sy + (moreF p.rs : Int), 0)
def ShOutX (D : Option PS × List PR × Int × Int × Int) (w : World) (e : Ending) (w' : World) : Prop :=
 ∃ (sf : SF) (n : Nat) (a1 a2 a3 : Option Addr) (c1 c2 c3 : Nat) (ns : List R9), e = .returned (.tuple #[.agg #[.int .i64 sf.tag, .int .i64 sf.dim, .slice sf.a sf.len sf.cap, .int .i64 D.2.2.1, .int .i64 D.2.2.2.1, .slice a1 n c1, .slice a2 n c2, .slice a3 n c3], .int .i64 D.2.2.2.2]) ∧ ShO D.1 D.2.1 w' sf n a1 a2 a3 ns ∧ Below w.heap.size w w'
theorem shO_none {w : World} : ShO none [] w ⟨0, 0, none, 0, 0⟩ 0 none none none [] where
 r1 := fun i r hi => by simp at hi
 r2 := .inl rfl
 r3 := fun i f hi => by simp at hi
 ok := fun S h => by cases h
 no := fun _ => rfl
 pl := rfl
 sp := rfl
 len := rfl
 max := by omega
theorem shOut_bad {S : PS} {px : RV → PX} {p : PV} {w w' : World} (h : pdsE p ≠ 0) (hb : Below w.heap.size w w') : ShOutX (shortD S px p) w (.returned (.tuple #[.agg z8.toArray, .int .i64 (pdsE p)])) w' := by
 have e : shortD S px p = (none, [], 0, 0, pdsE p) := if_pos h
 rw [e]
 exact ⟨⟨0, 0, none, 0, 0⟩, 0, none, none, none, 0, 0, 0, [], rfl, shO_none, hb⟩
theorem shOut_many {S : PS} {px : RV → PX} {p : PV} {w w' : World} (h : pdsE p = 0) (h2 : tooMany p = true) (hb : Below w.heap.size w w') : ShOutX (shortD S px p) w (.returned (.tuple #[.agg z8.toArray, .int .i64 3])) w' := by
 have e : shortD S px p = (none, [], 0, 0, 3) := by unfold shortD; rw [if_neg (fun h9 => h9 h), if_pos h2]
 rw [e]
 exact ⟨⟨0, 0, none, 0, 0⟩, 0, none, none, none, 0, 0, 0, [], rfl, shO_none, hb⟩
theorem shOut_ok {S : PS} {px : RV → PX} {p : PV} {w w' : World} {sf : SF} {v1 v2 v3 : Value} {ns : List R9} {lo : Nat} (h : pdsE p = 0) (h2 : tooMany p = false) (hsp : S.ok ∧ SIs w' S sf) (hpl : ns.map R9.pl = shortF (oneX S) px p.rs 0 p.st p.sy) (hok : ∀ r ∈ ns, ROk S w' r) (hmax : ns.length ≤ 1000000)
  (r1 : w'.ownsRow lo 56 10 v1 ns.length (ns.flatMap ten9)) (r2 : w'.ownsRow lo 3 1 v2 ns.length (ns.map (fun r => Value.int .i64 r.num))) (r3 : w'.ownsRow lo 4 1 v3 ns.length (ns.map (fun r => Value.bool r.first))) (hb : Below w.heap.size w w') :
  ShOutX (shortD S px p) w (.returned (.tuple #[.agg (shortV p sf v1 v2 v3).toArray, .int .i64 0])) w' := by
 have e : shortD S px p = (some S, shortF (oneX S) px p.rs 0 p.st p.sy, p.st + (moreF p.rs : Int), p.sy + (moreF p.rs : Int), 0) := by unfold shortD; rw [if_neg (fun h9 => h9 h), if_neg (by rw [h2]; decide)]
 rw [e]
 obtain ⟨a1, c1, rfl⟩ := own_sl9 r1
 obtain ⟨a2, c2, rfl⟩ := own_sl9 r2
 obtain ⟨a3, c3, rfl⟩ := own_sl9 r3
 exact ⟨sf, ns.length, a1, a2, a3, c1, c2, c3, ns, rfl, ⟨nrow_own r1 rfl, row_own8 r2 rfl, brow_own r3 rfl, fun S9 e9 r hr => (by cases e9; exact hok r hr), fun h9 => (by cases h9), hpl, hsp, rfl, hmax⟩, hb⟩
theorem shortF_len9 {p : PV} {S : PS} {px : RV → PX} {w : World} {ds d : Nat} (hp : PvIn w ds d p) (h : tooMany p = false) {ns : List R9} (hpl : ns.map R9.pl = shortF (oneX S) px p.rs 0 p.st p.sy) : ns.length ≤ 16384 := by
 have h1 := congrArg List.length hpl
 rw [List.length_map, shortF_len (fun r hr => (hp.rin r hr).len)] at h1
 have h2 := hp.len
 unfold tooMany at h
 simp only [Bool.or_eq_false_iff, decide_eq_false_iff_not] at h
 omega
end Go.Proofs.Ytnhnedifekejpaa
namespace Go.Proofs.Ytnhnedifekejpaa
open Go Go.RowKit
theorem bld_101_0 (v00 : Value) (v01 : Value) (v02 : Value) (v03 : Value) (v04 : Value) (v05 : Value) (v06 : Value) (v07 : Value) (v08 : Value) : Try.prog.built 101 [(0, .agg #[v00, v01, v02, v03, v04, v05, v06, v07, v08])] = some #[v00, v01, v02, v03, v04, v05, v06, v07, v08, .int .i64 0, .int .i64 0, .slice none 0 0, .int .i64 0, .int .i64 0, .slice none 0 0, .slice none 0 0, .slice none 0 0] := by kernel_rfl
theorem bld_28_0_1_2 (v00 : Value) (v01 : Value) (v02 : Value) (v1 : Int) (v2 : Int) : Try.prog.built 28 [(0, .agg #[v00, v01, v02]), (1, .int .i64 v1), (2, .int .i64 v2)] = some #[v00, v01, v02, .int .i64 v1, .int .i64 v2, .slice none 0 0] := by kernel_rfl
theorem bld_40 : Try.prog.built 40 [] = some #[.int .i64 0, .int .i64 0, .slice none 0 0, .int .i64 0, .int .i64 0, .slice none 0 0, .slice none 0 0, .slice none 0 0] := by kernel_rfl
theorem goes_43 : goesIn Try.prog 43 = true := by kernel_rfl
theorem shortA_c (ds d : Nat) (s : SV) (st sy : Int) (ra : Option Addr) (rl rc : Nat) (rs : List RV) (w : World) (hs : SIn w ds s) (hprow : RRow w ra rs) (hplen : rs.length = rl) (hin : ∀ r ∈ rs, RIn w d r) (ht : Tabs w) (S : PS) (px : RV → PX) (hpx : pdsE ⟨s, st, sy, ra, rl, rc, rs⟩ = 0 → PdsOk w S px ⟨s, st, sy, ra, rl, rc, rs⟩) :
  Calls Try.prog 13 #[.agg #[.int .i64 s.f.tag, .int .i64 s.f.dim, .slice s.f.a s.f.len s.f.cap, .int .i64 st, .int .i64 sy, .slice ra rl rc]] w (ShortRet S px ⟨s, st, sy, ra, rl, rc, rs⟩ w) := by
 refine enterF (args := [.agg #[.int .i64 s.f.tag, .int .i64 s.f.dim, .slice s.f.a s.f.len s.f.cap, .int .i64 st, .int .i64 sy, .slice ra rl rc]]) Try.func13 rfl Try.ntmps13 rfl ?_
 have hS := St.start w
 refine seqF (regF ?_)
 refine op_box (cs := [_, _, _, _, _, _]) hS rfl rfl rfl ?_
 clear hS; intro B1 W1 hS
 refine op_alloc (cs := [_, _, _, _, _, _, _, _]) hS Try.zeroValue40 rfl rfl ?_
 clear hS; intro B2 W2 hS
 refine op_assign rfl rfl ?_
 refine endF (XF.thenN ?_)
 refine seqF ?_
 refine seqF (regF ?_)
 refine op_loadA (vs := [_, _, _, _, _, _]) Try.isAgg28 Try.sizeOf28 rfl (CellsAt.own (j := 0) (m := 6) (hS.at_ 1 rfl) rfl) rfl ?_
 refine op_call (vs := [_]) hS goes_36 rfl (pdsA_is ds d ⟨s, st, sy, ra, rl, rc, rs⟩ _ (PvIn.below ⟨hs, hprow, hplen, hin⟩ hS.below)) rfl ?_
 rintro e W3 ⟨rfl, hb⟩
 refine ⟨_, rfl, hb, fun hS' => ?_⟩
 clear hS; have hS := hS'; clear hS' hb
 refine op_assign rfl rfl ?_
 refine endF (XF.thenN ?_)
 refine seqF (regF ?_)
 refine op_move rfl rfl ?_
 refine op_neq rfl rfl rfl ?_
 refine endF (XF.thenN ?_)
 refine condF rfl (fun hc => ?_) (fun hc => ?_)
 ·have hc14 := of_decide_eq_true hc; clear hc
  refine seqF (regF ?_)
  refine op_build (us := []) rfl (bld_40) rfl ?_
  refine op_move rfl rfl ?_
  refine op_storeA (i := 0) (vs := [_, _, _, _, _, _, _, _]) (cs' := [_, _, _, _, _, _, _, _]) (O' := [_, _]) hS Try.sizeOf40 rfl rfl (by first | rfl | (have h0 := hS.oneV 0 _ rfl; have h1 := hS.oneV 1 _ rfl; have h2 := hS.oneV 2 _ rfl; simp only [List.all_cons, List.all_nil, Bool.and_true, Bool.and_eq_true]; exact ⟨rfl, rfl, rfl, rfl, rfl, h0, h1, h2⟩)) rfl rfl rfl rfl ?_
  clear hS; intro W4 hS
  refine op_assign rfl rfl ?_
  refine endF (XF.thenN ?_)
  refine retF ?_
  refine XF.thenR ?_
  refine XF.res (resCT (vs := [_, _, _, _, _, _, _, _]) Try.results13 Try.isAgg40 Try.sizeOf40 rfl (CellsAt.own (j := 0) (m := 8) (hS.at_ 0 rfl) rfl) rfl) ?_
  exact shortRet_bad hc14 hS.below
 ·have hc14 := of_decide_eq_false hc; clear hc
  have hE : pdsE ⟨s, st, sy, ra, rl, rc, rs⟩ = 0 := Decidable.of_not_not hc14
  have hok := hpx hE
  have hmo := moreF_bound hok hplen
  have hrl : rl ≤ 16384 := hok.rl
  have hst : 0 ≤ st ∧ st ≤ 4096 := hok.st
  have hsy : 0 ≤ sy ∧ sy ≤ 4096 := hok.sy
  have hmo : moreF rs ≤ 67108864 := hmo
  refine skipF ?_
  refine XF.thenN ?_
  refine seqF (regF ?_)
  refine op_assign rfl rfl ?_
  refine endF (XF.thenN ?_)
  refine seqF ?_
  refine seqF (regF ?_)
  refine op_field (o' := 5) fa_28_3 rfl rfl rfl ?_
  refine op_load Try.isAgg26 rfl (cell_own (hS.at_ 1 rfl) rfl) rfl ?_
  refine op_len Try.underlying26 rfl rfl ?_
  refine op_move rfl rfl ?_
  refine endF (XF.thenN ?_)
  refine blockF ?_
  refine loopF (fun m l W => ∃ i : Nat, i ≤ rl ∧ m = rl - i ∧ l = [(1, .pointer (some ⟨B1, 0, none⟩)), (2, .pointer (some ⟨B2, 0, none⟩)), (3, .int .i64 0), (5, .int .i64 (moreF (rs.take i) : Int)), (18, .slice ra rl rc), (19, .int .i64 (rl : Int)), (20, .int .i64 (i : Int))] ∧ St w [(B2, z8, 40), (B1, [.int .i64 s.f.tag, .int .i64 s.f.dim, .slice s.f.a s.f.len s.f.cap, .int .i64 st, .int .i64 sy, .slice ra rl rc], 28)] [] [] W) (rl - 0) ([(1, _), (2, _), (3, _), (5, _), (18, _), (19, _), (20, _)]) ⟨rfl, rfl, rfl, rfl, rfl, rfl, rfl, trivial⟩ (⟨0, Nat.zero_le _, rfl, rfl, hS.clear⟩) ?_
  clear hS
  rintro m l W ⟨i, hi, rfl, rfl, hS⟩
  refine seqF (regF ?_)
  refine op_lss rfl rfl rfl ?_
  refine endF (XF.thenN ?_)
  refine seqF ?_
  refine condF rfl (fun hc => ?_) (fun hc => ?_)
  ·have hc21 := of_decide_eq_true hc; clear hc
   have hk : i < rl := by omega
   obtain ⟨r, hr⟩ : ∃ r, rs[i]? = some r := ⟨rs[i]'(by omega), by simp [show i < rs.length by omega]⟩
   obtain ⟨b, off, rfl, hcs⟩ := hprow.at_ hr
   have k1 := CellsAt.agree hS.agree (Nat.zero_le _) hcs
   have hri := hin r (List.mem_of_getElem? hr)
   have hr4 : r.wl ≤ 4096 := hok.w4 r (List.mem_of_getElem? hr)
   have hmt := moreF_take_le (rs := rs) (i := i)
   refine skipF ?_
   refine XF.thenN ?_
   refine seqF ?_
   refine blockF ?_
   refine seqF (regF ?_)
   refine op_indexA  Try.underlying26 Try.sizeOf56 rfl rfl rfl (by omega) rfl rfl ?_
   refine op_loadA (vs := [_, _, _, _, _, _, _, _, _, _]) Try.isAgg56 Try.sizeOf56 rfl (k1) rfl ?_
   refine op_alloc (cs := [_, _, _, _, _, _, _, _, _, _]) hS Try.zeroValue56 rfl rfl ?_
   clear hS; intro B5 W5 hS
   refine op_storeA (i := 0) (vs := [_, _, _, _, _, _, _, _, _, _]) (cs' := [_, _, _, _, _, _, _, _, _, _]) (O' := [_, _, _]) hS Try.sizeOf56 rfl rfl (by first | rfl | (have h0 := hS.oneV 0 _ rfl; have h1 := hS.oneV 1 _ rfl; have h2 := hS.oneV 2 _ rfl; simp only [List.all_cons, List.all_nil, Bool.and_true, Bool.and_eq_true]; exact ⟨rfl, rfl, rfl, rfl, rfl, h0, h1, h2⟩)) rfl rfl rfl rfl ?_
   clear hS; intro W6 hS
   refine endF (XF.thenN ?_)
   refine regF ?_
   refine op_move rfl rfl ?_
   refine op_field (o' := 3) fa_56_3 rfl rfl rfl ?_
   refine op_load Try.isAgg30 rfl (cell_own (hS.at_ 0 rfl) rfl) rfl ?_
   refine op_len Try.underlying30 rfl rfl ?_
   refine op_sub rfl rfl (IntWalk.i64_in _ (by omega)) rfl ?_
   refine op_max rfl rfl rfl ?_
   refine op_add rfl rfl (IntWalk.i64_in _ (by omega)) rfl ?_
   refine op_assign rfl rfl ?_
   refine endF ?_
   refine XF.blkN ?_
   refine XF.thenN ?_
   refine regF ?_
   refine op_add rfl rfl (IntWalk.i64_in _ (by omega)) rfl ?_
   refine op_move rfl rfl ?_
   refine endF ?_
   have e9 : (moreF (rs.take i) : Int) + max ((r.wl : Int) - 2) 0 = (moreF (rs.take (i + 1)) : Int) := by rw [moreF_take hr]; omega
   exact XF.round (rl - (i + 1)) [(1, _), (2, _), (3, _), (5, _), (18, _), (19, _), (20, _)] (by omega) ⟨rfl, rfl, rfl, rfl, rfl, rfl, rfl, trivial⟩ ⟨i + 1, by omega, rfl, by rw [← e9]; rfl, hS.tail⟩
  ·have hc21 := of_decide_eq_false hc; clear hc
   rw [List.take_of_length_le (by omega)]
   refine exitF ?_
   refine XF.thenX ?_
   refine XF.thenX ?_
   refine XF.blkX ?_
   refine XF.thenN ?_
   refine seqF ?_
   refine seqF (regF ?_)
   refine op_field (o' := 3) fa_28_1 rfl rfl rfl ?_
   refine op_load Try.isAgg3 rfl (cell_own (hS.at_ 1 rfl) rfl) rfl ?_
   refine op_move rfl rfl ?_
   refine op_add rfl rfl (IntWalk.i64_in _ (by omega)) rfl ?_
   refine op_gtr rfl rfl rfl ?_
   refine op_move rfl rfl ?_
   refine op_cases (d := 37) rfl (fun hc => ?_) (fun hc => ?_)
   ·have hg37 := of_decide_eq_true hc; clear hc
    refine op_notF (d := 37) rfl rfl rfl rfl ?_
    refine op_notF (d := 37) rfl rfl rfl rfl ?_
    refine op_notF (d := 37) rfl rfl rfl rfl ?_
    refine op_notF (d := 37) rfl rfl rfl rfl ?_
    refine op_notF (d := 37) rfl rfl rfl rfl ?_
    refine op_pickT rfl rfl rfl ?_
    refine op_move rfl rfl ?_
    refine op_notF (d := 44) rfl rfl rfl rfl ?_
    refine op_notF (d := 44) rfl rfl rfl rfl ?_
    refine op_notF (d := 44) rfl rfl rfl rfl ?_
    refine op_notF (d := 44) rfl rfl rfl rfl ?_
    refine op_notF (d := 44) rfl rfl rfl rfl ?_
    refine op_notF (d := 44) rfl rfl rfl rfl ?_
    refine op_pickT rfl rfl rfl ?_
    refine endF (XF.thenN ?_)
    refine condT rfl ?_
    refine seqF (regF ?_)
    refine op_build (us := []) rfl (bld_40) rfl ?_
    refine op_storeA (i := 0) (vs := [_, _, _, _, _, _, _, _]) (cs' := [_, _, _, _, _, _, _, _]) (O' := [_, _]) hS Try.sizeOf40 rfl rfl (by first | rfl | (have h0 := hS.oneV 0 _ rfl; have h1 := hS.oneV 1 _ rfl; have h2 := hS.oneV 2 _ rfl; simp only [List.all_cons, List.all_nil, Bool.and_true, Bool.and_eq_true]; exact ⟨rfl, rfl, rfl, rfl, rfl, h0, h1, h2⟩)) rfl rfl rfl rfl ?_
    clear hS; intro W7 hS
    refine op_assign rfl rfl ?_
    refine endF (XF.thenN ?_)
    refine retF ?_
    refine XF.thenR ?_
    refine XF.res (resCT (vs := [_, _, _, _, _, _, _, _]) Try.results13 Try.isAgg40 Try.sizeOf40 rfl (CellsAt.own (j := 0) (m := 8) (hS.at_ 0 rfl) rfl) rfl) ?_
    exact shortRet_many hE (tooMany_of (p := ⟨s, st, sy, ra, rl, rc, rs⟩) (by dsimp only; omega)) hS.below
   ·have hg37 := of_decide_eq_false hc; clear hc
    refine op_wantedF (d := 37) rfl rfl ?_
    refine op_field (o' := 4) fa_28_2 rfl rfl rfl ?_
    refine op_wantedF (d := 37) rfl rfl ?_
    refine op_load Try.isAgg3 rfl (cell_own (hS.at_ 1 rfl) rfl) rfl ?_
    refine op_wantedF (d := 37) rfl rfl ?_
    refine op_move rfl rfl ?_
    refine op_wantedF (d := 37) rfl rfl ?_
    refine op_add rfl rfl (IntWalk.i64_in _ (by omega)) rfl ?_
    refine op_wantedF (d := 37) rfl rfl ?_
    refine op_gtr rfl rfl rfl ?_
    refine op_pickF rfl rfl rfl ?_
    refine op_move rfl rfl ?_
    refine op_cases (d := 44) rfl (fun hc => ?_) (fun hc => ?_)
    ·have hg44 := of_decide_eq_true hc; clear hc
     refine op_notF (d := 44) rfl rfl rfl rfl ?_
     refine op_notF (d := 44) rfl rfl rfl rfl ?_
     refine op_notF (d := 44) rfl rfl rfl rfl ?_
     refine op_notF (d := 44) rfl rfl rfl rfl ?_
     refine op_notF (d := 44) rfl rfl rfl rfl ?_
     refine op_notF (d := 44) rfl rfl rfl rfl ?_
     refine op_pickT rfl rfl rfl ?_
     refine endF (XF.thenN ?_)
     refine condT rfl ?_
     refine seqF (regF ?_)
     refine op_build (us := []) rfl (bld_40) rfl ?_
     refine op_storeA (i := 0) (vs := [_, _, _, _, _, _, _, _]) (cs' := [_, _, _, _, _, _, _, _]) (O' := [_, _]) hS Try.sizeOf40 rfl rfl (by first | rfl | (have h0 := hS.oneV 0 _ rfl; have h1 := hS.oneV 1 _ rfl; have h2 := hS.oneV 2 _ rfl; simp only [List.all_cons, List.all_nil, Bool.and_true, Bool.and_eq_true]; exact ⟨rfl, rfl, rfl, rfl, rfl, h0, h1, h2⟩)) rfl rfl rfl rfl ?_
     clear hS; intro W8 hS
     refine op_assign rfl rfl ?_
     refine endF (XF.thenN ?_)
     refine retF ?_
     refine XF.thenR ?_
     refine XF.res (resCT (vs := [_, _, _, _, _, _, _, _]) Try.results13 Try.isAgg40 Try.sizeOf40 rfl (CellsAt.own (j := 0) (m := 8) (hS.at_ 0 rfl) rfl) rfl) ?_
     exact shortRet_many hE (tooMany_of (p := ⟨s, st, sy, ra, rl, rc, rs⟩) (by dsimp only; omega)) hS.below
    ·have hg44 := of_decide_eq_false hc; clear hc
     refine op_wantedF (d := 44) rfl rfl ?_
     refine op_field (o' := 5) fa_28_3 rfl rfl rfl ?_
     refine op_wantedF (d := 44) rfl rfl ?_
     refine op_load Try.isAgg26 rfl (cell_own (hS.at_ 1 rfl) rfl) rfl ?_
     refine op_wantedF (d := 44) rfl rfl ?_
     refine op_len Try.underlying26 rfl rfl ?_
     refine op_wantedF (d := 44) rfl rfl ?_
     refine op_move rfl rfl ?_
     refine op_wantedF (d := 44) rfl rfl ?_
     refine op_add rfl rfl (IntWalk.i64_in _ (by omega)) rfl ?_
     refine op_wantedF (d := 44) rfl rfl ?_
     refine op_gtr rfl rfl rfl ?_
     refine op_pickF rfl rfl rfl ?_
     refine endF (XF.thenN ?_)
     refine condF rfl (fun hc => ?_) (fun hc => ?_)
     ·have hc51 := of_decide_eq_true hc; clear hc
      refine seqF (regF ?_)
      refine op_build (us := []) rfl (bld_40) rfl ?_
      refine op_storeA (i := 0) (vs := [_, _, _, _, _, _, _, _]) (cs' := [_, _, _, _, _, _, _, _]) (O' := [_, _]) hS Try.sizeOf40 rfl rfl (by first | rfl | (have h0 := hS.oneV 0 _ rfl; have h1 := hS.oneV 1 _ rfl; have h2 := hS.oneV 2 _ rfl; simp only [List.all_cons, List.all_nil, Bool.and_true, Bool.and_eq_true]; exact ⟨rfl, rfl, rfl, rfl, rfl, h0, h1, h2⟩)) rfl rfl rfl rfl ?_
      clear hS; intro W9 hS
      refine op_assign rfl rfl ?_
      refine endF (XF.thenN ?_)
      refine retF ?_
      refine XF.thenR ?_
      refine XF.res (resCT (vs := [_, _, _, _, _, _, _, _]) Try.results13 Try.isAgg40 Try.sizeOf40 rfl (CellsAt.own (j := 0) (m := 8) (hS.at_ 0 rfl) rfl) rfl) ?_
      exact shortRet_many hE (tooMany_of (p := ⟨s, st, sy, ra, rl, rc, rs⟩) (by dsimp only; omega)) hS.below
     ·have hc51 := of_decide_eq_false hc; clear hc
      have hfew : tooMany ⟨s, st, sy, ra, rl, rc, rs⟩ = false := tooMany_no (by dsimp only; omega) (by dsimp only; omega) (by dsimp only; omega)
      refine skipF ?_
      refine XF.thenN ?_
      refine seqF (regF ?_)
      refine op_field (o' := 0) fa_28_0 rfl rfl rfl ?_
      refine op_loadA (vs := [_, _, _]) Try.isAgg25 Try.sizeOf25 rfl (CellsAt.own (j := 0) (m := 3) (hS.at_ 1 rfl) rfl) rfl ?_
      refine op_call (vs := [_]) hS goes_41 rfl (ringOf_is S s.f _ (hok.si.below hS.below) hok.ok) rfl ?_
      rintro e W10 ⟨f0, rfl, _, hb⟩
      refine ⟨_, rfl, hb, fun hS' => ?_⟩
      clear hS; have hS := hS'; clear hS' hb
      refine op_build (us := [(0, .agg (List.toArray [_, _, _, _, _, _, _, _, _]))]) rfl (bld_101_0 _ _ _ _ _ _ _ _ _) rfl ?_
      refine op_alloc (cs := [_, _, _, _, _, _, _, _, _, _, _, _, _, _, _, _, _]) hS Try.zeroValue101 rfl rfl ?_
      clear hS; intro B11 W11 hS
      refine op_storeA (i := 0) (vs := [_, _, _, _, _, _, _, _, _, _, _, _, _, _, _, _, _]) (cs' := [_, _, _, _, _, _, _, _, _, _, _, _, _, _, _, _, _]) (O' := [_, _, _]) hS Try.sizeOf101 rfl rfl (by first | rfl | (have h0 := hS.oneV 0 _ rfl; have h1 := hS.oneV 1 _ rfl; have h2 := hS.oneV 2 _ rfl; simp only [List.all_cons, List.all_nil, Bool.and_true, Bool.and_eq_true]; exact ⟨rfl, rfl, rfl, rfl, rfl, h0, h1, h2⟩)) rfl rfl rfl rfl ?_
      clear hS; intro W12 hS
      refine endF (XF.thenN ?_)
      refine seqF ?_
      have hS7 := hS
      have hszN := hS.below.size
      refine regY (al := []) (G := fun _ => []) (E := []) (k := 7) (ds := [64, 65, 66]) followsM rfl hS rfl rfl (by kernel_rfl) (by kernel_rfl) rfl (by decide) rfl ?_
      refine bly_cons 1 rfl (isV _) (syV fst_take [(1, _)] rfl rfl (fun _ => (w_free rfl)) (fun _ => ⟨g_fr (by kernel_rfl) rfl, trivial⟩) (fun s w hw => rn_field (o' := 0) fa_28_0 rfl rfl) (at_top rfl)) ?_
      refine bly_cons 2 rfl (isV _) (syV fst_take [(57, _)] rfl rfl (fun _ => (w_free rfl)) (fun _ => ⟨g_dep 0 (by kernel_rfl) (at_n rfl rfl (at_dep rfl rfl rfl)), trivial⟩) (fun s w hw => rn_loadA (vs := [_, _, _]) Try.isAgg25 Try.sizeOf25 rfl ((CellsAt.own (j := 0) (m := 3) (hw.at_ 2 rfl) rfl))) (at_top rfl)) ?_
      refine bly_cons 3 rfl (isSpN W12.heap.size S) (sy_call fst_take (fun s => [isV _]) rfl rfl goes_42 (fun _ => w_free rfl) (fun s => ⟨p_tmp (g_dep 1 (by kernel_rfl) (at_n rfl rfl (at_dep rfl rfl rfl))), trivial⟩) (fun vs s0 w' hk hw hlo hh => by have e := holds_isV (us := [_]) hh; subst e; exact copySp_is S s.f w' (hok.si.below hw.below) hlo) (at_top rfl)) ?_
      refine bly_cons 4 rfl (isV _) (syV fst_take [(1, _)] rfl rfl (fun _ => (w_free rfl)) (fun _ => ⟨g_fr (by kernel_rfl) rfl, trivial⟩) (fun s w hw => rn_field (o' := 3) fa_28_1 rfl rfl) (at_top rfl)) ?_
      refine bly_cons 5 rfl (isV _) (syV fst_take [(60, _)] rfl rfl (fun _ => (w_free rfl)) (fun _ => ⟨g_dep 3 (by kernel_rfl) (at_n rfl rfl (at_dep rfl rfl rfl)), trivial⟩) (fun s w hw => rn_load Try.isAgg3 rfl ((cell_own (hw.at_ 2 rfl) rfl))) (at_top rfl)) ?_
      refine bly_cons 6 rfl (isV _) (syV fst_take [(1, _)] rfl rfl (fun _ => (w_free rfl)) (fun _ => ⟨g_fr (by kernel_rfl) rfl, trivial⟩) (fun s w hw => rn_field (o' := 4) fa_28_2 rfl rfl) (at_top rfl)) ?_
      refine bly_cons 7 rfl (isV _) (syV fst_take [(62, _)] rfl rfl (fun _ => (w_free rfl)) (fun _ => ⟨g_dep 5 (by kernel_rfl) (at_n rfl rfl (at_dep rfl rfl rfl)), trivial⟩) (fun s w hw => rn_load Try.isAgg3 rfl ((cell_own (hw.at_ 2 rfl) rfl))) (at_top rfl)) ?_
      refine bly_nil ?_
      intro s13 W13 Ks13 hall13 hsz13 hKs13 hS' hcov13 hfx13 hno13
      clear hS; have hS := hS'.castO (O' := [_, _, _]) rfl; clear hS'
      refine castL (L' := [AwS _ _ (isV _), AwS _ _ (isV _), AwS _ _ (isSpN W12.heap.size S), AwS _ _ (isV _), AwS _ _ (isV _), AwS _ _ (isV _), AwS _ _ (isV _)]) rfl ?_
      refine fin_sV ?_
      refine fin_sV ?_
      refine fin_p ?_; rintro vC h59; have hcovS := @hcov13; obtain ⟨sq, rfl, hs2⟩ := h59.here
      refine fin_sV ?_
      refine fin_sV ?_
      refine fin_sV ?_
      refine fin_sV ?_
      refine fin_nil ?_
      refine op_build (us := [(0, .agg (List.toArray [_, _, _])), (1, .int .i64 _), (2, .int .i64 _)]) rfl (bld_28_0_1_2 _ _ _ _ _) rfl ?_
      refine op_field (o' := 9) fa_101_1 rfl rfl rfl ?_
      refine op_field (o' := 9) fa_40_0 rfl rfl rfl ?_
      refine op_storeA (i := 0) (vs := [_, _, _, _, _, _]) (cs' := [_, _, _, _, _, _, _, _, _, _, _, _, _, _, _, _, _]) (O' := [_, _, _]) hS Try.sizeOf28 rfl rfl (by first | rfl | (have h0 := hS.oneV 0 _ rfl; have h1 := hS.oneV 1 _ rfl; have h2 := hS.oneV 2 _ rfl; simp only [List.all_cons, List.all_nil, Bool.and_true, Bool.and_eq_true]; exact ⟨rfl, rfl, rfl, rfl, rfl, h0, h1, h2⟩)) rfl rfl rfl rfl ?_
      clear hS; intro W14 hS
      refine endF (XF.thenN ?_)
      refine seqF ?_
      refine seqF ?_
      have HS2 : Held w _ (fun W2 => SpFar w.heap.size S sq W2) := fun h2 hk W3 h3 => hs2 W3 ((sameX_agree9 (hcovS h2 (fun q hq => hk q hq)) (fun b h1 hx => by have h3 := xb_lt9 hS7 hx; omega)).trans (h3.mono hszN))
      have hS := ((hS.newG 4 1).newG 3 1).newG 56 10
      refine regF ?_
      refine op_field (o' := 5) fa_28_3 rfl rfl rfl ?_
      refine op_load Try.isAgg26 rfl (cell_own (hS.at_ 2 rfl) rfl) rfl ?_
      refine op_len Try.underlying26 rfl rfl ?_
      refine op_move rfl rfl ?_
      refine endF (XF.thenN ?_)
      refine blockF ?_
      refine loopF (fun m l W => ∃ (i : Nat) (u1 u2 u3 : Value) (Kk : List (Nat × World)) (ns : List R9), i ≤ rl ∧ m = rl - i ∧ l = [(1, .pointer (some ⟨B1, 0, none⟩)), (2, .pointer (some ⟨B2, 0, none⟩)), (3, .int .i64 0), (8, .pointer (some ⟨B11, 0, none⟩)), (68, .slice ra rl rc), (69, .int .i64 (rl : Int)), (70, .int .i64 (i : Int))] ∧ ns.map R9.pl = shortF (oneX S) px (rs.take i) 0 st sy ∧ Held w Kk (fun W2 => SpFar w.heap.size S sq W2 ∧ ∀ r ∈ ns, RHeld w.heap.size S W2 r) ∧ St w [(B11, shC s.f f0 sq (st + (moreF (rs.take i) : Int)) (sy + (moreF (rs.take i) : Int)) u1 u2 u3, 101), (B2, z8, 40), (B1, [.int .i64 s.f.tag, .int .i64 s.f.dim, .slice s.f.a s.f.len s.f.cap, .int .i64 st, .int .i64 sy, .slice ra rl rc], 28)] [⟨u1, ns.length, ns.flatMap ten9, 56, 10⟩, ⟨u2, ns.length, ns.map (fun r => Value.int .i64 r.num), 3, 1⟩, ⟨u3, ns.length, ns.map (fun r => Value.bool r.first), 4, 1⟩] Kk W) (rl - 0) ([(1, _), (2, _), (3, _), (8, _), (68, _), (69, _), (70, _)]) ⟨rfl, rfl, rfl, rfl, rfl, rfl, rfl, trivial⟩ (⟨0, _, _, _, _, [], Nat.zero_le _, rfl, rfl, rfl, fun h2 hk => ⟨HS2 h2 (fun q hq => hk q (List.mem_append_left _ hq)), fun r hr => by cases hr⟩, hS.castO (by simp [moreF])⟩) ?_
      clear hS
      rintro m l W ⟨i, u1, u2, u3, Kk, ns, hi, rfl, rfl, hns, HN, hS⟩
      refine seqF (regF ?_)
      refine op_lss rfl rfl rfl ?_
      refine endF (XF.thenN ?_)
      refine seqF ?_
      refine condF rfl (fun hc => ?_) (fun hc => ?_)
      ·have hc71 := of_decide_eq_true hc; clear hc
       have hk : i < rl := by omega
       obtain ⟨r, hr⟩ : ∃ r, rs[i]? = some r := ⟨rs[i]'(by omega), by simp [show i < rs.length by omega]⟩
       obtain ⟨b, off, rfl, hcs⟩ := hprow.at_ hr
       have k1 := CellsAt.agree hS.agree (Nat.zero_le _) hcs
       have hri := hin r (List.mem_of_getElem? hr)
       have hr4 : r.wl ≤ 4096 := hok.w4 r (List.mem_of_getElem? hr)
       have hmt := moreF_take_le (rs := rs) (i := i)
       have hnl : ns.length = i + moreF (rs.take i) := by
        have h1 := congrArg List.length hns
        rw [List.length_map, shortF_len (fun x hx => (hin x (List.mem_of_mem_take hx)).len), List.length_take, Nat.min_eq_left (by omega)] at h1
        exact h1
       have hfw : moreF rs ≤ 16384 := by
        have h1 := hfew
        unfold tooMany at h1
        simp only [Bool.or_eq_false_iff, decide_eq_false_iff_not] at h1
        omega
       have hf1 : st + (moreF rs : Int) ≤ 4096 ∧ sy + (moreF rs : Int) ≤ 4096 := by
        have h1 := hfew
        unfold tooMany at h1
        simp only [Bool.or_eq_false_iff, decide_eq_false_iff_not] at h1
        omega
       refine skipF ?_
       refine XF.thenN ?_
       refine seqF ?_
       refine blockF ?_
       refine seqF (regF ?_)
       refine op_move rfl rfl ?_
       refine op_indexA  Try.underlying26 Try.sizeOf56 rfl rfl rfl (by omega) rfl rfl ?_
       refine op_loadA (vs := [_, _, _, _, _, _, _, _, _, _]) Try.isAgg56 Try.sizeOf56 rfl (k1) rfl ?_
       refine op_alloc (cs := [_, _, _, _, _, _, _, _, _, _]) hS Try.zeroValue56 rfl rfl ?_
       clear hS; intro B15 W15 hS
       refine op_assign rfl rfl ?_
       refine op_storeA (i := 0) (vs := [_, _, _, _, _, _, _, _, _, _]) (cs' := [_, _, _, _, _, _, _, _, _, _]) (O' := [_, _, _, _]) hS Try.sizeOf56 rfl rfl (by first | rfl | (have h0 := hS.oneV 0 _ rfl; have h1 := hS.oneV 1 _ rfl; have h2 := hS.oneV 2 _ rfl; simp only [List.all_cons, List.all_nil, Bool.and_true, Bool.and_eq_true]; exact ⟨rfl, rfl, rfl, rfl, rfl, h0, h1, h2⟩)) rfl rfl rfl rfl ?_
       clear hS; intro W16 hS
       refine endF (XF.thenN ?_)
       refine regF ?_
       refine op_move rfl rfl ?_
       refine op_loadA (vs := [_, _, _, _, _, _, _, _, _, _]) Try.isAgg56 Try.sizeOf56 rfl (CellsAt.own (j := 0) (m := 10) (hS.at_ 0 rfl) rfl) rfl ?_
       refine op_callX (vs := [_, _, _]) goes_43 rfl (shParts_is s.f f0 sq (st + (moreF (rs.take i) : Int)) (sy + (moreF (rs.take i) : Int)) u1 u2 u3 ns.length (ns.flatMap ten9) (ns.map (fun r => Value.int .i64 r.num)) (ns.map (fun r => Value.bool r.first)) B11 _ _ w S (px r) (i : Int) r.p r.g r.q r.wa r.wl r.wc r.ws r.x.f _ (hS.perm (List.Perm.swap _ _ _)) (by omega) hok.si hok.ok (hok.x r (List.mem_of_getElem? hr)) hri.row hri.len hr4 (by omega) (by omega) ht) rfl ?_
       rintro e W9 ⟨w1, w2, w3, Kn, ns2, rfl, hpl, hsubn, HNn, hS9⟩
       refine ⟨_, rfl, ?_⟩
       clear hS; have hS := hS9.perm (List.Perm.swap _ _ _); clear hS9
       have ez : st + (moreF (rs.take i) : Int) + ((r.wl - 2 : Nat) : Int) = st + (moreF (rs.take (i + 1)) : Int) := by rw [moreF_take hr]; omega
       have ey : sy + (moreF (rs.take i) : Int) + ((r.wl - 2 : Nat) : Int) = sy + (moreF (rs.take (i + 1)) : Int) := by rw [moreF_take hr]; omega
       rw [ez, ey] at hS
       refine endF ?_
       refine XF.blkN ?_
       refine XF.thenN ?_
       refine regF ?_
       refine op_add rfl rfl (IntWalk.i64_in _ (by omega)) rfl ?_
       refine op_move rfl rfl ?_
       refine endF ?_
       exact XF.round (rl - (i + 1)) [(1, _), (2, _), (3, _), (8, _), (68, _), (69, _), (70, _)] (by omega) ⟨rfl, rfl, rfl, rfl, rfl, rfl, rfl, trivial⟩ ⟨i + 1, w1, w2, w3, Kn, ns ++ ns2, by omega, rfl, rfl, by rw [List.map_append, hns, hpl, shortF_take hr], fun h2 hk => ⟨(HN h2 (fun q hq => hk q (hsubn q hq))).1, fun x hx => by
         rcases List.mem_append.1 hx with hx | hx
         ·exact (HN h2 (fun q hq => hk q (hsubn q hq))).2 x hx
         ·exact HNn h2 hk x hx⟩, hS.tail.castG (by simp)⟩
      ·have hc71 := of_decide_eq_false hc; clear hc
       have hil : i = rl := by omega
       rw [List.take_of_length_le (by omega)] at hS hns
       refine exitF ?_
       refine XF.thenX ?_
       refine XF.thenX ?_
       refine XF.blkX ?_
       refine XF.thenN ?_
       refine seqF (regF ?_)
       refine op_field (o' := 9) fa_101_1 rfl rfl rfl ?_
       refine op_loadA (vs := [_, _, _, _, _, _, _, _]) Try.isAgg40 Try.sizeOf40 rfl (CellsAt.own (j := 9) (m := 8) (hS.at_ 0 rfl) rfl) rfl ?_
       refine op_storeA (i := 1) (vs := [_, _, _, _, _, _, _, _]) (cs' := [_, _, _, _, _, _, _, _]) (O' := [_, _, _]) hS Try.sizeOf40 rfl rfl (by first | rfl | (have h0 := hS.oneV 0 _ rfl; have h1 := hS.oneV 1 _ rfl; have h2 := hS.oneV 2 _ rfl; simp only [List.all_cons, List.all_nil, Bool.and_true, Bool.and_eq_true]; exact ⟨rfl, rfl, rfl, rfl, rfl, h0, h1, h2⟩)) rfl rfl rfl rfl ?_
       clear hS; intro W17 hS
       refine op_assign rfl rfl ?_
       refine endF (XF.thenN ?_)
       refine retF ?_
       refine XF.res (resCT (vs := [_, _, _, _, _, _, _, _]) Try.results13 Try.isAgg40 Try.sizeOf40 rfl (CellsAt.own (j := 0) (m := 8) (hS.at_ 1 rfl) rfl) rfl) ?_
       exact shortRet_ok (p := ⟨s, st, sy, ra, rl, rc, rs⟩) ⟨hok, hfew, hns, (HN hS (fun q hq => hq)).1, (HN hS (fun q hq => hq)).2, hS.row 0 rfl, hS.row 1 rfl, hS.row 2 rfl⟩ hS.below
end Go.Proofs.Ytnhnedifekejpaa
namespace Go.Proofs.Ytnhnedifekejpaa
open Go Go.RowKit
theorem bld_40_0 (v00 : Value) (v01 : Value) (v02 : Value) (v03 : Value) (v04 : Value) (v05 : Value) : Try.prog.built 40 [(0, .agg #[v00, v01, v02, v03, v04, v05])] = some #[v00, v01, v02, v03, v04, v05, .slice none 0 0, .slice none 0 0] := by kernel_rfl
theorem bld_56_0_1_2_3_4 (v0 : Int) (v1 : Int) (v2 : Int) (v3a : Option Addr) (v3l : Nat) (v3c : Nat) (v40 : Value) (v41 : Value) (v42 : Value) (v43 : Value) (v44 : Value) (v45 : Value) : Try.prog.built 56 [(0, .int .i64 v0), (1, .int .i64 v1), (2, .int .i64 v2), (3, .slice v3a v3l v3c), (4, .agg #[v40, v41, v42, v43, v44, v45])] = some #[.int .i64 v0, .int .i64 v1, .int .i64 v2, .slice v3a v3l v3c, v40, v41, v42, v43, v44, v45] := by kernel_rfl
theorem shortR_c (ds d : Nat) (s : SV) (st sy : Int) (ra : Option Addr) (rl rc : Nat) (rs : List RV) (w : World) (hs : SIn w ds s) (hprow : RRow w ra rs) (hplen : rs.length = rl) (hin : ∀ r ∈ rs, RIn w d r) (ht : Tabs w) (S : PS) (px : RV → PX) (hpx : pdsE ⟨s, st, sy, ra, rl, rc, rs⟩ = 0 → PdsOk w S px ⟨s, st, sy, ra, rl, rc, rs⟩) (hcap : ∀ r ∈ rs, r.wl ≤ r.wc) :
  Calls Try.prog 14 #[.agg #[.int .i64 s.f.tag, .int .i64 s.f.dim, .slice s.f.a s.f.len s.f.cap, .int .i64 st, .int .i64 sy, .slice ra rl rc]] w (ShOutX (shortD S px ⟨s, st, sy, ra, rl, rc, rs⟩) w) := by
 refine enterF (args := [.agg #[.int .i64 s.f.tag, .int .i64 s.f.dim, .slice s.f.a s.f.len s.f.cap, .int .i64 st, .int .i64 sy, .slice ra rl rc]]) Try.func14 rfl Try.ntmps14 rfl ?_
 have hS := St.start w
 refine seqF (regF ?_)
 refine op_box (cs := [_, _, _, _, _, _]) hS rfl rfl rfl ?_
 clear hS; intro B1 W1 hS
 refine op_alloc (cs := [_, _, _, _, _, _, _, _]) hS Try.zeroValue40 rfl rfl ?_
 clear hS; intro B2 W2 hS
 refine op_assign rfl rfl ?_
 refine endF (XF.thenN ?_)
 refine seqF (regF ?_)
 refine op_loadA (vs := [_, _, _, _, _, _]) Try.isAgg28 Try.sizeOf28 rfl (CellsAt.own (j := 0) (m := 6) (hS.at_ 1 rfl) rfl) rfl ?_
 refine op_call (vs := [_]) hS goes_39 rfl (pdsR_is ds d ⟨s, st, sy, ra, rl, rc, rs⟩ _ (PvIn.below ⟨hs, hprow, hplen, hin⟩ hS.below)) rfl ?_
 rintro e W3 ⟨rfl, hb⟩
 refine ⟨_, rfl, hb, fun hS' => ?_⟩
 clear hS; have hS := hS'; clear hS' hb
 refine op_assign rfl rfl ?_
 refine endF (XF.thenN ?_)
 refine seqF ?_
 refine seqF (regF ?_)
 refine op_move rfl rfl ?_
 refine op_neq rfl rfl rfl ?_
 refine endF (XF.thenN ?_)
 refine condF rfl (fun hc => ?_) (fun hc => ?_)
 ·have hc18 := of_decide_eq_true hc; clear hc
  refine seqF (regF ?_)
  refine op_build (us := []) rfl (bld_40) rfl ?_
  refine op_move rfl rfl ?_
  refine op_storeA (i := 0) (vs := [_, _, _, _, _, _, _, _]) (cs' := [_, _, _, _, _, _, _, _]) (O' := [_, _]) hS Try.sizeOf40 rfl rfl (by first | rfl | (have h0 := hS.oneV 0 _ rfl; have h1 := hS.oneV 1 _ rfl; have h2 := hS.oneV 2 _ rfl; simp only [List.all_cons, List.all_nil, Bool.and_true, Bool.and_eq_true]; exact ⟨rfl, rfl, rfl, rfl, rfl, h0, h1, h2⟩)) rfl rfl rfl rfl ?_
  clear hS; intro W4 hS
  refine op_assign rfl rfl ?_
  refine endF (XF.thenN ?_)
  refine retF ?_
  refine XF.thenR ?_
  refine XF.res (resCT (vs := [_, _, _, _, _, _, _, _]) Try.results14 Try.isAgg40 Try.sizeOf40 rfl (CellsAt.own (j := 0) (m := 8) (hS.at_ 0 rfl) rfl) rfl) ?_
  exact shOut_bad hc18 hS.below
 ·have hc18 := of_decide_eq_false hc; clear hc
  have hE : pdsE ⟨s, st, sy, ra, rl, rc, rs⟩ = 0 := Decidable.of_not_not hc18
  have hok := hpx hE
  have hmo := moreF_bound hok hplen
  have hrl : rl ≤ 16384 := hok.rl
  have hst : 0 ≤ st ∧ st ≤ 4096 := hok.st
  have hsy : 0 ≤ sy ∧ sy ≤ 4096 := hok.sy
  have hmo : moreF rs ≤ 67108864 := hmo
  refine skipF ?_
  refine XF.thenN ?_
  refine seqF (regF ?_)
  refine op_field (o' := 0) fa_28_0 rfl rfl rfl ?_
  refine op_loadA (vs := [_, _, _]) Try.isAgg25 Try.sizeOf25 rfl (CellsAt.own (j := 0) (m := 3) (hS.at_ 1 rfl) rfl) rfl ?_
  refine op_call (vs := [_]) hS goes_17 rfl (OneR_ok S s.f _ (hok.si.below hS.below) hok.ok) rfl ?_
  rintro e W5 ⟨fO, rfl, hnO, hb⟩
  refine ⟨_, rfl, hb, fun hS' => ?_⟩
  clear hS; have hS := hS'; clear hS'
  clear hb
  obtain ⟨lo9, hlo9⟩ : ∃ n, n = W3.heap.size := ⟨_, rfl⟩
  rw [← hlo9] at hnO hS
  obtain ⟨A9, hA9⟩ : ∃ A, A = W5 := ⟨_, rfl⟩
  have HO : Held w [(lo9, A9)] (fun W2 => XIs W2 S fO (oneX S)) := Held.one (p := fun W2 => XIs W2 S fO (oneX S)) (fun W2 hg => (hnO.agree (hA9 ▸ hg)).is)
  refine op_move rfl rfl ?_
  refine op_extract rfl rfl rfl ?_
  refine op_extract rfl rfl rfl ?_
  refine op_alloc (cs := [_, _, _, _, _, _]) hS Try.zeroValue54 rfl rfl ?_
  clear hS; intro B6 W6 hS
  refine op_storeA (i := 0) (vs := [_, _, _, _, _, _]) (cs' := [_, _, _, _, _, _]) (O' := [_, _, _]) hS Try.sizeOf54 rfl rfl (by first | rfl | (have h0 := hS.oneV 0 _ rfl; have h1 := hS.oneV 1 _ rfl; have h2 := hS.oneV 2 _ rfl; simp only [List.all_cons, List.all_nil, Bool.and_true, Bool.and_eq_true]; exact ⟨rfl, rfl, rfl, rfl, rfl, h0, h1, h2⟩)) rfl rfl rfl rfl ?_
  clear hS; intro W7 hS
  refine op_assign rfl rfl ?_
  refine endF (XF.thenN ?_)
  refine seqF (regF ?_)
  refine op_assign rfl rfl ?_
  refine endF (XF.thenN ?_)
  refine seqF ?_
  refine seqF (regF ?_)
  refine op_assign rfl rfl ?_
  refine endF (XF.thenN ?_)
  refine blockF ?_
  refine loopF (fun m l W => ∃ i : Nat, i ≤ rl ∧ m = rl - i ∧ l = [(1, .pointer (some ⟨B1, 0, none⟩)), (2, .pointer (some ⟨B2, 0, none⟩)), (3, .int .i64 0), (5, .pointer (some ⟨B6, 0, none⟩)), (7, .int .i64 (moreF (rs.take i) : Int)), (8, .int .i64 (i : Int))] ∧ St w [(B6, fO.six, 54), (B2, z8, 40), (B1, [.int .i64 s.f.tag, .int .i64 s.f.dim, .slice s.f.a s.f.len s.f.cap, .int .i64 st, .int .i64 sy, .slice ra rl rc], 28)] [] [(lo9, A9)] W) (rl - 0) ([(1, _), (2, _), (3, _), (5, _), (7, _), (8, _)]) ⟨rfl, rfl, rfl, rfl, rfl, rfl, trivial⟩ (⟨0, Nat.zero_le _, rfl, rfl, hS.keep [(lo9, A9)] (fun q hq => by simp at hq; subst hq; simp [hA9])⟩) ?_
  clear hS
  rintro m l W ⟨i, hi, rfl, rfl, hS⟩
  refine seqF ?_
  refine seqF (regF ?_)
  refine op_move rfl rfl ?_
  refine op_field (o' := 5) fa_28_3 rfl rfl rfl ?_
  refine op_load Try.isAgg26 rfl (cell_own (hS.at_ 2 rfl) rfl) rfl ?_
  refine op_len Try.underlying26 rfl rfl ?_
  refine op_lss rfl rfl rfl ?_
  refine endF (XF.thenN ?_)
  refine condF rfl (fun hc => ?_) (fun hc => ?_)
  ·have hc31 := of_decide_eq_true hc; clear hc
   have hk : i < rl := by omega
   obtain ⟨r, hr⟩ : ∃ r, rs[i]? = some r := ⟨rs[i]'(by omega), by simp [show i < rs.length by omega]⟩
   obtain ⟨b, off, rfl, hcs⟩ := hprow.at_ hr
   have hmem := List.mem_of_getElem? hr
   have hr4 := hok.w4 r hmem
   have hmt := moreF_take_le (rs := rs) (i := i)
   obtain ⟨p0, g0, q0, wa0, wl0, wc0, ws0, y0⟩ := r
   dsimp only [RV.ten] at hcs hr4
   have k9 := CellsAt.agree hS.agree (Nat.zero_le _) hcs
   have k1 : W.cell? ⟨b, off + i * 10 + 3, none⟩ = some (.slice wa0 wl0 wc0) := k9.2.2.2.1
   refine skipF ?_
   refine XF.thenN ?_
   refine seqF ?_
   refine blockF ?_
   refine seqF (regF ?_)
   refine op_field (o' := 5) fa_28_3 rfl rfl rfl ?_
   refine op_load Try.isAgg26 rfl (cell_own (hS.at_ 2 rfl) rfl) rfl ?_
   refine op_move rfl rfl ?_
   refine op_indexA  Try.underlying26 Try.sizeOf56 rfl rfl rfl (by omega) rfl rfl ?_
   refine op_field fa_56_3 rfl rfl rfl ?_
   refine op_load Try.isAgg30 rfl (k1) rfl ?_
   refine op_len Try.underlying30 rfl rfl ?_
   refine op_gtr rfl rfl rfl ?_
   refine endF (XF.thenN ?_)
   refine condF rfl (fun hc => ?_) (fun hc => ?_)
   ·have hc41 := of_decide_eq_true hc; clear hc
    refine regF ?_
    refine op_move rfl rfl ?_
    refine op_field (o' := 5) fa_28_3 rfl rfl rfl ?_
    refine op_load Try.isAgg26 rfl (cell_own (hS.at_ 2 rfl) rfl) rfl ?_
    refine op_move rfl rfl ?_
    refine op_indexA  Try.underlying26 Try.sizeOf56 rfl rfl rfl (by omega) rfl rfl ?_
    refine op_field fa_56_3 rfl rfl rfl ?_
    refine op_load Try.isAgg30 rfl (k1) rfl ?_
    refine op_len Try.underlying30 rfl rfl ?_
    refine op_add rfl rfl (IntWalk.i64_in _ (by omega)) rfl ?_
    refine op_sub rfl rfl (IntWalk.i64_in _ (by omega)) rfl ?_
    refine op_assign rfl rfl ?_
    refine endF ?_
    refine XF.blkN ?_
    refine XF.thenN ?_
    refine regF ?_
    refine op_move rfl rfl ?_
    refine op_add rfl rfl (IntWalk.i64_in _ (by omega)) rfl ?_
    refine op_assign rfl rfl ?_
    refine endF ?_
    have e9 : (moreF (rs.take i) : Int) + (wl0 : Int) - 2 = (moreF (rs.take (i + 1)) : Int) := by rw [moreF_take hr]; dsimp only; omega
    exact XF.round (rl - (i + 1)) [(1, _), (2, _), (3, _), (5, _), (7, _), (8, _)] (by omega) ⟨rfl, rfl, rfl, rfl, rfl, rfl, trivial⟩ ⟨i + 1, by omega, rfl, by rw [← e9]; rfl, hS⟩
   ·have hc41 := of_decide_eq_false hc; clear hc
    refine skipF ?_
    refine XF.blkN ?_
    refine XF.thenN ?_
    refine regF ?_
    refine op_move rfl rfl ?_
    refine op_add rfl rfl (IntWalk.i64_in _ (by omega)) rfl ?_
    refine op_assign rfl rfl ?_
    refine endF ?_
    have e9 : (moreF (rs.take i) : Int) = (moreF (rs.take (i + 1)) : Int) := by rw [moreF_take hr]; dsimp only; omega
    exact XF.round (rl - (i + 1)) [(1, _), (2, _), (3, _), (5, _), (7, _), (8, _)] (by omega) ⟨rfl, rfl, rfl, rfl, rfl, rfl, trivial⟩ ⟨i + 1, by omega, rfl, by rw [← e9]; rfl, hS⟩
  ·have hc31 := of_decide_eq_false hc; clear hc
   rw [List.take_of_length_le (by omega)]
   refine exitF ?_
   refine XF.thenX ?_
   refine XF.thenX ?_
   refine XF.blkX ?_
   refine XF.thenN ?_
   refine seqF ?_
   refine seqF (regF ?_)
   refine op_field (o' := 3) fa_28_1 rfl rfl rfl ?_
   refine op_load Try.isAgg3 rfl (cell_own (hS.at_ 2 rfl) rfl) rfl ?_
   refine op_move rfl rfl ?_
   refine op_add rfl rfl (IntWalk.i64_in _ (by omega)) rfl ?_
   refine op_gtr rfl rfl rfl ?_
   refine op_move rfl rfl ?_
   refine op_cases (d := 57) rfl (fun hc => ?_) (fun hc => ?_)
   ·have hg57 := of_decide_eq_true hc; clear hc
    refine op_notF (d := 57) rfl rfl rfl rfl ?_
    refine op_notF (d := 57) rfl rfl rfl rfl ?_
    refine op_notF (d := 57) rfl rfl rfl rfl ?_
    refine op_notF (d := 57) rfl rfl rfl rfl ?_
    refine op_notF (d := 57) rfl rfl rfl rfl ?_
    refine op_pickT rfl rfl rfl ?_
    refine op_move rfl rfl ?_
    refine op_notF (d := 64) rfl rfl rfl rfl ?_
    refine op_notF (d := 64) rfl rfl rfl rfl ?_
    refine op_notF (d := 64) rfl rfl rfl rfl ?_
    refine op_notF (d := 64) rfl rfl rfl rfl ?_
    refine op_notF (d := 64) rfl rfl rfl rfl ?_
    refine op_notF (d := 64) rfl rfl rfl rfl ?_
    refine op_pickT rfl rfl rfl ?_
    refine endF (XF.thenN ?_)
    refine condT rfl ?_
    refine seqF (regF ?_)
    refine op_build (us := []) rfl (bld_40) rfl ?_
    refine op_storeA (i := 1) (vs := [_, _, _, _, _, _, _, _]) (cs' := [_, _, _, _, _, _, _, _]) (O' := [_, _, _]) hS Try.sizeOf40 rfl rfl (by first | rfl | (have h0 := hS.oneV 0 _ rfl; have h1 := hS.oneV 1 _ rfl; have h2 := hS.oneV 2 _ rfl; simp only [List.all_cons, List.all_nil, Bool.and_true, Bool.and_eq_true]; exact ⟨rfl, rfl, rfl, rfl, rfl, h0, h1, h2⟩)) rfl rfl rfl rfl ?_
    clear hS; intro W8 hS
    refine op_assign rfl rfl ?_
    refine endF (XF.thenN ?_)
    refine retF ?_
    refine XF.thenR ?_
    refine XF.res (resCT (vs := [_, _, _, _, _, _, _, _]) Try.results14 Try.isAgg40 Try.sizeOf40 rfl (CellsAt.own (j := 0) (m := 8) (hS.at_ 1 rfl) rfl) rfl) ?_
    exact shOut_many hE (tooMany_of (p := ⟨s, st, sy, ra, rl, rc, rs⟩) (by dsimp only; omega)) hS.below
   ·have hg57 := of_decide_eq_false hc; clear hc
    refine op_wantedF (d := 57) rfl rfl ?_
    refine op_field (o' := 4) fa_28_2 rfl rfl rfl ?_
    refine op_wantedF (d := 57) rfl rfl ?_
    refine op_load Try.isAgg3 rfl (cell_own (hS.at_ 2 rfl) rfl) rfl ?_
    refine op_wantedF (d := 57) rfl rfl ?_
    refine op_move rfl rfl ?_
    refine op_wantedF (d := 57) rfl rfl ?_
    refine op_add rfl rfl (IntWalk.i64_in _ (by omega)) rfl ?_
    refine op_wantedF (d := 57) rfl rfl ?_
    refine op_gtr rfl rfl rfl ?_
    refine op_pickF rfl rfl rfl ?_
    refine op_move rfl rfl ?_
    refine op_cases (d := 64) rfl (fun hc => ?_) (fun hc => ?_)
    ·have hg64 := of_decide_eq_true hc; clear hc
     refine op_notF (d := 64) rfl rfl rfl rfl ?_
     refine op_notF (d := 64) rfl rfl rfl rfl ?_
     refine op_notF (d := 64) rfl rfl rfl rfl ?_
     refine op_notF (d := 64) rfl rfl rfl rfl ?_
     refine op_notF (d := 64) rfl rfl rfl rfl ?_
     refine op_notF (d := 64) rfl rfl rfl rfl ?_
     refine op_pickT rfl rfl rfl ?_
     refine endF (XF.thenN ?_)
     refine condT rfl ?_
     refine seqF (regF ?_)
     refine op_build (us := []) rfl (bld_40) rfl ?_
     refine op_storeA (i := 1) (vs := [_, _, _, _, _, _, _, _]) (cs' := [_, _, _, _, _, _, _, _]) (O' := [_, _, _]) hS Try.sizeOf40 rfl rfl (by first | rfl | (have h0 := hS.oneV 0 _ rfl; have h1 := hS.oneV 1 _ rfl; have h2 := hS.oneV 2 _ rfl; simp only [List.all_cons, List.all_nil, Bool.and_true, Bool.and_eq_true]; exact ⟨rfl, rfl, rfl, rfl, rfl, h0, h1, h2⟩)) rfl rfl rfl rfl ?_
     clear hS; intro W9 hS
     refine op_assign rfl rfl ?_
     refine endF (XF.thenN ?_)
     refine retF ?_
     refine XF.thenR ?_
     refine XF.res (resCT (vs := [_, _, _, _, _, _, _, _]) Try.results14 Try.isAgg40 Try.sizeOf40 rfl (CellsAt.own (j := 0) (m := 8) (hS.at_ 1 rfl) rfl) rfl) ?_
     exact shOut_many hE (tooMany_of (p := ⟨s, st, sy, ra, rl, rc, rs⟩) (by dsimp only; omega)) hS.below
    ·have hg64 := of_decide_eq_false hc; clear hc
     refine op_wantedF (d := 64) rfl rfl ?_
     refine op_field (o' := 5) fa_28_3 rfl rfl rfl ?_
     refine op_wantedF (d := 64) rfl rfl ?_
     refine op_load Try.isAgg26 rfl (cell_own (hS.at_ 2 rfl) rfl) rfl ?_
     refine op_wantedF (d := 64) rfl rfl ?_
     refine op_len Try.underlying26 rfl rfl ?_
     refine op_wantedF (d := 64) rfl rfl ?_
     refine op_move rfl rfl ?_
     refine op_wantedF (d := 64) rfl rfl ?_
     refine op_add rfl rfl (IntWalk.i64_in _ (by omega)) rfl ?_
     refine op_wantedF (d := 64) rfl rfl ?_
     refine op_gtr rfl rfl rfl ?_
     refine op_pickF rfl rfl rfl ?_
     refine endF (XF.thenN ?_)
     refine condF rfl (fun hc => ?_) (fun hc => ?_)
     ·have hc71 := of_decide_eq_true hc; clear hc
      refine seqF (regF ?_)
      refine op_build (us := []) rfl (bld_40) rfl ?_
      refine op_storeA (i := 1) (vs := [_, _, _, _, _, _, _, _]) (cs' := [_, _, _, _, _, _, _, _]) (O' := [_, _, _]) hS Try.sizeOf40 rfl rfl (by first | rfl | (have h0 := hS.oneV 0 _ rfl; have h1 := hS.oneV 1 _ rfl; have h2 := hS.oneV 2 _ rfl; simp only [List.all_cons, List.all_nil, Bool.and_true, Bool.and_eq_true]; exact ⟨rfl, rfl, rfl, rfl, rfl, h0, h1, h2⟩)) rfl rfl rfl rfl ?_
      clear hS; intro W10 hS
      refine op_assign rfl rfl ?_
      refine endF (XF.thenN ?_)
      refine retF ?_
      refine XF.thenR ?_
      refine XF.res (resCT (vs := [_, _, _, _, _, _, _, _]) Try.results14 Try.isAgg40 Try.sizeOf40 rfl (CellsAt.own (j := 0) (m := 8) (hS.at_ 1 rfl) rfl) rfl) ?_
      exact shOut_many hE (tooMany_of (p := ⟨s, st, sy, ra, rl, rc, rs⟩) (by dsimp only; omega)) hS.below
     ·have hc71 := of_decide_eq_false hc; clear hc
      have hfew : tooMany ⟨s, st, sy, ra, rl, rc, rs⟩ = false := tooMany_no (by dsimp only; omega) (by dsimp only; omega) (by dsimp only; omega)
      refine skipF ?_
      refine XF.thenN ?_
      refine seqF (regF ?_)
      refine op_field (o' := 0) fa_28_0 rfl rfl rfl ?_
      refine op_loadA (vs := [_, _, _]) Try.isAgg25 Try.sizeOf25 rfl (CellsAt.own (j := 0) (m := 3) (hS.at_ 2 rfl) rfl) rfl ?_
      refine op_field (o' := 3) fa_28_1 rfl rfl rfl ?_
      refine op_load Try.isAgg3 rfl (cell_own (hS.at_ 2 rfl) rfl) rfl ?_
      refine op_field (o' := 4) fa_28_2 rfl rfl rfl ?_
      refine op_load Try.isAgg3 rfl (cell_own (hS.at_ 2 rfl) rfl) rfl ?_
      refine op_build (us := [(0, .agg (List.toArray [_, _, _])), (1, .int .i64 _), (2, .int .i64 _)]) rfl (bld_28_0_1_2 _ _ _ _ _) rfl ?_
      refine op_build (us := [(0, .agg (List.toArray [_, _, _, _, _, _]))]) rfl (bld_40_0 _ _ _ _ _ _) rfl ?_
      refine op_alloc (cs := [_, _, _, _, _, _, _, _]) hS Try.zeroValue40 rfl rfl ?_
      clear hS; intro B11 W11 hS
      refine op_storeA (i := 0) (vs := [_, _, _, _, _, _, _, _]) (cs' := [_, _, _, _, _, _, _, _]) (O' := [_, _, _, _]) hS Try.sizeOf40 rfl rfl (by first | rfl | (have h0 := hS.oneV 0 _ rfl; have h1 := hS.oneV 1 _ rfl; have h2 := hS.oneV 2 _ rfl; simp only [List.all_cons, List.all_nil, Bool.and_true, Bool.and_eq_true]; exact ⟨rfl, rfl, rfl, rfl, rfl, h0, h1, h2⟩)) rfl rfl rfl rfl ?_
      clear hS; intro W12 hS
      refine endF (XF.thenN ?_)
      refine seqF ?_
      refine seqF ?_
      have hS := ((hS.newG 4 1).newG 3 1).newG 56 10
      refine regF ?_
      refine op_assign rfl rfl ?_
      refine endF (XF.thenN ?_)
      refine blockF ?_
      refine loopF (fun m l W => ∃ (i : Nat) (u1 u2 u3 : Value) (Kk : List (Nat × World)) (ns : List R9), i ≤ rl ∧ m = rl - i ∧ l = [(1, .pointer (some ⟨B1, 0, none⟩)), (2, .pointer (some ⟨B2, 0, none⟩)), (3, .int .i64 0), (5, .pointer (some ⟨B6, 0, none⟩)), (9, .pointer (some ⟨B11, 0, none⟩)), (10, .int .i64 (i : Int))] ∧ ns.map R9.pl = shortF (oneX S) px (rs.take i) 0 st sy ∧ (lo9, A9) ∈ Kk ∧ Held w Kk (fun W2 => ∀ r ∈ ns, ROk S W2 r) ∧ St w [(B11, [.int .i64 s.f.tag, .int .i64 s.f.dim, .slice s.f.a s.f.len s.f.cap, .int .i64 (st + (moreF (rs.take i) : Int)), .int .i64 (sy + (moreF (rs.take i) : Int)), u1, u2, u3], 40), (B6, fO.six, 54), (B2, z8, 40), (B1, [.int .i64 s.f.tag, .int .i64 s.f.dim, .slice s.f.a s.f.len s.f.cap, .int .i64 st, .int .i64 sy, .slice ra rl rc], 28)] [⟨u1, ns.length, ns.flatMap ten9, 56, 10⟩, ⟨u2, ns.length, ns.map (fun r => Value.int .i64 r.num), 3, 1⟩, ⟨u3, ns.length, ns.map (fun r => Value.bool r.first), 4, 1⟩] Kk W) (rl - 0) ([(1, _), (2, _), (3, _), (5, _), (9, _), (10, _)]) ⟨rfl, rfl, rfl, rfl, rfl, rfl, trivial⟩ (⟨0, _, _, _, [(lo9, A9)], [], Nat.zero_le _, rfl, rfl, rfl, by simp, (fun h2 hk r hr => by cases hr), hS.castO (by simp [moreF])⟩) ?_
      clear hS
      rintro m l W ⟨i, u1, u2, u3, Kk, ns, hi, rfl, rfl, hns, hAm, HN, hS⟩
      refine seqF ?_
      refine seqF (regF ?_)
      refine op_move rfl rfl ?_
      refine op_field (o' := 5) fa_28_3 rfl rfl rfl ?_
      refine op_load Try.isAgg26 rfl (cell_own (hS.at_ 3 rfl) rfl) rfl ?_
      refine op_len Try.underlying26 rfl rfl ?_
      refine op_lss rfl rfl rfl ?_
      refine endF (XF.thenN ?_)
      refine condF rfl (fun hc => ?_) (fun hc => ?_)
      ·have hc85 := of_decide_eq_true hc; clear hc
       have hk : i < rl := by omega
       obtain ⟨r, hr⟩ : ∃ r, rs[i]? = some r := ⟨rs[i]'(by omega), by simp [show i < rs.length by omega]⟩
       obtain ⟨b, off, rfl, hcs⟩ := hprow.at_ hr
       have hmem := List.mem_of_getElem? hr
       have hri := hin r hmem
       have hr4 := hok.w4 r hmem
       have hxr : XIs w S r.x.f (px r) := hok.x r hmem
       have hwc := hcap r hmem
       have hmt := moreF_take_le (rs := rs) (i := i + 1)
       have hmr := moreF_take hr
       have hst9 := shortF_take (one := oneX S) (px := px) (z := st) (y := sy) hr
       have hnl : ns.length = i + moreF (rs.take i) := by
        have h1 := congrArg List.length hns
        rw [List.length_map, shortF_len (fun x hx => (hin x (List.mem_of_mem_take hx)).len), List.length_take, Nat.min_eq_left (by omega)] at h1
        exact h1
       have hfw : moreF rs ≤ 16384 := by
        have h1 := hfew
        unfold tooMany at h1
        simp only [Bool.or_eq_false_iff, decide_eq_false_iff_not] at h1
        omega
       have hf1 : st + (moreF rs : Int) ≤ 4096 ∧ sy + (moreF rs : Int) ≤ 4096 := by
        have h1 := hfew
        unfold tooMany at h1
        simp only [Bool.or_eq_false_iff, decide_eq_false_iff_not] at h1
        omega
       have hrw := hri.row
       have hrl9 := hri.len
       obtain ⟨x0, hx0⟩ : ∃ x0, px r = x0 := ⟨_, rfl⟩
       rw [hx0] at hxr hst9
       clear hri hx0
       obtain ⟨p0, g0, q0, wa0, wl0, wc0, ws0, y0⟩ := r
       dsimp only [RV.ten] at hcs hr4 hxr hwc hmr hst9 hrw hrl9
       subst hrl9
       have k1 := CellsAt.agree hS.agree (Nat.zero_le _) hcs
       refine skipF ?_
       refine XF.thenN ?_
       refine seqF ?_
       refine blockF ?_
       refine seqF (regF ?_)
       refine op_field (o' := 5) fa_28_3 rfl rfl rfl ?_
       refine op_load Try.isAgg26 rfl (cell_own (hS.at_ 3 rfl) rfl) rfl ?_
       refine op_move rfl rfl ?_
       refine op_indexA  Try.underlying26 Try.sizeOf56 rfl rfl rfl (by omega) rfl rfl ?_
       refine op_loadA (vs := [_, _, _, _, _, _, _, _, _, _]) Try.isAgg56 Try.sizeOf56 rfl (k1) rfl ?_
       refine op_alloc (cs := [_, _, _, _, _, _, _, _, _, _]) hS Try.zeroValue56 rfl rfl ?_
       clear hS; intro B13 W13 hS
       refine op_storeA (i := 0) (vs := [_, _, _, _, _, _, _, _, _, _]) (cs' := [_, _, _, _, _, _, _, _, _, _]) (O' := [_, _, _, _, _]) hS Try.sizeOf56 rfl rfl (by first | rfl | (have h0 := hS.oneV 0 _ rfl; have h1 := hS.oneV 1 _ rfl; have h2 := hS.oneV 2 _ rfl; simp only [List.all_cons, List.all_nil, Bool.and_true, Bool.and_eq_true]; exact ⟨rfl, rfl, rfl, rfl, rfl, h0, h1, h2⟩)) rfl rfl rfl rfl ?_
       clear hS; intro W14 hS
       refine endF (XF.thenN ?_)
       refine seqF (regF ?_)
       refine op_assign rfl rfl ?_
       refine endF (XF.thenN ?_)
       refine seqF ?_
       refine blockF ?_
       refine loopF (fun m l W => ∃ (k : Nat) (fl : Bool) (rp rg : Int) (f : WF) (x : PX) (u1 u2 u3 : Value) (Kk : List (Nat × World)) (ns : List R9), k ≤ ws0.length - 2 ∧ m = ws0.length - 2 - k ∧ fl = decide (k = 0) ∧ curF (oneX S) p0 g0 x0 (st + (moreF (rs.take i) : Int)) (sy + (moreF (rs.take i) : Int)) k = (rp, rg, x) ∧ l = [(1, .pointer (some ⟨B1, 0, none⟩)), (2, .pointer (some ⟨B2, 0, none⟩)), (3, .int .i64 0), (5, .pointer (some ⟨B6, 0, none⟩)), (9, .pointer (some ⟨B11, 0, none⟩)), (10, .int .i64 (i : Int)), (11, .pointer (some ⟨B13, 0, none⟩)), (12, .bool fl)] ∧ ns.map R9.pl = shortF (oneX S) px (rs.take i) 0 st sy ++ headsF (oneX S) (i : Int) p0 g0 ws0 x0 (st + (moreF (rs.take i) : Int)) (sy + (moreF (rs.take i) : Int)) k ∧ (lo9, A9) ∈ Kk ∧ Held w Kk (fun W2 => ∀ r ∈ ns, ROk S W2 r) ∧ Held w Kk (fun W2 => XIs W2 S f x) ∧ ns.length = i + moreF (rs.take i) + k ∧ St w [(B13, [.int .i64 rp, .int .i64 rg, .int .i64 q0, .slice wa0 (ws0.length - k) wc0, .bool f.z, .int .i64 f.c, .int .u64 (f.g : Int), .slice f.ra f.rl f.rc, .slice f.ca f.cl f.cc, .slice f.pa f.pl f.pc], 56), (B11, [.int .i64 s.f.tag, .int .i64 s.f.dim, .slice s.f.a s.f.len s.f.cap, .int .i64 (st + (moreF (rs.take i) : Int) + (k : Int)), .int .i64 (sy + (moreF (rs.take i) : Int) + (k : Int)), u1, u2, u3], 40), (B6, fO.six, 54), (B2, z8, 40), (B1, [.int .i64 s.f.tag, .int .i64 s.f.dim, .slice s.f.a s.f.len s.f.cap, .int .i64 st, .int .i64 sy, .slice (some ⟨b, off, none⟩) rl rc], 28)] [⟨u1, ns.length, ns.flatMap ten9, 56, 10⟩, ⟨u2, ns.length, ns.map (fun r => Value.int .i64 r.num), 3, 1⟩, ⟨u3, ns.length, ns.map (fun r => Value.bool r.first), 4, 1⟩] Kk W) (ws0.length - 2 - 0) ([(1, _), (2, _), (3, _), (5, _), (9, _), (10, _), (11, _), (12, _)]) ⟨rfl, rfl, rfl, rfl, rfl, rfl, rfl, rfl, trivial⟩ (⟨0, true, p0, g0, y0.f, x0, u1, u2, u3, Kk, ns, Nat.zero_le _, rfl, rfl, rfl, rfl, by simpa [headsF] using hns, hAm, HN, (fun h2 hk => hxr.below h2.below), hnl, hS.castO (by simp)⟩) ?_
       clear hS
       clear hnl hns hAm HN hS; rintro m l W ⟨k, fl, rp, rg, f, x, u1, u2, u3, Kk, ns, hk9, rfl, hfl, hcur, rfl, hns, hAm, HN, HX, hnl, hS⟩
       refine seqF ?_
       refine seqF (regF ?_)
       refine op_field (o' := 3) fa_56_3 rfl rfl rfl ?_
       refine op_load Try.isAgg30 rfl (cell_own (hS.at_ 0 rfl) rfl) rfl ?_
       refine op_len Try.underlying30 rfl rfl ?_
       refine op_gtr rfl rfl rfl ?_
       refine endF (XF.thenN ?_)
       refine condF rfl (fun hc => ?_) (fun hc => ?_)
       ·have hc96 := of_decide_eq_true hc; clear hc
        have hk2 : k + 2 < ws0.length := by omega
        obtain ⟨wb, wo, rfl, hcell⟩ : ∃ b o, wa0 = some ⟨b, o, none⟩ ∧ ∀ j, j < ws0.length → w.cell? ⟨b, o + j, none⟩ = some (.int .i64 (ws0.getD j 0)) := by
         rcases hrw with h | ⟨b, o, h, hc⟩
         ·rw [h] at hk2; simp at hk2
         ·exact ⟨b, o, h, hc⟩
        refine skipF ?_
        refine XF.thenN ?_
        refine blockF ?_
        refine seqF ?_
        refine regB (m := 8) followsM hS (by kernel_rfl) (by kernel_rfl) rfl ?_
        refine bl_cons 1 rfl (isV _) (stab_isV _) (rgV (li := [(9, _)]) rfl (w_free rfl) ⟨g_fr (by kernel_rfl) rfl, trivial⟩ (fun w hw => rn_field (o' := 0) fa_40_0 rfl rfl) (at_top rfl)) ?_
        refine bl_cons 2 rfl (isV _) (stab_isV _) (rgV (li := [(97, _)]) rfl (w_free rfl) ⟨g_dep 0 (by kernel_rfl) (at_dep rfl rfl rfl), trivial⟩ (fun w hw => rn_field (o' := 3) fa_28_1 rfl rfl) (at_top rfl)) ?_
        refine bl_cons 3 rfl (isV _) (stab_isV _) (rgV (li := [(98, _)]) rfl (w_free rfl) ⟨g_dep 1 (by kernel_rfl) (at_dep rfl rfl rfl), trivial⟩ (fun w hw => rn_load Try.isAgg3 rfl ((below_agree hw 0).cell (Nat.zero_le _) (cell_own (hS.at_ 1 rfl) rfl))) (at_top rfl)) ?_
        refine bl_cons 4 rfl (isV _) (stab_isV _) (rgV (li := [(9, _)]) rfl (w_free rfl) ⟨g_fr (by kernel_rfl) rfl, trivial⟩ (fun w hw => rn_field (o' := 0) fa_40_0 rfl rfl) (at_top rfl)) ?_
        refine bl_cons 5 rfl (isV _) (stab_isV _) (rgV (li := [(100, _)]) rfl (w_free rfl) ⟨g_dep 3 (by kernel_rfl) (at_dep rfl rfl rfl), trivial⟩ (fun w hw => rn_field (o' := 4) fa_28_2 rfl rfl) (at_top rfl)) ?_
        refine bl_cons 6 rfl (isV _) (stab_isV _) (rgV (li := [(101, _)]) rfl (w_free rfl) ⟨g_dep 4 (by kernel_rfl) (at_dep rfl rfl rfl), trivial⟩ (fun w hw => rn_load Try.isAgg3 rfl ((below_agree hw 0).cell (Nat.zero_le _) (cell_own (hS.at_ 1 rfl) rfl))) (at_top rfl)) ?_
        refine bl_cons 7 rfl (isV _) (stab_isV _) (rgV (li := [(99, _)]) rfl (w_free rfl) ⟨g_dep 2 (by kernel_rfl) (at_dep rfl rfl rfl), trivial⟩ (fun w hw => rn_assign rfl) (at_top rfl)) ?_
        refine bl_cons 8 rfl (isV _) (stab_isV _) (rgV (li := [(102, _)]) rfl (w_free rfl) ⟨g_dep 5 (by kernel_rfl) (at_dep rfl rfl rfl), trivial⟩ (fun w hw => rn_assign rfl) (at_top rfl)) ?_
        refine bl_nil ?_
        intro W15 hbR hS'
        clear hS; have hS := hS'; clear hS'
        refine fin_v ?_
        refine fin_v ?_
        refine fin_v ?_
        refine fin_v ?_
        refine fin_v ?_
        refine fin_v ?_
        refine fin_v ?_
        refine fin_v ?_
        refine fin_nil ?_
        refine XF.thenN ?_
        refine seqF (regF ?_)
        refine op_field (o' := 0) fa_40_0 rfl rfl rfl ?_
        refine op_field (o' := 3) fa_28_1 rfl rfl rfl ?_
        refine op_load Try.isAgg3 rfl (cell_own (hS.at_ 1 rfl) rfl) rfl ?_
        refine op_add rfl rfl (IntWalk.i64_in _ (by omega)) rfl ?_
        refine op_field (o' := 0) fa_40_0 rfl rfl rfl ?_
        refine op_field (o' := 3) fa_28_1 rfl rfl rfl ?_
        refine op_store (i := 1) (cs' := [_, _, _, _, _, _, _, _]) (O' := [_, _, _, _, _]) hS Try.sizeOf3 rfl rfl (by first | rfl | exact (hS.oneV 0 _ rfl :) | exact (hS.oneV 1 _ rfl :) | exact (hS.oneV 2 _ rfl :) | exact (hS.oneV 3 _ rfl :)) rfl rfl rfl rfl ?_
        clear hS; intro W16 hS
        refine endF (XF.thenN ?_)
        refine seqF (regF ?_)
        refine op_field (o' := 0) fa_40_0 rfl rfl rfl ?_
        refine op_field (o' := 4) fa_28_2 rfl rfl rfl ?_
        refine op_load Try.isAgg3 rfl (cell_own (hS.at_ 1 rfl) rfl) rfl ?_
        refine op_add rfl rfl (IntWalk.i64_in _ (by omega)) rfl ?_
        refine op_field (o' := 0) fa_40_0 rfl rfl rfl ?_
        refine op_field (o' := 4) fa_28_2 rfl rfl rfl ?_
        refine op_store (i := 1) (cs' := [_, _, _, _, _, _, _, _]) (O' := [_, _, _, _, _]) hS Try.sizeOf3 rfl rfl (by first | rfl | exact (hS.oneV 0 _ rfl :) | exact (hS.oneV 1 _ rfl :) | exact (hS.oneV 2 _ rfl :) | exact (hS.oneV 3 _ rfl :)) rfl rfl rfl rfl ?_
        clear hS; intro W17 hS
        refine endF (XF.thenN ?_)
        refine seqF ?_
        have k16 : W17.cell? ⟨wb, wo + (ws0.length - k - 1) * 1, none⟩ = some (.int .i64 (ws0.getD (ws0.length - 1 - k) 0)) := by rw [Nat.mul_one, show ws0.length - 1 - k = ws0.length - k - 1 by omega]; exact hS.old (hcell (ws0.length - k - 1) (by omega))
        refine regBPC (p := 22) (k := 25) (gi := 0) (m := 1) followsM hS rfl rfl (by kernel_rfl) (by kernel_rfl) (by kernel_rfl) (fun d hd => by cases hd) rfl rfl Try.underlying26 inf_56 rfl rfl (by show 0 < 10; decide) rfl rfl rfl (by dsimp only; simp only [maxLen]; omega) (by dsimp only; show _ * 144 ≤ _; omega) ?_
        refine blp_v 1 rfl rfl (by kernel_rfl) (rgV (li := [(9, _)]) rfl (w_free rfl) ⟨g_fr (by kernel_rfl) rfl, trivial⟩ (fun w hw => rn_field (o' := 0) fa_40_0 rfl rfl) (at_top rfl)) ?_
        refine blp_v 2 rfl rfl (by kernel_rfl) (rgV (li := [(115, _)]) rfl (w_free rfl) ⟨g_dep 0 (by kernel_rfl) (at_dep rfl rfl rfl), trivial⟩ (fun w hw => rn_field (o' := 5) fa_28_3 rfl rfl) (at_top rfl)) ?_
        refine blp_v 3 rfl rfl (by kernel_rfl) (rgV (li := [(116, _)]) rfl (w_free rfl) ⟨g_dep 1 (by kernel_rfl) (at_dep rfl rfl rfl), trivial⟩ (fun w hw => rn_load Try.isAgg26 rfl ((below_agree hw 0).cell (Nat.zero_le _) (cell_own (hS.at_ 1 rfl) rfl))) (at_top rfl)) ?_
        refine blp_v 4 rfl rfl (by kernel_rfl) (rgV (li := [(11, _)]) rfl (w_free rfl) ⟨g_fr (by kernel_rfl) rfl, trivial⟩ (fun w hw => rn_field (o' := 0) fa_56_0 rfl rfl) (at_top rfl)) ?_
        refine blp_v 5 rfl rfl (by kernel_rfl) (rgV (li := [(118, _)]) rfl (w_free rfl) ⟨g_dep 3 (by kernel_rfl) (at_dep rfl rfl rfl), trivial⟩ (fun w hw => rn_load Try.isAgg3 rfl ((below_agree hw 0).cell (Nat.zero_le _) (cell_own (hS.at_ 0 rfl) rfl))) (at_top rfl)) ?_
        refine blp_v 6 rfl rfl (by kernel_rfl) (rgV (li := [(11, _)]) rfl (w_free rfl) ⟨g_fr (by kernel_rfl) rfl, trivial⟩ (fun w hw => rn_field (o' := 1) fa_56_1 rfl rfl) (at_top rfl)) ?_
        refine blp_v 7 rfl rfl (by kernel_rfl) (rgV (li := [(120, _)]) rfl (w_free rfl) ⟨g_dep 5 (by kernel_rfl) (at_dep rfl rfl rfl), trivial⟩ (fun w hw => rn_load Try.isAgg3 rfl ((below_agree hw 0).cell (Nat.zero_le _) (cell_own (hS.at_ 0 rfl) rfl))) (at_top rfl)) ?_
        refine blp_v 8 rfl rfl (by kernel_rfl) (rgV (li := [(13, _)]) rfl (w_free rfl) ⟨g_fr (by kernel_rfl) rfl, trivial⟩ (fun w hw => rn_move rfl) (at_top rfl)) ?_
        refine blp_v 9 rfl rfl (by kernel_rfl) (rgV (li := [(14, _)]) rfl (w_free rfl) ⟨g_fr (by kernel_rfl) rfl, trivial⟩ (fun w hw => rn_move rfl) (at_top rfl)) ?_
        refine blp_v 10 rfl rfl (by kernel_rfl) (rgV (li := [(11, _)]) rfl (w_free rfl) ⟨g_fr (by kernel_rfl) rfl, trivial⟩ (fun w hw => rn_field (o' := 3) fa_56_3 rfl rfl) (at_top rfl)) ?_
        refine blp_v 11 rfl rfl (by kernel_rfl) (rgV (li := [(124, _)]) rfl (w_free rfl) ⟨g_dep 9 (by kernel_rfl) (at_dep rfl rfl rfl), trivial⟩ (fun w hw => rn_load Try.isAgg30 rfl ((below_agree hw 0).cell (Nat.zero_le _) (cell_own (hS.at_ 0 rfl) rfl))) (at_top rfl)) ?_
        refine blp_v 12 rfl rfl (by kernel_rfl) (rgV (li := [(11, _)]) rfl (w_free rfl) ⟨g_fr (by kernel_rfl) rfl, trivial⟩ (fun w hw => rn_field (o' := 3) fa_56_3 rfl rfl) (at_top rfl)) ?_
        refine blp_v 13 rfl rfl (by kernel_rfl) (rgV (li := [(126, _)]) rfl (w_free rfl) ⟨g_dep 11 (by kernel_rfl) (at_dep rfl rfl rfl), trivial⟩ (fun w hw => rn_load Try.isAgg30 rfl ((below_agree hw 0).cell (Nat.zero_le _) (cell_own (hS.at_ 0 rfl) rfl))) (at_top rfl)) ?_
        refine blp_v 14 rfl rfl (by kernel_rfl) (rgV (li := [(127, _)]) rfl (w_free rfl) ⟨g_dep 12 (by kernel_rfl) (at_dep rfl rfl rfl), trivial⟩ (fun w hw => rn_len Try.underlying30 rfl) (at_top rfl)) ?_
        refine blp_v 15 rfl rfl (by kernel_rfl) (rgV (li := [(128, _)]) rfl (w_free rfl) ⟨g_dep 13 (by kernel_rfl) (at_dep rfl rfl rfl), trivial⟩ (fun w hw => rn_sub rfl rfl (IntWalk.i64_in _ (by omega))) (at_top rfl)) ?_
        refine blp_v 16 rfl rfl (by kernel_rfl) (rgV (li := [(125, _), (129, _)]) rfl (w_free rfl) ⟨g_dep 10 (by kernel_rfl) (at_dep rfl rfl rfl), g_dep 14 (by kernel_rfl) (at_dep rfl rfl rfl), trivial⟩ (fun w hw => rn_indexA (j := ws0.length - k - 1) Try.underlying30 Try.sizeOf3 rfl rfl (by omega) (by omega) rfl) (at_top rfl)) ?_
        refine blp_v 17 rfl rfl (by kernel_rfl) (rgV (li := [(130, _)]) rfl (w_free rfl) ⟨g_dep 15 (by kernel_rfl) (at_dep rfl rfl rfl), trivial⟩ (fun w hw => rn_load Try.isAgg3 rfl ((below_agree hw 0).cell (Nat.zero_le _) (k16))) (at_top rfl)) ?_
        refine blp_q 18 rfl rfl (by kernel_rfl) (isRow W17.heap.size 2 3 _) (stab_isRow) (rg_rowV (us := [.int .i64 _, .int .i64 _]) rfl (w_free rfl) Try.underlying30 Try.sizeOf3 Try.zeroValue3 rfl rfl ⟨p_tmp (g_dep 8 (by kernel_rfl) (at_dep rfl rfl rfl)), p_tmp (g_dep 16 (by kernel_rfl) (at_dep rfl rfl rfl)), trivial⟩ (bs_30_2 _ _) (at_top rfl)) ?_
        refine blp_v 19 rfl rfl (by kernel_rfl) (rgV (li := [(11, _)]) rfl (w_free rfl) ⟨g_fr (by kernel_rfl) rfl, trivial⟩ (fun w hw => rn_field (o' := 4) fa_56_4 rfl rfl) (at_top rfl)) ?_
        refine blp_v 20 rfl rfl (by kernel_rfl) (rgV (li := [(133, _)]) rfl (w_free rfl) ⟨g_dep 18 (by kernel_rfl) (at_dep rfl rfl rfl), trivial⟩ (fun w hw => rn_loadA (vs := [_, _, _, _, _, _]) Try.isAgg54 Try.sizeOf54 rfl (CellsAt.agree (below_agree hw 0) (Nat.zero_le _) (CellsAt.own (j := 4) (m := 6) (hS.at_ 0 rfl) rfl))) (at_top rfl)) ?_
        refine blp_q 21 rfl rfl (by kernel_rfl) (isRuleP W17.heap.size rp rg (st + (moreF (rs.take i) : Int) + (k : Int)) (sy + (moreF (rs.take i) : Int) + (k : Int)) (ws0.getD (ws0.length - 1 - k) 0) f) (stab_ruleP) (rgPs [(4, 119, isV _), (6, 121, isV _), (7, 122, isV _), (17, 132, isRow W17.heap.size 2 3 [.int .i64 (sy + (moreF (rs.take i) : Int) + (k : Int)), .int .i64 (ws0.getD (ws0.length - 1 - k) 0)]), (19, 134, isV f.val)] rfl ⟨⟨by kernel_rfl, at_dep rfl rfl rfl⟩, ⟨by kernel_rfl, at_dep rfl rfl rfl⟩, ⟨by kernel_rfl, at_dep rfl rfl rfl⟩, ⟨by kernel_rfl, at_dep rfl rfl rfl⟩, ⟨by kernel_rfl, at_dep rfl rfl rfl⟩, trivial⟩ bld_ruleP (at_top rfl)) ?_
        refine blp_q 22 rfl rfl (by kernel_rfl) (isRuleRow W17.heap.size rp rg (st + (moreF (rs.take i) : Int) + (k : Int)) (sy + (moreF (rs.take i) : Int) + (k : Int)) (ws0.getD (ws0.length - 1 - k) 0) f) (stab_ruleRow) (rg_ruleRow rfl (g_dep 20 (by kernel_rfl) (at_dep rfl rfl rfl)) (at_top rfl)) ?_
        refine blp_app 23 rfl rfl ?_
        refine blp_late 24 rfl rfl (rgV (li := [(9, _)]) rfl (w_free rfl) ⟨g_fr (by kernel_rfl) rfl, trivial⟩ (fun w hw => rn_field (o' := 0) fa_40_0 rfl rfl) (at_top rfl)) (lgV (li := [(9, _)]) rfl (w_free rfl) ⟨g_fr (by kernel_rfl) rfl, trivial⟩ (fun w => rn_field (o' := 0) fa_40_0 rfl rfl) (at_top rfl) rfl) ?_
        refine blp_late 25 rfl rfl (rgV (li := [(138, _)]) rfl (w_free rfl) ⟨g_dep 23 (by kernel_rfl) (at_dep rfl rfl rfl), trivial⟩ (fun w hw => rn_field (o' := 5) fa_28_3 rfl rfl) (at_top rfl)) (lgV (li := [(138, _)]) rfl (w_free rfl) ⟨g_dep 23 (by kernel_rfl) (at_dep rfl rfl rfl), trivial⟩ (fun w => rn_field (o' := 5) fa_28_3 rfl rfl) (at_top rfl) rfl) ?_
        refine blp_nil ⟨_, _, g_dep 2 (by kernel_rfl) (at_dep rfl rfl rfl), g_dep 21 (by kernel_rfl) (at_dep rfl rfl rfl), rowOf_rule9, ?_⟩
        intro A18 v18 news18 W18 hbR hqA18 hS'
        clear hS; have hS := hS'; clear hS'
        have hqN := hqA18
        refine fin_v ?_
        refine fin_v ?_
        refine fin_v ?_
        refine fin_v ?_
        refine fin_v ?_
        refine fin_v ?_
        refine fin_v ?_
        refine fin_v ?_
        refine fin_v ?_
        refine fin_v ?_
        refine fin_v ?_
        refine fin_v ?_
        refine fin_v ?_
        refine fin_v ?_
        refine fin_v ?_
        refine fin_v ?_
        refine fin_v ?_
        refine fin_p ?_; intro _ _
        refine fin_v ?_
        refine fin_v ?_
        refine fin_p ?_; intro _ _
        refine fin_p ?_; intro _ _
        refine fin_v ?_
        refine fin_v ?_
        refine fin_v ?_
        obtain ⟨Bn, rfl, hBn1, hBn2⟩ := hqN
        have HRn : Held w ((W17.heap.size, A18) :: Kk) (fun W2 => ROk S W2 ⟨(i : Int), fl, rp, rg, st + (moreF (rs.take i) : Int) + (k : Int), some ⟨Bn, 0, none⟩, 2, [sy + (moreF (rs.take i) : Int) + (k : Int), ws0.getD (ws0.length - 1 - k) 0], f, x⟩) := fun h2 hk => ⟨row_own ((((h2.kept (W17.heap.size, A18) (hk _ List.mem_cons_self)).1).2 Bn hBn1 (lt_of_heap hBn2)).trans hBn2), by simp, HX h2 (fun q hq => hk q (List.mem_cons_of_mem _ hq))⟩
        refine fin_nil ?_
        refine op_store (i := 1) (cs' := [_, _, _, _, _, _, _, _]) (O' := [_, _, _, _, _]) hS Try.sizeOf26 rfl rfl (by first | rfl | exact (hS.oneV 0 _ rfl :) | exact (hS.oneV 1 _ rfl :) | exact (hS.oneV 2 _ rfl :) | exact (hS.oneV 3 _ rfl :)) rfl rfl rfl rfl ?_
        clear hS; intro W19 hS
        refine endF (XF.thenN ?_)
        refine seqF (regF ?_)
        refine op_field (o' := 6) fa_40_1 rfl rfl rfl ?_
        refine op_load Try.isAgg30 rfl (cell_own (hS.at_ 1 rfl) rfl) rfl ?_
        refine op_move rfl rfl ?_
        refine op_buildSlice (us := [(0, .int .i64 _)]) hS Try.underlying30 Try.sizeOf3 Try.zeroValue3 rfl rfl rfl (bs_30_1 _) rfl ?_
        clear hS; intro B20 W20 hS
        refine op_append (i := 1) (news := [_]) hS Try.underlying30 inf_3 rfl rfl (by show 0 < 1; decide) rfl rfl rfl rfl rfl (CellsAt.own (j := 0) (m := 1) (hS.at_ 0 rfl) rfl) rfl rfl (by dsimp only; simp only [maxLen]; omega) (by dsimp only; show _ * 8 ≤ _; omega) rfl ?_
        clear hS; intro v21 W21 hS
        refine op_field (o' := 6) fa_40_1 rfl rfl rfl ?_
        refine op_store (i := 2) (cs' := [_, _, _, _, _, _, _, _]) (O' := [_, _, _, _, _, _]) hS Try.sizeOf30 rfl rfl (by first | rfl | exact (hS.oneV 0 _ rfl :) | exact (hS.oneV 1 _ rfl :) | exact (hS.oneV 2 _ rfl :) | exact (hS.oneV 3 _ rfl :)) rfl rfl rfl rfl ?_
        clear hS; intro W22 hS
        refine endF (XF.thenN ?_)
        refine seqF (regF ?_)
        refine op_field (o' := 7) fa_40_2 rfl rfl rfl ?_
        refine op_load Try.isAgg38 rfl (cell_own (hS.at_ 2 rfl) rfl) rfl ?_
        refine op_move rfl rfl ?_
        refine op_buildSlice (us := [(0, .bool _)]) hS Try.underlying38 Try.sizeOf4 Try.zeroValue4 rfl rfl rfl (bs_38_1 _) rfl ?_
        clear hS; intro B23 W23 hS
        refine op_append (i := 2) (news := [_]) hS Try.underlying38 inf_4 rfl rfl (by show 0 < 1; decide) rfl rfl rfl rfl rfl (CellsAt.own (j := 0) (m := 1) (hS.at_ 0 rfl) rfl) rfl rfl (by dsimp only; simp only [maxLen]; omega) (by dsimp only; show _ * 1 ≤ _; omega) rfl ?_
        clear hS; intro v24 W24 hS
        refine op_field (o' := 7) fa_40_2 rfl rfl rfl ?_
        refine op_store (i := 3) (cs' := [_, _, _, _, _, _, _, _]) (O' := [_, _, _, _, _, _, _]) hS Try.sizeOf38 rfl rfl (by first | rfl | exact (hS.oneV 0 _ rfl :) | exact (hS.oneV 1 _ rfl :) | exact (hS.oneV 2 _ rfl :) | exact (hS.oneV 3 _ rfl :)) rfl rfl rfl rfl ?_
        clear hS; intro W25 hS
        refine endF (XF.thenN ?_)
        refine seqF (regF ?_)
        refine op_assign rfl rfl ?_
        refine endF (XF.thenN ?_)
        refine regBK followsM 13 hS rfl rfl (by kernel_rfl) (by kernel_rfl) (by kernel_rfl) (fun d hd => by cases hd) ?_
        refine bl_cons 1 rfl (isV _) (stab_isV _) (rgV (li := [(13, _)]) rfl (w_free rfl) ⟨g_fr (by kernel_rfl) rfl, trivial⟩ (fun w hw => rn_move rfl) (at_top rfl)) ?_
        refine bl_cons 2 rfl (isV _) (stab_isV _) (rgV (li := [(14, _)]) rfl (w_free rfl) ⟨g_fr (by kernel_rfl) rfl, trivial⟩ (fun w hw => rn_move rfl) (at_top rfl)) ?_
        refine bl_cons 3 rfl (isV _) (stab_isV _) (rgV (li := [(11, _)]) rfl (w_free rfl) ⟨g_fr (by kernel_rfl) rfl, trivial⟩ (fun w hw => rn_field (o' := 2) fa_56_2 rfl rfl) (at_top rfl)) ?_
        refine bl_cons 4 rfl (isV _) (stab_isV _) (rgV (li := [(154, _)]) rfl (w_free rfl) ⟨g_dep 2 (by kernel_rfl) (at_dep rfl rfl rfl), trivial⟩ (fun w hw => rn_load Try.isAgg3 rfl ((below_agree hw 0).cell (Nat.zero_le _) (cell_own (hS.at_ 2 rfl) rfl))) (at_top rfl)) ?_
        refine bl_cons 5 rfl (isV _) (stab_isV _) (rgV (li := [(11, _)]) rfl (w_free rfl) ⟨g_fr (by kernel_rfl) rfl, trivial⟩ (fun w hw => rn_field (o' := 3) fa_56_3 rfl rfl) (at_top rfl)) ?_
        refine bl_cons 6 rfl (isV _) (stab_isV _) (rgV (li := [(156, _)]) rfl (w_free rfl) ⟨g_dep 4 (by kernel_rfl) (at_dep rfl rfl rfl), trivial⟩ (fun w hw => rn_load Try.isAgg30 rfl ((below_agree hw 0).cell (Nat.zero_le _) (cell_own (hS.at_ 2 rfl) rfl))) (at_top rfl)) ?_
        refine bl_cons 7 rfl (isV _) (stab_isV _) (rgV (li := [(11, _)]) rfl (w_free rfl) ⟨g_fr (by kernel_rfl) rfl, trivial⟩ (fun w hw => rn_field (o' := 3) fa_56_3 rfl rfl) (at_top rfl)) ?_
        refine bl_cons 8 rfl (isV _) (stab_isV _) (rgV (li := [(158, _)]) rfl (w_free rfl) ⟨g_dep 6 (by kernel_rfl) (at_dep rfl rfl rfl), trivial⟩ (fun w hw => rn_load Try.isAgg30 rfl ((below_agree hw 0).cell (Nat.zero_le _) (cell_own (hS.at_ 2 rfl) rfl))) (at_top rfl)) ?_
        refine bl_cons 9 rfl (isV _) (stab_isV _) (rgV (li := [(159, _)]) rfl (w_free rfl) ⟨g_dep 7 (by kernel_rfl) (at_dep rfl rfl rfl), trivial⟩ (fun w hw => rn_len Try.underlying30 rfl) (at_top rfl)) ?_
        refine bl_cons 10 rfl (isV _) (stab_isV _) (rgV (li := [(160, _)]) rfl (w_free rfl) ⟨g_dep 8 (by kernel_rfl) (at_dep rfl rfl rfl), trivial⟩ (fun w hw => rn_sub rfl rfl (IntWalk.i64_in _ (by omega))) (at_top rfl)) ?_
        refine bl_cons 11 rfl (isV _) (stab_isV _) (rgV (li := [(157, _), (161, _)]) rfl (w_free rfl) ⟨g_dep 5 (by kernel_rfl) (at_dep rfl rfl rfl), g_dep 9 (by kernel_rfl) (at_dep rfl rfl rfl), trivial⟩ (fun w hw => rn_sliceTo (k := ws0.length - k - 1) Try.underlying30 Try.sizeOf3 rfl rfl (by omega) (by omega) (by omega) (fun p hp => ⟨wb, wo, (Option.some.inj hp).symm⟩)) (at_top rfl)) ?_
        refine bl_cons 12 rfl (isV _) (stab_isV _) (rgV (li := [(5, _)]) rfl (w_free rfl) ⟨g_fr (by kernel_rfl) rfl, trivial⟩ (fun w hw => rn_loadA (vs := [_, _, _, _, _, _]) Try.isAgg54 Try.sizeOf54 rfl (CellsAt.agree (below_agree hw 0) (Nat.zero_le _) (CellsAt.own (j := 0) (m := 6) (hS.at_ 4 rfl) rfl))) (at_top rfl)) ?_
        refine bl_cons 13 rfl (isV _) (stab_isV _) (rgV (li := [(152, _), (153, _), (155, _), (162, _), (163, _)]) rfl (w_free rfl) ⟨g_dep 0 (by kernel_rfl) (at_dep rfl rfl rfl), g_dep 1 (by kernel_rfl) (at_dep rfl rfl rfl), g_dep 3 (by kernel_rfl) (at_dep rfl rfl rfl), g_dep 10 (by kernel_rfl) (at_dep rfl rfl rfl), g_dep 11 (by kernel_rfl) (at_dep rfl rfl rfl), trivial⟩ (fun w hw => rn_build (us := [(0, .int .i64 _), (1, .int .i64 _), (2, .int .i64 _), (3, .slice _ _ _), (4, .agg (List.toArray [_, _, _, _, _, _]))]) rfl (bld_56_0_1_2_3_4 _ _ _ _ _ _ _ _ _ _ _ _)) (at_top rfl)) ?_
        refine bl_nil ?_
        intro W26 hbR hS'
        clear hS; have hS := hS'; clear hS'
        refine fin_v ?_
        refine fin_v ?_
        refine fin_v ?_
        refine fin_v ?_
        refine fin_v ?_
        refine fin_v ?_
        refine fin_v ?_
        refine fin_v ?_
        refine fin_v ?_
        refine fin_v ?_
        refine fin_v ?_
        refine fin_v ?_
        refine fin_v ?_
        refine fin_nil ?_
        refine op_storeA (i := 2) (vs := [_, _, _, _, _, _, _, _, _, _]) (cs' := [_, _, _, _, _, _, _, _, _, _]) (O' := [_, _, _, _, _, _, _]) hS Try.sizeOf56 rfl rfl (by first | rfl | (have h0 := hS.oneV 0 _ rfl; have h1 := hS.oneV 1 _ rfl; have h2 := hS.oneV 2 _ rfl; simp only [List.all_cons, List.all_nil, Bool.and_true, Bool.and_eq_true]; exact ⟨rfl, rfl, rfl, rfl, rfl, h0, h1, h2⟩)) rfl rfl rfl rfl ?_
        clear hS; intro W27 hS
        refine endF ?_
        refine XF.blkN ?_
        exact XF.round (ws0.length - 2 - (k + 1)) [(1, _), (2, _), (3, _), (5, _), (9, _), (10, _), (11, _), (12, _)] (by omega) ⟨rfl, rfl, rfl, rfl, rfl, rfl, rfl, rfl, trivial⟩ ⟨k + 1, false, st + (moreF (rs.take i) : Int) + (k : Int), sy + (moreF (rs.take i) : Int) + (k : Int), fO, oneX S, v18, v21, v24, _, ns ++ [⟨(i : Int), fl, rp, rg, st + (moreF (rs.take i) : Int) + (k : Int), some ⟨Bn, 0, none⟩, 2, [sy + (moreF (rs.take i) : Int) + (k : Int), ws0.getD (ws0.length - 1 - k) 0], f, x⟩], by omega, rfl, by simp, rfl, rfl, by rw [List.map_append, hns, headsF_succ, hcur, ← hfl, List.append_assoc]; rfl, by simp [hAm], (fun h2 hk r hr => by
          rcases List.mem_append.1 hr with hr | hr
          ·exact HN h2 (fun q hq => hk q (by simp [hq])) r hr
          ·rw [List.mem_singleton.1 hr]; exact HRn h2 (fun q hq => hk q (by rcases List.mem_cons.1 hq with rfl | hq <;> simp [*]))), HO.more (fun q hq => by simp at hq; subst hq; simp [hAm]), by simp [hnl, Nat.add_assoc], (hS.tail.tail.castO (by simp [Int.add_assoc, Nat.sub_sub])).castG (by simp)⟩
       ·have hc96 := of_decide_eq_false hc; clear hc
        obtain rfl : k = ws0.length - 2 := by omega
        refine exitF ?_
        refine XF.thenX ?_
        refine XF.thenX ?_
        refine XF.blkX ?_
        refine XF.thenN ?_
        refine seqF (regF ?_)
        refine op_field (o' := 0) fa_40_0 rfl rfl rfl ?_
        refine op_field (o' := 5) fa_28_3 rfl rfl rfl ?_
        refine op_load Try.isAgg26 rfl (cell_own (hS.at_ 1 rfl) rfl) rfl ?_
        refine op_loadA (vs := [_, _, _, _, _, _, _, _, _, _]) Try.isAgg56 Try.sizeOf56 rfl (CellsAt.own (j := 0) (m := 10) (hS.at_ 0 rfl) rfl) rfl ?_
        refine op_buildSlice (us := [(0, .agg (List.toArray [_, _, _, _, _, _, _, _, _, _]))]) hS Try.underlying26 Try.sizeOf56 Try.zeroValue56 rfl rfl rfl (bs_26_1 _ _ _ _ _ _ _ _ _ _) rfl ?_
        clear hS; intro B28 W28 hS
        refine op_append (i := 0) (news := [_, _, _, _, _, _, _, _, _, _]) hS Try.underlying26 inf_56 rfl rfl (by show 0 < 10; decide) rfl rfl rfl rfl rfl (CellsAt.own (j := 0) (m := 10) (hS.at_ 0 rfl) rfl) rfl rfl (by dsimp only; simp only [maxLen]; omega) (by dsimp only; show _ * 144 ≤ _; omega) rfl ?_
        clear hS; intro v29 W29 hS
        refine op_field (o' := 0) fa_40_0 rfl rfl rfl ?_
        refine op_field (o' := 5) fa_28_3 rfl rfl rfl ?_
        refine op_store (i := 2) (cs' := [_, _, _, _, _, _, _, _]) (O' := [_, _, _, _, _, _]) hS Try.sizeOf26 rfl rfl (by first | rfl | exact (hS.oneV 0 _ rfl :) | exact (hS.oneV 1 _ rfl :) | exact (hS.oneV 2 _ rfl :) | exact (hS.oneV 3 _ rfl :)) rfl rfl rfl rfl ?_
        clear hS; intro W30 hS
        refine endF (XF.thenN ?_)
        refine seqF (regF ?_)
        refine op_field (o' := 6) fa_40_1 rfl rfl rfl ?_
        refine op_load Try.isAgg30 rfl (cell_own (hS.at_ 2 rfl) rfl) rfl ?_
        refine op_move rfl rfl ?_
        refine op_buildSlice (us := [(0, .int .i64 _)]) hS Try.underlying30 Try.sizeOf3 Try.zeroValue3 rfl rfl rfl (bs_30_1 _) rfl ?_
        clear hS; intro B31 W31 hS
        refine op_append (i := 1) (news := [_]) hS Try.underlying30 inf_3 rfl rfl (by show 0 < 1; decide) rfl rfl rfl rfl rfl (CellsAt.own (j := 0) (m := 1) (hS.at_ 0 rfl) rfl) rfl rfl (by dsimp only; simp only [maxLen]; omega) (by dsimp only; show _ * 8 ≤ _; omega) rfl ?_
        clear hS; intro v32 W32 hS
        refine op_field (o' := 6) fa_40_1 rfl rfl rfl ?_
        refine op_store (i := 3) (cs' := [_, _, _, _, _, _, _, _]) (O' := [_, _, _, _, _, _, _]) hS Try.sizeOf30 rfl rfl (by first | rfl | exact (hS.oneV 0 _ rfl :) | exact (hS.oneV 1 _ rfl :) | exact (hS.oneV 2 _ rfl :) | exact (hS.oneV 3 _ rfl :)) rfl rfl rfl rfl ?_
        clear hS; intro W33 hS
        refine endF (XF.thenN ?_)
        refine regF ?_
        refine op_field (o' := 7) fa_40_2 rfl rfl rfl ?_
        refine op_load Try.isAgg38 rfl (cell_own (hS.at_ 3 rfl) rfl) rfl ?_
        refine op_move rfl rfl ?_
        refine op_buildSlice (us := [(0, .bool _)]) hS Try.underlying38 Try.sizeOf4 Try.zeroValue4 rfl rfl rfl (bs_38_1 _) rfl ?_
        clear hS; intro B34 W34 hS
        refine op_append (i := 2) (news := [_]) hS Try.underlying38 inf_4 rfl rfl (by show 0 < 1; decide) rfl rfl rfl rfl rfl (CellsAt.own (j := 0) (m := 1) (hS.at_ 0 rfl) rfl) rfl rfl (by dsimp only; simp only [maxLen]; omega) (by dsimp only; show _ * 1 ≤ _; omega) rfl ?_
        clear hS; intro v35 W35 hS
        refine op_field (o' := 7) fa_40_2 rfl rfl rfl ?_
        refine op_store (i := 4) (cs' := [_, _, _, _, _, _, _, _]) (O' := [_, _, _, _, _, _, _, _]) hS Try.sizeOf38 rfl rfl (by first | rfl | exact (hS.oneV 0 _ rfl :) | exact (hS.oneV 1 _ rfl :) | exact (hS.oneV 2 _ rfl :) | exact (hS.oneV 3 _ rfl :)) rfl rfl rfl rfl ?_
        clear hS; intro W36 hS
        refine endF ?_
        refine XF.blkN ?_
        refine XF.thenN ?_
        refine regF ?_
        refine op_move rfl rfl ?_
        refine op_add rfl rfl (IntWalk.i64_in _ (by omega)) rfl ?_
        refine op_assign rfl rfl ?_
        refine endF ?_
        have ez : st + (moreF (rs.take i) : Int) + ((ws0.length - 2 : Nat) : Int) = st + (moreF (rs.take (i + 1)) : Int) := by rw [hmr]; omega
        have ey : sy + (moreF (rs.take i) : Int) + ((ws0.length - 2 : Nat) : Int) = sy + (moreF (rs.take (i + 1)) : Int) := by rw [hmr]; omega
        rw [ez, ey] at hS
        have hmin : min (ws0.length - (ws0.length - 2)) ws0.length = ws0.length - (ws0.length - 2) := by omega
        exact XF.round (rl - (i + 1)) [(1, _), (2, _), (3, _), (5, _), (9, _), (10, _)] (by omega) ⟨rfl, rfl, rfl, rfl, rfl, rfl, trivial⟩ ⟨i + 1, _, _, _, _, ns ++ [⟨(i : Int), fl, rp, rg, q0, wa0, wc0, ws0.take (ws0.length - (ws0.length - 2)), f, x⟩], by omega, rfl, rfl, by rw [List.map_append, hns, hst9, parts_heads, hcur, ← hfl, List.append_assoc]; rfl, hAm, (fun h2 hk r hr => by
          rcases List.mem_append.1 hr with hr | hr
          ·exact HN h2 hk r hr
          ·rw [List.mem_singleton.1 hr]; exact ⟨row_take9 (hrw.below h2.below) _, by rw [List.length_take]; omega, HX h2 hk⟩), hS.tail.tail.tail.tail.castG (by simp [hmin])⟩
      ·have hc85 := of_decide_eq_false hc; clear hc
       have hil : i = rl := by omega
       rw [List.take_of_length_le (by omega)] at hS hns
       refine exitF ?_
       refine XF.thenX ?_
       refine XF.thenX ?_
       refine XF.blkX ?_
       refine XF.thenN ?_
       refine seqF (regF ?_)
       refine op_loadA (vs := [_, _, _, _, _, _, _, _]) Try.isAgg40 Try.sizeOf40 rfl (CellsAt.own (j := 0) (m := 8) (hS.at_ 0 rfl) rfl) rfl ?_
       refine op_storeA (i := 2) (vs := [_, _, _, _, _, _, _, _]) (cs' := [_, _, _, _, _, _, _, _]) (O' := [_, _, _, _]) hS Try.sizeOf40 rfl rfl (by first | rfl | (have h0 := hS.oneV 0 _ rfl; have h1 := hS.oneV 1 _ rfl; have h2 := hS.oneV 2 _ rfl; simp only [List.all_cons, List.all_nil, Bool.and_true, Bool.and_eq_true]; exact ⟨rfl, rfl, rfl, rfl, rfl, h0, h1, h2⟩)) rfl rfl rfl rfl ?_
       clear hS; intro W37 hS
       refine op_assign rfl rfl ?_
       refine endF (XF.thenN ?_)
       refine retF ?_
       refine XF.res (resCT (vs := [_, _, _, _, _, _, _, _]) Try.results14 Try.isAgg40 Try.sizeOf40 rfl (CellsAt.own (j := 0) (m := 8) (hS.at_ 2 rfl) rfl) rfl) ?_
       exact shOut_ok (p := ⟨s, st, sy, ra, rl, rc, rs⟩) hE hfew ⟨hok.ok, hok.si.below hS.below⟩ hns (HN hS (fun q hq => hq)) (by have h9 := shortF_len9 (p := ⟨s, st, sy, ra, rl, rc, rs⟩) (ds := ds) (d := d) ⟨hs, hprow, hplen, hin⟩ hfew hns; omega) (hS.row 0 rfl) (hS.row 1 rfl) (hS.row 2 rfl) hS.below
end Go.Proofs.Ytnhnedifekejpaa
namespace Go.Proofs.Ytnhnedifekejpaa
open Go Go.RowKit
theorem goes_35 : goesIn Try.prog 35 = true := by kernel_rfl
theorem psmall_step (fz : Bool) (fc : Int) (fg : Nat) (fra : Option Addr) (frl frc : Nat) (fca : Option Addr) (fcl fcc : Nat) (fpa : Option Addr) (fpl fpc : Nat) (ps : List WV) (dp : Int) (w : World) (hlen : ps.length = fpl) (hrow : PRow w fpa ps) (hd : 0 ≤ dp ∧ dp ≤ 4) (IH : ∀ y ∈ ps, ∀ (W : World) (d9 : Int), Below w.heap.size w W → 0 ≤ d9 ∧ d9 ≤ 4 → Calls Try.prog 35 #[y.f.val, .int .i64 d9] W fun e w2 => ∃ b, e = .returned (.bool b) ∧ Below W.heap.size W w2) :
  Calls Try.prog 35 #[.agg #[.bool fz, .int .i64 fc, .int .u64 (fg : Int), .slice fra frl frc, .slice fca fcl fcc, .slice fpa fpl fpc], .int .i64 dp] w (fun e w' => ∃ b, e = .returned (.bool b) ∧ Below w.heap.size w w') := by
 refine enterF (args := [.agg #[.bool fz, .int .i64 fc, .int .u64 (fg : Int), .slice fra frl frc, .slice fca fcl fcc, .slice fpa fpl fpc], .int .i64 dp]) Try.func35 rfl Try.ntmps35 rfl ?_
 have hS := St.start w
 refine seqF (regF ?_)
 refine op_box (cs := [_, _, _, _, _, _]) hS rfl rfl rfl ?_
 clear hS; intro B1 W1 hS
 refine op_assign rfl rfl ?_
 refine endF (XF.thenN ?_)
 refine seqF ?_
 refine seqF (regF ?_)
 refine op_field (o' := 2) fa_54_2 rfl rfl rfl ?_
 refine op_field (o' := 3) fa_50_1 rfl rfl rfl ?_
 refine op_load Try.isAgg48 rfl (cell_own (hS.at_ 0 rfl) rfl) rfl ?_
 refine op_len Try.underlying48 rfl rfl ?_
 refine op_gtr rfl rfl rfl ?_
 refine op_move rfl rfl ?_
 refine op_cases (d := 11) rfl (fun hc => ?_) (fun hc => ?_)
 ·have hg11 := of_decide_eq_true hc; clear hc
  refine op_notF (d := 11) rfl rfl rfl rfl ?_
  refine op_notF (d := 11) rfl rfl rfl rfl ?_
  refine op_notF (d := 11) rfl rfl rfl rfl ?_
  refine op_notF (d := 11) rfl rfl rfl rfl ?_
  refine op_pickT rfl rfl rfl ?_
  refine op_move rfl rfl ?_
  refine op_notF (d := 17) rfl rfl rfl rfl ?_
  refine op_notF (d := 17) rfl rfl rfl rfl ?_
  refine op_notF (d := 17) rfl rfl rfl rfl ?_
  refine op_notF (d := 17) rfl rfl rfl rfl ?_
  refine op_pickT rfl rfl rfl ?_
  refine op_move rfl rfl ?_
  refine op_notF (d := 23) rfl rfl rfl rfl ?_
  refine op_notF (d := 23) rfl rfl rfl rfl ?_
  refine op_pickT rfl rfl rfl ?_
  refine endF (XF.thenN ?_)
  refine condT rfl ?_
  refine seqF (regF ?_)
  refine op_assign rfl rfl ?_
  refine endF (XF.thenN ?_)
  refine retF ?_
  refine XF.thenR ?_
  refine XF.res (res1 Try.results35 rfl) ?_
  exact ⟨_, rfl, hS.below⟩
 ·have hg11 := of_decide_eq_false hc; clear hc
  refine op_wantedF (d := 11) rfl rfl ?_
  refine op_field (o' := 4) fa_54_3 rfl rfl rfl ?_
  refine op_wantedF (d := 11) rfl rfl ?_
  refine op_load Try.isAgg51 rfl (cell_own (hS.at_ 0 rfl) rfl) rfl ?_
  refine op_wantedF (d := 11) rfl rfl ?_
  refine op_len Try.underlying51 rfl rfl ?_
  refine op_wantedF (d := 11) rfl rfl ?_
  refine op_gtr rfl rfl rfl ?_
  refine op_pickF rfl rfl rfl ?_
  refine op_move rfl rfl ?_
  refine op_cases (d := 17) rfl (fun hc => ?_) (fun hc => ?_)
  ·have hg17 := of_decide_eq_true hc; clear hc
   refine op_notF (d := 17) rfl rfl rfl rfl ?_
   refine op_notF (d := 17) rfl rfl rfl rfl ?_
   refine op_notF (d := 17) rfl rfl rfl rfl ?_
   refine op_notF (d := 17) rfl rfl rfl rfl ?_
   refine op_pickT rfl rfl rfl ?_
   refine op_move rfl rfl ?_
   refine op_notF (d := 23) rfl rfl rfl rfl ?_
   refine op_notF (d := 23) rfl rfl rfl rfl ?_
   refine op_pickT rfl rfl rfl ?_
   refine endF (XF.thenN ?_)
   refine condT rfl ?_
   refine seqF (regF ?_)
   refine op_assign rfl rfl ?_
   refine endF (XF.thenN ?_)
   refine retF ?_
   refine XF.thenR ?_
   refine XF.res (res1 Try.results35 rfl) ?_
   exact ⟨_, rfl, hS.below⟩
  ·have hg17 := of_decide_eq_false hc; clear hc
   refine op_wantedF (d := 17) rfl rfl ?_
   refine op_field (o' := 5) fa_54_4 rfl rfl rfl ?_
   refine op_wantedF (d := 17) rfl rfl ?_
   refine op_load Try.isAgg52 rfl (cell_own (hS.at_ 0 rfl) rfl) rfl ?_
   refine op_wantedF (d := 17) rfl rfl ?_
   refine op_len Try.underlying52 rfl rfl ?_
   refine op_wantedF (d := 17) rfl rfl ?_
   refine op_gtr rfl rfl rfl ?_
   refine op_pickF rfl rfl rfl ?_
   refine op_move rfl rfl ?_
   refine op_cases (d := 23) rfl (fun hc => ?_) (fun hc => ?_)
   ·have hg23 := of_decide_eq_true hc; clear hc
    refine op_notF (d := 23) rfl rfl rfl rfl ?_
    refine op_notF (d := 23) rfl rfl rfl rfl ?_
    refine op_pickT rfl rfl rfl ?_
    refine endF (XF.thenN ?_)
    refine condT rfl ?_
    refine seqF (regF ?_)
    refine op_assign rfl rfl ?_
    refine endF (XF.thenN ?_)
    refine retF ?_
    refine XF.thenR ?_
    refine XF.res (res1 Try.results35 rfl) ?_
    exact ⟨_, rfl, hS.below⟩
   ·have hg23 := of_decide_eq_false hc; clear hc
    refine op_wantedF (d := 23) rfl rfl ?_
    refine op_move rfl rfl ?_
    refine op_wantedF (d := 23) rfl rfl ?_
    refine op_gtr rfl rfl rfl ?_
    refine op_pickF rfl rfl rfl ?_
    refine endF (XF.thenN ?_)
    refine condF rfl (fun hc => ?_) (fun hc => ?_)
    ·have hc26 := of_decide_eq_true hc; clear hc
     refine seqF (regF ?_)
     refine op_assign rfl rfl ?_
     refine endF (XF.thenN ?_)
     refine retF ?_
     refine XF.thenR ?_
     refine XF.res (res1 Try.results35 rfl) ?_
     exact ⟨_, rfl, hS.below⟩
    ·have hc26 := of_decide_eq_false hc; clear hc
     refine skipF ?_
     refine XF.thenN ?_
     refine seqF ?_
     refine seqF (regF ?_)
     refine op_assign rfl rfl ?_
     refine endF (XF.thenN ?_)
     refine blockF ?_
     refine loopF (fun m l W => ∃ i : Nat, i ≤ fpl ∧ m = fpl - i ∧ l = [(1, .int .i64 dp), (2, .pointer (some ⟨B1, 0, none⟩)), (5, .int .i64 (i : Int))] ∧ St w [(B1, [.bool fz, .int .i64 fc, .int .u64 (fg : Int), .slice fra frl frc, .slice fca fcl fcc, .slice fpa fpl fpc], 54)] [] [] W) (fpl - 0) ([(1, _), (2, _), (5, _)]) ⟨rfl, rfl, rfl, trivial⟩ (⟨0, Nat.zero_le _, rfl, rfl, hS.clear⟩) ?_
     clear hS
     rintro m l W ⟨i, hi, rfl, rfl, hS⟩
     refine seqF ?_
     refine seqF (regF ?_)
     refine op_move rfl rfl ?_
     refine op_field (o' := 5) fa_54_4 rfl rfl rfl ?_
     refine op_load Try.isAgg52 rfl (cell_own (hS.at_ 0 rfl) rfl) rfl ?_
     refine op_len Try.underlying52 rfl rfl ?_
     refine op_lss rfl rfl rfl ?_
     refine endF (XF.thenN ?_)
     refine condF rfl (fun hc => ?_) (fun hc => ?_)
     ·have hc31 := of_decide_eq_true hc; clear hc
      have hk : i < fpl := by omega
      obtain ⟨y, hy⟩ : ∃ y, ps[i]? = some y := ⟨ps[i]'(by omega), by simp [show i < ps.length by omega]⟩
      obtain ⟨b, off, rfl, hcs⟩ : ∃ b off, fpa = some ⟨b, off, none⟩ ∧ W6 w b (off + i * 6) y.f := by
       rcases hrow with h | ⟨b, off, ha, hc⟩
       ·rw [h] at hy; simp at hy
       ·exact ⟨b, off, ha, hc i y hy⟩
      have k1 : CellsAt W b (off + i * 6) y.f.six := CellsAt.agree hS.agree (Nat.zero_le _) ⟨hcs.1, hcs.2.1, hcs.2.2.1, hcs.2.2.2.1, hcs.2.2.2.2.1, hcs.2.2.2.2.2, trivial⟩
      refine skipF ?_
      refine XF.thenN ?_
      refine seqF ?_
      refine blockF ?_
      refine seqF (regF ?_)
      refine op_field (o' := 5) fa_54_4 rfl rfl rfl ?_
      refine op_load Try.isAgg52 rfl (cell_own (hS.at_ 0 rfl) rfl) rfl ?_
      refine op_move rfl rfl ?_
      refine op_indexA  Try.underlying52 Try.sizeOf54 rfl rfl rfl (by omega) rfl rfl ?_
      refine op_loadA (vs := [_, _, _, _, _, _]) Try.isAgg54 Try.sizeOf54 rfl (k1) rfl ?_
      refine op_move rfl rfl ?_
      refine op_add rfl rfl (IntWalk.i64_in _ (by omega)) rfl ?_
      refine op_call (vs := [_, _]) hS goes_35 rfl (IH y (List.mem_of_getElem? hy) _ (dp + 1) hS.below (by omega)) rfl ?_
      rintro e W2 ⟨b9, rfl, hb⟩
      refine ⟨_, rfl, hb, fun hS' => ?_⟩
      clear hS; have hS := hS'; clear hS' hb
      refine op_not rfl rfl ?_
      refine endF (XF.thenN ?_)
      refine condF rfl (fun hc => ?_) (fun hc => ?_)
      ·have hc42 := hc; clear hc
       refine seqF (regF ?_)
       refine op_assign rfl rfl ?_
       refine endF (XF.thenN ?_)
       refine retF ?_
       refine XF.blkR ?_
       refine XF.thenR ?_
       refine XF.thenR ?_
       refine XF.blkR ?_
       refine XF.thenR ?_
       refine XF.res (res1 Try.results35 rfl) ?_
       exact ⟨_, rfl, hS.below⟩
      ·have hc42 := hc; clear hc
       refine skipF ?_
       refine XF.blkN ?_
       refine XF.thenN ?_
       refine regF ?_
       refine op_move rfl rfl ?_
       refine op_add rfl rfl (IntWalk.i64_in _ (by omega)) rfl ?_
       refine op_assign rfl rfl ?_
       refine endF ?_
       exact XF.round (fpl - (i + 1)) [(1, _), (2, _), (5, _)] (by omega) ⟨rfl, rfl, rfl, trivial⟩ ⟨i + 1, by omega, rfl, rfl, hS.clear⟩
     ·have hc31 := of_decide_eq_false hc; clear hc
      refine exitF ?_
      refine XF.thenX ?_
      refine XF.thenX ?_
      refine XF.blkX ?_
      refine XF.thenN ?_
      refine seqF (regF ?_)
      refine op_assign rfl rfl ?_
      refine endF (XF.thenN ?_)
      refine retF ?_
      refine XF.res (res1 Try.results35 rfl) ?_
      exact ⟨_, rfl, hS.below⟩
theorem psmall_is : ∀ (d : Nat) (x : WV) (dp : Int) (w : World), WIn w d x → 0 ≤ dp ∧ dp ≤ 4 → Calls Try.prog 35 #[x.f.val, .int .i64 dp] w fun e w2 => ∃ b, e = .returned (.bool b) ∧ Below w.heap.size w w2
 | 0, _, _, _, h, _ => h.elim
 | d + 1, .mk f ps, dp, w, ⟨_, h1, h2, h3⟩, hd => psmall_step f.z f.c f.g f.ra f.rl f.rc f.ca f.cl f.cc f.pa f.pl f.pc ps dp w h1 h2 hd fun y hy W d9 hb h9 => psmall_is d y d9 W (WIn.below hb (h3 y hy)) h9
theorem row_rrow9 {W : World} {lo c : Nat} {a : Option Addr} {rs : List RV} (h : W.ownsRow lo 56 10 (.slice a rs.length c) rs.length (rs.flatMap RV.ten)) : RRow W a rs := by
 cases rs with
 | nil => exact .inl rfl
 | cons x r =>
  obtain ⟨b, c9, e, _⟩ := ownsRow_at h (by simp)
  injection e with e _ _
  subst e
  refine .inr ⟨b, 0, rfl, fun i y hi => ?_⟩
  rw [Nat.zero_add]
  have key : ∀ (l : List RV) (i : Nat), l[i]? = some y → ((l.flatMap RV.ten).drop (i * 10)).take 10 = y.ten := by
   intro l
   induction l with
   | nil => intro i h; simp at h
   | cons z l ih =>
    intro i h
    cases i with
    | zero => simp at h; subst h; rfl
    | succ i =>
     have e : (i + 1) * 10 = 10 + i * 10 := by omega
     rw [List.flatMap_cons, e, ← List.drop_drop]
     exact ih i (by simpa using h)
  have e5 := key (x :: r) i hi
  refine CellsAt.of fun j v hj => ownsRow_blk h ?_
  rw [← e5, List.getElem?_take] at hj
  split at hj
  ·rw [List.getElem?_drop] at hj; exact hj
  ·cases hj
theorem addr_row9 {w : World} {a : Option Addr} {ws : List Int} (h : Row w a ws) (hl : 0 < ws.length) : ∀ x, a = some x → ∃ b o, x = ⟨b, o, none⟩ := fun x hx => by
 rcases h with h | ⟨b, off, h, _⟩
 ·rw [h] at hl; simp at hl
 ·exact ⟨b, off, by rw [h] at hx; exact (Option.some.inj hx).symm⟩
theorem addr_srow9 {w : World} {a : Option Addr} {ps : List SV} (h : SRow w a ps) (hl : 0 < ps.length) : ∀ x, a = some x → ∃ b o, x = ⟨b, o, none⟩ := fun x hx => by
 rcases h with h | ⟨b, off, h, _⟩
 ·rw [h] at hl; simp at hl
 ·exact ⟨b, off, by rw [h] at hx; exact (Option.some.inj hx).symm⟩
theorem SRow.take9 {w : World} {a : Option Addr} {ps : List SV} (h : SRow w a ps) (k : Nat) : SRow w a (ps.take k) := by
 rcases h with h | ⟨b, off, h, hc⟩
 ·exact .inl (by rw [h]; simp)
 ·refine .inr ⟨b, off, h, fun i p hp => hc i p ?_⟩
  rw [List.getElem?_take] at hp
  split at hp
  ·exact hp
  ·cases hp
structure PvCap9 (p : PV) : Prop where
 s : p.s.f.len ≤ p.s.f.cap
 r : ∀ r ∈ p.rs, r.wl ≤ r.wc
structure Cut9 (ds d : Nat) (w9 w w' : World) (p : PV) : Prop where
 far : ∀ W2, Below w9.heap.size w9 W2 → Agree w.heap.size w' W2 → PvIn W2 ds d p
 rl : p.rl ≤ 40
 wl : ∀ r ∈ p.rs, r.wl ≤ 40
 cap : ∀ r ∈ p.rs, r.wl ≤ r.wc
theorem pcut_c (ds d : Nat) (tag dim : Int) (sa : Option Addr) (slen scap : Nat) (sps : List SV) (st sy : Int) (ra : Option Addr) (rl rc : Nat) (rs : List RV) (w9 w : World) (h9 : Below w9.heap.size w9 w) (hsl : sps.length = slen) (hsr : SRow w9 sa sps) (hsi : ∀ q ∈ sps, SIn w9 ds q) (hsc : slen ≤ scap) (hprow : RRow w9 ra rs) (hplen : rs.length = rl) (hin : ∀ r ∈ rs, RIn w9 d r) (hrc : ∀ r ∈ rs, r.wl ≤ r.wc) (hrm : rl ≤ 9223372036854775807) :
  Calls Try.prog 9 #[.agg #[.int .i64 tag, .int .i64 dim, .slice sa slen scap, .int .i64 st, .int .i64 sy, .slice ra rl rc]] w (fun e w' => ∃ p : PV, e = .returned p.val ∧ Cut9 (ds + 1) d w9 w w' p ∧ Below w.heap.size w w') := by
 refine enterF (args := [.agg #[.int .i64 tag, .int .i64 dim, .slice sa slen scap, .int .i64 st, .int .i64 sy, .slice ra rl rc]]) Try.func9 rfl Try.ntmps9 rfl ?_
 have hS := St.start w
 have hprow1 : RRow w ra rs := hprow.below h9
 refine seqF (regF ?_)
 refine op_box (cs := [_, _, _, _, _, _]) hS rfl rfl rfl ?_
 clear hS; intro B1 W1 hS
 refine op_alloc (cs := [_, _, _, _, _, _]) hS Try.zeroValue28 rfl rfl ?_
 clear hS; intro B2 W2 hS
 refine endF (XF.thenN ?_)
 refine seqF (regF ?_)
 refine op_assign rfl rfl ?_
 refine endF (XF.thenN ?_)
 refine seqF ?_
 refine seqF ?_
 have hS := hS.newG 56 10
 refine regF ?_
 refine op_assign rfl rfl ?_
 refine endF (XF.thenN ?_)
 refine blockF ?_
 refine loopF (fun m l W => ∃ (i : Nat) (va : Option Addr) (vc : Nat) (rs2 : List RV), i ≤ rl ∧ rs2.length ≤ 40 ∧ m = rl - i ∧ l = [(1, .pointer (some ⟨B1, 0, none⟩)), (2, .pointer (some ⟨B2, 0, none⟩)), (3, .slice va rs2.length vc), (4, .int .i64 (i : Int))] ∧ (∀ r ∈ rs2, RIn w9 d r ∧ r.wl ≤ 40 ∧ r.wl ≤ r.wc) ∧ St w [(B2, [.int .i64 0, .int .i64 0, .slice none 0 0, .int .i64 0, .int .i64 0, .slice none 0 0], 28), (B1, [.int .i64 tag, .int .i64 dim, .slice sa slen scap, .int .i64 st, .int .i64 sy, .slice ra rl rc], 28)] [⟨.slice va rs2.length vc, rs2.length, rs2.flatMap RV.ten, 56, 10⟩] [] W) (rl - 0) ([(1, _), (2, _), (3, _), (4, _)]) ⟨rfl, rfl, rfl, rfl, trivial⟩ (⟨0, none, 0, [], Nat.zero_le _, by simp, rfl, rfl, (fun r hr => by cases hr), hS.clear⟩) ?_
 clear hS
 rintro m l W ⟨i, va, vc, rs2, hi, hl40, rfl, rfl, hok, hS⟩
 refine seqF ?_
 refine seqF (regF ?_)
 refine op_move rfl rfl ?_
 refine op_field (o' := 5) fa_28_3 rfl rfl rfl ?_
 refine op_load Try.isAgg26 rfl (cell_own (hS.at_ 1 rfl) rfl) rfl ?_
 refine op_len Try.underlying26 rfl rfl ?_
 refine op_lss rfl rfl rfl ?_
 refine op_move rfl rfl ?_
 refine op_cases (d := 12) rfl (fun hc => ?_) (fun hc => ?_)
 ·have hg12 := of_decide_eq_true hc; clear hc
  refine op_wantedF (d := 12) rfl rfl ?_
  refine op_move rfl rfl ?_
  refine op_wantedF (d := 12) rfl rfl ?_
  refine op_len Try.underlying26 rfl rfl ?_
  refine op_wantedF (d := 12) rfl rfl ?_
  refine op_lss rfl rfl rfl ?_
  refine op_pickT rfl rfl rfl ?_
  refine endF (XF.thenN ?_)
  refine condF rfl (fun hc => ?_) (fun hc => ?_)
  ·have hc16 := of_decide_eq_true hc; clear hc
   have hk : i < rl := by omega
   obtain ⟨r, hr⟩ : ∃ r, rs[i]? = some r := ⟨rs[i]'(by omega), by simp [show i < rs.length by omega]⟩
   obtain ⟨b, off, rfl, hcs⟩ := hprow1.at_ hr
   have k1 := CellsAt.agree hS.agree (Nat.zero_le _) hcs
   have hri := hin r (List.mem_of_getElem? hr)
   have hcp := hrc r (List.mem_of_getElem? hr)
   refine skipF ?_
   refine XF.thenN ?_
   refine seqF ?_
   refine blockF ?_
   refine seqF (regF ?_)
   refine op_field (o' := 5) fa_28_3 rfl rfl rfl ?_
   refine op_load Try.isAgg26 rfl (cell_own (hS.at_ 1 rfl) rfl) rfl ?_
   refine op_move rfl rfl ?_
   refine op_indexA  Try.underlying26 Try.sizeOf56 rfl rfl rfl (by omega) rfl rfl ?_
   refine op_loadA (vs := [_, _, _, _, _, _, _, _, _, _]) Try.isAgg56 Try.sizeOf56 rfl (k1) rfl ?_
   refine op_alloc (cs := [_, _, _, _, _, _, _, _, _, _]) hS Try.zeroValue56 rfl rfl ?_
   clear hS; intro B3 W3 hS
   refine op_storeA (i := 0) (vs := [_, _, _, _, _, _, _, _, _, _]) (cs' := [_, _, _, _, _, _, _, _, _, _]) (O' := [_, _, _]) hS Try.sizeOf56 rfl rfl rfl rfl rfl rfl rfl ?_
   clear hS; intro W4 hS
   refine endF (XF.thenN ?_)
   refine seqF ?_
   refine seqF (regF ?_)
   refine op_field (o' := 3) fa_56_3 rfl rfl rfl ?_
   refine op_load Try.isAgg30 rfl (cell_own (hS.at_ 0 rfl) rfl) rfl ?_
   refine op_len Try.underlying30 rfl rfl ?_
   refine op_gtr rfl rfl rfl ?_
   refine endF (XF.thenN ?_)
   refine condF rfl (fun hc => ?_) (fun hc => ?_)
   ·have hc27 := of_decide_eq_true hc; clear hc
    have hla := addr_row9 hri.row (by rw [hri.len]; omega)
    obtain ⟨r2, hr2e⟩ : ∃ r2 : RV, r2 = { r with wl := 40, ws := r.ws.take 40 } := ⟨_, rfl⟩
    have hr2 : RIn w9 d r2 ∧ r2.wl ≤ 40 ∧ r2.wl ≤ r2.wc := by
     subst hr2e
     exact ⟨⟨hri.row.take 40, by have := hri.len; show (r.ws.take 40).length = 40; rw [List.length_take]; omega, hri.x⟩, Nat.le_refl _, by show 40 ≤ r.wc; omega⟩
    refine regF ?_
    refine op_field (o' := 3) fa_56_3 rfl rfl rfl ?_
    refine op_load Try.isAgg30 rfl (cell_own (hS.at_ 0 rfl) rfl) rfl ?_
    refine op_sliceTo (k := 40) Try.underlying30 Try.sizeOf3 rfl rfl (by decide) (by omega) (by omega) hla rfl ?_
    refine op_field (o' := 3) fa_56_3 rfl rfl rfl ?_
    refine op_store (i := 0) (cs' := [_, _, _, _, _, _, _, _, _, _]) (O' := [_, _, _]) hS Try.sizeOf30 rfl rfl rfl rfl rfl rfl rfl ?_
    clear hS; intro W5 hS
    refine endF (XF.thenN ?_)
    refine seqF (regF ?_)
    refine op_field (o' := 4) fa_56_4 rfl rfl rfl ?_
    refine op_loadA (vs := [_, _, _, _, _, _]) Try.isAgg54 Try.sizeOf54 rfl (CellsAt.own (j := 4) (m := 6) (hS.at_ 0 rfl) rfl) rfl ?_
    refine op_call (vs := [_, _]) hS goes_35 rfl (psmall_is d r.x 0 _ (WIn.below hS.below (WIn.below h9 hri.x)) (by decide)) rfl ?_
    rintro e W6 ⟨b9, rfl, hb⟩
    refine ⟨_, rfl, hb, fun hS' => ?_⟩
    clear hS; have hS := hS'; clear hS' hb
    refine endF (XF.thenN ?_)
    refine condF rfl (fun hc => ?_) (fun hc => ?_)
    ·have hc34 := hc; clear hc
     refine regF ?_
     refine op_move rfl rfl ?_
     refine op_loadA (vs := [_, _, _, _, _, _, _, _, _, _]) Try.isAgg56 Try.sizeOf56 rfl (CellsAt.own (j := 0) (m := 10) (hS.at_ 0 rfl) rfl) rfl ?_
     refine op_buildSlice (us := [(0, .agg (List.toArray [_, _, _, _, _, _, _, _, _, _]))]) hS Try.underlying26 Try.sizeOf56 Try.zeroValue56 rfl rfl rfl (bs_26_1 _ _ _ _ _ _ _ _ _ _) rfl ?_
     clear hS; intro B7 W7 hS
     refine op_append (i := 0) (news := [_, _, _, _, _, _, _, _, _, _]) hS Try.underlying26 inf_56 rfl rfl (by show 0 < 10; decide) rfl rfl rfl rfl rfl (CellsAt.own (j := 0) (m := 10) (hS.at_ 0 rfl) rfl) rfl rfl (by dsimp only; simp only [maxLen]; omega) (by dsimp only; show _ * 144 ≤ _; omega) rfl ?_
     clear hS; intro v8 W8 hS
     refine op_assign rfl rfl ?_
     refine endF ?_
     refine XF.blkN ?_
     refine XF.thenN ?_
     refine regF ?_
     refine op_move rfl rfl ?_
     refine op_add rfl rfl (IntWalk.i64_in _ (by omega)) rfl ?_
     refine op_assign rfl rfl ?_
     refine endF ?_
     obtain ⟨va2, vc2, rfl⟩ := (hS.castG (G' := [⟨_, _, _, _, _⟩]) rfl).headSl
     exact XF.round (rl - (i + 1)) [(1, _), (2, _), (3, _), (4, _)] (by omega) ⟨rfl, rfl, rfl, rfl, trivial⟩ ⟨i + 1, va2, vc2, rs2 ++ [r2], by omega, by simp; omega, rfl, by simp, fun x hx => by
       rcases List.mem_append.1 hx with hx | hx
       ·exact hok x hx
       ·simp at hx; subst hx; exact hr2, (hS.tail.tail.clear).castG (by simp [hr2e])⟩
    ·have hc34 := hc; clear hc
     refine skipF ?_
     refine XF.blkN ?_
     refine XF.thenN ?_
     refine regF ?_
     refine op_move rfl rfl ?_
     refine op_add rfl rfl (IntWalk.i64_in _ (by omega)) rfl ?_
     refine op_assign rfl rfl ?_
     refine endF ?_
     exact XF.round (rl - (i + 1)) [(1, _), (2, _), (3, _), (4, _)] (by omega) ⟨rfl, rfl, rfl, rfl, trivial⟩ ⟨i + 1, va, vc, rs2, by omega, by omega, rfl, rfl, hok, hS.tail.clear⟩
   ·have hc27 := of_decide_eq_false hc; clear hc
    obtain ⟨r2, hr2e⟩ : ∃ r2 : RV, r2 = r := ⟨_, rfl⟩
    have hr2 : RIn w9 d r2 ∧ r2.wl ≤ 40 ∧ r2.wl ≤ r2.wc := by subst hr2e; exact ⟨hri, by omega, hcp⟩
    refine skipF ?_
    refine XF.thenN ?_
    refine seqF (regF ?_)
    refine op_field (o' := 4) fa_56_4 rfl rfl rfl ?_
    refine op_loadA (vs := [_, _, _, _, _, _]) Try.isAgg54 Try.sizeOf54 rfl (CellsAt.own (j := 4) (m := 6) (hS.at_ 0 rfl) rfl) rfl ?_
    refine op_call (vs := [_, _]) hS goes_35 rfl (psmall_is d r.x 0 _ (WIn.below hS.below (WIn.below h9 hri.x)) (by decide)) rfl ?_
    rintro e W9 ⟨b9, rfl, hb⟩
    refine ⟨_, rfl, hb, fun hS' => ?_⟩
    clear hS; have hS := hS'; clear hS' hb
    refine endF (XF.thenN ?_)
    refine condF rfl (fun hc => ?_) (fun hc => ?_)
    ·have hc34 := hc; clear hc
     refine regF ?_
     refine op_move rfl rfl ?_
     refine op_loadA (vs := [_, _, _, _, _, _, _, _, _, _]) Try.isAgg56 Try.sizeOf56 rfl (CellsAt.own (j := 0) (m := 10) (hS.at_ 0 rfl) rfl) rfl ?_
     refine op_buildSlice (us := [(0, .agg (List.toArray [_, _, _, _, _, _, _, _, _, _]))]) hS Try.underlying26 Try.sizeOf56 Try.zeroValue56 rfl rfl rfl (bs_26_1 _ _ _ _ _ _ _ _ _ _) rfl ?_
     clear hS; intro B10 W10 hS
     refine op_append (i := 0) (news := [_, _, _, _, _, _, _, _, _, _]) hS Try.underlying26 inf_56 rfl rfl (by show 0 < 10; decide) rfl rfl rfl rfl rfl (CellsAt.own (j := 0) (m := 10) (hS.at_ 0 rfl) rfl) rfl rfl (by dsimp only; simp only [maxLen]; omega) (by dsimp only; show _ * 144 ≤ _; omega) rfl ?_
     clear hS; intro v11 W11 hS
     refine op_assign rfl rfl ?_
     refine endF ?_
     refine XF.blkN ?_
     refine XF.thenN ?_
     refine regF ?_
     refine op_move rfl rfl ?_
     refine op_add rfl rfl (IntWalk.i64_in _ (by omega)) rfl ?_
     refine op_assign rfl rfl ?_
     refine endF ?_
     obtain ⟨va2, vc2, rfl⟩ := (hS.castG (G' := [⟨_, _, _, _, _⟩]) rfl).headSl
     exact XF.round (rl - (i + 1)) [(1, _), (2, _), (3, _), (4, _)] (by omega) ⟨rfl, rfl, rfl, rfl, trivial⟩ ⟨i + 1, va2, vc2, rs2 ++ [r2], by omega, by simp; omega, rfl, by simp, fun x hx => by
       rcases List.mem_append.1 hx with hx | hx
       ·exact hok x hx
       ·simp at hx; subst hx; exact hr2, (hS.tail.tail.clear).castG (by simp [hr2e])⟩
    ·have hc34 := hc; clear hc
     refine skipF ?_
     refine XF.blkN ?_
     refine XF.thenN ?_
     refine regF ?_
     refine op_move rfl rfl ?_
     refine op_add rfl rfl (IntWalk.i64_in _ (by omega)) rfl ?_
     refine op_assign rfl rfl ?_
     refine endF ?_
     exact XF.round (rl - (i + 1)) [(1, _), (2, _), (3, _), (4, _)] (by omega) ⟨rfl, rfl, rfl, rfl, trivial⟩ ⟨i + 1, va, vc, rs2, by omega, by omega, rfl, rfl, hok, hS.tail.clear⟩
  ·have hc16 := of_decide_eq_false hc; clear hc
   refine exitF ?_
   refine XF.thenX ?_
   refine XF.thenX ?_
   refine XF.blkX ?_
   refine XF.thenN ?_
   refine seqF (regF ?_)
   refine op_move rfl rfl ?_
   refine op_field (o' := 5) fa_28_3 rfl rfl rfl ?_
   refine op_store (i := 1) (cs' := [_, _, _, _, _, _]) (O' := [_, _]) hS Try.sizeOf26 rfl rfl rfl rfl rfl rfl rfl ?_
   clear hS; intro W12 hS
   refine endF (XF.thenN ?_)
   refine joinF (fun l W => ∃ (len2 : Nat) (sps2 : List SV), l = [(1, .pointer (some ⟨B1, 0, none⟩)), (2, .pointer (some ⟨B2, 0, none⟩))] ∧ len2 ≤ 3 ∧ sps2.length = len2 ∧ SRow w9 sa sps2 ∧ (∀ q ∈ sps2, SIn w9 ds q) ∧ St w [(B2, [.int .i64 0, .int .i64 0, .slice none 0 0, .int .i64 0, .int .i64 0, .slice none 0 0], 28), (B1, [.int .i64 tag, .int .i64 dim, .slice sa len2 scap, .int .i64 st, .int .i64 sy, .slice va rs2.length vc], 28)] [⟨.slice va rs2.length vc, rs2.length, rs2.flatMap RV.ten, 56, 10⟩] [] W) ?_ ?_
   ·clear hS
    rintro _ W ⟨len2, sps2, rfl, hl3, hs2l, hs2r, hs2i, hS⟩
    refine seqF ?_
    refine seqF (regF ?_)
    refine op_assign rfl rfl ?_
    refine endF (XF.thenN ?_)
    refine blockF ?_
    refine loopF (fun m l W => ∃ (i : Nat) (sa3 : Option Addr) (len3 cap3 : Nat) (sps3 : List SV), i ≤ 3 ∧ m = len3 - i ∧ l = [(1, .pointer (some ⟨B1, 0, none⟩)), (2, .pointer (some ⟨B2, 0, none⟩)), (6, .int .i64 (i : Int))] ∧ len3 ≤ 3 ∧ sps3.length = len3 ∧ SRow w9 sa3 sps3 ∧ (∀ q ∈ sps3, SIn w9 ds q) ∧ St w [(B2, [.int .i64 0, .int .i64 0, .slice none 0 0, .int .i64 0, .int .i64 0, .slice none 0 0], 28), (B1, [.int .i64 tag, .int .i64 dim, .slice sa3 len3 cap3, .int .i64 st, .int .i64 sy, .slice va rs2.length vc], 28)] [⟨.slice va rs2.length vc, rs2.length, rs2.flatMap RV.ten, 56, 10⟩] [] W) (len2 - 0) ([(1, _), (2, _), (6, _)]) ⟨rfl, rfl, rfl, trivial⟩ (⟨0, sa, len2, scap, sps2, Nat.zero_le _, rfl, rfl, hl3, hs2l, hs2r, hs2i, hS.clear⟩) ?_
    clear hS
    rintro m l W ⟨i, sa3, len3, cap3, sps3, hi3, rfl, rfl, hl33, hs3l, hs3r, hs3i, hS⟩
    refine seqF ?_
    refine seqF (regF ?_)
    refine op_move rfl rfl ?_
    refine op_field (o' := 0) fa_28_0 rfl rfl rfl ?_
    refine op_field (o' := 2) fa_25_2 rfl rfl rfl ?_
    refine op_load Try.isAgg23 rfl (cell_own (hS.at_ 1 rfl) rfl) rfl ?_
    refine op_len Try.underlying23 rfl rfl ?_
    refine op_lss rfl rfl rfl ?_
    refine endF (XF.thenN ?_)
    refine condF rfl (fun hc => ?_) (fun hc => ?_)
    ·have hc57 := of_decide_eq_true hc; clear hc
     have hk3 : i < len3 := by omega
     obtain ⟨q, hq⟩ : ∃ q, sps3[i]? = some q := ⟨sps3[i]'(by omega), by simp [show i < sps3.length by omega]⟩
     obtain ⟨b, off, rfl, hs3⟩ : ∃ b off, sa3 = some ⟨b, off, none⟩ ∧ S3 w9 b (off + i * 3) q.f := by
      rcases hs3r with h | ⟨b, off, ha, hc⟩
      ·rw [h] at hq; simp at hq
      ·exact ⟨b, off, ha, hc i q hq⟩
     have k16 : W.cell? ⟨b, off + i * 3 + 2, none⟩ = some (.slice q.f.a q.f.len q.f.cap) := hS.old (hs3.below h9).2.2
     refine skipF ?_
     refine XF.thenN ?_
     refine seqF ?_
     refine blockF ?_
     refine seqF (regF ?_)
     refine op_field (o' := 0) fa_28_0 rfl rfl rfl ?_
     refine op_field (o' := 2) fa_25_2 rfl rfl rfl ?_
     refine op_load Try.isAgg23 rfl (cell_own (hS.at_ 1 rfl) rfl) rfl ?_
     refine op_move rfl rfl ?_
     refine op_indexA  Try.underlying23 Try.sizeOf25 rfl rfl rfl (by omega) rfl rfl ?_
     refine op_field fa_25_2 rfl rfl rfl ?_
     refine op_load Try.isAgg23 rfl (k16) rfl ?_
     refine op_len Try.underlying23 rfl rfl ?_
     refine op_gtr rfl rfl rfl ?_
     refine endF (XF.thenN ?_)
     refine condF rfl (fun hc => ?_) (fun hc => ?_)
     ·have hc68 := of_decide_eq_true hc; clear hc
      refine regF ?_
      refine op_field (o' := 0) fa_28_0 rfl rfl rfl ?_
      refine op_field (o' := 2) fa_25_2 rfl rfl rfl ?_
      refine op_store (i := 1) (cs' := [_, _, _, _, _, _]) (O' := [_, _]) hS Try.sizeOf23 rfl rfl rfl rfl rfl rfl rfl ?_
      clear hS; intro W13 hS
      refine endF ?_
      refine XF.blkN ?_
      refine XF.thenN ?_
      refine regF ?_
      refine op_move rfl rfl ?_
      refine op_add rfl rfl (IntWalk.i64_in _ (by omega)) rfl ?_
      refine op_assign rfl rfl ?_
      refine endF ?_
      exact XF.round (0 - (i + 1)) [(1, _), (2, _), (6, _)] (by omega) ⟨rfl, rfl, rfl, trivial⟩ ⟨i + 1, none, 0, 0, [], by omega, rfl, rfl, by omega, rfl, .inl rfl, (fun q hq => by cases hq), hS.clear⟩
     ·have hc68 := of_decide_eq_false hc; clear hc
      refine skipF ?_
      refine XF.blkN ?_
      refine XF.thenN ?_
      refine regF ?_
      refine op_move rfl rfl ?_
      refine op_add rfl rfl (IntWalk.i64_in _ (by omega)) rfl ?_
      refine op_assign rfl rfl ?_
      refine endF ?_
      exact XF.round (len3 - (i + 1)) [(1, _), (2, _), (6, _)] (by omega) ⟨rfl, rfl, rfl, trivial⟩ ⟨i + 1, _, len3, cap3, sps3, by omega, rfl, rfl, hl33, hs3l, hs3r, hs3i, hS.clear⟩
    ·have hc57 := of_decide_eq_false hc; clear hc
     refine exitF ?_
     refine XF.thenX ?_
     refine XF.thenX ?_
     refine XF.blkX ?_
     refine XF.thenN ?_
     refine seqF (regF ?_)
     refine op_loadA (vs := [_, _, _, _, _, _]) Try.isAgg28 Try.sizeOf28 rfl (CellsAt.own (j := 0) (m := 6) (hS.at_ 1 rfl) rfl) rfl ?_
     refine op_storeA (i := 0) (vs := [_, _, _, _, _, _]) (cs' := [_, _, _, _, _, _]) (O' := [_, _]) hS Try.sizeOf28 rfl rfl rfl rfl rfl rfl rfl ?_
     clear hS; intro W14 hS
     refine endF (XF.thenN ?_)
     refine retF ?_
     refine XF.res (resC1 (vs := [_, _, _, _, _, _]) Try.results9 Try.isAgg28 Try.sizeOf28 rfl (CellsAt.own (j := 0) (m := 6) (hS.at_ 0 rfl) rfl)) ?_
     have hrw := hS.row 0 rfl
     exact ⟨⟨.mk ⟨tag, dim, sa3, len3, cap3⟩ sps3, st, sy, va, rs2.length, vc, rs2⟩, rfl, ⟨fun W2 hb hg => ⟨⟨hs3l, hs3r.below hb, fun q hq => SIn.below hb (hs3i q hq)⟩, row_rrow9 (ownsRow_agree hrw hg), rfl, fun r hr => (hok r hr).1.below hb⟩, hl40, fun r hr => (hok r hr).2.1, fun r hr => (hok r hr).2.2⟩, hS.below⟩
   ·skip
    refine seqF (regF ?_)
    refine op_field (o' := 0) fa_28_0 rfl rfl rfl ?_
    refine op_field (o' := 2) fa_25_2 rfl rfl rfl ?_
    refine op_load Try.isAgg23 rfl (cell_own (hS.at_ 1 rfl) rfl) rfl ?_
    refine op_len Try.underlying23 rfl rfl ?_
    refine op_gtr rfl rfl rfl ?_
    refine endF (XF.thenN ?_)
    refine condF rfl (fun hc => ?_) (fun hc => ?_)
    ·have hc45 := of_decide_eq_true hc; clear hc
     have hla := addr_srow9 hsr (by omega)
     refine regF ?_
     refine op_field (o' := 0) fa_28_0 rfl rfl rfl ?_
     refine op_field (o' := 2) fa_25_2 rfl rfl rfl ?_
     refine op_load Try.isAgg23 rfl (cell_own (hS.at_ 1 rfl) rfl) rfl ?_
     refine op_sliceTo (k := 3) Try.underlying23 Try.sizeOf25 rfl rfl (by decide) (by omega) (by omega) hla rfl ?_
     refine op_field (o' := 0) fa_28_0 rfl rfl rfl ?_
     refine op_field (o' := 2) fa_25_2 rfl rfl rfl ?_
     refine op_store (i := 1) (cs' := [_, _, _, _, _, _]) (O' := [_, _]) hS Try.sizeOf23 rfl rfl rfl rfl rfl rfl rfl ?_
     clear hS; intro W15 hS
     refine endF ?_
     exact XF.join [(1, _), (2, _)] ⟨rfl, rfl, trivial⟩ ⟨3, sps.take 3, rfl, Nat.le_refl _, by rw [List.length_take]; omega, hsr.take9 3, fun q hq => hsi q (List.mem_of_mem_take hq), hS.clear⟩
    ·have hc45 := of_decide_eq_false hc; clear hc
     refine skipF ?_
     exact XF.join [(1, _), (2, _)] ⟨rfl, rfl, trivial⟩ ⟨slen, sps, rfl, by omega, hsl, hsr, hsi, hS.clear⟩
 ·have hg12 := of_decide_eq_false hc; clear hc
  refine op_notF (d := 12) rfl rfl rfl rfl ?_
  refine op_notF (d := 12) rfl rfl rfl rfl ?_
  refine op_notF (d := 12) rfl rfl rfl rfl ?_
  refine op_pickF rfl rfl rfl ?_
  refine endF (XF.thenN ?_)
  refine condN rfl ?_
  refine exitF ?_
  refine XF.thenX ?_
  refine XF.thenX ?_
  refine XF.blkX ?_
  refine XF.thenN ?_
  refine seqF (regF ?_)
  refine op_move rfl rfl ?_
  refine op_field (o' := 5) fa_28_3 rfl rfl rfl ?_
  refine op_store (i := 1) (cs' := [_, _, _, _, _, _]) (O' := [_, _]) hS Try.sizeOf26 rfl rfl rfl rfl rfl rfl rfl ?_
  clear hS; intro W16 hS
  refine endF (XF.thenN ?_)
  refine joinF (fun l W => ∃ (len2 : Nat) (sps2 : List SV), l = [(1, .pointer (some ⟨B1, 0, none⟩)), (2, .pointer (some ⟨B2, 0, none⟩))] ∧ len2 ≤ 3 ∧ sps2.length = len2 ∧ SRow w9 sa sps2 ∧ (∀ q ∈ sps2, SIn w9 ds q) ∧ St w [(B2, [.int .i64 0, .int .i64 0, .slice none 0 0, .int .i64 0, .int .i64 0, .slice none 0 0], 28), (B1, [.int .i64 tag, .int .i64 dim, .slice sa len2 scap, .int .i64 st, .int .i64 sy, .slice va rs2.length vc], 28)] [⟨.slice va rs2.length vc, rs2.length, rs2.flatMap RV.ten, 56, 10⟩] [] W) ?_ ?_
  ·clear hS
   rintro _ W ⟨len2, sps2, rfl, hl3, hs2l, hs2r, hs2i, hS⟩
   refine seqF ?_
   refine seqF (regF ?_)
   refine op_assign rfl rfl ?_
   refine endF (XF.thenN ?_)
   refine blockF ?_
   refine loopF (fun m l W => ∃ (i : Nat) (sa3 : Option Addr) (len3 cap3 : Nat) (sps3 : List SV), i ≤ 3 ∧ m = len3 - i ∧ l = [(1, .pointer (some ⟨B1, 0, none⟩)), (2, .pointer (some ⟨B2, 0, none⟩)), (6, .int .i64 (i : Int))] ∧ len3 ≤ 3 ∧ sps3.length = len3 ∧ SRow w9 sa3 sps3 ∧ (∀ q ∈ sps3, SIn w9 ds q) ∧ St w [(B2, [.int .i64 0, .int .i64 0, .slice none 0 0, .int .i64 0, .int .i64 0, .slice none 0 0], 28), (B1, [.int .i64 tag, .int .i64 dim, .slice sa3 len3 cap3, .int .i64 st, .int .i64 sy, .slice va rs2.length vc], 28)] [⟨.slice va rs2.length vc, rs2.length, rs2.flatMap RV.ten, 56, 10⟩] [] W) (len2 - 0) ([(1, _), (2, _), (6, _)]) ⟨rfl, rfl, rfl, trivial⟩ (⟨0, sa, len2, scap, sps2, Nat.zero_le _, rfl, rfl, hl3, hs2l, hs2r, hs2i, hS.clear⟩) ?_
   clear hS
   rintro m l W ⟨i, sa3, len3, cap3, sps3, hi3, rfl, rfl, hl33, hs3l, hs3r, hs3i, hS⟩
   refine seqF ?_
   refine seqF (regF ?_)
   refine op_move rfl rfl ?_
   refine op_field (o' := 0) fa_28_0 rfl rfl rfl ?_
   refine op_field (o' := 2) fa_25_2 rfl rfl rfl ?_
   refine op_load Try.isAgg23 rfl (cell_own (hS.at_ 1 rfl) rfl) rfl ?_
   refine op_len Try.underlying23 rfl rfl ?_
   refine op_lss rfl rfl rfl ?_
   refine endF (XF.thenN ?_)
   refine condF rfl (fun hc => ?_) (fun hc => ?_)
   ·have hc57 := of_decide_eq_true hc; clear hc
    have hk3 : i < len3 := by omega
    obtain ⟨q, hq⟩ : ∃ q, sps3[i]? = some q := ⟨sps3[i]'(by omega), by simp [show i < sps3.length by omega]⟩
    obtain ⟨b, off, rfl, hs3⟩ : ∃ b off, sa3 = some ⟨b, off, none⟩ ∧ S3 w9 b (off + i * 3) q.f := by
     rcases hs3r with h | ⟨b, off, ha, hc⟩
     ·rw [h] at hq; simp at hq
     ·exact ⟨b, off, ha, hc i q hq⟩
    have k16 : W.cell? ⟨b, off + i * 3 + 2, none⟩ = some (.slice q.f.a q.f.len q.f.cap) := hS.old (hs3.below h9).2.2
    refine skipF ?_
    refine XF.thenN ?_
    refine seqF ?_
    refine blockF ?_
    refine seqF (regF ?_)
    refine op_field (o' := 0) fa_28_0 rfl rfl rfl ?_
    refine op_field (o' := 2) fa_25_2 rfl rfl rfl ?_
    refine op_load Try.isAgg23 rfl (cell_own (hS.at_ 1 rfl) rfl) rfl ?_
    refine op_move rfl rfl ?_
    refine op_indexA  Try.underlying23 Try.sizeOf25 rfl rfl rfl (by omega) rfl rfl ?_
    refine op_field fa_25_2 rfl rfl rfl ?_
    refine op_load Try.isAgg23 rfl (k16) rfl ?_
    refine op_len Try.underlying23 rfl rfl ?_
    refine op_gtr rfl rfl rfl ?_
    refine endF (XF.thenN ?_)
    refine condF rfl (fun hc => ?_) (fun hc => ?_)
    ·have hc68 := of_decide_eq_true hc; clear hc
     refine regF ?_
     refine op_field (o' := 0) fa_28_0 rfl rfl rfl ?_
     refine op_field (o' := 2) fa_25_2 rfl rfl rfl ?_
     refine op_store (i := 1) (cs' := [_, _, _, _, _, _]) (O' := [_, _]) hS Try.sizeOf23 rfl rfl rfl rfl rfl rfl rfl ?_
     clear hS; intro W17 hS
     refine endF ?_
     refine XF.blkN ?_
     refine XF.thenN ?_
     refine regF ?_
     refine op_move rfl rfl ?_
     refine op_add rfl rfl (IntWalk.i64_in _ (by omega)) rfl ?_
     refine op_assign rfl rfl ?_
     refine endF ?_
     exact XF.round (0 - (i + 1)) [(1, _), (2, _), (6, _)] (by omega) ⟨rfl, rfl, rfl, trivial⟩ ⟨i + 1, none, 0, 0, [], by omega, rfl, rfl, by omega, rfl, .inl rfl, (fun q hq => by cases hq), hS.clear⟩
    ·have hc68 := of_decide_eq_false hc; clear hc
     refine skipF ?_
     refine XF.blkN ?_
     refine XF.thenN ?_
     refine regF ?_
     refine op_move rfl rfl ?_
     refine op_add rfl rfl (IntWalk.i64_in _ (by omega)) rfl ?_
     refine op_assign rfl rfl ?_
     refine endF ?_
     exact XF.round (len3 - (i + 1)) [(1, _), (2, _), (6, _)] (by omega) ⟨rfl, rfl, rfl, trivial⟩ ⟨i + 1, _, len3, cap3, sps3, by omega, rfl, rfl, hl33, hs3l, hs3r, hs3i, hS.clear⟩
   ·have hc57 := of_decide_eq_false hc; clear hc
    refine exitF ?_
    refine XF.thenX ?_
    refine XF.thenX ?_
    refine XF.blkX ?_
    refine XF.thenN ?_
    refine seqF (regF ?_)
    refine op_loadA (vs := [_, _, _, _, _, _]) Try.isAgg28 Try.sizeOf28 rfl (CellsAt.own (j := 0) (m := 6) (hS.at_ 1 rfl) rfl) rfl ?_
    refine op_storeA (i := 0) (vs := [_, _, _, _, _, _]) (cs' := [_, _, _, _, _, _]) (O' := [_, _]) hS Try.sizeOf28 rfl rfl rfl rfl rfl rfl rfl ?_
    clear hS; intro W18 hS
    refine endF (XF.thenN ?_)
    refine retF ?_
    refine XF.res (resC1 (vs := [_, _, _, _, _, _]) Try.results9 Try.isAgg28 Try.sizeOf28 rfl (CellsAt.own (j := 0) (m := 6) (hS.at_ 0 rfl) rfl)) ?_
    have hrw := hS.row 0 rfl
    exact ⟨⟨.mk ⟨tag, dim, sa3, len3, cap3⟩ sps3, st, sy, va, rs2.length, vc, rs2⟩, rfl, ⟨fun W2 hb hg => ⟨⟨hs3l, hs3r.below hb, fun q hq => SIn.below hb (hs3i q hq)⟩, row_rrow9 (ownsRow_agree hrw hg), rfl, fun r hr => (hok r hr).1.below hb⟩, hl40, fun r hr => (hok r hr).2.1, fun r hr => (hok r hr).2.2⟩, hS.below⟩
  ·skip
   refine seqF (regF ?_)
   refine op_field (o' := 0) fa_28_0 rfl rfl rfl ?_
   refine op_field (o' := 2) fa_25_2 rfl rfl rfl ?_
   refine op_load Try.isAgg23 rfl (cell_own (hS.at_ 1 rfl) rfl) rfl ?_
   refine op_len Try.underlying23 rfl rfl ?_
   refine op_gtr rfl rfl rfl ?_
   refine endF (XF.thenN ?_)
   refine condF rfl (fun hc => ?_) (fun hc => ?_)
   ·have hc45 := of_decide_eq_true hc; clear hc
    have hla := addr_srow9 hsr (by omega)
    refine regF ?_
    refine op_field (o' := 0) fa_28_0 rfl rfl rfl ?_
    refine op_field (o' := 2) fa_25_2 rfl rfl rfl ?_
    refine op_load Try.isAgg23 rfl (cell_own (hS.at_ 1 rfl) rfl) rfl ?_
    refine op_sliceTo (k := 3) Try.underlying23 Try.sizeOf25 rfl rfl (by decide) (by omega) (by omega) hla rfl ?_
    refine op_field (o' := 0) fa_28_0 rfl rfl rfl ?_
    refine op_field (o' := 2) fa_25_2 rfl rfl rfl ?_
    refine op_store (i := 1) (cs' := [_, _, _, _, _, _]) (O' := [_, _]) hS Try.sizeOf23 rfl rfl rfl rfl rfl rfl rfl ?_
    clear hS; intro W19 hS
    refine endF ?_
    exact XF.join [(1, _), (2, _)] ⟨rfl, rfl, trivial⟩ ⟨3, sps.take 3, rfl, Nat.le_refl _, by rw [List.length_take]; omega, hsr.take9 3, fun q hq => hsi q (List.mem_of_mem_take hq), hS.clear⟩
   ·have hc45 := of_decide_eq_false hc; clear hc
    refine skipF ?_
    exact XF.join [(1, _), (2, _)] ⟨rfl, rfl, trivial⟩ ⟨slen, sps, rfl, by omega, hsl, hsr, hsi, hS.clear⟩
theorem pcut_is {ds d : Nat} {p : PV} {w9 w : World} (h9 : Below w9.heap.size w9 w) (hp : PvIn w9 (ds + 1) d p) (hc : PvCap9 p) (hrm : p.rl ≤ 9223372036854775807) : Calls Try.prog 9 #[p.val] w fun e w' => ∃ q : PV, e = .returned q.val ∧ Cut9 (ds + 1) d w9 w w' q ∧ Below w.heap.size w w' := by
 obtain ⟨s, st, sy, ra, rl, rc, rs⟩ := p
 obtain ⟨⟨tag, dim, sa, slen, scap⟩, sps⟩ := s
 obtain ⟨hs, hr, hl, hi⟩ := hp
 exact pcut_c ds d tag dim sa slen scap sps st sy ra rl rc rs w9 w h9 hs.1 hs.2.1 hs.2.2 hc.s hr hl hi hc.r hrm
end Go.Proofs.Ytnhnedifekejpaa
