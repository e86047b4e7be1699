import Derived.Orders
import Derived.Below
import Derived.Deep.RegionHeld
import Derived.WalkKit
import Derived.KernelRfl
import Derived.Laws.Rows
import Derived.Laws.AppendOwn
import Derived.Laws.Strings
import Derived.Laws.Small
import Derived.Lib.Hide
import Derived.IntWalk
import Derived.Laws.Tables
import Derived.Laws.Concat
import Derived.Laws.MakeOwn
import Derived.Test.YtpkcaabbcoiiiaaProg
import Derived.Lib.TrailingZeros
import Derived.Test.YtpkcaabbcoiiiaaRows
import Derived.Lib.LaidTab
import Derived.Lib.ItoaNum
import Derived.Stop.LaidErr
import Derived.WalkSmall
import Derived.LaidMore
import Derived.Shelf.Spec.TrailingZeros
import Derived.Laws.BitsAllLaws
import Derived.Laws.Bits64
import Derived.Deep.QuietTactic
import Derived.BigQuiet
import Derived.RegionTactic
import Derived.BigRegion
import Derived.Deep.RegionHeld3
import Derived.ChangeAlike
import Derived.RangeFuncNested
import Derived.RangeFuncBound
import Derived.RangeFuncCalls
import Derived.RangeFuncLeaves
import Derived.Shelf.Abstract
import Derived.Shelf.RegionOpen
import Derived.OwnWalkIn
import Derived.TacticsInMore
import Derived.LoopNIn
import Derived.LoopIn
import Derived.Laws.Bits128
import Derived.Deep.AppendLies
import Derived.Maps.AppendAt
import Derived.Sort.Grow
import Derived.Ground.Names2Prog
import Derived.Shelf.Slices.Clone
import Derived.Lib.OthersKept
import Derived.Laws.IdiomStrings
import Derived.StillTailTactics
import Derived.Deep.RegionLaw
import Derived.Deep.DeepCutAuto
import Derived.Deep.CutRange
import Derived.Deep.RegionWith
import Derived.Laws.Bits64b
import Derived.Deep.DrawnRows
import Derived.Lib.SliceRun
import Derived.Laws.OwnMore
import Derived.OwnWalk
import Derived.WalkSpells
import Derived.Lib.Join
import Derived.Lib.OwnBridge
import Derived.WideKeyEntry
import Derived.DeepKeys4
import Derived.Lib.AppendZeros
import Derived.Lib.ItoaLen
import Derived.Lib.UnsafeStr
import Derived.Lib.AppendIntMem
import Derived.Deep.Slices
import Derived.Deep.Fields
import Derived.ChangeSame
import Derived.Lib.SmallJoins
import Derived.ChangeSlices
import Derived.ProofKit
import Derived.Test.YtpkcaabbcoiiiaaQoA
import Derived.Test.YtpkcaabbcoiiiaaQoB
import Derived.Test.YtpkcaabbcoiiiaaQoC
import Derived.Test.YtpkcaabbcoiiiaaQoD
set_option maxRecDepth 100000
set_option maxHeartbeats 4000000
set_option linter.unusedVariables false
set_option linter.unusedVariables false
set_option linter.unusedSimpArgs false
set_option linter.unusedSectionVars false
set_option linter.unnecessarySimpa false
namespace Go.Proofs.Ytpkcaabbcoiiiaa
open Go Go.RowKit
section
variable {P : Program} {n : Nat} {Q : Exit → Act → World → Prop} {l : Fr} {w0 W : World} {ops : Array Oper} {os : List Oper} {O : Own} {G : Grows} {K : List (Nat × World)} {L L2 : List Asr} {i : Nat} {ty : TypeId} {pos : String}
def lastC (ops : Array Oper) (k : Nat) : Bool := decide (k + 1 = ops.size) && (List.range k).all fun j => (earlyL ops k).contains j
theorem lastC_size {k : Nat} (h : lastC ops k = true) : k + 1 = ops.size := by
 unfold lastC at h
 exact of_decide_eq_true (Bool.and_eq_true_iff.1 h).1
theorem lastC_all {k : Nat} {o : Oper} {LB : Array Bool} (h : lastC ops k = true) (ho : ops[k]? = some o) (hdep : ∀ e ∈ o.after, Region.binds .any e = true → LB.getD e.on false = true) (hcl : ∀ j, LB.getD j false = true → ∀ x ∈ aft ops j, LB.getD x false = true) : ∀ j, j < k → LB.getD j false = true := fun j hj => by
 unfold lastC at h
 have h2 := List.all_eq_true.1 (Bool.and_eq_true_iff.1 h).2 j (List.mem_range.2 hj)
 refine early_done (D := fun x => LB.getD x false = true) (fun x hx => ?_) hcl j (List.contains_iff_mem.1 h2)
 obtain ⟨e, he, h5, h6⟩ := aft_mem ho hx
 have h7 := hdep e he h6
 rw [h5] at h7
 exact h7
theorem closed_step {o : Oper} {LB : Array Bool} (hi : i < LB.size) (ho : ops[i]? = some o) (hdep : ∀ e ∈ o.after, Region.binds .any e = true → LB.getD e.on false = true) (hcl : ∀ j, LB.getD j false = true → ∀ x ∈ aft ops j, LB.getD x false = true) : ∀ j, (LB.setIfInBounds i true).getD j false = true → ∀ x ∈ aft ops j, (LB.setIfInBounds i true).getD x false = true := fun j hj x hx => by
 have hx2 : LB.getD x false = true := by
  by_cases hji : j = i
  ·subst hji
   obtain ⟨e, he, h5, h6⟩ := aft_mem ho hx
   have h7 := hdep e he h6
   rw [h5] at h7
   exact h7
  ·rw [getD_set_ne false (Ne.symm hji)] at hj
   exact hcl j hj x hx
 by_cases hxi : x = i
 ·subst hxi
  rw [Array.getD_eq_getD_getElem?, Array.getElem?_setIfInBounds_self_of_lt hi]; rfl
 ·rw [getD_set_ne false (Ne.symm hxi)]; exact hx2
theorem region_lastSC {k : Nat} {dn : Nat → Bool} {t0 : Array Value} {d0 : List Deferred} {G : World → Prop} {I : Nat → Value → World → Prop} (hl : lastC ops k = true) (ht : tidyR ops t0.size = true) (hst : ∀ i v w w', G w → I i v w → Below w.heap.size w w' → I i v w')
  (hstep : ∀ i, i < k → dn i = false → RStep P ops Q t0 G I i) (hfin : RFin ops t0 d0 G I k (wpOp P ops Q k (Q .normal))) :
  ∀ (fuel : Nat) (L : Array Bool) (a : Act) (w : World), L.size = ops.size → L.getD k true = false → (∀ i, dn i = true → L.getD i false = true) → L.toList.count false ≤ fuel → (∀ j, L.getD j false = true → ∀ x ∈ aft ops j, L.getD x false = true) → RInv ops t0 d0 G I L a w → wpAny P .any ops Q fuel L a w := by
 have hk : k + 1 = ops.size := lastC_size hl
 have cnt : ∀ (L : Array Bool) i, L.getD i true = false → L.toList[i]? = some false := fun L i h1 => by
  rw [Array.getD_eq_getD_getElem?] at h1
  rw [Array.getElem?_toList]
  cases hL : L[i]? with
  | none => rw [hL] at h1; cases h1
  | some b => rw [hL] at h1; simpa using h1
 intro fuel
 induction fuel with
 | zero =>
  intro L a w hs hlk hlp hc hcl h
  have := cnt_set _ _ (cnt L k hlk)
  omega
 | succ fuel ih =>
  intro L a w hs hlk hlp hc hcl h
  refine ⟨fun hr => ?_, fun i hi => ?_⟩
  ·rw [ready_nil ht hs hr k (by omega)] at hlk
   cases hlk
  ·obtain ⟨h1, o, ho, hdep⟩ := mem_ready.1 hi
   have his : i < ops.size := (Array.getElem?_eq_some_iff.1 ho).1
   have hc1 := cnt_set _ _ (cnt L i h1)
   have hip : dn i = false := by
    cases hd : dn i with
    | false => rfl
    | true =>
     have h3 := hlp i hd
     have h2 := cnt L i h1
     rw [Array.getElem?_toList] at h2
     rw [Array.getD_eq_getD_getElem?, h2] at h3
     cases h3
   by_cases hik : i = k
   ·subst hik
    have hall : ∀ j, j < i → L.getD j false = true := lastC_all hl ho (fun e he hb => hdep e he hb) hcl
    refine wpOp_mono ?_ (hfin a w h.size h.defers h.frame h.glob fun j d hj hd => h.done j d hd (hall j hj))
    intro a' w' hq
    have hnil : Region.ready .any ops (L.setIfInBounds i true) = [] := by
     cases hr : Region.ready .any ops (L.setIfInBounds i true) with
     | nil => rfl
     | cons j rest =>
      have hj : j ∈ Region.ready .any ops (L.setIfInBounds i true) := by rw [hr]; exact List.mem_cons_self
      obtain ⟨h5, o', ho', _⟩ := mem_ready.1 hj
      have hjs : j < ops.size := (Array.getElem?_eq_some_iff.1 ho').1
      by_cases hji : j = i
      ·subst hji
       rw [Array.getD_eq_getD_getElem?, Array.getElem?_eq_getElem (by simpa using (by omega : j < L.size))] at h5
       simp at h5
      ·rw [getD_set_ne true (Ne.symm hji)] at h5
       have h6 := hall j (by omega)
       rw [Array.getD_eq_getD_getElem?] at h5 h6
       rw [Array.getElem?_eq_getElem (by omega)] at h5 h6
       simp at h5 h6
       rw [h5] at h6
       cases h6
    cases fuel with
    | zero => exact ⟨hnil, hq⟩
    | succ fuel => exact ⟨fun _ => hq, by rw [hnil]; simp⟩
   ·refine wpOp_mono ?_ (hstep i (by omega) hip a w h.frameE h.glob (h.deps hi))
    rintro a' w' ⟨⟨v, rfl, hI⟩, hG, hB⟩
    refine ih _ _ _ (by simpa using hs) (by rw [getD_set_ne true hik]; exact hlk) (fun j hj => ?_) ?_ (closed_step (by omega) ho (fun e he hb => hdep e he hb) hcl) (h.next ht h1 hst hI hG hB)
    ·have hij : i ≠ j := fun e => by subst e; rw [hip] at hj; cases hj
     rw [getD_set_ne false hij]; exact hlp j hj
    ·rw [Array.toList_setIfInBounds]
     omega
theorem region_appendC {k p dp : Nat} {t0 : Array Value} {d0 : List Deferred} {late : Nat → Bool} {o : Oper} {RA : World → Value → World → Prop} (hl : lastC ops k = true) (ht : tidyR ops t0.size = true) (hst : StabL L) (hst2 : StabL L2) (hpk : p < k) (hp : ops[p]? = some o) (hod : o.dst = some dp) (hog : o.guard = none)
  (hearly : ∀ j, j < k → j ≠ p → late j = false → j ∈ earlyL ops p)
  (hstep : ∀ i, i < k → i ≠ p → RStep P ops Q t0 (fun w => Below W.heap.size W w) (atI L) i)
  (happ : ∀ (a : Act) (w : World), (∀ t, freeT ops t = true → a.eval (.tmp t) = t0.getD t undef) → Below W.heap.size W w → (∀ j d, waitsFor ops p j d = true → atI L j (a.eval (.tmp d)) w) → ∃ v w', (execOp a.eval o).run P w = .ok (.value v) w' ∧ RA w v w')
  (hL2p : atI L2 p = anyA) (hpure : ∀ i, i < k → i ≠ p → ∀ v w w', atI L i v w → atI L2 i v w')
  (hlate : ∀ v' W2 i, i < k → i ≠ p → late i = true → RStep P ops Q t0 (fun w => w = W2) (IP L2 p v') i)
  (hfin : ∀ A v' W2, Below W.heap.size W A → RA A v' W2 → RFin ops t0 d0 (fun w => w = W2) (IP L2 p v') k (wpOp P ops Q k (Q .normal))) :
  ∀ (fuel : Nat) (LB : Array Bool) (a : Act) (w : World), LB.size = ops.size → LB.getD k true = false → LB.toList.count false ≤ fuel → LB.getD p true = false → (∀ j, LB.getD j false = true → ∀ x ∈ aft ops j, LB.getD x false = true) → RInv ops t0 d0 (fun w => Below W.heap.size W w) (atI L) LB a w → wpAny P .any ops Q fuel LB a w := by
 have hl0 := hl
 have hk : k + 1 = ops.size := lastC_size hl
 have cnt : ∀ (L : Array Bool) i, L.getD i true = false → L.toList[i]? = some false := fun L i h1 => by
  rw [Array.getD_eq_getD_getElem?] at h1
  rw [Array.getElem?_toList]
  cases hL : L[i]? with
  | none => rw [hL] at h1; cases h1
  | some b => rw [hL] at h1; simpa using h1
 intro fuel
 induction fuel with
 | zero =>
  intro LB a w hs hlk hc hlp hcl h
  have := cnt_set _ _ (cnt LB k hlk)
  omega
 | succ fuel ih =>
  intro LB a w hs hlk hc hlp hcl h
  refine ⟨fun hr => ?_, fun i hi => ?_⟩
  ·rw [ready_nil ht hs hr k (by omega)] at hlk
   cases hlk
  ·obtain ⟨h1, o', ho, hdep⟩ := mem_ready.1 hi
   have his : i < ops.size := (Array.getElem?_eq_some_iff.1 ho).1
   have hc1 := cnt_set _ _ (cnt LB i h1)
   by_cases hik : i = k
   ·subst hik
    have h3 := lastC_all hl ho (fun e he hb => hdep e he hb) hcl p hpk
    have h4 := cnt LB p hlp
    rw [Array.getElem?_toList] at h4
    rw [Array.getD_eq_getD_getElem?, h4] at h3
    cases h3
   ·by_cases hip : i = p
    ·subst hip
     rw [hp] at ho
     have ho' := (Option.some.inj ho).symm
     subst ho'
     obtain ⟨v', w', hr, hRA⟩ := happ a w h.frameE h.glob (h.deps hi)
     have step : wpOp P ops Q i (fun a2 w2 => a2 = a.put (some dp) v' ∧ w2 = w') a w := by
      unfold wpOp
      simp only [hp, wanted_free hog, if_true]
      refine .inl ?_
      unfold Oper.wp
      rw [hr]
      exact ⟨by rw [hod], rfl⟩
     refine wpOp_mono ?_ step
     rintro a2 w2 ⟨rfl, rfl⟩
     have hdst : (ops[i]?).bind (·.dst) = some dp := by rw [hp]; exact hod
     refine region_lastSC (t0 := t0) (d0 := d0) (dn := fun j => decide (j = i) || (decide (j < k) && !late j)) (G := fun w => w = w2) (I := IP L2 i v') hl0 ht ?_ ?_ (hfin _ _ _ h.glob hRA) fuel _ _ _ (by simpa using hs) (by rw [getD_set_ne true hik]; exact hlk) ?_ ?_ (closed_step (by omega) hp (fun e he hb => hdep e he hb) hcl) ?_
     ·rintro j v w1 w3 _ ⟨h5, h6⟩ hb
      exact ⟨h5, atI_stab hst2 _ _ _ _ h6 hb⟩
     ·intro j hj hd
      simp only [Bool.or_eq_false_iff, decide_eq_false_iff_not, Bool.and_eq_false_iff, Bool.not_eq_false'] at hd
      refine hlate v' w2 j hj hd.1 ?_
      rcases hd.2 with h5 | h5
      ·exact absurd hj h5
      ·exact h5
     ·intro j hd
      simp only [Bool.or_eq_true, decide_eq_true_eq, Bool.and_eq_true, Bool.not_eq_true'] at hd
      by_cases hji : j = i
      ·subst hji
       rw [Array.getD_eq_getD_getElem?, Array.getElem?_setIfInBounds_self_of_lt (by omega)]; rfl
      ·rcases hd with hd | ⟨hd1, hd2⟩
       ·exact absurd hd hji
       ·rw [getD_set_ne false (Ne.symm hji)]
        refine early_done (D := fun x => LB.getD x false = true) (fun x hx => ?_) (fun j hj x hx => hcl j hj x hx) j (hearly j hd1 hji hd2)
        obtain ⟨e, he, h5, h6⟩ := aft_mem hp hx
        have h7 := hdep e he h6
        rw [h5] at h7
        exact h7
     ·rw [Array.toList_setIfInBounds]; omega
     ·refine ⟨by rw [put_size]; exact h.size, by rw [put_defers]; exact h.defers, fun t hf => ?_, rfl, fun j d hd hj => ?_⟩
      ·rw [put_other ?_]
       ·exact h.frame t hf
       ·intro e
        have := Array.all_eq_true'.1 hf _ (Array.mem_of_getElem? hp)
        simp at this
        exact this (hod.trans e)
      ·by_cases hji : j = i
       ·subst hji
        rw [hdst] at hd
        rw [put_at hd (by rw [h.size]; exact (tidy_dst ht (hdst.trans hd)).1)]
        exact ⟨fun _ => rfl, by rw [hL2p]; trivial⟩
       ·rw [getD_set_ne false (Ne.symm hji)] at hj
        rw [put_other (fun e => hji ((tidy_dst ht (hdst.trans e)).2 j hd))]
        have hjk : j < k := by
         obtain ⟨o2, ho2, _⟩ := Option.bind_eq_some_iff.1 hd
         have h5 := (Array.getElem?_eq_some_iff.1 ho2).1
         have h6 : j ≠ k := fun e => by
          subst e
          have h4 := cnt LB j hlk
          rw [Array.getElem?_toList] at h4
          rw [Array.getD_eq_getD_getElem?, h4] at hj
          cases hj
         omega
        exact ⟨fun e => absurd e hji, hpure j hjk hji _ _ _ (h.done j d hd hj)⟩
    ·refine wpOp_mono ?_ (hstep i (by omega) hip a w h.frameE h.glob (h.deps hi))
     rintro a' w' ⟨⟨v, rfl, hI⟩, hG, hB⟩
     refine ih _ _ _ (by simpa using hs) (by rw [getD_set_ne true hik]; exact hlk) ?_ (by rw [getD_set_ne true hip]; exact hlp) (fun j hj x hx => ?_) (h.next ht h1 (fun i v w w' _ h hb => atI_stab hst i v w w' h hb) hI hG hB)
     ·rw [Array.toList_setIfInBounds]
      omega
     ·have hx2 : LB.getD x false = true := by
       by_cases hji : j = i
       ·subst hji
        obtain ⟨e, he, h5, h6⟩ := aft_mem ho hx
        have h7 := hdep e he h6
        rw [h5] at h7
        exact h7
       ·rw [getD_set_ne false (Ne.symm hji)] at hj
        exact hcl j hj x hx
      by_cases hxi : x = i
      ·subst hxi
       rw [Array.getD_eq_getD_getElem?, Array.getElem?_setIfInBounds_self_of_lt (by omega)]; rfl
      ·rw [getD_set_ne false (Ne.symm hxi)]; exact hx2
theorem regBPC {id dp p k : Nat} {o : Oper} {t e tx tz : TypeId} {inf : TypeInfo} {z : Value} {gi m : Nat} {g : GR} {aftp : Array Edge} (hm : P.follows .mixedOrders = true) (hS : St w0 O G K W) (hk : os[k]? = some o) (hlen : os.length = k + 1) (hl : lastC os.toArray k = true) (ht : tidyR os.toArray n = true) (hdst : (os.take k).all (fun o => o.dst.isSome) = true) (hfree : ∀ d, o.dst = some d → look l d = none)
  (hp : os[p]? = some ⟨some dp, .call { callee := .builtin .append, args := #[.tmp tx, .tmp tz], argTypes := #[t, t] }, ty, pos, aftp, none⟩) (hpk : Nat.blt p k = true)
  (hU : P.underlying t = some (.slice e)) (hinf : P.info? e = some inf) (hz : inf.zero = some z) (hzs : z.cells.size = inf.size) (hsz : 0 < inf.size)
  (hi : G[gi]? = some g) (he : g.e = e) (hgs : g.size = inf.size) (h63 : g.n + m ≤ maxLen) (hbytes : (g.n + m) * inf.bytes ≤ 140737488355328)
  (h : BLP P n os.toArray Q l W p (fun Lr L2r => ∃ (py : Asr) (q : List Value → World → Prop), OpG n os.toArray l Lr.reverse p tx (isV g.v) ∧ OpG n os.toArray l Lr.reverse p tz py ∧ RowOf m inf.size q py ∧
   ∀ A v' news W', Below W.heap.size W A → q news A → St w0 O (G.set gi ⟨v', g.n + m, g.xs ++ news, e, g.size⟩) ((W.heap.size, A) :: K) W' → FinI (os.take k) (pvL v' p 0 L2r.reverse) l (fun l' W' => OpsF P n os.toArray Q [o] l' W') W') k [] [] 0) : CodeF P n (.region id os.toArray true) Q l W := by
 obtain ⟨Lr, L2r, h1, h2, h3, h4, h5, py, q, hx, hy, hpy, hfin⟩ := blp_run p ht k 0 [] [] rfl rfl (fun p hp => by cases hp) (fun p hp => by cases hp) (fun i hi => by omega) h
 have hpk' : p < k := Nat.lt_of_lt_of_le (Nat.lt_succ_self _) (Nat.le_of_ble_eq_true hpk)
 subst he
 rw [Nat.zero_add] at h1 h2 h5
 have hpo : os.toArray[p]? = some ⟨some dp, .call { callee := .builtin .append, args := #[.tmp tx, .tmp tz], argTypes := #[t, t] }, ty, pos, aftp, none⟩ := by simpa using hp
 have hko : os.toArray[k]? = some o := by simpa using hk
 have hL2p : atI L2r.reverse p = anyA := by
  rcases (h5 p hpk').2 with h6 | h6
  ·exact h6.2
  ·exact absurd rfl h6.1
 intro a ha
 refine wp_region_any hm (region_appendC (W := W) (t0 := a.tmps) (d0 := a.defers) (L := Lr.reverse) (L2 := L2r.reverse) (late := fun j => !earlyR os.toArray p j)
  (RA := fun A v' W' => ∃ news, q news A ∧ St w0 O (G.set gi ⟨v', g.n + m, g.xs ++ news, g.e, g.size⟩) ((W.heap.size, A) :: K) W') hl (by rw [ha.size]; exact ht) (stabL_of fun q hq => h3 q (List.mem_reverse.1 hq)) (stabL_of fun q hq => h4 q (List.mem_reverse.1 hq)) hpk' hpo rfl rfl ?_ ?_ ?_ hL2p ?_ ?_ ?_ _ _ _ _ (by simp) ?_ (count_rep _) ?_ (fun j hj => by rw [Array.getD_eq_getD_getElem?, Array.getElem?_replicate] at hj; split at hj <;> simp at hj) (inv_zero ((Below.refl _ _).drew)))
 ·intro j hj hjp he
  simp only [Bool.not_eq_false'] at he
  exact List.contains_iff_mem.1 he
 ·intro i hi hip
  rcases (h5 i hi).2 with h6 | h6
  ·exact absurd h6.1 hip
  ·exact h6.2.1 a ha
 ·intro b w hF hG hD
  have ex : b.eval (.tmp tx) = g.v := hx a ha b w hF hD
  obtain ⟨bb, oo, c, cs, ey, hc, hcl, h1c, hq⟩ := hpy _ w (hy a ha b w hF hD)
  have hS2 := hS.call hG
  have hrow := hS2.row gi hi
  rw [hgs] at hrow
  obtain ⟨v', W', hr, k2, k3, k4⟩ := append_own2 (P := P) (w := w) w0.heap.size t ty g.e inf z hU hinf hz hzs hsz g.v g.n g.xs hrow ⟨bb, oo, none⟩ m c cs hcl (fun j u hj => by rw [Addr.add_lit]; exact hc.get j u hj) (fun u hu => List.all_eq_true.1 h1c u hu) h63 hbytes hS2.below.size
  rw [← hgs] at k2
  refine ⟨v', W', ?_, cs, hq, hS2.setG gi hi k2 k3 k4⟩
  unfold execOp
  simp only [resolve, invoke, builtin, Sem.run_bind, Sem.run_pure, Result.andThen_ok, List.map_toArray, List.map_cons, List.map_nil, ex, ey, hr]
 ·intro i hi hip v w w' hv
  exact (h5 i hi).1 v w w' hv
 ·intro v' W2 i hi hip hlt
  rcases (h5 i hi).2 with h6 | h6
  ·exact absurd h6.1 hip
  ·rcases h6.2.2 with h7 | h7
   ·rw [h7] at hlt; cases hlt
   ·exact h7 v' W2 a ha
 ·rintro A v' W2 hB ⟨news, hq, hS2⟩
  intro a' W' hs hd hf hG hI
  subst hG
  have hdst' : ∀ o ∈ os.take k, ∃ d, o.dst = some d := fun o ho => Option.isSome_iff_exists.1 (List.all_eq_true.1 hdst o ho)
  have htk : (os.take k).length = k := by simp; omega
  refine fin_has (os.take k) (pvL v' p 0 L2r.reverse) l (fun i d hi hd' => ?_) (hs.trans ha.size) (hd.trans ha.defers) ?_ hdst' (fun l' h ha' => ?_) (hfin A v' news W' hB hq hS2)
  ·have hik : i < k := by omega
   have h6 := hI i d hik (by rw [List.getElem?_take, if_pos hik] at hd'; simpa using hd')
   rw [atI_pvL L2r.reverse 0 i (by simp; omega)]
   by_cases hip : i + 0 = p
   ·rw [if_pos hip]; exact h6.1 hip
   ·rw [if_neg hip]; exact h6.2
  ·intro t' v hv hno
   rw [hf t' (by
    unfold freeT; rw [Array.all_eq_true']; intro o' ho'
    have ho2 : o' ∈ os := by simpa using ho'
    obtain ⟨j, hj⟩ := List.getElem?_of_mem ho2
    by_cases hjk : j < k
    ·have : o' ∈ os.take k := List.mem_of_getElem? (by rw [List.getElem?_take, if_pos hjk]; exact hj)
     simpa using hno o' this
    ·have hjl := (List.getElem?_eq_some_iff.1 hj).1
     have : j = k := by omega
     subst this
     rw [hk] at hj
     have e2 := Option.some.inj hj
     subst e2
     cases hx : o.dst with
     | none => simp
     | some d => simp; intro e; subst e; rw [hfree d hx] at hv; cases hv)]
   exact ha.at_ t' v hv
  ·have h6 := h a' ha'
   unfold wpOp
   rw [hko]
   exact h6
 ·rw [Array.getD_eq_getD_getElem?, Array.getElem?_replicate, if_pos (by simp; omega)]; rfl
 ·rw [Array.getD_eq_getD_getElem?, Array.getElem?_replicate, if_pos (by simp; omega)]; rfl
end
end Go.Proofs.Ytpkcaabbcoiiiaa
namespace Go.Proofs.Ytpkcaabbcoiiiaa
open Go Go.RowKit
def isSpN (lo : Nat) (S : PS) : Asr := fun v w => ∃ s2 : SF, v = s2.val ∧ ∀ W2, Agree lo w W2 → SIs W2 S s2
theorem copySp_is (S : PS) (sf : SF) (w : World) (hs : SIs w S sf) {lo : Nat} (hlo : lo ≤ w.heap.size) : Calls Try.prog 32 #[sf.val] w (GivesN (isSpN lo S) w) := by
 cases S with
 | one t n =>
  obtain ⟨a, c, rfl⟩ := hs
  refine (copySpace1 t n a c w).mono fun e w' ⟨he, hb⟩ => ⟨_, he, fun w3 hg => ⟨⟨t, n, none, 0, 0⟩, rfl, fun W2 h2 => ⟨none, 0, rfl⟩⟩, hb⟩
 | two t n u m =>
  obtain ⟨b, off, c, a1, c1, a2, c2, rfl, h1, h2⟩ := hs
  refine (copySpace2 5 0 (some ⟨b, off, none⟩) 2 c [⟨t, n, a1, 0, c1⟩, ⟨u, m, a2, 0, c2⟩] w (fun i q hq => ?_) rfl (fun q hq => ?_) (Nat.le_refl _)).mono ?_
  ·match i, hq with
   | 0, hq => cases hq; exact ⟨b, off, rfl, by rw [Nat.zero_mul, Nat.add_zero]; exact h1⟩
   | 1, hq => cases hq; exact ⟨b, off, rfl, by rw [Nat.one_mul]; exact h2⟩
   | i + 2, hq => simp at hq
  ·simp at hq; rcases hq with rfl | rfl <;> rfl
  ·rintro e w' ⟨v, he, hr, hb⟩
   refine ⟨_, he, fun w3 hg => ?_, hb⟩
   obtain ⟨b9, c9, rfl, _⟩ := ownsRow_at hr (by omega)
   refine ⟨⟨5, 0, some ⟨b9, 0, none⟩, 2, c9⟩, rfl, fun W2 h3 => ?_⟩
   have h4 := ownsRow_agree (ownsRow_base (ownsRow_agree hr hg) hlo) h3
   have hc : ∀ (j : Nat) x, ([SF.mk t n a1 0 c1, ⟨u, m, a2, 0, c2⟩].flatMap bare3)[j]? = some x → W2.cell? ⟨b9, j, none⟩ = some x := fun j x hj => ownsRow_blk h4 hj
   exact ⟨b9, 0, c9, none, 0, none, 0, rfl, ⟨hc 0 _ rfl, hc 1 _ rfl, hc 2 _ rfl⟩, ⟨hc 3 _ rfl, hc 4 _ rfl, hc 5 _ rfl⟩⟩
end Go.Proofs.Ytpkcaabbcoiiiaa
namespace Go.Proofs.Ytpkcaabbcoiiiaa
open Go Go.RowKit
def Spc : Option PS → World → SF → Prop
 | none, _, f => f = ⟨0, 0, none, 0, 0⟩
 | some S, w, f => S.ok ∧ SIs w S f
theorem Spc.below {o : Option PS} {w w' : World} {f : SF} (h : Spc o w f) (hb : Below w.heap.size w w') : Spc o w' f := by
 cases o with
 | none => exact h
 | some S => exact ⟨h.1, h.2.below hb⟩
theorem Spc.sin {o : Option PS} {w : World} {f g : SF} (h : Spc o w f) (h2 : Spc o w g) : ∃ s t : SV, s.f = f ∧ t.f = g ∧ SIn w 2 s ∧ SIn w 2 t ∧ smS 3 s = true ∧ eqS 2 s t = true := by
 cases o with
 | none =>
  cases h; cases h2
  exact ⟨.mk ⟨0, 0, none, 0, 0⟩ [], .mk ⟨0, 0, none, 0, 0⟩ [], rfl, rfl, ⟨rfl, .inl rfl, by simp⟩, ⟨rfl, .inl rfl, by simp⟩, rfl, by simp [eqS]⟩
 | some S =>
  obtain ⟨hok, h⟩ := h
  obtain ⟨_, h2⟩ := h2
  cases S with
  | one t n =>
   obtain ⟨a, c, rfl⟩ := h
   obtain ⟨a', c', rfl⟩ := h2
   exact ⟨.mk ⟨t, n, a, 0, c⟩ [], .mk ⟨t, n, a', 0, c'⟩ [], rfl, rfl, ⟨rfl, .inl rfl, by simp⟩, ⟨rfl, .inl rfl, by simp⟩, by simp [smS, SV.f], by simp [eqS]⟩
  | two t n u m =>
   have key : ∀ {f : SF}, SIs w (.two t n u m) f → ∃ (b off c c1 c2 : Nat) (a1 a2 : Option Addr), f = ⟨5, 0, some ⟨b, off, none⟩, 2, c⟩ ∧ SIn w 2 (.mk ⟨5, 0, some ⟨b, off, none⟩, 2, c⟩ [.mk ⟨t, n, a1, 0, c1⟩ [], .mk ⟨u, m, a2, 0, c2⟩ []]) := by
    rintro f ⟨b, off, c, a1, c1, a2, c2, rfl, h1, h2⟩
    refine ⟨b, off, c, c1, c2, a1, a2, rfl, rfl, .inr ⟨b, off, rfl, fun i p hi => ?_⟩, ?_⟩
    ·match i, hi with
     | 0, hi => simp at hi; subst hi; simpa [SV.f] using h1
     | 1, hi => simp at hi; subst hi; simpa [SV.f] using h2
    ·intro p hp
     simp at hp
     rcases hp with rfl | rfl <;> exact ⟨rfl, .inl rfl, by simp⟩
   obtain ⟨b, off, c, c1, c2, a1, a2, rfl, k1⟩ := key h
   obtain ⟨b', off', c', c1', c2', a1', a2', rfl, k2⟩ := key h2
   exact ⟨_, _, rfl, rfl, k1, k2, by simp [smS, SV.f], by simp [eqS]⟩
theorem sameSpc {o : Option PS} {w : World} {f g : SF} (h : Spc o w f) (h2 : Spc o w g) : Calls Try.prog 43 #[f.val, g.val] w fun e w' => e = .returned (.bool true) ∧ Below w.heap.size w w' := by
 obtain ⟨s, t, rfl, rfl, k1, k2, k3, k4⟩ := h.sin h2
 have h9 := sameSpaceR_is 2 3 s t w k1 k2 k3
 rw [k4] at h9
 exact h9
end Go.Proofs.Ytpkcaabbcoiiiaa
namespace Go.Proofs.Ytpkcaabbcoiiiaa
open Go Go.RowKit
section
variable {P : Program} {ops : Array Oper} {Q : Exit → Act → World → Prop} {n : Nat} {l : Fr} {W : World} {L : List Asr} {i : Nat}
variable {d : Nat} {op : Op} {ty : TypeId} {pos : String} {aft_ : Array Edge}
theorem rgPs (ds : List (Nat × Nat × Asr)) (hi : ops[i]? = some ⟨some d, op, ty, pos, aft_, none⟩) {q : Asr} (hds : DepsL ops L i ds)
  (hr : ∀ (ev : Operand → Value) w, Below W.heap.size W w → DepsH ds ev w → ∃ v, (execOp ev ⟨some d, op, ty, pos, #[], none⟩).run P w = .ok (.value v) w ∧ q v w) (hI : atI L i = q) : RG P n ops Q l W L i :=
 fun a ha => st_value hi (w_free rfl) fun b w hF hG hD => by
  have key : ∀ (ds : List (Nat × Nat × Asr)), DepsL ops L i ds → DepsH ds b.eval w := by
   intro ds
   induction ds with
   | nil => intro _; trivial
   | cons x xs ih =>
    intro h
    refine ⟨?_, ih h.2⟩
    have h1 := hD x.1 x.2.1 h.1.1
    rw [h.1.2] at h1
    exact h1
  obtain ⟨v, h2, h3⟩ := hr b.eval w hG (key ds hds)
  exact ⟨v, w, by rw [execOp_guard b.eval _ _ _ _ pos _ #[] _ none]; exact h2, by rw [hI]; exact h3, Below.refl _ _⟩
end
section
variable {ops : Array Oper} {Q : Exit → Act → World → Prop} {n : Nat} {l : Fr} {W : World} {L : List Asr} {i : Nat} {d : Nat} {ty : TypeId} {pos : String} {aft_ : Array Edge}
end
end Go.Proofs.Ytpkcaabbcoiiiaa
namespace Go.Proofs.Ytpkcaabbcoiiiaa
open Go Go.RowKit
abbrev nineP (f g t : Int) (x : WF) : List Value := [.int .i64 f, .int .i64 g, .int .i64 t, .bool x.z, .int .i64 x.c, .int .u64 (x.g : Int), .slice x.ra x.rl x.rc, .slice x.ca x.cl x.cc, .slice x.pa x.pl x.pc]
abbrev mkC (sf : SF) (f0 : WF) (sq : SF) (st sy : Int) (vf vt : Value) : List Value := [.int .i64 sf.tag, .int .i64 sf.dim, .slice sf.a sf.len sf.cap, .bool f0.z, .int .i64 f0.c, .int .u64 (f0.g : Int), .slice f0.ra f0.rl f0.rc, .slice f0.ca f0.cl f0.cc, .slice f0.pa f0.pl f0.pc, .int .i64 sq.tag, .int .i64 sq.dim, .slice sq.a sq.len sq.cap, .int .i64 st, .int .i64 sy, vf, vt]
def isTrP (lo : Nat) (f g t : Int) (S : PS) (x : PX) : Asr := fun v w => ∃ wf : WF, v = .agg (nineP f g t wf).toArray ∧ XNew lo w S wf x
def isTrRow (lo : Nat) (f g t : Int) (S : PS) (x : PX) : Asr := fun v w => ∃ (wf : WF) (B : Nat), v = .slice (some ⟨B, 0, none⟩) 1 1 ∧ w.heap[B]? = some (.cells (nineP f g t wf).toArray 100 (0, 0)) ∧ XNew lo w S wf x
theorem stab_trP {lo : Nat} {f g t : Int} {S : PS} {x : PX} : Stab (isTrP lo f g t S x) := fun v w w' ⟨wf, h1, h2⟩ hb => ⟨wf, h1, h2.below hb⟩
theorem stab_trRow {lo : Nat} {f g t : Int} {S : PS} {x : PX} : Stab (isTrRow lo f g t S x) := fun v w w' ⟨wf, B, h1, h2, h3⟩ hb => ⟨wf, B, h1, (hb.block B (lt_of_heap h2)).trans h2, h3.below hb⟩
theorem bldT9 (f g t : Int) (x : WF) : Try.prog.built 100 [(0, .int .i64 f), (1, .int .i64 g), (2, .int .i64 t), (3, x.val)] = some (nineP f g t x).toArray := by kernel_rfl
theorem bld_trP {d j1 j2 j3 j4 t1 t2 t3 t4 lo : Nat} {W : World} {ty : TypeId} {pos : String} {f g t : Int} {S : PS} {x : PX} : ∀ (ev : Operand → Value) (w : World), Below W.heap.size W w → DepsH [(j1, t1, isV (.int .i64 f)), (j2, t2, isV (.int .i64 g)), (j3, t3, isV (.int .i64 t)), (j4, t4, isNew lo S x)] ev w →
  ∃ v, (execOp ev ⟨some d, .build 100 #[(0, .tmp t1), (1, .tmp t2), (2, .tmp t3), (3, .tmp t4)], ty, pos, #[], none⟩).run Try.prog w = .ok (.value v) w ∧ isTrP lo f g t S x v w := fun ev w _ ⟨h1, h2, h3, ⟨wf, h4, h5⟩, _⟩ => by
 have e1 : ev (.tmp t1) = _ := h1
 have e2 : ev (.tmp t2) = _ := h2
 have e3 : ev (.tmp t3) = _ := h3
 have e4 : ev (.tmp t4) = _ := h4
 refine ⟨.agg (nineP f g t wf).toArray, ?_, wf, rfl, h5⟩
 have hr := run_build w 100 #[(0, .int .i64 f), (1, .int .i64 g), (2, .int .i64 t), (3, wf.val)] _ (P := Try.prog) (bldT9 f g t wf)
 unfold execOp
 simp only [List.map_toArray, List.map_cons, List.map_nil, e1, e2, e3, e4]
 simp [hr]
theorem rowOf_tr9 {lo : Nat} {f g t : Int} {S : PS} {x : PX} : RowOf 1 9 (fun cs w => ∃ wf : WF, cs = nineP f g t wf ∧ XNew lo w S wf x) (isTrRow lo f g t S x) := fun v w ⟨wf, B, h1, h2, h3⟩ =>
 ⟨B, 0, 1, _, h1, CellsAt.own (j := 0) (m := 9) h2 rfl, rfl, rfl, wf, rfl, h3⟩
theorem bs_tr9 (f g t : Int) (x : WF) : Instr.fill (fun i => some (i * 9, 9)) ((Array.range (1 * 9)).map ((Value.cells (.agg #[.int .i64 0, .int .i64 0, .int .i64 0, .bool false, .int .i64 0, .int .u64 0, .slice none 0 0, .slice none 0 0, .slice none 0 0]))[· % (Value.cells (.agg #[.int .i64 0, .int .i64 0, .int .i64 0, .bool false, .int .i64 0, .int .u64 0, .slice none 0 0, .slice none 0 0, .slice none 0 0])).size]!)) [(0, .agg (nineP f g t x).toArray)] = some (nineP f g t x).toArray := by kernel_rfl
section
variable {ops : Array Oper} {Q : Exit → Act → World → Prop} {n : Nat} {l : Fr} {W : World} {L : List Asr} {i : Nat} {d : Nat} {ty : TypeId} {pos : String} {aft_ : Array Edge}
theorem rg_trRow {tt lo : Nat} {f g t : Int} {S : PS} {x : PX} (hi : ops[i]? = some ⟨some d, .buildSlice 58 1 #[(0, .tmp tt)], ty, pos, aft_, none⟩) (hp : OpG n ops l L i tt (isTrP lo f g t S x)) (hI : atI L i = isTrRow lo f g t S x) : RG Try.prog n ops Q l W L i :=
 rg_row (xs := [(0, .tmp tt)]) [isTrP lo f g t S x] hi (w_free rfl) Try.underlying58 Try.sizeOf100 Try.zeroValue100 rfl rfl ⟨p_tmp hp, trivial⟩ fun vs w hb hh => by
  match vs, hh with
  | [v], ⟨⟨wf, h1, h2⟩, _⟩ =>
   subst h1
   exact ⟨nineP f g t wf, bs_tr9 f g t wf, fun B2 w' hB h4 h5 => by rw [hI]; exact ⟨wf, B2, rfl, h4, h2.below h5⟩⟩
end
end Go.Proofs.Ytpkcaabbcoiiiaa
namespace Go.Proofs.Ytpkcaabbcoiiiaa
open Go Go.RowKit
theorem fa_100_0 (w : World) (b o : Nat) : (Instr.fieldAt 100 (.pointer (some ⟨b, o, none⟩)) 0).run Try.prog w = .ok (.pointer (some ⟨b, o + 0, none⟩)) w := by
 simp [Instr.fieldAt, run_underlying Try.underlying100, Instr.sureAddr, go_sem, Addr.add_lit]
theorem fa_100_1 (w : World) (b o : Nat) : (Instr.fieldAt 100 (.pointer (some ⟨b, o, none⟩)) 1).run Try.prog w = .ok (.pointer (some ⟨b, o + 1, none⟩)) w := by
 simp [Instr.fieldAt, run_underlying Try.underlying100, Instr.sureAddr, go_sem, Addr.add_lit]
theorem fa_100_2 (w : World) (b o : Nat) : (Instr.fieldAt 100 (.pointer (some ⟨b, o, none⟩)) 2).run Try.prog w = .ok (.pointer (some ⟨b, o + 2, none⟩)) w := by
 simp [Instr.fieldAt, run_underlying Try.underlying100, Instr.sureAddr, go_sem, Addr.add_lit]
theorem fa_100_3 (w : World) (b o : Nat) : (Instr.fieldAt 100 (.pointer (some ⟨b, o, none⟩)) 3).run Try.prog w = .ok (.pointer (some ⟨b, o + 3, none⟩)) w := by
 simp [Instr.fieldAt, run_underlying Try.underlying100, Instr.sureAddr, go_sem, Addr.add_lit]
theorem fa_60_0 (w : World) (b o : Nat) : (Instr.fieldAt 60 (.pointer (some ⟨b, o, none⟩)) 0).run Try.prog w = .ok (.pointer (some ⟨b, o + 0, none⟩)) w := by
 simp [Instr.fieldAt, run_underlying Try.underlying60, Instr.sureAddr, go_sem, Addr.add_lit]
theorem fa_60_1 (w : World) (b o : Nat) : (Instr.fieldAt 60 (.pointer (some ⟨b, o, none⟩)) 1).run Try.prog w = .ok (.pointer (some ⟨b, o + 3, none⟩)) w := by
 simp [Instr.fieldAt, run_underlying Try.underlying60, Instr.sureAddr, go_sem, Addr.add_lit]
theorem fa_60_2 (w : World) (b o : Nat) : (Instr.fieldAt 60 (.pointer (some ⟨b, o, none⟩)) 2).run Try.prog w = .ok (.pointer (some ⟨b, o + 4, none⟩)) w := by
 simp [Instr.fieldAt, run_underlying Try.underlying60, Instr.sureAddr, go_sem, Addr.add_lit]
theorem fa_60_3 (w : World) (b o : Nat) : (Instr.fieldAt 60 (.pointer (some ⟨b, o, none⟩)) 3).run Try.prog w = .ok (.pointer (some ⟨b, o + 5, none⟩)) w := by
 simp [Instr.fieldAt, run_underlying Try.underlying60, Instr.sureAddr, go_sem, Addr.add_lit]
theorem fa_60_4 (w : World) (b o : Nat) : (Instr.fieldAt 60 (.pointer (some ⟨b, o, none⟩)) 4).run Try.prog w = .ok (.pointer (some ⟨b, o + 6, none⟩)) w := by
 simp [Instr.fieldAt, run_underlying Try.underlying60, Instr.sureAddr, go_sem, Addr.add_lit]
theorem goes_69 : goesIn Try.prog 69 = true := by kernel_rfl
theorem goes_73 : goesIn Try.prog 73 = true := by kernel_rfl
theorem goes_97 : goesIn Try.prog 97 = true := by kernel_rfl
theorem isStW_is (a : AV) (n : Int) (w : World) :
  Calls Try.prog 97 #[a.val, .int .i64 n] w (fun e w' => e = .returned (.bool (inQ n a.st)) ∧ Below w.heap.size w w') := by
 refine enterF (args := [a.val, .int .i64 n]) Try.func97 rfl Try.ntmps97 rfl ?_
 have hS := St.start w
 refine seqF (regF ?_)
 refine op_box (cs := [_, _, _, _, _, _, _]) hS rfl rfl rfl ?_
 clear hS; intro B1 W1 hS
 refine op_assign rfl rfl ?_
 refine endF (XF.thenN ?_)
 refine seqF (regF ?_)
 refine op_move rfl rfl ?_
 refine op_geq rfl rfl rfl ?_
 refine op_move rfl rfl ?_
 refine op_cases (d := 7) rfl (fun hc => ?_) (fun hc => ?_)
 ·have hg7 := of_decide_eq_true hc; clear hc
  refine op_wantedF (d := 7) rfl rfl ?_
  refine op_move rfl rfl ?_
  refine op_wantedF (d := 7) rfl rfl ?_
  refine op_field (o' := 3) fa_60_1 rfl rfl rfl ?_
  refine op_wantedF (d := 7) rfl rfl ?_
  refine op_load Try.isAgg3 rfl (cell_own (hS.at_ 0 rfl) rfl) rfl ?_
  refine op_wantedF (d := 7) rfl rfl ?_
  refine op_lss rfl rfl rfl ?_
  refine op_pickT rfl rfl rfl ?_
  refine op_assign rfl rfl ?_
  refine endF (XF.thenN ?_)
  refine retF ?_
  refine XF.res (res1 Try.results97 rfl) ?_
  exact ⟨rbool (by simp [inQ, show 0 ≤ n from hg7]), hS.below⟩
 ·have hg7 := of_decide_eq_false hc; clear hc
  iterate 4 refine op_notF (d := 7) rfl rfl rfl rfl ?_
  refine op_pickF rfl rfl rfl ?_
  refine op_assign rfl rfl ?_
  refine endF (XF.thenN ?_)
  refine retF ?_
  refine XF.res (res1 Try.results97 rfl) ?_
  exact ⟨rbool (by simp [inQ]; omega), hS.below⟩
theorem stR_is (a : AV) (n : Int) (w : World) :
  Calls Try.prog 73 #[a.val, .int .i64 n] w (fun e w' => e = .returned (.bool (inQ n a.st)) ∧ Below w.heap.size w w') := by
 refine enterF (args := [a.val, .int .i64 n]) Try.func73 rfl Try.ntmps73 rfl ?_
 have hS := St.start w
 refine seqF (regF ?_)
 refine op_box (cs := [_, _, _, _, _, _, _]) hS rfl rfl rfl ?_
 clear hS; intro B1 W1 hS
 refine op_assign rfl rfl ?_
 refine endF (XF.thenN ?_)
 refine seqF (regF ?_)
 refine op_move rfl rfl ?_
 refine op_geq rfl rfl rfl ?_
 refine op_move rfl rfl ?_
 refine op_cases (d := 7) rfl (fun hc => ?_) (fun hc => ?_)
 ·have hg7 := of_decide_eq_true hc; clear hc
  refine op_wantedF (d := 7) rfl rfl ?_
  refine op_move rfl rfl ?_
  refine op_wantedF (d := 7) rfl rfl ?_
  refine op_field (o' := 3) fa_60_1 rfl rfl rfl ?_
  refine op_wantedF (d := 7) rfl rfl ?_
  refine op_load Try.isAgg3 rfl (cell_own (hS.at_ 0 rfl) rfl) rfl ?_
  refine op_wantedF (d := 7) rfl rfl ?_
  refine op_lss rfl rfl rfl ?_
  refine op_pickT rfl rfl rfl ?_
  refine op_assign rfl rfl ?_
  refine endF (XF.thenN ?_)
  refine retF ?_
  refine XF.res (res1 Try.results73 rfl) ?_
  exact ⟨rbool (by simp [inQ, show 0 ≤ n from hg7]), hS.below⟩
 ·have hg7 := of_decide_eq_false hc; clear hc
  iterate 4 refine op_notF (d := 7) rfl rfl rfl rfl ?_
  refine op_pickF rfl rfl rfl ?_
  refine op_assign rfl rfl ?_
  refine endF (XF.thenN ?_)
  refine retF ?_
  refine XF.res (res1 Try.results73 rfl) ?_
  exact ⟨rbool (by simp [inQ]; omega), hS.below⟩
theorem ashapeW_c (ds d : Nat) (s : SV) (st sy : Int) (fa : Option Addr) (fl fc : Nat) (fs : List Int) (ta : Option Addr) (tl tc : Nat) (ts : List TV) (w : World) (hs : SIn w ds s) (hfrow : Row w fa fs) (hflen : fs.length = fl) (htrow : TRow w ta ts) (htlen : ts.length = tl) (htin : ∀ t ∈ ts, WIn w d t.x) (hfm : fl ≤ 9223372036854775807) (htm : tl ≤ 9223372036854775807) :
  Calls Try.prog 69 #[.agg #[.int .i64 s.f.tag, .int .i64 s.f.dim, .slice s.f.a s.f.len s.f.cap, .int .i64 st, .int .i64 sy, .slice fa fl fc, .slice ta tl tc]] w (fun e w' => e = .returned (.bool (ashapeB st sy fs ts)) ∧ Below w.heap.size w w') := by
 refine enterF (args := [.agg #[.int .i64 s.f.tag, .int .i64 s.f.dim, .slice s.f.a s.f.len s.f.cap, .int .i64 st, .int .i64 sy, .slice fa fl fc, .slice ta tl tc]]) Try.func69 rfl Try.ntmps69 rfl ?_
 have hS := St.start w
 refine seqF (regF ?_)
 refine op_box (cs := [_, _, _, _, _, _, _]) hS rfl rfl rfl ?_
 clear hS; intro B1 W1 hS
 refine op_assign rfl rfl ?_
 refine endF (XF.thenN ?_)
 refine seqF ?_
 refine seqF (regF ?_)
 refine op_field (o' := 3) fa_60_1 rfl rfl rfl ?_
 refine op_load Try.isAgg3 rfl (cell_own (hS.at_ 0 rfl) rfl) rfl ?_
 refine op_lss rfl rfl rfl ?_
 refine op_move rfl rfl ?_
 refine op_cases (d := 10) rfl (fun hc => ?_) (fun hc => ?_)
 ·have hg10 := of_decide_eq_true hc; clear hc
  iterate 3 refine op_notF (d := 10) rfl rfl rfl rfl ?_
  refine op_pickT rfl rfl rfl ?_
  refine op_move rfl rfl ?_
  iterate 3 refine op_notF (d := 15) rfl rfl rfl rfl ?_
  refine op_pickT rfl rfl rfl ?_
  refine op_move rfl rfl ?_
  iterate 3 refine op_notF (d := 20) rfl rfl rfl rfl ?_
  refine op_pickT rfl rfl rfl ?_
  refine endF (XF.thenN ?_)
  refine condT rfl ?_
  refine seqF (regF ?_)
  refine op_assign rfl rfl ?_
  refine endF (XF.thenN ?_)
  refine retF ?_
  refine XF.thenR ?_
  refine XF.res (res1 Try.results69 rfl) ?_
  exact ⟨rbool (by unfold ashapeB; rw [if_pos (by omega)]), hS.below⟩
 ·have hg10 := of_decide_eq_false hc; clear hc
  refine op_wantedF (d := 10) rfl rfl ?_
  refine op_field (o' := 3) fa_60_1 rfl rfl rfl ?_
  refine op_wantedF (d := 10) rfl rfl ?_
  refine op_load Try.isAgg3 rfl (cell_own (hS.at_ 0 rfl) rfl) rfl ?_
  refine op_wantedF (d := 10) rfl rfl ?_
  refine op_gtr rfl rfl rfl ?_
  refine op_pickF rfl rfl rfl ?_
  refine op_move rfl rfl ?_
  refine op_cases (d := 15) rfl (fun hc => ?_) (fun hc => ?_)
  ·have hg15 := of_decide_eq_true hc; clear hc
   iterate 3 refine op_notF (d := 15) rfl rfl rfl rfl ?_
   refine op_pickT rfl rfl rfl ?_
   refine op_move rfl rfl ?_
   iterate 3 refine op_notF (d := 20) rfl rfl rfl rfl ?_
   refine op_pickT rfl rfl rfl ?_
   refine endF (XF.thenN ?_)
   refine condT rfl ?_
   refine seqF (regF ?_)
   refine op_assign rfl rfl ?_
   refine endF (XF.thenN ?_)
   refine retF ?_
   refine XF.thenR ?_
   refine XF.res (res1 Try.results69 rfl) ?_
   exact ⟨rbool (by unfold ashapeB; rw [if_pos (by omega)]), hS.below⟩
  ·have hg15 := of_decide_eq_false hc; clear hc
   refine op_wantedF (d := 15) rfl rfl ?_
   refine op_field (o' := 4) fa_60_2 rfl rfl rfl ?_
   refine op_wantedF (d := 15) rfl rfl ?_
   refine op_load Try.isAgg3 rfl (cell_own (hS.at_ 0 rfl) rfl) rfl ?_
   refine op_wantedF (d := 15) rfl rfl ?_
   refine op_lss rfl rfl rfl ?_
   refine op_pickF rfl rfl rfl ?_
   refine op_move rfl rfl ?_
   refine op_cases (d := 20) rfl (fun hc => ?_) (fun hc => ?_)
   ·have hg20 := of_decide_eq_true hc; clear hc
    iterate 3 refine op_notF (d := 20) rfl rfl rfl rfl ?_
    refine op_pickT rfl rfl rfl ?_
    refine endF (XF.thenN ?_)
    refine condT rfl ?_
    refine seqF (regF ?_)
    refine op_assign rfl rfl ?_
    refine endF (XF.thenN ?_)
    refine retF ?_
    refine XF.thenR ?_
    refine XF.res (res1 Try.results69 rfl) ?_
    exact ⟨rbool (by unfold ashapeB; rw [if_pos (by omega)]), hS.below⟩
   ·have hg20 := of_decide_eq_false hc; clear hc
    refine op_wantedF (d := 20) rfl rfl ?_
    refine op_field (o' := 4) fa_60_2 rfl rfl rfl ?_
    refine op_wantedF (d := 20) rfl rfl ?_
    refine op_load Try.isAgg3 rfl (cell_own (hS.at_ 0 rfl) rfl) rfl ?_
    refine op_wantedF (d := 20) rfl rfl ?_
    refine op_gtr rfl rfl rfl ?_
    refine op_pickF rfl rfl rfl ?_
    refine endF (XF.thenN ?_)
    refine condF rfl (fun hc => ?_) (fun hc => ?_)
    ·have hc24 := of_decide_eq_true hc; clear hc
     refine seqF (regF ?_)
     refine op_assign rfl rfl ?_
     refine endF (XF.thenN ?_)
     refine retF ?_
     refine XF.thenR ?_
     refine XF.res (res1 Try.results69 rfl) ?_
     exact ⟨rbool (by unfold ashapeB; rw [if_pos (by omega)]), hS.below⟩
    ·have hc24 := of_decide_eq_false hc; clear hc
     have h2 : ¬ (st < 0 ∨ 4096 < st ∨ sy < 0 ∨ 4096 < sy) := by omega
     refine skipF ?_
     refine XF.thenN ?_
     refine seqF ?_
     refine seqF (regF ?_)
     refine op_field (o' := 5) fa_60_3 rfl rfl rfl ?_
     refine op_load Try.isAgg29 rfl (cell_own (hS.at_ 0 rfl) rfl) rfl ?_
     refine op_len Try.underlying29 rfl rfl ?_
     refine op_move rfl rfl ?_
     refine endF (XF.thenN ?_)
     refine blockF ?_
     refine loopF (fun m l W => ∃ i : Nat, i ≤ fl ∧ m = fl - i ∧ l = [(1, .pointer (some ⟨B1, 0, none⟩)), (26, .slice fa fl fc), (27, .int .i64 (fl : Int)), (28, .int .i64 (i : Int))] ∧ (∀ j, j < i → finOk st fs j = true) ∧ St w [(B1, [.int .i64 s.f.tag, .int .i64 s.f.dim, .slice s.f.a s.f.len s.f.cap, .int .i64 st, .int .i64 sy, .slice fa fl fc, .slice ta tl tc], 60)] [] [] W) (fl - 0) ([(1, _), (26, _), (27, _), (28, _)]) ⟨rfl, rfl, rfl, rfl, trivial⟩ (⟨0, Nat.zero_le _, rfl, rfl, fun j hj => absurd hj (Nat.not_lt_zero _), hS.clear⟩) ?_
     clear hS
     rintro m l W ⟨i, hi, rfl, rfl, hall, hS⟩
     refine seqF (regF ?_)
     refine op_lss rfl rfl rfl ?_
     refine endF (XF.thenN ?_)
     refine seqF ?_
     refine condF rfl (fun hc => ?_) (fun hc => ?_)
     ·have hc29 := of_decide_eq_true hc; clear hc
      have hk : i < fl := by omega
      obtain ⟨b, off, y, rfl, hy, hyc⟩ := hfrow.at1 (show i < fs.length by omega)
      have k1 := hS.old hyc
      refine skipF ?_
      refine XF.thenN ?_
      refine seqF ?_
      refine blockF ?_
      refine seqF (regF ?_)
      refine op_move rfl rfl ?_
      refine op_indexA  Try.underlying29 Try.sizeOf3 rfl rfl rfl (by omega) rfl rfl ?_
      refine op_load Try.isAgg3 rfl (k1) rfl ?_
      iterate 2 refine op_assign rfl rfl ?_
      refine endF (XF.thenN ?_)
      refine seqF (regF ?_)
      refine op_loadA (vs := [_, _, _, _, _, _, _]) Try.isAgg60 Try.sizeOf60 rfl (CellsAt.own (j := 0) (m := 7) (hS.at_ 0 rfl) rfl) rfl ?_
      refine op_move rfl rfl ?_
      refine op_call (vs := [_, _]) hS goes_97 rfl (isStW_is ⟨s, st, sy, _, fl, fc, fs, ta, tl, tc, ts⟩ y _) rfl ?_
      rintro e W2 ⟨rfl, hb⟩
      refine ⟨_, rfl, hb, fun hS' => ?_⟩
      clear hS; have hS := hS'; clear hS' hb
      refine op_not rfl rfl ?_
      refine op_move rfl rfl ?_
      refine op_cases (d := 37) rfl (fun hc => ?_) (fun hc => ?_)
      ·have hg37 := hc; clear hc
       have e1 : inQ y st = false := by simpa using hg37
       iterate 3 refine op_notF (d := 37) rfl rfl rfl rfl ?_
       iterate 8 refine op_unF (d := 40) rfl rfl rfl ?_
       refine op_notF (d := 37) rfl rfl rfl rfl ?_
       refine op_pickT rfl rfl rfl ?_
       refine endF (XF.thenN ?_)
       refine condT rfl ?_
       refine seqF (regF ?_)
       refine op_assign rfl rfl ?_
       refine endF (XF.thenN ?_)
       refine retF ?_
       refine XF.blkR ?_
       iterate 2 refine XF.thenR ?_
       refine XF.blkR ?_
       refine XF.thenR ?_
       refine XF.res (res1 Try.results69 rfl) ?_
       exact ⟨rbool (by unfold ashapeB; rw [if_neg h2, finB_no (i := i) (by omega) (finOk_out hy e1), Bool.false_and]), hS.below⟩
      ·have hg37 := hc; clear hc
       have e1 : inQ y st = true := by simpa using hg37
       refine op_wantedF (d := 37) rfl rfl ?_
       refine op_move rfl rfl ?_
       refine op_wantedF (d := 37) rfl rfl ?_
       refine op_gtr rfl rfl rfl ?_
       refine op_wantedF (d := 37) rfl rfl ?_
       refine op_move rfl rfl ?_
       refine op_cases (d := 40) rfl (fun hc => ?_) (fun hc => ?_)
       ·have hg40 := of_decide_eq_true hc; clear hc
        obtain ⟨b2, off2, z, e2, hz, hzc⟩ := hfrow.at1 (show i - 1 < fs.length by omega)
        cases e2
        have k2 := hS.old hzc
        refine op_wantedF (d := 40) rfl rfl ?_
        refine op_move rfl rfl ?_
        refine op_wantedF (d := 40) rfl rfl ?_
        refine op_field (o' := 5) fa_60_3 rfl rfl rfl ?_
        refine op_wantedF (d := 40) rfl rfl ?_
        refine op_load Try.isAgg29 rfl (cell_own (hS.at_ 0 rfl) rfl) rfl ?_
        refine op_wantedF (d := 40) rfl rfl ?_
        refine op_move rfl rfl ?_
        refine op_wantedF (d := 40) rfl rfl ?_
        refine op_sub rfl rfl (IntWalk.i64_in _ (by omega)) rfl ?_
        refine op_wantedF (d := 40) rfl rfl ?_
        refine op_indexA (j := (i - 1)) Try.underlying29 Try.sizeOf3 rfl rfl (by omega) (by omega) rfl rfl ?_
        refine op_wantedF (d := 40) rfl rfl ?_
        refine op_load Try.isAgg3 rfl (k2) rfl ?_
        refine op_wantedF (d := 40) rfl rfl ?_
        refine op_leq rfl rfl rfl ?_
        refine op_wantedF (d := 37) rfl rfl ?_
        refine op_pickT rfl rfl rfl ?_
        refine op_pickF rfl rfl rfl ?_
        refine endF (XF.thenN ?_)
        refine condF rfl (fun hc => ?_) (fun hc => ?_)
        ·have hc50 := of_decide_eq_true hc; clear hc
         refine seqF (regF ?_)
         refine op_assign rfl rfl ?_
         refine endF (XF.thenN ?_)
         refine retF ?_
         refine XF.blkR ?_
         iterate 2 refine XF.thenR ?_
         refine XF.blkR ?_
         refine XF.thenR ?_
         refine XF.res (res1 Try.results69 rfl) ?_
         exact ⟨rbool (by unfold ashapeB; rw [if_neg h2, finB_no (i := i) (by omega) (by rw [finOk_pos hy hz e1 (by omega)]; exact decide_eq_false (by omega)), Bool.false_and]), hS.below⟩
        ·have hc50 := of_decide_eq_false hc; clear hc
         refine skipF ?_
         refine XF.blkN ?_
         refine XF.thenN ?_
         refine regF ?_
         refine op_add rfl rfl (IntWalk.i64_in _ (by omega)) rfl ?_
         refine op_move rfl rfl ?_
         refine endF ?_
         exact XF.round (fl - (i + 1)) [(1, _), (26, _), (27, _), (28, _)] (by omega) ⟨rfl, rfl, rfl, rfl, trivial⟩ ⟨i + 1, by omega, rfl, rfl, fin_next hall (by rw [finOk_pos hy hz e1 (by omega)]; exact decide_eq_true (by omega)), hS.clear⟩
       ·have hg40 := of_decide_eq_false hc; clear hc
        iterate 8 refine op_notF (d := 40) rfl rfl rfl rfl ?_
        refine op_wantedF (d := 37) rfl rfl ?_
        iterate 2 refine op_pickF rfl rfl rfl ?_
        refine endF (XF.thenN ?_)
        refine condN rfl ?_
        refine skipF ?_
        refine XF.blkN ?_
        refine XF.thenN ?_
        refine regF ?_
        refine op_add rfl rfl (IntWalk.i64_in _ (by omega)) rfl ?_
        refine op_move rfl rfl ?_
        refine endF ?_
        exact XF.round (fl - (i + 1)) [(1, _), (26, _), (27, _), (28, _)] (by omega) ⟨rfl, rfl, rfl, rfl, trivial⟩ ⟨i + 1, by omega, rfl, rfl, fin_next hall (finOk_zero hy e1 (by omega)), hS.clear⟩
     ·have hc29 := of_decide_eq_false hc; clear hc
      have hfb : finB st fs = true := finB_of fun j hj => hall j (by omega)
      refine exitF ?_
      iterate 2 refine XF.thenX ?_
      refine XF.blkX ?_
      refine XF.thenN ?_
      refine seqF ?_
      refine seqF (regF ?_)
      refine op_field (o' := 6) fa_60_4 rfl rfl rfl ?_
      refine op_load Try.isAgg58 rfl (cell_own (hS.at_ 0 rfl) rfl) rfl ?_
      refine op_len Try.underlying58 rfl rfl ?_
      refine op_move rfl rfl ?_
      refine endF (XF.thenN ?_)
      refine blockF ?_
      refine loopF (fun m l W => ∃ i : Nat, i ≤ tl ∧ m = tl - i ∧ l = [(1, .pointer (some ⟨B1, 0, none⟩)), (53, .slice ta tl tc), (54, .int .i64 (tl : Int)), (55, .int .i64 (i : Int))] ∧ (ts.take i).all (trB st sy) = true ∧ St w [(B1, [.int .i64 s.f.tag, .int .i64 s.f.dim, .slice s.f.a s.f.len s.f.cap, .int .i64 st, .int .i64 sy, .slice fa fl fc, .slice ta tl tc], 60)] [] [] W) (tl - 0) ([(1, _), (53, _), (54, _), (55, _)]) ⟨rfl, rfl, rfl, rfl, trivial⟩ (⟨0, Nat.zero_le _, rfl, rfl, rfl, hS.clear⟩) ?_
      clear hS
      rintro m l W ⟨i, hi, rfl, rfl, hall, hS⟩
      refine seqF (regF ?_)
      refine op_lss rfl rfl rfl ?_
      refine endF (XF.thenN ?_)
      refine seqF ?_
      refine condF rfl (fun hc => ?_) (fun hc => ?_)
      ·have hc56 := of_decide_eq_true hc; clear hc
       have hk : i < tl := by omega
       obtain ⟨r, hr⟩ : ∃ r, ts[i]? = some r := ⟨ts[i]'(by omega), by simp [show i < ts.length by omega]⟩
       obtain ⟨b, off, rfl, hcs⟩ := htrow.at_ hr
       have k1 := CellsAt.agree hS.agree (Nat.zero_le _) hcs
       have hri := htin r (List.mem_of_getElem? hr)
       refine skipF ?_
       refine XF.thenN ?_
       refine seqF ?_
       refine blockF ?_
       refine seqF (regF ?_)
       refine op_indexA  Try.underlying58 Try.sizeOf100 rfl rfl rfl (by omega) rfl rfl ?_
       refine op_loadA (vs := [_, _, _, _, _, _, _, _, _]) Try.isAgg100 Try.sizeOf100 rfl (k1) rfl ?_
       refine op_alloc (cs := [_, _, _, _, _, _, _, _, _]) hS Try.zeroValue100 rfl rfl ?_
       clear hS; intro B3 W3 hS
       refine op_storeA (i := 0) (vs := [_, _, _, _, _, _, _, _, _]) (cs' := [_, _, _, _, _, _, _, _, _]) (O' := [_, _]) hS Try.sizeOf100 rfl rfl rfl rfl rfl rfl rfl ?_
       clear hS; intro W4 hS
       refine endF (XF.thenN ?_)
       refine seqF (regF ?_)
       refine op_loadA (vs := [_, _, _, _, _, _, _]) Try.isAgg60 Try.sizeOf60 rfl (CellsAt.own (j := 0) (m := 7) (hS.at_ 1 rfl) rfl) rfl ?_
       refine op_field (o' := 0) fa_100_0 rfl rfl rfl ?_
       refine op_load Try.isAgg3 rfl (cell_own (hS.at_ 0 rfl) rfl) rfl ?_
       refine op_call (vs := [_, _]) hS goes_97 rfl (isStW_is ⟨s, st, sy, fa, fl, fc, fs, _, tl, tc, ts⟩ r.f _) rfl ?_
       rintro e W5 ⟨rfl, hb⟩
       refine ⟨_, rfl, hb, fun hS' => ?_⟩
       clear hS; have hS := hS'; clear hS' hb
       refine op_not rfl rfl ?_
       refine op_move rfl rfl ?_
       refine op_cases (d := 64) rfl (fun hc => ?_) (fun hc => ?_)
       ·have hg64 := hc; clear hc
        have e1 : inQ r.f st = false := by simpa using hg64
        iterate 5 refine op_notF (d := 64) rfl rfl rfl rfl ?_
        refine op_pickT rfl rfl rfl ?_
        refine op_move rfl rfl ?_
        iterate 3 refine op_notF (d := 71) rfl rfl rfl rfl ?_
        refine op_pickT rfl rfl rfl ?_
        refine op_move rfl rfl ?_
        iterate 5 refine op_notF (d := 76) rfl rfl rfl rfl ?_
        refine op_pickT rfl rfl rfl ?_
        refine endF (XF.thenN ?_)
        refine condT rfl ?_
        refine seqF (regF ?_)
        refine op_assign rfl rfl ?_
        refine endF (XF.thenN ?_)
        refine retF ?_
        refine XF.blkR ?_
        iterate 2 refine XF.thenR ?_
        refine XF.blkR ?_
        refine XF.thenR ?_
        refine XF.res (res1 Try.results69 rfl) ?_
        exact ⟨rbool (by unfold ashapeB; rw [if_neg h2, all_false_at hr (by simp [trB, e1]), Bool.and_false]), hS.below⟩
       ·have hg64 := hc; clear hc
        have e1 : inQ r.f st = true := by simpa using hg64
        refine op_wantedF (d := 64) rfl rfl ?_
        refine op_loadA (vs := [_, _, _, _, _, _, _]) Try.isAgg60 Try.sizeOf60 rfl (CellsAt.own (j := 0) (m := 7) (hS.at_ 1 rfl) rfl) rfl ?_
        refine op_wantedF (d := 64) rfl rfl ?_
        refine op_field (o' := 2) fa_100_2 rfl rfl rfl ?_
        refine op_wantedF (d := 64) rfl rfl ?_
        refine op_load Try.isAgg3 rfl (cell_own (hS.at_ 0 rfl) rfl) rfl ?_
        refine op_wantedF (d := 64) rfl rfl ?_
        refine op_call (vs := [_, _]) hS goes_97 rfl (isStW_is ⟨s, st, sy, fa, fl, fc, fs, _, tl, tc, ts⟩ r.t _) rfl ?_
        rintro e W6 ⟨rfl, hb⟩
        refine ⟨_, rfl, hb, fun hS' => ?_⟩
        clear hS; have hS := hS'; clear hS' hb
        refine op_wantedF (d := 64) rfl rfl ?_
        refine op_not rfl rfl ?_
        refine op_pickF rfl rfl rfl ?_
        refine op_move rfl rfl ?_
        refine op_cases (d := 71) rfl (fun hc => ?_) (fun hc => ?_)
        ·have hg71 := hc; clear hc
         have e3 : inQ r.t st = false := by simpa using hg71
         iterate 3 refine op_notF (d := 71) rfl rfl rfl rfl ?_
         refine op_pickT rfl rfl rfl ?_
         refine op_move rfl rfl ?_
         iterate 5 refine op_notF (d := 76) rfl rfl rfl rfl ?_
         refine op_pickT rfl rfl rfl ?_
         refine endF (XF.thenN ?_)
         refine condT rfl ?_
         refine seqF (regF ?_)
         refine op_assign rfl rfl ?_
         refine endF (XF.thenN ?_)
         refine retF ?_
         refine XF.blkR ?_
         iterate 2 refine XF.thenR ?_
         refine XF.blkR ?_
         refine XF.thenR ?_
         refine XF.res (res1 Try.results69 rfl) ?_
         exact ⟨rbool (by unfold ashapeB; rw [if_neg h2, all_false_at hr (by simp [trB, e3]), Bool.and_false]), hS.below⟩
        ·have hg71 := hc; clear hc
         have e3 : inQ r.t st = true := by simpa using hg71
         refine op_wantedF (d := 71) rfl rfl ?_
         refine op_field (o' := 1) fa_100_1 rfl rfl rfl ?_
         refine op_wantedF (d := 71) rfl rfl ?_
         refine op_load Try.isAgg3 rfl (cell_own (hS.at_ 0 rfl) rfl) rfl ?_
         refine op_wantedF (d := 71) rfl rfl ?_
         refine op_lss rfl rfl rfl ?_
         refine op_pickF rfl rfl rfl ?_
         refine op_move rfl rfl ?_
         refine op_cases (d := 76) rfl (fun hc => ?_) (fun hc => ?_)
         ·have hg76 := of_decide_eq_true hc; clear hc
          iterate 5 refine op_notF (d := 76) rfl rfl rfl rfl ?_
          refine op_pickT rfl rfl rfl ?_
          refine endF (XF.thenN ?_)
          refine condT rfl ?_
          refine seqF (regF ?_)
          refine op_assign rfl rfl ?_
          refine endF (XF.thenN ?_)
          refine retF ?_
          refine XF.blkR ?_
          iterate 2 refine XF.thenR ?_
          refine XF.blkR ?_
          refine XF.thenR ?_
          refine XF.res (res1 Try.results69 rfl) ?_
          exact ⟨rbool (by unfold ashapeB; rw [if_neg h2, all_false_at hr (by simp [trB, show ¬ (-1 ≤ r.g) by omega]), Bool.and_false]), hS.below⟩
         ·have hg76 := of_decide_eq_false hc; clear hc
          refine op_wantedF (d := 76) rfl rfl ?_
          refine op_field (o' := 1) fa_100_1 rfl rfl rfl ?_
          refine op_wantedF (d := 76) rfl rfl ?_
          refine op_load Try.isAgg3 rfl (cell_own (hS.at_ 0 rfl) rfl) rfl ?_
          refine op_wantedF (d := 76) rfl rfl ?_
          refine op_field (o' := 4) fa_60_2 rfl rfl rfl ?_
          refine op_wantedF (d := 76) rfl rfl ?_
          refine op_load Try.isAgg3 rfl (cell_own (hS.at_ 1 rfl) rfl) rfl ?_
          refine op_wantedF (d := 76) rfl rfl ?_
          refine op_geq rfl rfl rfl ?_
          refine op_pickF rfl rfl rfl ?_
          refine endF (XF.thenN ?_)
          refine condF rfl (fun hc => ?_) (fun hc => ?_)
          ·have hc82 := of_decide_eq_true hc; clear hc
           refine seqF (regF ?_)
           refine op_assign rfl rfl ?_
           refine endF (XF.thenN ?_)
           refine retF ?_
           refine XF.blkR ?_
           iterate 2 refine XF.thenR ?_
           refine XF.blkR ?_
           refine XF.thenR ?_
           refine XF.res (res1 Try.results69 rfl) ?_
           exact ⟨rbool (by unfold ashapeB; rw [if_neg h2, all_false_at hr (by simp [trB, show ¬ (r.g < sy) by omega]), Bool.and_false]), hS.below⟩
          ·have hc82 := of_decide_eq_false hc; clear hc
           refine skipF ?_
           refine XF.blkN ?_
           refine XF.thenN ?_
           refine regF ?_
           refine op_add rfl rfl (IntWalk.i64_in _ (by omega)) rfl ?_
           refine op_move rfl rfl ?_
           refine endF ?_
           exact XF.round (tl - (i + 1)) [(1, _), (53, _), (54, _), (55, _)] (by omega) ⟨rfl, rfl, rfl, rfl, trivial⟩ ⟨i + 1, by omega, rfl, rfl, all_take_at hr hall (by simp only [trB, e1, e3, Bool.true_and]; rw [decide_eq_true (show -1 ≤ r.g by omega), decide_eq_true (show r.g < sy by omega)]; rfl), hS.tail.clear⟩
      ·have hc56 := of_decide_eq_false hc; clear hc
       rw [List.take_of_length_le (by omega)] at hall
       refine exitF ?_
       iterate 2 refine XF.thenX ?_
       refine XF.blkX ?_
       refine XF.thenN ?_
       refine seqF (regF ?_)
       refine op_assign rfl rfl ?_
       refine endF (XF.thenN ?_)
       refine retF ?_
       refine XF.res (res1 Try.results69 rfl) ?_
       exact ⟨rbool (by unfold ashapeB; rw [if_neg h2, hfb, hall, Bool.true_and]), hS.below⟩
theorem ashapeW_is (ds d : Nat) (a : AV) (w : World) (h : AIn w ds d a) : Calls Try.prog 69 #[a.val] w (fun e w' => e = .returned (.bool (ashapeB a.st a.sy a.fs a.ts)) ∧ Below w.heap.size w w') := ashapeW_c ds d _ _ _ _ _ _ _ _ _ _ _ w h.s h.frow h.flen h.trow h.tlen h.tin h.fmax h.tmax
theorem autoA_c (ds d : Nat) (s : SV) (st sy : Int) (fa : Option Addr) (fl fc : Nat) (fs : List Int) (ta : Option Addr) (tl tc : Nat) (ts : List TV) (w : World) (hs : SIn w ds s) (hfrow : Row w fa fs) (hflen : fs.length = fl) (htrow : TRow w ta ts) (htlen : ts.length = tl) (htin : ∀ t ∈ ts, WIn w d t.x) (hfm : fl ≤ 9223372036854775807) (htm : tl ≤ 9223372036854775807) :
  Calls Try.prog 39 #[.agg #[.int .i64 s.f.tag, .int .i64 s.f.dim, .slice s.f.a s.f.len s.f.cap, .int .i64 st, .int .i64 sy, .slice fa fl fc, .slice ta tl tc]] w (fun e w' => e = .returned (.int .i64 (autoE ⟨s, st, sy, fa, fl, fc, fs, ta, tl, tc, ts⟩)) ∧ Below w.heap.size w w') := by
 refine enterF (args := [.agg #[.int .i64 s.f.tag, .int .i64 s.f.dim, .slice s.f.a s.f.len s.f.cap, .int .i64 st, .int .i64 sy, .slice fa fl fc, .slice ta tl tc]]) Try.func39 rfl Try.ntmps39 rfl ?_
 have hS := St.start w
 refine seqF (regF ?_)
 refine op_box (cs := [_, _, _, _, _, _, _]) hS rfl rfl rfl ?_
 clear hS; intro B1 W1 hS
 refine op_assign rfl rfl ?_
 refine endF (XF.thenN ?_)
 refine seqF ?_
 refine seqF (regF ?_)
 refine op_field (o' := 0) fa_60_0 rfl rfl rfl ?_
 refine op_loadA (vs := [_, _, _]) Try.isAgg25 Try.sizeOf25 rfl (CellsAt.own (j := 0) (m := 3) (hS.at_ 0 rfl) rfl) rfl ?_
 refine op_call (vs := [_]) hS goes_56 rfl (spaceA_is ds s _ _ (SIn.below hS.below hs) rfl) rfl ?_
 rintro e W2 ⟨rfl, hb⟩
 refine ⟨_, rfl, hb, fun hS' => ?_⟩
 clear hS; have hS := hS'; clear hS' hb
 refine op_assign rfl rfl ?_
 refine endF (XF.thenN ?_)
 refine seqF (regF ?_)
 refine op_move rfl rfl ?_
 refine op_neq rfl rfl rfl ?_
 refine endF (XF.thenN ?_)
 refine condF rfl (fun hc => ?_) (fun hc => ?_)
 ·have hc11 := of_decide_eq_true hc; clear hc
  refine seqF (regF ?_)
  refine op_move rfl rfl ?_
  refine op_assign rfl rfl ?_
  refine endF (XF.thenN ?_)
  refine retF ?_
  refine XF.thenR ?_
  refine XF.res (res1 Try.results39 rfl) ?_
  exact ⟨rint (by unfold autoE; dsimp only; rw [if_pos hc11]), hS.below⟩
 ·have hc11 := of_decide_eq_false hc; clear hc
  have h0 : ¬ spaceE s ≠ 0 := hc11
  have hse : spaceE s = 0 := by omega
  refine skipF ?_
  refine XF.thenN ?_
  refine seqF ?_
  refine seqF (regF ?_)
  refine op_field (o' := 6) fa_60_4 rfl rfl rfl ?_
  refine op_load Try.isAgg58 rfl (cell_own (hS.at_ 0 rfl) rfl) rfl ?_
  refine op_len Try.underlying58 rfl rfl ?_
  refine op_gtr rfl rfl rfl ?_
  refine endF (XF.thenN ?_)
  refine condF rfl (fun hc => ?_) (fun hc => ?_)
  ·have hc16 := of_decide_eq_true hc; clear hc
   refine seqF (regF ?_)
   refine op_assign rfl rfl ?_
   refine endF (XF.thenN ?_)
   refine retF ?_
   refine XF.thenR ?_
   refine XF.res (res1 Try.results39 rfl) ?_
   exact ⟨rint (by unfold autoE; dsimp only; rw [if_neg h0, if_pos (by omega)]), hS.below⟩
  ·have hc16 := of_decide_eq_false hc; clear hc
   have h1 : ¬ 65536 < tl := by omega
   refine skipF ?_
   refine XF.thenN ?_
   refine seqF ?_
   refine seqF (regF ?_)
   refine op_loadA (vs := [_, _, _, _, _, _, _]) Try.isAgg60 Try.sizeOf60 rfl (CellsAt.own (j := 0) (m := 7) (hS.at_ 0 rfl) rfl) rfl ?_
   refine op_call (vs := [_]) hS goes_69 rfl (ashapeW_is ds d ⟨s, st, sy, fa, fl, fc, fs, ta, tl, tc, ts⟩ _ (AIn.below ⟨hs, hfrow, hflen, htrow, htlen, htin, hfm, htm⟩ hS.below)) rfl ?_
   rintro e W3 ⟨rfl, hb⟩
   refine ⟨_, rfl, hb, fun hS' => ?_⟩
   clear hS; have hS := hS'; clear hS' hb
   refine op_not rfl rfl ?_
   refine endF (XF.thenN ?_)
   refine condF rfl (fun hc => ?_) (fun hc => ?_)
   ·have hc19 := hc; clear hc
    refine seqF (regF ?_)
    refine op_assign rfl rfl ?_
    refine endF (XF.thenN ?_)
    refine retF ?_
    refine XF.thenR ?_
    refine XF.res (res1 Try.results39 rfl) ?_
    exact ⟨rint (by unfold autoE; dsimp only; rw [if_neg h0, if_neg h1, if_pos (by simpa using hc19)]), hS.below⟩
   ·have hc19 := hc; clear hc
    have h3 : ¬ ashapeB st sy fs ts = false := by simpa using hc19
    refine skipF ?_
    refine XF.thenN ?_
    refine seqF ?_
    refine seqF (regF ?_)
    refine op_field (o' := 6) fa_60_4 rfl rfl rfl ?_
    refine op_load Try.isAgg58 rfl (cell_own (hS.at_ 0 rfl) rfl) rfl ?_
    refine op_len Try.underlying58 rfl rfl ?_
    refine op_move rfl rfl ?_
    refine endF (XF.thenN ?_)
    refine blockF ?_
    refine loopF (fun m l W => ∃ i : Nat, i ≤ tl ∧ m = tl - i ∧ l = [(1, .pointer (some ⟨B1, 0, none⟩)), (21, .slice ta tl tc), (22, .int .i64 (tl : Int)), (23, .int .i64 (i : Int))] ∧ (ts.take i).all (fun t => decide (chkW s t.x = 0)) = true ∧ St w [(B1, [.int .i64 s.f.tag, .int .i64 s.f.dim, .slice s.f.a s.f.len s.f.cap, .int .i64 st, .int .i64 sy, .slice fa fl fc, .slice ta tl tc], 60)] [] [] W) (tl - 0) ([(1, _), (21, _), (22, _), (23, _)]) ⟨rfl, rfl, rfl, rfl, trivial⟩ (⟨0, Nat.zero_le _, rfl, rfl, rfl, hS.clear⟩) ?_
    clear hS
    rintro m l W ⟨i, hi, rfl, rfl, hall, hS⟩
    refine seqF (regF ?_)
    refine op_lss rfl rfl rfl ?_
    refine endF (XF.thenN ?_)
    refine seqF ?_
    refine condF rfl (fun hc => ?_) (fun hc => ?_)
    ·have hc24 := of_decide_eq_true hc; clear hc
     have hk : i < tl := by omega
     obtain ⟨r, hr⟩ : ∃ r, ts[i]? = some r := ⟨ts[i]'(by omega), by simp [show i < ts.length by omega]⟩
     obtain ⟨b, off, rfl, hcs⟩ := htrow.at_ hr
     have k1 := CellsAt.agree hS.agree (Nat.zero_le _) hcs
     have hri := htin r (List.mem_of_getElem? hr)
     refine skipF ?_
     refine XF.thenN ?_
     refine seqF ?_
     refine blockF ?_
     refine seqF (regF ?_)
     refine op_indexA  Try.underlying58 Try.sizeOf100 rfl rfl rfl (by omega) rfl rfl ?_
     refine op_loadA (vs := [_, _, _, _, _, _, _, _, _]) Try.isAgg100 Try.sizeOf100 rfl (k1) rfl ?_
     refine op_alloc (cs := [_, _, _, _, _, _, _, _, _]) hS Try.zeroValue100 rfl rfl ?_
     clear hS; intro B4 W4 hS
     refine op_storeA (i := 0) (vs := [_, _, _, _, _, _, _, _, _]) (cs' := [_, _, _, _, _, _, _, _, _]) (O' := [_, _]) hS Try.sizeOf100 rfl rfl rfl rfl rfl rfl rfl ?_
     clear hS; intro W5 hS
     refine endF (XF.thenN ?_)
     refine seqF (regF ?_)
     refine op_field (o' := 0) fa_60_0 rfl rfl rfl ?_
     refine op_loadA (vs := [_, _, _]) Try.isAgg25 Try.sizeOf25 rfl (CellsAt.own (j := 0) (m := 3) (hS.at_ 1 rfl) rfl) rfl ?_
     refine op_field (o' := 3) fa_100_3 rfl rfl rfl ?_
     refine op_loadA (vs := [_, _, _, _, _, _]) Try.isAgg45 Try.sizeOf45 rfl (CellsAt.own (j := 3) (m := 6) (hS.at_ 0 rfl) rfl) rfl ?_
     refine op_call (vs := [_, _]) hS goes_58 rfl (checkA_genY ds d s r.x _ (SIn.below hS.below hs) (WIn.below hS.below hri)) rfl ?_
     rintro e W6 ⟨rfl, hb⟩
     refine ⟨_, rfl, hb, fun hS' => ?_⟩
     clear hS; have hS := hS'; clear hS' hb
     refine op_assign rfl rfl ?_
     refine endF (XF.thenN ?_)
     refine seqF (regF ?_)
     refine op_move rfl rfl ?_
     refine op_neq rfl rfl rfl ?_
     refine endF (XF.thenN ?_)
     refine condF rfl (fun hc => ?_) (fun hc => ?_)
     ·have hc33 := of_decide_eq_true hc; clear hc
      refine seqF (regF ?_)
      refine op_move rfl rfl ?_
      refine op_assign rfl rfl ?_
      refine endF (XF.thenN ?_)
      refine retF ?_
      refine XF.blkR ?_
      iterate 2 refine XF.thenR ?_
      refine XF.blkR ?_
      refine XF.thenR ?_
      refine XF.res (res1 Try.results39 rfl) ?_
      exact ⟨rint (by unfold autoE; dsimp only; rw [if_neg h0, if_neg h1, if_neg h3, if_neg (by rw [all_false_at hr (decide_eq_false hc33)]; decide), chkW_51 hse hc33]), hS.below⟩
     ·have hc33 := of_decide_eq_false hc; clear hc
      refine skipF ?_
      refine XF.blkN ?_
      refine XF.thenN ?_
      refine regF ?_
      refine op_add rfl rfl (IntWalk.i64_in _ (by omega)) rfl ?_
      refine op_move rfl rfl ?_
      refine endF ?_
      exact XF.round (tl - (i + 1)) [(1, _), (21, _), (22, _), (23, _)] (by omega) ⟨rfl, rfl, rfl, rfl, trivial⟩ ⟨i + 1, by omega, rfl, rfl, all_take_at hr hall (by simpa using hc33), hS.tail.clear⟩
    ·have hc24 := of_decide_eq_false hc; clear hc
     rw [List.take_of_length_le (by omega)] at hall
     refine exitF ?_
     iterate 2 refine XF.thenX ?_
     refine XF.blkX ?_
     refine XF.thenN ?_
     refine seqF (regF ?_)
     refine op_assign rfl rfl ?_
     refine endF (XF.thenN ?_)
     refine retF ?_
     refine XF.res (res1 Try.results39 rfl) ?_
     exact ⟨rint (by unfold autoE; dsimp only; rw [if_neg h0, if_neg h1, if_neg h3, if_pos hall]), hS.below⟩
theorem autoA_is (ds d : Nat) (a : AV) (w : World) (h : AIn w ds d a) : Calls Try.prog 39 #[a.val] w (fun e w' => e = .returned (.int .i64 (autoE a)) ∧ Below w.heap.size w w') := autoA_c ds d _ _ _ _ _ _ _ _ _ _ _ w h.s h.frow h.flen h.trow h.tlen h.tin h.fmax h.tmax
theorem autoR_c (ds d : Nat) (s : SV) (st sy : Int) (fa : Option Addr) (fl fc : Nat) (fs : List Int) (ta : Option Addr) (tl tc : Nat) (ts : List TV) (w : World) (hs : SIn w ds s) (hfrow : Row w fa fs) (hflen : fs.length = fl) (htrow : TRow w ta ts) (htlen : ts.length = tl) (htin : ∀ t ∈ ts, WIn w d t.x) (hfm : fl ≤ 9223372036854775807) (htm : tl ≤ 9223372036854775807) :
  Calls Try.prog 42 #[.agg #[.int .i64 s.f.tag, .int .i64 s.f.dim, .slice s.f.a s.f.len s.f.cap, .int .i64 st, .int .i64 sy, .slice fa fl fc, .slice ta tl tc]] w (fun e w' => e = .returned (.int .i64 (autoE ⟨s, st, sy, fa, fl, fc, fs, ta, tl, tc, ts⟩)) ∧ Below w.heap.size w w') := by
 refine enterF (args := [.agg #[.int .i64 s.f.tag, .int .i64 s.f.dim, .slice s.f.a s.f.len s.f.cap, .int .i64 st, .int .i64 sy, .slice fa fl fc, .slice ta tl tc]]) Try.func42 rfl Try.ntmps42 rfl ?_
 have hS := St.start w
 refine seqF (regF ?_)
 refine op_box (cs := [_, _, _, _, _, _, _]) hS rfl rfl rfl ?_
 clear hS; intro B1 W1 hS
 refine op_assign rfl rfl ?_
 refine endF (XF.thenN ?_)
 refine seqF (regF ?_)
 refine op_field (o' := 0) fa_60_0 rfl rfl rfl ?_
 refine op_loadA (vs := [_, _, _]) Try.isAgg25 Try.sizeOf25 rfl (CellsAt.own (j := 0) (m := 3) (hS.at_ 0 rfl) rfl) rfl ?_
 refine op_call (vs := [_]) hS goes_34 rfl (spaceR_is ds s _ _ (SIn.below hS.below hs) rfl) rfl ?_
 rintro e W2 ⟨rfl, hb⟩
 refine ⟨_, rfl, hb, fun hS' => ?_⟩
 clear hS; have hS := hS'; clear hS' hb
 refine op_assign rfl rfl ?_
 refine endF (XF.thenN ?_)
 refine seqF ?_
 refine seqF (regF ?_)
 refine op_move rfl rfl ?_
 refine op_neq rfl rfl rfl ?_
 refine endF (XF.thenN ?_)
 refine condF rfl (fun hc => ?_) (fun hc => ?_)
 ·have hc12 := of_decide_eq_true hc; clear hc
  refine seqF (regF ?_)
  refine op_move rfl rfl ?_
  refine op_assign rfl rfl ?_
  refine endF (XF.thenN ?_)
  refine retF ?_
  refine XF.thenR ?_
  refine XF.res (res1 Try.results42 rfl) ?_
  exact ⟨rint (by unfold autoE; dsimp only; rw [if_pos hc12]), hS.below⟩
 ·have hc12 := of_decide_eq_false hc; clear hc
  have h0 : ¬ spaceE s ≠ 0 := hc12
  have hse : spaceE s = 0 := by omega
  refine skipF ?_
  refine XF.thenN ?_
  refine seqF ?_
  refine seqF (regF ?_)
  refine op_field (o' := 6) fa_60_4 rfl rfl rfl ?_
  refine op_load Try.isAgg58 rfl (cell_own (hS.at_ 0 rfl) rfl) rfl ?_
  refine op_len Try.underlying58 rfl rfl ?_
  refine op_gtr rfl rfl rfl ?_
  refine endF (XF.thenN ?_)
  refine condF rfl (fun hc => ?_) (fun hc => ?_)
  ·have hc17 := of_decide_eq_true hc; clear hc
   refine seqF (regF ?_)
   refine op_assign rfl rfl ?_
   refine endF (XF.thenN ?_)
   refine retF ?_
   refine XF.thenR ?_
   refine XF.res (res1 Try.results42 rfl) ?_
   exact ⟨rint (by unfold autoE; dsimp only; rw [if_neg h0, if_pos (by omega)]), hS.below⟩
  ·have hc17 := of_decide_eq_false hc; clear hc
   have h1 : ¬ 65536 < tl := by omega
   refine skipF ?_
   refine XF.thenN ?_
   refine seqF ?_
   refine seqF (regF ?_)
   refine op_field (o' := 3) fa_60_1 rfl rfl rfl ?_
   refine op_load Try.isAgg3 rfl (cell_own (hS.at_ 0 rfl) rfl) rfl ?_
   refine op_lss rfl rfl rfl ?_
   refine op_move rfl rfl ?_
   refine op_cases (d := 21) rfl (fun hc => ?_) (fun hc => ?_)
   ·have hg21 := of_decide_eq_true hc; clear hc
    iterate 3 refine op_notF (d := 21) rfl rfl rfl rfl ?_
    refine op_pickT rfl rfl rfl ?_
    refine op_move rfl rfl ?_
    iterate 3 refine op_notF (d := 26) rfl rfl rfl rfl ?_
    refine op_pickT rfl rfl rfl ?_
    refine op_move rfl rfl ?_
    iterate 3 refine op_notF (d := 31) rfl rfl rfl rfl ?_
    refine op_pickT rfl rfl rfl ?_
    refine endF (XF.thenN ?_)
    refine condT rfl ?_
    refine seqF (regF ?_)
    refine op_assign rfl rfl ?_
    refine endF (XF.thenN ?_)
    refine retF ?_
    refine XF.thenR ?_
    refine XF.res (res1 Try.results42 rfl) ?_
    exact ⟨rint (by unfold autoE; dsimp only; rw [if_neg h0, if_neg h1, if_pos (by unfold ashapeB; rw [if_pos (by omega)])]), hS.below⟩
   ·have hg21 := of_decide_eq_false hc; clear hc
    refine op_wantedF (d := 21) rfl rfl ?_
    refine op_field (o' := 3) fa_60_1 rfl rfl rfl ?_
    refine op_wantedF (d := 21) rfl rfl ?_
    refine op_load Try.isAgg3 rfl (cell_own (hS.at_ 0 rfl) rfl) rfl ?_
    refine op_wantedF (d := 21) rfl rfl ?_
    refine op_gtr rfl rfl rfl ?_
    refine op_pickF rfl rfl rfl ?_
    refine op_move rfl rfl ?_
    refine op_cases (d := 26) rfl (fun hc => ?_) (fun hc => ?_)
    ·have hg26 := of_decide_eq_true hc; clear hc
     iterate 3 refine op_notF (d := 26) rfl rfl rfl rfl ?_
     refine op_pickT rfl rfl rfl ?_
     refine op_move rfl rfl ?_
     iterate 3 refine op_notF (d := 31) rfl rfl rfl rfl ?_
     refine op_pickT rfl rfl rfl ?_
     refine endF (XF.thenN ?_)
     refine condT rfl ?_
     refine seqF (regF ?_)
     refine op_assign rfl rfl ?_
     refine endF (XF.thenN ?_)
     refine retF ?_
     refine XF.thenR ?_
     refine XF.res (res1 Try.results42 rfl) ?_
     exact ⟨rint (by unfold autoE; dsimp only; rw [if_neg h0, if_neg h1, if_pos (by unfold ashapeB; rw [if_pos (by omega)])]), hS.below⟩
    ·have hg26 := of_decide_eq_false hc; clear hc
     refine op_wantedF (d := 26) rfl rfl ?_
     refine op_field (o' := 4) fa_60_2 rfl rfl rfl ?_
     refine op_wantedF (d := 26) rfl rfl ?_
     refine op_load Try.isAgg3 rfl (cell_own (hS.at_ 0 rfl) rfl) rfl ?_
     refine op_wantedF (d := 26) rfl rfl ?_
     refine op_lss rfl rfl rfl ?_
     refine op_pickF rfl rfl rfl ?_
     refine op_move rfl rfl ?_
     refine op_cases (d := 31) rfl (fun hc => ?_) (fun hc => ?_)
     ·have hg31 := of_decide_eq_true hc; clear hc
      iterate 3 refine op_notF (d := 31) rfl rfl rfl rfl ?_
      refine op_pickT rfl rfl rfl ?_
      refine endF (XF.thenN ?_)
      refine condT rfl ?_
      refine seqF (regF ?_)
      refine op_assign rfl rfl ?_
      refine endF (XF.thenN ?_)
      refine retF ?_
      refine XF.thenR ?_
      refine XF.res (res1 Try.results42 rfl) ?_
      exact ⟨rint (by unfold autoE; dsimp only; rw [if_neg h0, if_neg h1, if_pos (by unfold ashapeB; rw [if_pos (by omega)])]), hS.below⟩
     ·have hg31 := of_decide_eq_false hc; clear hc
      refine op_wantedF (d := 31) rfl rfl ?_
      refine op_field (o' := 4) fa_60_2 rfl rfl rfl ?_
      refine op_wantedF (d := 31) rfl rfl ?_
      refine op_load Try.isAgg3 rfl (cell_own (hS.at_ 0 rfl) rfl) rfl ?_
      refine op_wantedF (d := 31) rfl rfl ?_
      refine op_gtr rfl rfl rfl ?_
      refine op_pickF rfl rfl rfl ?_
      refine endF (XF.thenN ?_)
      refine condF rfl (fun hc => ?_) (fun hc => ?_)
      ·have hc35 := of_decide_eq_true hc; clear hc
       refine seqF (regF ?_)
       refine op_assign rfl rfl ?_
       refine endF (XF.thenN ?_)
       refine retF ?_
       refine XF.thenR ?_
       refine XF.res (res1 Try.results42 rfl) ?_
       exact ⟨rint (by unfold autoE; dsimp only; rw [if_neg h0, if_neg h1, if_pos (by unfold ashapeB; rw [if_pos (by omega)])]), hS.below⟩
      ·have hc35 := of_decide_eq_false hc; clear hc
       have h2 : ¬ (st < 0 ∨ 4096 < st ∨ sy < 0 ∨ 4096 < sy) := by omega
       refine skipF ?_
       refine XF.thenN ?_
       refine seqF ?_
       refine seqF (regF ?_)
       refine op_assign rfl rfl ?_
       refine endF (XF.thenN ?_)
       refine blockF ?_
       refine loopF (fun m l W => ∃ i : Nat, i ≤ fl ∧ m = fl - i ∧ l = [(1, .pointer (some ⟨B1, 0, none⟩)), (4, .int .i64 (i : Int))] ∧ (∀ j, j < i → finOk st fs j = true) ∧ St w [(B1, [.int .i64 s.f.tag, .int .i64 s.f.dim, .slice s.f.a s.f.len s.f.cap, .int .i64 st, .int .i64 sy, .slice fa fl fc, .slice ta tl tc], 60)] [] [] W) (fl - 0) ([(1, _), (4, _)]) ⟨rfl, rfl, trivial⟩ (⟨0, Nat.zero_le _, rfl, rfl, fun j hj => absurd hj (Nat.not_lt_zero _), hS.clear⟩) ?_
       clear hS
       rintro m l W ⟨i, hi, rfl, rfl, hall, hS⟩
       refine seqF ?_
       refine seqF (regF ?_)
       refine op_move rfl rfl ?_
       refine op_field (o' := 5) fa_60_3 rfl rfl rfl ?_
       refine op_load Try.isAgg29 rfl (cell_own (hS.at_ 0 rfl) rfl) rfl ?_
       refine op_len Try.underlying29 rfl rfl ?_
       refine op_lss rfl rfl rfl ?_
       refine endF (XF.thenN ?_)
       refine condF rfl (fun hc => ?_) (fun hc => ?_)
       ·have hc40 := of_decide_eq_true hc; clear hc
        have hk : i < fl := by omega
        obtain ⟨b, off, y, rfl, hy, hyc⟩ := hfrow.at1 (show i < fs.length by omega)
        have k1 := hS.old hyc
        refine skipF ?_
        refine XF.thenN ?_
        refine seqF ?_
        refine blockF ?_
        refine seqF ?_
        rcases (show inQ y st = false ∨ (inQ y st = true ∧ i = 0) ∨ (inQ y st = true ∧ 0 < i) by cases inQ y st <;> simp <;> omega) with e1 | ⟨e1, h9⟩ | ⟨e1, h9⟩
        ·skip
         refine regB (m := 26) followsM hS (by kernel_rfl) (by kernel_rfl) rfl ?_
         refine bl_cons 1 rfl (isV _) (stab_isV _) (rgV (li := [(1, _)]) rfl (w_free rfl) ⟨g_fr (by kernel_rfl) rfl, trivial⟩ (fun w hw => rn_loadA (vs := [_, _, _, _, _, _, _]) Try.isAgg60 Try.sizeOf60 rfl (CellsAt.agree (below_agree hw 0) (Nat.zero_le _) (CellsAt.own (j := 0) (m := 7) (hS.at_ 0 rfl) rfl))) (at_top rfl)) ?_
         refine bl_cons 2 rfl (isV _) (stab_isV _) (rgV (li := [(1, _)]) rfl (w_free rfl) ⟨g_fr (by kernel_rfl) rfl, trivial⟩ (fun w hw => rn_field (o' := 5) fa_60_3 rfl rfl) (at_top rfl)) ?_
         refine bl_cons 3 rfl (isV _) (stab_isV _) (rgV (li := [(44, _)]) rfl (w_free rfl) ⟨g_dep 1 (by kernel_rfl) (at_dep rfl rfl rfl), trivial⟩ (fun w hw => rn_load Try.isAgg29 rfl ((below_agree hw 0).cell (Nat.zero_le _) (cell_own (hS.at_ 0 rfl) rfl))) (at_top rfl)) ?_
         refine bl_cons 4 rfl (isV _) (stab_isV _) (rgV (li := [(4, _)]) rfl (w_free rfl) ⟨g_fr (by kernel_rfl) rfl, trivial⟩ (fun w hw => rn_move rfl) (at_top rfl)) ?_
         refine bl_cons 5 rfl (isV _) (stab_isV _) (rgV (li := [(45, _), (46, _)]) rfl (w_free rfl) ⟨g_dep 2 (by kernel_rfl) (at_dep rfl rfl rfl), g_dep 3 (by kernel_rfl) (at_dep rfl rfl rfl), trivial⟩ (fun w hw => rn_indexA  Try.underlying29 Try.sizeOf3 rfl rfl rfl (by omega) rfl) (at_top rfl)) ?_
         refine bl_cons 6 rfl (isV _) (stab_isV _) (rgV (li := [(47, _)]) rfl (w_free rfl) ⟨g_dep 4 (by kernel_rfl) (at_dep rfl rfl rfl), trivial⟩ (fun w hw => rn_load Try.isAgg3 rfl ((below_agree hw 0).cell (Nat.zero_le _) (k1))) (at_top rfl)) ?_
         refine bl_cons 7 rfl (isV (.bool false)) (stab_isV _) (rg_call [isV _, isV _] rfl goes_73 (w_free rfl) ⟨p_tmp (g_dep 0 (by kernel_rfl) (at_dep rfl rfl rfl)), p_tmp (g_dep 5 (by kernel_rfl) (at_dep rfl rfl rfl)), trivial⟩ (fun vs w' hb hh => by have e := holds_isV (us := [_, _]) hh; subst e; exact (stR_is ⟨s, st, sy, _, fl, fc, fs, ta, tl, tc, ts⟩ y _).mono fun e w2 h => ⟨_, by rw [h.1, e1], rfl, h.2⟩) (at_top rfl)) ?_
         refine bl_cons 8 rfl (isV (.bool true)) (stab_isV _) (rgVe (li := [(49, _)]) rfl (w_free rfl) ⟨g_dep 6 (by kernel_rfl) (at_dep rfl rfl rfl), trivial⟩ (fun w hw => rn_not rfl) (rfl) (at_top rfl)) ?_
         refine bl_cons 9 rfl (isV _) (stab_isV _) (rgV (li := [(50, _)]) rfl (w_free rfl) ⟨g_dep 7 (by kernel_rfl) (at_dep rfl rfl rfl), trivial⟩ (fun w hw => rn_move rfl) (at_top rfl)) ?_
         refine bl_cons 10 rfl (isV undef) (stab_isV _) (rg_no rfl (w_no 51 rfl (by kernel_rfl) (by kernel_rfl) (at_dep rfl rfl rfl) rfl) (at_top rfl)) ?_
         refine bl_cons 11 rfl (isV undef) (stab_isV _) (rg_no rfl (w_no 51 rfl (by kernel_rfl) (by kernel_rfl) (at_dep rfl rfl rfl) rfl) (at_top rfl)) ?_
         refine bl_cons 12 rfl (isV undef) (stab_isV _) (rg_no rfl (w_no 51 rfl (by kernel_rfl) (by kernel_rfl) (at_dep rfl rfl rfl) rfl) (at_top rfl)) ?_
         refine bl_cons 13 rfl (isV undef) (stab_isV _) (rg_no rfl (w_un 54 rfl (by kernel_rfl) (by kernel_rfl) (at_dep rfl rfl rfl)) (at_top rfl)) ?_
         refine bl_cons 14 rfl (isV undef) (stab_isV _) (rg_no rfl (w_un 54 rfl (by kernel_rfl) (by kernel_rfl) (at_dep rfl rfl rfl)) (at_top rfl)) ?_
         refine bl_cons 15 rfl (isV undef) (stab_isV _) (rg_no rfl (w_un 54 rfl (by kernel_rfl) (by kernel_rfl) (at_dep rfl rfl rfl)) (at_top rfl)) ?_
         refine bl_cons 16 rfl (isV undef) (stab_isV _) (rg_no rfl (w_un 54 rfl (by kernel_rfl) (by kernel_rfl) (at_dep rfl rfl rfl)) (at_top rfl)) ?_
         refine bl_cons 17 rfl (isV undef) (stab_isV _) (rg_no rfl (w_un 54 rfl (by kernel_rfl) (by kernel_rfl) (at_dep rfl rfl rfl)) (at_top rfl)) ?_
         refine bl_cons 18 rfl (isV undef) (stab_isV _) (rg_no rfl (w_un 54 rfl (by kernel_rfl) (by kernel_rfl) (at_dep rfl rfl rfl)) (at_top rfl)) ?_
         refine bl_cons 19 rfl (isV undef) (stab_isV _) (rg_no rfl (w_un 54 rfl (by kernel_rfl) (by kernel_rfl) (at_dep rfl rfl rfl)) (at_top rfl)) ?_
         refine bl_cons 20 rfl (isV undef) (stab_isV _) (rg_no rfl (w_un 54 rfl (by kernel_rfl) (by kernel_rfl) (at_dep rfl rfl rfl)) (at_top rfl)) ?_
         refine bl_cons 21 rfl (isV undef) (stab_isV _) (rg_no rfl (w_un 54 rfl (by kernel_rfl) (by kernel_rfl) (at_dep rfl rfl rfl)) (at_top rfl)) ?_
         refine bl_cons 22 rfl (isV undef) (stab_isV _) (rg_no rfl (w_un 54 rfl (by kernel_rfl) (by kernel_rfl) (at_dep rfl rfl rfl)) (at_top rfl)) ?_
         refine bl_cons 23 rfl (isV undef) (stab_isV _) (rg_no rfl (w_un 54 rfl (by kernel_rfl) (by kernel_rfl) (at_dep rfl rfl rfl)) (at_top rfl)) ?_
         refine bl_cons 24 rfl (isV undef) (stab_isV _) (rg_no rfl (w_un 54 rfl (by kernel_rfl) (by kernel_rfl) (at_dep rfl rfl rfl)) (at_top rfl)) ?_
         refine bl_cons 25 rfl (isV undef) (stab_isV _) (rg_no rfl (w_no 51 rfl (by kernel_rfl) (by kernel_rfl) (at_dep rfl rfl rfl) rfl) (at_top rfl)) ?_
         refine bl_cons 26 rfl (isV _) (stab_isV _) (rgV (li := [(51, _)]) rfl (w_free rfl) ⟨g_dep 8 (by kernel_rfl) (at_dep rfl rfl rfl), trivial⟩ (fun w hw => rn_pickT rfl rfl) (at_top rfl)) ?_
         refine bl_nil ?_
         intro W3 hbR hS'
         clear hS; have hS := hS'; clear hS'
         iterate 26 refine fin_v ?_
         refine fin_nil ?_
         refine XF.thenN ?_
         refine condT rfl ?_
         refine seqF (regF ?_)
         refine op_assign rfl rfl ?_
         refine endF (XF.thenN ?_)
         refine retF ?_
         refine XF.blkR ?_
         iterate 2 refine XF.thenR ?_
         refine XF.blkR ?_
         refine XF.thenR ?_
         refine XF.res (res1 Try.results42 rfl) ?_
         exact ⟨rint (by unfold autoE; dsimp only; rw [if_neg h0, if_neg h1, if_pos (by unfold ashapeB; rw [if_neg h2, finB_no (i := i) (by omega) (finOk_out hy e1), Bool.false_and])]), hS.below⟩
        ·skip
         refine regB (m := 26) followsM hS (by kernel_rfl) (by kernel_rfl) rfl ?_
         refine bl_cons 1 rfl (isV _) (stab_isV _) (rgV (li := [(1, _)]) rfl (w_free rfl) ⟨g_fr (by kernel_rfl) rfl, trivial⟩ (fun w hw => rn_loadA (vs := [_, _, _, _, _, _, _]) Try.isAgg60 Try.sizeOf60 rfl (CellsAt.agree (below_agree hw 0) (Nat.zero_le _) (CellsAt.own (j := 0) (m := 7) (hS.at_ 0 rfl) rfl))) (at_top rfl)) ?_
         refine bl_cons 2 rfl (isV _) (stab_isV _) (rgV (li := [(1, _)]) rfl (w_free rfl) ⟨g_fr (by kernel_rfl) rfl, trivial⟩ (fun w hw => rn_field (o' := 5) fa_60_3 rfl rfl) (at_top rfl)) ?_
         refine bl_cons 3 rfl (isV _) (stab_isV _) (rgV (li := [(44, _)]) rfl (w_free rfl) ⟨g_dep 1 (by kernel_rfl) (at_dep rfl rfl rfl), trivial⟩ (fun w hw => rn_load Try.isAgg29 rfl ((below_agree hw 0).cell (Nat.zero_le _) (cell_own (hS.at_ 0 rfl) rfl))) (at_top rfl)) ?_
         refine bl_cons 4 rfl (isV _) (stab_isV _) (rgV (li := [(4, _)]) rfl (w_free rfl) ⟨g_fr (by kernel_rfl) rfl, trivial⟩ (fun w hw => rn_move rfl) (at_top rfl)) ?_
         refine bl_cons 5 rfl (isV _) (stab_isV _) (rgV (li := [(45, _), (46, _)]) rfl (w_free rfl) ⟨g_dep 2 (by kernel_rfl) (at_dep rfl rfl rfl), g_dep 3 (by kernel_rfl) (at_dep rfl rfl rfl), trivial⟩ (fun w hw => rn_indexA  Try.underlying29 Try.sizeOf3 rfl rfl rfl (by omega) rfl) (at_top rfl)) ?_
         refine bl_cons 6 rfl (isV _) (stab_isV _) (rgV (li := [(47, _)]) rfl (w_free rfl) ⟨g_dep 4 (by kernel_rfl) (at_dep rfl rfl rfl), trivial⟩ (fun w hw => rn_load Try.isAgg3 rfl ((below_agree hw 0).cell (Nat.zero_le _) (k1))) (at_top rfl)) ?_
         refine bl_cons 7 rfl (isV (.bool true)) (stab_isV _) (rg_call [isV _, isV _] rfl goes_73 (w_free rfl) ⟨p_tmp (g_dep 0 (by kernel_rfl) (at_dep rfl rfl rfl)), p_tmp (g_dep 5 (by kernel_rfl) (at_dep rfl rfl rfl)), trivial⟩ (fun vs w' hb hh => by have e := holds_isV (us := [_, _]) hh; subst e; exact (stR_is ⟨s, st, sy, _, fl, fc, fs, ta, tl, tc, ts⟩ y _).mono fun e w2 h => ⟨_, by rw [h.1, e1], rfl, h.2⟩) (at_top rfl)) ?_
         refine bl_cons 8 rfl (isV (.bool false)) (stab_isV _) (rgVe (li := [(49, _)]) rfl (w_free rfl) ⟨g_dep 6 (by kernel_rfl) (at_dep rfl rfl rfl), trivial⟩ (fun w hw => rn_not rfl) (rfl) (at_top rfl)) ?_
         refine bl_cons 9 rfl (isV _) (stab_isV _) (rgV (li := [(50, _)]) rfl (w_free rfl) ⟨g_dep 7 (by kernel_rfl) (at_dep rfl rfl rfl), trivial⟩ (fun w hw => rn_move rfl) (at_top rfl)) ?_
         refine bl_cons 10 rfl (isV _) (stab_isV _) (rgV (li := [(4, _)]) rfl (w_yes 51 rfl (by kernel_rfl) (by kernel_rfl) (at_dep rfl rfl rfl)) ⟨g_fr (by kernel_rfl) rfl, trivial⟩ (fun w hw => rn_move rfl) (at_top rfl)) ?_
         refine bl_cons 11 rfl (isV (.bool false)) (stab_isV _) (rgVe (li := [(52, _)]) rfl (w_yes 51 rfl (by kernel_rfl) (by kernel_rfl) (at_dep rfl rfl rfl)) ⟨g_dep 9 (by kernel_rfl) (at_dep rfl rfl rfl), trivial⟩ (fun w hw => rn_gtr rfl rfl) (by rw [decide_eq_false (by omega)]) (at_top rfl)) ?_
         refine bl_cons 12 rfl (isV _) (stab_isV _) (rgV (li := [(53, _)]) rfl (w_yes 51 rfl (by kernel_rfl) (by kernel_rfl) (at_dep rfl rfl rfl)) ⟨g_dep 10 (by kernel_rfl) (at_dep rfl rfl rfl), trivial⟩ (fun w hw => rn_move rfl) (at_top rfl)) ?_
         refine bl_cons 13 rfl (isV undef) (stab_isV _) (rg_no rfl (w_no 54 rfl (by kernel_rfl) (by kernel_rfl) (at_dep rfl rfl rfl) rfl) (at_top rfl)) ?_
         refine bl_cons 14 rfl (isV undef) (stab_isV _) (rg_no rfl (w_no 54 rfl (by kernel_rfl) (by kernel_rfl) (at_dep rfl rfl rfl) rfl) (at_top rfl)) ?_
         refine bl_cons 15 rfl (isV undef) (stab_isV _) (rg_no rfl (w_no 54 rfl (by kernel_rfl) (by kernel_rfl) (at_dep rfl rfl rfl) rfl) (at_top rfl)) ?_
         refine bl_cons 16 rfl (isV undef) (stab_isV _) (rg_no rfl (w_no 54 rfl (by kernel_rfl) (by kernel_rfl) (at_dep rfl rfl rfl) rfl) (at_top rfl)) ?_
         refine bl_cons 17 rfl (isV undef) (stab_isV _) (rg_no rfl (w_no 54 rfl (by kernel_rfl) (by kernel_rfl) (at_dep rfl rfl rfl) rfl) (at_top rfl)) ?_
         refine bl_cons 18 rfl (isV undef) (stab_isV _) (rg_no rfl (w_no 54 rfl (by kernel_rfl) (by kernel_rfl) (at_dep rfl rfl rfl) rfl) (at_top rfl)) ?_
         refine bl_cons 19 rfl (isV undef) (stab_isV _) (rg_no rfl (w_no 54 rfl (by kernel_rfl) (by kernel_rfl) (at_dep rfl rfl rfl) rfl) (at_top rfl)) ?_
         refine bl_cons 20 rfl (isV undef) (stab_isV _) (rg_no rfl (w_no 54 rfl (by kernel_rfl) (by kernel_rfl) (at_dep rfl rfl rfl) rfl) (at_top rfl)) ?_
         refine bl_cons 21 rfl (isV undef) (stab_isV _) (rg_no rfl (w_no 54 rfl (by kernel_rfl) (by kernel_rfl) (at_dep rfl rfl rfl) rfl) (at_top rfl)) ?_
         refine bl_cons 22 rfl (isV undef) (stab_isV _) (rg_no rfl (w_no 54 rfl (by kernel_rfl) (by kernel_rfl) (at_dep rfl rfl rfl) rfl) (at_top rfl)) ?_
         refine bl_cons 23 rfl (isV undef) (stab_isV _) (rg_no rfl (w_no 54 rfl (by kernel_rfl) (by kernel_rfl) (at_dep rfl rfl rfl) rfl) (at_top rfl)) ?_
         refine bl_cons 24 rfl (isV undef) (stab_isV _) (rg_no rfl (w_no 54 rfl (by kernel_rfl) (by kernel_rfl) (at_dep rfl rfl rfl) rfl) (at_top rfl)) ?_
         refine bl_cons 25 rfl (isV _) (stab_isV _) (rgV (li := [(54, _)]) rfl (w_yes 51 rfl (by kernel_rfl) (by kernel_rfl) (at_dep rfl rfl rfl)) ⟨g_dep 11 (by kernel_rfl) (at_dep rfl rfl rfl), trivial⟩ (fun w hw => rn_pickF rfl rfl) (at_top rfl)) ?_
         refine bl_cons 26 rfl (isV _) (stab_isV _) (rgV (li := [(51, _), (67, _)]) rfl (w_free rfl) ⟨g_dep 8 (by kernel_rfl) (at_dep rfl rfl rfl), g_dep 24 (by kernel_rfl) (at_dep rfl rfl rfl), trivial⟩ (fun w hw => rn_pickF rfl rfl) (at_top rfl)) ?_
         refine bl_nil ?_
         intro W4 hbR hS'
         clear hS; have hS := hS'; clear hS'
         iterate 26 refine fin_v ?_
         refine fin_nil ?_
         refine XF.thenN ?_
         refine condN rfl ?_
         refine skipF ?_
         refine XF.blkN ?_
         refine XF.thenN ?_
         refine regF ?_
         refine op_move rfl rfl ?_
         refine op_add rfl rfl (IntWalk.i64_in _ (by omega)) rfl ?_
         refine op_assign rfl rfl ?_
         refine endF ?_
         exact XF.round (fl - (i + 1)) [(1, _), (4, _)] (by omega) ⟨rfl, rfl, trivial⟩ ⟨i + 1, by omega, rfl, rfl, fin_next hall (finOk_zero hy e1 h9), hS.clear⟩
        ·obtain ⟨b2, off2, z, e2, hz, hzc⟩ := hfrow.at1 (show i - 1 < fs.length by omega)
         cases e2
         have k2 := hS.old hzc
         refine regB (m := 26) followsM hS (by kernel_rfl) (by kernel_rfl) rfl ?_
         refine bl_cons 1 rfl (isV _) (stab_isV _) (rgV (li := [(1, _)]) rfl (w_free rfl) ⟨g_fr (by kernel_rfl) rfl, trivial⟩ (fun w hw => rn_loadA (vs := [_, _, _, _, _, _, _]) Try.isAgg60 Try.sizeOf60 rfl (CellsAt.agree (below_agree hw 0) (Nat.zero_le _) (CellsAt.own (j := 0) (m := 7) (hS.at_ 0 rfl) rfl))) (at_top rfl)) ?_
         refine bl_cons 2 rfl (isV _) (stab_isV _) (rgV (li := [(1, _)]) rfl (w_free rfl) ⟨g_fr (by kernel_rfl) rfl, trivial⟩ (fun w hw => rn_field (o' := 5) fa_60_3 rfl rfl) (at_top rfl)) ?_
         refine bl_cons 3 rfl (isV _) (stab_isV _) (rgV (li := [(44, _)]) rfl (w_free rfl) ⟨g_dep 1 (by kernel_rfl) (at_dep rfl rfl rfl), trivial⟩ (fun w hw => rn_load Try.isAgg29 rfl ((below_agree hw 0).cell (Nat.zero_le _) (cell_own (hS.at_ 0 rfl) rfl))) (at_top rfl)) ?_
         refine bl_cons 4 rfl (isV _) (stab_isV _) (rgV (li := [(4, _)]) rfl (w_free rfl) ⟨g_fr (by kernel_rfl) rfl, trivial⟩ (fun w hw => rn_move rfl) (at_top rfl)) ?_
         refine bl_cons 5 rfl (isV _) (stab_isV _) (rgV (li := [(45, _), (46, _)]) rfl (w_free rfl) ⟨g_dep 2 (by kernel_rfl) (at_dep rfl rfl rfl), g_dep 3 (by kernel_rfl) (at_dep rfl rfl rfl), trivial⟩ (fun w hw => rn_indexA  Try.underlying29 Try.sizeOf3 rfl rfl rfl (by omega) rfl) (at_top rfl)) ?_
         refine bl_cons 6 rfl (isV _) (stab_isV _) (rgV (li := [(47, _)]) rfl (w_free rfl) ⟨g_dep 4 (by kernel_rfl) (at_dep rfl rfl rfl), trivial⟩ (fun w hw => rn_load Try.isAgg3 rfl ((below_agree hw 0).cell (Nat.zero_le _) (k1))) (at_top rfl)) ?_
         refine bl_cons 7 rfl (isV (.bool true)) (stab_isV _) (rg_call [isV _, isV _] rfl goes_73 (w_free rfl) ⟨p_tmp (g_dep 0 (by kernel_rfl) (at_dep rfl rfl rfl)), p_tmp (g_dep 5 (by kernel_rfl) (at_dep rfl rfl rfl)), trivial⟩ (fun vs w' hb hh => by have e := holds_isV (us := [_, _]) hh; subst e; exact (stR_is ⟨s, st, sy, _, fl, fc, fs, ta, tl, tc, ts⟩ y _).mono fun e w2 h => ⟨_, by rw [h.1, e1], rfl, h.2⟩) (at_top rfl)) ?_
         refine bl_cons 8 rfl (isV (.bool false)) (stab_isV _) (rgVe (li := [(49, _)]) rfl (w_free rfl) ⟨g_dep 6 (by kernel_rfl) (at_dep rfl rfl rfl), trivial⟩ (fun w hw => rn_not rfl) (rfl) (at_top rfl)) ?_
         refine bl_cons 9 rfl (isV _) (stab_isV _) (rgV (li := [(50, _)]) rfl (w_free rfl) ⟨g_dep 7 (by kernel_rfl) (at_dep rfl rfl rfl), trivial⟩ (fun w hw => rn_move rfl) (at_top rfl)) ?_
         refine bl_cons 10 rfl (isV _) (stab_isV _) (rgV (li := [(4, _)]) rfl (w_yes 51 rfl (by kernel_rfl) (by kernel_rfl) (at_dep rfl rfl rfl)) ⟨g_fr (by kernel_rfl) rfl, trivial⟩ (fun w hw => rn_move rfl) (at_top rfl)) ?_
         refine bl_cons 11 rfl (isV (.bool true)) (stab_isV _) (rgVe (li := [(52, _)]) rfl (w_yes 51 rfl (by kernel_rfl) (by kernel_rfl) (at_dep rfl rfl rfl)) ⟨g_dep 9 (by kernel_rfl) (at_dep rfl rfl rfl), trivial⟩ (fun w hw => rn_gtr rfl rfl) (by rw [decide_eq_true (by omega)]) (at_top rfl)) ?_
         refine bl_cons 12 rfl (isV _) (stab_isV _) (rgV (li := [(53, _)]) rfl (w_yes 51 rfl (by kernel_rfl) (by kernel_rfl) (at_dep rfl rfl rfl)) ⟨g_dep 10 (by kernel_rfl) (at_dep rfl rfl rfl), trivial⟩ (fun w hw => rn_move rfl) (at_top rfl)) ?_
         refine bl_cons 13 rfl (isV _) (stab_isV _) (rgV (li := [(1, _)]) rfl (w_yes 54 rfl (by kernel_rfl) (by kernel_rfl) (at_dep rfl rfl rfl)) ⟨g_fr (by kernel_rfl) rfl, trivial⟩ (fun w hw => rn_field (o' := 5) fa_60_3 rfl rfl) (at_top rfl)) ?_
         refine bl_cons 14 rfl (isV _) (stab_isV _) (rgV (li := [(55, _)]) rfl (w_yes 54 rfl (by kernel_rfl) (by kernel_rfl) (at_dep rfl rfl rfl)) ⟨g_dep 12 (by kernel_rfl) (at_dep rfl rfl rfl), trivial⟩ (fun w hw => rn_load Try.isAgg29 rfl ((below_agree hw 0).cell (Nat.zero_le _) (cell_own (hS.at_ 0 rfl) rfl))) (at_top rfl)) ?_
         refine bl_cons 15 rfl (isV _) (stab_isV _) (rgV (li := [(4, _)]) rfl (w_yes 54 rfl (by kernel_rfl) (by kernel_rfl) (at_dep rfl rfl rfl)) ⟨g_fr (by kernel_rfl) rfl, trivial⟩ (fun w hw => rn_move rfl) (at_top rfl)) ?_
         refine bl_cons 16 rfl (isV _) (stab_isV _) (rgV (li := [(56, _), (57, _)]) rfl (w_yes 54 rfl (by kernel_rfl) (by kernel_rfl) (at_dep rfl rfl rfl)) ⟨g_dep 13 (by kernel_rfl) (at_dep rfl rfl rfl), g_dep 14 (by kernel_rfl) (at_dep rfl rfl rfl), trivial⟩ (fun w hw => rn_indexA  Try.underlying29 Try.sizeOf3 rfl rfl rfl (by omega) rfl) (at_top rfl)) ?_
         refine bl_cons 17 rfl (isV _) (stab_isV _) (rgV (li := [(58, _)]) rfl (w_yes 54 rfl (by kernel_rfl) (by kernel_rfl) (at_dep rfl rfl rfl)) ⟨g_dep 15 (by kernel_rfl) (at_dep rfl rfl rfl), trivial⟩ (fun w hw => rn_load Try.isAgg3 rfl ((below_agree hw 0).cell (Nat.zero_le _) (k1))) (at_top rfl)) ?_
         refine bl_cons 18 rfl (isV _) (stab_isV _) (rgV (li := [(1, _)]) rfl (w_yes 54 rfl (by kernel_rfl) (by kernel_rfl) (at_dep rfl rfl rfl)) ⟨g_fr (by kernel_rfl) rfl, trivial⟩ (fun w hw => rn_field (o' := 5) fa_60_3 rfl rfl) (at_top rfl)) ?_
         refine bl_cons 19 rfl (isV _) (stab_isV _) (rgV (li := [(60, _)]) rfl (w_yes 54 rfl (by kernel_rfl) (by kernel_rfl) (at_dep rfl rfl rfl)) ⟨g_dep 17 (by kernel_rfl) (at_dep rfl rfl rfl), trivial⟩ (fun w hw => rn_load Try.isAgg29 rfl ((below_agree hw 0).cell (Nat.zero_le _) (cell_own (hS.at_ 0 rfl) rfl))) (at_top rfl)) ?_
         refine bl_cons 20 rfl (isV _) (stab_isV _) (rgV (li := [(4, _)]) rfl (w_yes 54 rfl (by kernel_rfl) (by kernel_rfl) (at_dep rfl rfl rfl)) ⟨g_fr (by kernel_rfl) rfl, trivial⟩ (fun w hw => rn_move rfl) (at_top rfl)) ?_
         refine bl_cons 21 rfl (isV _) (stab_isV _) (rgV (li := [(62, _)]) rfl (w_yes 54 rfl (by kernel_rfl) (by kernel_rfl) (at_dep rfl rfl rfl)) ⟨g_dep 19 (by kernel_rfl) (at_dep rfl rfl rfl), trivial⟩ (fun w hw => rn_sub rfl rfl (IntWalk.i64_in _ (by omega))) (at_top rfl)) ?_
         refine bl_cons 22 rfl (isV _) (stab_isV _) (rgV (li := [(61, _), (63, _)]) rfl (w_yes 54 rfl (by kernel_rfl) (by kernel_rfl) (at_dep rfl rfl rfl)) ⟨g_dep 18 (by kernel_rfl) (at_dep rfl rfl rfl), g_dep 20 (by kernel_rfl) (at_dep rfl rfl rfl), trivial⟩ (fun w hw => rn_indexA (j := (i - 1)) Try.underlying29 Try.sizeOf3 rfl rfl (by omega) (by omega) rfl) (at_top rfl)) ?_
         refine bl_cons 23 rfl (isV _) (stab_isV _) (rgV (li := [(64, _)]) rfl (w_yes 54 rfl (by kernel_rfl) (by kernel_rfl) (at_dep rfl rfl rfl)) ⟨g_dep 21 (by kernel_rfl) (at_dep rfl rfl rfl), trivial⟩ (fun w hw => rn_load Try.isAgg3 rfl ((below_agree hw 0).cell (Nat.zero_le _) (k2))) (at_top rfl)) ?_
         refine bl_cons 24 rfl (isV _) (stab_isV _) (rgV (li := [(59, _), (65, _)]) rfl (w_yes 54 rfl (by kernel_rfl) (by kernel_rfl) (at_dep rfl rfl rfl)) ⟨g_dep 16 (by kernel_rfl) (at_dep rfl rfl rfl), g_dep 22 (by kernel_rfl) (at_dep rfl rfl rfl), trivial⟩ (fun w hw => rn_leq rfl rfl) (at_top rfl)) ?_
         refine bl_cons 25 rfl (isV _) (stab_isV _) (rgV (li := [(54, _), (66, _)]) rfl (w_yes 51 rfl (by kernel_rfl) (by kernel_rfl) (at_dep rfl rfl rfl)) ⟨g_dep 11 (by kernel_rfl) (at_dep rfl rfl rfl), g_dep 23 (by kernel_rfl) (at_dep rfl rfl rfl), trivial⟩ (fun w hw => rn_pickT rfl rfl) (at_top rfl)) ?_
         refine bl_cons 26 rfl (isV _) (stab_isV _) (rgV (li := [(51, _), (67, _)]) rfl (w_free rfl) ⟨g_dep 8 (by kernel_rfl) (at_dep rfl rfl rfl), g_dep 24 (by kernel_rfl) (at_dep rfl rfl rfl), trivial⟩ (fun w hw => rn_pickF rfl rfl) (at_top rfl)) ?_
         refine bl_nil ?_
         intro W5 hbR hS'
         clear hS; have hS := hS'; clear hS'
         iterate 26 refine fin_v ?_
         refine fin_nil ?_
         refine XF.thenN ?_
         refine condF rfl (fun hc => ?_) (fun hc => ?_)
         ·have hc68 := hc; clear hc
          have hyz := of_decide_eq_true hc68
          refine seqF (regF ?_)
          refine op_assign rfl rfl ?_
          refine endF (XF.thenN ?_)
          refine retF ?_
          refine XF.blkR ?_
          iterate 2 refine XF.thenR ?_
          refine XF.blkR ?_
          refine XF.thenR ?_
          refine XF.res (res1 Try.results42 rfl) ?_
          exact ⟨rint (by unfold autoE; dsimp only; rw [if_neg h0, if_neg h1, if_pos (by unfold ashapeB; rw [if_neg h2, finB_no (i := i) (by omega) (by rw [finOk_pos hy hz e1 h9]; exact decide_eq_false (by omega)), Bool.false_and])]), hS.below⟩
         ·have hc68 := hc; clear hc
          have hyz := of_decide_eq_false hc68
          refine skipF ?_
          refine XF.blkN ?_
          refine XF.thenN ?_
          refine regF ?_
          refine op_move rfl rfl ?_
          refine op_add rfl rfl (IntWalk.i64_in _ (by omega)) rfl ?_
          refine op_assign rfl rfl ?_
          refine endF ?_
          exact XF.round (fl - (i + 1)) [(1, _), (4, _)] (by omega) ⟨rfl, rfl, trivial⟩ ⟨i + 1, by omega, rfl, rfl, fin_next hall (by rw [finOk_pos hy hz e1 h9]; exact decide_eq_true (by omega)), hS.clear⟩
       ·have hc40 := of_decide_eq_false hc; clear hc
        have hfb : finB st fs = true := finB_of fun j hj => hall j (by omega)
        refine exitF ?_
        iterate 2 refine XF.thenX ?_
        refine XF.blkX ?_
        refine XF.thenN ?_
        refine seqF ?_
        refine seqF (regF ?_)
        refine op_assign rfl rfl ?_
        refine endF (XF.thenN ?_)
        refine blockF ?_
        refine loopF (fun m l W => ∃ i : Nat, i ≤ tl ∧ m = tl - i ∧ l = [(1, .pointer (some ⟨B1, 0, none⟩)), (5, .int .i64 (i : Int))] ∧ (ts.take i).all (trB st sy) = true ∧ St w [(B1, [.int .i64 s.f.tag, .int .i64 s.f.dim, .slice s.f.a s.f.len s.f.cap, .int .i64 st, .int .i64 sy, .slice fa fl fc, .slice ta tl tc], 60)] [] [] W) (tl - 0) ([(1, _), (5, _)]) ⟨rfl, rfl, trivial⟩ (⟨0, Nat.zero_le _, rfl, rfl, rfl, hS.clear⟩) ?_
        clear hS
        rintro m l W ⟨i, hi, rfl, rfl, hall, hS⟩
        refine seqF ?_
        refine seqF (regF ?_)
        refine op_move rfl rfl ?_
        refine op_field (o' := 6) fa_60_4 rfl rfl rfl ?_
        refine op_load Try.isAgg58 rfl (cell_own (hS.at_ 0 rfl) rfl) rfl ?_
        refine op_len Try.underlying58 rfl rfl ?_
        refine op_lss rfl rfl rfl ?_
        refine endF (XF.thenN ?_)
        refine condF rfl (fun hc => ?_) (fun hc => ?_)
        ·have hc73 := of_decide_eq_true hc; clear hc
         have hk : i < tl := by omega
         obtain ⟨r, hr⟩ : ∃ r, ts[i]? = some r := ⟨ts[i]'(by omega), by simp [show i < ts.length by omega]⟩
         obtain ⟨b, off, rfl, hcs⟩ := htrow.at_ hr
         have k1 := CellsAt.agree hS.agree (Nat.zero_le _) hcs
         have hri := htin r (List.mem_of_getElem? hr)
         refine skipF ?_
         refine XF.thenN ?_
         refine seqF ?_
         refine blockF ?_
         refine seqF (regF ?_)
         refine op_field (o' := 6) fa_60_4 rfl rfl rfl ?_
         refine op_load Try.isAgg58 rfl (cell_own (hS.at_ 0 rfl) rfl) rfl ?_
         refine op_move rfl rfl ?_
         refine op_indexA  Try.underlying58 Try.sizeOf100 rfl rfl rfl (by omega) rfl rfl ?_
         refine op_loadA (vs := [_, _, _, _, _, _, _, _, _]) Try.isAgg100 Try.sizeOf100 rfl (k1) rfl ?_
         refine op_alloc (cs := [_, _, _, _, _, _, _, _, _]) hS Try.zeroValue100 rfl rfl ?_
         clear hS; intro B6 W6 hS
         refine op_storeA (i := 0) (vs := [_, _, _, _, _, _, _, _, _]) (cs' := [_, _, _, _, _, _, _, _, _]) (O' := [_, _]) hS Try.sizeOf100 rfl rfl rfl rfl rfl rfl rfl ?_
         clear hS; intro W7 hS
         refine endF (XF.thenN ?_)
         refine seqF (regF ?_)
         refine op_loadA (vs := [_, _, _, _, _, _, _]) Try.isAgg60 Try.sizeOf60 rfl (CellsAt.own (j := 0) (m := 7) (hS.at_ 1 rfl) rfl) rfl ?_
         refine op_field (o' := 0) fa_100_0 rfl rfl rfl ?_
         refine op_load Try.isAgg3 rfl (cell_own (hS.at_ 0 rfl) rfl) rfl ?_
         refine op_call (vs := [_, _]) hS goes_73 rfl (stR_is ⟨s, st, sy, fa, fl, fc, fs, _, tl, tc, ts⟩ r.f _) rfl ?_
         rintro e W8 ⟨rfl, hb⟩
         refine ⟨_, rfl, hb, fun hS' => ?_⟩
         clear hS; have hS := hS'; clear hS' hb
         refine op_not rfl rfl ?_
         refine op_move rfl rfl ?_
         refine op_cases (d := 86) rfl (fun hc => ?_) (fun hc => ?_)
         ·have hg86 := hc; clear hc
          have e1 : inQ r.f st = false := by simpa using hg86
          iterate 5 refine op_notF (d := 86) rfl rfl rfl rfl ?_
          refine op_pickT rfl rfl rfl ?_
          refine op_move rfl rfl ?_
          iterate 3 refine op_notF (d := 93) rfl rfl rfl rfl ?_
          refine op_pickT rfl rfl rfl ?_
          refine op_move rfl rfl ?_
          iterate 5 refine op_notF (d := 98) rfl rfl rfl rfl ?_
          refine op_pickT rfl rfl rfl ?_
          refine endF (XF.thenN ?_)
          refine condT rfl ?_
          refine seqF (regF ?_)
          refine op_assign rfl rfl ?_
          refine endF (XF.thenN ?_)
          refine retF ?_
          refine XF.blkR ?_
          iterate 2 refine XF.thenR ?_
          refine XF.blkR ?_
          refine XF.thenR ?_
          refine XF.res (res1 Try.results42 rfl) ?_
          exact ⟨rint (by unfold autoE; dsimp only; rw [if_neg h0, if_neg h1, if_pos (by unfold ashapeB; rw [if_neg h2, all_false_at hr (by simp [trB, e1]), Bool.and_false])]), hS.below⟩
         ·have hg86 := hc; clear hc
          have e1 : inQ r.f st = true := by simpa using hg86
          refine op_wantedF (d := 86) rfl rfl ?_
          refine op_loadA (vs := [_, _, _, _, _, _, _]) Try.isAgg60 Try.sizeOf60 rfl (CellsAt.own (j := 0) (m := 7) (hS.at_ 1 rfl) rfl) rfl ?_
          refine op_wantedF (d := 86) rfl rfl ?_
          refine op_field (o' := 2) fa_100_2 rfl rfl rfl ?_
          refine op_wantedF (d := 86) rfl rfl ?_
          refine op_load Try.isAgg3 rfl (cell_own (hS.at_ 0 rfl) rfl) rfl ?_
          refine op_wantedF (d := 86) rfl rfl ?_
          refine op_call (vs := [_, _]) hS goes_73 rfl (stR_is ⟨s, st, sy, fa, fl, fc, fs, _, tl, tc, ts⟩ r.t _) rfl ?_
          rintro e W9 ⟨rfl, hb⟩
          refine ⟨_, rfl, hb, fun hS' => ?_⟩
          clear hS; have hS := hS'; clear hS' hb
          refine op_wantedF (d := 86) rfl rfl ?_
          refine op_not rfl rfl ?_
          refine op_pickF rfl rfl rfl ?_
          refine op_move rfl rfl ?_
          refine op_cases (d := 93) rfl (fun hc => ?_) (fun hc => ?_)
          ·have hg93 := hc; clear hc
           have e3 : inQ r.t st = false := by simpa using hg93
           iterate 3 refine op_notF (d := 93) rfl rfl rfl rfl ?_
           refine op_pickT rfl rfl rfl ?_
           refine op_move rfl rfl ?_
           iterate 5 refine op_notF (d := 98) rfl rfl rfl rfl ?_
           refine op_pickT rfl rfl rfl ?_
           refine endF (XF.thenN ?_)
           refine condT rfl ?_
           refine seqF (regF ?_)
           refine op_assign rfl rfl ?_
           refine endF (XF.thenN ?_)
           refine retF ?_
           refine XF.blkR ?_
           iterate 2 refine XF.thenR ?_
           refine XF.blkR ?_
           refine XF.thenR ?_
           refine XF.res (res1 Try.results42 rfl) ?_
           exact ⟨rint (by unfold autoE; dsimp only; rw [if_neg h0, if_neg h1, if_pos (by unfold ashapeB; rw [if_neg h2, all_false_at hr (by simp [trB, e3]), Bool.and_false])]), hS.below⟩
          ·have hg93 := hc; clear hc
           have e3 : inQ r.t st = true := by simpa using hg93
           refine op_wantedF (d := 93) rfl rfl ?_
           refine op_field (o' := 1) fa_100_1 rfl rfl rfl ?_
           refine op_wantedF (d := 93) rfl rfl ?_
           refine op_load Try.isAgg3 rfl (cell_own (hS.at_ 0 rfl) rfl) rfl ?_
           refine op_wantedF (d := 93) rfl rfl ?_
           refine op_lss rfl rfl rfl ?_
           refine op_pickF rfl rfl rfl ?_
           refine op_move rfl rfl ?_
           refine op_cases (d := 98) rfl (fun hc => ?_) (fun hc => ?_)
           ·have hg98 := of_decide_eq_true hc; clear hc
            iterate 5 refine op_notF (d := 98) rfl rfl rfl rfl ?_
            refine op_pickT rfl rfl rfl ?_
            refine endF (XF.thenN ?_)
            refine condT rfl ?_
            refine seqF (regF ?_)
            refine op_assign rfl rfl ?_
            refine endF (XF.thenN ?_)
            refine retF ?_
            refine XF.blkR ?_
            iterate 2 refine XF.thenR ?_
            refine XF.blkR ?_
            refine XF.thenR ?_
            refine XF.res (res1 Try.results42 rfl) ?_
            exact ⟨rint (by unfold autoE; dsimp only; rw [if_neg h0, if_neg h1, if_pos (by unfold ashapeB; rw [if_neg h2, all_false_at hr (by simp [trB, show ¬ (-1 ≤ r.g) by omega]), Bool.and_false])]), hS.below⟩
           ·have hg98 := of_decide_eq_false hc; clear hc
            refine op_wantedF (d := 98) rfl rfl ?_
            refine op_field (o' := 1) fa_100_1 rfl rfl rfl ?_
            refine op_wantedF (d := 98) rfl rfl ?_
            refine op_load Try.isAgg3 rfl (cell_own (hS.at_ 0 rfl) rfl) rfl ?_
            refine op_wantedF (d := 98) rfl rfl ?_
            refine op_field (o' := 4) fa_60_2 rfl rfl rfl ?_
            refine op_wantedF (d := 98) rfl rfl ?_
            refine op_load Try.isAgg3 rfl (cell_own (hS.at_ 1 rfl) rfl) rfl ?_
            refine op_wantedF (d := 98) rfl rfl ?_
            refine op_geq rfl rfl rfl ?_
            refine op_pickF rfl rfl rfl ?_
            refine endF (XF.thenN ?_)
            refine condF rfl (fun hc => ?_) (fun hc => ?_)
            ·have hc104 := of_decide_eq_true hc; clear hc
             refine seqF (regF ?_)
             refine op_assign rfl rfl ?_
             refine endF (XF.thenN ?_)
             refine retF ?_
             refine XF.blkR ?_
             iterate 2 refine XF.thenR ?_
             refine XF.blkR ?_
             refine XF.thenR ?_
             refine XF.res (res1 Try.results42 rfl) ?_
             exact ⟨rint (by unfold autoE; dsimp only; rw [if_neg h0, if_neg h1, if_pos (by unfold ashapeB; rw [if_neg h2, all_false_at hr (by simp [trB, show ¬ (r.g < sy) by omega]), Bool.and_false])]), hS.below⟩
            ·have hc104 := of_decide_eq_false hc; clear hc
             refine skipF ?_
             refine XF.blkN ?_
             refine XF.thenN ?_
             refine regF ?_
             refine op_move rfl rfl ?_
             refine op_add rfl rfl (IntWalk.i64_in _ (by omega)) rfl ?_
             refine op_assign rfl rfl ?_
             refine endF ?_
             exact XF.round (tl - (i + 1)) [(1, _), (5, _)] (by omega) ⟨rfl, rfl, trivial⟩ ⟨i + 1, by omega, rfl, rfl, all_take_at hr hall (by simp only [trB, e1, e3, Bool.true_and]; rw [decide_eq_true (show -1 ≤ r.g by omega), decide_eq_true (show r.g < sy by omega)]; rfl), hS.tail.clear⟩
        ·have hc73 := of_decide_eq_false hc; clear hc
         rw [List.take_of_length_le (by omega)] at hall
         have h3 : ¬ ashapeB st sy fs ts = false := by unfold ashapeB; rw [if_neg h2, hfb, hall]; decide
         refine exitF ?_
         iterate 2 refine XF.thenX ?_
         refine XF.blkX ?_
         refine XF.thenN ?_
         refine seqF ?_
         refine seqF (regF ?_)
         refine op_assign rfl rfl ?_
         refine endF (XF.thenN ?_)
         refine blockF ?_
         refine loopF (fun m l W => ∃ i : Nat, i ≤ tl ∧ m = tl - i ∧ l = [(1, .pointer (some ⟨B1, 0, none⟩)), (7, .int .i64 (i : Int))] ∧ (ts.take i).all (fun t => decide (chkW s t.x = 0)) = true ∧ St w [(B1, [.int .i64 s.f.tag, .int .i64 s.f.dim, .slice s.f.a s.f.len s.f.cap, .int .i64 st, .int .i64 sy, .slice fa fl fc, .slice ta tl tc], 60)] [] [] W) (tl - 0) ([(1, _), (7, _)]) ⟨rfl, rfl, trivial⟩ (⟨0, Nat.zero_le _, rfl, rfl, rfl, hS.clear⟩) ?_
         clear hS
         rintro m l W ⟨i, hi, rfl, rfl, hall2, hS⟩
         refine seqF ?_
         refine seqF (regF ?_)
         refine op_move rfl rfl ?_
         refine op_field (o' := 6) fa_60_4 rfl rfl rfl ?_
         refine op_load Try.isAgg58 rfl (cell_own (hS.at_ 0 rfl) rfl) rfl ?_
         refine op_len Try.underlying58 rfl rfl ?_
         refine op_lss rfl rfl rfl ?_
         refine endF (XF.thenN ?_)
         refine condF rfl (fun hc => ?_) (fun hc => ?_)
         ·have hc109 := of_decide_eq_true hc; clear hc
          have hk : i < tl := by omega
          obtain ⟨r, hr⟩ : ∃ r, ts[i]? = some r := ⟨ts[i]'(by omega), by simp [show i < ts.length by omega]⟩
          obtain ⟨b, off, rfl, hcs⟩ := htrow.at_ hr
          have k1 := CellsAt.agree hS.agree (Nat.zero_le _) hcs
          have hri := htin r (List.mem_of_getElem? hr)
          have k2 : CellsAt W b (off + i * 9 + 3) r.x.f.six := k1.2.2.2
          refine skipF ?_
          refine XF.thenN ?_
          refine seqF ?_
          refine blockF ?_
          refine seqF ?_
          refine regB (m := 10) followsM hS (by kernel_rfl) (by kernel_rfl) rfl ?_
          refine bl_cons 1 rfl (isV _) (stab_isV _) (rgV (li := [(1, _)]) rfl (w_free rfl) ⟨g_fr (by kernel_rfl) rfl, trivial⟩ (fun w hw => rn_field (o' := 0) fa_60_0 rfl rfl) (at_top rfl)) ?_
          refine bl_cons 2 rfl (isV _) (stab_isV _) (rgV (li := [(112, _)]) rfl (w_free rfl) ⟨g_dep 0 (by kernel_rfl) (at_dep rfl rfl rfl), trivial⟩ (fun w hw => rn_loadA (vs := [_, _, _]) Try.isAgg25 Try.sizeOf25 rfl (CellsAt.agree (below_agree hw 0) (Nat.zero_le _) (CellsAt.own (j := 0) (m := 3) (hS.at_ 0 rfl) rfl))) (at_top rfl)) ?_
          refine bl_cons 3 rfl (isV _) (stab_isV _) (rgV (li := [(1, _)]) rfl (w_free rfl) ⟨g_fr (by kernel_rfl) rfl, trivial⟩ (fun w hw => rn_field (o' := 6) fa_60_4 rfl rfl) (at_top rfl)) ?_
          refine bl_cons 4 rfl (isV _) (stab_isV _) (rgV (li := [(114, _)]) rfl (w_free rfl) ⟨g_dep 2 (by kernel_rfl) (at_dep rfl rfl rfl), trivial⟩ (fun w hw => rn_load Try.isAgg58 rfl ((below_agree hw 0).cell (Nat.zero_le _) (cell_own (hS.at_ 0 rfl) rfl))) (at_top rfl)) ?_
          refine bl_cons 5 rfl (isV _) (stab_isV _) (rgV (li := [(7, _)]) rfl (w_free rfl) ⟨g_fr (by kernel_rfl) rfl, trivial⟩ (fun w hw => rn_move rfl) (at_top rfl)) ?_
          refine bl_cons 6 rfl (isV _) (stab_isV _) (rgV (li := [(115, _), (116, _)]) rfl (w_free rfl) ⟨g_dep 3 (by kernel_rfl) (at_dep rfl rfl rfl), g_dep 4 (by kernel_rfl) (at_dep rfl rfl rfl), trivial⟩ (fun w hw => rn_indexA  Try.underlying58 Try.sizeOf100 rfl rfl rfl (by omega) rfl) (at_top rfl)) ?_
          refine bl_cons 7 rfl (isV _) (stab_isV _) (rgV (li := [(117, _)]) rfl (w_free rfl) ⟨g_dep 5 (by kernel_rfl) (at_dep rfl rfl rfl), trivial⟩ (fun w hw => rn_field fa_100_3 rfl rfl) (at_top rfl)) ?_
          refine bl_cons 8 rfl (isV _) (stab_isV _) (rgV (li := [(118, _)]) rfl (w_free rfl) ⟨g_dep 6 (by kernel_rfl) (at_dep rfl rfl rfl), trivial⟩ (fun w hw => rn_loadA (vs := [_, _, _, _, _, _]) Try.isAgg45 Try.sizeOf45 rfl (CellsAt.agree (below_agree hw 0) (Nat.zero_le _) (k2))) (at_top rfl)) ?_
          refine bl_cons 9 rfl (isV (.int .i64 (chkW s r.x))) (stab_isV _) (rg_call [isV _, isV _] rfl goes_72 (w_free rfl) ⟨p_tmp (g_dep 1 (by kernel_rfl) (at_dep rfl rfl rfl)), p_tmp (g_dep 7 (by kernel_rfl) (at_dep rfl rfl rfl)), trivial⟩ (fun vs w' hb hh => by have e := holds_isV (us := [_, _]) hh; subst e; exact (checkR_genY ds d s r.x _ (SIn.below (hS.below.trans (hb.mono hS.below.size)) hs) (WIn.below (hS.below.trans (hb.mono hS.below.size)) hri)).mono fun e w2 h => ⟨_, h.1, rfl, h.2⟩) (at_top rfl)) ?_
          refine bl_cons 10 rfl (isV _) (stab_isV _) (rgV (li := [(120, _)]) rfl (w_free rfl) ⟨g_dep 8 (by kernel_rfl) (at_dep rfl rfl rfl), trivial⟩ (fun w hw => rn_neq rfl rfl) (at_top rfl)) ?_
          refine bl_nil ?_
          intro W10 hbR hS'
          clear hS; have hS := hS'; clear hS'
          iterate 10 refine fin_v ?_
          refine fin_nil ?_
          refine XF.thenN ?_
          refine condF rfl (fun hc => ?_) (fun hc => ?_)
          ·have hc121 := hc; clear hc
           refine seqF (regF ?_)
           refine op_assign rfl rfl ?_
           refine endF (XF.thenN ?_)
           refine retF ?_
           refine XF.blkR ?_
           iterate 2 refine XF.thenR ?_
           refine XF.blkR ?_
           refine XF.thenR ?_
           refine XF.res (res1 Try.results42 rfl) ?_
           exact ⟨rint (by unfold autoE; dsimp only; rw [if_neg h0, if_neg h1, if_neg h3, if_neg (by rw [all_false_at hr (decide_eq_false (by simpa using hc121))]; decide)]), hS.below⟩
          ·have hc121 := hc; clear hc
           refine skipF ?_
           refine XF.blkN ?_
           refine XF.thenN ?_
           refine regF ?_
           refine op_move rfl rfl ?_
           refine op_add rfl rfl (IntWalk.i64_in _ (by omega)) rfl ?_
           refine op_assign rfl rfl ?_
           refine endF ?_
           exact XF.round (tl - (i + 1)) [(1, _), (7, _)] (by omega) ⟨rfl, rfl, trivial⟩ ⟨i + 1, by omega, rfl, rfl, all_take_at hr hall2 (by simpa using hc121), hS.clear⟩
         ·have hc109 := of_decide_eq_false hc; clear hc
          rw [List.take_of_length_le (by omega)] at hall2
          refine exitF ?_
          iterate 2 refine XF.thenX ?_
          refine XF.blkX ?_
          refine XF.thenN ?_
          refine seqF (regF ?_)
          refine op_assign rfl rfl ?_
          refine endF (XF.thenN ?_)
          refine retF ?_
          refine XF.res (res1 Try.results42 rfl) ?_
          exact ⟨rint (by unfold autoE; dsimp only; rw [if_neg h0, if_neg h1, if_neg h3, if_pos hall2]), hS.below⟩
theorem autoR_is (ds d : Nat) (a : AV) (w : World) (h : AIn w ds d a) : Calls Try.prog 42 #[a.val] w (fun e w' => e = .returned (.int .i64 (autoE a)) ∧ Below w.heap.size w w') := autoR_c ds d _ _ _ _ _ _ _ _ _ _ _ w h.s h.frow h.flen h.trow h.tlen h.tin h.fmax h.tmax
end Go.Proofs.Ytpkcaabbcoiiiaa
namespace Go.Proofs.Ytpkcaabbcoiiiaa
open Go Go.RowKit
theorem fa_106_0 (w : World) (b o : Nat) : (Instr.fieldAt 106 (.pointer (some ⟨b, o, none⟩)) 0).run Try.prog w = .ok (.pointer (some ⟨b, o + 0, none⟩)) w := by
 simp [Instr.fieldAt, run_underlying Try.underlying106, Instr.sureAddr, go_sem, Addr.add_lit]
theorem fa_106_1 (w : World) (b o : Nat) : (Instr.fieldAt 106 (.pointer (some ⟨b, o, none⟩)) 1).run Try.prog w = .ok (.pointer (some ⟨b, o + 9, none⟩)) w := by
 simp [Instr.fieldAt, run_underlying Try.underlying106, Instr.sureAddr, go_sem, Addr.add_lit]
theorem inf_100 : Try.prog.info? 100 = some Try.t100 := by kernel_rfl
theorem qput_is (S : PS) (sf : SF) (f0 : WF) (sq : SF) (zt yt : Int) (vf v1 : Value) (n : Nat) (xs1 : List Value) (B : Nat) (Ot : Own) (K : List (Nat × World)) (w0 : World) (fr sm tt : Int) (w : World) (hS0 : St w0 ((B, mkC sf f0 sq zt yt vf v1, 106) :: Ot) [⟨v1, n, xs1, 100, 9⟩] K w) (hn : n ≤ 100000) (hsi : SIs w0 S sf) (hok : S.ok) :
  Calls Try.prog 47 #[.pointer (some ⟨B, 0, none⟩), .int .i64 fr, .int .i64 sm, .int .i64 tt] w (fun e w' => ∃ (u : Value) (f : WF) (Kn : List (Nat × World)), e = .returned (.tuple #[]) ∧ (∀ q ∈ K, q ∈ Kn) ∧ Held w0 Kn (fun W2 => XIs W2 S f (oneX S)) ∧ St w0 ((B, mkC sf f0 sq zt yt vf u, 106) :: Ot) [⟨u, n + 1, xs1 ++ nineP fr sm tt f, 100, 9⟩] Kn w') := by
 refine enterF (args := [.pointer (some ⟨B, 0, none⟩), .int .i64 fr, .int .i64 sm, .int .i64 tt]) Try.func47 rfl Try.ntmps47 rfl ?_
 have hS := hS0
 refine regBPC (p := 16) (k := 20) (gi := 0) (m := 1) followsM hS rfl rfl (by kernel_rfl) (by kernel_rfl) (by kernel_rfl) (fun d hd => by cases hd) rfl rfl Try.underlying58 inf_100 rfl rfl (by show 0 < 9; decide) rfl rfl rfl (by dsimp only; simp only [maxLen]; omega) (by dsimp only; show _ * 120 ≤ _; omega) ?_
 refine blp_late 1 rfl rfl (rgV (li := [(0, _)]) rfl (w_free rfl) ⟨g_fr (by kernel_rfl) rfl, trivial⟩ (fun w hw => rn_move rfl) (at_top rfl)) (lgV (li := [(0, _)]) rfl (w_free rfl) ⟨g_fr (by kernel_rfl) rfl, trivial⟩ (fun w => rn_move rfl) (at_top rfl) rfl) ?_
 refine blp_v 2 rfl rfl (by kernel_rfl) (rgV (li := [(0, _)]) rfl (w_free rfl) ⟨g_fr (by kernel_rfl) rfl, trivial⟩ (fun w hw => rn_move rfl) (at_top rfl)) ?_
 refine blp_v 3 rfl rfl (by kernel_rfl) (rgV (li := [(9, _)]) rfl (w_free rfl) ⟨g_dep 1 (by kernel_rfl) (at_dep rfl rfl rfl), trivial⟩ (fun w hw => rn_nilCheck rfl) (at_top rfl)) ?_
 refine blp_v 4 rfl rfl (by kernel_rfl) (rgV (li := [(10, _)]) rfl (w_free rfl) ⟨g_dep 2 (by kernel_rfl) (at_dep rfl rfl rfl), trivial⟩ (fun w hw => rn_field (o' := 9) fa_106_1 rfl rfl) (at_top rfl)) ?_
 refine blp_v 5 rfl rfl (by kernel_rfl) (rgV (li := [(11, _)]) rfl (w_free rfl) ⟨g_dep 3 (by kernel_rfl) (at_dep rfl rfl rfl), trivial⟩ (fun w hw => rn_field (o' := 15) fa_60_4 rfl rfl) (at_top rfl)) ?_
 refine blp_v 6 rfl rfl (by kernel_rfl) (rgV (li := [(12, _)]) rfl (w_free rfl) ⟨g_dep 4 (by kernel_rfl) (at_dep rfl rfl rfl), trivial⟩ (fun w hw => rn_load Try.isAgg58 rfl ((below_agree hw 0).cell (Nat.zero_le _) (cell_own (hS.at_ 0 rfl) rfl))) (at_top rfl)) ?_
 refine blp_v 7 rfl rfl (by kernel_rfl) (rgV (li := [(1, _)]) rfl (w_free rfl) ⟨g_fr (by kernel_rfl) rfl, trivial⟩ (fun w hw => rn_move rfl) (at_top rfl)) ?_
 refine blp_v 8 rfl rfl (by kernel_rfl) (rgV (li := [(2, _)]) rfl (w_free rfl) ⟨g_fr (by kernel_rfl) rfl, trivial⟩ (fun w hw => rn_move rfl) (at_top rfl)) ?_
 refine blp_v 9 rfl rfl (by kernel_rfl) (rgV (li := [(3, _)]) rfl (w_free rfl) ⟨g_fr (by kernel_rfl) rfl, trivial⟩ (fun w hw => rn_move rfl) (at_top rfl)) ?_
 refine blp_v 10 rfl rfl (by kernel_rfl) (rgV (li := [(0, _)]) rfl (w_free rfl) ⟨g_fr (by kernel_rfl) rfl, trivial⟩ (fun w hw => rn_move rfl) (at_top rfl)) ?_
 refine blp_v 11 rfl rfl (by kernel_rfl) (rgV (li := [(17, _)]) rfl (w_free rfl) ⟨g_dep 9 (by kernel_rfl) (at_dep rfl rfl rfl), trivial⟩ (fun w hw => rn_nilCheck rfl) (at_top rfl)) ?_
 refine blp_v 12 rfl rfl (by kernel_rfl) (rgV (li := [(18, _)]) rfl (w_free rfl) ⟨g_dep 10 (by kernel_rfl) (at_dep rfl rfl rfl), trivial⟩ (fun w hw => rn_field (o' := 0) fa_106_0 rfl rfl) (at_top rfl)) ?_
 refine blp_v 13 rfl rfl (by kernel_rfl) (rgV (li := [(19, _)]) rfl (w_free rfl) ⟨g_dep 11 (by kernel_rfl) (at_dep rfl rfl rfl), trivial⟩ (fun w hw => rn_loadA (vs := [_, _, _, _, _, _, _, _, _]) Try.isAgg84 Try.sizeOf84 rfl (CellsAt.agree (below_agree hw 0) (Nat.zero_le _) (CellsAt.own (j := 0) (m := 9) (hS.at_ 0 rfl) rfl))) (at_top rfl)) ?_
 refine blp_q 14 rfl rfl (by kernel_rfl) (isNew w.heap.size S (oneX S)) (stab_isNew) (rg_call [isV _] rfl goes_63 (w_free rfl) ⟨p_tmp (g_dep 12 (by kernel_rfl) (at_dep rfl rfl rfl)), trivial⟩ (fun vs w' hb hh => by have e := holds_isV (us := [_]) hh; subst e; exact wret_gives hb.size (ringOne_is S sf f0 w' (hsi.below (hS.below.trans (hb.mono hS.below.size))) hok)) (at_top rfl)) ?_
 refine blp_q 15 rfl rfl (by kernel_rfl) (isTrP w.heap.size fr sm tt S (oneX S)) (stab_trP) (rgPs [(6, 14, isV _), (7, 15, isV _), (8, 16, isV _), (13, 21, isNew w.heap.size S (oneX S))] rfl ⟨⟨by kernel_rfl, at_dep rfl rfl rfl⟩, ⟨by kernel_rfl, at_dep rfl rfl rfl⟩, ⟨by kernel_rfl, at_dep rfl rfl rfl⟩, ⟨by kernel_rfl, at_dep rfl rfl rfl⟩, trivial⟩ bld_trP (at_top rfl)) ?_
 refine blp_q 16 rfl rfl (by kernel_rfl) (isTrRow w.heap.size fr sm tt S (oneX S)) (stab_trRow) (rg_trRow rfl (g_dep 14 (by kernel_rfl) (at_dep rfl rfl rfl)) (at_top rfl)) ?_
 refine blp_app 17 rfl rfl ?_
 refine blp_late 18 rfl rfl (rgV (li := [(8, _)]) rfl (w_free rfl) ⟨g_dep 0 (by kernel_rfl) (at_dep rfl rfl rfl), trivial⟩ (fun w hw => rn_nilCheck rfl) (at_top rfl)) (lgV (li := [(8, _)]) rfl (w_free rfl) ⟨g_dep 0 (by kernel_rfl) (at_dep rfl rfl rfl), trivial⟩ (fun w => rn_nilCheck rfl) (at_top rfl) rfl) ?_
 refine blp_late 19 rfl rfl (rgV (li := [(25, _)]) rfl (w_free rfl) ⟨g_dep 17 (by kernel_rfl) (at_dep rfl rfl rfl), trivial⟩ (fun w hw => rn_field (o' := 9) fa_106_1 rfl rfl) (at_top rfl)) (lgV (li := [(25, _)]) rfl (w_free rfl) ⟨g_dep 17 (by kernel_rfl) (at_dep rfl rfl rfl), trivial⟩ (fun w => rn_field (o' := 9) fa_106_1 rfl rfl) (at_top rfl) rfl) ?_
 refine blp_late 20 rfl rfl (rgV (li := [(26, _)]) rfl (w_free rfl) ⟨g_dep 18 (by kernel_rfl) (at_dep rfl rfl rfl), trivial⟩ (fun w hw => rn_field (o' := 15) fa_60_4 rfl rfl) (at_top rfl)) (lgV (li := [(26, _)]) rfl (w_free rfl) ⟨g_dep 18 (by kernel_rfl) (at_dep rfl rfl rfl), trivial⟩ (fun w => rn_field (o' := 15) fa_60_4 rfl rfl) (at_top rfl) rfl) ?_
 refine blp_nil ⟨_, _, g_dep 5 (by kernel_rfl) (at_dep rfl rfl rfl), g_dep 15 (by kernel_rfl) (at_dep rfl rfl rfl), rowOf_tr9, ?_⟩
 intro A1 v1 news1 W1 hbR hqA1 hS'
 clear hS; have hS := hS'; clear hS'
 have hqN := hqA1
 iterate 13 refine fin_v ?_
 iterate 3 refine fin_p ?_; intro _ _
 iterate 4 refine fin_v ?_
 obtain ⟨wf, rfl, hxn⟩ := hqN
 have HX : Held w0 ((w.heap.size, A1) :: K) (fun W2 => XIs W2 S wf (oneX S)) := fun h2 hk => (hxn.agree (h2.kept (w.heap.size, A1) (hk _ List.mem_cons_self)).1).is
 refine fin_nil ?_
 refine op_store (i := 0) (cs' := [_, _, _, _, _, _, _, _, _, _, _, _, _, _, _, _]) (O' := (_ :: Ot)) hS Try.sizeOf58 rfl rfl (by first | rfl | exact (hS.oneV 0 _ rfl :) | exact (hS.oneV 1 _ rfl :) | exact (hS.oneV 2 _ rfl :) | exact (hS.oneV 3 _ rfl :)) rfl rfl rfl rfl ?_
 clear hS; intro W2 hS
 refine endF ?_
 refine XF.resN (res0 Try.results47) ?_
 exact ⟨_, wf, _, rfl, fun q hq => List.mem_cons_of_mem _ hq, HX, hS⟩
end Go.Proofs.Ytpkcaabbcoiiiaa
namespace Go.Proofs.Ytpkcaabbcoiiiaa
open Go Go.RowKit
section
variable {P : Program} {ops : Array Oper} {Q : Exit → Act → World → Prop} {σ : Type}
theorem tailT_all {ops : Array Oper} {k : Nat} (hk : ops.size = k) : tailT ops k = true := List.all_eq_true.2 fun j hj => by
 rw [decide_eq_true (show j < k by have := List.mem_range.1 hj; omega)]; rfl
theorem getD_out {L : Array Bool} {i : Nat} (h : L.size ≤ i) : L.getD i false = false := by
 rw [Array.getD_eq_getD_getElem?, Array.getElem?_eq_none (by omega)]; rfl
theorem region_ghostL {t0 : Array Value} {d0 : List Deferred} {G : σ → World → Prop} {I : σ → Nat → Value → World → Prop} {V : σ → Array Bool → Prop} {k : Nat} (hk : ops.size = k) (ht : tidyR ops t0.size = true)
  (hstep : ∀ i, i < k → GStep P ops Q t0 G I V i)
  (hfin : ∀ s L a w, RInvG ops t0 d0 G I V s L a w → (∀ i, i < k → L.getD i false = true) → wpList P ops Q (ops.toList.drop k) a w) :
  ∀ (fuel : Nat) (s : σ) (L : Array Bool) (a : Act) (w : World), L.size = ops.size → L.toList.count false ≤ fuel → ClosedG ops L → RInvG ops t0 d0 G I V s L a w → wpAny P .any ops Q fuel L a w := by
 intro fuel
 induction fuel with
 | zero =>
  intro s L a w hs hc hcl h
  have hall : ∀ i, i < k → L.getD i false = true := fun i hi => by
   cases hb : L.getD i false with
   | true => rfl
   | false =>
    have := cnt_set _ _ (cnt_getD (by omega) hb)
    omega
  exact tail_run (fun _ _ => trivial) (tailT_all hk) ht 0 k 0 L a w (by omega) (Nat.le_refl _) (Nat.le_refl _) hs hcl hall (fun i hi => getD_out (by omega)) (hfin s L a w h hall)
 | succ fuel ih =>
  intro s L a w hs hc hcl h
  by_cases hall : ∀ i, i < k → L.getD i false = true
  ·exact tail_run (fun _ _ => trivial) (tailT_all hk) ht 0 k (fuel + 1) L a w (by omega) (Nat.le_refl _) (Nat.zero_le _) hs hcl hall (fun i hi => getD_out (by omega)) (hfin s L a w h hall)
  ·refine ⟨fun hr => ?_, fun i hi => ?_⟩
   ·exfalso; apply hall
    intro i hi
    have h1 := ready_nil ht hs hr i (by omega)
    rw [Array.getD_eq_getD_getElem?, Array.getElem?_eq_getElem (by omega)] at h1 ⊢
    simpa using h1
   ·obtain ⟨his, hr⟩ := ready_g hi hs
    have hik : i < k := by omega
    have hc1 := cnt_set _ _ (cnt_getD (by omega) hr.1)
    refine wpOp_mono ?_ (hstep i hik s L a w (fun t ht => h.frame t ht) h.glob h.cons hs hcl hr (fun j d hw => ?_))
    ·rintro a' w' ⟨s', v, rfl, hV, hG, hI, hst⟩
     refine ih s' _ _ _ (by simpa using hs) ?_ (hcl.next hr (by omega)) ⟨by rw [put_size]; exact h.size, by rw [put_defers]; exact h.defers, fun t hf => ?_, hG, hV, fun j d hd hj => ?_⟩
     ·rw [Array.toList_setIfInBounds]; omega
     ·rw [put_other ?_]
      ·exact h.frame t hf
      ·intro hd
       obtain ⟨o, ho, hd⟩ := Option.bind_eq_some_iff.1 hd
       have := Array.all_eq_true'.1 hf o (Array.mem_of_getElem? ho)
       simp [hd] at this
     ·by_cases hji : j = i
      ·subst hji
       rw [put_at hd (by rw [h.size]; exact (tidy_dst ht hd).1)]
       exact hI d hd
      ·rw [getD_set_ne false (Ne.symm hji)] at hj
       rw [put_other (fun e => hji ((tidy_dst ht e).2 j hd))]
       exact hst j d hd (h.done j d hd hj)
    ·have : j ∈ aft ops i := by
      unfold waitsFor at hw
      unfold aft
      cases ho : ops[i]? with
      | none => simp [ho] at hw
      | some o =>
       simp only [ho, Bool.and_eq_true, beq_iff_eq] at hw
       obtain ⟨e, he, h2⟩ := Array.any_eq_true'.1 hw.1
       simp only [Bool.and_eq_true, beq_iff_eq] at h2
       exact List.mem_map.2 ⟨e, List.mem_filter.2 ⟨Array.mem_toList_iff.2 he, h2.2⟩, h2.1⟩
     have hd : (ops[j]?).bind (·.dst) = some d := by
      unfold waitsFor at hw
      simp only [Bool.and_eq_true, beq_iff_eq] at hw
      exact hw.2
     exact h.done j d hd (hr.2 j this)
end
section
variable {P : Program} {n : Nat} {Q : Exit → Act → World → Prop} {l : Fr} {w0 W : World} {ops : Array Oper} {os : List Oper} {K : List (Nat × World)} {L : List Asr} {i : Nat}
variable {al : List Nat} {ca : Nat → Option Value → List Value} {ta : Nat → TypeId} {Os : Option Value → Own} {Gs : Option Value → Grows} {lo ef jy : Nat} {s : Sg}
variable {d : Nat} {op : Op} {ty : TypeId} {pos : String} {aft_ : Array Edge} {v : Value} {gd : Option (Nat × Bool)}
theorem regSL {id k : Nat} {ds : List Nat} (hm : P.follows .mixedOrders = true) (hlo : lo = W.heap.size) (hS : St w0 (Os none) (Gs none) K W) (hk : os.length = k) (ht : tidyR os.toArray n = true) (hal : al.all (fun a => Nat.blt a k) = true) (hnd : al.Nodup) (hea : al.contains ef = false)
  (hev : Nat.blt ef k = true) (hdst : (List.range k).all (fun j => Nat.beq j ef || ((os.toArray[j]?).bind (·.dst)).isSome) = true) (hds : (os.drop k).all (fun o => match o.dst with | some d => ds.contains d | none => true) = true)
  (h : BLS P n os.toArray Q l w0 K lo al ef jy ca ta Os Gs (fun Lr => ∀ (Bf : Nat → Nat) (y : Value) (W' : World) (Ks : List (Nat × World)), W.heap.size ≤ W'.heap.size → (∀ q ∈ Ks, lo ≤ q.1) → St w0 (al.map (fun a => (Bf a, ca a (some y), ta a)) ++ Os (some y)) (Gs (some y)) (Ks ++ K) W' →
   (∀ {O2 G2 K2 W2}, St w0 O2 G2 K2 W2 → (∀ q ∈ Ks, q ∈ K2) → SameX lo (XB (al.map (fun a => (Bf a, ca a (some y), ta a)) ++ Os (some y)) (Gs (some y))) W' W2) →
   FinI (os.take k) (finL al ef jy lo (XB (al.map (fun a => (Bf a, ca a (some y), ta a)) ++ Os (some y)) (Gs (some y))) Bf y 0 Lr.reverse) (dropF ds l) (fun l' W' => OpsF P n os.toArray Q (os.drop k) l' W') W') k [] 0) : CodeF P n (.region id os.toArray true) Q l W := by
 obtain ⟨Lr, h1, h2, hfin⟩ := bls_run ht k 0 [] rfl (fun j _ => by rfl) (fun i hi => by omega) h
 rw [Nat.zero_add] at h1 h2
 have hal' : ∀ a ∈ al, a < k := fun a ha => Nat.lt_of_lt_of_le (Nat.lt_succ_self _) (Nat.le_of_ble_eq_true (List.all_eq_true.1 hal a ha))
 have hea' : ef ∉ al := fun h => by rw [List.contains_iff_mem.2 h] at hea; cases hea
 intro a ha
 refine wp_region_any hm (region_ghostL (t0 := a.tmps) (d0 := a.defers) (V := VG al ef) (I := IG al ef jy lo ca ta Os Gs Lr.reverse) (G := GG w0 K lo ca ta Os Gs) (k := k) (by simpa using hk) (by rw [ha.size]; exact ht) (fun i hi => (h2 i hi).step a ha) ?_ _ ⟨none, []⟩ _ _ _ (by simp) (count_rep _) (fun j hj => by rw [Array.getD_eq_getD_getElem?, Array.getElem?_replicate] at hj; split at hj <;> simp at hj) ⟨rfl, rfl, fun _ _ => rfl, ⟨by unfold OE; exact hS.drew, by rw [hlo]; exact Nat.le_refl _, (fun q hq => by cases hq)⟩, ⟨fun a _ => ?_, (fun q hq => by cases hq), List.Pairwise.nil, ?_⟩, fun i d _ hj => ?_⟩)
 ·intro s LB a' W' hR hdone
  obtain ⟨hG, hG2, hG3⟩ := hR.glob
  obtain ⟨v1, v2, v3, v4⟩ := hR.cons
  obtain ⟨ev, bs⟩ := s
  have hall : ∀ x ∈ al, (x, bAt bs x) ∈ bs := fun x hx => bAt_mem ((v1 x hx).1 (hdone x (hal' x hx)))
  obtain ⟨y, hy⟩ : ∃ y, ev = some y := by
   have h3 : ev.isSome = true := v4.1 (hdone ef (Nat.lt_of_lt_of_le (Nat.lt_succ_self _) (Nat.le_of_ble_eq_true hev)))
   exact Option.isSome_iff_exists.1 h3
  subst hy
  have hperm : bs.Perm (al.map (fun x => (x, bAt bs x))) := by
   refine (List.perm_ext_iff_of_nodup (v3.imp (fun h e => h (by rw [e]))) ?_).2 fun q => ?_
   ·refine List.Pairwise.map _ (fun x y (hxy : x ≠ y) => ?_) hnd
    intro e; exact hxy (congrArg Prod.fst e)
   ·constructor
    ·intro hq
     have h3 := hall q.1 (v2 q hq)
     have h4 := bAt_uniq v3 hq h3 rfl
     rw [h4]
     exact List.mem_map.2 ⟨q.1, v2 q hq, rfl⟩
    ·intro hq
     obtain ⟨x, hx, rfl⟩ := List.mem_map.1 hq
     exact hall x hx
  have hO : (OE ca ta Os ⟨some y, bs⟩).Perm (al.map (fun a => (bAt bs a, ca a (some y), ta a)) ++ Os (some y)) := by
   unfold OE
   refine List.Perm.append_right _ ?_
   have := hperm.map (fun q : Nat × Nat => (q.2, ca q.1 (some y), ta q.1))
   rw [List.map_map] at this
   exact this
  have hG' := hG.perm hO
  have hX : ∀ b, XB (OE ca ta Os ⟨some y, bs⟩) (Gs (some y)) b ↔ XB (al.map (fun a => (bAt bs a, ca a (some y), ta a)) ++ Os (some y)) (Gs (some y)) b := fun b => by
   unfold XB
   constructor
   ·rintro (⟨p, hp, e⟩ | h); exact .inl ⟨p, hO.mem_iff.1 hp, e⟩; exact .inr h
   ·rintro (⟨p, hp, e⟩ | h); exact .inl ⟨p, hO.mem_iff.2 hp, e⟩; exact .inr h
  obtain ⟨Ks, c1, ⟨qw, c2, c3⟩, c4⟩ := cuts (((al.map (fun a => (bAt bs a, ca a (some y), ta a)) ++ Os (some y)).map (·.1)) ++ (Gs (some y)).filterMap (fun g => g.v.ownBlock)) lo W'
  have hG4 := hG'.more Ks (fun q hq => ⟨(c1 q hq).2.1, fun p hp => (c1 q hq).2.2 p.1 (List.mem_append_left _ (List.mem_map.2 ⟨p, hp, rfl⟩)), fun g hg b hb => (c1 q hq).2.2 b (List.mem_append_right _ (List.mem_filterMap.2 ⟨g, hg, hb⟩))⟩)
  have hcov : ∀ {O2 G2 K2 W2}, St w0 O2 G2 K2 W2 → (∀ q ∈ Ks, q ∈ K2) → SameX lo (XB (al.map (fun a => (bAt bs a, ca a (some y), ta a)) ++ Os (some y)) (Gs (some y))) W' W2 := fun {O2 G2 K2 W2} h2 hq => by
   refine ⟨⟨h2.below.os.trans hG.below.os.symm, h2.below.tape.trans hG.below.tape.symm, h2.below.output.trans hG.below.output.symm⟩, ?_, fun b b1 b2 b3 => ?_⟩
   ·have := (h2.kept qw (hq qw c2)).1.1; rw [c3] at this; exact this
   ·obtain ⟨q, q1, q2, q3⟩ := c4 b b1 b2 (fun hb => b3 (by
     rcases List.mem_append.1 hb with hb | hb
     ·obtain ⟨p, hp, rfl⟩ := List.mem_map.1 hb
      exact .inl ⟨p, hp, rfl⟩
     ·obtain ⟨g, hg, e⟩ := List.mem_filterMap.1 hb
      exact .inr ⟨g, hg, e⟩))
    exact ((h2.kept q (hq q q1)).1.2 b q2 q3).trans ((c1 q q1).2.1.2 b q2 q3).symm
  have htk : (os.take k).length = k := by simp; omega
  refine fin_hasS (os.take k) (finL al ef jy lo (XB (al.map (fun a => (bAt bs a, ca a (some y), ta a)) ++ Os (some y)) (Gs (some y))) (bAt bs) y 0 Lr.reverse) (dropF ds l) (fun i d hi hd' => ?_) (fun i hi hd' => ?_) (hR.size.trans ha.size) (hR.defers.trans ha.defers) ?_ (fun l' h ha' => ?_) (hfin (bAt bs) y W' Ks (by rw [← hlo]; exact hG2) (fun q hq => (c1 q hq).1) hG4 hcov)
  ·have hik : i < k := by omega
   have hd2 : (os.toArray[i]?).bind (·.dst) = some d := by rw [List.getElem?_take, if_pos hik] at hd'; simpa using hd'
   obtain ⟨i1, i2, i3, i4⟩ := hR.done i d hd2 (hdone i hik)
   rw [atI_finL Lr.reverse 0 i (by simp; omega), Nat.add_zero]
   cases hc1 : al.contains i with
   | true =>
    rw [cond_true]
    obtain ⟨B, hB, e⟩ := i1 (List.contains_iff_mem.1 hc1)
    have := bAt_uniq v3 hB (hall i (List.contains_iff_mem.1 hc1)) rfl
    show _ = _
    rw [e, show B = bAt bs i from congrArg Prod.snd this]
   | false =>
    rw [cond_false]
    have hni : i ∉ al := fun hm' => by rw [List.contains_iff_mem.2 hm'] at hc1; cases hc1
    cases hc2 : Nat.beq i ef with
    | true =>
     rw [cond_true]
     have h5 := i2 (Nat.eq_of_beq_eq_true hc2)
     exact (Option.some.inj h5).symm
    | false =>
     rw [cond_false]
     have hne : i ≠ ef := fun e => by rw [e, Nat.beq_refl] at hc2; cases hc2
     have h6 : AwS lo (XB (al.map (fun a => (bAt bs a, ca a (some y), ta a)) ++ Os (some y)) (Gs (some y))) (atI Lr.reverse i) (a'.tmps.getD d undef) W' := fun w2 hw2 => i4 hni hne w2 ⟨hw2.1, hw2.2.1, fun b b1 b2 b3 => hw2.2.2 b b1 b2 (fun hb => b3 ((hX b).2 hb))⟩
     cases hc3 : Nat.beq i jy with
     | true =>
      rw [cond_true]
      refine ⟨?_, h6⟩
      exact i3 (Nat.eq_of_beq_eq_true hc3) y rfl
     | false => rw [cond_false]; exact h6
  ·have hik : i < k := by omega
   have h3 := List.all_eq_true.1 hdst i (List.mem_range.2 hik)
   rw [Bool.or_eq_true] at h3
   have hd2 : (os.toArray[i]?).bind (·.dst) = none := by rw [List.getElem?_take, if_pos hik] at hd'; simpa using hd'
   rcases h3 with h3 | h3
   ·rw [atI_finL Lr.reverse 0 i (by simp; omega), Nat.add_zero]
    have hc1 : al.contains i = false := by rw [Nat.eq_of_beq_eq_true h3]; exact hea
    rw [hc1, cond_false, h3, cond_true]
    exact ⟨y, rfl⟩
   ·rw [hd2] at h3; cases h3
  ·intro t v hv hno
   have hl := look_dropF hv (look_dropF_not hv)
   have hnt := look_dropF_not hv
   rw [hR.frame t ?_]
   ·exact ha.at_ t v hl
   ·unfold freeT; rw [Array.all_eq_true']; intro o' ho'
    have ho2 : o' ∈ os := by simpa using ho'
    rw [← List.take_append_drop k os] at ho2
    rcases List.mem_append.1 ho2 with ho2 | ho2
    ·simpa using hno o' ho2
    ·have h5 := List.all_eq_true.1 hds o' ho2
     cases hx : o'.dst with
     | none => simp
     | some d =>
      rw [hx] at h5
      simp
      intro e; subst e
      exact hnt (List.contains_iff_mem.1 h5)
  ·have := h a' ha'
   simpa using this
 ·rw [Array.getD_eq_getD_getElem?, Array.getElem?_replicate]
  constructor
  ·intro h3; split at h3 <;> simp at h3
  ·rintro ⟨B, hB⟩; cases hB
 ·rw [Array.getD_eq_getD_getElem?, Array.getElem?_replicate]
  constructor
  ·intro h3; split at h3 <;> simp at h3
  ·intro h3; cases h3
 ·rw [Array.getD_eq_getD_getElem?, Array.getElem?_replicate] at hj
  split at hj <;> simp at hj
end
section
variable {P : Program} {n : Nat} {Q : Exit → Act → World → Prop} {l : Fr} {w0 W : World} {ops : Array Oper} {os : List Oper} {K : List (Nat × World)} {L : List Asr} {i : Nat} {O : Own} {G : Grows}
variable {al : List Nat} {zc : Nat → List Value} {ta : Nat → TypeId} {lo ef jy : Nat} {d : Nat} {ty : TypeId} {pos : String} {aft_ : Array Edge} {v : Value}
def osY (O : Own) (j jx B : Nat) (cs : List Value) (U : TypeId) : Option Value → Own
 | none => O
 | some y => O.set j (B, splice cs jx y.cells.toList, U)
theorem osY_at {O : Own} {j jx B i : Nat} {cs : List Value} {U : TypeId} {ev : Option Value} {p : Nat × List Value × TypeId} (h : O[i]? = some p) (hij : Nat.beq i j = false) : (osY O j jx B cs U ev)[i]? = some p := by
 cases ev with
 | none => exact h
 | some y =>
  show (O.set j _)[i]? = _
  rw [List.getElem?_set_ne (fun e => by rw [e, Nat.beq_refl] at hij; cases hij)]; exact h
theorem eff_stP {T U : TypeId} {x : Operand} {tyy B m : Nat} {cs : List Value} {py : Asr} (j jx : Nat) (li : Fr) (hal : al.contains ef = false) (hij : Nat.beq ef jy = false) (hi : ops[ef]? = some ⟨none, .store T x (.tmp tyy), ty, pos, aft_, none⟩) (hjy : (ops[jy]?).bind (·.dst) = some tyy) (hwy : waitsFor ops ef jy tyy = true) (hja : al.contains jy = false) (hLy : atI L jy = py) (hNo : NoAsr al ef L) (hli : AllO n ops l L ef li) (hx : evL li x = some (.pointer (some ⟨B, jx, none⟩)))
  (hO : O[j]? = some (B, cs, U)) (hsz : ∀ w, (sizeOf T).run P w = .ok m w) (hpy : ∀ v w, py v w → ∃ vs : List Value, v.cells = vs.toArray ∧ vs.length = m ∧ vs.all Value.oneCell' = true) (hjm : Nat.ble (jx + m) cs.length = true) : SG P n ops Q l w0 K lo al ef jy (caNo zc) ta (osY O j jx B cs U) (gsNo G) L ef :=
 sg_eff hal hij hi fun t0 a bs w h0 hF hG hbs hD => by
  have hD' := deps_has h0 hF hD (fun j d _ hj => hNo j hj)
  have ex := allO_has h0 hF hD' hli x _ hx
  have hy := ((hD jy tyy hwy).2.2.2 (fun h => by rw [List.contains_iff_mem.2 h] at hja; cases hja) (fun e => by rw [e, Nat.beq_refl] at hij; cases hij)).here
  rw [hLy] at hy
  obtain ⟨vs, hc, hl, h1⟩ := hpy _ _ hy
  have hcl : (a.eval (.tmp tyy)).cells.toList = vs := by rw [hc]
  have hOk : (OE (caNo zc) ta (osY O j jx B cs U) ⟨none, bs⟩)[bs.length + j]? = some (B, cs, U) := by
   unfold OE
   rw [List.getElem?_append_right (by simp)]
   simpa [osY] using hO
  have hXB : XB (OE (caNo zc) ta (osY O j jx B cs U) ⟨none, bs⟩) (gsNo G none) B := .inl ⟨_, List.mem_of_getElem? hOk, rfl⟩
  have hrun := storeAt_many (P := P) hsz hc hl h1 (hG.1.at_ _ hOk) (j := jx) (Nat.le_of_ble_eq_true hjm)
  have hO' : OE (caNo zc) ta (osY O j jx B cs U) ⟨some (a.eval (.tmp tyy)), bs⟩ = (OE (caNo zc) ta (osY O j jx B cs U) ⟨none, bs⟩).set (bs.length + j) (B, splice cs jx vs, U) := by
   unfold OE
   rw [List.set_append_right _ _ (by simp)]
   congr 1
   simp [osY, hcl]
  refine wp_store hi rfl rfl rfl (by rw [ex]; exact hrun) ⟨undef, a.eval (.tmp tyy), rfl, (fun d hd => by cases hd), ?_, setMany_sameX hXB, ?_, fun d hd => ?_⟩
  ·rw [hO']
   exact hG.1.setMany _ vs jx hOk
  ·rintro b (⟨p, hp, rfl⟩ | h)
   ·rw [hO'] at hp
    rcases List.mem_or_eq_of_mem_set hp with hp | rfl
    ·exact .inl (.inl ⟨p, hp, rfl⟩)
    ·exact .inl hXB
   ·exact .inl (.inr h)
  ·rw [hjy] at hd; cases hd; rfl
end
section
variable {P : Program} {n : Nat} {Q : Exit → Act → World → Prop} {l : Fr} {w0 W : World} {ops : Array Oper} {os : List Oper} {K : List (Nat × World)} {L : List Asr} {i : Nat}
variable {al : List Nat} {ca : Nat → Option Value → List Value} {ta : Nat → TypeId} {Os : Option Value → Own} {Gs : Option Value → Grows} {lo ef jy : Nat} {s : Sg}
variable {d : Nat} {op : Op} {ty : TypeId} {pos : String} {aft_ : Array Edge} {v : Value} {gd : Option (Nat × Bool)}
end
end Go.Proofs.Ytpkcaabbcoiiiaa
namespace Go.Proofs.Ytpkcaabbcoiiiaa
open Go Go.RowKit
section
variable {n : Nat} {Q : Exit → Act → World → Prop} {l : Fr} {w0 W : World} {ops : Array Oper} {os : List Oper} {K : List (Nat × World)} {L : List Asr} {i : Nat}
variable {al : List Nat} {ca : Nat → Option Value → List Value} {ta : Nat → TypeId} {Os : Option Value → Own} {Gs : Option Value → Grows} {lo ef jy : Nat} {s : Sg}
variable {d : Nat} {ty : TypeId} {pos : String} {aft_ : Array Edge}
theorem sg_ofs {P : Program} {op : Op} (dd : List (Nat × Nat × Asr)) (hal : al.contains i = false) (hie : Nat.beq i ef = false) (hij : earlyJ ops ef jy i = true) (hi : ops[i]? = some ⟨some d, op, ty, pos, aft_, none⟩) (hNo : NoAsr al ef L) {q : Asr} (hds : DepsL ops L i dd) (hnd : dd.all (fun x => !(al.contains x.1) && !(Nat.beq x.1 ef)) = true)
  (hr : ∀ (ev : Operand → Value) w, DepsH dd ev w → ∃ v, (execOp ev ⟨some d, op, ty, pos, #[], none⟩).run P w = .ok (.value v) w ∧ ∀ w2, DepsH dd ev w2 → q v w2) (hI : atI L i = q) : SG P n ops Q l w0 K lo al ef jy ca ta Os Gs L i :=
 sg_base (fun h => by rw [List.contains_iff_mem.2 h] at hal; cases hal) (fun e => by rw [e, Nat.beq_refl] at hie; cases hie) (earlyJ_of hij) hi hNo fun t0 a s w h0 hF hG he hD hD' => by
  have key : ∀ (dd : List (Nat × Nat × Asr)), DepsL ops L i dd → dd.all (fun x => !(al.contains x.1) && !(Nat.beq x.1 ef)) = true → ∀ w2, SameX lo (XB (OE ca ta Os s) (Gs s.ev)) w w2 → DepsH dd a.eval w2 := by
   intro dd
   induction dd with
   | nil => intro _ _ w2 _; trivial
   | cons x xs ih =>
    intro h hn w2 h2
    simp only [List.all_cons, Bool.and_eq_true, Bool.not_eq_true'] at hn
    refine ⟨?_, ih h.2 hn.2 w2 h2⟩
    have hA := (hD x.1 x.2.1 h.1.1).2.2.2 (fun h9 => by rw [List.contains_iff_mem.2 h9] at hn; cases hn.1.1) (fun e => by rw [e, Nat.beq_refl] at hn; cases hn.1.2)
    rw [h.1.2] at hA
    exact hA w2 h2
  obtain ⟨v, h1, h2⟩ := hr a.eval w (key dd hds hnd w (SameX.refl _ _ _))
  exact wp_val hi rfl (by rw [execOp_guard a.eval _ _ _ _ pos _ #[] _ none]; exact h1) ⟨v, rfl, by rw [hI]; exact fun w2 hw2 => h2 w2 (key dd hds hnd w2 hw2), Below.refl _ _⟩
end
end Go.Proofs.Ytpkcaabbcoiiiaa
namespace Go.Proofs.Ytpkcaabbcoiiiaa
open Go.RowKit Go.ChangeShapes Go.WideShapes Go.Deep
section
variable {H : Type} {enc : TypeId × Value → H} {w : World} {base : Nat} {spare : Nat → Bool} {held : Bool}
theorem three_len {cs : List Value} (h : cs.length = 3) : ∃ a b c, cs = [a, b, c] := by
 match cs, h with
 | [a, b, c], _ => exact ⟨a, b, c, rfl⟩
theorem cell_open {n : Nat} {cs : List Value} {x : DataW H × List MemPlace} (hl : cs.length = 3) (h : DataW.trod enc Try.prog w base spare held n 96 cs = some x) :
  ∃ c : Cl, c.f < 18446744073709551616 ∧ cs = [.int .u64 (c.f : Int), .int .i64 c.k, .int .i64 c.v] := by
 obtain ⟨xs, n', _, hx, _, hlen, hg⟩ := DataW.trod_struct Try.underlying96 h
 obtain ⟨a, b, c, rfl⟩ := three_len hl
 ·skip
  have hlen3 : xs.length = 3 := hlen
  have g0 := hg 0 _ rfl
  have g1 := hg 1 _ rfl
  have g2 := hg 2 _ rfl
  rw [show Try.prog.cellsOf _ = 1 by kernel_rfl, List.getElem?_eq_getElem (by omega)] at g0 g1 g2
  obtain ⟨z0, e0, _, w0⟩ := DataW.trod_int Try.underlying38 g0
  obtain ⟨z1, e1, _, w1⟩ := DataW.trod_int (k := .i64) (by kernel_rfl) g1
  obtain ⟨z2, e2, _, w2⟩ := DataW.trod_int (k := .i64) (by kernel_rfl) g2
  simp at e0 e1 e2
  subst e0 e1 e2
  have hw : 0 ≤ z0 ∧ z0 ≤ 18446744073709551615 := by simpa [Lit.wf, IntKind.signed, IntKind.bits, IntKind.min, IntKind.max] using w0
  exact ⟨⟨z0.toNat, z1, z2⟩, by show z0.toNat < _; omega, by simp; omega⟩
theorem list_of : ∀ (n : Nat) (p : Nat → Cl → Prop), (∀ i, i < n → ∃ c, p i c) → ∃ xs : List Cl, xs.length = n ∧ ∀ i c, xs[i]? = some c → p i c
 | 0, p, h => ⟨[], rfl, fun i c hi => by simp at hi⟩
 | n + 1, p, h => by
  obtain ⟨xs, hl, hp⟩ := list_of n p (fun i hi => h i (by omega))
  obtain ⟨c, hc⟩ := h n (by omega)
  refine ⟨xs ++ [c], by simp [hl], fun i d hi => ?_⟩
  rcases Nat.lt_or_ge i n with h1 | h1
  ·rw [List.getElem?_append_left (by omega)] at hi
   exact hp i d hi
  ·obtain ⟨h2, _⟩ := List.getElem?_eq_some_iff.1 hi
   simp [hl] at h2
   obtain rfl : i = n := by omega
   rw [List.getElem?_append_right (by omega), hl, Nat.sub_self] at hi
   simp at hi
   subst hi
   exact hc
theorem cells_open {n : Nat} {a : Option Addr} {len cap : Nat} {x : DataW H × List MemPlace} (h : DataW.trod enc Try.prog w base spare held n 42 [.slice a len cap] = some x) :
  ∃ xs, IsCells w a len cap xs := by
 rcases open_slice Try.underlying42 h with ⟨hcs, _⟩ | ⟨ad, len', cap', m, n', D, Pl, hcs, hb, hl, hm, hmm, hx, hi⟩
 ·simp at hcs
  obtain ⟨rfl, rfl, rfl⟩ := hcs
  exact ⟨[], rfl, by simp, .inl rfl, fun c hc => by simp at hc⟩
 ·simp at hcs
  obtain ⟨rfl, rfl, rfl⟩ := hcs
  rw [show Try.prog.cellsOf 96 = 3 by kernel_rfl] at hi
  obtain ⟨xs, hxl, hxs⟩ := list_of len (fun i c => c.f < 18446744073709551616 ∧ w.cell? (ad.add (i * 3)) = some (.int .u64 (c.f : Int)) ∧ w.cell? (ad.add (i * 3 + 1)) = some (.int .i64 c.k) ∧ w.cell? (ad.add (i * 3 + 2)) = some (.int .i64 c.v)) (fun i hil => by
   obtain ⟨cs', hc, ht⟩ := hi i (by rw [hmm]; split <;> omega)
   obtain ⟨_, hcl, hat⟩ := World.cells?_some hc
   obtain ⟨c, hf, rfl⟩ := cell_open hcl ht
   have e0 := hat 0 (by omega)
   have e1 := hat 1 (by omega)
   have e2 := hat 2 (by omega)
   rw [add_add] at e0 e1 e2
   exact ⟨c, hf, e0, e1, e2⟩)
  refine ⟨xs, hxl.symm, by omega, ?_, fun c hc => ?_⟩
  ·rcases Nat.eq_zero_or_pos len with h0 | h0
   ·exact .inl (List.length_eq_zero_iff.1 (by omega))
   ·obtain ⟨b, off, spot⟩ := ad
    obtain ⟨_, h1, _, _⟩ := hxs 0 (xs[0]'(by omega)) (List.getElem?_eq_getElem (by omega))
    have hspot : spot = none := by simpa [Addr.add] using World.cell?_spot h1
    subst hspot
    refine .inr ⟨b, off, rfl, fun i c hic => ?_⟩
    have e : ∀ k, ({ block := b, off := off } : Addr).add k = ⟨b, off + k, none⟩ := fun k => by simp [Addr.add]
    have h3 := (hxs i c hic).2
    rw [e, e, e, ← Nat.add_assoc, ← Nat.add_assoc] at h3
    exact h3
  ·obtain ⟨i, hi', hic⟩ := List.mem_iff_getElem.1 hc
   exact (hxs i c (by rw [← hic]; exact List.getElem?_eq_getElem hi')).1
end
end Go.Proofs.Ytpkcaabbcoiiiaa
namespace Go.Proofs.Ytpkcaabbcoiiiaa
open Go.RowKit Go.ChangeShapes Go.WideShapes Go.Deep
section
variable {H : Type} {enc : TypeId × Value → H} {w : World} {base : Nat} {spare : Nat → Bool} {held : Bool}
theorem slice_form {n : Nat} {cs : List Value} {x : DataW H × List MemPlace} (h : DataW.trod enc Try.prog w base spare held n 42 cs = some x) : ∃ a len cap, cs = [.slice a len cap] := by
 rcases open_slice Try.underlying42 h with ⟨hcs, _⟩ | ⟨ad, len', cap', m, n', D, Pl, hcs, _⟩
 ·exact ⟨_, _, _, hcs⟩
 ·exact ⟨_, _, _, hcs⟩
end
end Go.Proofs.Ytpkcaabbcoiiiaa
namespace Go.Proofs.Ytpkcaabbcoiiiaa
open Go.RowKit Go.ChangeShapes Go.WideShapes Go.Deep Go.Joins
theorem list_pick {α : Type} : ∀ (n : Nat) (p : Nat → α → Prop), (∀ i, i < n → ∃ c, p i c) → ∃ xs : List α, xs.length = n ∧ ∀ i c, xs[i]? = some c → p i c
 | 0, p, h => ⟨[], rfl, fun i c hi => by simp at hi⟩
 | n + 1, p, h => by
  obtain ⟨xs, hl, hp⟩ := list_pick n p (fun i hi => h i (by omega))
  obtain ⟨c, hc⟩ := h n (by omega)
  refine ⟨xs ++ [c], by simp [hl], fun i d hi => ?_⟩
  rcases Nat.lt_or_ge i n with h1 | h1
  ·rw [List.getElem?_append_left (by omega)] at hi
   exact hp i d hi
  ·obtain ⟨h2, _⟩ := List.getElem?_eq_some_iff.1 hi
   simp [hl] at h2
   obtain rfl : i = n := by omega
   rw [List.getElem?_append_right (by omega), hl, Nat.sub_self] at hi
   simp at hi
   subst hi
   exact hc
theorem SIn.more {w : World} : ∀ {d e : Nat} {s : SV}, d ≤ e → SIn w d s → SIn w e s
 | 0, _, _, _, h => h.elim
 | d + 1, 0, _, hl, _ => by omega
 | d + 1, e + 1, .mk f ps, hl, ⟨h1, h2, h3⟩ => ⟨h1, h2, fun p hp => SIn.more (by omega) (h3 p hp)⟩
theorem WIn.more {w : World} : ∀ {d e : Nat} {s : WV}, d ≤ e → WIn w d s → WIn w e s
 | 0, _, _, _, h => h.elim
 | d + 1, 0, _, hl, _ => by omega
 | d + 1, e + 1, .mk f ps, hl, ⟨h0, h1, h2, h3⟩ => ⟨h0, h1, h2, fun p hp => WIn.more (by omega) (h3 p hp)⟩
theorem six_len {cs : List Value} (h : cs.length = 6) : ∃ a b c d e f, cs = [a, b, c, d, e, f] := by
 match cs, h with
 | [a, b, c, d, e, f], _ => exact ⟨a, b, c, d, e, f, rfl⟩
theorem two_len {cs : List Value} (h : cs.length = 2) : ∃ a b, cs = [a, b] := by
 match cs, h with
 | [a, b], _ => exact ⟨a, b, rfl⟩
section
variable {H : Type} {enc : TypeId × Value → H} {w : World} {base : Nat} {spare : Nat → Bool} {held : Bool}
theorem space_in : ∀ (fuel : Nat) {cs : List Value} {x : DataW H × List MemPlace}, DataW.trod enc Try.prog w base spare held fuel 25 cs = some x → ∃ s : SV, cs = [.int .i64 s.f.tag, .int .i64 s.f.dim, .slice s.f.a s.f.len s.f.cap] ∧ SIn w fuel s := by
 intro fuel
 induction fuel using Nat.strongRecOn with
 | _ fuel ih =>
 intro cs x h
 obtain ⟨xs, n, hn, _, hl, hlen, hg⟩ := DataW.trod_struct Try.underlying25 h
 rw [show Try.prog.cellsOf 25 = 3 by kernel_rfl] at hl
 obtain ⟨a, b, c, rfl⟩ := three_len hl
 have hlen3 : xs.length = 3 := hlen
 have g0 := hg 0 _ rfl
 have g1 := hg 1 _ rfl
 have g2 := hg 2 _ rfl
 rw [show Try.prog.cellsOf _ = 1 by kernel_rfl, List.getElem?_eq_getElem (by omega)] at g0 g1 g2
 obtain ⟨z0, e0, _, w0⟩ := DataW.trod_int (k := .i64) (by kernel_rfl) g0
 obtain ⟨z1, e1, _, w1⟩ := DataW.trod_int (k := .i64) (by kernel_rfl) g1
 simp at e0 e1
 subst e0 e1
 rcases DataW.trod_slice Try.underlying23 g2 with ⟨hcs, _⟩ | ⟨ad, len, cap, elems, rest, n', hn', hcs, _, hb, hle, hcap, hel, hi, _, _⟩
 ·simp at hcs
  subst hcs
  subst hn
  exact ⟨.mk ⟨z0, z1, none, 0, 0⟩ [], rfl, rfl, .inl rfl, fun p hp => by cases hp⟩
 ·simp at hcs
  subst hcs
  subst hn
  rw [show Try.prog.cellsOf 25 = 3 by kernel_rfl] at hi
  obtain ⟨ps, hpl, hps⟩ := list_pick len (fun i (p : SV) => (w.cell? (ad.add (i * 3)) = some (.int .i64 p.f.tag) ∧ w.cell? (ad.add (i * 3 + 1)) = some (.int .i64 p.f.dim) ∧ w.cell? (ad.add (i * 3 + 2)) = some (.slice p.f.a p.f.len p.f.cap)) ∧ SIn w n' p) (fun i hil => by
   have hii := hi i hil
   rw [List.getElem?_eq_getElem (by omega)] at hii
   obtain ⟨cs', hc, ht⟩ := Option.bind_eq_some_iff.1 hii
   obtain ⟨_, hcl, hat⟩ := World.cells?_some hc
   obtain ⟨s, rfl, hs⟩ := ih n' (by omega) ht
   have e0 := hat 0 (by omega)
   have e1 := hat 1 (by omega)
   have e2 := hat 2 (by omega)
   rw [Go.Deep.add_add] at e0 e1 e2
   exact ⟨s, ⟨e0, e1, e2⟩, hs⟩)
  refine ⟨.mk ⟨z0, z1, some ad, len, cap⟩ ps, rfl, hpl, ?_, fun p hp => ?_⟩
  ·rcases Nat.eq_zero_or_pos len with h0 | h0
   ·exact .inl (List.length_eq_zero_iff.1 (by omega))
   ·obtain ⟨b, off, spot⟩ := ad
    obtain ⟨⟨h1, _, _⟩, _⟩ := hps 0 (ps[0]'(by omega)) (List.getElem?_eq_getElem (by omega))
    have hspot : spot = none := by simpa [Addr.add] using World.cell?_spot h1
    subst hspot
    refine .inr ⟨b, off, rfl, fun i c hic => ?_⟩
    have e : ∀ k, ({ block := b, off := off } : Addr).add k = ⟨b, off + k, none⟩ := fun k => by simp [Addr.add]
    have h3 := (hps i c hic).1
    rw [e, e, e, ← Nat.add_assoc, ← Nat.add_assoc] at h3
    exact h3
  ·obtain ⟨i, hi', hic⟩ := List.mem_iff_getElem.1 hp
   exact (hps i p (by rw [← hic]; exact List.getElem?_eq_getElem hi')).2.more (by omega)
theorem u64s_open {n : Nat} {v : Value} {x : DataW H × List MemPlace} (h : DataW.trod enc Try.prog w base spare held n 39 [v] = some x) :
  ∃ (a : Option Addr) (len cap : Nat) (rows : List Nat), v = .slice a len cap ∧ VRow w a (u64s rows) ∧ rows.length = len ∧ ∀ r ∈ rows, r < 18446744073709551616 := by
 rcases open_ints (t := 39) (e := 38) (k := .u64) (by kernel_rfl) (by kernel_rfl) (by kernel_rfl) h with ⟨hcs, _⟩ | ⟨x, len, cap, zs, hcs, _, hl, hm, hz, _, hcell, hwz⟩
 ·have hcs' : v = .slice none 0 0 := by simpa using hcs
  subst hcs'
  exact ⟨none, 0, 0, [], rfl, .inl rfl, rfl, fun r hr => by cases hr⟩
 ·have hcs' : v = .slice (some x) len cap := by simpa using hcs
  subst hcs'
  have hzl : len ≤ zs.length := by rw [hz]; split <;> omega
  refine ⟨some x, len, cap, (zs.take len).map Int.toNat, rfl, ?_, ?_, ?_⟩
  ·rcases Nat.eq_zero_or_pos len with h0 | h0
   ·subst h0; exact .inl (by simp [u64s])
   ·obtain ⟨b, off, spot⟩ := x
    have hc0 := hcell 0 (by omega)
    have hspot : spot = none := by simpa [Addr.add] using World.cell?_spot hc0
    subst hspot
    refine .inr ⟨b, off, rfl, fun i v hi => ?_⟩
    obtain ⟨q, hq, rfl⟩ := u64s_at hi
    rw [List.getElem?_map, List.getElem?_take] at hq
    split at hq
    ·rename_i hlt
     have hi2 : i < zs.length := by omega
     rw [List.getElem?_eq_getElem hi2] at hq
     have hq' : (zs[i]).toNat = q := by simpa using hq
     obtain ⟨m, hm1, hm2⟩ := u64_nat (hwz _ (List.getElem_mem hi2))
     have hc := hcell i hi2
     have e : ({ block := b, off := off } : Addr).add i = ⟨b, off + i, none⟩ := by simp [Addr.add]
     rw [e] at hc
     rw [hc]
     have : zs.getD i 0 = zs[i] := by simp [List.getD, List.getElem?_eq_getElem hi2]
     rw [this, hm1, ← hq', hm1]
     rfl
    ·cases hq
  ·simp; omega
  ·intro r hr
   obtain ⟨z, hz1, rfl⟩ := List.mem_map.1 hr
   obtain ⟨m, hm1, hm2⟩ := u64_nat (hwz z (List.mem_of_mem_take hz1))
   rw [hm1]; exact hm2
theorem facts_in {n : Nat} {a b : Value} {x : DataW H × List MemPlace} (h : DataW.trod enc Try.prog w base spare held n 41 [a, b] = some x) :
  ∃ (g : Nat) (ra : Option Addr) (rl rc : Nat) (rows : List Nat), a = .int .u64 (g : Int) ∧ b = .slice ra rl rc ∧ g < 18446744073709551616 ∧ VRow w ra (u64s rows) ∧ rows.length = rl ∧ ∀ r ∈ rows, r < 18446744073709551616 := by
 obtain ⟨xs, n', _, _, hl, hlen, hg⟩ := DataW.trod_struct Try.underlying41 h
 have hlen2 : xs.length = 2 := hlen
 have g0 := hg 0 _ rfl
 have g1 := hg 1 _ rfl
 rw [show Try.prog.cellsOf _ = 1 by kernel_rfl, List.getElem?_eq_getElem (by omega)] at g0 g1
 obtain ⟨z0, e0, _, w0⟩ := DataW.trod_int (k := .u64) (by kernel_rfl) g0
 simp at e0
 subst e0
 obtain ⟨g, rfl, hg64⟩ := u64_nat w0
 obtain ⟨ra, rl, rc, rows, e1, h1, h2, h3⟩ := u64s_open (v := b) g1
 exact ⟨g, ra, rl, rc, rows, rfl, e1, hg64, h1, h2, h3⟩
theorem weight_in : ∀ (fuel : Nat) {cs : List Value} {x : DataW H × List MemPlace}, DataW.trod enc Try.prog w base spare held fuel 45 cs = some x → ∃ s : WV, cs = s.f.six ∧ WIn w fuel s := by
 intro fuel
 induction fuel using Nat.strongRecOn with
 | _ fuel ih =>
 intro cs x h
 obtain ⟨xs, n, hn, _, hl, hlen, hg⟩ := DataW.trod_struct Try.underlying45 h
 rw [show Try.prog.cellsOf 45 = 6 by kernel_rfl] at hl
 obtain ⟨a, b, c, d, e, f, rfl⟩ := six_len hl
 have hlen5 : xs.length = 5 := hlen
 have g0 := hg 0 _ rfl
 have g1 := hg 1 _ rfl
 have g2 := hg 2 _ rfl
 have g3 := hg 3 _ rfl
 have g4 := hg 4 _ rfl
 rw [show Try.prog.cellsOf _ = 1 by kernel_rfl, List.getElem?_eq_getElem (by omega)] at g0 g1 g3 g4
 rw [show Try.prog.cellsOf _ = 2 by kernel_rfl, List.getElem?_eq_getElem (by omega)] at g2
 obtain ⟨z0, e0, _⟩ := DataW.trod_bool (by kernel_rfl) g0
 obtain ⟨z1, e1, _, w1⟩ := DataW.trod_int (k := .i64) (by kernel_rfl) g1
 simp at e0 e1
 subst e0 e1
 obtain ⟨gg, ra, rl, rc, rows, rfl, rfl, hg64, hrow, hrl, hr64⟩ := facts_in (a := c) (b := d) g2
 obtain ⟨ca, cl, cc, e3⟩ := slice_form g3
 have e3' : e = .slice ca cl cc := by simpa using e3
 subst e3'
 obtain ⟨cells, hcl, hcm, hcrow, hcbits⟩ := cells_open (a := ca) (len := cl) (cap := cc) g3
 rcases DataW.trod_slice Try.underlying43 g4 with ⟨hcs, _⟩ | ⟨ad, len, cap, elems, rest, n', hn', hcs, _, hb, hle, hcap, hel, hi, _, _⟩
 ·simp at hcs
  subst hcs
  subst hn
  exact ⟨.mk ⟨z0, z1, gg, ra, rl, rc, rows, ca, cl, cc, cells, none, 0, 0⟩ [], rfl, ⟨hrow, hrl, hg64, hr64, hcrow, hcl.symm, hcbits, by dsimp only; omega⟩, rfl, .inl rfl, fun p hp => by cases hp⟩
 ·simp at hcs
  subst hcs
  subst hn
  rw [show Try.prog.cellsOf 45 = 6 by kernel_rfl] at hi
  obtain ⟨ps, hpl, hps⟩ := list_pick len (fun i (p : WV) => (w.cell? (ad.add (i * 6)) = some (.bool p.f.z) ∧ w.cell? (ad.add (i * 6 + 1)) = some (.int .i64 p.f.c) ∧ w.cell? (ad.add (i * 6 + 2)) = some (.int .u64 (p.f.g : Int)) ∧ w.cell? (ad.add (i * 6 + 3)) = some (.slice p.f.ra p.f.rl p.f.rc) ∧ w.cell? (ad.add (i * 6 + 4)) = some (.slice p.f.ca p.f.cl p.f.cc) ∧ w.cell? (ad.add (i * 6 + 5)) = some (.slice p.f.pa p.f.pl p.f.pc)) ∧ WIn w n' p) (fun i hil => by
   have hii := hi i hil
   rw [List.getElem?_eq_getElem (by omega)] at hii
   obtain ⟨cs', hc, ht⟩ := Option.bind_eq_some_iff.1 hii
   obtain ⟨_, hcl, hat⟩ := World.cells?_some hc
   obtain ⟨s, rfl, hs⟩ := ih n' (by omega) ht
   have e0 := hat 0 (by omega)
   have e1 := hat 1 (by omega)
   have e2 := hat 2 (by omega)
   have e3 := hat 3 (by omega)
   have e4 := hat 4 (by omega)
   have e5 := hat 5 (by omega)
   rw [Go.Deep.add_add] at e0 e1 e2 e3 e4 e5
   exact ⟨s, ⟨e0, e1, e2, e3, e4, e5⟩, hs⟩)
  refine ⟨.mk ⟨z0, z1, gg, ra, rl, rc, rows, ca, cl, cc, cells, some ad, len, cap⟩ ps, rfl, ⟨hrow, hrl, hg64, hr64, hcrow, hcl.symm, hcbits, by dsimp only; omega⟩, hpl, ?_, fun p hp => ?_⟩
  ·rcases Nat.eq_zero_or_pos len with h0 | h0
   ·exact .inl (List.length_eq_zero_iff.1 (by omega))
   ·obtain ⟨b, off, spot⟩ := ad
    obtain ⟨⟨h1, _⟩, _⟩ := hps 0 (ps[0]'(by omega)) (List.getElem?_eq_getElem (by omega))
    have hspot : spot = none := by simpa [Addr.add] using World.cell?_spot h1
    subst hspot
    refine .inr ⟨b, off, rfl, fun i c hic => ?_⟩
    have e : ∀ k, ({ block := b, off := off } : Addr).add k = ⟨b, off + k, none⟩ := fun k => by simp [Addr.add]
    have h3 := (hps i c hic).1
    rw [e, e, e, e, e, e, ← Nat.add_assoc, ← Nat.add_assoc, ← Nat.add_assoc, ← Nat.add_assoc, ← Nat.add_assoc] at h3
    exact h3
  ·obtain ⟨i, hi', hic⟩ := List.mem_iff_getElem.1 hp
   exact (hps i p (by rw [← hic]; exact List.getElem?_eq_getElem hi')).2.more (by omega)
end
end Go.Proofs.Ytpkcaabbcoiiiaa
namespace Go.Proofs.Ytpkcaabbcoiiiaa
open Go.RowKit Go.ChangeShapes Go.WideShapes Go.Deep Go.Joins
theorem ten_len {cs : List Value} (h : cs.length = 10) : ∃ a b c d e f g i j k, cs = [a, b, c, d, e, f, g, i, j, k] := by
 match cs, h with
 | [a, b, c, d, e, f, g, i, j, k], _ => exact ⟨a, b, c, d, e, f, g, i, j, k, rfl⟩
theorem cellsAt_of {w : World} {b : Nat} : ∀ (vs : List Value) (o : Nat), (∀ (j : Nat) u, vs[j]? = some u → w.cell? ⟨b, o + j, none⟩ = some u) → CellsAt w b o vs
 | [], _, _ => trivial
 | v :: vs, o, h => ⟨h 0 v rfl, cellsAt_of vs (o + 1) fun j u hj => by have := h (j + 1) u (by simpa using hj); rwa [show o + 1 + j = o + (j + 1) by omega]⟩
section
variable {H : Type} {enc : TypeId × Value → H} {w : World} {base : Nat} {spare : Nat → Bool} {held : Bool}
theorem ints_in {n : Nat} {v : Value} {x : DataW H × List MemPlace} (h : DataW.trod enc Try.prog w base spare held n 29 [v] = some x) :
  ∃ (a : Option Addr) (len cap : Nat) (zs : List Int), v = .slice a len cap ∧ Row w a zs ∧ zs.length = len ∧ len ≤ cap ∧ cap ≤ maxLen := by
 rcases open_ints (t := 29) (e := 3) (k := .i64) (by kernel_rfl) (by kernel_rfl) (by kernel_rfl) h with ⟨hcs, _⟩ | ⟨x, len, cap, zs, hcs, _, hl, hm, hz, _, hcell, hwz⟩
 ·have hcs' : v = .slice none 0 0 := by simpa using hcs
  subst hcs'
  exact ⟨none, 0, 0, [], rfl, .inl rfl, rfl, Nat.le_refl _, Nat.zero_le _⟩
 ·have hcs' : v = .slice (some x) len cap := by simpa using hcs
  subst hcs'
  have hzl : len ≤ zs.length := by rw [hz]; split <;> omega
  refine ⟨some x, len, cap, zs.take len, rfl, ?_, by simp; omega, hl, hm⟩
  rcases Nat.eq_zero_or_pos len with h0 | h0
  ·subst h0; exact .inl (by simp)
  ·obtain ⟨b, off, spot⟩ := x
   have hc0 := hcell 0 (by omega)
   have hspot : spot = none := by simpa [Addr.add] using World.cell?_spot hc0
   subst hspot
   refine .inr ⟨b, off, rfl, fun i hi => ?_⟩
   have hi1 : i < len := by simp at hi; omega
   have hi2 : i < zs.length := by omega
   have hc := hcell i hi2
   have e : ({ block := b, off := off } : Addr).add i = ⟨b, off + i, none⟩ := by simp [Addr.add]
   rw [e] at hc
   rw [hc]
   simp [List.getD, List.getElem?_take, hi1]
theorem rule_in {n : Nat} {cs : List Value} {x : DataW H × List MemPlace} (h : DataW.trod enc Try.prog w base spare held n 47 cs = some x) : ∃ r : RV, cs = r.ten ∧ RIn w n r := by
 obtain ⟨xs, n', hn, _, hl, hlen, hg⟩ := DataW.trod_struct Try.underlying47 h
 rw [show Try.prog.cellsOf 47 = 10 by kernel_rfl] at hl
 obtain ⟨a, b, c, d, e, f, g, i, j, k, rfl⟩ := ten_len hl
 have hlen5 : xs.length = 5 := hlen
 have g0 := hg 0 _ rfl
 have g1 := hg 1 _ rfl
 have g2 := hg 2 _ rfl
 have g3 := hg 3 _ rfl
 have g4 := hg 4 _ rfl
 rw [show Try.prog.cellsOf _ = 1 by kernel_rfl, List.getElem?_eq_getElem (by omega)] at g0 g1 g2 g3
 rw [show Try.prog.cellsOf _ = 6 by kernel_rfl, List.getElem?_eq_getElem (by omega)] at g4
 obtain ⟨z0, e0, _, w0⟩ := DataW.trod_int (k := .i64) (by kernel_rfl) g0
 obtain ⟨z1, e1, _, w1⟩ := DataW.trod_int (k := .i64) (by kernel_rfl) g1
 obtain ⟨z2, e2, _, w2⟩ := DataW.trod_int (k := .i64) (by kernel_rfl) g2
 simp at e0 e1 e2
 subst e0 e1 e2
 obtain ⟨ra, rl, rc, ws, rfl, hrow, hrl, _, _⟩ := ints_in (v := d) g3
 obtain ⟨s, e4, hs⟩ := weight_in n' g4
 have e4' : [e, f, g, i, j, k] = s.f.six := by simpa using e4
 simp only [List.cons.injEq, and_true] at e4'
 obtain ⟨rfl, rfl, rfl, rfl, rfl, rfl⟩ := e4'
 exact ⟨⟨z0, z1, z2, ra, rl, rc, ws, s⟩, rfl, hrow, hrl, hs.more (by omega)⟩
theorem pds_in {n : Nat} {cs : List Value} {x : DataW H × List MemPlace} (h : DataW.trod enc Try.prog w base spare held n 28 cs = some x) : ∃ p : PV, cs = p.six ∧ PvIn w n n p := by
 obtain ⟨xs, n', hn, _, hl, hlen, hg⟩ := DataW.trod_struct Try.underlying28 h
 rw [show Try.prog.cellsOf 28 = 6 by kernel_rfl] at hl
 obtain ⟨a, b, c, d, e, f, rfl⟩ := six_len hl
 have hlen4 : xs.length = 4 := hlen
 have g0 := hg 0 _ rfl
 have g1 := hg 1 _ rfl
 have g2 := hg 2 _ rfl
 have g3 := hg 3 _ rfl
 rw [show Try.prog.cellsOf _ = 3 by kernel_rfl, List.getElem?_eq_getElem (by omega)] at g0
 rw [show Try.prog.cellsOf _ = 1 by kernel_rfl, List.getElem?_eq_getElem (by omega)] at g1 g2 g3
 obtain ⟨s, es, hs⟩ := space_in n' g0
 have es' : [a, b, c] = [.int .i64 s.f.tag, .int .i64 s.f.dim, .slice s.f.a s.f.len s.f.cap] := by simpa using es
 simp only [List.cons.injEq, and_true] at es'
 obtain ⟨rfl, rfl, rfl⟩ := es'
 obtain ⟨z1, e1, _, w1⟩ := DataW.trod_int (k := .i64) (by kernel_rfl) g1
 obtain ⟨z2, e2, _, w2⟩ := DataW.trod_int (k := .i64) (by kernel_rfl) g2
 simp at e1 e2
 subst e1 e2
 rcases DataW.trod_slice Try.underlying26 g3 with ⟨hcs, _⟩ | ⟨ad, len, cap, elems, rest, n2, hn2, hcs, _, hb, hle, hcap, hel, hi, _, _⟩
 ·simp at hcs
  subst hcs
  exact ⟨⟨s, z1, z2, none, 0, 0, []⟩, rfl, hs.more (by omega), .inl rfl, rfl, fun r hr => by cases hr⟩
 ·simp at hcs
  subst hcs
  rw [show Try.prog.cellsOf 47 = 10 by kernel_rfl] at hi
  obtain ⟨rs, hrl, hrs⟩ := list_pick len (fun i (r : RV) => (∀ (j : Nat) u, r.ten[j]? = some u → w.cell? (ad.add (i * 10 + j)) = some u) ∧ RIn w n2 r) (fun i hil => by
   have hii := hi i hil
   rw [List.getElem?_eq_getElem (by omega)] at hii
   obtain ⟨cs', hc, ht⟩ := Option.bind_eq_some_iff.1 hii
   obtain ⟨_, hcl, hat⟩ := World.cells?_some hc
   obtain ⟨r, rfl, hr⟩ := rule_in ht
   refine ⟨r, fun j u hj => ?_, hr⟩
   have hj10 : j < 10 := (List.getElem?_eq_some_iff.1 hj).1
   have h0 := hat j (by omega)
   rw [Go.Deep.add_add] at h0
   rw [h0]; exact hj)
  refine ⟨⟨s, z1, z2, some ad, len, cap, rs⟩, rfl, hs.more (by omega), ?_, hrl, fun r hr => ?_⟩
  ·rcases Nat.eq_zero_or_pos len with h0 | h0
   ·exact .inl (List.length_eq_zero_iff.1 (by dsimp only; omega))
   ·obtain ⟨b, off, spot⟩ := ad
    have h1 := (hrs 0 (rs[0]'(by omega)) (List.getElem?_eq_getElem (by omega))).1 0 _ rfl
    have hspot : spot = none := by simpa [Addr.add] using World.cell?_spot h1
    subst hspot
    refine .inr ⟨b, off, rfl, fun i r hir => cellsAt_of _ _ fun j u hj => ?_⟩
    have h3 := (hrs i r hir).1 j u hj
    have e : ∀ k, ({ block := b, off := off } : Addr).add k = ⟨b, off + k, none⟩ := fun k => by simp [Addr.add]
    rw [e, ← Nat.add_assoc] at h3
    exact h3
  ·obtain ⟨i, hi', hic⟩ := List.mem_iff_getElem.1 hr
   have h4 := (hrs i r (by rw [← hic]; exact List.getElem?_eq_getElem hi')).2
   exact ⟨h4.row, h4.len, h4.x.more (by omega)⟩
theorem pds_open {r : Reach} {b0 : Nat} {v : Value} {d : DataW H} {p : List MemPlace} (hv : Value.okWide Try.prog w r b0 28 v) (h : DataW.Trod enc Try.prog w base spare held 28 v d p) :
  ∃ (n : Nat) (s : PV), v = s.val ∧ PvIn w n n s := by
 obtain ⟨cs, rfl, _⟩ := okWide_struct Try.underlying28 hv
 obtain ⟨n, h⟩ := h
 obtain ⟨s, e, hs⟩ := pds_in (n := n) h
 have e' : cs.toList = _ := e
 exact ⟨n, s, by show Value.agg cs = Value.agg _; congr 1; exact Array.ext' e', hs⟩
end
end Go.Proofs.Ytpkcaabbcoiiiaa
namespace Go.Proofs.Ytpkcaabbcoiiiaa
open Go Go.RowKit
theorem below_join {n : Nat} {w A W : World} (hn : n = w.heap.size) (h1 : Below n w A) (h2 : Below n w W) (h3 : Agree n A W) : Below A.heap.size A W where
 os := h2.os.trans h1.os.symm
 tape := h2.tape.trans h1.tape.symm
 output := h2.output.trans h1.output.symm
 size := h3.1
 block := fun k hk => by
  rcases Nat.lt_or_ge k n with h | h
  ·exact (h2.block k h).trans (h1.block k h).symm
  ·exact h3.2 k h hk
theorem PdsOk.below {w w' : World} {S : PS} {px : RV → PX} {p : PV} (h : PdsOk w S px p) (hb : Below w.heap.size w w') : PdsOk w' S px p := ⟨h.chk, h.ok, h.si.below hb, fun r hr => (h.x r hr).below hb, h.rl, h.w4, h.st, h.sy, h.rule⟩
theorem pdsOk_ex {w : World} {ds d : Nat} {p : PV} (hp : PvIn w ds d p) : ∃ S px, pdsE p = 0 → PdsOk w S px p := by
 by_cases h : pdsE p = 0
 ·obtain ⟨S, px, hk⟩ := pdsOk_of hp h
  exact ⟨S, px, fun _ => hk⟩
 ·exact ⟨.one 0 0, fun _ => oneX (.one 0 0), fun h9 => absurd h9 h⟩
end Go.Proofs.Ytpkcaabbcoiiiaa
namespace Go.Proofs.Ytpkcaabbcoiiiaa
open Go Go.RowKit
def KeepsB (M : World → Prop) : Prop := ∀ W W', M W → Below W.heap.size W W' → M W'
def FarP (M : World → Prop) (t n : Int) (f : WF) (x : PF) : Prop := ∀ W, M W → PIs W t n f x
def FarX (M : World → Prop) : PS → WF → PX → Prop
 | .one t n, f, .one a => FarP M t n f a
 | .two t n u m, f, .two a b => f.pf = pC 0 ∧ f.rl = 0 ∧ f.cl = 0 ∧ f.pl = 2 ∧ ∃ blk off g h, f.pa = some ⟨blk, off, none⟩ ∧ (∀ W, M W → W6 W blk off g ∧ W6 W blk (off + 6) h) ∧ FarP M t n g a ∧ FarP M u m h b
 | _, _, _ => False
theorem FarX.is {M : World → Prop} {S : PS} {f : WF} {x : PX} {w : World} (h : FarX M S f x) (hM : M w) : XIs w S f x := by
 cases S <;> cases x <;> first | exact h.elim | exact (show FarP M _ _ f _ from h) w hM | skip
 obtain ⟨h1, h2, h3, h4, blk, off, g, k, h5, h6, h7, h8⟩ := h
 exact ⟨h1, h2, h3, h4, blk, off, g, k, h5, (h6 w hM).1, (h6 w hM).2, h7 w hM, h8 w hM⟩
theorem FarX.mono {M M' : World → Prop} {S : PS} {f : WF} {x : PX} (h : FarX M S f x) (hm : ∀ W, M' W → M W) : FarX M' S f x := by
 cases S <;> cases x <;> first | exact h.elim | exact (fun W hW => (show FarP M _ _ f _ from h) W (hm W hW)) | skip
 obtain ⟨h1, h2, h3, h4, blk, off, g, k, h5, h6, h7, h8⟩ := h
 exact ⟨h1, h2, h3, h4, blk, off, g, k, h5, fun W hW => h6 W (hm W hW), fun W hW => h7 W (hm W hW), fun W hW => h8 W (hm W hW)⟩
theorem XNew.far {lo : Nat} {A : World} {S : PS} {f : WF} {x : PX} (h : XNew lo A S f x) : FarX (fun W => Agree lo A W) S f x := by
 cases S <;> cases x <;> first | exact h.elim | exact (fun W hW => (PNew.agree h hW).is) | skip
 obtain ⟨h1, h2, h3, h4, blk, g, k, h5, h0, h6, h7, h8, h9⟩ := h
 exact ⟨h1, h2, h3, h4, blk, 0, g, k, h5, fun W hW => ⟨h6.agree h0 hW, h7.agree h0 hW⟩, fun W hW => (h8.agree hW).is, fun W hW => (h9.agree hW).is⟩
theorem XIs.far {w : World} {S : PS} {f : WF} {x : PX} (h : XIs w S f x) : FarX (fun W => Below w.heap.size w W) S f x := by
 cases S <;> cases x <;> first | exact h.elim | exact (fun W hW => PIs.below h hW) | skip
 obtain ⟨h1, h2, h3, h4, blk, off, g, k, h5, h6, h7, h8, h9⟩ := h
 exact ⟨h1, h2, h3, h4, blk, off, g, k, h5, fun W hW => ⟨h6.below hW, h7.below hW⟩, fun W hW => h8.below hW, fun W hW => h9.below hW⟩
def MRet (M : World → Prop) (S : PS) (x : PX) (w : World) (e : Ending) (w' : World) : Prop := ∃ f : WF, e = .returned f.val ∧ FarX (fun W => M W ∧ Agree w.heap.size w' W) S f x ∧ Below w.heap.size w w'
def isFar (M : World → Prop) (lo : Nat) (S : PS) (x : PX) : Asr := fun v w => ∃ f : WF, v = f.val ∧ FarX (fun W => M W ∧ Agree lo w W) S f x
theorem stab_isFar {M : World → Prop} {lo : Nat} {S : PS} {x : PX} : Stab (isFar M lo S x) := fun v w w' ⟨f, h1, h2⟩ hb => ⟨f, h1, h2.mono fun W hW => ⟨hW.1, (below_agree hb lo).trans hW.2⟩⟩
theorem mret_gives {P : Program} {f : FuncId} {vs : Array Value} {M : World → Prop} {w : World} {S : PS} {x : PX} {lo : Nat} (hlo : lo ≤ w.heap.size) (h : Calls P f vs w (MRet M S x w)) : Calls P f vs w (Gives (isFar M lo S x) w) := h.mono fun e w' ⟨f, he, hn, hb⟩ => ⟨f.val, he, ⟨f, rfl, hn.mono fun W hW => ⟨hW.1, hW.2.mono hlo⟩⟩, hb⟩
theorem mret_one {M : World → Prop} {w W : World} {t n : Int} {f : WF} {x : PF} (h : PNew w.heap.size W t n f x) (hb : Below w.heap.size w W) : MRet M (.one t n) (.one x) w (.returned f.val) W := ⟨f, rfl, fun W2 hW => (h.agree hW.2).is, hb⟩
section
variable {w W : World} {k : Nat} {n : Int} {f g : WF} {x y : PF}
theorem comb_f2R (hx : PIs w 2 n f x) (hy : PIs w 2 n g y) (hf : f.z = false) (hg : g.z = false) (p0 : 0 ≤ f.c) (p1 : f.c ≤ n) (q0 : 0 ≤ g.c) (q1 : g.c ≤ n) : PNew k W 2 n (costF (min f.c g.c)) (combP 2 n x y) := by
 obtain ⟨rfl, _, _⟩ := hx.k2 hf
 obtain ⟨rfl, _, _⟩ := hy.k2 hg
 rw [comb_2]
 exact new_cost (.cost _ rfl (by omega) (by omega))
theorem comb_f4C {m : Nat} {a : Option Addr} {cap : Nat} (hx : PIs w 4 m f x) (hy : PIs w 4 m g y) (hf : f.z = false) (hg : g.z = false) (hv : CRow W a (bothC f.cells g.cells)) (hl : ∀ ad, a = some ad → k ≤ ad.block) : PNew k W 4 m (cellsF a cap (bothC f.cells g.cells)) (combP 4 m x y) := by
 obtain ⟨hx', h0⟩ := hx.k4 hf
 obtain ⟨hy', h1⟩ := hy.k4 hg
 have hv2 := val_both h0 h1
 rw [hx', hy', comb_4]
 exact new_cells (.cells m _ rfl rfl hv2) hv2.bits (by have := hv2.le; have := hv2.len; unfold maxLen; omega) hv hl
end
def isFarRow (M : World → Prop) (lo : Nat) (S : PS) (x : PX) : Asr := fun v w => ∃ b, v = .slice (some ⟨b, 0, none⟩) 2 2 ∧ FarX (fun W => M W ∧ Agree lo w W) S (pairF b) x
theorem stab_isFarRow {M : World → Prop} {lo : Nat} {S : PS} {x : PX} : Stab (isFarRow M lo S x) := fun v w w' ⟨b, h1, h2⟩ hb => ⟨b, h1, h2.mono fun W hW => ⟨hW.1, (below_agree hb lo).trans hW.2⟩⟩
section
variable {n : Nat} {Q : Exit → Act → World → Prop} {l : Fr} {W : World} {ops : Array Oper} {L : List Asr} {i d : Nat} {ty : TypeId} {pos : String} {aft : Array Edge} {gd : Option (Nat × Bool)} {t k u m : Int} {x y : PF} {p q : Operand} {M : World → Prop}
theorem rg_farRow (hi : ops[i]? = some ⟨some d, .buildSlice 43 2 (List.toArray [(0, p), (1, q)]), ty, pos, aft, gd⟩) (hw : Wants ops L i ⟨some d, .buildSlice 43 2 (List.toArray [(0, p), (1, q)]), ty, pos, aft, gd⟩) (hp : AllP n ops l L i [p, q] [isFar M W.heap.size (.one t k) (.one x), isFar M W.heap.size (.one u m) (.one y)]) (hI : atI L i = isFarRow M W.heap.size (.two t k u m) (.two x y)) : RG Try.prog n ops Q l W L i :=
 rg_row [isFar M W.heap.size (.one t k) (.one x), isFar M W.heap.size (.one u m) (.one y)] hi hw Try.underlying43 Try.sizeOf45 Try.zeroValue45 rfl rfl hp fun vs w hb hh => by
  obtain ⟨v1, v2, rfl, ⟨f, rfl, hf⟩, g, rfl, hg⟩ := holds2 hh
  refine ⟨f.six ++ g.six, bs_43_2 _ _ _ _ _ _ _ _ _ _ _ _, fun B w' hB h1 h2 => ?_⟩
  rw [hI]
  rcases frow2 h1 with h | ⟨b, off, e, h3⟩
  ·cases h
  ·cases e
   have hlo : W.heap.size ≤ B := by rw [← hB]; exact hb.size
   exact ⟨B, rfl, rfl, rfl, rfl, rfl, B, 0, f, g, rfl, fun W2 hW => ⟨(h3 0 f rfl).agree hlo hW.2, (h3 1 g rfl).agree hlo hW.2⟩, fun W2 hW => (show FarP _ t k f x from hf) W2 ⟨hW.1, (below_agree h2 _).trans hW.2⟩, fun W2 hW => (show FarP _ u m g y from hg) W2 ⟨hW.1, (below_agree h2 _).trans hW.2⟩⟩
end
theorem eitherR_plain (M : World → Prop) (t n : Int) (sa : Option Addr) (sc : Nat) (f g : WF) (x y : PF) (w : World) (hp : plainB t n 0 = true) (hw : M w) (hfx : FarP M t n f x) (hfy : FarP M t n g y) :
  Calls Try.prog 75 #[.agg #[.int .i64 t, .int .i64 n, .slice sa 0 sc], f.val, g.val] w (MRet M (.one t n) (.one (combP t n x y)) w) := by
 have hx := hfx w hw
 have hy := hfy w hw
 refine enterF (args := [.agg #[.int .i64 t, .int .i64 n, .slice sa 0 sc], f.val, g.val]) Try.func75 rfl Try.ntmps75 rfl ?_
 have hS := St.start w
 refine seqF (regF ?_)
 refine op_box (cs := [_, _, _]) hS rfl rfl rfl ?_
 clear hS; intro B1 W1 hS
 refine op_box (cs := [_, _, _, _, _, _]) hS rfl rfl rfl ?_
 clear hS; intro B2 W2 hS
 refine op_box (cs := [_, _, _, _, _, _]) hS rfl rfl rfl ?_
 clear hS; intro B3 W3 hS
 refine op_alloc (cs := [_, _, _, _, _, _]) hS Try.zeroValue45 rfl rfl ?_
 clear hS; intro B4 W4 hS
 refine endF (XF.thenN ?_)
 refine seqF ?_
 refine seqF (regF ?_)
 refine op_field (o' := 0) fa_45_0 rfl rfl rfl ?_
 refine op_load Try.isAgg4 rfl (cell_own (hS.at_ 2 rfl) rfl) rfl ?_
 refine endF (XF.thenN ?_)
 refine condF rfl (fun hc => ?_) (fun hc => ?_)
 ·have hc10 := hc; clear hc
  have hz := hc10
  refine seqF (regF ?_)
  refine op_loadA (vs := [_, _, _, _, _, _]) Try.isAgg45 Try.sizeOf45 rfl (CellsAt.own (j := 0) (m := 6) (hS.at_ 1 rfl) rfl) rfl ?_
  refine op_storeA (i := 0) (vs := [_, _, _, _, _, _]) (cs' := [_, _, _, _, _, _]) (O' := [_, _, _, _]) hS Try.sizeOf45 rfl rfl rfl rfl rfl rfl rfl ?_
  clear hS; intro W5 hS
  refine endF (XF.thenN ?_)
  refine retF ?_
  refine XF.thenR ?_
  refine XF.res (resC1 (vs := [_, _, _, _, _, _]) Try.results75 Try.isAgg45 Try.sizeOf45 rfl (CellsAt.own (j := 0) (m := 6) (hS.at_ 0 rfl) rfl)) ?_
  exact ⟨g, rfl, fun W hM => by rw [hx.zero hc10, comb_zl]; exact hfy W hM.1, hS.below⟩
 ·have hc10 := hc; clear hc
  have hf := hc10
  refine skipF ?_
  refine XF.thenN ?_
  refine seqF ?_
  refine seqF (regF ?_)
  refine op_field (o' := 0) fa_45_0 rfl rfl rfl ?_
  refine op_load Try.isAgg4 rfl (cell_own (hS.at_ 1 rfl) rfl) rfl ?_
  refine endF (XF.thenN ?_)
  refine condF rfl (fun hc => ?_) (fun hc => ?_)
  ·have hc13 := hc; clear hc
   refine seqF (regF ?_)
   refine op_loadA (vs := [_, _, _, _, _, _]) Try.isAgg45 Try.sizeOf45 rfl (CellsAt.own (j := 0) (m := 6) (hS.at_ 2 rfl) rfl) rfl ?_
   refine op_storeA (i := 0) (vs := [_, _, _, _, _, _]) (cs' := [_, _, _, _, _, _]) (O' := [_, _, _, _]) hS Try.sizeOf45 rfl rfl rfl rfl rfl rfl rfl ?_
   clear hS; intro W6 hS
   refine endF (XF.thenN ?_)
   refine retF ?_
   refine XF.thenR ?_
   refine XF.res (resC1 (vs := [_, _, _, _, _, _]) Try.results75 Try.isAgg45 Try.sizeOf45 rfl (CellsAt.own (j := 0) (m := 6) (hS.at_ 0 rfl) rfl)) ?_
   exact ⟨f, rfl, fun W hM => by rw [hy.zero hc13, comb_zr hx.ok]; exact hfx W hM.1, hS.below⟩
  ·have hc13 := hc; clear hc
   have hg := hc13
   refine skipF ?_
   refine XF.thenN ?_
   refine seqF (regF ?_)
   refine op_build (us := []) rfl (bld_45) rfl ?_
   refine op_alloc (cs := [_, _, _, _, _, _]) hS Try.zeroValue45 rfl rfl ?_
   clear hS; intro B7 W7 hS
   refine op_storeA (i := 0) (vs := [_, _, _, _, _, _]) (cs' := [_, _, _, _, _, _]) (O' := [_, _, _, _, _]) hS Try.sizeOf45 rfl rfl rfl rfl rfl rfl rfl ?_
   clear hS; intro W8 hS
   refine endF (XF.thenN ?_)
   refine seqF ?_
   refine seqF (regF ?_)
   refine op_field (o' := 0) fa_25_0 rfl rfl rfl ?_
   refine op_load Try.isAgg22 rfl (cell_own (hS.at_ 4 rfl) rfl) rfl ?_
   refine endF (XF.thenN ?_)
   refine blockF ?_
   refine seqF (regF ?_)
   refine op_eql rfl rfl rfl ?_
   refine op_assign rfl rfl ?_
   refine endF (XF.thenN ?_)
   refine condF rfl (fun hc => ?_) (fun hc => ?_)
   ·have hc18 := of_decide_eq_true hc; clear hc
    have e2 : t = 2 := hc18
    subst e2
    obtain ⟨_, p0, p1⟩ := hx.k2 hf
    obtain ⟨_, q0, q1⟩ := hy.k2 hg
    refine regF ?_
    refine op_field (o' := 1) fa_45_1 rfl rfl rfl ?_
    refine op_load Try.isAgg3 rfl (cell_own (hS.at_ 3 rfl) rfl) rfl ?_
    refine op_field (o' := 1) fa_45_1 rfl rfl rfl ?_
    refine op_load Try.isAgg3 rfl (cell_own (hS.at_ 2 rfl) rfl) rfl ?_
    refine op_min rfl rfl rfl ?_
    refine op_field (o' := 1) fa_45_1 rfl rfl rfl ?_
    refine op_store (i := 0) (cs' := [_, _, _, _, _, _]) (O' := [_, _, _, _, _]) hS Try.sizeOf3 rfl rfl rfl rfl rfl rfl rfl ?_
    clear hS; intro W9 hS
    refine endF ?_
    refine XF.blkN ?_
    refine XF.thenN ?_
    refine seqF (regF ?_)
    refine op_loadA (vs := [_, _, _, _, _, _]) Try.isAgg45 Try.sizeOf45 rfl (CellsAt.own (j := 0) (m := 6) (hS.at_ 0 rfl) rfl) rfl ?_
    refine op_storeA (i := 1) (vs := [_, _, _, _, _, _]) (cs' := [_, _, _, _, _, _]) (O' := [_, _, _, _, _]) hS Try.sizeOf45 rfl rfl rfl rfl rfl rfl rfl ?_
    clear hS; intro W10 hS
    refine endF (XF.thenN ?_)
    refine retF ?_
    refine XF.res (resC1 (vs := [_, _, _, _, _, _]) Try.results75 Try.isAgg45 Try.sizeOf45 rfl (CellsAt.own (j := 0) (m := 6) (hS.at_ 1 rfl) rfl)) ?_
    exact mret_one (comb_f2R hx hy hf hg p0 p1 q0 q1) hS.below
   ·have hc18 := of_decide_eq_false hc; clear hc
    refine seqF (regF ?_)
    refine op_eql rfl rfl rfl ?_
    refine op_assign rfl rfl ?_
    refine endF (XF.thenN ?_)
    refine condF rfl (fun hc => ?_) (fun hc => ?_)
    ·have hc26 := of_decide_eq_true hc; clear hc
     have e3 : t = 3 := hc26
     subst e3
     obtain ⟨m, rfl, hm⟩ := dim3 hp (.inl rfl)
     refine regF ?_
     refine op_field (o' := 1) fa_25_1 rfl rfl rfl ?_
     refine op_load Try.isAgg3 rfl (cell_own (hS.at_ 4 rfl) rfl) rfl ?_
     refine op_field (o' := 2) fa_45_2 rfl rfl rfl ?_
     refine op_loadA (vs := [_, _]) Try.isAgg41 Try.sizeOf41 rfl (CellsAt.own (j := 2) (m := 2) (hS.at_ 3 rfl) rfl) rfl ?_
     refine op_field (o' := 2) fa_45_2 rfl rfl rfl ?_
     refine op_loadA (vs := [_, _]) Try.isAgg41 Try.sizeOf41 rfl (CellsAt.own (j := 2) (m := 2) (hS.at_ 2 rfl) rfl) rfl ?_
     have hsz := hS.below.size
     refine op_call (vs := [_, _, _]) hS goes_99 rfl (combR_is _ _ _ _ _ _ _ _ _ _ (hx.at_.fat (by have := hx.rows64 (l := 0); omega) |>.below hS.below) (hy.at_.fat (by have := hy.rows64 (l := 0); omega) |>.below hS.below) _ rfl _ rfl _ rfl _ _ hx.at_.rl hy.at_.rl) rfl ?_
     rintro e W11 ⟨a1, c1, rfl, hv, hl, hb⟩
     refine ⟨_, rfl, hb, fun hS' => ?_⟩
     clear hS; have hS := hS'; clear hS'
     refine op_move rfl rfl ?_
     iterate 2 refine op_extract rfl rfl rfl ?_
     refine op_field (o' := 2) fa_45_2 rfl rfl rfl ?_
     refine op_storeA (i := 0) (vs := [_, _]) (cs' := [_, _, _, _, _, _]) (O' := [_, _, _, _, _]) hS Try.sizeOf41 rfl rfl rfl rfl rfl rfl rfl ?_
     clear hS; intro W12 hS
     refine endF ?_
     refine XF.blkN ?_
     refine XF.thenN ?_
     refine seqF (regF ?_)
     refine op_loadA (vs := [_, _, _, _, _, _]) Try.isAgg45 Try.sizeOf45 rfl (CellsAt.own (j := 0) (m := 6) (hS.at_ 0 rfl) rfl) rfl ?_
     refine op_storeA (i := 1) (vs := [_, _, _, _, _, _]) (cs' := [_, _, _, _, _, _]) (O' := [_, _, _, _, _]) hS Try.sizeOf45 rfl rfl rfl rfl rfl rfl rfl ?_
     clear hS; intro W13 hS
     refine endF (XF.thenN ?_)
     refine retF ?_
     refine XF.res (resC1 (vs := [_, _, _, _, _, _]) Try.results75 Try.isAgg45 Try.sizeOf45 rfl (CellsAt.own (j := 0) (m := 6) (hS.at_ 1 rfl) rfl)) ?_
     exact mret_one (comb_f3 hx hy hf hg (hv.agree (fun ad e => (hl ad e).1) (hS.since 0 rfl)) (fun ad e => Nat.le_trans hsz (hl ad e).1)) hS.below
    ·have hc26 := of_decide_eq_false hc; clear hc
     refine seqF (regF ?_)
     refine op_eql rfl rfl rfl ?_
     refine op_assign rfl rfl ?_
     refine endF (XF.thenN ?_)
     refine condF rfl (fun hc => ?_) (fun hc => ?_)
     ·have hc39 := of_decide_eq_true hc; clear hc
      have e4 : t = 4 := hc39
      subst e4
      obtain ⟨m, rfl, hm⟩ := dim3 hp (.inr rfl)
      obtain ⟨hpx, vx⟩ := hx.k4 hf
      obtain ⟨hpy, vy⟩ := hy.k4 hg
      refine seqF (regF ?_)
      refine op_assign rfl rfl ?_
      refine endF (XF.thenN ?_)
      refine blockF ?_
      refine loopF (fun q l W => ∃ (k : Nat) (v : Value), k ≤ m ∧ q = m - k ∧ l = [(3, .pointer (some ⟨B1, 0, none⟩)), (4, .pointer (some ⟨B2, 0, none⟩)), (5, .pointer (some ⟨B3, 0, none⟩)), (6, .pointer (some ⟨B4, 0, none⟩)), (7, .pointer (some ⟨B7, 0, none⟩)), (8, .int .i64 (k : Int))] ∧ St w [(B7, [.bool false, .int .i64 0, .int .u64 0, .slice none 0 0, v, .slice none 0 0], 45), (B4, [.bool false, .int .i64 0, .int .u64 0, .slice none 0 0, .slice none 0 0, .slice none 0 0], 45), (B3, [.bool g.z, .int .i64 g.c, .int .u64 (g.g : Int), .slice g.ra g.rl g.rc, .slice g.ca g.cl g.cc, .slice g.pa g.pl g.pc], 45), (B2, [.bool f.z, .int .i64 f.c, .int .u64 (f.g : Int), .slice f.ra f.rl f.rc, .slice f.ca f.cl f.cc, .slice f.pa f.pl f.pc], 45), (B1, [.int .i64 4, .int .i64 (m : Int), .slice sa 0 sc], 25)] [⟨v, k, flat ((bothC f.cells g.cells).take k), 96, 3⟩] [] W) (m - 0) ([(3, _), (4, _), (5, _), (6, _), (7, _), (8, _)]) ⟨rfl, rfl, rfl, rfl, rfl, rfl, trivial⟩ (⟨0, .slice none 0 0, Nat.zero_le _, rfl, rfl, hS.clear.newG _ _⟩) ?_
      clear hS
      rintro q l W ⟨k, v, hkm, rfl, rfl, hS⟩
      refine seqF ?_
      refine seqF (regF ?_)
      refine op_move rfl rfl ?_
      refine op_field (o' := 1) fa_25_1 rfl rfl rfl ?_
      refine op_load Try.isAgg3 rfl (cell_own (hS.at_ 4 rfl) rfl) rfl ?_
      refine op_lss rfl rfl rfl ?_
      refine endF (XF.thenN ?_)
      refine condF rfl (fun hc => ?_) (fun hc => ?_)
      ·have hc44 := of_decide_eq_true hc; clear hc
       have hk : k < m := by omega
       have hlx := vx.len
       have hly := vy.len
       obtain ⟨bx, offx, x1, ecx, hx1, hbx, c0, c1, c2⟩ := (hx.at_.cells.below hS.below).at_ (k := k) (by omega)
       obtain ⟨ba, offa, y1, eca, hy1, hba, a0, a1, a2⟩ := (hy.at_.cells.below hS.below).at_ (k := k) (by omega)
       have k0 : CellsAt W bx (offx + k * 3) [.int .u64 (x1.f : Int), .int .i64 x1.k, .int .i64 x1.v] := ⟨c0, c1, c2, trivial⟩
       have k1 : CellsAt W ba (offa + k * 3) [.int .u64 (y1.f : Int), .int .i64 y1.k, .int .i64 y1.v] := ⟨a0, a1, a2, trivial⟩
       have h1 : (bothC f.cells g.cells)[k]? = some (join x1 y1) := by unfold bothC; rw [List.getElem?_zipWith, hx1, hy1]
       have hcl := hx.at_.cl
       have hclg := hy.at_.cl
       simp only [ecx, eca] at hS
       refine skipF ?_
       refine XF.thenN ?_
       refine seqF ?_
       refine blockF ?_
       refine regBP (p := 14) (k := 16) (gi := 0) (m := 1) followsM hS rfl rfl (by kernel_rfl) (by kernel_rfl) (by kernel_rfl) (fun d hd => by cases hd) rfl rfl Try.underlying42 inf_96 rfl rfl (by show 0 < 3; decide) rfl rfl rfl (by dsimp only; simp only [maxLen]; omega) (by dsimp only; show _ * 24 ≤ _; omega) ?_
       refine blp_v 1 rfl rfl (by kernel_rfl) (rgV (li := [(7, _)]) rfl (w_free rfl) ⟨g_fr (by kernel_rfl) rfl, trivial⟩ (fun w hw => rn_field (o' := 4) fa_45_3 rfl rfl) (at_top rfl)) ?_
       refine blp_v 2 rfl rfl (by kernel_rfl) (rgV (li := [(47, _)]) rfl (w_free rfl) ⟨g_dep 0 (by kernel_rfl) (at_dep rfl rfl rfl), trivial⟩ (fun w hw => rn_load Try.isAgg42 rfl ((below_agree hw 0).cell (Nat.zero_le _) (cell_own (hS.at_ 0 rfl) rfl))) (at_top rfl)) ?_
       refine blp_v 3 rfl rfl (by kernel_rfl) (rgV (li := [(4, _)]) rfl (w_free rfl) ⟨g_fr (by kernel_rfl) rfl, trivial⟩ (fun w hw => rn_field (o' := 4) fa_45_3 rfl rfl) (at_top rfl)) ?_
       refine blp_v 4 rfl rfl (by kernel_rfl) (rgV (li := [(49, _)]) rfl (w_free rfl) ⟨g_dep 2 (by kernel_rfl) (at_dep rfl rfl rfl), trivial⟩ (fun w hw => rn_load Try.isAgg42 rfl ((below_agree hw 0).cell (Nat.zero_le _) (cell_own (hS.at_ 3 rfl) rfl))) (at_top rfl)) ?_
       refine blp_v 5 rfl rfl (by kernel_rfl) (rgV (li := [(8, _)]) rfl (w_free rfl) ⟨g_fr (by kernel_rfl) rfl, trivial⟩ (fun w hw => rn_move rfl) (at_top rfl)) ?_
       refine blp_v 6 rfl rfl (by kernel_rfl) (rgV (li := [(50, _), (51, _)]) rfl (w_free rfl) ⟨g_dep 3 (by kernel_rfl) (at_dep rfl rfl rfl), g_dep 4 (by kernel_rfl) (at_dep rfl rfl rfl), trivial⟩ (fun w hw => rn_indexA  Try.underlying42 Try.sizeOf96 rfl rfl rfl (by omega) rfl) (at_top rfl)) ?_
       refine blp_v 7 rfl rfl (by kernel_rfl) (rgV (li := [(52, _)]) rfl (w_free rfl) ⟨g_dep 5 (by kernel_rfl) (at_dep rfl rfl rfl), trivial⟩ (fun w hw => rn_loadA (vs := [_, _, _]) Try.isAgg96 Try.sizeOf96 rfl (CellsAt.agree (below_agree hw 0) (Nat.zero_le _) (by assumption))) (at_top rfl)) ?_
       refine blp_v 8 rfl rfl (by kernel_rfl) (rgV (li := [(5, _)]) rfl (w_free rfl) ⟨g_fr (by kernel_rfl) rfl, trivial⟩ (fun w hw => rn_field (o' := 4) fa_45_3 rfl rfl) (at_top rfl)) ?_
       refine blp_v 9 rfl rfl (by kernel_rfl) (rgV (li := [(54, _)]) rfl (w_free rfl) ⟨g_dep 7 (by kernel_rfl) (at_dep rfl rfl rfl), trivial⟩ (fun w hw => rn_load Try.isAgg42 rfl ((below_agree hw 0).cell (Nat.zero_le _) (cell_own (hS.at_ 2 rfl) rfl))) (at_top rfl)) ?_
       refine blp_v 10 rfl rfl (by kernel_rfl) (rgV (li := [(8, _)]) rfl (w_free rfl) ⟨g_fr (by kernel_rfl) rfl, trivial⟩ (fun w hw => rn_move rfl) (at_top rfl)) ?_
       refine blp_v 11 rfl rfl (by kernel_rfl) (rgV (li := [(55, _), (56, _)]) rfl (w_free rfl) ⟨g_dep 8 (by kernel_rfl) (at_dep rfl rfl rfl), g_dep 9 (by kernel_rfl) (at_dep rfl rfl rfl), trivial⟩ (fun w hw => rn_indexA  Try.underlying42 Try.sizeOf96 rfl rfl rfl (by omega) rfl) (at_top rfl)) ?_
       refine blp_v 12 rfl rfl (by kernel_rfl) (rgV (li := [(57, _)]) rfl (w_free rfl) ⟨g_dep 10 (by kernel_rfl) (at_dep rfl rfl rfl), trivial⟩ (fun w hw => rn_loadA (vs := [_, _, _]) Try.isAgg96 Try.sizeOf96 rfl (CellsAt.agree (below_agree hw 0) (Nat.zero_le _) (by assumption))) (at_top rfl)) ?_
       refine blp_v 13 rfl rfl (by kernel_rfl) (rg_call [isV _, isV _] rfl goes_96 (w_free rfl) ⟨p_tmp (g_dep 6 (by kernel_rfl) (at_dep rfl rfl rfl)), p_tmp (g_dep 11 (by kernel_rfl) (at_dep rfl rfl rfl)), trivial⟩ (fun vs w' hb hh => by have e := holds_isV (us := [_, _]) hh; subst e; exact (jn_any x1 y1 (vx.oks k x1 hx1) (vy.oks k y1 hy1) _).mono fun e w2 h => ⟨_, h.1, rfl, h.2⟩) (at_top rfl)) ?_
       refine blp_q 14 rfl rfl (by kernel_rfl) (isRow W.heap.size 1 96 _) (stab_isRow) (rg_rowV (us := [.agg (List.toArray [_, _, _])]) rfl (w_free rfl) Try.underlying42 Try.sizeOf96 Try.zeroValue96 rfl rfl ⟨p_tmp (g_dep 12 (by kernel_rfl) (at_dep rfl rfl rfl)), trivial⟩ (bs_42_1 _ _ _) (at_top rfl)) ?_
       refine blp_app 15 rfl rfl ?_
       refine blp_late 16 rfl rfl (rgV (li := [(7, _)]) rfl (w_free rfl) ⟨g_fr (by kernel_rfl) rfl, trivial⟩ (fun w hw => rn_field (o' := 4) fa_45_3 rfl rfl) (at_top rfl)) (lgV (li := [(7, _)]) rfl (w_free rfl) ⟨g_fr (by kernel_rfl) rfl, trivial⟩ (fun w => rn_field (o' := 4) fa_45_3 rfl rfl) (at_top rfl) rfl) ?_
       refine blp_nil ⟨_, _, g_dep 1 (by kernel_rfl) (at_dep rfl rfl rfl), g_dep 13 (by kernel_rfl) (at_dep rfl rfl rfl), rowOf_isRow rfl rfl, ?_⟩
       intro A14 v14 news14 W14 hbR hqA14 hS'
       clear hS; have hS := hS'; clear hS'
       cases hqA14
       iterate 13 refine fin_v ?_
       refine fin_p ?_; intro _ _
       iterate 2 refine fin_v ?_
       obtain ⟨g9, c9, e9, _, _⟩ := (hS.row 0 rfl).form (by show 0 < k + 1; omega)
       dsimp only at e9
       subst e9
       refine fin_nil ?_
       refine op_store (i := 0) (cs' := [_, _, _, _, _, _]) (O' := [_, _, _, _, _]) hS Try.sizeOf42 rfl rfl rfl rfl rfl rfl rfl ?_
       clear hS; intro W15 hS
       refine endF ?_
       refine XF.blkN ?_
       refine XF.thenN ?_
       refine regF ?_
       refine op_move rfl rfl ?_
       refine op_add rfl rfl (IntWalk.i64_in _ (by omega)) rfl ?_
       refine op_assign rfl rfl ?_
       refine endF ?_
       simp only [← ecx, ← eca] at hS
       exact XF.round (m - (k + 1)) [(3, _), (4, _), (5, _), (6, _), (7, _), (8, _)] (by omega) ⟨rfl, rfl, rfl, rfl, rfl, rfl, trivial⟩ ⟨k + 1, _, by omega, rfl, rfl, by rw [flat_step h1]; exact hS.clear⟩
      ·have hc44 := of_decide_eq_false hc; clear hc
       refine exitF ?_
       iterate 2 refine XF.thenX ?_
       refine XF.blkX ?_
       refine XF.blkN ?_
       refine XF.thenN ?_
       refine seqF ?_
       obtain rfl : k = m := by omega
       have hrow := hS.row 0 rfl
       have hln : (bothC f.cells g.cells).length = k := by unfold bothC; rw [List.length_zipWith, vx.len, vy.len, Nat.min_self]
       have ht0 : (bothC f.cells g.cells).take k = bothC f.cells g.cells := List.take_of_length_le (by rw [hln]; exact Nat.le_refl _)
       simp only [ht0] at hrow
       obtain ⟨hn, a9, c9, rfl, _, _⟩ := crow_of_own hrow
       clear hrow
       refine regF ?_
       refine op_loadA (vs := [_, _, _, _, _, _]) Try.isAgg45 Try.sizeOf45 rfl (CellsAt.own (j := 0) (m := 6) (hS.at_ 0 rfl) rfl) rfl ?_
       refine op_storeA (i := 1) (vs := [_, _, _, _, _, _]) (cs' := [_, _, _, _, _, _]) (O' := [_, _, _, _, _]) hS Try.sizeOf45 rfl rfl rfl rfl rfl rfl rfl ?_
       clear hS; intro W16 hS
       refine endF (XF.thenN ?_)
       refine retF ?_
       refine XF.res (resC1 (vs := [_, _, _, _, _, _]) Try.results75 Try.isAgg45 Try.sizeOf45 rfl (CellsAt.own (j := 0) (m := 6) (hS.at_ 1 rfl) rfl)) ?_
       have hrow := hS.row 0 rfl
       simp only [ht0] at hrow
       obtain ⟨_, a8, c8, e8, hr9, hf9⟩ := crow_of_own hrow
       cases e8
       refine ⟨cellsF a9 c9 (bothC f.cells g.cells), ?_, fun W2 hW => ((comb_f4C (k := w.heap.size) hx hy hf hg hr9 (fun ad e => (hf9 ad e).1)).agree hW.2).is, hS.below⟩
       show _ = Ending.returned (Value.agg #[.bool false, .int .i64 0, .int .u64 ((0 : Nat) : Int), .slice none 0 0, .slice a9 (bothC f.cells g.cells).length c9, .slice none 0 0])
       rw [hln]
       rfl
     ·have hc39 := of_decide_eq_false hc; clear hc
      refine seqF (regF ?_)
      refine op_eql rfl rfl rfl ?_
      refine op_assign rfl rfl ?_
      refine endF (XF.thenN ?_)
      refine condF rfl (fun hc => absurd (of_decide_eq_true hc) (by exact plain_ne5 hp)) (fun hc => ?_)
      have hc := of_decide_eq_false hc
      refine skipF ?_
      refine XF.blkN ?_
      refine XF.thenN ?_
      refine seqF (regF ?_)
      refine op_loadA (vs := [_, _, _, _, _, _]) Try.isAgg45 Try.sizeOf45 rfl (CellsAt.own (j := 0) (m := 6) (hS.at_ 0 rfl) rfl) rfl ?_
      refine op_storeA (i := 1) (vs := [_, _, _, _, _, _]) (cs' := [_, _, _, _, _, _]) (O' := [_, _, _, _, _]) hS Try.sizeOf45 rfl rfl rfl rfl rfl rfl rfl ?_
      clear hS; intro W17 hS
      refine endF (XF.thenN ?_)
      refine retF ?_
      refine XF.res (resC1 (vs := [_, _, _, _, _, _]) Try.results75 Try.isAgg45 Try.sizeOf45 rfl (CellsAt.own (j := 0) (m := 6) (hS.at_ 1 rfl) rfl)) ?_
      have e1 : t = 1 := by
       have := (plainB_tag hp).2
       omega
      subst e1
      exact mret_one (comb_f1 hx hy hf hg) hS.below
theorem eitherR_pair (M : World → Prop) (hM : KeepsB M) (t n u m : Int) (a1 a2 : Option Addr) (c1 c2 b off sc : Nat) (w : World) (hs1 : S3 w b off ⟨t, n, a1, 0, c1⟩) (hs2 : S3 w b (off + 3) ⟨u, m, a2, 0, c2⟩) (hp1 : plainB t n 0 = true) (hp2 : plainB u m 0 = true)(fra fca : Option Addr) (frc fcc fpc fb fo : Nat) (f1 f2 : WF) (x1 x2 : PF) (hf6 : W6 w fb fo f1) (hf7 : W6 w fb (fo + 6) f2) (hx1 : FarP M t n f1 x1) (hx2 : FarP M u m f2 x2)(gra gca : Option Addr) (grc gcc gpc gb go : Nat) (g1 g2 : WF) (y1 y2 : PF) (hg6 : W6 w gb go g1) (hg7 : W6 w gb (go + 6) g2) (hy1 : FarP M t n g1 y1) (hy2 : FarP M u m g2 y2) (hw : M w) :
  Calls Try.prog 75 #[.agg #[.int .i64 5, .int .i64 0, .slice (some ⟨b, off, none⟩) 2 sc], .agg #[.bool false, .int .i64 0, .int .u64 0, .slice fra 0 frc, .slice fca 0 fcc, .slice (some ⟨fb, fo, none⟩) 2 fpc], .agg #[.bool false, .int .i64 0, .int .u64 0, .slice gra 0 grc, .slice gca 0 gcc, .slice (some ⟨gb, go, none⟩) 2 gpc]] w (MRet M (.two t n u m) (.two (combP t n x1 y1) (combP u m x2 y2)) w) := by
 refine enterF (args := [.agg #[.int .i64 5, .int .i64 0, .slice (some ⟨b, off, none⟩) 2 sc], .agg #[.bool false, .int .i64 0, .int .u64 0, .slice fra 0 frc, .slice fca 0 fcc, .slice (some ⟨fb, fo, none⟩) 2 fpc], .agg #[.bool false, .int .i64 0, .int .u64 0, .slice gra 0 grc, .slice gca 0 gcc, .slice (some ⟨gb, go, none⟩) 2 gpc]]) Try.func75 rfl Try.ntmps75 rfl ?_
 have hS := St.start w
 refine seqF (regF ?_)
 refine op_box (cs := [_, _, _]) hS rfl rfl rfl ?_
 clear hS; intro B1 W1 hS
 refine op_box (cs := [_, _, _, _, _, _]) hS rfl rfl rfl ?_
 clear hS; intro B2 W2 hS
 refine op_box (cs := [_, _, _, _, _, _]) hS rfl rfl rfl ?_
 clear hS; intro B3 W3 hS
 refine op_alloc (cs := [_, _, _, _, _, _]) hS Try.zeroValue45 rfl rfl ?_
 clear hS; intro B4 W4 hS
 refine endF (XF.thenN ?_)
 refine seqF ?_
 refine seqF (regF ?_)
 refine op_field (o' := 0) fa_45_0 rfl rfl rfl ?_
 refine op_load Try.isAgg4 rfl (cell_own (hS.at_ 2 rfl) rfl) rfl ?_
 refine endF (XF.thenN ?_)
 refine condF rfl (fun hc => absurd hc (by decide)) (fun hc => ?_)
 skip
 refine skipF ?_
 refine XF.thenN ?_
 refine seqF ?_
 refine seqF (regF ?_)
 refine op_field (o' := 0) fa_45_0 rfl rfl rfl ?_
 refine op_load Try.isAgg4 rfl (cell_own (hS.at_ 1 rfl) rfl) rfl ?_
 refine endF (XF.thenN ?_)
 refine condF rfl (fun hc => absurd hc (by decide)) (fun hc => ?_)
 skip
 refine skipF ?_
 refine XF.thenN ?_
 refine seqF (regF ?_)
 refine op_build (us := []) rfl (bld_45) rfl ?_
 refine op_alloc (cs := [_, _, _, _, _, _]) hS Try.zeroValue45 rfl rfl ?_
 clear hS; intro B5 W5 hS
 refine op_storeA (i := 0) (vs := [_, _, _, _, _, _]) (cs' := [_, _, _, _, _, _]) (O' := [_, _, _, _, _]) hS Try.sizeOf45 rfl rfl rfl rfl rfl rfl rfl ?_
 clear hS; intro W6 hS
 refine endF (XF.thenN ?_)
 refine seqF ?_
 refine seqF (regF ?_)
 refine op_field (o' := 0) fa_25_0 rfl rfl rfl ?_
 refine op_load Try.isAgg22 rfl (cell_own (hS.at_ 4 rfl) rfl) rfl ?_
 refine endF (XF.thenN ?_)
 refine blockF ?_
 refine seqF (regF ?_)
 refine op_eql rfl rfl rfl ?_
 refine op_assign rfl rfl ?_
 refine endF (XF.thenN ?_)
 refine condF rfl (fun hc => absurd (of_decide_eq_true hc) (by omega)) (fun hc => ?_)
 have hc := of_decide_eq_false hc
 refine seqF (regF ?_)
 refine op_eql rfl rfl rfl ?_
 refine op_assign rfl rfl ?_
 refine endF (XF.thenN ?_)
 refine condF rfl (fun hc => absurd (of_decide_eq_true hc) (by omega)) (fun hc => ?_)
 have hc := of_decide_eq_false hc
 refine seqF (regF ?_)
 refine op_eql rfl rfl rfl ?_
 refine op_assign rfl rfl ?_
 refine endF (XF.thenN ?_)
 refine condF rfl (fun hc => absurd (of_decide_eq_true hc) (by omega)) (fun hc => ?_)
 have hc := of_decide_eq_false hc
 refine seqF (regF ?_)
 refine op_eql rfl rfl rfl ?_
 refine op_assign rfl rfl ?_
 refine endF (XF.thenN ?_)
 refine condF rfl (fun hc => ?_) (fun hc => absurd (of_decide_eq_false hc) (by omega))
 have hc := of_decide_eq_true hc
 have hsz := hS.below.size
 have k1 := CellsAt.agree hS.agree (Nat.zero_le _) hs1.cells
 have k2 := CellsAt.agree hS.agree (Nat.zero_le _) hs2.cells
 have kf1 := CellsAt.agree hS.agree (Nat.zero_le _) hf6.cells
 have kf2 := CellsAt.agree hS.agree (Nat.zero_le _) hf7.cells
 have kg1 := CellsAt.agree hS.agree (Nat.zero_le _) hg6.cells
 have kg2 := CellsAt.agree hS.agree (Nat.zero_le _) hg7.cells
 refine regBK followsM 28 hS rfl rfl (by kernel_rfl) (by kernel_rfl) (by kernel_rfl) (fun d hd => by cases hd) ?_
 refine bl_cons 1 rfl (isV _) (stab_isV _) (rgV (li := [(3, _)]) rfl (w_free rfl) ⟨g_fr (by kernel_rfl) rfl, trivial⟩ (fun w hw => rn_field (o' := 2) fa_25_2 rfl rfl) (at_top rfl)) ?_
 refine bl_cons 2 rfl (isV _) (stab_isV _) (rgV (li := [(65, _)]) rfl (w_free rfl) ⟨g_dep 0 (by kernel_rfl) (at_dep rfl rfl rfl), trivial⟩ (fun w hw => rn_load Try.isAgg23 rfl ((below_agree hw 0).cell (Nat.zero_le _) (cell_own (hS.at_ 4 rfl) rfl))) (at_top rfl)) ?_
 refine bl_cons 3 rfl (isV _) (stab_isV _) (rgV (li := [(66, _)]) rfl (w_free rfl) ⟨g_dep 1 (by kernel_rfl) (at_dep rfl rfl rfl), trivial⟩ (fun w hw => rn_indexA (j := 0) Try.underlying23 Try.sizeOf25 rfl rfl rfl (by omega) (Nat.add_zero _)) (at_top rfl)) ?_
 refine bl_cons 4 rfl (isV _) (stab_isV _) (rgV (li := [(67, _)]) rfl (w_free rfl) ⟨g_dep 2 (by kernel_rfl) (at_dep rfl rfl rfl), trivial⟩ (fun w hw => rn_loadA (vs := [_, _, _]) Try.isAgg25 Try.sizeOf25 rfl (CellsAt.agree (below_agree hw 0) (Nat.zero_le _) (by assumption))) (at_top rfl)) ?_
 refine bl_cons 5 rfl (isV _) (stab_isV _) (rgV (li := [(4, _)]) rfl (w_free rfl) ⟨g_fr (by kernel_rfl) rfl, trivial⟩ (fun w hw => rn_field (o' := 5) fa_45_4 rfl rfl) (at_top rfl)) ?_
 refine bl_cons 6 rfl (isV _) (stab_isV _) (rgV (li := [(69, _)]) rfl (w_free rfl) ⟨g_dep 4 (by kernel_rfl) (at_dep rfl rfl rfl), trivial⟩ (fun w hw => rn_load Try.isAgg43 rfl ((below_agree hw 0).cell (Nat.zero_le _) (cell_own (hS.at_ 3 rfl) rfl))) (at_top rfl)) ?_
 refine bl_cons 7 rfl (isV _) (stab_isV _) (rgV (li := [(70, _)]) rfl (w_free rfl) ⟨g_dep 5 (by kernel_rfl) (at_dep rfl rfl rfl), trivial⟩ (fun w hw => rn_indexA (j := 0) Try.underlying43 Try.sizeOf45 rfl rfl rfl (by omega) (Nat.add_zero _)) (at_top rfl)) ?_
 refine bl_cons 8 rfl (isV _) (stab_isV _) (rgV (li := [(71, _)]) rfl (w_free rfl) ⟨g_dep 6 (by kernel_rfl) (at_dep rfl rfl rfl), trivial⟩ (fun w hw => rn_loadA (vs := [_, _, _, _, _, _]) Try.isAgg45 Try.sizeOf45 rfl (CellsAt.agree (below_agree hw 0) (Nat.zero_le _) (by assumption))) (at_top rfl)) ?_
 refine bl_cons 9 rfl (isV _) (stab_isV _) (rgV (li := [(5, _)]) rfl (w_free rfl) ⟨g_fr (by kernel_rfl) rfl, trivial⟩ (fun w hw => rn_field (o' := 5) fa_45_4 rfl rfl) (at_top rfl)) ?_
 refine bl_cons 10 rfl (isV _) (stab_isV _) (rgV (li := [(73, _)]) rfl (w_free rfl) ⟨g_dep 8 (by kernel_rfl) (at_dep rfl rfl rfl), trivial⟩ (fun w hw => rn_load Try.isAgg43 rfl ((below_agree hw 0).cell (Nat.zero_le _) (cell_own (hS.at_ 2 rfl) rfl))) (at_top rfl)) ?_
 refine bl_cons 11 rfl (isV _) (stab_isV _) (rgV (li := [(74, _)]) rfl (w_free rfl) ⟨g_dep 9 (by kernel_rfl) (at_dep rfl rfl rfl), trivial⟩ (fun w hw => rn_indexA (j := 0) Try.underlying43 Try.sizeOf45 rfl rfl rfl (by omega) (Nat.add_zero _)) (at_top rfl)) ?_
 refine bl_cons 12 rfl (isV _) (stab_isV _) (rgV (li := [(75, _)]) rfl (w_free rfl) ⟨g_dep 10 (by kernel_rfl) (at_dep rfl rfl rfl), trivial⟩ (fun w hw => rn_loadA (vs := [_, _, _, _, _, _]) Try.isAgg45 Try.sizeOf45 rfl (CellsAt.agree (below_agree hw 0) (Nat.zero_le _) (by assumption))) (at_top rfl)) ?_
 refine bl_cons 13 rfl (isFar M W6.heap.size (.one t n) (.one (combP t n x1 y1))) (stab_isFar) (rg_call [isV _, isV _, isV _] rfl goes_75 (w_free rfl) ⟨p_tmp (g_dep 3 (by kernel_rfl) (at_dep rfl rfl rfl)), p_tmp (g_dep 7 (by kernel_rfl) (at_dep rfl rfl rfl)), p_tmp (g_dep 11 (by kernel_rfl) (at_dep rfl rfl rfl)), trivial⟩ (fun vs w' hb hh => by have e := holds_isV (us := [_, _, _]) hh; subst e; exact mret_gives hb.size (eitherR_plain M _ _ _ _ _ _ _ _ _ hp1 (hM _ _ hw (hS.below.trans (hb.mono hS.below.size))) hx1 hy1)) (at_top rfl)) ?_
 refine bl_cons 14 rfl (isV _) (stab_isV _) (rgV (li := [(3, _)]) rfl (w_free rfl) ⟨g_fr (by kernel_rfl) rfl, trivial⟩ (fun w hw => rn_field (o' := 2) fa_25_2 rfl rfl) (at_top rfl)) ?_
 refine bl_cons 15 rfl (isV _) (stab_isV _) (rgV (li := [(78, _)]) rfl (w_free rfl) ⟨g_dep 13 (by kernel_rfl) (at_dep rfl rfl rfl), trivial⟩ (fun w hw => rn_load Try.isAgg23 rfl ((below_agree hw 0).cell (Nat.zero_le _) (cell_own (hS.at_ 4 rfl) rfl))) (at_top rfl)) ?_
 refine bl_cons 16 rfl (isV _) (stab_isV _) (rgV (li := [(79, _)]) rfl (w_free rfl) ⟨g_dep 14 (by kernel_rfl) (at_dep rfl rfl rfl), trivial⟩ (fun w hw => rn_indexA (j := 1) Try.underlying23 Try.sizeOf25 rfl rfl rfl (by omega) rfl) (at_top rfl)) ?_
 refine bl_cons 17 rfl (isV _) (stab_isV _) (rgV (li := [(80, _)]) rfl (w_free rfl) ⟨g_dep 15 (by kernel_rfl) (at_dep rfl rfl rfl), trivial⟩ (fun w hw => rn_loadA (vs := [_, _, _]) Try.isAgg25 Try.sizeOf25 rfl (CellsAt.agree (below_agree hw 0) (Nat.zero_le _) (by assumption))) (at_top rfl)) ?_
 refine bl_cons 18 rfl (isV _) (stab_isV _) (rgV (li := [(4, _)]) rfl (w_free rfl) ⟨g_fr (by kernel_rfl) rfl, trivial⟩ (fun w hw => rn_field (o' := 5) fa_45_4 rfl rfl) (at_top rfl)) ?_
 refine bl_cons 19 rfl (isV _) (stab_isV _) (rgV (li := [(82, _)]) rfl (w_free rfl) ⟨g_dep 17 (by kernel_rfl) (at_dep rfl rfl rfl), trivial⟩ (fun w hw => rn_load Try.isAgg43 rfl ((below_agree hw 0).cell (Nat.zero_le _) (cell_own (hS.at_ 3 rfl) rfl))) (at_top rfl)) ?_
 refine bl_cons 20 rfl (isV _) (stab_isV _) (rgV (li := [(83, _)]) rfl (w_free rfl) ⟨g_dep 18 (by kernel_rfl) (at_dep rfl rfl rfl), trivial⟩ (fun w hw => rn_indexA (j := 1) Try.underlying43 Try.sizeOf45 rfl rfl rfl (by omega) rfl) (at_top rfl)) ?_
 refine bl_cons 21 rfl (isV _) (stab_isV _) (rgV (li := [(84, _)]) rfl (w_free rfl) ⟨g_dep 19 (by kernel_rfl) (at_dep rfl rfl rfl), trivial⟩ (fun w hw => rn_loadA (vs := [_, _, _, _, _, _]) Try.isAgg45 Try.sizeOf45 rfl (CellsAt.agree (below_agree hw 0) (Nat.zero_le _) (by assumption))) (at_top rfl)) ?_
 refine bl_cons 22 rfl (isV _) (stab_isV _) (rgV (li := [(5, _)]) rfl (w_free rfl) ⟨g_fr (by kernel_rfl) rfl, trivial⟩ (fun w hw => rn_field (o' := 5) fa_45_4 rfl rfl) (at_top rfl)) ?_
 refine bl_cons 23 rfl (isV _) (stab_isV _) (rgV (li := [(86, _)]) rfl (w_free rfl) ⟨g_dep 21 (by kernel_rfl) (at_dep rfl rfl rfl), trivial⟩ (fun w hw => rn_load Try.isAgg43 rfl ((below_agree hw 0).cell (Nat.zero_le _) (cell_own (hS.at_ 2 rfl) rfl))) (at_top rfl)) ?_
 refine bl_cons 24 rfl (isV _) (stab_isV _) (rgV (li := [(87, _)]) rfl (w_free rfl) ⟨g_dep 22 (by kernel_rfl) (at_dep rfl rfl rfl), trivial⟩ (fun w hw => rn_indexA (j := 1) Try.underlying43 Try.sizeOf45 rfl rfl rfl (by omega) rfl) (at_top rfl)) ?_
 refine bl_cons 25 rfl (isV _) (stab_isV _) (rgV (li := [(88, _)]) rfl (w_free rfl) ⟨g_dep 23 (by kernel_rfl) (at_dep rfl rfl rfl), trivial⟩ (fun w hw => rn_loadA (vs := [_, _, _, _, _, _]) Try.isAgg45 Try.sizeOf45 rfl (CellsAt.agree (below_agree hw 0) (Nat.zero_le _) (by assumption))) (at_top rfl)) ?_
 refine bl_cons 26 rfl (isFar M W6.heap.size (.one u m) (.one (combP u m x2 y2))) (stab_isFar) (rg_call [isV _, isV _, isV _] rfl goes_75 (w_free rfl) ⟨p_tmp (g_dep 16 (by kernel_rfl) (at_dep rfl rfl rfl)), p_tmp (g_dep 20 (by kernel_rfl) (at_dep rfl rfl rfl)), p_tmp (g_dep 24 (by kernel_rfl) (at_dep rfl rfl rfl)), trivial⟩ (fun vs w' hb hh => by have e := holds_isV (us := [_, _, _]) hh; subst e; exact mret_gives hb.size (eitherR_plain M _ _ _ _ _ _ _ _ _ hp2 (hM _ _ hw (hS.below.trans (hb.mono hS.below.size))) hx2 hy2)) (at_top rfl)) ?_
 refine bl_cons 27 rfl (isFarRow M W6.heap.size (.two t n u m) (.two (combP t n x1 y1) (combP u m x2 y2))) (stab_isFarRow) (rg_farRow rfl (w_free rfl) ⟨p_tmp (g_dep 12 (by kernel_rfl) (at_dep rfl rfl rfl)), p_tmp (g_dep 25 (by kernel_rfl) (at_dep rfl rfl rfl)), trivial⟩ (at_top rfl)) ?_
 refine bl_cons 28 rfl (isV _) (stab_isV _) (rgV (li := [(7, _)]) rfl (w_free rfl) ⟨g_fr (by kernel_rfl) rfl, trivial⟩ (fun w hw => rn_field (o' := 5) fa_45_4 rfl rfl) (at_top rfl)) ?_
 refine bl_nil ?_
 intro W7 hbR hS'
 clear hS; have hS := hS'; clear hS'
 iterate 12 refine fin_v ?_
 refine fin_p ?_; rintro _ ⟨v1, rfl, hn1⟩
 iterate 12 refine fin_v ?_
 refine fin_p ?_; rintro _ ⟨v2, rfl, hn2⟩
 refine fin_p ?_; rintro _ ⟨b9, rfl, hn9⟩
 refine fin_v ?_
 refine fin_nil ?_
 refine op_store (i := 0) (cs' := [_, _, _, _, _, _]) (O' := [_, _, _, _, _]) hS Try.sizeOf43 rfl rfl rfl rfl rfl rfl rfl ?_
 clear hS; intro W8 hS
 refine endF ?_
 refine XF.blkN ?_
 refine XF.thenN ?_
 refine seqF (regF ?_)
 refine op_loadA (vs := [_, _, _, _, _, _]) Try.isAgg45 Try.sizeOf45 rfl (CellsAt.own (j := 0) (m := 6) (hS.at_ 0 rfl) rfl) rfl ?_
 refine op_storeA (i := 1) (vs := [_, _, _, _, _, _]) (cs' := [_, _, _, _, _, _]) (O' := [_, _, _, _, _]) hS Try.sizeOf45 rfl rfl rfl rfl rfl rfl rfl ?_
 clear hS; intro W9 hS
 refine endF (XF.thenN ?_)
 refine retF ?_
 refine XF.res (resC1 (vs := [_, _, _, _, _, _]) Try.results75 Try.isAgg45 Try.sizeOf45 rfl (CellsAt.own (j := 0) (m := 6) (hS.at_ 1 rfl) rfl)) ?_
 exact ⟨pairF b9, rfl, hn9.mono fun W hW => ⟨hW.1, (hS.since 0 rfl).trans (hW.2.mono hsz)⟩, hS.below⟩
theorem FarX.two {M : World → Prop} {t n u m : Int} {f : WF} {a b : PF} (h : FarX M (.two t n u m) f (.two a b)) : ∃ (ra ca : Option Addr) (rc cc pc fb fo : Nat) (f1 f2 : WF), f = ⟨false, 0, 0, ra, 0, rc, [], ca, 0, cc, [], some ⟨fb, fo, none⟩, 2, pc⟩ ∧ (∀ W, M W → W6 W fb fo f1 ∧ W6 W fb (fo + 6) f2) ∧ FarP M t n f1 a ∧ FarP M u m f2 b := by
 obtain ⟨h1, h2, h3, h4, blk, off, g, k, h5, h6, h7, h8⟩ := h
 obtain ⟨z, c, gg, ra, rl, rc, rows, ca, cl, cc, cells, pa, pl, pc⟩ := f
 simp only [WF.pf, pC, PF.mk.injEq] at h1
 obtain ⟨rfl, rfl, rfl, rfl, rfl⟩ := h1
 dsimp only at h2 h3 h4 h5
 subst h2; subst h3; subst h4; subst h5
 exact ⟨ra, ca, rc, cc, pc, blk, off, g, k, rfl, h6, h7, h8⟩
theorem eitherR_ok {M : World → Prop} {S : PS} {sf : SF} {f g : WF} {x y : PX} {w : World} (hM : KeepsB M) (hs : SIs w S sf) (hok : S.ok) (hw : M w) (hx : FarX M S f x) (hy : FarX M S g y) : Calls Try.prog 75 #[sf.val, f.val, g.val] w (MRet M S (combX S x y) w) := by
 cases S <;> cases x <;> cases y <;> first | exact hx.elim | exact hy.elim | skip
 ·obtain ⟨a, c, rfl⟩ := hs
  exact eitherR_plain M _ _ _ _ _ _ _ _ _ hok hw hx hy
 ·obtain ⟨b, off, c, a1, c1, a2, c2, rfl, h1, h2⟩ := hs
  obtain ⟨ra, ca, rc, cc, pc, fb, fo, f1, f2, rfl, h6, h8, h9⟩ := hx.two
  obtain ⟨ra', ca', rc', cc', pc', gb, go, g1, g2, rfl, h6', h8', h9'⟩ := hy.two
  exact eitherR_pair M hM _ _ _ _ _ _ _ _ _ _ _ _ h1 h2 hok.1 hok.2 _ _ _ _ _ _ _ _ _ _ _ (h6 w hw).1 (h6 w hw).2 h8 h9 _ _ _ _ _ _ _ _ _ _ _ (h6' w hw).1 (h6' w hw).2 h8' h9' hw
end Go.Proofs.Ytpkcaabbcoiiiaa
namespace Go.Proofs.Ytpkcaabbcoiiiaa
open Go Go.RowKit
def MK (M : World → Prop) (K : List (Nat × World)) (W : World) : Prop := M W ∧ ∀ q ∈ K, Agree q.1 q.2 W
theorem MK.keep {M : World → Prop} {W W' : World} {K : List (Nat × World)} (h : MK M K W) (hM : KeepsB M) (hb : Below W.heap.size W W') : MK M K W' := ⟨hM _ _ h.1 hb, fun q hq => (h.2 q hq).trans (below_agree hb _)⟩
theorem keepsB_MK {M : World → Prop} (hM : KeepsB M) (K : List (Nat × World)) : KeepsB (MK M K) := fun W W' h hb => h.keep hM hb
theorem St.stays {M : World → Prop} {w0 W : World} {O : Own} {G : Grows} {K : List (Nat × World)} (h : St w0 O G K W) (hM : KeepsB M) (hw : M w0) : MK M K W := ⟨hM _ _ hw h.below, fun q hq => (h.kept q hq).1⟩
def XLF (M : World → Prop) (S : PS) (fs : List WF) (xs : List PX) : Prop := fs.length = xs.length ∧ ∀ (i : Nat) f x, fs[i]? = some f → xs[i]? = some x → FarX M S f x
theorem XLF.at_ {M : World → Prop} {S : PS} {fs : List WF} {xs : List PX} (h : XLF M S fs xs) {k : Nat} (hk : k < fs.length) : ∃ f x, fs[k]? = some f ∧ xs[k]? = some x ∧ FarX M S f x :=
 ⟨fs[k], xs[k]'(by have := h.1; omega), by simp [hk], by have := h.1; simp [show k < xs.length by omega], h.2 k _ _ (by simp [hk]) (by have := h.1; simp [show k < xs.length by omega])⟩
theorem keepsB_below (w : World) : KeepsB (fun W => Below w.heap.size w W) := fun W W' h hb => h.trans (hb.mono h.size)
theorem win_one {w : World} {t n : Int} {f : WF} {x : PF} (hx : PIs w t n f x) (d : Nat) : WIn w (d + 1) (.mk f []) := ⟨hx.at_, hx.pl.symm, .inl rfl, by simp⟩
end Go.Proofs.Ytpkcaabbcoiiiaa
namespace Go.Proofs.Ytpkcaabbcoiiiaa
open Go Go.RowKit
abbrev MB (w0 : World) (Kk : List (Nat × World)) : World → Prop := MK (fun W => Below w0.heap.size w0 W) Kk
theorem MB.of {w0 W : World} {O : Own} {G : Grows} {K Kk : List (Nat × World)} (h : St w0 O G K W) (hk : ∀ q ∈ Kk, q ∈ K) : MB w0 Kk W := ⟨h.below, fun q hq => (h.kept q (hk q hq)).1⟩
theorem MB.st {w0 W : World} {K : List (Nat × World)} (h : MB w0 K W) : St w0 [] [] K W := ⟨h.1, (fun p h => by cases h), List.Pairwise.nil, (fun q hq => ⟨h.2 q hq, fun p hp => by cases hp⟩), (fun q h => by cases h), List.Pairwise.nil⟩
theorem agree_lo {lo lo' : Nat} {A W : World} (h : Agree lo A W) (hl : lo ≤ lo') : Agree lo' A W := ⟨h.1, fun k h1 h2 => h.2 k (Nat.le_trans hl h1) h2⟩
theorem w6_atL {w : World} {B : Nat} {f : WF} {o : Nat} (h : CellsAt w B o f.six) : W6 w B o f := ⟨h.1, h.2.1, h.2.2.1, h.2.2.2.1, h.2.2.2.2.1, h.2.2.2.2.2.1⟩
section
variable {P : Program} {d td : Nat} {ty : TypeId} {pos : String}
end
theorem osY_at0 {O : Own} {j jx B : Nat} {cs : List Value} {U : TypeId} {ev : Option Value} {p : Nat × List Value × TypeId} (he : ev = none) (h : O[j]? = some p) : (osY O j jx B cs U ev)[j]? = some p := by
 subst he; exact h
theorem xb_lt {O : Own} {j jx B lo hi : Nat} {cs : List Value} {U : TypeId} {y : Value} (h : ∀ p ∈ O, p.1 < lo) (hB : B < lo) : ∀ b, lo ≤ b → b < hi → ¬ XB (osY O j jx B cs U (some y)) (gsNo [] (some y)) b := by
 rintro b h1 _ (⟨p, hp, rfl⟩ | ⟨g, hg, _⟩)
 ·rcases List.mem_or_eq_of_mem_set (show p ∈ O.set j (B, splice cs jx y.cells.toList, U) from hp) with hp | rfl
  ·exact absurd (h p hp) (Nat.not_lt_of_le h1)
  ·exact absurd hB (Nat.not_lt_of_le h1)
 ·cases hg
theorem far_after {w0 W' : World} {Ks Kk : List (Nat × World)} {lo : Nat} {X : Nat → Prop} {S : PS} {f : WF} {z : PX} (hcov : ∀ {O2 : Own} {G2 : Grows} {K2 : List (Nat × World)} {W2 : World}, St w0 O2 G2 K2 W2 → (∀ q ∈ Ks, q ∈ K2) → SameX lo X W' W2) (hX : ∀ b, lo ≤ b → b < W'.heap.size → ¬ X b) (h : FarX (fun W => MB w0 Kk W ∧ Agree lo W' W) S f z) : FarX (MB w0 (Ks ++ Kk)) S f z :=
 h.mono fun W hW => by
  have hs := hcov (MB.st hW) (fun q hq => List.mem_append_left _ hq)
  exact ⟨⟨hW.1, fun q hq => hW.2 q (List.mem_append_right _ hq)⟩, hs.2.1, fun b h1 h2 => hs.2.2 b h1 h2 (hX b h1 h2)⟩
end Go.Proofs.Ytpkcaabbcoiiiaa
namespace Go.Proofs.Ytpkcaabbcoiiiaa
open Go Go.RowKit
def isAuP (lo : Nat) (S : PS) (st sy : Int) : Asr := fun v w => ∃ sq : SF, v = .agg #[.int .i64 sq.tag, .int .i64 sq.dim, .slice sq.a sq.len sq.cap, .int .i64 st, .int .i64 sy, .slice none 0 0, .slice none 0 0] ∧ ∀ W2, Agree lo w W2 → SIs W2 S sq
theorem sf_inj9 {a b : SF} (h : a.val = b.val) : a = b := by
 obtain ⟨t, n, c, l, d⟩ := a
 obtain ⟨t2, n2, c2, l2, d2⟩ := b
 simp [SF.val] at h
 obtain ⟨rfl, rfl, rfl, rfl, rfl⟩ := h
 rfl
theorem bldAu9 (sq : SF) (st sy : Int) : Try.prog.built 60 [(0, sq.val), (1, .int .i64 st), (2, .int .i64 sy)] = some #[.int .i64 sq.tag, .int .i64 sq.dim, .slice sq.a sq.len sq.cap, .int .i64 st, .int .i64 sy, .slice none 0 0, .slice none 0 0] := by kernel_rfl
theorem bld_auS {d j1 j2 j3 t1 t2 t3 lo : Nat} {ty : TypeId} {pos : String} {S : PS} {st sy : Int} : ∀ (ev : Operand → Value) (w : World), DepsH [(j1, t1, isSpN lo S), (j2, t2, isV (.int .i64 st)), (j3, t3, isV (.int .i64 sy))] ev w →
  ∃ v, (execOp ev ⟨some d, .build 60 #[(0, .tmp t1), (1, .tmp t2), (2, .tmp t3)], ty, pos, #[], none⟩).run Try.prog w = .ok (.value v) w ∧ ∀ w2, DepsH [(j1, t1, isSpN lo S), (j2, t2, isV (.int .i64 st)), (j3, t3, isV (.int .i64 sy))] ev w2 → isAuP lo S st sy v w2 := fun ev w ⟨⟨sq, h1, h4⟩, h2, h3, _⟩ => by
 have e1 : ev (.tmp t1) = _ := h1
 have e2 : ev (.tmp t2) = _ := h2
 have e3 : ev (.tmp t3) = _ := h3
 refine ⟨_, ?_, fun w2 ⟨⟨sq2, k1, k4⟩, _, _, _⟩ => ⟨sq, rfl, ?_⟩⟩
 ·have hr := run_build w 60 #[(0, sq.val), (1, .int .i64 st), (2, .int .i64 sy)] _ (P := Try.prog) (bldAu9 sq st sy)
  unfold execOp
  simp only [List.map_toArray, List.map_cons, List.map_nil, e1, e2, e3]
  simp [hr]
 ·have k1' : ev (.tmp t1) = _ := k1
  rw [e1] at k1'
  have e9 : sq = sq2 := sf_inj9 k1'
  rw [e9]; exact k4
theorem isAuP_sq {lo : Nat} {S : PS} {st sy : Int} {sq : SF} {W : World} (h : isAuP lo S st sy (.agg #[.int .i64 sq.tag, .int .i64 sq.dim, .slice sq.a sq.len sq.cap, .int .i64 st, .int .i64 sy, .slice none 0 0, .slice none 0 0]) W) : SIs W S sq := by
 obtain ⟨sq2, e, h4⟩ := h
 have e9 : sq = sq2 := by
  obtain ⟨t, n, a, l, c⟩ := sq
  obtain ⟨t2, n2, a2, l2, c2⟩ := sq2
  simp at e
  obtain ⟨rfl, rfl, rfl, rfl, rfl⟩ := e
  rfl
 rw [e9]; exact h4 W ⟨Nat.le_refl _, fun _ _ _ => rfl⟩
structure T9 where
 f : Int
 g : Int
 t : Int
 x : WF
abbrev T9.nine (r : T9) : List Value := nineP r.f r.g r.t r.x
abbrev T9.pl (r : T9) : Int × Int × Int := (r.f, r.g, r.t)
def atF (st p : Int) : Nat → Int
 | 0 => p
 | k + 1 => st + (k : Int)
def chL (st p : Int) (ws : List Int) (k : Nat) : List (Int × Int × Int) := (List.range k).map (fun j => (atF st p j, ws.getD j 0, st + (j : Int)))
theorem chL_succ (st p : Int) (ws : List Int) (k : Nat) : chL st p ws (k + 1) = chL st p ws k ++ [(atF st p k, ws.getD k 0, st + (k : Int))] := by
 unfold chL; rw [List.range_succ, List.map_append]; rfl
theorem chL_len (st p : Int) (ws : List Int) (k : Nat) : (chL st p ws k).length = k := by simp [chL]
def qoneE (p : PV) (c : CV) : Int := if stepE p c ≠ 0 then stepE p c else if 4096 < p.st + (c.wl : Int) then 3 else 0
def QOne (S : PS) (p : PV) (c : CV) (w : World) (e : Ending) (w' : World) : Prop := Below w.heap.size w w' ∧
 ((qoneE p c ≠ 0 ∧ e = .returned (.tuple #[.agg #[.int .i64 0, .int .i64 0, .slice none 0 0, .int .i64 0, .int .i64 0, .slice none 0 0, .slice none 0 0], .int .i64 (qoneE p c)])) ∨
  (qoneE p c = 0 ∧ ∃ (sq : SF) (B : Nat) (ta : Option Addr) (tc : Nat) (ns : List T9), e = .returned (.tuple #[.agg #[.int .i64 sq.tag, .int .i64 sq.dim, .slice sq.a sq.len sq.cap, .int .i64 (p.st + (c.wl : Int)), .int .i64 p.sy, .slice (some ⟨B, 0, none⟩) 1 1, .slice ta ns.length tc], .int .i64 0]) ∧
   w.heap.size ≤ B ∧ SIs w' S sq ∧ Row w' (some ⟨B, 0, none⟩) [atF p.st c.p c.wl] ∧ ns.map T9.pl = chL p.st c.p c.ws c.wl ∧ w'.ownsRow w.heap.size 100 9 (.slice ta ns.length tc) ns.length (ns.flatMap T9.nine) ∧ ∀ r ∈ ns, XIs w' S r.x (oneX S)))
theorem qone_bad {S : PS} {p : PV} {c : CV} {w w' : World} {E : Int} (hE : qoneE p c = E) (hn : E ≠ 0) (hb : Below w.heap.size w w') : QOne S p c w (.returned (.tuple #[.agg #[.int .i64 0, .int .i64 0, .slice none 0 0, .int .i64 0, .int .i64 0, .slice none 0 0, .slice none 0 0], .int .i64 E])) w' := by
 subst hE; exact ⟨hb, .inl ⟨hn, rfl⟩⟩
end Go.Proofs.Ytpkcaabbcoiiiaa
namespace Go.Proofs.Ytpkcaabbcoiiiaa
open Go Go.RowKit
theorem bld_106_0 (v00 : Value) (v01 : Value) (v02 : Value) (v03 : Value) (v04 : Value) (v05 : Value) (v06 : Value) (v07 : Value) (v08 : Value) : Try.prog.built 106 [(0, .agg #[v00, v01, v02, v03, v04, v05, v06, v07, v08])] = some #[v00, v01, v02, v03, v04, v05, v06, v07, v08, .int .i64 0, .int .i64 0, .slice none 0 0, .int .i64 0, .int .i64 0, .slice none 0 0, .slice none 0 0] := by kernel_rfl
theorem bld_60 : Try.prog.built 60 [] = some #[.int .i64 0, .int .i64 0, .slice none 0 0, .int .i64 0, .int .i64 0, .slice none 0 0, .slice none 0 0] := by kernel_rfl
theorem goes_46 : goesIn Try.prog 46 = true := by kernel_rfl
theorem goes_47 : goesIn Try.prog 47 = true := by kernel_rfl
theorem newMaker_is (S : PS) (p : PV) (Ot : Own) (G : Grows) (K : List (Nat × World)) (w0 : World) (w : World) (hS0 : St w0 Ot G K w) (hsi : SIs w0 S p.s.f) (hok : S.ok) :
  Calls Try.prog 46 #[p.val] w (fun e w' => ∃ (B : Nat) (f0 : WF) (sq : SF) (Kn : List (Nat × World)), e = .returned (.pointer (some ⟨B, 0, none⟩)) ∧ (∀ q ∈ K, q ∈ Kn) ∧ Held w0 Kn (fun W2 => SIs W2 S sq) ∧ St w0 ((B, mkC p.s.f f0 sq p.st p.sy (.slice none 0 0) (.slice none 0 0), 106) :: Ot) G Kn w') := by
 refine enterF (args := [p.val]) Try.func46 rfl Try.ntmps46 rfl ?_
 have hS := hS0
 refine seqF (regF ?_)
 refine op_box (cs := [_, _, _, _, _, _]) hS rfl rfl rfl ?_
 clear hS; intro B1 W1 hS
 refine op_assign rfl rfl ?_
 refine endF (XF.thenN ?_)
 refine seqF (regF ?_)
 refine op_field (o' := 0) fa_28_0 rfl rfl rfl ?_
 refine op_loadA (vs := [_, _, _]) Try.isAgg25 Try.sizeOf25 rfl (CellsAt.own (j := 0) (m := 3) (hS.at_ 0 rfl) rfl) rfl ?_
 refine op_call (vs := [_]) hS goes_31 rfl (ringOf_is S p.s.f _ (hsi.below hS.below) hok) rfl ?_
 rintro e W2 ⟨f0, rfl, _, hb⟩
 refine ⟨_, rfl, hb, fun hS' => ?_⟩
 clear hS; have hS := hS'; clear hS' hb
 refine op_build (us := [(0, .agg (List.toArray [_, _, _, _, _, _, _, _, _]))]) rfl (bld_106_0 _ _ _ _ _ _ _ _ _) rfl ?_
 refine op_box (cs := [_, _, _, _, _, _, _, _, _, _, _, _, _, _, _, _]) hS rfl rfl rfl ?_
 clear hS; intro B3 W3 hS
 refine op_assign rfl rfl ?_
 refine endF (XF.thenN ?_)
 refine seqF ?_
 refine regSL (ef := 11) (jy := 8) (ca := caNo (fun _ => [])) (ta := fun _ => 0) (Os := osY _ 0 9 B3 (mkC p.s.f f0 ⟨0, 0, none, 0, 0⟩ 0 0 (.slice none 0 0) (.slice none 0 0)) 106) (Gs := gsNo _) (al := []) (k := 12) (ds := []) followsM rfl hS rfl (by kernel_rfl) rfl (by decide) rfl rfl rfl rfl ?_
 refine bls_cons 1 rfl rfl (isV _) (fun hNo => sgV [(3, _)] rfl rfl rfl rfl hNo (w_free rfl) ⟨g_fr (by kernel_rfl) rfl, trivial⟩ (fun ev w he hw => rn_move rfl) (at_top rfl)) ?_
 refine bls_cons 2 rfl rfl (isV _) (fun hNo => sgV [(1, _)] rfl rfl rfl rfl hNo (w_free rfl) ⟨g_fr (by kernel_rfl) rfl, trivial⟩ (fun ev w he hw => rn_field (o' := 0) fa_28_0 rfl rfl) (at_top rfl)) ?_
 refine bls_cons 3 rfl rfl (isV _) (fun hNo => sgV [(10, _)] rfl rfl rfl rfl hNo (w_free rfl) ⟨g_dep 1 (by kernel_rfl) (at_dep rfl rfl rfl), trivial⟩ (fun ev w he hw => rn_loadA (vs := [_, _, _]) Try.isAgg25 Try.sizeOf25 rfl ((CellsAt.own (j := 0) (m := 3) (hw.at_ 1 (osY_at (i := 1) (j := 0) rfl rfl)) rfl))) (at_top rfl)) ?_
 refine bls_cons 4 rfl rfl (isSpN W3.heap.size S) (fun hNo => sg_call [isV _] rfl rfl rfl rfl hNo goes_32 (w_free rfl) ⟨p_tmp (g_dep 2 (by kernel_rfl) (at_dep rfl rfl rfl)), trivial⟩ (fun vs ev w' he hSt hlo hh => by have e := holds_isV (us := [_]) hh; subst e; exact copySp_is S p.s.f w' (hsi.below hSt.below) hlo) (at_top rfl)) ?_
 refine bls_cons 5 rfl rfl (isV _) (fun hNo => sgV [(1, _)] rfl rfl rfl rfl hNo (w_free rfl) ⟨g_fr (by kernel_rfl) rfl, trivial⟩ (fun ev w he hw => rn_field (o' := 3) fa_28_1 rfl rfl) (at_top rfl)) ?_
 refine bls_cons 6 rfl rfl (isV _) (fun hNo => sgV [(13, _)] rfl rfl rfl rfl hNo (w_free rfl) ⟨g_dep 4 (by kernel_rfl) (at_dep rfl rfl rfl), trivial⟩ (fun ev w he hw => rn_load Try.isAgg3 rfl ((cell_own (hw.at_ 1 (osY_at (i := 1) (j := 0) rfl rfl)) rfl))) (at_top rfl)) ?_
 refine bls_cons 7 rfl rfl (isV _) (fun hNo => sgV [(1, _)] rfl rfl rfl rfl hNo (w_free rfl) ⟨g_fr (by kernel_rfl) rfl, trivial⟩ (fun ev w he hw => rn_field (o' := 4) fa_28_2 rfl rfl) (at_top rfl)) ?_
 refine bls_cons 8 rfl rfl (isV _) (fun hNo => sgV [(15, _)] rfl rfl rfl rfl hNo (w_free rfl) ⟨g_dep 6 (by kernel_rfl) (at_dep rfl rfl rfl), trivial⟩ (fun ev w he hw => rn_load Try.isAgg3 rfl ((cell_own (hw.at_ 1 (osY_at (i := 1) (j := 0) rfl rfl)) rfl))) (at_top rfl)) ?_
 refine bls_cons 9 rfl rfl (isAuP W3.heap.size S p.st p.sy) (fun hNo => sg_ofs [(3, 12, isSpN W3.heap.size S), (5, 14, isV _), (7, 16, isV _)] rfl rfl rfl rfl hNo ⟨⟨by kernel_rfl, at_dep rfl rfl rfl⟩, ⟨by kernel_rfl, at_dep rfl rfl rfl⟩, ⟨by kernel_rfl, at_dep rfl rfl rfl⟩, trivial⟩ (by kernel_rfl) bld_auS (at_top rfl)) ?_
 refine bls_cons 10 rfl rfl (isV _) (fun hNo => sgV [(9, _)] rfl rfl rfl rfl hNo (w_free rfl) ⟨g_dep 0 (by kernel_rfl) (at_dep rfl rfl rfl), trivial⟩ (fun ev w he hw => rn_nilCheck rfl) (at_top rfl)) ?_
 refine bls_cons 11 rfl rfl (isV _) (fun hNo => sgV [(18, _)] rfl rfl rfl rfl hNo (w_free rfl) ⟨g_dep 9 (by kernel_rfl) (at_dep rfl rfl rfl), trivial⟩ (fun ev w he hw => rn_field (o' := 9) fa_106_1 rfl rfl) (at_top rfl)) ?_
 refine bls_any 12 rfl (eff_stP (py := isAuP W3.heap.size S p.st p.sy) (m := 7) 0 9 [(19, _)] rfl rfl rfl rfl (by kernel_rfl) rfl rfl (fun j hj => by rcases hj with h | rfl <;> first | (cases h <;> rfl) | rfl) ⟨g_dep 10 (by kernel_rfl) (at_dep rfl rfl rfl), trivial⟩ rfl rfl Try.sizeOf60 (fun v w ⟨sq, e, _⟩ => by subst e; exact ⟨[.int .i64 sq.tag, .int .i64 sq.dim, .slice sq.a sq.len sq.cap, .int .i64 p.st, .int .i64 p.sy, .slice none 0 0, .slice none 0 0], rfl, rfl, rfl⟩) rfl) ?_
 refine bls_nil ?_
 intro Bf4 y4 W4 Ks4 hsz4 hKs4 hS' hcov4
 clear hS; have hS := hS'.castO (O' := (_ :: _ :: Ot)) rfl; clear hS'
 refine castL (L' := [AwS _ _ (isV _), AwS _ _ (isV _), AwS _ _ (isV _), AwS _ _ (isSpN W3.heap.size S), AwS _ _ (isV _), AwS _ _ (isV _), AwS _ _ (isV _), AwS _ _ (isV _), (fun v w => v = _ ∧ AwS _ _ (isAuP W3.heap.size S p.st p.sy) v w), AwS _ _ (isV _), AwS _ _ (isV _), isV _]) rfl ?_
 iterate 3 refine fin_sV ?_
 refine fin_p ?_; intro _ _
 iterate 4 refine fin_sV ?_
 refine fin_p ?_; rintro _ ⟨rfl, hA4⟩
 obtain ⟨sq, rfl, _⟩ := hA4.here
 have HSp : Held w0 Ks4 (fun W2 => SIs W2 S sq) := fun h2 hk => isAuP_sq (hA4 _ (hcov4 h2 hk))
 iterate 2 refine fin_sV ?_
 refine fin_0 ?_
 refine fin_nil ?_
 refine endF (XF.thenN ?_)
 refine seqF (regF ?_)
 refine op_move rfl rfl ?_
 refine op_assign rfl rfl ?_
 refine endF (XF.thenN ?_)
 refine retF ?_
 refine XF.res (res1 Try.results46 rfl) ?_
 exact ⟨_, f0, sq, _, rfl, fun q hq => by simp [hq], HSp.more (fun q hq => by simp [hq]), (hS.perm (List.Perm.swap _ _ _)).tail⟩
theorem queryOne_c (ds d : Nat) (p : PV) (cp : Int) (wa : Option Addr) (wl wc : Nat) (ws : List Int) (w : World) (hp : PvIn w ds d p) (hrow : Row w wa ws) (hlen : ws.length = wl) (hwm : wl ≤ 9223372036854775807) (S : PS) (px : RV → PX) (hpx : pdsE p = 0 → PdsOk w S px p) :
  Calls Try.prog 18 #[p.val, .agg #[.int .i64 cp, .slice wa wl wc]] w (QOne S p ⟨cp, wa, wl, wc, ws⟩ w) := by
 refine enterF (args := [p.val, .agg #[.int .i64 cp, .slice wa wl wc]]) Try.func18 rfl Try.ntmps18 rfl ?_
 have hS := St.start w
 refine seqF (regF ?_)
 refine op_box (cs := [_, _, _, _, _, _]) hS rfl rfl rfl ?_
 clear hS; intro B1 W1 hS
 refine op_box (cs := [_, _]) hS rfl rfl rfl ?_
 clear hS; intro B2 W2 hS
 refine op_alloc (cs := [_, _, _, _, _, _, _]) hS Try.zeroValue60 rfl rfl ?_
 clear hS; intro B3 W3 hS
 refine op_assign rfl rfl ?_
 refine endF (XF.thenN ?_)
 refine seqF ?_
 refine seqF (regF ?_)
 refine op_loadA (vs := [_, _, _, _, _, _]) Try.isAgg28 Try.sizeOf28 rfl (CellsAt.own (j := 0) (m := 6) (hS.at_ 2 rfl) rfl) rfl ?_
 refine op_loadA (vs := [_, _]) Try.isAgg49 Try.sizeOf49 rfl (CellsAt.own (j := 0) (m := 2) (hS.at_ 1 rfl) rfl) rfl ?_
 refine op_call (vs := [_, _]) hS goes_45 rfl (stepA_is ds d p ⟨cp, wa, wl, wc, ws⟩ _ (hp.below hS.below) ⟨hrow.below hS.below, hlen⟩) rfl ?_
 rintro e W4 ⟨rfl, hb⟩
 refine ⟨_, rfl, hb, fun hS' => ?_⟩
 clear hS; have hS := hS'; clear hS' hb
 refine op_assign rfl rfl ?_
 refine endF (XF.thenN ?_)
 refine seqF (regF ?_)
 refine op_move rfl rfl ?_
 refine op_neq rfl rfl rfl ?_
 refine endF (XF.thenN ?_)
 refine condF rfl (fun hc => ?_) (fun hc => ?_)
 ·have hc16 := of_decide_eq_true hc; clear hc
  refine seqF (regF ?_)
  refine op_build (us := []) rfl (bld_60) rfl ?_
  refine op_move rfl rfl ?_
  refine op_storeA (i := 0) (vs := [_, _, _, _, _, _, _]) (cs' := [_, _, _, _, _, _, _]) (O' := [_, _, _]) hS Try.sizeOf60 rfl rfl (by first | rfl | (have h0 := hS.oneV 0 _ rfl; simp only [List.all_cons, List.all_nil, Bool.and_true, Bool.and_eq_true]; exact ⟨rfl, rfl, rfl, rfl, rfl, rfl, h0⟩)) rfl rfl rfl rfl ?_
  clear hS; intro W5 hS
  refine op_assign rfl rfl ?_
  refine endF (XF.thenN ?_)
  refine retF ?_
  refine XF.thenR ?_
  refine XF.res (resCT (vs := [_, _, _, _, _, _, _]) Try.results18 Try.isAgg60 Try.sizeOf60 rfl (CellsAt.own (j := 0) (m := 7) (hS.at_ 0 rfl) rfl) rfl) ?_
  exact qone_bad (by unfold qoneE; rw [if_pos hc16]) hc16 hS.below
 ·have hc16 := of_decide_eq_false hc; clear hc
  have h0 : ¬ stepE p ⟨cp, wa, wl, wc, ws⟩ ≠ 0 := hc16
  have hE : pdsE p = 0 := by
   by_cases h9 : pdsE p = 0
   ·exact h9
   ·exfalso; apply h0; unfold stepE; rw [if_pos h9]; exact h9
  have hok := hpx hE
  have hst : 0 ≤ p.st ∧ p.st ≤ 4096 := hok.st
  have hw4 : wl ≤ 4096 := by
   have h9 : stepE p ⟨cp, wa, wl, wc, ws⟩ = 0 := Decidable.of_not_not h0
   unfold stepE confB at h9
   rw [if_neg (fun h => h hE)] at h9
   split at h9
   ·rename_i h8
    simp only [Bool.and_eq_true, decide_eq_true_eq] at h8
    exact h8.2.1
   ·cases h9
  refine skipF ?_
  refine XF.thenN ?_
  refine seqF ?_
  refine seqF (regF ?_)
  refine op_field (o' := 3) fa_28_1 rfl rfl rfl ?_
  refine op_load Try.isAgg3 rfl (cell_own (hS.at_ 2 rfl) rfl) rfl ?_
  refine op_field (o' := 1) fa_49_1 rfl rfl rfl ?_
  refine op_load Try.isAgg29 rfl (cell_own (hS.at_ 1 rfl) rfl) rfl ?_
  refine op_len Try.underlying29 rfl rfl ?_
  refine op_add rfl rfl (IntWalk.i64_in _ (by omega)) rfl ?_
  refine op_gtr rfl rfl rfl ?_
  refine endF (XF.thenN ?_)
  refine condF rfl (fun hc => ?_) (fun hc => ?_)
  ·have hc25 := of_decide_eq_true hc; clear hc
   refine seqF (regF ?_)
   refine op_build (us := []) rfl (bld_60) rfl ?_
   refine op_storeA (i := 0) (vs := [_, _, _, _, _, _, _]) (cs' := [_, _, _, _, _, _, _]) (O' := [_, _, _]) hS Try.sizeOf60 rfl rfl (by first | rfl | (have h0 := hS.oneV 0 _ rfl; simp only [List.all_cons, List.all_nil, Bool.and_true, Bool.and_eq_true]; exact ⟨rfl, rfl, rfl, rfl, rfl, rfl, h0⟩)) rfl rfl rfl rfl ?_
   clear hS; intro W6 hS
   refine op_assign rfl rfl ?_
   refine endF (XF.thenN ?_)
   refine retF ?_
   refine XF.thenR ?_
   refine XF.res (resCT (vs := [_, _, _, _, _, _, _]) Try.results18 Try.isAgg60 Try.sizeOf60 rfl (CellsAt.own (j := 0) (m := 7) (hS.at_ 0 rfl) rfl) rfl) ?_
   exact qone_bad (by unfold qoneE; rw [if_neg h0, if_pos (by dsimp only; omega)]) (by decide) hS.below
  ·have hc25 := of_decide_eq_false hc; clear hc
   have h1 : p.st + (wl : Int) ≤ 4096 := by omega
   have hoE : qoneE p ⟨cp, wa, wl, wc, ws⟩ = 0 := by unfold qoneE; rw [if_neg h0, if_neg (by dsimp only; omega)]
   refine skipF ?_
   refine XF.thenN ?_
   refine seqF (regF ?_)
   refine op_loadA (vs := [_, _, _, _, _, _]) Try.isAgg28 Try.sizeOf28 rfl (CellsAt.own (j := 0) (m := 6) (hS.at_ 2 rfl) rfl) rfl ?_
   refine op_callX (vs := [_]) goes_46 rfl (newMaker_is S p _ _ _ w _ hS hok.si hok.ok) rfl ?_
   rintro e W9 ⟨Bm, f0, sq, Kn, rfl, hsub, HSp, hS9⟩
   refine ⟨_, rfl, ?_⟩
   clear hS; have hS := hS9; clear hS9
   refine op_assign rfl rfl ?_
   refine endF (XF.thenN ?_)
   refine seqF (regF ?_)
   refine op_field (o' := 0) fa_49_0 rfl rfl rfl ?_
   refine op_load Try.isAgg3 rfl (cell_own (hS.at_ 2 rfl) rfl) rfl ?_
   refine op_assign rfl rfl ?_
   refine endF (XF.thenN ?_)
   iterate 2 refine seqF ?_
   have hS := hS.newG 100 9
   refine regF ?_
   refine op_field (o' := 1) fa_49_1 rfl rfl rfl ?_
   refine op_load Try.isAgg29 rfl (cell_own (hS.at_ 2 rfl) rfl) rfl ?_
   refine op_len Try.underlying29 rfl rfl ?_
   refine op_move rfl rfl ?_
   refine endF (XF.thenN ?_)
   refine blockF ?_
   refine loopF (fun m l W => ∃ (i : Nat) (u : Value) (Kk : List (Nat × World)) (ns : List T9), i ≤ wl ∧ m = wl - i ∧ l = [(2, .pointer (some ⟨B1, 0, none⟩)), (3, .pointer (some ⟨B2, 0, none⟩)), (4, .pointer (some ⟨B3, 0, none⟩)), (7, .pointer (some ⟨Bm, 0, none⟩)), (8, .int .i64 (atF p.st cp i)), (32, .slice wa wl wc), (33, .int .i64 (wl : Int)), (34, .int .i64 (i : Int))] ∧ ns.map T9.pl = chL p.st cp ws i ∧ Held w Kk (fun W2 => SIs W2 S sq ∧ ∀ r ∈ ns, XIs W2 S r.x (oneX S)) ∧ St w ((Bm, mkC p.s.f f0 sq (p.st + (i : Int)) p.sy (.slice none 0 0) u, 106) :: [(B3, [.int .i64 0, .int .i64 0, .slice none 0 0, .int .i64 0, .int .i64 0, .slice none 0 0, .slice none 0 0], 60), (B2, [.int .i64 cp, .slice wa wl wc], 49), (B1, p.six, 28)]) [⟨u, ns.length, ns.flatMap T9.nine, 100, 9⟩] Kk W) (wl - 0) ([(2, _), (3, _), (4, _), (7, _), (8, _), (32, _), (33, _), (34, _)]) ⟨rfl, rfl, rfl, rfl, rfl, rfl, rfl, rfl, trivial⟩ (⟨0, _, _, [], Nat.zero_le _, rfl, rfl, rfl, (fun h2 hk => ⟨HSp h2 hk, fun r hr => by cases hr⟩), hS.castO (by simp)⟩) ?_
   clear hS
   rintro m l W ⟨i, u, Kk, ns, hi, rfl, rfl, hns, HN, hS⟩
   refine seqF (regF ?_)
   refine op_lss rfl rfl rfl ?_
   refine endF (XF.thenN ?_)
   refine seqF ?_
   refine condF rfl (fun hc => ?_) (fun hc => ?_)
   ·have hc35 := of_decide_eq_true hc; clear hc
    have hk : i < wl := by omega
    obtain ⟨b, off, y, rfl, hy, hyc⟩ := hrow.at1 (show i < ws.length by omega)
    have k1 := hS.old hyc
    have hnl : ns.length = i := by have h9 := congrArg List.length hns; rw [List.length_map, chL_len] at h9; exact h9
    refine skipF ?_
    refine XF.thenN ?_
    refine seqF ?_
    refine blockF ?_
    refine seqF (regF ?_)
    refine op_indexA  Try.underlying29 Try.sizeOf3 rfl rfl rfl (by omega) rfl rfl ?_
    refine op_load Try.isAgg3 rfl (k1) rfl ?_
    refine op_assign rfl rfl ?_
    refine endF (XF.thenN ?_)
    refine seqF (regF ?_)
    refine op_move rfl rfl ?_
    refine op_nilCheck rfl rfl ?_
    refine op_field (o' := 9) fa_106_1 rfl rfl rfl ?_
    refine op_field (o' := 12) fa_60_1 rfl rfl rfl ?_
    refine op_load Try.isAgg3 rfl (cell_own (hS.at_ 0 rfl) rfl) rfl ?_
    refine op_assign rfl rfl ?_
    refine endF (XF.thenN ?_)
    refine seqF (regF ?_)
    refine op_move rfl rfl ?_
    refine op_nilCheck rfl rfl ?_
    refine op_field (o' := 9) fa_106_1 rfl rfl rfl ?_
    refine op_field (o' := 12) fa_60_1 rfl rfl rfl ?_
    refine op_load Try.isAgg3 rfl (cell_own (hS.at_ 0 rfl) rfl) rfl ?_
    refine op_add rfl rfl (IntWalk.i64_in _ (by omega)) rfl ?_
    refine op_nilCheck rfl rfl ?_
    refine op_field (o' := 9) fa_106_1 rfl rfl rfl ?_
    refine op_field (o' := 12) fa_60_1 rfl rfl rfl ?_
    refine op_store (i := 0) (cs' := [_, _, _, _, _, _, _, _, _, _, _, _, _, _, _, _]) (O' := [_, _, _, _]) hS Try.sizeOf3 rfl rfl (by first | rfl | exact (hS.oneV 0 _ rfl :) | exact (hS.oneV 1 _ rfl :) | exact (hS.oneV 2 _ rfl :) | exact (hS.oneV 3 _ rfl :)) rfl rfl rfl rfl ?_
    clear hS; intro W7 hS
    refine endF (XF.thenN ?_)
    refine seqF (regF ?_)
    iterate 4 refine op_move rfl rfl ?_
    refine op_callX (vs := [_, _, _, _]) goes_47 rfl (qput_is S p.s.f f0 sq _ p.sy _ u ns.length (ns.flatMap T9.nine) Bm _ _ w _ _ _ _ hS (by omega) hok.si hok.ok) rfl ?_
    rintro e W9 ⟨u9, f9, Kn9, rfl, hsub9, HX9, hS9⟩
    refine ⟨_, rfl, ?_⟩
    clear hS; have hS := hS9; clear hS9
    refine endF (XF.thenN ?_)
    refine regF ?_
    refine op_move rfl rfl ?_
    refine op_assign rfl rfl ?_
    refine endF ?_
    refine XF.blkN ?_
    refine XF.thenN ?_
    refine regF ?_
    refine op_add rfl rfl (IntWalk.i64_in _ (by omega)) rfl ?_
    refine op_move rfl rfl ?_
    refine endF ?_
    exact XF.round (wl - (i + 1)) [(2, _), (3, _), (4, _), (7, _), (8, _), (32, _), (33, _), (34, _)] (by omega) ⟨rfl, rfl, rfl, rfl, rfl, rfl, rfl, rfl, trivial⟩ ⟨i + 1, u9, Kn9, ns ++ [⟨atF p.st cp i, y, p.st + (i : Int), f9⟩], by omega, rfl, rfl, by rw [List.map_append, hns, chL_succ, getD_at hy]; rfl, (fun h2 hk => ⟨(HN h2 (fun q hq => hk q (hsub9 q hq))).1, fun r hr => by
      rcases List.mem_append.1 hr with hr | hr
      ·exact (HN h2 (fun q hq => hk q (hsub9 q hq))).2 r hr
      ·rw [List.mem_singleton.1 hr]; exact HX9 h2 hk⟩), (hS.castO (by simp [Int.add_assoc])).castG (by simp)⟩
   ·have hc35 := of_decide_eq_false hc; clear hc
    have hil : i = wl := by omega
    subst hil
    refine exitF ?_
    iterate 2 refine XF.thenX ?_
    refine XF.blkX ?_
    refine XF.thenN ?_
    refine seqF (regF ?_)
    iterate 2 refine op_move rfl rfl ?_
    refine op_buildSlice (us := [(0, .int .i64 _)]) hS Try.underlying29 Try.sizeOf3 Try.zeroValue3 rfl rfl rfl (bs_29_1 _) rfl ?_
    clear hS; intro B8 W8 hS
    refine op_nilCheck rfl rfl ?_
    refine op_field (o' := 9) fa_106_1 rfl rfl rfl ?_
    refine op_field (o' := 14) fa_60_3 rfl rfl rfl ?_
    refine op_store (i := 1) (cs' := [_, _, _, _, _, _, _, _, _, _, _, _, _, _, _, _]) (O' := [_, _, _, _, _]) hS Try.sizeOf29 rfl rfl (by first | rfl | exact (hS.oneV 0 _ rfl :) | exact (hS.oneV 1 _ rfl :) | exact (hS.oneV 2 _ rfl :) | exact (hS.oneV 3 _ rfl :)) rfl rfl rfl rfl ?_
    clear hS; intro W9 hS
    refine endF (XF.thenN ?_)
    refine seqF (regF ?_)
    refine op_move rfl rfl ?_
    refine op_nilCheck rfl rfl ?_
    refine op_field (o' := 9) fa_106_1 rfl rfl rfl ?_
    refine op_loadA (vs := [_, _, _, _, _, _, _]) Try.isAgg60 Try.sizeOf60 rfl (CellsAt.own (j := 9) (m := 7) (hS.at_ 1 rfl) rfl) rfl ?_
    refine op_storeA (i := 2) (vs := [_, _, _, _, _, _, _]) (cs' := [_, _, _, _, _, _, _]) (O' := [_, _, _, _, _]) hS Try.sizeOf60 rfl rfl (by first | rfl | (have h0 := hS.oneV 0 _ rfl; simp only [List.all_cons, List.all_nil, Bool.and_true, Bool.and_eq_true]; exact ⟨rfl, rfl, rfl, rfl, rfl, rfl, h0⟩)) rfl rfl rfl rfl ?_
    clear hS; intro W10 hS
    refine op_assign rfl rfl ?_
    refine endF (XF.thenN ?_)
    refine retF ?_
    refine XF.res (resCT (vs := [_, _, _, _, _, _, _]) Try.results18 Try.isAgg60 Try.sizeOf60 rfl (CellsAt.own (j := 0) (m := 7) (hS.at_ 2 rfl) rfl) rfl) ?_
    obtain ⟨a9, c9, rfl⟩ := hS.headSl
    exact ⟨hS.below, .inr ⟨hoE, sq, _, a9, c9, ns, rfl, (hS.own _ List.mem_cons_self).1, (HN.now (hS.keep Kk (fun q hq => by simp [hq]))).1, .inr ⟨_, 0, rfl, fun j hj => by
      cases j with
      | zero => have h9 := (hS.at_ 0 rfl); exact (CellsAt.own (j := 0) (m := 1) (vs := [_]) h9 rfl).1
      | succ j => simp at hj⟩, hns, hS.row 0 rfl, (HN.now (hS.keep Kk (fun q hq => by simp [hq]))).2⟩⟩
end Go.Proofs.Ytpkcaabbcoiiiaa
