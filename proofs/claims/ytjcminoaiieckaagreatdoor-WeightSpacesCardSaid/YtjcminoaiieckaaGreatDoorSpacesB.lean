import Derived.Lib.TrailingZeros
import Derived.Laws.OwnMore
import Derived.OwnWalk
import Derived.IntWalk
import Derived.Laws.Tables
import Derived.Laws.Concat
import Derived.Laws.MakeOwn
import Derived.Test.YtjcminoaiieckaaGreatDoorProg
import Derived.Test.YtjcminoaiieckaaGreatDoorRingA
import Derived.Test.YtjcminoaiieckaaGreatDoorRingB
import Derived.Test.YtjcminoaiieckaaGreatDoorRingC
import Derived.Test.YtjcminoaiieckaaGreatDoorRingD
import Derived.Test.YtjcminoaiieckaaGreatDoorSpacesA
set_option linter.unusedVariables false
set_option linter.unusedSimpArgs false
set_option linter.unusedSectionVars false
set_option linter.unnecessarySimpa false
namespace Go.Proofs.YtjcminoaiieckaaGreatDoor
open Go Go.RowKit
set_option linter.unusedVariables false
section
variable {P : Program} {n : Nat} {Q : Exit → Act → World → Prop} {l : Fr} {w0 W : World} {ops : Array Oper} {os : List Oper} {O : Own} {G : Grows} {K : List (Nat × World)} {L L2 : List Asr} {i : Nat}
theorem region_lastS {k : Nat} {dn : Nat → Bool} {t0 : Array Value} {d0 : List Deferred} {G : World → Prop} {I : Nat → Value → World → Prop} (hl : lastR ops k = true) (ht : tidyR ops t0.size = true) (hst : ∀ i v w w', G w → I i v w → Below w.heap.size w w' → I i v w')
    (hstep : ∀ i, i < k → dn i = false → RStep P ops Q t0 G I i) (hfin : RFin ops t0 d0 G I k (wpOp P ops Q k (Q .normal))) :
    ∀ (fuel : Nat) (L : Array Bool) (a : Act) (w : World), L.size = ops.size → L.getD k true = false → (∀ i, dn i = true → L.getD i false = true) → L.toList.count false ≤ fuel → RInv ops t0 d0 G I L a w → wpAny P .any ops Q fuel L a w := by
  simp only [lastR, Bool.and_eq_true, decide_eq_true_eq] at hl
  obtain ⟨hk, hl⟩ := hl
  have cnt : ∀ (L : Array Bool) i, L.getD i true = false → L.toList[i]? = some false := fun L i h1 => by
    rw [Array.getD_eq_getD_getElem?] at h1
    rw [Array.getElem?_toList]
    cases hL : L[i]? with
    | none => rw [hL] at h1; cases h1
    | some b => rw [hL] at h1; simpa using h1
  intro fuel
  induction fuel with
  | zero =>
    intro L a w hs hlk hlp hc h
    have := cnt_set _ _ (cnt L k hlk)
    omega
  | succ fuel ih =>
    intro L a w hs hlk hlp hc h
    refine ⟨fun hr => ?_, fun i hi => ?_⟩
    · rw [ready_nil ht hs hr k (by omega)] at hlk
      cases hlk
    · obtain ⟨h1, o, ho, hdep⟩ := mem_ready.1 hi
      have his : i < ops.size := (Array.getElem?_eq_some_iff.1 ho).1
      have hc1 := cnt_set _ _ (cnt L i h1)
      have hip : dn i = false := by
        cases hd : dn i with
        | false => rfl
        | true =>
          have h3 := hlp i hd
          have h2 := cnt L i h1
          rw [Array.getElem?_toList] at h2
          rw [Array.getD_eq_getD_getElem?, h2] at h3
          cases h3
      by_cases hik : i = k
      · subst hik
        simp only [ho] at hl
        have hall : ∀ j, j < i → L.getD j false = true := fun j hj => by
          have := List.all_eq_true.1 hl j (List.mem_range.2 hj)
          obtain ⟨e, he, h2⟩ := Array.any_eq_true'.1 this
          simp only [Bool.and_eq_true, beq_iff_eq] at h2
          have := hdep e he h2.2
          rw [h2.1] at this
          exact this
        refine wpOp_mono ?_ (hfin a w h.size h.defers h.frame h.glob fun j d hj hd => h.done j d hd (hall j hj))
        intro a' w' hq
        have hnil : Region.ready .any ops (L.setIfInBounds i true) = [] := by
          cases hr : Region.ready .any ops (L.setIfInBounds i true) with
          | nil => rfl
          | cons j rest =>
            have hj : j ∈ Region.ready .any ops (L.setIfInBounds i true) := by rw [hr]; exact List.mem_cons_self
            obtain ⟨h5, o', ho', _⟩ := mem_ready.1 hj
            have hjs : j < ops.size := (Array.getElem?_eq_some_iff.1 ho').1
            by_cases hji : j = i
            · subst hji
              rw [Array.getD_eq_getD_getElem?, Array.getElem?_eq_getElem (by simpa using (by omega : j < L.size))] at h5
              simp at h5
            · rw [getD_set_ne true (Ne.symm hji)] at h5
              have h6 := hall j (by omega)
              rw [Array.getD_eq_getD_getElem?] at h5 h6
              rw [Array.getElem?_eq_getElem (by omega)] at h5 h6
              simp at h5 h6
              rw [h5] at h6
              cases h6
        cases fuel with
        | zero => exact ⟨hnil, hq⟩
        | succ fuel => exact ⟨fun _ => hq, by rw [hnil]; simp⟩
      · refine wpOp_mono ?_ (hstep i (by omega) hip a w h.frameE h.glob (h.deps hi))
        rintro a' w' ⟨⟨v, rfl, hI⟩, hG, hB⟩
        refine ih _ _ _ (by simpa using hs) (by rw [getD_set_ne true hik]; exact hlk) (fun j hj => ?_) ?_ (h.next ht h1 hst hI hG hB)
        · have hij : i ≠ j := fun e => by subst e; rw [hip] at hj; cases hj
          rw [getD_set_ne false hij]; exact hlp j hj
        · rw [Array.toList_setIfInBounds]
          omega
def aft (ops : Array Oper) (j : Nat) : List Nat := match ops[j]? with | some o => (o.after.toList.filter fun e => Region.binds .any e).map (·.on) | none => []
def earlyL (ops : Array Oper) (p : Nat) : List Nat := (List.range p).reverse.foldl (fun S j => bif S.contains j then aft ops j ++ S else S) (aft ops p)
theorem early_done {p : Nat} {D : Nat → Prop} (h0 : ∀ x ∈ aft ops p, D x) (hc : ∀ j, D j → ∀ x ∈ aft ops j, D x) : ∀ x ∈ earlyL ops p, D x := by
  have key : ∀ (js S : List Nat), (∀ x ∈ S, D x) → ∀ x ∈ js.foldl (fun S j => bif S.contains j then aft ops j ++ S else S) S, D x := by
    intro js
    induction js with
    | nil => intro S h; exact h
    | cons j js ih =>
      intro S h
      refine ih _ ?_
      show ∀ x ∈ (bif S.contains j then aft ops j ++ S else S), D x
      cases hj : S.contains j with
      | false => exact h
      | true =>
        intro x hx
        rw [cond_true] at hx
        rcases List.mem_append.1 hx with hx | hx
        · exact hc j (h j (List.contains_iff_mem.1 hj)) x hx
        · exact h x hx
  exact key _ _ h0
theorem aft_mem {j : Nat} {o : Oper} (ho : ops[j]? = some o) {x : Nat} (hx : x ∈ aft ops j) : ∃ e ∈ o.after, e.on = x ∧ Region.binds .any e = true := by
  unfold aft at hx
  rw [ho] at hx
  obtain ⟨e, he, rfl⟩ := List.mem_map.1 hx
  obtain ⟨h1, h2⟩ := List.mem_filter.1 he
  exact ⟨e, Array.mem_toList_iff.1 h1, rfl, h2⟩
def IP (L2 : List Asr) (p : Nat) (v' : Value) (i : Nat) (v : Value) (w : World) : Prop := (i = p → v = v') ∧ atI L2 i v w
theorem region_append {k p dp : Nat} {t0 : Array Value} {d0 : List Deferred} {late : Nat → Bool} {o : Oper} {RA : World → Value → World → Prop} (hl : lastR ops k = true) (ht : tidyR ops t0.size = true) (hst : StabL L) (hst2 : StabL L2) (hpk : p < k) (hp : ops[p]? = some o) (hod : o.dst = some dp) (hog : o.guard = none)
    (hearly : ∀ j, j < k → j ≠ p → late j = false → j ∈ earlyL ops p)
    (hstep : ∀ i, i < k → i ≠ p → RStep P ops Q t0 (fun w => Below W.heap.size W w) (atI L) i)
    (happ : ∀ (a : Act) (w : World), (∀ t, freeT ops t = true → a.eval (.tmp t) = t0.getD t undef) → Below W.heap.size W w → (∀ j d, waitsFor ops p j d = true → atI L j (a.eval (.tmp d)) w) → ∃ v w', (execOp a.eval o).run P w = .ok (.value v) w' ∧ RA w v w')
    (hL2p : atI L2 p = anyA) (hpure : ∀ i, i < k → i ≠ p → ∀ v w w', atI L i v w → atI L2 i v w')
    (hlate : ∀ v' W2 i, i < k → i ≠ p → late i = true → RStep P ops Q t0 (fun w => w = W2) (IP L2 p v') i)
    (hfin : ∀ A v' W2, Below W.heap.size W A → RA A v' W2 → RFin ops t0 d0 (fun w => w = W2) (IP L2 p v') k (wpOp P ops Q k (Q .normal))) :
    ∀ (fuel : Nat) (LB : Array Bool) (a : Act) (w : World), LB.size = ops.size → LB.getD k true = false → LB.toList.count false ≤ fuel → LB.getD p true = false → (∀ j, LB.getD j false = true → ∀ x ∈ aft ops j, LB.getD x false = true) → RInv ops t0 d0 (fun w => Below W.heap.size W w) (atI L) LB a w → wpAny P .any ops Q fuel LB a w := by
  have hl0 := hl
  simp only [lastR, Bool.and_eq_true, decide_eq_true_eq] at hl
  obtain ⟨hk, hl⟩ := hl
  have cnt : ∀ (L : Array Bool) i, L.getD i true = false → L.toList[i]? = some false := fun L i h1 => by
    rw [Array.getD_eq_getD_getElem?] at h1
    rw [Array.getElem?_toList]
    cases hL : L[i]? with
    | none => rw [hL] at h1; cases h1
    | some b => rw [hL] at h1; simpa using h1
  intro fuel
  induction fuel with
  | zero =>
    intro LB a w hs hlk hc hlp hcl h
    have := cnt_set _ _ (cnt LB k hlk)
    omega
  | succ fuel ih =>
    intro LB a w hs hlk hc hlp hcl h
    refine ⟨fun hr => ?_, fun i hi => ?_⟩
    · rw [ready_nil ht hs hr k (by omega)] at hlk
      cases hlk
    · obtain ⟨h1, o', ho, hdep⟩ := mem_ready.1 hi
      have his : i < ops.size := (Array.getElem?_eq_some_iff.1 ho).1
      have hc1 := cnt_set _ _ (cnt LB i h1)
      by_cases hik : i = k
      · subst hik
        simp only [ho] at hl
        have := List.all_eq_true.1 hl p (List.mem_range.2 hpk)
        obtain ⟨e, he, h2⟩ := Array.any_eq_true'.1 this
        simp only [Bool.and_eq_true, beq_iff_eq] at h2
        have h3 := hdep e he h2.2
        rw [h2.1] at h3
        have h4 := cnt LB p hlp
        rw [Array.getElem?_toList] at h4
        rw [Array.getD_eq_getD_getElem?, h4] at h3
        cases h3
      · by_cases hip : i = p
        · subst hip
          rw [hp] at ho
          have ho' := (Option.some.inj ho).symm
          subst ho'
          obtain ⟨v', w', hr, hRA⟩ := happ a w h.frameE h.glob (h.deps hi)
          have step : wpOp P ops Q i (fun a2 w2 => a2 = a.put (some dp) v' ∧ w2 = w') a w := by
            unfold wpOp
            simp only [hp, wanted_free hog, if_true]
            refine .inl ?_
            unfold Oper.wp
            rw [hr]
            exact ⟨by rw [hod], rfl⟩
          refine wpOp_mono ?_ step
          rintro a2 w2 ⟨rfl, rfl⟩
          have hdst : (ops[i]?).bind (·.dst) = some dp := by rw [hp]; exact hod
          refine region_lastS (t0 := t0) (d0 := d0) (dn := fun j => decide (j = i) || (decide (j < k) && !late j)) (G := fun w => w = w2) (I := IP L2 i v') hl0 ht ?_ ?_ (hfin _ _ _ h.glob hRA) fuel _ _ _ (by simpa using hs) (by rw [getD_set_ne true hik]; exact hlk) ?_ ?_ ?_
          · rintro j v w1 w3 _ ⟨h5, h6⟩ hb
            exact ⟨h5, atI_stab hst2 _ _ _ _ h6 hb⟩
          · intro j hj hd
            simp only [Bool.or_eq_false_iff, decide_eq_false_iff_not, Bool.and_eq_false_iff, Bool.not_eq_false'] at hd
            refine hlate v' w2 j hj hd.1 ?_
            rcases hd.2 with h5 | h5
            · exact absurd hj h5
            · exact h5
          · intro j hd
            simp only [Bool.or_eq_true, decide_eq_true_eq, Bool.and_eq_true, Bool.not_eq_true'] at hd
            by_cases hji : j = i
            · subst hji
              rw [Array.getD_eq_getD_getElem?, Array.getElem?_setIfInBounds_self_of_lt (by omega)]; rfl
            · rcases hd with hd | ⟨hd1, hd2⟩
              · exact absurd hd hji
              · rw [getD_set_ne false (Ne.symm hji)]
                refine early_done (D := fun x => LB.getD x false = true) (fun x hx => ?_) (fun j hj x hx => hcl j hj x hx) j (hearly j hd1 hji hd2)
                obtain ⟨e, he, h5, h6⟩ := aft_mem hp hx
                have h7 := hdep e he h6
                rw [h5] at h7
                exact h7
          · rw [Array.toList_setIfInBounds]; omega
          · refine ⟨by rw [put_size]; exact h.size, by rw [put_defers]; exact h.defers, fun t hf => ?_, rfl, fun j d hd hj => ?_⟩
            · rw [put_other ?_]
              · exact h.frame t hf
              · intro e
                have := Array.all_eq_true'.1 hf _ (Array.mem_of_getElem? hp)
                simp at this
                exact this (hod.trans e)
            · by_cases hji : j = i
              · subst hji
                rw [hdst] at hd
                rw [put_at hd (by rw [h.size]; exact (tidy_dst ht (hdst.trans hd)).1)]
                exact ⟨fun _ => rfl, by rw [hL2p]; trivial⟩
              · rw [getD_set_ne false (Ne.symm hji)] at hj
                rw [put_other (fun e => hji ((tidy_dst ht (hdst.trans e)).2 j hd))]
                have hjk : j < k := by
                  obtain ⟨o2, ho2, _⟩ := Option.bind_eq_some_iff.1 hd
                  have h5 := (Array.getElem?_eq_some_iff.1 ho2).1
                  have h6 : j ≠ k := fun e => by
                    subst e
                    have h4 := cnt LB j hlk
                    rw [Array.getElem?_toList] at h4
                    rw [Array.getD_eq_getD_getElem?, h4] at hj
                    cases hj
                  omega
                exact ⟨fun e => absurd e hji, hpure j hjk hji _ _ _ (h.done j d hd hj)⟩
        · refine wpOp_mono ?_ (hstep i (by omega) hip a w h.frameE h.glob (h.deps hi))
          rintro a' w' ⟨⟨v, rfl, hI⟩, hG, hB⟩
          refine ih _ _ _ (by simpa using hs) (by rw [getD_set_ne true hik]; exact hlk) ?_ (by rw [getD_set_ne true hip]; exact hlp) (fun j hj x hx => ?_) (h.next ht h1 (fun i v w w' _ h hb => atI_stab hst i v w w' h hb) hI hG hB)
          · rw [Array.toList_setIfInBounds]
            omega
          · have hx2 : LB.getD x false = true := by
              by_cases hji : j = i
              · subst hji
                obtain ⟨e, he, h5, h6⟩ := aft_mem ho hx
                have h7 := hdep e he h6
                rw [h5] at h7
                exact h7
              · rw [getD_set_ne false (Ne.symm hji)] at hj
                exact hcl j hj x hx
            by_cases hxi : x = i
            · subst hxi
              rw [Array.getD_eq_getD_getElem?, Array.getElem?_setIfInBounds_self_of_lt (by omega)]; rfl
            · rw [getD_set_ne false (Ne.symm hxi)]; exact hx2
def pvL (v : Value) (p : Nat) : Nat → List Asr → List Asr
  | _, [] => []
  | j, q :: L => (bif Nat.beq j p then isV v else q) :: pvL v p (j + 1) L
theorem atI_pvL {v : Value} {p : Nat} : ∀ (L : List Asr) (j i : Nat), i < L.length → atI (pvL v p j L) i = if i + j = p then isV v else atI L i
  | [], j, i, h => by simp at h
  | q :: L, j, 0, h => by
    show (bif Nat.beq j p then isV v else q) = _
    cases hb : Nat.beq j p with
    | true => rw [if_pos (by rw [Nat.zero_add]; exact Nat.eq_of_beq_eq_true hb)]; rfl
    | false => rw [if_neg (by rw [Nat.zero_add]; intro e; rw [e, Nat.beq_refl] at hb; cases hb)]; rfl
  | q :: L, j, i + 1, h => by
    show atI (pvL v p (j + 1) L) i = _
    rw [atI_pvL L (j + 1) i (by simpa using h)]
    by_cases h1 : i + (j + 1) = p
    · rw [if_pos h1, if_pos (by omega)]
    · rw [if_neg h1, if_neg (by omega)]; rfl
variable {d : Nat} {op : Op} {ty : TypeId} {pos : String} {aft : Array Edge} {v : Value} {gd : Option (Nat × Bool)}
def RGL (P : Program) (n : Nat) (ops : Array Oper) (Q : Exit → Act → World → Prop) (l : Fr) (L2 : List Asr) (p i : Nat) : Prop := ∀ v' W2 a, Has n l a → RStep P ops Q a.tmps (fun w => w = W2) (IP L2 p v') i
theorem lgV {p : Nat} (li : Fr) (hi : ops[i]? = some ⟨some d, op, ty, pos, aft, gd⟩) (hw : Wants ops L2 i ⟨some d, op, ty, pos, aft, gd⟩) (hli : AllO n ops l L2 i li) (hr : ∀ w, Runs P li ⟨some d, op, ty, pos, #[], none⟩ w v w) (hI : atI L2 i = isV v) (hip : Nat.beq i p = false) : RGL P n ops Q l L2 p i :=
  fun v' W2 a ha => RStep.value hi fun b w hF hG hD => ⟨hw.yes (fun j d h => (hD j d h).2), v, w, by rw [execOp_guard b.eval _ _ _ _ pos _ #[] _ none]; exact hr w b.eval (allO_has ha hF (fun j d h => (hD j d h).2) hli), ⟨fun e => absurd hip (by rw [e, Nat.beq_refl]; decide), by rw [hI]; rfl⟩, hG, Below.refl _ _⟩
theorem RGL.ext {L1 L2 : List Asr} {p : Nat} (ht : tidyR ops n = true) (hag : ∀ j, j ≤ i → atI L1 j = atI L2 j) (h : RGL P n ops Q l L1 p i) : RGL P n ops Q l L2 p i := fun v' W2 a ha => by
  have h1 := h v' W2 a ha
  intro b w hF hG hD
  have hlt : ∀ j d, waitsFor ops i j d = true → j < i := fun j d hw => by
    cases ho : ops[i]? with
    | none => simp [waitsFor, ho] at hw
    | some o =>
      simp only [waitsFor, ho, Bool.and_eq_true, beq_iff_eq] at hw
      obtain ⟨e, he, h2⟩ := Array.any_eq_true'.1 hw.1
      simp only [Bool.and_eq_true, beq_iff_eq] at h2
      rw [← h2.1]; exact tidy_after ht ho e he h2.2
  have h2 := h1 b w hF hG (fun j d hw => by unfold IP; rw [hag j (Nat.le_of_lt (hlt j d hw))]; exact hD j d hw)
  unfold IP at h2
  rw [hag i (Nat.le_refl _)] at h2
  exact h2
def PureA (q q2 : Asr) : Prop := ∀ v w w', q v w → q2 v w'
theorem pure_v {c : Value} : PureA (isV c) (isV c) := fun _ _ _ h => h
theorem pure_any {q : Asr} : PureA q anyA := fun _ _ _ _ => trivial
def earlyR (ops : Array Oper) (p j : Nat) : Bool := (earlyL ops p).contains j
def BLP (P : Program) (n : Nat) (ops : Array Oper) (Q : Exit → Act → World → Prop) (l : Fr) (W : World) (p : Nat) (Goal : List Asr → List Asr → Prop) : Nat → List Asr → List Asr → Nat → Prop
  | 0, Lr, L2r, _ => Goal Lr L2r
  | m + 1, Lr, L2r, k => ∃ q q2, Stab q ∧ Stab q2 ∧ PureA q q2 ∧ ((k = p ∧ q2 = anyA) ∨ (k ≠ p ∧ RG P n ops Q l W (q :: Lr).reverse k ∧ (earlyR ops p k = true ∨ RGL P n ops Q l (q2 :: L2r).reverse p k))) ∧ BLP P n ops Q l W p Goal m (q :: Lr) (q2 :: L2r) (k + 1)
variable {Goal : List Asr → List Asr → Prop}
theorem blp_nil {Lr L2r : List Asr} {k p : Nat} (h : Goal Lr L2r) : BLP P n ops Q l W p Goal 0 Lr L2r k := h
theorem blp_v {m k p : Nat} {Lr L2r : List Asr} {c : Value} (k' : Nat) (hk : k + 1 = k') (hne : Nat.beq k p = false) (he : earlyR ops p k = true) (h : RG P n ops Q l W (isV c :: Lr).reverse k) (hr : BLP P n ops Q l W p Goal m (isV c :: Lr) (isV c :: L2r) k') : BLP P n ops Q l W p Goal (m + 1) Lr L2r k := by
  subst hk; exact ⟨isV c, isV c, stab_isV _, stab_isV _, pure_v, .inr ⟨fun e => absurd hne (by rw [e, Nat.beq_refl]; decide), h, .inl he⟩, hr⟩
theorem blp_q {m k p : Nat} {Lr L2r : List Asr} (k' : Nat) (hk : k + 1 = k') (hne : Nat.beq k p = false) (he : earlyR ops p k = true) (q : Asr) (hs : Stab q) (h : RG P n ops Q l W (q :: Lr).reverse k) (hr : BLP P n ops Q l W p Goal m (q :: Lr) (anyA :: L2r) k') : BLP P n ops Q l W p Goal (m + 1) Lr L2r k := by
  subst hk; exact ⟨q, anyA, hs, stab_anyA, pure_any, .inr ⟨fun e => absurd hne (by rw [e, Nat.beq_refl]; decide), h, .inl he⟩, hr⟩
theorem blp_late {m k p : Nat} {Lr L2r : List Asr} {c : Value} (k' : Nat) (hk : k + 1 = k') (hne : Nat.beq k p = false) (h : RG P n ops Q l W (isV c :: Lr).reverse k) (h2 : RGL P n ops Q l (isV c :: L2r).reverse p k) (hr : BLP P n ops Q l W p Goal m (isV c :: Lr) (isV c :: L2r) k') : BLP P n ops Q l W p Goal (m + 1) Lr L2r k := by
  subst hk; exact ⟨isV c, isV c, stab_isV _, stab_isV _, pure_v, .inr ⟨fun e => absurd hne (by rw [e, Nat.beq_refl]; decide), h, .inr h2⟩, hr⟩
theorem blp_app {m k p : Nat} {Lr L2r : List Asr} (k' : Nat) (hk : k + 1 = k') (hp : k = p) (hr : BLP P n ops Q l W p Goal m (anyA :: Lr) (anyA :: L2r) k') : BLP P n ops Q l W p Goal (m + 1) Lr L2r k := by
  subst hk; exact ⟨anyA, anyA, stab_anyA, stab_anyA, pure_any, .inl ⟨hp, rfl⟩, hr⟩
def BG (P : Program) (n : Nat) (ops : Array Oper) (Q : Exit → Act → World → Prop) (l : Fr) (W : World) (p : Nat) (L L2 : List Asr) (i : Nat) : Prop := PureA (atI L i) (atI L2 i) ∧ ((i = p ∧ atI L2 i = anyA) ∨ (i ≠ p ∧ RG P n ops Q l W L i ∧ (earlyR ops p i = true ∨ RGL P n ops Q l L2 p i)))
theorem blp_run (p : Nat) (ht : tidyR ops n = true) : ∀ (m k : Nat) (Lr L2r : List Asr), Lr.length = k → L2r.length = k → (∀ q ∈ Lr, Stab q) → (∀ q ∈ L2r, Stab q) → (∀ i, i < k → BG P n ops Q l W p Lr.reverse L2r.reverse i) → BLP P n ops Q l W p Goal m Lr L2r k →
    ∃ Lr' L2r', Lr'.length = k + m ∧ L2r'.length = k + m ∧ (∀ q ∈ Lr', Stab q) ∧ (∀ q ∈ L2r', Stab q) ∧ (∀ i, i < k + m → BG P n ops Q l W p Lr'.reverse L2r'.reverse i) ∧ Goal Lr' L2r'
  | 0, k, Lr, L2r, hl, hl2, hs, hs2, hg, h => ⟨Lr, L2r, hl, hl2, hs, hs2, hg, h⟩
  | m + 1, k, Lr, L2r, hl, hl2, hs, hs2, hg, ⟨q, q2, hp, hp2, hpu, hr, hn⟩ => by
    obtain ⟨L', L2', h1, h2, h3, h4, h5, h6⟩ := blp_run p ht m (k + 1) (q :: Lr) (q2 :: L2r) (by simp [hl]) (by simp [hl2]) (fun r hq => by
      rcases List.mem_cons.1 hq with rfl | hq
      · exact hp
      · exact hs r hq) (fun r hq => by
      rcases List.mem_cons.1 hq with rfl | hq
      · exact hp2
      · exact hs2 r hq) (fun i hi => by
      by_cases hik : i = k
      · subst hik
        refine ⟨by rw [at_top hl, at_top hl2]; exact hpu, ?_⟩
        rcases hr with ⟨e1, e2⟩ | hr
        · exact .inl ⟨e1, by rw [at_top hl2]; exact e2⟩
        · exact .inr hr
      · have hap : ∀ j, j ≤ i → atI Lr.reverse j = atI (q :: Lr).reverse j := fun j hj => by rw [List.reverse_cons, atI_append (by simp; omega)]
        have hap2 : ∀ j, j ≤ i → atI L2r.reverse j = atI (q2 :: L2r).reverse j := fun j hj => by rw [List.reverse_cons, atI_append (by simp; omega)]
        obtain ⟨g1, g2⟩ := hg i (by omega)
        refine ⟨by rw [← hap i (Nat.le_refl _), ← hap2 i (Nat.le_refl _)]; exact g1, ?_⟩
        rcases g2 with ⟨e1, e2⟩ | ⟨e1, e2, e3⟩
        · exact .inl ⟨e1, by rw [← hap2 i (Nat.le_refl _)]; exact e2⟩
        · exact .inr ⟨e1, RG.ext ht hap e2, e3.imp id (RGL.ext ht hap2)⟩) hn
    exact ⟨L', L2', by omega, by omega, h3, h4, fun i hi => h5 i (by omega), h6⟩
def RowOf (m s : Nat) (q : List Value → World → Prop) (py : Asr) : Prop := ∀ v w, py v w → ∃ b o c cs, v = .slice (some ⟨b, o, none⟩) m c ∧ CellsAt w b o cs ∧ cs.length = m * s ∧ cs.all Value.oneCell' = true ∧ q cs w
theorem rowOf_isRow {lo m s : Nat} {e : TypeId} {cs : List Value} (hl : Nat.beq cs.length (m * s) = true) (h1 : cs.all Value.oneCell' = true) : RowOf m s (fun xs _ => xs = cs) (isRow lo m e cs) := fun v w ⟨B, hv, _, hc⟩ =>
  ⟨B, 0, m, cs, hv, CellsAt.own (j := 0) (m := cs.length) hc (by simp), Nat.eq_of_beq_eq_true hl, h1, rfl⟩
theorem regBP {id dp p k : Nat} {o : Oper} {t e tx tz : TypeId} {inf : TypeInfo} {z : Value} {gi m : Nat} {g : GR} {aftp : Array Edge} (hm : P.follows .mixedOrders = true) (hS : St w0 O G K W) (hk : os[k]? = some o) (hlen : os.length = k + 1) (hl : lastR os.toArray k = true) (ht : tidyR os.toArray n = true) (hdst : (os.take k).all (fun o => o.dst.isSome) = true) (hfree : ∀ d, o.dst = some d → look l d = none)
    (hp : os[p]? = some ⟨some dp, .call { callee := .builtin .append, args := #[.tmp tx, .tmp tz], argTypes := #[t, t] }, ty, pos, aftp, none⟩) (hpk : Nat.blt p k = true)
    (hU : P.underlying t = some (.slice e)) (hinf : P.info? e = some inf) (hz : inf.zero = some z) (hzs : z.cells.size = inf.size) (hsz : 0 < inf.size)
    (hi : G[gi]? = some g) (he : g.e = e) (hgs : g.size = inf.size) (h63 : g.n + m ≤ maxLen) (hbytes : (g.n + m) * inf.bytes ≤ 140737488355328)
    (h : BLP P n os.toArray Q l W p (fun Lr L2r => ∃ (py : Asr) (q : List Value → World → Prop), OpG n os.toArray l Lr.reverse p tx (isV g.v) ∧ OpG n os.toArray l Lr.reverse p tz py ∧ RowOf m inf.size q py ∧
      ∀ A v' news W', Below W.heap.size W A → q news A → St w0 O (G.set gi ⟨v', g.n + m, g.xs ++ news, e, g.size⟩) ((W.heap.size, A) :: K) W' → FinI (os.take k) (pvL v' p 0 L2r.reverse) l (fun l' W' => OpsF P n os.toArray Q [o] l' W') W') k [] [] 0) : CodeF P n (.region id os.toArray true) Q l W := by
  obtain ⟨Lr, L2r, h1, h2, h3, h4, h5, py, q, hx, hy, hpy, hfin⟩ := blp_run p ht k 0 [] [] rfl rfl (fun p hp => by cases hp) (fun p hp => by cases hp) (fun i hi => by omega) h
  have hpk' : p < k := Nat.lt_of_lt_of_le (Nat.lt_succ_self _) (Nat.le_of_ble_eq_true hpk)
  subst he
  rw [Nat.zero_add] at h1 h2 h5
  have hpo : os.toArray[p]? = some ⟨some dp, .call { callee := .builtin .append, args := #[.tmp tx, .tmp tz], argTypes := #[t, t] }, ty, pos, aftp, none⟩ := by simpa using hp
  have hko : os.toArray[k]? = some o := by simpa using hk
  have hL2p : atI L2r.reverse p = anyA := by
    rcases (h5 p hpk').2 with h6 | h6
    · exact h6.2
    · exact absurd rfl h6.1
  intro a ha
  refine wp_region_any hm (region_append (W := W) (t0 := a.tmps) (d0 := a.defers) (L := Lr.reverse) (L2 := L2r.reverse) (late := fun j => !earlyR os.toArray p j)
    (RA := fun A v' W' => ∃ news, q news A ∧ St w0 O (G.set gi ⟨v', g.n + m, g.xs ++ news, g.e, g.size⟩) ((W.heap.size, A) :: K) W') hl (by rw [ha.size]; exact ht) (stabL_of fun q hq => h3 q (List.mem_reverse.1 hq)) (stabL_of fun q hq => h4 q (List.mem_reverse.1 hq)) hpk' hpo rfl rfl ?_ ?_ ?_ hL2p ?_ ?_ ?_ _ _ _ _ (by simp) ?_ (count_rep _) ?_ (fun j hj => by rw [Array.getD_eq_getD_getElem?, Array.getElem?_replicate] at hj; split at hj <;> simp at hj) (inv_zero ((Below.refl _ _).drew)))
  · intro j hj hjp he
    simp only [Bool.not_eq_false'] at he
    exact List.contains_iff_mem.1 he
  · intro i hi hip
    rcases (h5 i hi).2 with h6 | h6
    · exact absurd h6.1 hip
    · exact h6.2.1 a ha
  · intro b w hF hG hD
    have ex : b.eval (.tmp tx) = g.v := hx a ha b w hF hD
    obtain ⟨bb, oo, c, cs, ey, hc, hcl, h1c, hq⟩ := hpy _ w (hy a ha b w hF hD)
    have hS2 := hS.call hG
    have hrow := hS2.row gi hi
    rw [hgs] at hrow
    obtain ⟨v', W', hr, k2, k3, k4⟩ := append_own2 (P := P) (w := w) w0.heap.size t ty g.e inf z hU hinf hz hzs hsz g.v g.n g.xs hrow ⟨bb, oo, none⟩ m c cs hcl (fun j u hj => by rw [Addr.add_lit]; exact hc.get j u hj) (fun u hu => List.all_eq_true.1 h1c u hu) h63 hbytes hS2.below.size
    rw [← hgs] at k2
    refine ⟨v', W', ?_, cs, hq, hS2.setG gi hi k2 k3 k4⟩
    unfold execOp
    simp only [resolve, invoke, builtin, Sem.run_bind, Sem.run_pure, Result.andThen_ok, List.map_toArray, List.map_cons, List.map_nil, ex, ey, hr]
  · intro i hi hip v w w' hv
    exact (h5 i hi).1 v w w' hv
  · intro v' W2 i hi hip hlt
    rcases (h5 i hi).2 with h6 | h6
    · exact absurd h6.1 hip
    · rcases h6.2.2 with h7 | h7
      · rw [h7] at hlt; cases hlt
      · exact h7 v' W2 a ha
  · rintro A v' W2 hB ⟨news, hq, hS2⟩
    intro a' W' hs hd hf hG hI
    subst hG
    have hdst' : ∀ o ∈ os.take k, ∃ d, o.dst = some d := fun o ho => Option.isSome_iff_exists.1 (List.all_eq_true.1 hdst o ho)
    have htk : (os.take k).length = k := by simp; omega
    refine fin_has (os.take k) (pvL v' p 0 L2r.reverse) l (fun i d hi hd' => ?_) (hs.trans ha.size) (hd.trans ha.defers) ?_ hdst' (fun l' h ha' => ?_) (hfin A v' news W' hB hq hS2)
    · have hik : i < k := by omega
      have h6 := hI i d hik (by rw [List.getElem?_take, if_pos hik] at hd'; simpa using hd')
      rw [atI_pvL L2r.reverse 0 i (by simp; omega)]
      by_cases hip : i + 0 = p
      · rw [if_pos hip]; exact h6.1 hip
      · rw [if_neg hip]; exact h6.2
    · intro t' v hv hno
      rw [hf t' (by
        unfold freeT; rw [Array.all_eq_true']; intro o' ho'
        have ho2 : o' ∈ os := by simpa using ho'
        obtain ⟨j, hj⟩ := List.getElem?_of_mem ho2
        by_cases hjk : j < k
        · have : o' ∈ os.take k := List.mem_of_getElem? (by rw [List.getElem?_take, if_pos hjk]; exact hj)
          simpa using hno o' this
        · have hjl := (List.getElem?_eq_some_iff.1 hj).1
          have : j = k := by omega
          subst this
          rw [hk] at hj
          have e2 := Option.some.inj hj
          subst e2
          cases hx : o.dst with
          | none => simp
          | some d => simp; intro e; subst e; rw [hfree d hx] at hv; cases hv)]
      exact ha.at_ t' v hv
    · have h6 := h a' ha'
      unfold wpOp
      rw [hko]
      exact h6
  · rw [Array.getD_eq_getD_getElem?, Array.getElem?_replicate, if_pos (by simp; omega)]; rfl
  · rw [Array.getD_eq_getD_getElem?, Array.getElem?_replicate, if_pos (by simp; omega)]; rfl
end
end Go.Proofs.YtjcminoaiieckaaGreatDoor
namespace Go.Proofs.YtjcminoaiieckaaGreatDoor
open Go Go.RowKit
theorem bld_73_0 (v0 : Int) : Tryz.prog.built 73 [(0, .int .u64 v0)] = some #[.int .u64 v0, .int .i64 0, .int .i64 0] := by kernel_rfl
theorem goes_69 : goesIn Tryz.prog 69 = true := by kernel_rfl
theorem inf_73 : Tryz.prog.info? 73 = some Tryz.t73 := by kernel_rfl
end Go.Proofs.YtjcminoaiieckaaGreatDoor
namespace Go.Proofs.YtjcminoaiieckaaGreatDoor
open Go Go.RowKit
set_option linter.unusedVariables false
set_option maxRecDepth 100000 in
set_option maxHeartbeats 4000000 in
theorem oneR_4 (m : Nat) (sa : Option Addr) (sc : Nat) (w : World) (hm : m ≤ 64) :
    Calls Tryz.prog 40 #[.agg #[.int .i64 4, .int .i64 (m : Int), .slice sa 0 sc]] w (WRet (.one 4 m) (.one (oneP 4 m)) w) := by
  refine enterF (args := [.agg #[.int .i64 4, .int .i64 (m : Int), .slice sa 0 sc]]) Tryz.func40 rfl Tryz.ntmps40 rfl ?_
  have hS := St.start w
  refine seqF ?_
  refine regF ?_
  refine op_box (cs := [_, _, _]) hS rfl rfl rfl ?_
  clear hS; intro B1 W1 hS
  refine op_alloc (cs := [_, _, _, _, _, _]) hS Tryz.zeroValue33 rfl rfl ?_
  clear hS; intro B2 W2 hS
  refine endF ?_
  refine XF.thenN ?_
  refine seqF ?_
  refine regF ?_
  refine op_build (us := []) rfl (bld_33) rfl ?_
  refine op_alloc (cs := [_, _, _, _, _, _]) hS Tryz.zeroValue33 rfl rfl ?_
  clear hS; intro B3 W3 hS
  refine op_storeA (i := 0) (vs := [_, _, _, _, _, _]) (cs' := [_, _, _, _, _, _]) (O' := [_, _, _]) hS Tryz.sizeOf33 rfl rfl rfl rfl rfl rfl rfl ?_
  clear hS; intro W4 hS
  refine endF ?_
  refine XF.thenN ?_
  refine seqF ?_
  refine seqF ?_
  refine regF ?_
  refine op_field (o' := 0) fa_25_0 rfl rfl rfl ?_
  refine op_load Tryz.isAgg22 rfl (cell_own (hS.at_ 2 rfl) rfl) rfl ?_
  refine endF ?_
  refine XF.thenN ?_
  refine blockF ?_
  refine seqF ?_
  refine regF ?_
  refine op_eql rfl rfl rfl ?_
  refine op_assign rfl rfl ?_
  refine endF ?_
  refine XF.thenN ?_
  refine condF rfl (fun hc => absurd (of_decide_eq_true hc) (by omega)) (fun hc => ?_)
  have hc := of_decide_eq_false hc
  refine seqF ?_
  refine regF ?_
  refine op_eql rfl rfl rfl ?_
  refine op_assign rfl rfl ?_
  refine endF ?_
  refine XF.thenN ?_
  refine condF rfl (fun hc => ?_) (fun hc => absurd (of_decide_eq_false hc) (by omega))
  have hc := of_decide_eq_true hc
  refine seqF ?_
  refine regF ?_
  refine op_assign rfl rfl ?_
  refine endF ?_
  refine XF.thenN ?_
  refine blockF ?_
  refine loopF (fun q l W => ∃ (k : Nat) (v : Value), k ≤ m ∧ q = m - k ∧ l = [(1, .pointer (some ⟨B1, 0, none⟩)), (2, .pointer (some ⟨B2, 0, none⟩)), (3, .pointer (some ⟨B3, 0, none⟩)), (4, .int .i64 (k : Int))] ∧ St w [(B3, [.bool false, .int .i64 0, .int .u64 0, .slice none 0 0, v, .slice none 0 0], 33), (B2, [.bool false, .int .i64 0, .int .u64 0, .slice none 0 0, .slice none 0 0, .slice none 0 0], 33), (B1, [.int .i64 4, .int .i64 (m : Int), .slice sa 0 sc], 25)] [⟨v, k, flat ((unitC m).take k), 73, 3⟩] [] W) (m - 0) ([(1, _), (2, _), (3, _), (4, _)]) ⟨rfl, rfl, rfl, rfl, trivial⟩ (⟨0, .slice none 0 0, Nat.zero_le _, rfl, rfl, hS.clear.newG _ _⟩) ?_
  clear hS
  rintro q l W ⟨k, v, hkm, rfl, rfl, hS⟩
  refine seqF ?_
  refine seqF ?_
  refine regF ?_
  refine op_move rfl rfl ?_
  refine op_field (o' := 1) fa_25_1 rfl rfl rfl ?_
  refine op_load Tryz.isAgg3 rfl (cell_own (hS.at_ 2 rfl) rfl) rfl ?_
  refine op_lss rfl rfl rfl ?_
  refine endF ?_
  refine XF.thenN ?_
  refine condF rfl (fun hc => ?_) (fun hc => ?_)
  · have hc22 := of_decide_eq_true hc; clear hc
    have hk : k < m := by omega
    refine skipF ?_
    refine XF.thenN ?_
    refine seqF ?_
    refine blockF ?_
    refine regBP (p := 6) (k := 8) (gi := 0) (m := 1) followsM hS rfl rfl (by kernel_rfl) (by kernel_rfl) (by kernel_rfl) (fun d hd => by cases hd) rfl rfl Tryz.underlying30 inf_73 rfl rfl (by show 0 < 3; decide) rfl rfl rfl (by dsimp only; simp only [maxLen]; omega) (by dsimp only; show _ * 24 ≤ _; omega) ?_
    refine blp_v 1 rfl rfl (by kernel_rfl) (rgV (li := [(3, _)]) rfl (w_free rfl) ⟨g_fr (by kernel_rfl) rfl, trivial⟩ (fun w hw => rn_field (o' := 4) fa_33_3 rfl rfl) (at_top rfl)) ?_
    refine blp_v 2 rfl rfl (by kernel_rfl) (rgV (li := [(25, _)]) rfl (w_free rfl) ⟨g_dep 0 (by kernel_rfl) (at_dep rfl rfl rfl), trivial⟩ (fun w hw => rn_load Tryz.isAgg30 rfl ((below_agree hw 0).cell (Nat.zero_le _) (cell_own (hS.at_ 0 rfl) rfl))) (at_top rfl)) ?_
    refine blp_v 3 rfl rfl (by kernel_rfl) (rgV (li := [(4, _)]) rfl (w_free rfl) ⟨g_fr (by kernel_rfl) rfl, trivial⟩ (fun w hw => rn_move rfl) (at_top rfl)) ?_
    refine blp_v 4 rfl rfl (by kernel_rfl) (rg_call [isV _] rfl goes_69 (w_free rfl) ⟨p_tmp (g_dep 2 (by kernel_rfl) (at_dep rfl rfl rfl)), trivial⟩ (fun vs w' hb hh => by have e := holds_isV (us := [_]) hh; subst e; exact (worth_at (k : Int) k (2 ^ k) (by omega) rfl (by omega) _).mono fun e w2 h => ⟨_, h.1, rfl, h.2 ▸ Below.refl _ _⟩) (at_top rfl)) ?_
    refine blp_v 5 rfl rfl (by kernel_rfl) (rgV (li := [(28, _)]) rfl (w_free rfl) ⟨g_dep 3 (by kernel_rfl) (at_dep rfl rfl rfl), trivial⟩ (fun w hw => rn_build (us := [(0, .int .u64 _)]) rfl (bld_73_0 _)) (at_top rfl)) ?_
    refine blp_q 6 rfl rfl (by kernel_rfl) (isRow W.heap.size 1 73 _) (stab_isRow) (rg_rowV (us := [.agg (List.toArray [_, _, _])]) rfl (w_free rfl) Tryz.underlying30 Tryz.sizeOf73 Tryz.zeroValue73 rfl rfl ⟨p_tmp (g_dep 4 (by kernel_rfl) (at_dep rfl rfl rfl)), trivial⟩ (bs_30_1 _ _ _) (at_top rfl)) ?_
    refine blp_app 7 rfl rfl ?_
    refine blp_late 8 rfl rfl (rgV (li := [(3, _)]) rfl (w_free rfl) ⟨g_fr (by kernel_rfl) rfl, trivial⟩ (fun w hw => rn_field (o' := 4) fa_33_3 rfl rfl) (at_top rfl)) (lgV (li := [(3, _)]) rfl (w_free rfl) ⟨g_fr (by kernel_rfl) rfl, trivial⟩ (fun w => rn_field (o' := 4) fa_33_3 rfl rfl) (at_top rfl) rfl) ?_
    refine blp_nil ⟨_, _, g_dep 1 (by kernel_rfl) (at_dep rfl rfl rfl), g_dep 5 (by kernel_rfl) (at_dep rfl rfl rfl), rowOf_isRow rfl rfl, ?_⟩
    intro A5 v5 news5 W5 hbR hqA5 hS'
    clear hS; have hS := hS'; clear hS'
    cases hqA5
    refine fin_v ?_
    refine fin_v ?_
    refine fin_v ?_
    refine fin_v ?_
    refine fin_v ?_
    refine fin_p ?_; intro _ _
    refine fin_v ?_
    refine fin_v ?_
    obtain ⟨g9, c9, e9, _, _⟩ := (hS.row 0 rfl).form (by show 0 < k + 1; omega)
    dsimp only at e9
    subst e9
    refine fin_nil ?_
    refine op_store (i := 0) (cs' := [_, _, _, _, _, _]) (O' := [_, _, _]) hS Tryz.sizeOf30 rfl rfl rfl rfl rfl rfl rfl ?_
    clear hS; intro W6 hS
    refine endF ?_
    refine XF.blkN ?_
    refine XF.thenN ?_
    refine regF ?_
    refine op_move rfl rfl ?_
    refine op_add rfl rfl (IntWalk.i64_in _ (by omega)) rfl ?_
    refine op_assign rfl rfl ?_
    refine endF ?_
    exact XF.round (m - (k + 1)) [(1, _), (2, _), (3, _), (4, _)] (by omega) ⟨rfl, rfl, rfl, rfl, trivial⟩ ⟨k + 1, _, by omega, rfl, rfl, by rw [unit_snoc hk, flat_snoc]; exact hS.clear⟩
  · have hc22 := of_decide_eq_false hc; clear hc
    refine exitF ?_
    refine XF.thenX ?_
    refine XF.thenX ?_
    refine XF.blkX ?_
    refine XF.blkN ?_
    refine XF.thenN ?_
    refine seqF ?_
    obtain rfl : k = m := by omega
    have hrow := hS.row 0 rfl
    have ht : (unitC k).take k = unitC k := List.take_of_length_le (by rw [unit_length]; exact Nat.le_refl _)
    simp only [ht] at hrow
    obtain ⟨hn, a9, c9, rfl, _, _⟩ := crow_of_own hrow
    clear hrow
    refine regF ?_
    refine op_loadA (vs := [_, _, _, _, _, _]) Tryz.isAgg33 Tryz.sizeOf33 rfl (CellsAt.own (j := 0) (m := 6) (hS.at_ 0 rfl) rfl) rfl ?_
    refine op_storeA (i := 1) (vs := [_, _, _, _, _, _]) (cs' := [_, _, _, _, _, _]) (O' := [_, _, _]) hS Tryz.sizeOf33 rfl rfl rfl rfl rfl rfl rfl ?_
    clear hS; intro W7 hS
    refine endF ?_
    refine XF.thenN ?_
    refine retF ?_
    refine XF.res (resC1 (vs := [_, _, _, _, _, _]) Tryz.results40 Tryz.isAgg33 Tryz.sizeOf33 rfl (CellsAt.own (j := 0) (m := 6) (hS.at_ 1 rfl) rfl)) ?_
    have hrow := hS.row 0 rfl
    simp only [ht] at hrow
    obtain ⟨_, a8, c8, e8, hr9, hf9⟩ := crow_of_own hrow
    cases e8
    have e9 : (unitC k).length = k := unit_length k
    refine ⟨cellsF a9 c9 (unitC k), ?_, one_f4 hm hr9 (fun ad e => (hf9 ad e).1), hS.below⟩
    show _ = Ending.returned (Value.agg #[.bool false, .int .i64 0, .int .u64 ((0 : Nat) : Int), .slice none 0 0, .slice a9 (unitC k).length c9, .slice none 0 0])
    rw [e9]
    rfl

theorem oneR_plain (t n : Int) (sa : Option Addr) (sc : Nat) (w : World) (hp : plainB t n 0 = true) : Calls Tryz.prog 40 #[.agg #[.int .i64 t, .int .i64 n, .slice sa 0 sc]] w (WRet (.one t n) (.one (oneP t n)) w) := by
  by_cases h4 : t = 4
  · subst h4
    obtain ⟨m, rfl, hm⟩ := dim3 hp (.inr rfl)
    exact oneR_4 m sa sc w hm
  · exact oneR_not4 t n sa sc w hp h4
theorem oneR_ok {S : PS} {sf : SF} {w : World} (hs : SIs w S sf) (hok : S.ok) : Calls Tryz.prog 40 #[sf.val] w (WRet S (oneX S) w) := by
  cases S with
  | one t n =>
    obtain ⟨a, c, rfl⟩ := hs
    exact oneR_plain _ _ _ _ _ hok
  | two t n u m =>
    obtain ⟨b, off, c, a1, c1, a2, c2, rfl, h1, h2⟩ := hs
    exact oneR_pair _ _ _ _ _ _ _ _ _ _ _ _ h1 h2 hok.1 hok.2 (fun W => oneR_plain _ _ _ _ _ hok.1) (fun W => oneR_plain _ _ _ _ _ hok.2)

set_option maxRecDepth 100000 in
set_option maxHeartbeats 4000000 in
theorem OneR_ok (S : PS) (sf : SF) (w : World) (hs : SIs w S sf) (hok : S.ok) :
    Calls Tryz.prog 13 #[sf.val] w (WRet2 S (oneX S) 0 w) := by
  refine enterF (args := [sf.val]) Tryz.func13 rfl Tryz.ntmps13 rfl ?_
  have hS := St.start w
  refine seqF ?_
  refine regF ?_
  refine op_box (cs := [_, _, _]) hS rfl rfl rfl ?_
  clear hS; intro B1 W1 hS
  refine op_alloc (cs := [_, _, _, _, _, _]) hS Tryz.zeroValue33 rfl rfl ?_
  clear hS; intro B2 W2 hS
  refine op_assign rfl rfl ?_
  refine endF ?_
  refine XF.thenN ?_
  refine seqF ?_
  refine seqF ?_
  refine regF ?_
  refine op_loadA (vs := [_, _, _]) Tryz.isAgg25 Tryz.sizeOf25 rfl (CellsAt.own (j := 0) (m := 3) (hS.at_ 1 rfl) rfl) rfl ?_
  refine op_call (vs := [_]) hS goes_19 rfl (spaceR_ok (hs.below hS.below) hok) rfl ?_
  rintro e W3 ⟨rfl, hb⟩
  refine ⟨_, rfl, hb, fun hS' => ?_⟩
  clear hS; have hS := hS'; clear hS' hb
  refine op_neq rfl rfl rfl ?_
  refine endF ?_
  refine XF.thenN ?_
  refine condF rfl (fun hc => absurd (of_decide_eq_true hc) (by omega)) (fun hc => ?_)
  have hc := of_decide_eq_false hc
  refine skipF ?_
  refine XF.thenN ?_
  refine seqF ?_
  refine regF ?_
  refine op_loadA (vs := [_, _, _]) Tryz.isAgg25 Tryz.sizeOf25 rfl (CellsAt.own (j := 0) (m := 3) (hS.at_ 1 rfl) rfl) rfl ?_
  have hsz := hS.below.size
  refine op_call (vs := [_]) hS goes_40 rfl (oneR_ok (hs.below hS.below) hok) rfl ?_
  rintro e W4 ⟨f, rfl, hn, hb⟩
  refine ⟨_, rfl, hb, fun hS' => ?_⟩
  clear hS; have hS := hS'; clear hS'
  refine op_storeA (i := 0) (vs := [_, _, _, _, _, _]) (cs' := [_, _, _, _, _, _]) (O' := [_, _]) hS Tryz.sizeOf33 rfl rfl rfl rfl rfl rfl rfl ?_
  clear hS; intro W5 hS
  refine op_assign rfl rfl ?_
  refine endF ?_
  refine XF.thenN ?_
  refine retF ?_
  refine XF.res (resCT (vs := [_, _, _, _, _, _]) Tryz.results13 Tryz.isAgg33 Tryz.sizeOf33 rfl (CellsAt.own (j := 0) (m := 6) (hS.at_ 0 rfl) rfl) rfl) ?_
  exact ⟨f, rfl, (hn.agree (hS.since 0 rfl)).mono hsz, hS.below⟩
end Go.Proofs.YtjcminoaiieckaaGreatDoor
namespace Go.Proofs.YtjcminoaiieckaaGreatDoor
open Go Go.RowKit
set_option linter.unusedVariables false
theorem weightSpaces_walk (ds dw dt dv : Nat) (s : SV) (x : WV) (t : SV) (y : WV) (w : World) (hs : SIn w ds s) (hx : WIn w dw x) (htt : SIn w dt t) (hy : WIn w dv y) (ht : Tabs w) : Calls Tryz.prog 3 #[s.f.val, x.f.val, t.f.val, y.f.val] w fun e w' => e = .returned (.bool true) ∧ Below w.heap.size w w' :=
  weightSpaces_walk0 ds dw dt dv s x t y w hs hx htt hy ht fun S sf W hs hok => OneR_ok S sf W hs hok
end Go.Proofs.YtjcminoaiieckaaGreatDoor
