import Derived.Orders
import Derived.Below
import Derived.Deep.RegionHeld
import Derived.WalkKit
import Derived.KernelRfl
import Derived.Laws.Rows
import Derived.Laws.AppendOwn
import Derived.Laws.Strings
import Derived.Laws.Small
import Derived.Lib.Hide
import Derived.IntWalk
import Derived.Laws.Tables
import Derived.Laws.Concat
import Derived.Laws.MakeOwn
import Derived.Lib.OwnBridge
import Derived.Laws.IdiomStrings
import Derived.Lib.ItoaLen
import Derived.Lib.UnsafeStr
import Derived.Lib.AppendIntMem
import Derived.Test.YtpinbmjkbkogdaaRows
import Derived.Lib.SmallJoins
import Derived.Deep.Slices
import Derived.Deep.Fields
import Derived.ChangeSlices
import Derived.ChangeSame
import Derived.ProofKit
set_option linter.unusedVariables false
set_option linter.unusedSimpArgs false
set_option linter.unusedSectionVars false
set_option linter.unnecessarySimpa false
namespace Go.Proofs.Ytpinbmjkbkogdaa
open Go Go.RowKit
def freeT (ops : Array Oper) (t : Nat) : Bool := ops.all fun o => o.dst != some t
def waitsFor (ops : Array Oper) (i j d : Nat) : Bool :=
  (match ops[i]? with | some o => o.after.any fun e => e.on == j && Region.binds .any e | none => false) && (ops[j]?).bind (·.dst) == some d
def tidyR (ops : Array Oper) (n : Nat) : Bool :=
  (List.range ops.size).all fun i => match ops[i]? with
    | some o => o.after.all (fun e => !Region.binds .any e || decide (e.on < i)) && (match o.dst with | some d => decide (d < n) && (List.range ops.size).all (fun j => j == i || (ops[j]?).bind (·.dst) != some d) | none => true)
    | none => true
def lastR (ops : Array Oper) (k : Nat) : Bool :=
  decide (k + 1 = ops.size) && (match ops[k]? with | some o => (List.range k).all fun j => o.after.any fun e => e.on == j && Region.binds .any e | none => false)

section
variable {P : Program} {ops : Array Oper} {Q : Exit → Act → World → Prop} {t0 : Array Value} {d0 : List Deferred} {G : World → Prop} {I : Nat → Value → World → Prop}
structure RInv (ops : Array Oper) (t0 : Array Value) (d0 : List Deferred) (G : World → Prop) (I : Nat → Value → World → Prop) (L : Array Bool) (a : Act) (w : World) : Prop where
  size : a.tmps.size = t0.size
  defers : a.defers = d0
  frame : ∀ t, freeT ops t = true → a.tmps.getD t undef = t0.getD t undef
  glob : G w
  done : ∀ i d, (ops[i]?).bind (·.dst) = some d → L.getD i false = true → I i (a.tmps.getD d undef) w
def RStep (P : Program) (ops : Array Oper) (Q : Exit → Act → World → Prop) (t0 : Array Value) (G : World → Prop) (I : Nat → Value → World → Prop) (i : Nat) : Prop :=
  ∀ (a : Act) (w : World), (∀ t, freeT ops t = true → a.eval (.tmp t) = t0.getD t undef) → G w → (∀ j d, waitsFor ops i j d = true → I j (a.eval (.tmp d)) w) →
    wpOp P ops Q i (fun a' w' => (∃ v, a' = a.put ((ops[i]?).bind (·.dst)) v ∧ (∀ d, (ops[i]?).bind (·.dst) = some d → I i v w')) ∧ G w' ∧ Below w.heap.size w w') a w
def RFin (ops : Array Oper) (t0 : Array Value) (d0 : List Deferred) (G : World → Prop) (I : Nat → Value → World → Prop) (n : Nat) (R : Act → World → Prop) : Prop :=
  ∀ (a : Act) (w : World), a.tmps.size = t0.size → a.defers = d0 → (∀ t, freeT ops t = true → a.tmps.getD t undef = t0.getD t undef) → G w →
    (∀ i d, i < n → (ops[i]?).bind (·.dst) = some d → I i (a.tmps.getD d undef) w) → R a w

theorem cnt_set : ∀ (l : List Bool) (i : Nat), l[i]? = some false → (l.set i true).count false + 1 = l.count false
  | [], _, h => by simp at h
  | b :: l, 0, h => by simp at h; subst h; simp
  | b :: l, i + 1, h => by
    have := cnt_set l i (by simpa using h)
    cases b <;> simp <;> omega
theorem tidy_after {n i : Nat} {o : Oper} (h : tidyR ops n = true) (ho : ops[i]? = some o) : ∀ e ∈ o.after, Region.binds .any e = true → e.on < i := fun e he hb => by
  have hi : i < ops.size := (Array.getElem?_eq_some_iff.1 ho).1
  have h1 := (List.all_eq_true.1 h) i (List.mem_range.2 hi)
  simp only [ho, Bool.and_eq_true] at h1
  have h2 := Array.all_eq_true'.1 h1.1 e he
  simp [hb] at h2
  exact h2
theorem tidy_dst {n i d : Nat} (h : tidyR ops n = true) (hd : (ops[i]?).bind (·.dst) = some d) : d < n ∧ ∀ j, (ops[j]?).bind (·.dst) = some d → j = i := by
  obtain ⟨o, ho, hd⟩ := Option.bind_eq_some_iff.1 hd
  have hi : i < ops.size := (Array.getElem?_eq_some_iff.1 ho).1
  have h1 := (List.all_eq_true.1 h) i (List.mem_range.2 hi)
  simp only [ho, hd, Bool.and_eq_true, decide_eq_true_eq] at h1
  refine ⟨h1.2.1, fun j hj => ?_⟩
  have hjs : j < ops.size := by
    obtain ⟨o', ho', _⟩ := Option.bind_eq_some_iff.1 hj
    exact (Array.getElem?_eq_some_iff.1 ho').1
  have h2 := (List.all_eq_true.1 h1.2.2) j (List.mem_range.2 hjs)
  rw [Bool.or_eq_true] at h2
  rcases h2 with h2 | h2
  · simpa using h2
  · simp only [bne_iff_ne, ne_eq] at h2
    exact absurd hj h2
theorem ready_nil {n : Nat} {L : Array Bool} (h : tidyR ops n = true) (hs : L.size = ops.size) (hr : Region.ready .any ops L = []) : ∀ i, i < ops.size → L.getD i true = true := by
  intro i
  induction i using Nat.strongRecOn with
  | _ i ih =>
  intro hi
  cases hL : L.getD i true with
  | true => rfl
  | false =>
    obtain ⟨o, ho⟩ : ∃ o, ops[i]? = some o := ⟨ops[i], Array.getElem?_eq_getElem hi⟩
    have : i ∈ Region.ready .any ops L := mem_ready.2 ⟨hL, o, ho, fun e he hb => by
      have hlt := tidy_after h ho e he hb
      have h3 := ih e.on hlt (by omega)
      rw [Array.getD_eq_getD_getElem?] at h3 ⊢
      have hes : e.on < L.size := by omega
      rw [Array.getElem?_eq_getElem hes] at h3 ⊢
      simpa using h3⟩
    rw [hr] at this
    cases this
theorem put_at {a : Act} {o : Option Nat} {v : Value} {d : Nat} (hd : o = some d) (hs : d < a.tmps.size) : (a.put o v).tmps.getD d undef = v := by
  subst hd
  simp [Act.put, hs]
theorem put_other {a : Act} {o : Option Nat} {v : Value} {t : Nat} (hd : o ≠ some t) : (a.put o v).tmps.getD t undef = a.tmps.getD t undef := by
  cases o with
  | none => rfl
  | some d =>
    have : d ≠ t := fun e => hd (by rw [e])
    simp only [Act.put, Array.getD_eq_getD_getElem?]
    rw [Array.getElem?_setIfInBounds_ne this]
theorem put_size {a : Act} {o : Option Nat} {v : Value} : (a.put o v).tmps.size = a.tmps.size := by cases o <;> simp [Act.put]
theorem put_defers {a : Act} {o : Option Nat} {v : Value} : (a.put o v).defers = a.defers := by cases o <;> rfl
theorem RInv.next {L : Array Bool} {a : Act} {w w' : World} {i : Nat} {v : Value} (h : RInv ops t0 d0 G I L a w) (ht : tidyR ops t0.size = true) (hi : L.getD i true = false)
    (hst : ∀ i v w w', G w → I i v w → Below w.heap.size w w' → I i v w') (hI : ∀ d, (ops[i]?).bind (·.dst) = some d → I i v w') (hG : G w') (hB : Below w.heap.size w w') :
    RInv ops t0 d0 G I (L.setIfInBounds i true) (a.put ((ops[i]?).bind (·.dst)) v) w' where
  size := by rw [put_size]; exact h.size
  defers := by rw [put_defers]; exact h.defers
  frame := fun t hf => by
    rw [put_other ?_]
    · exact h.frame t hf
    · intro hd
      obtain ⟨o, ho, hd⟩ := Option.bind_eq_some_iff.1 hd
      have := Array.all_eq_true'.1 hf o (Array.mem_of_getElem? ho)
      simp [hd] at this
  glob := hG
  done := fun j d hd hj => by
    by_cases hji : j = i
    · subst hji
      rw [put_at hd (by rw [h.size]; exact (tidy_dst ht hd).1)]
      exact hI d hd
    · rw [getD_set_ne false (Ne.symm hji)] at hj
      rw [put_other (fun e => hji ((tidy_dst ht e).2 j hd))]
      exact hst _ _ _ _ h.glob (h.done j d hd hj) hB
theorem RInv.deps {L : Array Bool} {a : Act} {w : World} {i : Nat} (h : RInv ops t0 d0 G I L a w) (hi : i ∈ Region.ready .any ops L) : ∀ j d, waitsFor ops i j d = true → I j (a.eval (.tmp d)) w := fun j d hw => by
  obtain ⟨_, o, ho, hall⟩ := mem_ready.1 hi
  simp only [waitsFor, ho, Bool.and_eq_true, beq_iff_eq] at hw
  obtain ⟨e, he, h1⟩ := Array.any_eq_true'.1 hw.1
  simp only [Bool.and_eq_true, beq_iff_eq] at h1
  have := hall e he h1.2
  rw [h1.1] at this
  exact h.done j d hw.2 this
theorem RInv.frameE {L : Array Bool} {a : Act} {w : World} (h : RInv ops t0 d0 G I L a w) : ∀ t, freeT ops t = true → a.eval (.tmp t) = t0.getD t undef := fun t ht => h.frame t ht
theorem region_all (ht : tidyR ops t0.size = true) (hst : ∀ i v w w', G w → I i v w → Below w.heap.size w w' → I i v w')
    (hstep : ∀ i, i < ops.size → RStep P ops Q t0 G I i) (hfin : RFin ops t0 d0 G I ops.size (Q .normal)) :
    ∀ (fuel : Nat) (L : Array Bool) (a : Act) (w : World), L.size = ops.size → L.toList.count false ≤ fuel → RInv ops t0 d0 G I L a w → wpAny P .any ops Q fuel L a w := by
  have fin : ∀ (L : Array Bool) (a : Act) (w : World), (∀ i, i < ops.size → L.getD i true = true) → L.size = ops.size → RInv ops t0 d0 G I L a w → Q .normal a w := fun L a w hall hs h =>
    hfin a w h.size h.defers h.frame h.glob fun i d hi hd => h.done i d hd (by
      have := hall i hi
      rw [Array.getD_eq_getD_getElem?] at this ⊢
      rw [Array.getElem?_eq_getElem (by omega)] at this ⊢
      simpa using this)
  intro fuel
  induction fuel with
  | zero =>
    intro L a w hs hc h
    have hall : ∀ i, i < ops.size → L.getD i true = true := fun i hi => by
      have hn : false ∉ L.toList := List.count_eq_zero.1 (by omega)
      cases hL : L.getD i true with
      | true => rfl
      | false =>
        rw [Array.getD_eq_getD_getElem?, Array.getElem?_eq_getElem (by omega)] at hL
        exact absurd (by rw [← show L[i] = false by simpa using hL]; exact Array.mem_toList_iff.2 (Array.getElem_mem _)) hn
    refine ⟨?_, fin L a w hall hs h⟩
    cases hr : Region.ready .any ops L with
    | nil => rfl
    | cons i rest =>
      have hi : i ∈ Region.ready .any ops L := by rw [hr]; exact List.mem_cons_self
      obtain ⟨h1, o, ho, _⟩ := mem_ready.1 hi
      rw [hall i (Array.getElem?_eq_some_iff.1 ho).1] at h1
      cases h1
  | succ fuel ih =>
    intro L a w hs hc h
    refine ⟨fun hr => fin L a w (ready_nil ht hs hr) hs h, fun i hi => ?_⟩
    obtain ⟨h1, o, ho, _⟩ := mem_ready.1 hi
    have his : i < ops.size := (Array.getElem?_eq_some_iff.1 ho).1
    refine wpOp_mono ?_ (hstep i his a w h.frameE h.glob (h.deps hi))
    rintro a' w' ⟨⟨v, rfl, hI⟩, hG, hB⟩
    refine ih _ _ _ (by simpa using hs) ?_ (h.next ht h1 hst hI hG hB)
    have : L.toList[i]? = some false := by
      rw [Array.getD_eq_getD_getElem?, Array.getElem?_eq_getElem (by omega)] at h1
      rw [Array.getElem?_toList, Array.getElem?_eq_getElem (by omega)]
      simpa using h1
    have := cnt_set _ _ this
    rw [Array.toList_setIfInBounds]
    omega
theorem inv_zero {a : Act} {w : World} (hG : G w) : RInv ops a.tmps a.defers G I (Array.replicate ops.size false) a w where
  size := rfl
  defers := rfl
  frame := fun _ _ => rfl
  glob := hG
  done := fun i d _ h => by
    rw [Array.getD_eq_getD_getElem?, Array.getElem?_replicate] at h
    split at h <;> simp at h
theorem count_rep (n : Nat) : (Array.replicate n false).toList.count false ≤ n := by
  rw [Array.toList_replicate, List.count_replicate_self]; exact Nat.le_refl _
theorem wp_region_inv {id : Nat} {a : Act} {w : World} (hm : P.follows .mixedOrders = true) (G : World → Prop) (I : Nat → Value → World → Prop) (hG : G w.drew)
    (ht : tidyR ops a.tmps.size = true) (hst : ∀ i v w w', G w → I i v w → Below w.heap.size w w' → I i v w')
    (hstep : ∀ i, i < ops.size → RStep P ops Q a.tmps G I i) (hfin : RFin ops a.tmps a.defers G I ops.size (Q .normal)) : (Code.region id ops true).wp P Q a w :=
  wp_region_any hm (region_all ht hst hstep hfin _ _ _ _ (by simp) (count_rep _) (inv_zero hG))
theorem wanted_free {o : Oper} {y : Nat → Option Bool} (h : o.guard = none) : Region.wanted o y = true := by simp [Region.wanted, h]
theorem wanted_bool {a : Act} {o : Oper} {g d : Nat} {b c : Bool} (h : o.guard = some (g, b)) (hd : (ops[g]?).bind (·.dst) = some d) (hv : a.eval (.tmp d) = .bool c) : Region.wanted o (yielded ops a.tmps) = (c == b) := by
  have h1 : a.tmps[d]? = some (.bool c) := by
    simp only [Act.eval, Array.getD_eq_getD_getElem?] at hv
    cases hx : a.tmps[d]? with
    | none => rw [hx] at hv; simp [undef] at hv
    | some x => rw [hx] at hv; simpa using hv
  simp [Region.wanted, h, yielded, hd, h1]
theorem RStep.value {i : Nat} {o : Oper} (hi : ops[i]? = some o)
    (h : ∀ (a : Act) (w : World), (∀ t, freeT ops t = true → a.eval (.tmp t) = t0.getD t undef) → G w → (∀ j d, waitsFor ops i j d = true → I j (a.eval (.tmp d)) w) →
      Region.wanted o (yielded ops a.tmps) = true ∧ ∃ v w', (execOp a.eval o).run P w = .ok (.value v) w' ∧ I i v w' ∧ G w' ∧ Below w.heap.size w w') : RStep P ops Q t0 G I i := fun a w hF hG hD => by
  obtain ⟨hw, v, w', hr, hI, hG', hB⟩ := h a w hF hG hD
  unfold wpOp
  simp only [hi, hw, if_true]
  refine .inl ?_
  unfold Oper.wp
  rw [hr]
  exact ⟨⟨v, by simp, fun _ _ => hI⟩, hG', hB⟩
theorem RStep.none {i : Nat} {o : Oper} (hi : ops[i]? = some o)
    (h : ∀ (a : Act) (w : World), (∀ t, freeT ops t = true → a.eval (.tmp t) = t0.getD t undef) → G w → (∀ j d, waitsFor ops i j d = true → I j (a.eval (.tmp d)) w) →
      Region.wanted o (yielded ops a.tmps) = false ∧ I i undef w) : RStep P ops Q t0 G I i := fun a w hF hG hD => by
  obtain ⟨hw, hI⟩ := h a w hF hG hD
  unfold wpOp
  simp only [hi, hw]
  exact ⟨⟨undef, by simp, fun _ _ => hI⟩, hG, Below.refl _ _⟩
theorem RStep.call {i : Nat} {o : Oper} (hi : ops[i]? = some o)
    (h : ∀ (a : Act) (w : World), (∀ t, freeT ops t = true → a.eval (.tmp t) = t0.getD t undef) → G w → (∀ j d, waitsFor ops i j d = true → I j (a.eval (.tmp d)) w) →
      Region.wanted o (yielded ops a.tmps) = true ∧ ∃ f args, (execOp a.eval o).run P w = .ok (.enter f args) w ∧
        Calls P f args w fun e w' => ∃ v, e = .returned v ∧ I i v w' ∧ G w' ∧ Below w.heap.size w w') : RStep P ops Q t0 G I i := fun a w hF hG hD => by
  obtain ⟨hw, f, args, hr, hc⟩ := h a w hF hG hD
  unfold wpOp
  simp only [hi, hw, if_true]
  refine .inl ?_
  unfold Oper.wp
  rw [hr, Oper.upon_enter]
  refine hc.mono ?_
  rintro e w' ⟨v, rfl, hI, hG', hB⟩
  exact ⟨⟨v, by simp, fun _ _ => hI⟩, hG', hB⟩
end
end Go.Proofs.Ytpinbmjkbkogdaa
namespace Go.Proofs.Ytpinbmjkbkogdaa
open Go Go.RowKit
set_option linter.unusedVariables false
abbrev Asr := Value → World → Prop
def isV (c : Value) : Asr := fun v _ => v = c
def atI : List Asr → Nat → Asr
  | [], _ => fun _ _ => True
  | p :: _, 0 => p
  | _ :: l, n + 1 => atI l n
def Stab (p : Asr) : Prop := ∀ v w w', p v w → Below w.heap.size w w' → p v w'
def StabL : List Asr → Prop
  | [] => True
  | p :: l => Stab p ∧ StabL l
theorem stab_isV (c : Value) : Stab (isV c) := fun _ _ _ h _ => h
theorem atI_stab : ∀ {L : List Asr}, StabL L → ∀ i v w w', atI L i v w → Below w.heap.size w w' → atI L i v w'
  | [], _, _, _, _, _, _, _ => trivial
  | p :: l, h, 0, v, w, w', hp, hb => h.1 v w w' hp hb
  | p :: l, h, i + 1, v, w, w', hp, hb => atI_stab h.2 i v w w' hp hb
def AllFrom (p : Nat → Prop) : Nat → Nat → Prop
  | 0, _ => True
  | n + 1, k => p k ∧ AllFrom p n (k + 1)
theorem allFrom_at {p : Nat → Prop} : ∀ {n k : Nat}, AllFrom p n k → ∀ i, i < n → p (k + i)
  | n + 1, k, h, 0, _ => h.1
  | n + 1, k, h, i + 1, hi => by
    have := allFrom_at h.2 i (by omega)
    rwa [show k + 1 + i = k + (i + 1) by omega] at this

section
variable {P : Program} {ops : Array Oper} {Q : Exit → Act → World → Prop} {t0 : Array Value} {d0 : List Deferred} {L : List Asr} {w0 : World} {i : Nat} {o : Oper} {p q r : Asr} {x y z : Operand}
abbrev RS (P : Program) (ops : Array Oper) (Q : Exit → Act → World → Prop) (t0 : Array Value) (w0 : World) (L : List Asr) (i : Nat) : Prop := RStep P ops Q t0 (fun w => Below w0.heap.size w0 w) (atI L) i
theorem wp_region_steps {id : Nat} {a : Act} {w : World} (hm : P.follows .mixedOrders = true) (L : List Asr) (ht : tidyR ops a.tmps.size = true) (hst : StabL L)
    (hstep : AllFrom (RS P ops Q a.tmps w L) ops.size 0) (hfin : RFin ops a.tmps a.defers (fun w' => Below w.heap.size w w') (atI L) ops.size (Q .normal)) : (Code.region id ops true).wp P Q a w :=
  wp_region_inv hm _ (atI L) ((Below.refl _ _).drew) ht (fun i v w w' _ h hb => atI_stab hst i v w w' h hb) (fun i hi => by have := allFrom_at hstep i hi; rwa [Nat.zero_add] at this) hfin
def Wants (ops : Array Oper) (L : List Asr) (i : Nat) (o : Oper) : Prop :=
  o.guard = none ∨ ∃ g b d, o.guard = some (g, b) ∧ (ops[g]?).bind (·.dst) = some d ∧ waitsFor ops i g d = true ∧ atI L g = isV (.bool b)
def WantsNot (ops : Array Oper) (L : List Asr) (i : Nat) (o : Oper) : Prop :=
  (∃ g b c d, o.guard = some (g, b) ∧ (ops[g]?).bind (·.dst) = some d ∧ waitsFor ops i g d = true ∧ atI L g = isV (.bool c) ∧ (c == b) = false) ∨
  ∃ g b d, o.guard = some (g, b) ∧ (ops[g]?).bind (·.dst) = some d ∧ waitsFor ops i g d = true ∧ atI L g = isV undef
theorem wanted_undef {a : Act} {o : Oper} {g d : Nat} {b : Bool} (h : o.guard = some (g, b)) (hd : (ops[g]?).bind (·.dst) = some d) (hv : a.eval (.tmp d) = undef) : Region.wanted o (yielded ops a.tmps) = false := by
  unfold Region.wanted
  rw [h]
  show (yielded ops a.tmps g == some b) = false
  unfold yielded
  rw [hd]
  show ((match a.tmps[d]? with | some (.bool b) => some b | _ => none) == some b) = false
  have h2 : a.tmps.getD d undef = undef := hv
  cases h3 : a.tmps[d]? with
  | none => rfl
  | some v =>
    have h4 : v = undef := by rw [Array.getD_eq_getD_getElem?, h3] at h2; exact h2
    subst h4; rfl
theorem Wants.yes {a : Act} {w : World} (h : Wants ops L i o) (hD : ∀ j d, waitsFor ops i j d = true → atI L j (a.eval (.tmp d)) w) : Region.wanted o (yielded ops a.tmps) = true := by
  rcases h with h | ⟨g, b, d, h, hd, hw, hL⟩
  · exact wanted_free h
  · have := hD g d hw
    rw [hL] at this
    rw [wanted_bool h hd this]; simp
theorem WantsNot.no {a : Act} {w : World} (h : WantsNot ops L i o) (hD : ∀ j d, waitsFor ops i j d = true → atI L j (a.eval (.tmp d)) w) : Region.wanted o (yielded ops a.tmps) = false := by
  rcases h with ⟨g, b, c, d, h, hd, hw, hL, hne⟩ | ⟨g, b, d, h, hd, hw, hL⟩
  · have := hD g d hw
    rw [hL] at this
    rw [wanted_bool h hd this]; exact hne
  · have := hD g d hw
    rw [hL] at this
    exact wanted_undef h hd this
def OpI (ops : Array Oper) (t0 : Array Value) (L : List Asr) (i : Nat) (x : Operand) (p : Asr) : Prop :=
  ∀ (a : Act) (w : World), (∀ t, freeT ops t = true → a.eval (.tmp t) = t0.getD t undef) → (∀ j d, waitsFor ops i j d = true → atI L j (a.eval (.tmp d)) w) → p (a.eval x) w
theorem opF {t : Nat} {v : Value} (hf : freeT ops t = true) (hv : t0.getD t undef = v) : OpI ops t0 L i (.tmp t) (isV v) := fun a w hF _ => (hF t hf).trans hv
theorem opD (j t : Nat) (hw : waitsFor ops i j t = true) (hL : atI L j = p) : OpI ops t0 L i (.tmp t) p := fun a w _ hD => hL ▸ hD j t hw
theorem st_value (hi : ops[i]? = some o) (hw : Wants ops L i o)
    (h : ∀ (a : Act) (w : World), (∀ t, freeT ops t = true → a.eval (.tmp t) = t0.getD t undef) → Below w0.heap.size w0 w → (∀ j d, waitsFor ops i j d = true → atI L j (a.eval (.tmp d)) w) →
      ∃ v w', (execOp a.eval o).run P w = .ok (.value v) w' ∧ atI L i v w' ∧ Below w.heap.size w w') : RS P ops Q t0 w0 L i :=
  RStep.value hi fun a w hF hG hD => by
    obtain ⟨v, w', h1, h2, h3⟩ := h a w hF hG hD
    exact ⟨hw.yes hD, v, w', h1, h2, hG.trans (h3.mono hG.size), h3⟩
theorem st_none (hi : ops[i]? = some o) (hw : WantsNot ops L i o) (hI : atI L i = isV undef) : RS P ops Q t0 w0 L i :=
  RStep.none hi fun a w hF hG hD => ⟨hw.no hD, by rw [hI]; rfl⟩
def goesIn (P : Program) (f : FuncId) : Bool := match P.funcs[f]? with | some fn => fn.body.isSome && !(fn.name == "runtime.NumGoroutine") | none => false
theorem run_call (P : Program) (ev : Operand → Value) (w : World) (f : FuncId) (args : Array Operand) (ts : Array TypeId) (o : Oper) (h : o.op = .call { callee := .value (.func f), args := args, argTypes := ts }) (hf : ev (.func f) = .func (.func f) #[] #[]) (hb : goesIn P f = true) : (execOp ev o).run P w = .ok (.enter f (args.map ev)) w := by
  unfold goesIn at hb
  cases hx : P.funcs[f]? with
  | none => rw [hx] at hb; cases hb
  | some fn =>
    rw [hx] at hb
    simp only [Bool.and_eq_true, Bool.not_eq_true', beq_eq_false_iff_ne, ne_eq] at hb
    obtain ⟨c, hc⟩ := Option.isSome_iff_exists.1 hb.1
    unfold execOp; simp only [h]; simp [go_sem, resolve, hf, callFunc, hx, hc, hb.2]
def Gives (p : Asr) (w : World) : Ending → World → Prop := fun e w' => ∃ v, e = .returned v ∧ p v w' ∧ Below w.heap.size w w'
theorem st_call {f : FuncId} {args : Array Operand} {ts : Array TypeId} (hi : ops[i]? = some o) (hop : o.op = .call { callee := .value (.func f), args := args, argTypes := ts }) (hgo : goesIn P f = true) (hw : Wants ops L i o)
    (hc : ∀ (a : Act) (w : World), (∀ t, freeT ops t = true → a.eval (.tmp t) = t0.getD t undef) → Below w0.heap.size w0 w → (∀ j d, waitsFor ops i j d = true → atI L j (a.eval (.tmp d)) w) → Calls P f (args.map a.eval) w (Gives (atI L i) w)) : RS P ops Q t0 w0 L i :=
  RStep.call hi fun a w hF hG hD => ⟨hw.yes hD, f, args.map a.eval, run_call P a.eval w f args ts o hop rfl hgo, (hc a w hF hG hD).mono fun e w' ⟨v, h1, h2, h3⟩ => ⟨v, h1, h2, hG.trans (h3.mono hG.size), h3⟩⟩
end
end Go.Proofs.Ytpinbmjkbkogdaa
namespace Go.Proofs.Ytpinbmjkbkogdaa
open Go Go.RowKit
set_option linter.unusedVariables false
abbrev Fr := List (Nat × Value)
def look : Fr → Nat → Option Value
  | [], _ => none
  | p :: l, t => bif Nat.beq p.1 t then some p.2 else look l t
structure Has (n : Nat) (l : Fr) (a : Act) : Prop where
  size : a.tmps.size = n
  defers : a.defers = []
  at_ : ∀ t v, look l t = some v → a.tmps.getD t undef = v
theorem Has.put {n : Nat} {l : Fr} {a : Act} {d : Nat} {v : Value} (h : Has n l a) (hd : Nat.blt d n = true) : Has n ((d, v) :: l) (a.put (some d) v) := by
  have hd' : d < n := Nat.le_of_ble_eq_true hd
  refine ⟨by rw [put_size]; exact h.size, by rw [put_defers]; exact h.defers, fun t u hu => ?_⟩
  unfold look at hu
  cases hb : Nat.beq d t with
  | true =>
    have : d = t := Nat.eq_of_beq_eq_true hb
    subst this
    simp only [hb, cond_true, Option.some.injEq] at hu
    rw [put_at rfl (by rw [h.size]; exact hd')]; exact hu
  | false =>
    simp only [hb, cond_false] at hu
    have hne : d ≠ t := fun e => by subst e; rw [Nat.beq_refl] at hb; cases hb
    rw [put_other (fun e => hne (Option.some.inj e))]
    exact h.at_ t u hu
def evL (l : Fr) : Operand → Option Value
  | .tmp t => look l t
  | .const v => some v
  | .global g => some (.pointer (some ⟨g, 0, none⟩))
  | .func f => some (.func (.func f) #[] #[])
theorem Has.ev {n : Nat} {l : Fr} {a : Act} (h : Has n l a) : ∀ x v, evL l x = some v → a.eval x = v := by
  intro x v hx
  cases x with
  | tmp t => exact h.at_ t v hx
  | const u => exact Option.some.inj hx
  | global g => exact Option.some.inj hx
  | func f => exact Option.some.inj hx
def SubF (l : Fr) : Fr → Prop
  | [] => True
  | p :: r => look l p.1 = some p.2 ∧ SubF l r
theorem SubF.at_ {l : Fr} : ∀ {r : Fr}, SubF l r → ∀ t v, look r t = some v → look l t = some v
  | [], _, t, v, h => by cases h
  | p :: r, h, t, v, hv => by
    unfold look at hv
    cases hb : Nat.beq p.1 t with
    | true =>
      simp only [hb, cond_true, Option.some.injEq] at hv
      rw [← Nat.eq_of_beq_eq_true hb, ← hv]; exact h.1
    | false =>
      simp only [hb, cond_false] at hv
      exact SubF.at_ h.2 t v hv
theorem Has.sub {n : Nat} {l r : Fr} {a : Act} (h : Has n l a) (hs : SubF l r) : Has n r a := ⟨h.size, h.defers, fun t v hv => h.at_ t v (hs.at_ t v hv)⟩
def parFr : Nat → List Value → Fr
  | _, [] => []
  | i, v :: r => (i, v) :: parFr (i + 1) r
theorem look_par : ∀ (r : List Value) (i t : Nat) (v : Value), look (parFr i r) t = some v → i ≤ t ∧ r[t - i]? = some v
  | [], _, _, _, h => by cases h
  | u :: r, i, t, v, h => by
    unfold parFr look at h
    cases hb : Nat.beq i t with
    | true =>
      have : i = t := Nat.eq_of_beq_eq_true hb
      subst this
      simp only [hb, cond_true, Option.some.injEq] at h
      simp [h]
    | false =>
      simp only [hb, cond_false] at h
      have hne : i ≠ t := fun e => by subst e; rw [Nat.beq_refl] at hb; cases hb
      obtain ⟨h1, h2⟩ := look_par r (i + 1) t v h
      exact ⟨by omega, by rw [show t - i = (t - (i + 1)) + 1 by omega]; exact h2⟩
theorem has_par {n : Nat} {args : List Value} (hn : Nat.ble args.length n = true) : Has n (parFr 0 args) { tmps := args.toArray ++ Array.replicate (n - args.toArray.size) undef, defers := [] } := by
  have hn' : args.length ≤ n := Nat.le_of_ble_eq_true hn
  refine ⟨by simp; omega, rfl, fun t v h => ?_⟩
  obtain ⟨_, h2⟩ := look_par _ _ _ _ h
  have ht : t < args.length := (List.getElem?_eq_some_iff.1 h2).1
  simp only [Array.getD_eq_getD_getElem?]
  rw [Array.getElem?_append_left (by simpa using ht)]
  simp only [Nat.sub_zero] at h2
  simp [h2]

section
variable {P : Program} {n : Nat} {Q : Exit → Act → World → Prop} {l : Fr} {W : World} {ops : Array Oper} {os : List Oper}
def CodeF (P : Program) (n : Nat) (c : Code) (Q : Exit → Act → World → Prop) (l : Fr) (W : World) : Prop := ∀ a, Has n l a → c.wp P Q a W
def OpsF (P : Program) (n : Nat) (ops : Array Oper) (Q : Exit → Act → World → Prop) (os : List Oper) (l : Fr) (W : World) : Prop := ∀ a, Has n l a → wpList P ops Q os a W
def XF (Q : Exit → Act → World → Prop) (e : Exit) (n : Nat) (l : Fr) (W : World) : Prop := ∀ a, Has n l a → Q e a W
theorem enterF {f : FuncId} {fn : Func} {c : Code} {args : List Value} {R : Ending → World → Prop} (hf : P.funcs[f]? = some fn) (hb : fn.body = some c) (hn : fn.ntmps = n) (hl : Nat.ble args.length n = true)
    (h : CodeF P n c (bodyPost P fn R) (parFr 0 args) W) : Calls P f args.toArray W R :=
  calls_of_wp hf hb (by subst hn; exact h _ (has_par hl))
theorem seqF {x y : Code} (h : CodeF P n x (Exit.then (y.wp P Q) Q) l W) : CodeF P n (.seq x y) Q l W := fun a ha => wp_seq (h a ha)
theorem skipF (h : XF Q .normal n l W) : CodeF P n .skip Q l W := fun a ha => wp_skip (h a ha)
theorem exitF {i : Nat} (h : XF Q (.exit i) n l W) : CodeF P n (.exit i) Q l W := fun a ha => wp_exit (h a ha)
theorem retF (h : XF Q .ret n l W) : CodeF P n .ret Q l W := fun a ha => wp_ret (h a ha)
theorem blockF {i : Nat} {c : Code} (h : CodeF P n c (Exit.inBlock i Q) l W) : CodeF P n (.block i c) Q l W := fun a ha => wp_block (h a ha)
theorem condF {c : Operand} {x y : Code} {b : Bool} (hc : evL l c = some (.bool b)) (ht : b = true → CodeF P n x Q l W) (hf : b = false → CodeF P n y Q l W) : CodeF P n (.cond c x y) Q l W :=
  fun a ha => wp_cond_split (t := b) (ha.ev _ _ hc) (fun e => ht e a ha) (fun e => hf e a ha)
theorem condT {c : Operand} {x y : Code} (hc : evL l c = some (.bool true)) (h : CodeF P n x Q l W) : CodeF P n (.cond c x y) Q l W := fun a ha => wp_cond_true (ha.ev _ _ hc) (h a ha)
theorem condN {c : Operand} {x y : Code} (hc : evL l c = some (.bool false)) (h : CodeF P n y Q l W) : CodeF P n (.cond c x y) Q l W := fun a ha => wp_cond_false (ha.ev _ _ hc) (h a ha)
theorem regF {id : Nat} (h : OpsF P n os.toArray Q os l W) : CodeF P n (.region id os.toArray false) Q l W := fun a ha => wp_region_lit (h a ha)
theorem loopF {c : Code} (I : Nat → Fr → World → Prop) (m0 : Nat) (l0 : Fr) (hs : SubF l l0) (h0 : I m0 l0 W)
    (round : ∀ m l W, I m l W → CodeF P n c (Exit.then (fun a' w' => ∃ m' l', m' < m ∧ I m' l' w' ∧ Has n l' a') Q) l W) : CodeF P n (.loop c) Q l W := fun a ha => by
  intro b k cs
  have key : ∀ m l W a, I m l W → Has n l a → ∃ e a' w', Q e a' w' ∧ Arrives P (lone (b.at a (.code c :: .inLoop c :: k)) cs W) b k cs e a' w' := by
    intro m
    induction m using Nat.strongRecOn with
    | _ m ih =>
      intro l W a hI ha
      obtain ⟨e, a₁, w₁, hq, harr⟩ := round m l W hI a ha b (.inLoop c :: k) cs
      cases e with
      | normal =>
        obtain ⟨m', l', hlt, hI₁, ha₁⟩ := hq
        obtain ⟨e₂, a₂, w₂, hq₂, harr₂⟩ := ih m' hlt l' w₁ a₁ hI₁ ha₁
        exact ⟨e₂, a₂, w₂, hq₂, .of_steps (Steps.trans harr (.one step_inLoop)) harr₂⟩
      | exit id => exact ⟨_, a₁, w₁, hq, .pass (x := .inLoop c) rfl (fun _ _ => .inl (by simp)) harr⟩
      | goto l => exact ⟨_, a₁, w₁, hq, .pass (x := .inLoop c) rfl (fun _ _ => .inl (by simp)) harr⟩
      | ret => exact ⟨_, a₁, w₁, hq, .pass (x := .inLoop c) rfl (fun _ _ => .inl (by simp)) harr⟩
      | panic ch => exact ⟨_, a₁, w₁, hq, .pass (x := .inLoop c) rfl (fun _ _ => .inl (by simp)) harr⟩
      | outgrown => exact ⟨_, a₁, w₁, hq, .pass (x := .inLoop c) rfl (fun _ _ => .inl (by simp)) harr⟩
  obtain ⟨e, a', w', hq, harr⟩ := key m0 l0 W a h0 (ha.sub hs)
  exact ⟨e, a', w', hq, .of_steps (.one step_loop) harr⟩
theorem XF.thenN {y : Code} (h : CodeF P n y Q l W) : XF (Exit.then (y.wp P Q) Q) .normal n l W := fun a ha => h a ha
theorem XF.thenX {i : Nat} {K : Act → World → Prop} (h : XF Q (.exit i) n l W) : XF (Exit.then K Q) (.exit i) n l W := fun a ha => h a ha
theorem XF.thenR {K : Act → World → Prop} (h : XF Q .ret n l W) : XF (Exit.then K Q) .ret n l W := fun a ha => h a ha
theorem XF.blkN {i : Nat} (h : XF Q .normal n l W) : XF (Exit.inBlock i Q) .normal n l W := fun a ha => h a ha
theorem XF.blkR {i : Nat} (h : XF Q .ret n l W) : XF (Exit.inBlock i Q) .ret n l W := fun a ha => h a ha
theorem XF.blkX {i : Nat} (h : XF Q .normal n l W) : XF (Exit.inBlock i Q) (.exit i) n l W := fun a ha => by show (if i = i then Q .normal a W else Q (.exit i) a W); rw [if_pos rfl]; exact h a ha
theorem XF.blkO {i j : Nat} (hne : Nat.beq j i = false) (h : XF Q (.exit j) n l W) : XF (Exit.inBlock i Q) (.exit j) n l W := fun a ha => by
  show (if j = i then Q .normal a W else Q (.exit j) a W)
  rw [if_neg (fun e => by subst e; rw [Nat.beq_refl] at hne; cases hne)]; exact h a ha
theorem XF.round {I : Nat → Fr → World → Prop} {m : Nat} (m' : Nat) (l' : Fr) (hm : m' < m) (hs : SubF l l') (hI : I m' l' W) : XF (Exit.then (fun a' w' => ∃ m' l', m' < m ∧ I m' l' w' ∧ Has n l' a') Q) .normal n l W :=
  fun a ha => ⟨m', l', hm, hI, ha.sub hs⟩
theorem endF (h : XF Q .normal n l W) : OpsF P n ops Q [] l W := fun a ha => h a ha
theorem XF.res {fn : Func} {R : Ending → World → Prop} {v : Value} (hr : ∀ a, Has n l a → (results fn a.tmps).run P W = .ok v W) (hR : R (.returned v) W) : XF (bodyPost P fn R) .ret n l W :=
  fun a ha => ⟨ha.defers, v, hr a ha, hR⟩
theorem res1 {fn : Func} {t : Nat} {v : Value} (hf : fn.results = #[.tmp t]) (hv : look l t = some v) : ∀ a, Has n l a → (results fn a.tmps).run P W = .ok v W :=
  fun a ha => by rw [results_tmp hf, ha.at_ t v hv]
theorem res0 {fn : Func} (hf : fn.results = #[]) : ∀ a, Has n l a → (results fn a.tmps).run P W = .ok (.tuple #[]) W :=
  fun a ha => by rw [results_none hf]

theorem op_wantedF {dst : Option Tmp} {op : Op} {ty : TypeId} {pos : String} {aft : Array Edge} {g d : Nat} {b : Bool} (hd : (ops[g]?).bind (·.dst) = some d) (hv : look l d = some (.bool b))
    (h : OpsF P n ops Q (⟨dst, op, ty, pos, aft, none⟩ :: os) l W) : OpsF P n ops Q (⟨dst, op, ty, pos, aft, some (g, b)⟩ :: os) l W := fun a ha => by
  have h1 := h a ha
  have hw : Region.wanted ⟨dst, op, ty, pos, aft, some (g, b)⟩ (yielded ops a.tmps) = true := by
    rw [wanted_bool (ops := ops) rfl hd (ha.at_ d _ hv)]; simp
  unfold wpList at h1 ⊢
  rw [hw]
  rw [show Region.wanted ⟨dst, op, ty, pos, aft, none⟩ (yielded ops a.tmps) = true from rfl] at h1
  exact h1
theorem op_notF {dst : Nat} {op : Op} {ty : TypeId} {pos : String} {aft : Array Edge} {g d : Nat} {b c : Bool} (hd : (ops[g]?).bind (·.dst) = some d) (hv : look l d = some (.bool c)) (hc : (c == b) = false) (hn : Nat.blt dst n = true)
    (h : OpsF P n ops Q os ((dst, undef) :: l) W) : OpsF P n ops Q (⟨some dst, op, ty, pos, aft, some (g, b)⟩ :: os) l W := fun a ha => by
  have hw : Region.wanted ⟨some dst, op, ty, pos, aft, some (g, b)⟩ (yielded ops a.tmps) = false := by
    rw [wanted_bool (ops := ops) rfl hd (ha.at_ d _ hv)]; exact hc
  unfold wpList
  rw [hw]
  exact h _ (ha.put hn)
theorem op_cases {d : Nat} {b : Bool} (hv : look l d = some (.bool b)) (ht : b = true → OpsF P n ops Q os ((d, .bool true) :: l) W) (hf : b = false → OpsF P n ops Q os ((d, .bool false) :: l) W) : OpsF P n ops Q os l W := fun a ha => by
  have hb := ha.at_ d _ hv
  have key : ∀ c, b = c → Has n ((d, .bool c) :: l) a := fun c hc => ⟨ha.size, ha.defers, fun t u hu => by
    unfold look at hu
    cases hx : Nat.beq d t with
    | true =>
      simp only [hx, cond_true, Option.some.injEq] at hu
      rw [← Nat.eq_of_beq_eq_true hx, ← hu, ← hc]; exact hb
    | false =>
      simp only [hx, cond_false] at hu
      exact ha.at_ t u hu⟩
  cases hc : b with
  | true => exact ht hc a (key _ hc)
  | false => exact hf hc a (key _ hc)

variable {d : Nat} {op : Op} {ty : TypeId} {pos : String} {aft : Array Edge} {v : Value}
def Runs (P : Program) (l : Fr) (o : Oper) (W : World) (v : Value) (W' : World) : Prop := ∀ ev : Operand → Value, (∀ x u, evL l x = some u → ev x = u) → (execOp ev o).run P W = .ok (.value v) W'
theorem opV {W' : World} (hr : Runs P l ⟨some d, op, ty, pos, aft, none⟩ W v W') (hd : Nat.blt d n = true) (h : OpsF P n ops Q os ((d, v) :: l) W') : OpsF P n ops Q (⟨some d, op, ty, pos, aft, none⟩ :: os) l W := fun a ha =>
  wpList_plain rfl fun K hK => by
    unfold Oper.wp
    rw [hr a.eval ha.ev]
    exact hK _ _ (h _ (ha.put hd))
theorem rn_move {x : Operand} (hx : evL l x = some v) : Runs P l ⟨some d, .move x, ty, pos, aft, none⟩ W (v) W := fun ev he => by unfold execOp; simp only []; rw [he x v hx]; rfl
theorem op_move {x : Operand} (hx : evL l x = some v) (hd : Nat.blt d n = true) (h : OpsF P n ops Q os ((d, v) :: l) W) : OpsF P n ops Q (⟨some d, .move x, ty, pos, aft, none⟩ :: os) l W := opV (rn_move hx) hd h
theorem rn_assign {x : Operand} (hx : evL l x = some v) : Runs P l ⟨some d, .assign x, ty, pos, aft, none⟩ W (v) W := fun ev he => by unfold execOp; simp only []; rw [he x v hx]; rfl
theorem op_assign {x : Operand} (hx : evL l x = some v) (hd : Nat.blt d n = true) (h : OpsF P n ops Q os ((d, v) :: l) W) : OpsF P n ops Q (⟨some d, .assign x, ty, pos, aft, none⟩ :: os) l W := opV (rn_assign hx) hd h
theorem rn_pickT {x y z : Operand} (hx : evL l x = some (.bool true)) (hy : evL l y = some v) : Runs P l ⟨some d, .pick x y z, ty, pos, aft, none⟩ W (v) W := fun ev he => by unfold execOp; simp only []; rw [he x _ hx, he y _ hy]; rfl
theorem op_pickT {x y z : Operand} (hx : evL l x = some (.bool true)) (hy : evL l y = some v) (hd : Nat.blt d n = true) (h : OpsF P n ops Q os ((d, v) :: l) W) : OpsF P n ops Q (⟨some d, .pick x y z, ty, pos, aft, none⟩ :: os) l W := opV (rn_pickT hx hy) hd h
theorem rn_pickF {x y z : Operand} (hx : evL l x = some (.bool false)) (hz : evL l z = some v) : Runs P l ⟨some d, .pick x y z, ty, pos, aft, none⟩ W (v) W := fun ev he => by unfold execOp; simp only []; rw [he x _ hx, he z _ hz]; rfl
theorem op_pickF {x y z : Operand} (hx : evL l x = some (.bool false)) (hz : evL l z = some v) (hd : Nat.blt d n = true) (h : OpsF P n ops Q os ((d, v) :: l) W) : OpsF P n ops Q (⟨some d, .pick x y z, ty, pos, aft, none⟩ :: os) l W := opV (rn_pickF hx hz) hd h
theorem rn_not {x : Operand} {b : Bool} {t : TypeId} (hx : evL l x = some (.bool b)) : Runs P l ⟨some d, .unOp .not t x, ty, pos, aft, none⟩ W (.bool (!b)) W := fun ev he => by unfold execOp; simp only []; rw [he x _ hx]; rfl
theorem op_not {x : Operand} {b : Bool} {t : TypeId} (hx : evL l x = some (.bool b)) (hd : Nat.blt d n = true) (h : OpsF P n ops Q os ((d, .bool (!b)) :: l) W) : OpsF P n ops Q (⟨some d, .unOp .not t x, ty, pos, aft, none⟩ :: os) l W := opV (rn_not hx) hd h
theorem rn_extract {x : Operand} {i : Nat} {vs : Array Value} (hx : evL l x = some (.tuple vs)) (hv : vs[i]? = some v) : Runs P l ⟨some d, .extract x i, ty, pos, aft, none⟩ W (v) W := fun ev he => by unfold execOp; simp only []; rw [he x _ hx]; simp [Instr.extract, hv]
theorem op_extract {x : Operand} {i : Nat} {vs : Array Value} (hx : evL l x = some (.tuple vs)) (hv : vs[i]? = some v) (hd : Nat.blt d n = true) (h : OpsF P n ops Q os ((d, v) :: l) W) : OpsF P n ops Q (⟨some d, .extract x i, ty, pos, aft, none⟩ :: os) l W := opV (rn_extract hx hv) hd h
theorem rn_len {x : Operand} {t e : TypeId} {ad : Option Addr} {m c : Nat} (ht : P.underlying t = some (.slice e)) (hx : evL l x = some (.slice ad m c)) : Runs P l ⟨some d, .call { callee := .builtin .len, args := #[x], argTypes := #[t] }, ty, pos, aft, none⟩ W (.int .i64 (m : Int)) W := fun ev he => by unfold execOp; simp [resolve, invoke, builtin, he x _ hx, Builtin.len_, run_underlying ht, goInt]
theorem op_len {x : Operand} {t e : TypeId} {ad : Option Addr} {m c : Nat} (ht : P.underlying t = some (.slice e)) (hx : evL l x = some (.slice ad m c)) (hd : Nat.blt d n = true) (h : OpsF P n ops Q os ((d, .int .i64 (m : Int)) :: l) W) : OpsF P n ops Q (⟨some d, .call { callee := .builtin .len, args := #[x], argTypes := #[t] }, ty, pos, aft, none⟩ :: os) l W := opV (rn_len ht hx) hd h
end
end Go.Proofs.Ytpinbmjkbkogdaa
namespace Go.Proofs.Ytpinbmjkbkogdaa
open Go Go.RowKit
set_option linter.unusedVariables false
def Agree (lo : Nat) (A W : World) : Prop := A.heap.size ≤ W.heap.size ∧ ∀ b, lo ≤ b → b < A.heap.size → W.heap[b]? = A.heap[b]?
theorem Agree.refl (lo : Nat) (A : World) : Agree lo A A := ⟨Nat.le_refl _, fun _ _ _ => rfl⟩
theorem Agree.cell {lo : Nat} {A W : World} (h : Agree lo A W) {p : Addr} {v : Value} (hp : lo ≤ p.block) (hc : A.cell? p = some v) : W.cell? p = some v :=
  (World.cell?_of_block (h.2 p.block hp (World.block_lt_of_cell? A p hc))).trans hc
theorem below_agree {A W : World} (h : Below A.heap.size A W) (lo : Nat) : Agree lo A W := ⟨h.size, fun b _ hb => h.block b hb⟩

abbrev Own := List (Nat × List Value × TypeId)
structure GR where
  v : Value
  n : Nat
  xs : List Value
  e : TypeId
  size : Nat
abbrev Grows := List GR
def Value.apart (v u : Value) : Prop := ∀ b, v.ownBlock = some b → u.ownBlock ≠ some b
structure St (w0 : World) (O : Own) (G : Grows) (K : List (Nat × World)) (W : World) : Prop where
  below : Below w0.heap.size w0 W
  own : ∀ p ∈ O, w0.heap.size ≤ p.1 ∧ W.heap[p.1]? = some (.cells p.2.1.toArray p.2.2 (0, 0))
  dist : O.Pairwise (fun p q => p.1 ≠ q.1)
  kept : ∀ q ∈ K, Agree q.1 q.2 W ∧ ∀ p ∈ O, p.1 < q.1 ∨ q.2.heap.size ≤ p.1
  rows : ∀ g ∈ G, W.ownsRow w0.heap.size g.e g.size g.v g.n g.xs ∧ ∀ b, g.v.ownBlock = some b → (∀ p ∈ O, p.1 ≠ b) ∧ ∀ q ∈ K, b < q.1 ∨ q.2.heap.size ≤ b
  gdist : G.Pairwise (fun g h => Value.apart g.v h.v)
section
variable {w0 W : World} {O : Own} {G : Grows} {K : List (Nat × World)}
theorem lt_of_heap {w : World} {b : Nat} {o : Obj} (h : w.heap[b]? = some o) : b < w.heap.size := (Array.getElem?_eq_some_iff.1 h).1
theorem St.start (w : World) : St w [] [] [] w := ⟨Below.refl _ _, (fun p h => by cases h), List.Pairwise.nil, (fun q h => by cases h), (fun q h => by cases h), List.Pairwise.nil⟩
theorem St.glt (h : St w0 O G K W) {g : GR} (hg : g ∈ G) {b : Nat} (hb : g.v.ownBlock = some b) : w0.heap.size ≤ b ∧ b < W.heap.size := (h.rows g hg).1.lt b hb
theorem ownsRow_same {w w' : World} {base : Nat} {e : TypeId} {size : Nat} {v : Value} {n : Nat} {xs : List Value} (h : w.ownsRow base e size v n xs) (hb : ∀ b, v.ownBlock = some b → w'.heap[b]? = w.heap[b]?) : w'.ownsRow base e size v n xs := by
  refine ⟨h.1, ?_⟩
  rcases h.2 with h2 | ⟨g, cap, cur, rfl, h3, h4, h5⟩
  · exact .inl h2
  · exact .inr ⟨g, cap, cur, rfl, h3, by rw [hb g rfl]; exact h4, h5⟩
theorem St.alloc (h : St w0 O G K W) (cs : List Value) (T : TypeId) : St w0 ((W.heap.size, cs, T) :: O) G K (W.alloc (.cells cs.toArray T)) where
  below := h.below.alloc h.below.size _
  own := fun p hp => by
    rcases List.mem_cons.1 hp with rfl | hp
    · exact ⟨h.below.size, heap_alloc_new W _⟩
    · obtain ⟨h1, h2⟩ := h.own p hp
      exact ⟨h1, (Below.heap_alloc W _ _ (lt_of_heap h2)).trans h2⟩
  dist := List.Pairwise.cons (fun q hq e => by have := lt_of_heap (h.own q hq).2; simp only at e; omega) h.dist
  kept := fun q hq => by
    obtain ⟨h1, h2⟩ := h.kept q hq
    refine ⟨⟨by have := h1.1; simp; omega, fun b hb hb2 => (Below.heap_alloc W _ _ (by have := h1.1; omega)).trans (h1.2 b hb hb2)⟩, fun p hp => ?_⟩
    rcases List.mem_cons.1 hp with rfl | hp
    · exact .inr h1.1
    · exact h2 p hp
  rows := fun g hg => by
    obtain ⟨h1, h2⟩ := h.rows g hg
    refine ⟨ownsRow_same h1 fun b hb => Below.heap_alloc W _ _ (h.glt hg hb).2, fun b hb => ⟨fun p hp => ?_, (h2 b hb).2⟩⟩
    rcases List.mem_cons.1 hp with rfl | hp
    · have := (h.glt hg hb).2; simp only; omega
    · exact (h2 b hb).1 p hp
  gdist := h.gdist
theorem St.grow {W' : World} (h : St w0 O G K W) (hb : Below W.heap.size W W') : St w0 O G K W' where
  below := h.below.trans (hb.mono h.below.size)
  own := fun p hp => by
    obtain ⟨h1, h2⟩ := h.own p hp
    exact ⟨h1, (hb.block _ (lt_of_heap h2)).trans h2⟩
  dist := h.dist
  kept := fun q hq => by
    obtain ⟨h1, h2⟩ := h.kept q hq
    exact ⟨⟨Nat.le_trans h1.1 hb.size, fun b hb1 hb2 => (hb.block b (Nat.lt_of_lt_of_le hb2 h1.1)).trans (h1.2 b hb1 hb2)⟩, h2⟩
  rows := fun g hg => ⟨ownsRow_same (h.rows g hg).1 fun b h1 => hb.block b (h.glt hg h1).2, (h.rows g hg).2⟩
  gdist := h.gdist
theorem St.call {W' : World} (h : St w0 O G K W) (hb : Below W.heap.size W W') : St w0 O G ((W.heap.size, W') :: K) W' :=
  let g := h.grow hb
  ⟨g.below, g.own, g.dist, fun q hq => by
    rcases List.mem_cons.1 hq with rfl | hq
    · exact ⟨Agree.refl _ _, fun p hp => .inl (lt_of_heap (h.own p hp).2)⟩
    · exact g.kept q hq, (fun r hr => ⟨(g.rows r hr).1, fun b hb => ⟨((g.rows r hr).2 b hb).1, fun q hq => by
      rcases List.mem_cons.1 hq with rfl | hq
      · exact .inl (h.glt hr hb).2
      · exact ((g.rows r hr).2 b hb).2 q hq⟩⟩), g.gdist⟩
theorem St.at_ (h : St w0 O G K W) (i : Nat) {B : Nat} {cs : List Value} {T : TypeId} (hi : O[i]? = some (B, cs, T)) : W.heap[B]? = some (.cells cs.toArray T (0, 0)) := (h.own _ (List.mem_of_getElem? hi)).2
theorem St.ge (h : St w0 O G K W) (i : Nat) {B : Nat} {cs : List Value} {T : TypeId} (hi : O[i]? = some (B, cs, T)) : w0.heap.size ≤ B := (h.own _ (List.mem_of_getElem? hi)).1
theorem St.since (h : St w0 O G K W) (i : Nat) {lo : Nat} {A : World} (hi : K[i]? = some (lo, A)) : Agree lo A W := (h.kept _ (List.mem_of_getElem? hi)).1
theorem St.agree (h : St w0 O G K W) : Agree 0 w0 W := below_agree h.below 0
theorem cell_own {B j : Nat} {cs : List Value} {T : TypeId} {v : Value} (h : W.heap[B]? = some (.cells cs.toArray T (0, 0))) (hv : cs[j]? = some v) : W.cell? ⟨B, j, none⟩ = some v := by
  unfold World.cell?; simp [h, hv]
theorem frozen_own {B j : Nat} {cs : List Value} {T : TypeId} (h : W.heap[B]? = some (.cells cs.toArray T (0, 0))) : W.frozen? ⟨B, j, none⟩ = false := by
  unfold World.frozen?; simp [h]
theorem heap_set {B j : Nat} {cs : List Value} {T : TypeId} (v : Value) (h : W.heap[B]? = some (.cells cs.toArray T (0, 0))) : (W.setCell ⟨B, j, none⟩ v).heap[B]? = some (.cells (cs.set j v).toArray T (0, 0)) := by
  simp only [World.setCell, Array.getElem?_modify, if_true, h, Option.map_some]
  simp
theorem pw_set {x y : Nat × List Value × TypeId} (hx : x.1 = y.1) : ∀ {O : Own} {i : Nat}, O[i]? = some x → O.Pairwise (fun p q => p.1 ≠ q.1) → (O.set i y).Pairwise (fun p q => p.1 ≠ q.1)
  | [], _, h, _ => by simp at h
  | p :: O, 0, h, hp => by
    simp at h; subst h
    cases hp with
    | cons a b => exact List.Pairwise.cons (fun q hq => by rw [← hx]; exact a q hq) b
  | p :: O, i + 1, h, hp => by
    cases hp with
    | cons a b =>
      refine List.Pairwise.cons (fun q hq => ?_) (pw_set hx (by simpa using h) b)
      rcases List.mem_or_eq_of_mem_set hq with hq | rfl
      · exact a q hq
      · rw [← hx]; exact a x (List.mem_of_getElem? (by simpa using h))
theorem mem_set_ne : ∀ {O : Own} {i : Nat} {x y q : Nat × List Value × TypeId}, O[i]? = some x → O.Pairwise (fun p q => p.1 ≠ q.1) → q ∈ O.set i y → q = y ∨ (q ∈ O ∧ q.1 ≠ x.1)
  | [], _, _, _, _, h, _, _ => by simp at h
  | p :: O, 0, x, y, q, h, hp, hq => by
    simp at h; subst h
    cases hp with
    | cons a b =>
      rcases List.mem_cons.1 hq with rfl | hq
      · exact .inl rfl
      · exact .inr ⟨List.mem_cons_of_mem _ hq, fun e => a q hq e.symm⟩
  | p :: O, i + 1, x, y, q, h, hp, hq => by
    cases hp with
    | cons a b =>
      rcases List.mem_cons.1 hq with rfl | hq
      · exact .inr ⟨List.mem_cons_self, a x (List.mem_of_getElem? (by simpa using h))⟩
      · rcases mem_set_ne (by simpa using h) b hq with h1 | ⟨h1, h2⟩
        · exact .inl h1
        · exact .inr ⟨List.mem_cons_of_mem _ h1, h2⟩
theorem St.set (h : St w0 O G K W) (i : Nat) {B : Nat} {cs : List Value} {T : TypeId} (hi : O[i]? = some (B, cs, T)) (j : Nat) (v : Value) : St w0 (O.set i (B, cs.set j v, T)) G K (W.setCell ⟨B, j, none⟩ v) where
  below := h.below.setCell (p := ⟨B, j, none⟩) (h.ge i hi) v
  own := fun p hp => by
    rcases mem_set_ne hi h.dist hp with rfl | ⟨h1, h2⟩
    · exact ⟨h.ge i hi, heap_set v (h.at_ i hi)⟩
    · obtain ⟨h3, h4⟩ := h.own p h1
      exact ⟨h3, (Below.heap_setCell _ _ _ _ h2).trans h4⟩
  dist := pw_set (x := (B, cs, T)) (y := (B, cs.set j v, T)) rfl hi h.dist
  kept := fun q hq => by
    obtain ⟨h1, h2⟩ := h.kept q hq
    have hB := h2 _ (List.mem_of_getElem? hi)
    refine ⟨⟨by have := h1.1; simpa using this, fun b hb hb2 => (Below.heap_setCell _ _ _ _ (by show b ≠ B; simp only at hB; omega)).trans (h1.2 b hb hb2)⟩, fun p hp => ?_⟩
    rcases mem_set_ne hi h.dist hp with rfl | ⟨h3, _⟩
    · exact hB
    · exact h2 p h3
  rows := fun g hg => by
    obtain ⟨h1, h2⟩ := h.rows g hg
    refine ⟨ownsRow_same h1 fun b hb => Below.heap_setCell _ _ _ _ (fun e => (h2 b hb).1 _ (List.mem_of_getElem? hi) (by simpa using e.symm)), fun b hb => ⟨fun p hp => ?_, (h2 b hb).2⟩⟩
    rcases mem_set_ne hi h.dist hp with rfl | ⟨h3, _⟩
    · exact (h2 b hb).1 (B, cs, T) (List.mem_of_getElem? hi)
    · exact (h2 b hb).1 p h3
  gdist := h.gdist
theorem St.tail {p : Nat × List Value × TypeId} (h : St w0 (p :: O) G K W) : St w0 O G K W where
  below := h.below
  own := fun q hq => h.own q (List.mem_cons_of_mem _ hq)
  dist := by cases h.dist with | cons a b => exact b
  kept := fun q hq => ⟨(h.kept q hq).1, fun r hr => (h.kept q hq).2 r (List.mem_cons_of_mem _ hr)⟩
  rows := fun g hg => ⟨(h.rows g hg).1, fun b hb => ⟨fun r hr => ((h.rows g hg).2 b hb).1 r (List.mem_cons_of_mem _ hr), ((h.rows g hg).2 b hb).2⟩⟩
  gdist := h.gdist
theorem St.keep (K' : List (Nat × World)) (h : St w0 O G K W) (hk : ∀ q ∈ K', q ∈ K) : St w0 O G K' W where
  below := h.below
  own := h.own
  dist := h.dist
  kept := fun q hq => h.kept q (hk q hq)
  rows := fun g hg => ⟨(h.rows g hg).1, fun b hb => ⟨((h.rows g hg).2 b hb).1, fun q hq => ((h.rows g hg).2 b hb).2 q (hk q hq)⟩⟩
  gdist := h.gdist
theorem St.clear (h : St w0 O G K W) : St w0 O G [] W := h.keep [] (fun q hq => by cases hq)
theorem St.newG (h : St w0 O G K W) (e : TypeId) (size : Nat) : St w0 O (⟨.slice none 0 0, 0, [], e, size⟩ :: G) K W where
  below := h.below
  own := h.own
  dist := h.dist
  kept := h.kept
  rows := fun g hg => by
    rcases List.mem_cons.1 hg with rfl | hg
    · exact ⟨World.ownsRow_nil _ _ _ _, fun b hb => by simp [Value.ownBlock] at hb⟩
    · exact h.rows g hg
  gdist := List.Pairwise.cons (fun g hg b hb => by simp [Value.ownBlock] at hb) h.gdist
theorem St.row (h : St w0 O G K W) (i : Nat) {g : GR} (hi : G[i]? = some g) : W.ownsRow w0.heap.size g.e g.size g.v g.n g.xs := (h.rows g (List.mem_of_getElem? hi)).1
theorem append_own2 {P : Program} {w : World} (base : Nat) (t ty e : TypeId) (i : TypeInfo) (z : Value) (ht : P.underlying t = some (.slice e)) (hi : P.info? e = some i) (hz : i.zero = some z) (hzs : z.cells.size = i.size) (hsz : 0 < i.size)
    (v : Value) (n : Nat) (xs : List Value) (hown : w.ownsRow base e i.size v n xs) (a : Addr) (m c : Nat) (news : List Value) (hl : news.length = m * i.size) (hnews : ∀ j u, news[j]? = some u → w.cell? (a.add j) = some u) (h1 : ∀ u ∈ news, u.oneCell' = true)
    (h63 : n + m ≤ maxLen) (hbytes : (n + m) * i.bytes ≤ 140737488355328) (hbase : base ≤ w.heap.size) :
    ∃ v' w', (Builtin.append_ #[t, t] ty #[v, .slice (some a) m c]).run P w = .ok v' w' ∧ w'.ownsRow base e i.size v' (n + m) (xs ++ news) ∧ w.grownBy w' v.ownBlock ∧ (v'.ownBlock = v.ownBlock ∨ v'.ownBlock = some w.heap.size) := by
  obtain ⟨v', w', hr, h2, h3, h4⟩ := run_append_own (P := P) w base t ty e i z i.size i.bytes ht hi hz rfl rfl hzs hsz v n xs hown a m c news hl hnews h1 h63 hbytes hbase
  refine ⟨v', w', hr, h2, h3, ?_⟩
  cases hv : v'.ownBlock with
  | none =>
    rcases h2.2 with ⟨rfl, hn⟩ | ⟨g, cap, cur, rfl, _⟩
    · rw [(h4.1 rfl).1]; exact .inl rfl
    · simp [Value.ownBlock] at hv
  | some b =>
    by_cases hvb : v.ownBlock = some b
    · exact .inl hvb.symm
    · refine .inr ?_
      -- the block is no old one: append would have had to lie there before
      have hbig := run_append_own (P := P) w base t ty e i z i.size i.bytes ht hi hz rfl rfl hzs hsz v n xs hown a m c news hl hnews h1 h63 hbytes hbase
      rcases hown.2 with ⟨rfl, rfl⟩ | ⟨g, cap, cur, rfl, hbg, hg, hnc, hcm, hcs, htake⟩
      · have hx : xs = [] := List.eq_nil_of_length_eq_zero (by simpa using hown.1)
        subst hx
        by_cases hm : m = 0
        · subst hm
          have := h4.2 ⟨rfl, rfl⟩
          subst this; simp [Value.ownBlock] at hv
        · have hr2 := run_append_nil (P := P) w t ty e i z ht hi hz a m c news hl hnews (by omega) (by simp only [maxLen] at h63; omega) (by have hb := hbytes; simp only [Nat.zero_add] at hb; omega)
          rw [hr2] at hr
          simp only [Result.ok.injEq] at hr
          rw [← hr.1] at hv
          simpa [Value.ownBlock] using hv.symm
      · by_cases hroom : n + m ≤ cap
        · have hfit : n * i.size + news.length ≤ cur.size := by rw [hl, hcs, ← Nat.add_mul]; exact Nat.mul_le_mul_right _ hroom
          have hr2 := run_append_room (P := P) w t ty e i ht hi g n cap cur hg a m c news hl hnews h1 hroom hfit
          rw [hr2] at hr
          simp only [Result.ok.injEq] at hr
          rw [← hr.1] at hv
          exact absurd hv hvb
        · have holds : ∀ j u, xs[j]? = some u → w.cell? ((⟨g, 0, none⟩ : Addr).add j) = some u := hown.cells (g := g) rfl
          have hr2 := run_append_grow (P := P) w t ty e i z ht hi hz ⟨g, 0, none⟩ n cap xs hown.1 holds a m c news hl hnews (by omega) (by simp only [maxLen] at h63; omega) (growslice_fits (by omega) hbytes)
          rw [hr2] at hr
          simp only [Result.ok.injEq] at hr
          rw [← hr.1] at hv
          simpa [Value.ownBlock] using hv.symm
theorem mem_setG : ∀ {G : Grows} {i : Nat} {x y q : GR}, G[i]? = some x → q ∈ G.set i y → G.Pairwise (fun g h => Value.apart g.v h.v) → q = y ∨ (q ∈ G ∧ (Value.apart q.v x.v ∨ Value.apart x.v q.v))
  | [], _, _, _, _, h, _, _ => by simp at h
  | p :: G, 0, x, y, q, h, hq, hp => by
    simp at h; subst h
    cases hp with
    | cons a b =>
      rcases List.mem_cons.1 hq with rfl | hq
      · exact .inl rfl
      · exact .inr ⟨List.mem_cons_of_mem _ hq, .inr (a q hq)⟩
  | p :: G, i + 1, x, y, q, h, hq, hp => by
    cases hp with
    | cons a b =>
      rcases List.mem_cons.1 hq with rfl | hq
      · exact .inr ⟨List.mem_cons_self, .inl (a x (List.mem_of_getElem? (by simpa using h)))⟩
      · rcases mem_setG (by simpa using h) hq b with h1 | ⟨h1, h2⟩
        · exact .inl h1
        · exact .inr ⟨List.mem_cons_of_mem _ h1, h2⟩
theorem pw_setG : ∀ {G : Grows} {i : Nat} {x y : GR}, G[i]? = some x → (∀ q ∈ G, Value.apart q.v x.v → Value.apart q.v y.v) → (∀ q ∈ G, Value.apart x.v q.v → Value.apart y.v q.v) → G.Pairwise (fun g h => Value.apart g.v h.v) → (G.set i y).Pairwise (fun g h => Value.apart g.v h.v)
  | [], _, _, _, h, _, _, _ => by simp at h
  | p :: G, 0, x, y, h, k1, k2, hp => by
    simp at h; subst h
    cases hp with
    | cons a b => exact List.Pairwise.cons (fun q hq => k2 q (List.mem_cons_of_mem _ hq) (a q hq)) b
  | p :: G, i + 1, x, y, h, k1, k2, hp => by
    cases hp with
    | cons a b =>
      have hx := a x (List.mem_of_getElem? (by simpa using h))
      refine List.Pairwise.cons (fun q hq => ?_) (pw_setG (by simpa using h) (fun q hq => k1 q (List.mem_cons_of_mem _ hq)) (fun q hq => k2 q (List.mem_cons_of_mem _ hq)) b)
      rcases List.mem_or_eq_of_mem_set hq with hq | rfl
      · exact a q hq
      · exact k1 p List.mem_cons_self hx
theorem St.setG {W' : World} (h : St w0 O G K W) (i : Nat) {g : GR} (hi : G[i]? = some g) {v' : Value} {n' : Nat} {xs' : List Value} (hown : W'.ownsRow w0.heap.size g.e g.size v' n' xs') (hgr : W.grownBy W' g.v.ownBlock) (hv : v'.ownBlock = g.v.ownBlock ∨ v'.ownBlock = some W.heap.size) :
    St w0 O (G.set i ⟨v', n', xs', g.e, g.size⟩) K W' where
  below := h.below.grown hgr h.below.size (fun k hk => (h.glt (List.mem_of_getElem? hi) hk).1)
  own := fun p hp => by
    obtain ⟨h1, h2⟩ := h.own p hp
    refine ⟨h1, (hgr.block _ (lt_of_heap h2) (fun e => ?_)).trans h2⟩
    exact ((h.rows g (List.mem_of_getElem? hi)).2 p.1 e.symm).1 p hp rfl
  dist := h.dist
  kept := fun q hq => by
    obtain ⟨h1, h2⟩ := h.kept q hq
    refine ⟨⟨Nat.le_trans h1.1 hgr.size, fun b hb hb2 => (hgr.block b (Nat.lt_of_lt_of_le hb2 h1.1) (fun e => ?_)).trans (h1.2 b hb hb2)⟩, h2⟩
    have := ((h.rows g (List.mem_of_getElem? hi)).2 b e.symm).2 q hq
    omega
  rows := fun r hr => by
    rcases mem_setG hi hr h.gdist with rfl | ⟨hr', hap⟩
    · refine ⟨hown, fun b hb => ?_⟩
      rcases hv with e | e
      · have hb' : g.v.ownBlock = some b := e ▸ hb
        exact (h.rows g (List.mem_of_getElem? hi)).2 b hb'
      · have hb' : W.heap.size = b := by rw [show v'.ownBlock = some b from hb] at e; exact (Option.some.inj e).symm
        subst hb'
        exact ⟨fun p hp e => by have := lt_of_heap (h.own p hp).2; omega, fun q hq => .inr (h.kept q hq).1.1⟩
    · refine ⟨ownsRow_same (h.rows r hr').1 fun b hb => hgr.block b (h.glt hr' hb).2 (fun e => ?_), (h.rows r hr').2⟩
      rcases hap with h1 | h1
      · exact h1 b hb e.symm
      · exact h1 b e.symm hb
  gdist := pw_setG hi (fun q hq hap b hb e => by
      rcases hv with e' | e'
      · exact hap b hb (e' ▸ e)
      · rw [show v'.ownBlock = some b from e] at e'
        have := (h.glt hq hb).2
        have := Option.some.inj e'; omega) (fun q hq hap b hb e => by
      rcases hv with e' | e'
      · exact hap b (e' ▸ hb) e
      · rw [show v'.ownBlock = some b from hb] at e'
        have := (h.glt hq e).2
        have := Option.some.inj e'; omega) h.gdist
def setMany (W : World) (B : Nat) : Nat → List Value → World
  | _, [] => W
  | j, v :: r => setMany (W.setCell ⟨B, j, none⟩ v) B (j + 1) r
def splice (cs : List Value) : Nat → List Value → List Value
  | _, [] => cs
  | j, v :: r => splice (cs.set j v) (j + 1) r
theorem St.setMany {T : TypeId} {B : Nat} (i : Nat) : ∀ (vs : List Value) (j : Nat) {O : Own} {W : World} {cs : List Value}, St w0 O G K W → O[i]? = some (B, cs, T) → St w0 (O.set i (B, splice cs j vs, T)) G K (Go.Proofs.Ytpinbmjkbkogdaa.setMany W B j vs)
  | [], j, O, W, cs, h, hi => by
    have : O.set i (B, cs, T) = O := by
      apply List.ext_getElem?
      intro k
      rw [List.getElem?_set]
      by_cases hk : i = k
      · subst hk; rw [if_pos rfl]; rw [hi]; simp [(List.getElem?_eq_some_iff.1 hi).1]
      · rw [if_neg hk]
    unfold splice Go.Proofs.Ytpinbmjkbkogdaa.setMany
    rw [this]; exact h
  | v :: r, j, O, W, cs, h, hi => by
    have h1 := h.set i hi j v
    have hi2 : (O.set i (B, cs.set j v, T))[i]? = some (B, cs.set j v, T) := by
      rw [List.getElem?_set]; rw [if_pos rfl]; simp [(List.getElem?_eq_some_iff.1 hi).1]
    have h2 := St.setMany i r (j + 1) h1 hi2
    rw [List.set_set] at h2
    exact h2
end
def CellsAt (W : World) (b o : Nat) : List Value → Prop
  | [] => True
  | v :: r => W.cell? ⟨b, o, none⟩ = some v ∧ CellsAt W b (o + 1) r
theorem CellsAt.get {W : World} {b : Nat} : ∀ {vs : List Value} {o : Nat}, CellsAt W b o vs → ∀ j v, vs[j]? = some v → W.cell? ⟨b, o + j, none⟩ = some v
  | [], _, _, j, v, h => by simp at h
  | u :: r, o, hc, 0, v, h => by simp at h; subst h; exact hc.1
  | u :: r, o, hc, j + 1, v, h => by rw [show o + (j + 1) = o + 1 + j by omega]; exact CellsAt.get hc.2 j v (by simpa using h)
theorem CellsAt.of {W : World} {b : Nat} : ∀ {vs : List Value} {o : Nat}, (∀ j v, vs[j]? = some v → W.cell? ⟨b, o + j, none⟩ = some v) → CellsAt W b o vs
  | [], _, _ => trivial
  | u :: r, o, h => ⟨h 0 u rfl, CellsAt.of fun j v hv => by rw [show o + 1 + j = o + (j + 1) by omega]; exact h (j + 1) v (by simpa using hv)⟩
theorem CellsAt.agree {A W : World} {lo b : Nat} (hw : Agree lo A W) (hb : lo ≤ b) : ∀ {vs : List Value} {o : Nat}, CellsAt A b o vs → CellsAt W b o vs
  | [], _, _ => trivial
  | _ :: _, _, h => ⟨hw.cell hb h.1, CellsAt.agree hw hb h.2⟩
theorem CellsAt.own {W : World} {B : Nat} {cs : List Value} {T : TypeId} (h : W.heap[B]? = some (.cells cs.toArray T (0, 0))) {j m : Nat} {vs : List Value} (hv : (cs.drop j).take m = vs) : CellsAt W B j vs := by
  subst hv
  refine CellsAt.of fun i v hi => cell_own h ?_
  rw [List.getElem?_take] at hi
  split at hi
  · rwa [List.getElem?_drop] at hi
  · cases hi

section
variable {P : Program} {n : Nat} {Q : Exit → Act → World → Prop} {l : Fr} {w0 W : World} {ops : Array Oper} {os : List Oper} {O : Own} {G : Grows} {K : List (Nat × World)}
variable {d : Nat} {ty : TypeId} {pos : String} {aft : Array Edge} {v : Value}
theorem rn_load {x : Operand} {T : TypeId} {p : Addr} (hT : ∀ w, (isAgg T).run P w = .ok false w) (hx : evL l x = some (.pointer (some p))) (hc : W.cell? p = some v) : Runs P l ⟨some d, .load T x, ty, pos, aft, none⟩ W (v) W := fun ev he => by unfold execOp; simp only []; rw [he x _ hx]; simp [Instr.loadAt, Instr.sureAddr, loadVar, hT, run_load, hc]
theorem op_load {x : Operand} {T : TypeId} {p : Addr} (hT : ∀ w, (isAgg T).run P w = .ok false w) (hx : evL l x = some (.pointer (some p))) (hc : W.cell? p = some v) (hd : Nat.blt d n = true) (h : OpsF P n ops Q os ((d, v) :: l) W) : OpsF P n ops Q (⟨some d, .load T x, ty, pos, aft, none⟩ :: os) l W := opV (rn_load hT hx hc) hd h
theorem rn_loadA {x : Operand} {T : TypeId} {b o : Nat} {vs : List Value} (hT : ∀ w, (isAgg T).run P w = .ok true w) (hS : ∀ w, (sizeOf T).run P w = .ok vs.length w) (hx : evL l x = some (.pointer (some ⟨b, o, none⟩))) (hc : CellsAt W b o vs) : Runs P l ⟨some d, .load T x, ty, pos, aft, none⟩ W (.agg vs.toArray) W := fun ev he => by
    unfold execOp; simp only []; rw [he x _ hx]
    have := run_loadCells_list (P := P) W ⟨b, o, none⟩ vs (fun j u hj => by rw [Addr.add_lit]; exact hc.get j u hj)
    simp [Instr.loadAt, Instr.sureAddr, loadVar, hT, hS, this]
theorem op_loadA {x : Operand} {T : TypeId} {b o : Nat} {vs : List Value} (hT : ∀ w, (isAgg T).run P w = .ok true w) (hS : ∀ w, (sizeOf T).run P w = .ok vs.length w) (hx : evL l x = some (.pointer (some ⟨b, o, none⟩))) (hc : CellsAt W b o vs) (hd : Nat.blt d n = true) (h : OpsF P n ops Q os ((d, .agg vs.toArray) :: l) W) : OpsF P n ops Q (⟨some d, .load T x, ty, pos, aft, none⟩ :: os) l W := opV (rn_loadA hT hS hx hc) hd h
theorem op_box {x : Operand} {T : TypeId} {cs : List Value} (hS : St w0 O G K W) (hx : evL l x = some v) (hcs : v.cells = cs.toArray) (hd : Nat.blt d n = true)
    (h : ∀ B W', St w0 ((B, cs, T) :: O) G K W' → OpsF P n ops Q os ((d, .pointer (some ⟨B, 0, none⟩)) :: l) W') : OpsF P n ops Q (⟨some d, .box T x, ty, pos, aft, none⟩ :: os) l W :=
  opV (W' := W.alloc (.cells cs.toArray T)) (v := .pointer (some ⟨W.heap.size, 0, none⟩)) (fun ev he => by unfold execOp; simp only []; rw [he x _ hx]; simp [Instr.box, newVar, newRow, hcs]) hd (h _ _ (hS.alloc cs T))
theorem op_alloc {T : TypeId} {z : Value} {cs : List Value} (hS : St w0 O G K W) (hz : ∀ w, (zeroValue T).run P w = .ok z w) (hcs : z.cells = cs.toArray) (hd : Nat.blt d n = true)
    (h : ∀ B W', St w0 ((B, cs, T) :: O) G K W' → OpsF P n ops Q os ((d, .pointer (some ⟨B, 0, none⟩)) :: l) W') : OpsF P n ops Q (⟨some d, .alloc T, ty, pos, aft, none⟩ :: os) l W :=
  opV (W' := W.alloc (.cells cs.toArray T)) (v := .pointer (some ⟨W.heap.size, 0, none⟩)) (fun ev he => by unfold execOp; simp only []; simp [Instr.alloc, newVar, newRow, hz, hcs]) hd (h _ _ (hS.alloc cs T))
theorem run_storeCell {P : Program} {W : World} {p : Addr} {c v : Value} (hc : W.cell? p = some c) (hf : W.frozen? p = false) (hv : v.oneCell' = true) : (store p v).run P W = .ok () (W.setCell p v) := by
  rw [run_store P W p v .plain hv, hc]; simp [hf]
theorem run_storeMany {P : Program} {B : Nat} {U : TypeId} : ∀ (vs : List Value) (j k : Nat) (W : World) (cs : List Value), W.heap[B]? = some (.cells cs.toArray U (0, 0)) → k + j + vs.length ≤ cs.length → (∀ u ∈ vs, u.oneCell' = true) →
    (storeCells ⟨B, k, none⟩ vs j).run P W = .ok () (setMany W B (k + j) vs)
  | [], j, k, W, cs, _, _, _ => by simp [storeCells, setMany]
  | v :: r, j, k, W, cs, h, hl, h1 => by
    have hj' : k + j < cs.length := by simp at hl; omega
    have hc : W.cell? ⟨B, k + j, none⟩ = some cs[k + j] := cell_own h (by simp [hj'])
    have hfz := frozen_own (j := k + j) h
    have ih := run_storeMany (P := P) r (j + 1) k (W.setCell ⟨B, k + j, none⟩ v) (cs.set (k + j) v) (heap_set v h) (by simp at hl ⊢; omega) (fun u hu => h1 u (List.mem_cons_of_mem _ hu))
    have hv := h1 v List.mem_cons_self
    unfold setMany
    rw [show k + j + 1 = k + (j + 1) by omega]
    rw [← ih]
    have hst := run_storeCell (P := P) hc hfz hv
    simp only [storeCells, Addr.add_lit, Sem.run_bind, hst, Result.andThen_ok]
theorem op_store {T U : TypeId} {x y : Operand} {B j i : Nat} {cs cs' : List Value} {O' : Own} (hS : St w0 O G K W) (hsz : ∀ w, (sizeOf T).run P w = .ok 1 w) (hx : evL l x = some (.pointer (some ⟨B, j, none⟩))) (hy : evL l y = some v) (hv : v.oneCell' = true) (hi : O[i]? = some (B, cs, U)) (hj : Nat.blt j cs.length = true)
    (hcs : cs.set j v = cs') (hO : O.set i (B, cs', U) = O') (h : ∀ W', St w0 O' G K W' → OpsF P n ops Q os l W') : OpsF P n ops Q (⟨none, .store T x y, ty, pos, aft, none⟩ :: os) l W := fun a ha => by
  refine wpList_plain rfl fun K' hK => ?_
  unfold Oper.wp execOp
  simp only []
  rw [ha.ev x _ hx, ha.ev y _ hy]
  subst hcs; subst hO
  have hj' : j < cs.length := Nat.le_of_ble_eq_true hj
  have hc : W.cell? ⟨B, j, none⟩ = some cs[j] := cell_own (hS.at_ i hi) (by simp [hj'])
  have hfz := frozen_own (j := j) (hS.at_ i hi)
  have h2 := h _ (hS.set i hi j v)
  have hcells : v.cells = #[v] := by cases v <;> first | rfl | cases hv
  have hst := run_storeMany (P := P) [v] 0 j W cs (hS.at_ i hi) (by simp; omega) (fun u hu => by simp at hu; subst hu; exact hv)
  simp only [Nat.add_zero, Go.Proofs.Ytpinbmjkbkogdaa.setMany] at hst
  have : (Instr.storeAt T (.pointer (some ⟨B, j, none⟩)) v).run P W = .ok () (W.setCell ⟨B, j, none⟩ v) := by
    simp [Instr.storeAt, Instr.sureAddr, storeVar, hsz, hcells, hst]
  simp only [Sem.run_bind, this, Result.andThen_ok, Sem.run_pure, Oper.upon_skip]
  exact hK _ _ (h2 _ ha)
theorem op_storeA {T U : TypeId} {x y : Operand} {B j i : Nat} {cs cs' vs : List Value} {O' : Own} (hS : St w0 O G K W) (hsz : ∀ w, (sizeOf T).run P w = .ok vs.length w) (hx : evL l x = some (.pointer (some ⟨B, j, none⟩))) (hy : evL l y = some (.agg vs.toArray)) (hv : vs.all Value.oneCell' = true) (hi : O[i]? = some (B, cs, U)) (hj : Nat.ble (j + vs.length) cs.length = true)
    (hcs : splice cs j vs = cs') (hO : O.set i (B, cs', U) = O') (h : ∀ W', St w0 O' G K W' → OpsF P n ops Q os l W') : OpsF P n ops Q (⟨none, .store T x y, ty, pos, aft, none⟩ :: os) l W := fun a ha => by
  refine wpList_plain rfl fun K' hK => ?_
  unfold Oper.wp execOp
  simp only []
  rw [ha.ev x _ hx, ha.ev y _ hy]
  subst hcs; subst hO
  have hj' : j + vs.length ≤ cs.length := Nat.le_of_ble_eq_true hj
  have h2 := h _ (hS.setMany i vs j hi)
  have hst := run_storeMany (P := P) vs 0 j W cs (hS.at_ i hi) (by omega) (fun u hu => List.all_eq_true.1 hv u hu)
  rw [Nat.add_zero] at hst
  have : (Instr.storeAt T (.pointer (some ⟨B, j, none⟩)) (.agg vs.toArray)).run P W = .ok () (Go.Proofs.Ytpinbmjkbkogdaa.setMany W B j vs) := by
    simp [Instr.storeAt, Instr.sureAddr, storeVar, hsz, Value.cells, hst]
  simp only [Sem.run_bind, this, Result.andThen_ok, Sem.run_pure, Oper.upon_skip]
  exact hK _ _ (h2 _ ha)
theorem rn_field {T : TypeId} {x : Operand} {b o f k : Nat} (hF : ∀ w b o, (Instr.fieldAt T (.pointer (some ⟨b, o, none⟩)) f).run P w = .ok (.pointer (some ⟨b, o + k, none⟩)) w) (hx : evL l x = some (.pointer (some ⟨b, o, none⟩))) {o' : Nat} (ho : o + k = o') : Runs P l ⟨some d, .fieldAddr T x f, ty, pos, aft, none⟩ W (.pointer (some ⟨b, o', none⟩)) W := fun ev he => by subst ho; unfold execOp; simp only []; rw [he x _ hx]; simp [hF]
theorem op_field {T : TypeId} {x : Operand} {b o f k : Nat} (hF : ∀ w b o, (Instr.fieldAt T (.pointer (some ⟨b, o, none⟩)) f).run P w = .ok (.pointer (some ⟨b, o + k, none⟩)) w) (hx : evL l x = some (.pointer (some ⟨b, o, none⟩))) {o' : Nat} (ho : o + k = o') (hd : Nat.blt d n = true) (h : OpsF P n ops Q os ((d, .pointer (some ⟨b, o', none⟩)) :: l) W) : OpsF P n ops Q (⟨some d, .fieldAddr T x f, ty, pos, aft, none⟩ :: os) l W := opV (rn_field hF hx ho) hd h
theorem rn_indexA {T e : TypeId} {x y : Operand} {b o m c j k : Nat} {ki : IntKind} {i : Int} (hU : P.underlying T = some (.slice e)) (hS : ∀ w, (sizeOf e).run P w = .ok k w) (hx : evL l x = some (.slice (some ⟨b, o, none⟩) m c)) (hy : evL l y = some (.int ki i)) (hi : i = (j : Int)) (hj : j < m) {o' : Nat} (ho : o + j * k = o') : Runs P l ⟨some d, .indexAddr T x y, ty, pos, aft, none⟩ W (.pointer (some ⟨b, o', none⟩)) W := fun ev he => by
    subst ho; subst hi
    unfold execOp; simp only []; rw [he x _ hx, he y _ hy]
    have h0 : (0 : Int) ≤ (j : Int) := by omega
    have h1 : (j : Int) < (m : Int) := by omega
    simp [Instr.indexAt, asIntOf, run_underlying hU, h0, h1, hS, hj, Addr.add_lit]
theorem op_indexA {T e : TypeId} {x y : Operand} {b o m c j k : Nat} {ki : IntKind} {i : Int} (hU : P.underlying T = some (.slice e)) (hS : ∀ w, (sizeOf e).run P w = .ok k w) (hx : evL l x = some (.slice (some ⟨b, o, none⟩) m c)) (hy : evL l y = some (.int ki i)) (hi : i = (j : Int)) (hj : j < m) {o' : Nat} (ho : o + j * k = o') (hd : Nat.blt d n = true) (h : OpsF P n ops Q os ((d, .pointer (some ⟨b, o', none⟩)) :: l) W) : OpsF P n ops Q (⟨some d, .indexAddr T x y, ty, pos, aft, none⟩ :: os) l W := opV (rn_indexA hU hS hx hy hi hj ho) hd h
theorem op_call {f : FuncId} {args : Array Operand} {ts : Array TypeId} {vs : List Value} {R : Ending → World → Prop} (hS : St w0 O G K W) (hgo : goesIn P f = true) (ha : args.toList.map (evL l) = vs.map some) (hc : Calls P f vs.toArray W R)
    (hd : Nat.blt d n = true)
    (h : ∀ e W', R e W' → ∃ v, e = .returned v ∧ Below W.heap.size W W' ∧ (St w0 O G ((W.heap.size, W') :: K) W' → OpsF P n ops Q os ((d, v) :: l) W')) : OpsF P n ops Q (⟨some d, .call { callee := .value (.func f), args := args, argTypes := ts }, ty, pos, aft, none⟩ :: os) l W := fun a hl => by
  refine wpList_plain rfl fun K' hK => ?_
  unfold Oper.wp
  rw [run_call P a.eval W f args ts _ rfl rfl hgo, Oper.upon_enter]
  have hargs : args.map a.eval = vs.toArray := by
    have key : ∀ (xs : List Operand) (us : List Value), xs.map (evL l) = us.map some → xs.map a.eval = us := by
      intro xs
      induction xs with
      | nil => intro us h; cases us <;> simp at h ⊢
      | cons x xs ih =>
        intro us h
        cases us with
        | nil => simp at h
        | cons u us =>
          simp only [List.map_cons, List.cons.injEq] at h
          simp only [List.map_cons, hl.ev x u h.1, ih us h.2]
    apply Array.ext'
    rw [Array.toList_map, key _ _ ha]
  rw [hargs]
  refine hc.mono ?_
  intro e W' hRe
  obtain ⟨v, rfl, hb, hn⟩ := h e W' hRe
  exact hK _ _ (hn (hS.call hb) _ (hl.put hd))
theorem op_append {t e : TypeId} {x y : Operand} {i : Nat} {g : GR} {b o m c : Nat} {news : List Value} {inf : TypeInfo} {z : Value} (hS : St w0 O G K W) (hU : P.underlying t = some (.slice e)) (hinf : P.info? e = some inf) (hz : inf.zero = some z) (hzs : z.cells.size = inf.size) (hsz : 0 < inf.size)
    (hi : G[i]? = some g) (he : g.e = e) (hgs : g.size = inf.size) (hx : evL l x = some g.v) (hy : evL l y = some (.slice (some ⟨b, o, none⟩) m c)) (hc : CellsAt W b o news) (hl : news.length = m * inf.size) (h1 : news.all Value.oneCell' = true)
    (h63 : g.n + m ≤ maxLen) (hbytes : (g.n + m) * inf.bytes ≤ 140737488355328) (hd : Nat.blt d n = true)
    (h : ∀ v' W', St w0 O (G.set i ⟨v', g.n + m, g.xs ++ news, e, g.size⟩) K W' → OpsF P n ops Q os ((d, v') :: l) W') :
    OpsF P n ops Q (⟨some d, .call { callee := .builtin .append, args := #[x, y], argTypes := #[t, t] }, ty, pos, aft, none⟩ :: os) l W := by
  subst he
  have hrow := hS.row i hi
  rw [hgs] at hrow
  obtain ⟨v', W', hr, h2, h3, h4⟩ := append_own2 (P := P) (w := W) w0.heap.size t ty g.e inf z hU hinf hz hzs hsz g.v g.n g.xs hrow ⟨b, o, none⟩ m c news hl (fun j u hj => by rw [Addr.add_lit]; exact hc.get j u hj) (fun u hu => List.all_eq_true.1 h1 u hu) h63 hbytes hS.below.size
  rw [← hgs] at h2
  refine opV (W' := W') (v := v') (fun ev hev => ?_) hd (h v' W' (hS.setG i hi h2 h3 h4))
  unfold execOp
  simp only [resolve, invoke, builtin, Sem.run_bind, Sem.run_pure, Result.andThen_ok, List.map_toArray, List.map_cons, List.map_nil, hev x _ hx, hev y _ hy, hr]
end
end Go.Proofs.Ytpinbmjkbkogdaa
namespace Go.Proofs.Ytpinbmjkbkogdaa
open Go Go.RowKit
set_option linter.unusedVariables false
section
variable {P : Program} {n : Nat} {Q : Exit → Act → World → Prop} {l : Fr} {w0 W : World} {ops : Array Oper} {os : List Oper} {O : Own} {G : Grows} {K : List (Nat × World)}
variable {d : Nat} {ty : TypeId} {pos : String} {aft : Array Edge} {v : Value} {t u : TypeId} {x y : Operand} {k : IntKind} {a b : Int}
theorem binop_run {op : BinOp} {ev : Operand → Value} {r : Value} {p q : Value} (hx : ev x = p) (hy : ev y = q) (hg : (eqGuard op t x y p q).run P W = .ok () W) (h : (binOp op t p q).run P W = .ok r W) :
    (execOp ev ⟨some d, .binOp op t x y u, ty, pos, aft, none⟩).run P W = .ok (.value r) W := by
  unfold execOp; simp only [hx, hy, Sem.run_bind, hg, Result.andThen_ok, h, Sem.run_pure]
theorem guard_int {op : BinOp} : (eqGuard op t x y (.int k a) (.int k b)).run P W = .ok () W := by
  cases op <;> rfl
theorem rn_lss (hx : evL l x = some (.int k a)) (hy : evL l y = some (.int k b)) : Runs P l ⟨some d, .binOp .lss t x y u, ty, pos, aft, none⟩ W (.bool (decide (a < b))) W := fun ev he => binop_run (he x _ hx) (he y _ hy) guard_int (by simp [binOp, Op.intCmp])
theorem op_lss (hx : evL l x = some (.int k a)) (hy : evL l y = some (.int k b)) (hd : Nat.blt d n = true) (h : OpsF P n ops Q os ((d, .bool (decide (a < b))) :: l) W) : OpsF P n ops Q (⟨some d, .binOp .lss t x y u, ty, pos, aft, none⟩ :: os) l W := opV (rn_lss hx hy) hd h
theorem rn_leq (hx : evL l x = some (.int k a)) (hy : evL l y = some (.int k b)) : Runs P l ⟨some d, .binOp .leq t x y u, ty, pos, aft, none⟩ W (.bool (decide (a ≤ b))) W := fun ev he => binop_run (he x _ hx) (he y _ hy) guard_int (by simp [binOp, Op.intCmp])
theorem op_leq (hx : evL l x = some (.int k a)) (hy : evL l y = some (.int k b)) (hd : Nat.blt d n = true) (h : OpsF P n ops Q os ((d, .bool (decide (a ≤ b))) :: l) W) : OpsF P n ops Q (⟨some d, .binOp .leq t x y u, ty, pos, aft, none⟩ :: os) l W := opV (rn_leq hx hy) hd h
theorem rn_gtr (hx : evL l x = some (.int k a)) (hy : evL l y = some (.int k b)) : Runs P l ⟨some d, .binOp .gtr t x y u, ty, pos, aft, none⟩ W (.bool (decide (b < a))) W := fun ev he => binop_run (he x _ hx) (he y _ hy) guard_int (by simp [binOp, Op.intCmp])
theorem op_gtr (hx : evL l x = some (.int k a)) (hy : evL l y = some (.int k b)) (hd : Nat.blt d n = true) (h : OpsF P n ops Q os ((d, .bool (decide (b < a))) :: l) W) : OpsF P n ops Q (⟨some d, .binOp .gtr t x y u, ty, pos, aft, none⟩ :: os) l W := opV (rn_gtr hx hy) hd h
theorem rn_geq (hx : evL l x = some (.int k a)) (hy : evL l y = some (.int k b)) : Runs P l ⟨some d, .binOp .geq t x y u, ty, pos, aft, none⟩ W (.bool (decide (b ≤ a))) W := fun ev he => binop_run (he x _ hx) (he y _ hy) guard_int (by simp [binOp, Op.intCmp])
theorem op_geq (hx : evL l x = some (.int k a)) (hy : evL l y = some (.int k b)) (hd : Nat.blt d n = true) (h : OpsF P n ops Q os ((d, .bool (decide (b ≤ a))) :: l) W) : OpsF P n ops Q (⟨some d, .binOp .geq t x y u, ty, pos, aft, none⟩ :: os) l W := opV (rn_geq hx hy) hd h
theorem rn_eql (hx : evL l x = some (.int k a)) (hy : evL l y = some (.int k b)) : Runs P l ⟨some d, .binOp .eql t x y u, ty, pos, aft, none⟩ W (.bool (decide (a = b))) W := fun ev he => binop_run (he x _ hx) (he y _ hy) guard_int (by simp [binOp, Op.intCmp]; rfl)
theorem op_eql (hx : evL l x = some (.int k a)) (hy : evL l y = some (.int k b)) (hd : Nat.blt d n = true) (h : OpsF P n ops Q os ((d, .bool (decide (a = b))) :: l) W) : OpsF P n ops Q (⟨some d, .binOp .eql t x y u, ty, pos, aft, none⟩ :: os) l W := opV (rn_eql hx hy) hd h
theorem rn_neq (hx : evL l x = some (.int k a)) (hy : evL l y = some (.int k b)) : Runs P l ⟨some d, .binOp .neq t x y u, ty, pos, aft, none⟩ W (.bool (decide (a ≠ b))) W := fun ev he => binop_run (he x _ hx) (he y _ hy) guard_int (by simp [binOp, Op.intCmp]; by_cases h : a = b <;> simp [h])
theorem op_neq (hx : evL l x = some (.int k a)) (hy : evL l y = some (.int k b)) (hd : Nat.blt d n = true) (h : OpsF P n ops Q os ((d, .bool (decide (a ≠ b))) :: l) W) : OpsF P n ops Q (⟨some d, .binOp .neq t x y u, ty, pos, aft, none⟩ :: os) l W := opV (rn_neq hx hy) hd h
theorem rn_add {c : Int} (hx : evL l x = some (.int k a)) (hy : evL l y = some (.int k b)) (hw : k.wrap (a + b) = c) : Runs P l ⟨some d, .binOp .add t x y u, ty, pos, aft, none⟩ W (.int k c) W := fun ev he => by subst hw; exact binop_run (he x _ hx) (he y _ hy) guard_int (by simp [binOp, Op.intArith])
theorem op_add {c : Int} (hx : evL l x = some (.int k a)) (hy : evL l y = some (.int k b)) (hw : k.wrap (a + b) = c) (hd : Nat.blt d n = true) (h : OpsF P n ops Q os ((d, .int k c) :: l) W) : OpsF P n ops Q (⟨some d, .binOp .add t x y u, ty, pos, aft, none⟩ :: os) l W := opV (rn_add hx hy hw) hd h
theorem rn_sub {c : Int} (hx : evL l x = some (.int k a)) (hy : evL l y = some (.int k b)) (hw : k.wrap (a - b) = c) : Runs P l ⟨some d, .binOp .sub t x y u, ty, pos, aft, none⟩ W (.int k c) W := fun ev he => by subst hw; exact binop_run (he x _ hx) (he y _ hy) guard_int (by simp [binOp, Op.intArith])
theorem parts_eval {ev : Operand → Value} (he : ∀ x u, evL l x = some u → ev x = u) : ∀ (xs : List (Nat × Operand)) (us : List (Nat × Value)), xs.map (fun p => (p.1, evL l p.2)) = us.map (fun p => (p.1, some p.2)) → xs.map (fun p => (p.1, ev p.2)) = us
  | [], us, h => by cases us <;> simp at h ⊢
  | x :: xs, us, h => by
    cases us with
    | nil => simp at h
    | cons u us =>
      simp only [List.map_cons, List.cons.injEq, Prod.mk.injEq] at h
      obtain ⟨⟨h1, h2⟩, h3⟩ := h
      simp only [List.map_cons, he _ _ h2, h1, parts_eval he xs us h3]
theorem rn_build {T : TypeId} {xs : List (Nat × Operand)} {us : List (Nat × Value)} {cs : Array Value} (hp : xs.map (fun p => (p.1, evL l p.2)) = us.map (fun p => (p.1, some p.2))) (hb : P.built T us = some cs) : Runs P l ⟨some d, .build T xs.toArray, ty, pos, aft, none⟩ W (.agg cs) W := fun ev he => by
    have h1 := parts_eval he xs us hp
    have h2 : (Array.map (fun p => (p.1, ev p.2)) xs.toArray) = us.toArray := by simp [h1]
    have h3 := run_build W T us.toArray cs (P := P) (by simpa using hb)
    unfold execOp
    simp only []
    rw [h2]
    simp [h3]
theorem op_build {T : TypeId} {xs : List (Nat × Operand)} {us : List (Nat × Value)} {cs : Array Value} (hp : xs.map (fun p => (p.1, evL l p.2)) = us.map (fun p => (p.1, some p.2))) (hb : P.built T us = some cs) (hd : Nat.blt d n = true) (h : OpsF P n ops Q os ((d, .agg cs) :: l) W) : OpsF P n ops Q (⟨some d, .build T xs.toArray, ty, pos, aft, none⟩ :: os) l W := opV (rn_build hp hb) hd h
theorem op_buildSlice {T e : TypeId} {m s : Nat} {xs : List (Nat × Operand)} {us : List (Nat × Value)} {z : Value} {cs : List Value} (hS : St w0 O G K W) (hU : P.underlying T = some (.slice e)) (hs : ∀ w, (sizeOf e).run P w = .ok s w) (hz : ∀ w, (zeroValue e).run P w = .ok z w)
    (hm : Nat.ble (m * s) 16777216 = true) (hm0 : Nat.beq (m * s) 0 = false) (hp : xs.map (fun p => (p.1, evL l p.2)) = us.map (fun p => (p.1, some p.2)))
    (hf : Instr.fill (fun i => some (i * s, s)) ((Array.range (m * s)).map (z.cells[· % z.cells.size]!)) us = some cs.toArray) (hd : Nat.blt d n = true)
    (h : ∀ B W', St w0 ((B, cs, e) :: O) G K W' → OpsF P n ops Q os ((d, .slice (some ⟨B, 0, none⟩) m m) :: l) W') : OpsF P n ops Q (⟨some d, .buildSlice T m xs.toArray, ty, pos, aft, none⟩ :: os) l W :=
  opV (W' := W.alloc (.cells cs.toArray e)) (v := .slice (some ⟨W.heap.size, 0, none⟩) m m) (fun ev he => by
    have h1 := parts_eval he xs us hp
    have h2 : (Array.map (fun p => (p.1, ev p.2)) xs.toArray) = us.toArray := by simp [h1]
    have h4 : m * s ≤ 16777216 := Nat.le_of_ble_eq_true hm
    have h5 : m * s ≠ 0 := fun e => by rw [e] at hm0; cases hm0
    have h6 : ¬ (m * s > 2 ^ 24) := by omega
    unfold execOp
    simp only []
    rw [h2]
    simp only [Instr.buildSlice, Sem.run_bind, run_underlying hU, Result.andThen_ok, hs, if_neg h6, if_neg h5, hz, Sem.run_pure, hf, newRow, run_newObj_alloc]) hd (h _ _ (hS.alloc cs e))
theorem rn_sliceFrom {T e : TypeId} {ad : Option Addr} {m c j s : Nat} {i : Int} (hU : P.underlying T = some (.slice e)) (hs : ∀ w, (sizeOf e).run P w = .ok s w) (hx : evL l x = some (.slice ad m c)) (hy : evL l y = some (.int k i)) (hi : i = (j : Int)) (hj : j ≤ m) :
    Runs P l ⟨some d, .slice T x (some y) none none, ty, pos, aft, none⟩ W (.slice (if c = j then ad else ad.map (·.add (j * s))) (m - j) (c - j)) W := fun ev he => by
  subst hi
  unfold execOp; simp only [Option.map_some, Option.map_none]; rw [he x _ hx, he y _ hy]
  have h0 : (0 : Int) ≤ (j : Int) := by omega
  have h1 : (j : Int) ≤ (m : Int) := by omega
  simp [Instr.sliceAt, Instr.slice, Instr.sliceBounds, Instr.sliceBound, run_underlying hU, asIntOf, hj, hs]
theorem op_sliceFrom {T e : TypeId} {ad : Option Addr} {m c j s : Nat} {i : Int} (hU : P.underlying T = some (.slice e)) (hs : ∀ w, (sizeOf e).run P w = .ok s w) (hx : evL l x = some (.slice ad m c)) (hy : evL l y = some (.int k i)) (hi : i = (j : Int)) (hj : j ≤ m) (hd : Nat.blt d n = true)
    (h : ∀ ad', (c = j → ad' = ad) → (c ≠ j → ad' = ad.map (·.add (j * s))) → OpsF P n ops Q os ((d, .slice ad' (m - j) (c - j)) :: l) W) : OpsF P n ops Q (⟨some d, .slice T x (some y) none none, ty, pos, aft, none⟩ :: os) l W :=
  opV (rn_sliceFrom hU hs hx hy hi hj) hd (h _ (fun e => if_pos e) (fun e => if_neg e))
theorem op_make {T e : TypeId} {inf : TypeInfo} {z : Value} {m : Nat} {i1 i2 : Int} {k2 : IntKind} {cs : List Value} (hS : St w0 O G K W) (hU : P.underlying T = some (.slice e)) (hinf : P.info? e = some inf) (hz : inf.zero = some z) (hx : evL l x = some (.int k i1)) (hy : evL l y = some (.int k2 i2)) (h1 : i1 = (m : Int)) (h2 : i2 = (m : Int))
    (hcs : madeCells z.cells (m * inf.size) = cs.toArray) (hb : (inf.bytes : Int) * m ≤ 281474976710656) (h63 : (m : Int) ≤ 9223372036854775807) (hd : Nat.blt d n = true)
    (h : ∀ B W', St w0 ((B, cs, e) :: O) G K W' → OpsF P n ops Q os ((d, .slice (some ⟨B, 0, none⟩) m m) :: l) W') : OpsF P n ops Q (⟨some d, .makeSlice T x y, ty, pos, aft, none⟩ :: os) l W :=
  opV (W' := W.alloc (.cells cs.toArray e)) (v := .slice (some ⟨W.heap.size, 0, none⟩) m m) (fun ev he => by
    subst h1; subst h2
    have hr := run_make (P := P) W T e inf z hU hinf hz k k2 m m (by omega) (by omega) hb h63
    rw [Int.toNat_natCast, hcs] at hr
    unfold execOp; simp only []; rw [he x _ hx, he y _ hy]
    simp only [Sem.run_bind, hr, Result.andThen_ok, Sem.run_pure]) hd (h _ _ (hS.alloc cs e))
theorem resC1 {fn : Func} {r : Nat} {T : TypeId} {B o : Nat} {vs : List Value} (hf : fn.results = #[.cell r T]) (hT : ∀ w, (isAgg T).run P w = .ok true w) (hS : ∀ w, (sizeOf T).run P w = .ok vs.length w) (hl : look l r = some (.pointer (some ⟨B, o, none⟩))) (hc : CellsAt W B o vs) :
    ∀ a, Has n l a → (results fn a.tmps).run P W = .ok (.agg vs.toArray) W := fun a ha => by
  have h1 := run_loadCells_list (P := P) W ⟨B, o, none⟩ vs (fun j u hj => by rw [Addr.add_lit]; exact hc.get j u hj)
  have h2 := ha.at_ r _ hl
  rw [Array.getD_eq_getD_getElem?] at h2
  simp [results, hf, h2, asAddr, loadVar, hT, hS, h1]
theorem resCT {fn : Func} {r t : Nat} {T : TypeId} {B o : Nat} {vs : List Value} {x : Value} (hf : fn.results = #[.cell r T, .tmp t]) (hT : ∀ w, (isAgg T).run P w = .ok true w) (hS : ∀ w, (sizeOf T).run P w = .ok vs.length w) (hl : look l r = some (.pointer (some ⟨B, o, none⟩))) (hc : CellsAt W B o vs) (hx : look l t = some x) :
    ∀ a, Has n l a → (results fn a.tmps).run P W = .ok (.tuple #[.agg vs.toArray, x]) W := fun a ha => by
  have h1 := run_loadCells_list (P := P) W ⟨B, o, none⟩ vs (fun j u hj => by rw [Addr.add_lit]; exact hc.get j u hj)
  have h2 := ha.at_ r _ hl
  have h3 := ha.at_ t _ hx
  rw [Array.getD_eq_getD_getElem?] at h2 h3
  simp [results, hf, h2, h3, asAddr, loadVar, hT, hS, h1]
end
end Go.Proofs.Ytpinbmjkbkogdaa
namespace Go.Proofs.Ytpinbmjkbkogdaa
open Go Go.RowKit
set_option linter.unusedVariables false
section
variable {P : Program} {n : Nat} {Q : Exit → Act → World → Prop} {l : Fr} {w0 W : World} {ops : Array Oper} {os : List Oper} {O : Own} {G : Grows} {K : List (Nat × World)} {L : List Asr} {i : Nat}
def RG (P : Program) (n : Nat) (ops : Array Oper) (Q : Exit → Act → World → Prop) (l : Fr) (W : World) (L : List Asr) (i : Nat) : Prop := ∀ a, Has n l a → RS P ops Q a.tmps W L i
def AllG (P : Program) (n : Nat) (ops : Array Oper) (Q : Exit → Act → World → Prop) (l : Fr) (W : World) (L : List Asr) : Nat → Nat → Prop
  | 0, _ => True
  | m + 1, k => RG P n ops Q l W L k ∧ AllG P n ops Q l W L m (k + 1)
theorem allG_from {a : Act} (ha : Has n l a) : ∀ {m k : Nat}, AllG P n ops Q l W L m k → AllFrom (RS P ops Q a.tmps W L) m k
  | 0, _, _ => trivial
  | m + 1, k, h => ⟨h.1 a ha, allG_from ha h.2⟩
def OpG (n : Nat) (ops : Array Oper) (l : Fr) (L : List Asr) (i t : Nat) (p : Asr) : Prop := ∀ a, Has n l a → OpI ops a.tmps L i (.tmp t) p
theorem g_fr {t : Nat} {v : Value} (hf : freeT ops t = true) (hv : look l t = some v) : OpG n ops l L i t (isV v) := fun a ha => opF hf (ha.at_ t v hv)
theorem g_dep (j : Nat) {t : Nat} {p : Asr} (hw : waitsFor ops i j t = true) (hL : atI L j = p) : OpG n ops l L i t p := fun a ha => opD j t hw hL
def AllO (n : Nat) (ops : Array Oper) (l : Fr) (L : List Asr) (i : Nat) : Fr → Prop
  | [] => True
  | p :: r => OpG n ops l L i p.1 (isV p.2) ∧ AllO n ops l L i r
theorem allO_has {t0 : Act} (h0 : Has n l t0) {a : Act} {w : World} (hF : ∀ t, freeT ops t = true → a.eval (.tmp t) = t0.tmps.getD t undef) (hD : ∀ j d, waitsFor ops i j d = true → atI L j (a.eval (.tmp d)) w) :
    ∀ {li : Fr}, AllO n ops l L i li → ∀ x u, evL li x = some u → a.eval x = u := by
  have key : ∀ {li : Fr}, AllO n ops l L i li → ∀ t v, look li t = some v → a.eval (.tmp t) = v := by
    intro li
    induction li with
    | nil => intro _ t v h; cases h
    | cons p r ih =>
      intro h t v hv
      unfold look at hv
      cases hb : Nat.beq p.1 t with
      | true =>
        simp only [hb, cond_true, Option.some.injEq] at hv
        rw [← Nat.eq_of_beq_eq_true hb, ← hv]
        exact h.1 t0 h0 a w hF hD
      | false =>
        simp only [hb, cond_false] at hv
        exact ih h.2 t v hv
  intro li hli x u hx
  cases x with
  | tmp t => exact key hli t u hx
  | const c => exact Option.some.inj hx
  | global g => exact Option.some.inj hx
  | func f => exact Option.some.inj hx
theorem execOp_guard (ev : Operand → Value) (dst : Option Tmp) (op : Op) (ty : TypeId) (pos pos' : String) (aft aft' : Array Edge) (g g' : Option (Nat × Bool)) : execOp ev ⟨dst, op, ty, pos, aft, g⟩ = execOp ev ⟨dst, op, ty, pos', aft', g'⟩ := by unfold execOp; rfl
variable {d : Nat} {op : Op} {ty : TypeId} {pos : String} {aft : Array Edge} {v : Value} {gd : Option (Nat × Bool)}
theorem rgV (li : Fr) (hi : ops[i]? = some ⟨some d, op, ty, pos, aft, gd⟩) (hw : Wants ops L i ⟨some d, op, ty, pos, aft, gd⟩) (hli : AllO n ops l L i li) (hr : ∀ w, Below W.heap.size W w → Runs P li ⟨some d, op, ty, pos, #[], none⟩ w v w) (hI : atI L i = isV v) : RG P n ops Q l W L i :=
  fun a ha => st_value hi hw fun b w hF hG hD => ⟨v, w, by rw [execOp_guard b.eval _ _ _ _ pos _ #[] _ none]; exact hr w hG b.eval (allO_has ha hF hD hli), by rw [hI]; rfl, Below.refl _ _⟩
theorem rgVe (li : Fr) {v' : Value} (hi : ops[i]? = some ⟨some d, op, ty, pos, aft, gd⟩) (hw : Wants ops L i ⟨some d, op, ty, pos, aft, gd⟩) (hli : AllO n ops l L i li) (hr : ∀ w, Below W.heap.size W w → Runs P li ⟨some d, op, ty, pos, #[], none⟩ w v w) (he : v = v') (hI : atI L i = isV v') : RG P n ops Q l W L i := by
  subst he; exact rgV li hi hw hli hr hI
theorem rg_no (hi : ops[i]? = some ⟨some d, op, ty, pos, aft, gd⟩) (hw : WantsNot ops L i ⟨some d, op, ty, pos, aft, gd⟩) (hI : atI L i = isV undef) : RG P n ops Q l W L i := fun a ha => st_none hi hw hI
theorem w_free {o : Oper} (h : o.guard = none) : Wants ops L i o := .inl h
theorem w_yes {o : Oper} {g : Nat} {b : Bool} (d : Nat) (h : o.guard = some (g, b)) (hd : (ops[g]?).bind (·.dst) = some d) (hw : waitsFor ops i g d = true) (hL : atI L g = isV (.bool b)) : Wants ops L i o := .inr ⟨g, b, d, h, hd, hw, hL⟩
theorem w_no {o : Oper} {g : Nat} {b c : Bool} (d : Nat) (h : o.guard = some (g, b)) (hd : (ops[g]?).bind (·.dst) = some d) (hw : waitsFor ops i g d = true) (hL : atI L g = isV (.bool c)) (hc : (c == b) = false) : WantsNot ops L i o := .inl ⟨g, b, c, d, h, hd, hw, hL, hc⟩
theorem w_un {o : Oper} {g : Nat} {b : Bool} (d : Nat) (h : o.guard = some (g, b)) (hd : (ops[g]?).bind (·.dst) = some d) (hw : waitsFor ops i g d = true) (hL : atI L g = isV undef) : WantsNot ops L i o := .inr ⟨g, b, d, h, hd, hw, hL⟩
def AllP (n : Nat) (ops : Array Oper) (l : Fr) (L : List Asr) (i : Nat) : List Operand → List Asr → Prop
  | [], [] => True
  | x :: xs, p :: ps => (∀ a, Has n l a → OpI ops a.tmps L i x p) ∧ AllP n ops l L i xs ps
  | _, _ => False
def Holds : List Asr → List Value → World → Prop
  | [], [], _ => True
  | p :: ps, v :: vs, w => p v w ∧ Holds ps vs w
  | _, _, _ => False
theorem p_tmp {t : Nat} {p : Asr} (h : OpG n ops l L i t p) : ∀ a, Has n l a → OpI ops a.tmps L i (.tmp t) p := h
theorem allP_holds {t0 : Act} (h0 : Has n l t0) {a : Act} {w : World} (hF : ∀ t, freeT ops t = true → a.eval (.tmp t) = t0.tmps.getD t undef) (hD : ∀ j d, waitsFor ops i j d = true → atI L j (a.eval (.tmp d)) w) :
    ∀ {xs : List Operand} {ps : List Asr}, AllP n ops l L i xs ps → Holds ps (xs.map a.eval) w
  | [], [], _ => trivial
  | x :: xs, p :: ps, h => ⟨h.1 t0 h0 a w hF hD, allP_holds h0 hF hD h.2⟩
  | [], _ :: _, h => h.elim
  | _ :: _, [], h => h.elim
theorem rg_call {f : FuncId} {xs : List Operand} {ts : Array TypeId} (ps : List Asr) (hi : ops[i]? = some ⟨some d, .call { callee := .value (.func f), args := xs.toArray, argTypes := ts }, ty, pos, aft, gd⟩) (hgo : goesIn P f = true)
    (hw : Wants ops L i ⟨some d, .call { callee := .value (.func f), args := xs.toArray, argTypes := ts }, ty, pos, aft, gd⟩) (hp : AllP n ops l L i xs ps)
    {p : Asr} (hc : ∀ vs w, Below W.heap.size W w → Holds ps vs w → Calls P f vs.toArray w (Gives p w)) (hI : atI L i = p) : RG P n ops Q l W L i :=
  fun a ha => st_call hi rfl hgo hw fun b w hF hG hD => by
    have := hc (xs.map b.eval) w hG (allP_holds ha hF hD hp)
    subst hI
    rwa [show (xs.map b.eval).toArray = xs.toArray.map b.eval by simp] at this
theorem rg_row {T e : TypeId} {m s : Nat} {xs : List (Nat × Operand)} {z : Value} (ps : List Asr) (hi : ops[i]? = some ⟨some d, .buildSlice T m xs.toArray, ty, pos, aft, gd⟩) (hw : Wants ops L i ⟨some d, .buildSlice T m xs.toArray, ty, pos, aft, gd⟩)
    (hU : P.underlying T = some (.slice e)) (hs : ∀ w, (sizeOf e).run P w = .ok s w) (hz : ∀ w, (zeroValue e).run P w = .ok z w) (hm : Nat.ble (m * s) 16777216 = true) (hm0 : Nat.beq (m * s) 0 = false) (hp : AllP n ops l L i (xs.map (·.2)) ps)
    (hf : ∀ vs w, Below W.heap.size W w → Holds ps vs w → ∃ cs : List Value, Instr.fill (fun i => some (i * s, s)) ((Array.range (m * s)).map (z.cells[· % z.cells.size]!)) ((xs.map (·.1)).zip vs) = some cs.toArray ∧
      ∀ B w', w.heap.size = B → w'.heap[B]? = some (.cells cs.toArray e (0, 0)) → Below w.heap.size w w' → atI L i (.slice (some ⟨B, 0, none⟩) m m) w') : RG P n ops Q l W L i :=
  fun a ha => st_value hi hw fun b w hF hG hD => by
    obtain ⟨cs, h1, h2⟩ := hf _ w hG (allP_holds ha hF hD hp)
    have h4 : m * s ≤ 16777216 := Nat.le_of_ble_eq_true hm
    have h5 : m * s ≠ 0 := fun e => by rw [e] at hm0; cases hm0
    have h6 : ¬ (m * s > 2 ^ 24) := by omega
    have h7 : ((xs.map (·.1)).zip ((xs.map (·.2)).map b.eval)) = xs.map (fun p => (p.1, b.eval p.2)) := by
      clear hi hw hp h1 hf h2
      induction xs with
      | nil => rfl
      | cons x xs ih => simp only [List.map_cons, List.zip_cons_cons, ih]
    rw [h7] at h1
    have hB : Below w.heap.size w (w.alloc (.cells cs.toArray e)) := (Below.refl _ _).alloc (Nat.le_refl _) _
    refine ⟨_, w.alloc (.cells cs.toArray e), ?_, h2 _ _ rfl (heap_alloc_new w _) hB, hB⟩
    unfold execOp
    simp only []
    rw [show (Array.map (fun p => (p.1, b.eval p.2)) xs.toArray) = (xs.map (fun p => (p.1, b.eval p.2))).toArray by simp]
    simp only [Instr.buildSlice, Sem.run_bind, run_underlying hU, Result.andThen_ok, hs, if_neg h6, if_neg h5, hz, Sem.run_pure, h1, newRow, run_newObj_alloc]
def FinI : List Oper → List Asr → Fr → (Fr → World → Prop) → World → Prop
  | [], _, l, K, W => K l W
  | o :: os, L, l, K, W => ∀ v, atI L 0 v W → FinI os L.tail ((match o.dst with | some d => [(d, v)] | none => []) ++ l) K W
theorem fin_v {c : Value} {K : Fr → World → Prop} {dst : Nat} {op : Op} {ty : TypeId} {pos : String} {aft : Array Edge} {g : Option (Nat × Bool)} (h : FinI os L ((dst, c) :: l) K W) : FinI (⟨some dst, op, ty, pos, aft, g⟩ :: os) (isV c :: L) l K W := fun v hv => by
  have : v = c := hv
  subst this; exact h
theorem fin_p {p : Asr} {K : Fr → World → Prop} {dst : Nat} {op : Op} {ty : TypeId} {pos : String} {aft : Array Edge} {g : Option (Nat × Bool)} (h : ∀ v, p v W → FinI os L ((dst, v) :: l) K W) : FinI (⟨some dst, op, ty, pos, aft, g⟩ :: os) (p :: L) l K W := fun v hv => h v hv
theorem fin_nil {K : Fr → World → Prop} (h : K l W) : FinI [] L l K W := h
theorem atI_tail (L : List Asr) (i : Nat) : atI L.tail i = atI L (i + 1) := by cases L <;> rfl
theorem fin_has {a : Act} {K : Fr → World → Prop} {G : Prop} : ∀ (os : List Oper) (L : List Asr) (l : Fr), (∀ i d, i < os.length → (os[i]?).bind (·.dst) = some d → atI L i (a.tmps.getD d undef) W) → a.tmps.size = n → a.defers = [] →
    (∀ t v, look l t = some v → (∀ o ∈ os, o.dst ≠ some t) → a.tmps.getD t undef = v) → (∀ o ∈ os, ∃ d, o.dst = some d) → (hK : ∀ l', K l' W → Has n l' a → G) → FinI os L l K W → G
  | [], L, l, hI, hs, hd, hl, _, hK, h => hK l h ⟨hs, hd, fun t v hv => hl t v hv (fun o ho => by cases ho)⟩
  | o :: os, L, l, hI, hs, hd, hl, hdst, hK, h => by
    obtain ⟨d, hod⟩ := hdst o List.mem_cons_self
    have h0 := hI 0 d (by simp) (by simp [hod])
    have h1 := h _ h0
    refine fin_has os L.tail _ (fun i e hi he => by rw [atI_tail]; exact hI (i + 1) e (by simpa using hi) (by simpa using he)) hs hd ?_ (fun o ho => hdst o (List.mem_cons_of_mem _ ho)) hK h1
    intro t v hv hno
    rw [hod] at hv
    simp only [List.cons_append, List.nil_append] at hv
    unfold look at hv
    cases hb : Nat.beq d t with
    | true =>
      simp only [hb, cond_true, Option.some.injEq] at hv
      rw [← Nat.eq_of_beq_eq_true hb]; exact hv
    | false =>
      simp only [hb, cond_false] at hv
      refine hl t v hv (fun o' ho' => ?_)
      rcases List.mem_cons.1 ho' with rfl | ho'
      · rw [hod]; intro e; rw [Option.some.inj e, Nat.beq_refl] at hb; cases hb
      · exact hno o' ho'
theorem regD {id : Nat} (hm : P.follows .mixedOrders = true) (L : List Asr) (hS : St w0 O G K W) (ht : tidyR os.toArray n = true) (hdst : os.all (fun o => o.dst.isSome) = true) {m : Nat} (hlen : os.length = m)
    (hstep : AllG P n os.toArray Q l W L m 0) (hst : StabL L)
    (hfin : ∀ W', Below W.heap.size W W' → St w0 O G ((W.heap.size, W') :: K) W' → FinI os L l (fun l' W' => XF Q .normal n l' W') W') : CodeF P n (.region id os.toArray true) Q l W := fun a ha => by
  subst hlen
  refine wp_region_steps hm L (by rw [ha.size]; exact ht) hst (by have := allG_from ha hstep; simpa using this) ?_
  intro a' W' hs hd hf hG hI
  refine fin_has os L l (fun i d hi hd' => hI i d (by simpa using hi) (by simpa using hd')) (hs.trans ha.size) (hd.trans ha.defers) ?_ (fun o ho => ?_) (fun l' h ha' => h a' ha') (hfin W' hG (hS.call hG))
  · intro t v hv hno
    rw [hf t (by unfold freeT; rw [Array.all_eq_true']; intro o ho; simpa using hno o (by simpa using ho))]
    exact ha.at_ t v hv
  · have := List.all_eq_true.1 hdst o ho
    exact Option.isSome_iff_exists.1 this
def isRow (lo m : Nat) (e : TypeId) (cs : List Value) : Asr := fun v w => ∃ B, v = .slice (some ⟨B, 0, none⟩) m m ∧ lo ≤ B ∧ w.heap[B]? = some (.cells cs.toArray e (0, 0))
theorem stab_isRow {lo m : Nat} {e : TypeId} {cs : List Value} : Stab (isRow lo m e cs) := fun v w w' ⟨B, h1, h2, h3⟩ hb => ⟨B, h1, h2, (hb.block B (lt_of_heap h3)).trans h3⟩
theorem holds_isV : ∀ {us vs : List Value} {w : World}, Holds (us.map isV) vs w → vs = us
  | [], [], _, _ => rfl
  | u :: us, v :: vs, w, h => by rw [holds_isV h.2]; congr 1; exact h.1
  | [], _ :: _, _, h => h.elim
  | _ :: _, [], _, h => h.elim
theorem rg_rowV {T e : TypeId} {m s : Nat} {xs : List (Nat × Operand)} {us : List Value} {z : Value} {cs : List Value} (hi : ops[i]? = some ⟨some d, .buildSlice T m xs.toArray, ty, pos, aft, gd⟩) (hw : Wants ops L i ⟨some d, .buildSlice T m xs.toArray, ty, pos, aft, gd⟩)
    (hU : P.underlying T = some (.slice e)) (hs : ∀ w, (sizeOf e).run P w = .ok s w) (hz : ∀ w, (zeroValue e).run P w = .ok z w) (hm : Nat.ble (m * s) 16777216 = true) (hm0 : Nat.beq (m * s) 0 = false) (hp : AllP n ops l L i (xs.map (·.2)) (us.map isV))
    (hf : Instr.fill (fun i => some (i * s, s)) ((Array.range (m * s)).map (z.cells[· % z.cells.size]!)) ((xs.map (·.1)).zip us) = some cs.toArray) (hI : atI L i = isRow W.heap.size m e cs) : RG P n ops Q l W L i :=
  rg_row (us.map isV) hi hw hU hs hz hm hm0 hp fun vs w hb hh => by
    rw [holds_isV hh]
    exact ⟨cs, hf, fun B w' hB h1 h2 => by rw [hI]; exact ⟨B, rfl, by rw [← hB]; exact hb.size, h1⟩⟩
theorem atI_get : ∀ (L : List Asr) (i : Nat), i < L.length → some (atI L i) = L[i]?
  | [], i, h => by simp at h
  | p :: L, 0, _ => rfl
  | p :: L, i + 1, h => by rw [List.getElem?_cons_succ]; exact atI_get L i (by simpa using h)
theorem at_top {p : Asr} {Lr : List Asr} (h : Lr.length = i) : atI (p :: Lr).reverse i = p := by
  have := atI_get (p :: Lr).reverse i (by simp; omega)
  rw [List.getElem?_reverse (by simp; omega)] at this
  simp only [List.length_cons, h, show i + 1 - 1 - i = 0 by omega, List.getElem?_cons_zero, Option.some.injEq] at this
  exact this
theorem at_dep {Lr : List Asr} {j : Nat} {p : Asr} (h : Lr.length = i + 1) (hj : Nat.ble j i = true) (hL : atI Lr (i - j) = p) : atI Lr.reverse j = p := by
  have hj' : j ≤ i := Nat.le_of_ble_eq_true hj
  have h1 := atI_get Lr.reverse j (by simp; omega)
  rw [List.getElem?_reverse (by omega)] at h1
  have h2 := atI_get Lr (i - j) (by omega)
  rw [show Lr.length - 1 - j = i - j by omega, ← h2, hL] at h1
  exact Option.some.inj h1
theorem RG.ext {L1 L2 : List Asr} (ht : tidyR ops n = true) (hag : ∀ j, j ≤ i → atI L1 j = atI L2 j) (h : RG P n ops Q l W L1 i) : RG P n ops Q l W L2 i := fun a ha => by
  have h1 := h a ha
  intro b w hF hG hD
  have hlt : ∀ j d, waitsFor ops i j d = true → j < i := fun j d hw => by
    cases ho : ops[i]? with
    | none => simp [waitsFor, ho] at hw
    | some o =>
      simp only [waitsFor, ho, Bool.and_eq_true, beq_iff_eq] at hw
      obtain ⟨e, he, h2⟩ := Array.any_eq_true'.1 hw.1
      simp only [Bool.and_eq_true, beq_iff_eq] at h2
      rw [← h2.1]; exact tidy_after ht ho e he h2.2
  have h2 := h1 b w hF hG (fun j d hw => by rw [hag j (Nat.le_of_lt (hlt j d hw))]; exact hD j d hw)
  rw [hag i (Nat.le_refl _)] at h2
  exact h2
def BL (P : Program) (n : Nat) (ops : Array Oper) (Q : Exit → Act → World → Prop) (l : Fr) (W : World) (Goal : List Asr → Prop) : Nat → List Asr → Nat → Prop
  | 0, Lr, _ => Goal Lr
  | m + 1, Lr, k => ∃ p, Stab p ∧ RG P n ops Q l W (p :: Lr).reverse k ∧ BL P n ops Q l W Goal m (p :: Lr) (k + 1)
variable {Goal : List Asr → Prop}
theorem bl_nil {Lr : List Asr} {k : Nat} (h : Goal Lr) : BL P n ops Q l W Goal 0 Lr k := h
theorem bl_cons {m k : Nat} {Lr : List Asr} (k' : Nat) (hk : k + 1 = k') (p : Asr) (hs : Stab p) (h : RG P n ops Q l W (p :: Lr).reverse k) (hr : BL P n ops Q l W Goal m (p :: Lr) k') : BL P n ops Q l W Goal (m + 1) Lr k := by
  subst hk; exact ⟨p, hs, h, hr⟩
theorem stabL_of : ∀ {L : List Asr}, (∀ p ∈ L, Stab p) → StabL L
  | [], _ => trivial
  | p :: L, h => ⟨h p List.mem_cons_self, stabL_of fun q hq => h q (List.mem_cons_of_mem _ hq)⟩
theorem atI_append {A B : List Asr} {j : Nat} (h : j < A.length) : atI (A ++ B) j = atI A j := by
  have h1 := atI_get (A ++ B) j (by simp; omega)
  have h2 := atI_get A j h
  rw [List.getElem?_append_left h, ← h2] at h1
  exact Option.some.inj h1
theorem bl_run (ht : tidyR ops n = true) : ∀ (m k : Nat) (Lr : List Asr), Lr.length = k → (∀ p ∈ Lr, Stab p) → (∀ i, i < k → RG P n ops Q l W Lr.reverse i) → BL P n ops Q l W Goal m Lr k →
    ∃ Lr', Lr'.length = k + m ∧ (∀ p ∈ Lr', Stab p) ∧ (∀ i, i < k + m → RG P n ops Q l W Lr'.reverse i) ∧ Goal Lr'
  | 0, k, Lr, hl, hs, hg, h => ⟨Lr, hl, hs, hg, h⟩
  | m + 1, k, Lr, hl, hs, hg, ⟨p, hp, hr, hn⟩ => by
    obtain ⟨L', h1, h2, h3, h4⟩ := bl_run ht m (k + 1) (p :: Lr) (by simp [hl]) (fun q hq => by
      rcases List.mem_cons.1 hq with rfl | hq
      · exact hp
      · exact hs q hq) (fun i hi => by
      by_cases hik : i = k
      · subst hik; exact hr
      · refine RG.ext ht (fun j hj => ?_) (hg i (by omega))
        rw [List.reverse_cons, atI_append (by simp; omega)]) hn
    exact ⟨L', by omega, h2, fun i hi => h3 i (by omega), h4⟩
theorem allG_of {L : List Asr} : ∀ (m k : Nat), (∀ i, i < k + m → RG P n ops Q l W L i) → AllG P n ops Q l W L m k
  | 0, _, _ => trivial
  | m + 1, k, h => ⟨h k (by omega), allG_of m (k + 1) fun i hi => h i (by omega)⟩
theorem regB {id : Nat} {m : Nat} (hm : P.follows .mixedOrders = true) (hS : St w0 O G K W) (ht : tidyR os.toArray n = true) (hdst : os.all (fun o => o.dst.isSome) = true) (hlen : os.length = m)
    (h : BL P n os.toArray Q l W (fun Lr => ∀ W', Below W.heap.size W W' → St w0 O G ((W.heap.size, W') :: K) W' → FinI os Lr.reverse l (fun l' W' => XF Q .normal n l' W') W') m [] 0) : CodeF P n (.region id os.toArray true) Q l W := by
  obtain ⟨Lr, h1, h2, h3, h4⟩ := bl_run ht m 0 [] rfl (fun p hp => by cases hp) (fun i hi => by omega) h
  exact regD hm Lr.reverse hS ht hdst hlen (allG_of m 0 (by simpa using h3)) (stabL_of fun p hp => h2 p (List.mem_reverse.1 hp)) h4
end
end Go.Proofs.Ytpinbmjkbkogdaa
namespace Go.Proofs.Ytpinbmjkbkogdaa
open Go Go.RowKit
set_option linter.unusedVariables false
def Off (β : Option Nat) (w w' : World) : Prop := (w'.os = w.os ∧ w'.tape = w.tape ∧ w'.output = w.output) ∧ w.heap.size ≤ w'.heap.size ∧ ∀ b, b < w.heap.size → β ≠ some b → w'.heap[b]? = w.heap[b]?
section
variable {β : Option Nat} {w w' w'' W : World} {p : Asr} {v c : Value}
theorem Off.refl (β : Option Nat) (w : World) : Off β w w := ⟨⟨rfl, rfl, rfl⟩, Nat.le_refl _, fun _ _ _ => rfl⟩
theorem Off.trans (h : Off β w w') (k : Off β w' w'') : Off β w w'' := ⟨⟨k.1.1.trans h.1.1, k.1.2.1.trans h.1.2.1, k.1.2.2.trans h.1.2.2⟩, Nat.le_trans h.2.1 k.2.1, fun b hb hn => (k.2.2 b (Nat.lt_of_lt_of_le hb h.2.1) hn).trans (h.2.2 b hb hn)⟩
theorem off_of (h : Below w.heap.size w w') : Off β w w' := ⟨⟨h.os, h.tape, h.output⟩, h.size, fun b hb _ => h.block b hb⟩
def Aw (β : Option Nat) (p : Asr) : Asr := fun v w => ∀ w', Off β w w' → p v w'
theorem Aw.here (h : Aw β p v w) : p v w := h w (Off.refl _ _)
theorem Aw.stab (h : Aw β p v w) (hb : Below w.heap.size w w') : Aw β p v w' := fun w'' ho => h w'' ((off_of hb).trans ho)
theorem aw_isV : Aw β (isV c) c w := fun _ _ => rfl
theorem aw_alloc {o : Obj} (h : Aw none p v w) (hB : Below w.heap.size w (w.alloc o)) : Aw (some w.heap.size) p v (w.alloc o) := fun w'' ho =>
  h w'' ⟨⟨ho.1.1.trans hB.os, ho.1.2.1.trans hB.tape, ho.1.2.2.trans hB.output⟩, Nat.le_trans hB.size ho.2.1, fun b hb _ => (ho.2.2 b (Nat.lt_of_lt_of_le hb hB.size) (fun e => by have := Option.some.inj e; omega)).trans (hB.block b hb)⟩
def GB (W : World) (β : Option Nat) (w : World) : Prop := Below W.heap.size W w ∧ ∀ B, β = some B → W.heap.size ≤ B ∧ B < w.heap.size
abbrev IB (L : List Asr) (β : Option Nat) (i : Nat) (v : Value) (w : World) : Prop := Aw β (atI L i) v w
theorem GB.next (h : GB W β w) (hb : Below w.heap.size w w') : GB W β w' := ⟨h.1.trans (hb.mono h.1.size), fun B e => ⟨(h.2 B e).1, Nat.lt_of_lt_of_le (h.2 B e).2 hb.size⟩⟩
def GivesN (p : Asr) (w : World) : Ending → World → Prop := fun e w' => ∃ v, e = .returned v ∧ (∀ w2, Agree w.heap.size w' w2 → p v w2) ∧ Below w.heap.size w w'
end
section
variable {P : Program} {n : Nat} {Q : Exit → Act → World → Prop} {l : Fr} {w0 W : World} {ops : Array Oper} {os : List Oper} {O : Own} {G : Grows} {K : List (Nat × World)} {L : List Asr} {i : Nat}
def RGA (P : Program) (n : Nat) (ops : Array Oper) (Q : Exit → Act → World → Prop) (l : Fr) (W : World) (L : List Asr) (i : Nat) : Prop := ∀ β a, Has n l a → RStep P ops Q a.tmps (GB W β) (IB L β) i
variable {d : Nat} {op : Op} {ty : TypeId} {pos : String} {aft : Array Edge} {v : Value} {gd : Option (Nat × Bool)}
theorem agV (li : Fr) (hi : ops[i]? = some ⟨some d, op, ty, pos, aft, gd⟩) (hw : Wants ops L i ⟨some d, op, ty, pos, aft, gd⟩) (hli : AllO n ops l L i li) (hr : ∀ w, Below W.heap.size W w → Runs P li ⟨some d, op, ty, pos, #[], none⟩ w v w) (hI : atI L i = isV v) : RGA P n ops Q l W L i :=
  fun β a ha => RStep.value hi fun b w hF hG hD => ⟨hw.yes (fun j d h => (hD j d h).here), v, w, by rw [execOp_guard b.eval _ _ _ _ pos _ #[] _ none]; exact hr w hG.1 b.eval (allO_has ha hF (fun j d h => (hD j d h).here) hli), by show Aw β (atI L i) v w; rw [hI]; exact aw_isV, hG, Below.refl _ _⟩
theorem ag_call {f : FuncId} {xs : List Operand} {ts : Array TypeId} (ps : List Asr) (hi : ops[i]? = some ⟨some d, .call { callee := .value (.func f), args := xs.toArray, argTypes := ts }, ty, pos, aft, gd⟩) (hgo : goesIn P f = true)
    (hw : Wants ops L i ⟨some d, .call { callee := .value (.func f), args := xs.toArray, argTypes := ts }, ty, pos, aft, gd⟩) (hp : AllP n ops l L i xs ps)
    {p : Asr} (hc : ∀ vs w, Below W.heap.size W w → Holds ps vs w → Calls P f vs.toArray w (GivesN p w)) (hI : atI L i = p) : RGA P n ops Q l W L i :=
  fun β a ha => RStep.call hi fun b w hF hG hD => ⟨hw.yes (fun j d h => (hD j d h).here), f, xs.toArray.map b.eval, run_call P b.eval w f xs.toArray ts _ rfl rfl hgo, by
    have h1 := hc (xs.map b.eval) w hG.1 (allP_holds ha hF (fun j d h => (hD j d h).here) hp)
    rw [show (xs.map b.eval).toArray = xs.toArray.map b.eval by simp] at h1
    refine h1.mono ?_
    rintro e w' ⟨v, he, hv, hb⟩
    refine ⟨v, he, ?_, hG.next hb, hb⟩
    show Aw β (atI L i) v w'
    rw [hI]
    exact fun w2 ho => hv w2 ⟨ho.2.1, fun b h1 h2 => ho.2.2 b h2 (fun e => by have := hG.2 b e; omega)⟩⟩
theorem region_lastE {k p : Nat} {t0 : Array Value} {d0 : List Deferred} {G : World → Prop} {I : Nat → Value → World → Prop} (hl : lastR ops k = true) (ht : tidyR ops t0.size = true) (hst : ∀ i v w w', G w → I i v w → Below w.heap.size w w' → I i v w')
    (hstep : ∀ i, i < k → i ≠ p → RStep P ops Q t0 G I i) (hfin : RFin ops t0 d0 G I k (wpOp P ops Q k (Q .normal))) :
    ∀ (fuel : Nat) (L : Array Bool) (a : Act) (w : World), L.size = ops.size → L.getD k true = false → L.getD p false = true → L.toList.count false ≤ fuel → RInv ops t0 d0 G I L a w → wpAny P .any ops Q fuel L a w := by
  simp only [lastR, Bool.and_eq_true, decide_eq_true_eq] at hl
  obtain ⟨hk, hl⟩ := hl
  have cnt : ∀ (L : Array Bool) i, L.getD i true = false → L.toList[i]? = some false := fun L i h1 => by
    rw [Array.getD_eq_getD_getElem?] at h1
    rw [Array.getElem?_toList]
    cases hL : L[i]? with
    | none => rw [hL] at h1; cases h1
    | some b => rw [hL] at h1; simpa using h1
  intro fuel
  induction fuel with
  | zero =>
    intro L a w hs hlk hlp hc h
    have := cnt_set _ _ (cnt L k hlk)
    omega
  | succ fuel ih =>
    intro L a w hs hlk hlp hc h
    refine ⟨fun hr => ?_, fun i hi => ?_⟩
    · rw [ready_nil ht hs hr k (by omega)] at hlk
      cases hlk
    · obtain ⟨h1, o, ho, hdep⟩ := mem_ready.1 hi
      have his : i < ops.size := (Array.getElem?_eq_some_iff.1 ho).1
      have hc1 := cnt_set _ _ (cnt L i h1)
      have hip : i ≠ p := by
        rintro rfl
        have h2 := cnt L i h1
        rw [Array.getElem?_toList] at h2
        rw [Array.getD_eq_getD_getElem?, h2] at hlp
        cases hlp
      by_cases hik : i = k
      · subst hik
        simp only [ho] at hl
        have hall : ∀ j, j < i → L.getD j false = true := fun j hj => by
          have := List.all_eq_true.1 hl j (List.mem_range.2 hj)
          obtain ⟨e, he, h2⟩ := Array.any_eq_true'.1 this
          simp only [Bool.and_eq_true, beq_iff_eq] at h2
          have := hdep e he h2.2
          rw [h2.1] at this
          exact this
        refine wpOp_mono ?_ (hfin a w h.size h.defers h.frame h.glob fun j d hj hd => h.done j d hd (hall j hj))
        intro a' w' hq
        have hnil : Region.ready .any ops (L.setIfInBounds i true) = [] := by
          cases hr : Region.ready .any ops (L.setIfInBounds i true) with
          | nil => rfl
          | cons j rest =>
            have hj : j ∈ Region.ready .any ops (L.setIfInBounds i true) := by rw [hr]; exact List.mem_cons_self
            obtain ⟨h5, o', ho', _⟩ := mem_ready.1 hj
            have hjs : j < ops.size := (Array.getElem?_eq_some_iff.1 ho').1
            by_cases hji : j = i
            · subst hji
              rw [Array.getD_eq_getD_getElem?, Array.getElem?_eq_getElem (by simpa using (by omega : j < L.size))] at h5
              simp at h5
            · rw [getD_set_ne true (Ne.symm hji)] at h5
              have h6 := hall j (by omega)
              rw [Array.getD_eq_getD_getElem?] at h5 h6
              rw [Array.getElem?_eq_getElem (by omega)] at h5 h6
              simp at h5 h6
              rw [h5] at h6
              cases h6
        cases fuel with
        | zero => exact ⟨hnil, hq⟩
        | succ fuel => exact ⟨fun _ => hq, by rw [hnil]; simp⟩
      · refine wpOp_mono ?_ (hstep i (by omega) hip a w h.frameE h.glob (h.deps hi))
        rintro a' w' ⟨⟨v, rfl, hI⟩, hG, hB⟩
        refine ih _ _ _ (by simpa using hs) (by rw [getD_set_ne true hik]; exact hlk) (by rw [getD_set_ne false hip]; exact hlp) ?_ (h.next ht h1 hst hI hG hB)
        rw [Array.toList_setIfInBounds]
        omega
def G2 (W : World) (B : Nat) (cs : List Value) (T : TypeId) (w : World) : Prop := GB W (some B) w ∧ w.heap[B]? = some (.cells cs.toArray T (0, 0))
def I2 (L : List Asr) (p B : Nat) (i : Nat) (v : Value) (w : World) : Prop := Aw (some B) (atI L i) v w ∧ (i = p → v = .pointer (some ⟨B, 0, none⟩))
theorem region_alloc {k p dp : Nat} {t0 : Array Value} {d0 : List Deferred} {T : TypeId} {z : Value} {cs : List Value} (hl : lastR ops k = true) (ht : tidyR ops t0.size = true) (hst : StabL L) (hpk : p < k) (hp : ops[p]? = some ⟨some dp, .alloc T, ty, pos, aft, none⟩)
    (hz : ∀ w, (zeroValue T).run P w = .ok z w) (hcs : z.cells = cs.toArray) (hLp : atI L p = fun _ _ => True)
    (hstep : ∀ β i, i < k → i ≠ p → RStep P ops Q t0 (GB W β) (IB L β) i) (hfin : ∀ B, RFin ops t0 d0 (G2 W B cs T) (I2 L p B) k (wpOp P ops Q k (Q .normal))) :
    ∀ (fuel : Nat) (LB : Array Bool) (a : Act) (w : World), LB.size = ops.size → LB.getD k true = false → LB.toList.count false ≤ fuel → LB.getD p true = false → RInv ops t0 d0 (GB W none) (IB L none) LB a w → wpAny P .any ops Q fuel LB a w := by
  have hl0 := hl
  simp only [lastR, Bool.and_eq_true, decide_eq_true_eq] at hl
  obtain ⟨hk, hl⟩ := hl
  have cnt : ∀ (L : Array Bool) i, L.getD i true = false → L.toList[i]? = some false := fun L i h1 => by
    rw [Array.getD_eq_getD_getElem?] at h1
    rw [Array.getElem?_toList]
    cases hL : L[i]? with
    | none => rw [hL] at h1; cases h1
    | some b => rw [hL] at h1; simpa using h1
  intro fuel
  induction fuel with
  | zero =>
    intro LB a w hs hlk hc hlp h
    have := cnt_set _ _ (cnt LB k hlk)
    omega
  | succ fuel ih =>
    intro LB a w hs hlk hc hlp h
    refine ⟨fun hr => ?_, fun i hi => ?_⟩
    · rw [ready_nil ht hs hr k (by omega)] at hlk
      cases hlk
    · obtain ⟨h1, o, ho, hdep⟩ := mem_ready.1 hi
      have his : i < ops.size := (Array.getElem?_eq_some_iff.1 ho).1
      have hc1 := cnt_set _ _ (cnt LB i h1)
      by_cases hik : i = k
      · subst hik
        simp only [ho] at hl
        have := List.all_eq_true.1 hl p (List.mem_range.2 hpk)
        obtain ⟨e, he, h2⟩ := Array.any_eq_true'.1 this
        simp only [Bool.and_eq_true, beq_iff_eq] at h2
        have h3 := hdep e he h2.2
        rw [h2.1] at h3
        have h4 := cnt LB p hlp
        rw [Array.getElem?_toList] at h4
        rw [Array.getD_eq_getD_getElem?, h4] at h3
        cases h3
      · by_cases hip : i = p
        · subst hip
          rw [hp] at ho
          have ho' := (Option.some.inj ho).symm
          have hB : Below w.heap.size w (w.alloc (.cells cs.toArray T)) := (Below.refl _ _).alloc (Nat.le_refl _) _
          have hnew := heap_alloc_new w (.cells cs.toArray T)
          have step : wpOp P ops Q i (fun a' w' => a' = a.put (some dp) (.pointer (some ⟨w.heap.size, 0, none⟩)) ∧ w' = w.alloc (.cells cs.toArray T)) a w := by
            unfold wpOp
            simp only [hp, wanted_free (o := ⟨some dp, .alloc T, ty, pos, aft, none⟩) rfl, if_true]
            refine .inl ?_
            unfold Oper.wp
            have e : (execOp a.eval ⟨some dp, .alloc T, ty, pos, aft, none⟩).run P w = .ok (.value (.pointer (some ⟨w.heap.size, 0, none⟩))) (w.alloc (.cells cs.toArray T)) := by
              unfold execOp; simp only []; simp [Instr.alloc, newVar, newRow, hz, hcs]
            rw [e]
            exact ⟨rfl, rfl⟩
          refine wpOp_mono ?_ step
          rintro a' w' ⟨rfl, rfl⟩
          have hdst : (ops[i]?).bind (·.dst) = some dp := by rw [hp]; rfl
          refine region_lastE (t0 := t0) (d0 := d0) (p := i) (G := G2 W w.heap.size cs T) (I := I2 L i w.heap.size) hl0 ht ?_ ?_ (hfin _) fuel _ _ _ (by simpa using hs) (by rw [getD_set_ne true hik]; exact hlk) ?_ ?_ ?_
          · rintro j v w1 w2 _ ⟨h5, h6⟩ hb
            exact ⟨h5.stab hb, h6⟩
          · intro j hj hji b w1 hF hG hD
            refine wpOp_mono ?_ (hstep (some w.heap.size) j hj hji b w1 hF hG.1 (fun m d hm => (hD m d hm).1))
            rintro a2 w2 ⟨⟨v, hv, h5⟩, h6, h7⟩
            exact ⟨⟨v, hv, fun d hd => ⟨h5 d hd, fun e => absurd e hji⟩⟩, ⟨h6, (h7.block _ (hG.1.2 _ rfl).2).trans hG.2⟩, h7⟩
          · rw [Array.getD_eq_getD_getElem?, Array.getElem?_setIfInBounds_self_of_lt (by omega)]; rfl
          · rw [Array.toList_setIfInBounds]; omega
          · refine ⟨by rw [put_size]; exact h.size, by rw [put_defers]; exact h.defers, fun t hf => ?_, ⟨⟨h.glob.1.trans (hB.mono h.glob.1.size), fun B e => ?_⟩, hnew⟩, fun j d hd hj => ?_⟩
            · rw [put_other ?_]
              · exact h.frame t hf
              · intro e
                have := Array.all_eq_true'.1 hf _ (Array.mem_of_getElem? hp)
                simp at this
                exact this (Option.some.inj e)
            · cases e
              exact ⟨h.glob.1.size, lt_of_heap hnew⟩
            · by_cases hji : j = i
              · subst hji
                rw [hdst] at hd
                rw [put_at hd (by rw [h.size]; exact (tidy_dst ht (hdst.trans hd)).1)]
                exact ⟨by rw [hLp]; exact fun _ _ => trivial, fun _ => rfl⟩
              · rw [getD_set_ne false (Ne.symm hji)] at hj
                rw [put_other (fun e => hji ((tidy_dst ht (hdst.trans e)).2 j hd))]
                exact ⟨aw_alloc (h.done j d hd hj) hB, fun e => absurd e hji⟩
        · refine wpOp_mono ?_ (hstep none i (by omega) hip a w h.frameE h.glob (h.deps hi))
          rintro a' w' ⟨⟨v, rfl, hI⟩, hG, hB⟩
          refine ih _ _ _ (by simpa using hs) (by rw [getD_set_ne true hik]; exact hlk) ?_ (by rw [getD_set_ne true hip]; exact hlp) (h.next ht h1 (fun i v w w' _ h hb => Aw.stab h hb) hI hG hB)
          rw [Array.toList_setIfInBounds]
          omega
def awL (B p : Nat) : Nat → List Asr → List Asr
  | _, [] => []
  | j, q :: L => (bif Nat.beq j p then isV (.pointer (some ⟨B, 0, none⟩)) else Aw (some B) q) :: awL B p (j + 1) L
theorem atI_awL {B p : Nat} : ∀ (L : List Asr) (j i : Nat), i < L.length → atI (awL B p j L) i = if i + j = p then isV (.pointer (some ⟨B, 0, none⟩)) else Aw (some B) (atI L i)
  | [], j, i, h => by simp at h
  | q :: L, j, 0, h => by
    show (bif Nat.beq j p then isV (.pointer (some ⟨B, 0, none⟩)) else Aw (some B) q) = _
    cases hb : Nat.beq j p with
    | true => rw [if_pos (by rw [Nat.zero_add]; exact Nat.eq_of_beq_eq_true hb)]; rfl
    | false => rw [if_neg (by rw [Nat.zero_add]; intro e; rw [e, Nat.beq_refl] at hb; cases hb)]; rfl
  | q :: L, j, i + 1, h => by
    show atI (awL B p (j + 1) L) i = _
    rw [atI_awL L (j + 1) i (by simpa using h)]
    by_cases h1 : i + (j + 1) = p
    · rw [if_pos h1, if_pos (by omega)]
    · rw [if_neg h1, if_neg (by omega)]; rfl
theorem St.newO {W' A1 : World} {B : Nat} {cs : List Value} {T : TypeId} (h : St w0 O G K W) (hb : Below W.heap.size W W') (hB : W.heap.size ≤ B) (hc : W'.heap[B]? = some (.cells cs.toArray T (0, 0))) (hA : A1.heap.size = B) (hA1 : Agree W.heap.size A1 W') :
    St w0 ((B, cs, T) :: O) G ((W.heap.size, A1) :: (B + 1, W') :: K) W' := by
  have h2 := h.grow hb
  have hlt : ∀ p ∈ O, p.1 < W.heap.size := fun p hp => lt_of_heap (h.own p hp).2
  refine ⟨h2.below, fun p hp => ?_, List.pairwise_cons.2 ⟨fun p hp => ?_, h2.dist⟩, fun q hq => ?_, fun g hg => ⟨(h2.rows g hg).1, fun b hbo => ?_⟩, h2.gdist⟩
  · rcases List.mem_cons.1 hp with rfl | hp
    · exact ⟨Nat.le_trans h.below.size hB, hc⟩
    · exact h2.own p hp
  · have := hlt p hp
    show B ≠ p.1
    omega
  · rcases List.mem_cons.1 hq with rfl | hq
    · refine ⟨hA1, fun p hp => ?_⟩
      rcases List.mem_cons.1 hp with rfl | hp
      · exact .inr (by show A1.heap.size ≤ B; omega)
      · exact .inl (hlt p hp)
    · rcases List.mem_cons.1 hq with rfl | hq
      · refine ⟨Agree.refl _ _, fun p hp => .inl ?_⟩
        rcases List.mem_cons.1 hp with rfl | hp
        · show B < B + 1; omega
        · have := hlt p hp; show p.1 < B + 1; omega
      · refine ⟨(h2.kept q hq).1, fun p hp => ?_⟩
        rcases List.mem_cons.1 hp with rfl | hp
        · exact .inr (Nat.le_trans (h.kept q hq).1.1 hB)
        · exact (h2.kept q hq).2 p hp
  · have hbl := (h.glt hg hbo).2
    refine ⟨fun p hp => ?_, fun q hq => ?_⟩
    · rcases List.mem_cons.1 hp with rfl | hp
      · show B ≠ b; omega
      · exact ((h2.rows g hg).2 b hbo).1 p hp
    · rcases List.mem_cons.1 hq with rfl | hq
      · exact .inl hbl
      · rcases List.mem_cons.1 hq with rfl | hq
        · exact .inl (by show b < B + 1; omega)
        · exact ((h2.rows g hg).2 b hbo).2 q hq
theorem cut_world (W' : World) {B lo : Nat} (hB : B ≤ W'.heap.size) : ∃ A1 : World, A1.heap.size = B ∧ Agree lo A1 W' := by
  refine ⟨{ W' with heap := W'.heap.extract 0 B }, by simp; omega, by simp; omega, fun b _ hb => ?_⟩
  have hb' : b < (W'.heap.extract 0 B).size := hb
  simp at hb'
  show W'.heap[b]? = (W'.heap.extract 0 B)[b]?
  rw [Array.getElem?_extract, if_pos (by omega), Nat.zero_add]
theorem regDA {id p dp : Nat} {o : Oper} {T : TypeId} {z : Value} {cs : List Value} {aft0 : Array Edge} (hm : P.follows .mixedOrders = true) (L : List Asr) (hS : St w0 O G K W) (hL : L.length = os.length) (hl : lastR (os ++ [o]).toArray os.length = true) (ht : tidyR (os ++ [o]).toArray n = true) (hdst : os.all (fun o => o.dst.isSome) = true) (hfree : ∀ d, o.dst = some d → look l d = none)
    (hpk : p < os.length) (hp : (os ++ [o]).toArray[p]? = some ⟨some dp, .alloc T, ty, pos, aft0, none⟩) (hz : ∀ w, (zeroValue T).run P w = .ok z w) (hcs : z.cells = cs.toArray) (hLp : atI L p = fun _ _ => True)
    (hstep : ∀ i, i < os.length → i ≠ p → RGA P n (os ++ [o]).toArray Q l W L i) (hst : StabL L)
    (hfin : ∀ B A1 W', Below W.heap.size W W' → A1.heap.size = B → Agree W.heap.size A1 W' → W.heap.size ≤ B → B < W'.heap.size → St w0 ((B, cs, T) :: O) G ((W.heap.size, A1) :: (B + 1, W') :: K) W' → FinI os (awL B p 0 L) l (fun l' W' => OpsF P n (os ++ [o]).toArray Q [o] l' W') W') : CodeF P n (.region id (os ++ [o]).toArray true) Q l W := fun a ha => by
  refine wp_region_any hm (region_alloc (W := W) (t0 := a.tmps) (d0 := a.defers) (cs := cs) hl (by rw [ha.size]; exact ht) hst hpk hp hz hcs hLp (fun β i hi hip => hstep i hi hip β a ha) ?_ _ _ _ _ (by simp) ?_ (count_rep _) ?_ (inv_zero ⟨(Below.refl _ _).drew, fun B e => by cases e⟩))
  · intro B a' W' hs hd hf hG hI
    have hk : ((os ++ [o]).toArray)[os.length]? = some o := by simp
    obtain ⟨A1, hA, hA1⟩ := cut_world W' (B := B) (lo := W.heap.size) (Nat.le_of_lt (hG.1.2 B rfl).2)
    refine fin_has os (awL B p 0 L) l (fun i d hi hd' => ?_) (hs.trans ha.size) (hd.trans ha.defers) ?_ (fun o ho => ?_) (fun l' h ha' => ?_) (hfin B A1 W' hG.1.1 hA hA1 (hG.1.2 B rfl).1 (hG.1.2 B rfl).2 (hS.newO hG.1.1 (hG.1.2 B rfl).1 hG.2 hA hA1))
    · have h1 := hI i d hi (by simp [List.getElem?_append_left hi]; simpa using hd')
      rw [atI_awL L 0 i (by omega)]
      by_cases hip : i + 0 = p
      · rw [if_pos hip]; exact h1.2 hip
      · rw [if_neg hip]; exact h1.1
    · intro t v hv hno
      rw [hf t (by
        unfold freeT; rw [Array.all_eq_true']; intro o' ho'
        have : o' ∈ os ++ [o] := by simpa using ho'
        rcases List.mem_append.1 this with h1 | h1
        · simpa using hno o' h1
        · simp only [List.mem_singleton] at h1
          subst h1
          cases hx : o'.dst with
          | none => simp
          | some d => simp; intro e; subst e; rw [hfree d hx] at hv; cases hv)]
      exact ha.at_ t v hv
    · have := List.all_eq_true.1 hdst o ho
      exact Option.isSome_iff_exists.1 this
    · have h1 := h a' ha'
      unfold wpOp
      rw [hk]
      exact h1
  · rw [Array.getD_eq_getD_getElem?, Array.getElem?_replicate, if_pos (by simp)]; rfl
  · rw [Array.getD_eq_getD_getElem?, Array.getElem?_replicate, if_pos (by simp; omega)]; rfl
theorem RGA.ext {L1 L2 : List Asr} (ht : tidyR ops n = true) (hag : ∀ j, j ≤ i → atI L1 j = atI L2 j) (h : RGA P n ops Q l W L1 i) : RGA P n ops Q l W L2 i := fun β a ha => by
  have h1 := h β a ha
  intro b w hF hG hD
  have hlt : ∀ j d, waitsFor ops i j d = true → j < i := fun j d hw => by
    cases ho : ops[i]? with
    | none => simp [waitsFor, ho] at hw
    | some o =>
      simp only [waitsFor, ho, Bool.and_eq_true, beq_iff_eq] at hw
      obtain ⟨e, he, h2⟩ := Array.any_eq_true'.1 hw.1
      simp only [Bool.and_eq_true, beq_iff_eq] at h2
      rw [← h2.1]; exact tidy_after ht ho e he h2.2
  have h2 := h1 b w hF hG (fun j d hw => by unfold IB; rw [hag j (Nat.le_of_lt (hlt j d hw))]; exact hD j d hw)
  unfold IB at h2
  rw [hag i (Nat.le_refl _)] at h2
  exact h2
def anyA : Asr := fun _ _ => True
theorem stab_anyA : Stab anyA := fun _ _ _ _ _ => trivial
def BLA (P : Program) (n : Nat) (ops : Array Oper) (Q : Exit → Act → World → Prop) (l : Fr) (W : World) (p : Nat) (Goal : List Asr → Prop) : Nat → List Asr → Nat → Prop
  | 0, Lr, _ => Goal Lr
  | m + 1, Lr, k => ∃ q, Stab q ∧ ((k = p ∧ q = anyA) ∨ (k ≠ p ∧ RGA P n ops Q l W (q :: Lr).reverse k)) ∧ BLA P n ops Q l W p Goal m (q :: Lr) (k + 1)
variable {Goal : List Asr → Prop}
theorem bla_nil {Lr : List Asr} {k p : Nat} (h : Goal Lr) : BLA P n ops Q l W p Goal 0 Lr k := h
theorem bla_cons {m k p : Nat} {Lr : List Asr} (k' : Nat) (hk : k + 1 = k') (hne : Nat.beq k p = false) (q : Asr) (hs : Stab q) (h : RGA P n ops Q l W (q :: Lr).reverse k) (hr : BLA P n ops Q l W p Goal m (q :: Lr) k') : BLA P n ops Q l W p Goal (m + 1) Lr k := by
  subst hk; exact ⟨q, hs, .inr ⟨fun e => absurd hne (by rw [e, Nat.beq_refl]; decide), h⟩, hr⟩
theorem bla_alloc {m k p : Nat} {Lr : List Asr} (k' : Nat) (hk : k + 1 = k') (hp : k = p) (hr : BLA P n ops Q l W p Goal m (anyA :: Lr) k') : BLA P n ops Q l W p Goal (m + 1) Lr k := by
  subst hk; exact ⟨anyA, stab_anyA, .inl ⟨hp, rfl⟩, hr⟩
theorem bla_run (p : Nat) (ht : tidyR ops n = true) : ∀ (m k : Nat) (Lr : List Asr), Lr.length = k → (∀ q ∈ Lr, Stab q) → (∀ i, i < k → (i = p ∧ atI Lr.reverse i = anyA) ∨ (i ≠ p ∧ RGA P n ops Q l W Lr.reverse i)) → BLA P n ops Q l W p Goal m Lr k →
    ∃ Lr', Lr'.length = k + m ∧ (∀ q ∈ Lr', Stab q) ∧ (∀ i, i < k + m → (i = p ∧ atI Lr'.reverse i = anyA) ∨ (i ≠ p ∧ RGA P n ops Q l W Lr'.reverse i)) ∧ Goal Lr'
  | 0, k, Lr, hl, hs, hg, h => ⟨Lr, hl, hs, hg, h⟩
  | m + 1, k, Lr, hl, hs, hg, ⟨q, hp, hr, hn⟩ => by
    obtain ⟨L', h1, h2, h3, h4⟩ := bla_run p ht m (k + 1) (q :: Lr) (by simp [hl]) (fun r hq => by
      rcases List.mem_cons.1 hq with rfl | hq
      · exact hp
      · exact hs r hq) (fun i hi => by
      by_cases hik : i = k
      · subst hik
        rcases hr with ⟨e1, e2⟩ | hr
        · exact .inl ⟨e1, by rw [at_top hl]; exact e2⟩
        · exact .inr hr
      · have hap : ∀ j, j ≤ i → atI Lr.reverse j = atI (q :: Lr).reverse j := fun j hj => by rw [List.reverse_cons, atI_append (by simp; omega)]
        rcases hg i (by omega) with ⟨e1, e2⟩ | hg
        · exact .inl ⟨e1, by rw [← hap i (Nat.le_refl _)]; exact e2⟩
        · exact .inr ⟨hg.1, RGA.ext ht hap hg.2⟩) hn
    exact ⟨L', by omega, h2, fun i hi => h3 i (by omega), h4⟩
theorem regBA {id dp : Nat} {o : Oper} {T : TypeId} {z : Value} {cs : List Value} {aft0 : Array Edge} (hm : P.follows .mixedOrders = true) (k p : Nat) (hS : St w0 O G K W) (hk : os[k]? = some o) (hp : os[p]? = some ⟨some dp, .alloc T, ty, pos, aft0, none⟩) (hlen : os.length = k + 1) (hpk : Nat.blt p k = true) (hz : ∀ w, (zeroValue T).run P w = .ok z w) (hcs : z.cells = cs.toArray)
    (hl : lastR os.toArray k = true) (ht : tidyR os.toArray n = true) (hdst : (os.take k).all (fun o => o.dst.isSome) = true) (hfree : ∀ d, o.dst = some d → look l d = none)
    (h : BLA P n os.toArray Q l W p (fun Lr => ∀ B A1 W', Below W.heap.size W W' → A1.heap.size = B → Agree W.heap.size A1 W' → W.heap.size ≤ B → B < W'.heap.size → St w0 ((B, cs, T) :: O) G ((W.heap.size, A1) :: (B + 1, W') :: K) W' → FinI (os.take k) (awL B p 0 Lr.reverse) l (fun l' W' => OpsF P n os.toArray Q [o] l' W') W') k [] 0) : CodeF P n (.region id os.toArray true) Q l W := by
  obtain ⟨Lr, h1, h2, h3, h4⟩ := bla_run p ht k 0 [] rfl (fun p hp => by cases hp) (fun i hi => by omega) h
  have hpk' : p < k := Nat.lt_of_lt_of_le (Nat.lt_succ_self _) (Nat.le_of_ble_eq_true hpk)
  have e : os = os.take k ++ [o] := by
    apply List.ext_getElem?
    intro j
    by_cases hj : j < k
    · rw [List.getElem?_append_left (by simp; omega), List.getElem?_take, if_pos hj]
    · by_cases hj2 : j = k
      · subst hj2; rw [List.getElem?_append_right (by simp; omega), hk]; simp [show min j os.length = j by omega]
      · rw [List.getElem?_eq_none (by omega), List.getElem?_eq_none (by simp; omega)]
  have hkl : (os.take k).length = k := by simp; omega
  generalize hg : os.take k = os1 at *
  subst hkl
  subst e
  rw [Nat.zero_add] at h1 h3
  have hLp : atI Lr.reverse p = anyA := by
    rcases h3 p hpk' with h5 | h5
    · exact h5.2
    · exact absurd rfl h5.1
  refine regDA hm Lr.reverse hS (by simp [h1]) hl ht hdst hfree hpk' (by simpa using hp) hz hcs hLp (fun i hi hip => ?_) (stabL_of fun q hq => h2 q (List.mem_reverse.1 hq)) h4
  rcases h3 i hi with h5 | h5
  · exact absurd h5.1 hip
  · exact h5.2
theorem fin_av {B : Nat} {c : Value} {K : Fr → World → Prop} {dst : Nat} {op : Op} {ty : TypeId} {pos : String} {aft : Array Edge} {g : Option (Nat × Bool)} (h : FinI os L ((dst, c) :: l) K W) : FinI (⟨some dst, op, ty, pos, aft, g⟩ :: os) (Aw (some B) (isV c) :: L) l K W := fun v hv => by
  have : v = c := Aw.here (β := some B) (p := isV c) hv
  subst this; exact h
theorem St.own_lt (h : St w0 O G K W) : ∀ p ∈ O, p.1 < W.heap.size := fun p hp => lt_of_heap (h.own p hp).2
end
end Go.Proofs.Ytpinbmjkbkogdaa
namespace Go.Proofs.Ytpinbmjkbkogdaa
open Go Go.RowKit
set_option linter.unusedVariables false
section
variable {P : Program} {n : Nat} {Q : Exit → Act → World → Prop} {l : Fr} {w0 W : World} {ops : Array Oper} {os : List Oper} {O : Own} {G : Grows} {K : List (Nat × World)} {L L2 : List Asr} {i : Nat}
theorem region_lastS {k : Nat} {dn : Nat → Bool} {t0 : Array Value} {d0 : List Deferred} {G : World → Prop} {I : Nat → Value → World → Prop} (hl : lastR ops k = true) (ht : tidyR ops t0.size = true) (hst : ∀ i v w w', G w → I i v w → Below w.heap.size w w' → I i v w')
    (hstep : ∀ i, i < k → dn i = false → RStep P ops Q t0 G I i) (hfin : RFin ops t0 d0 G I k (wpOp P ops Q k (Q .normal))) :
    ∀ (fuel : Nat) (L : Array Bool) (a : Act) (w : World), L.size = ops.size → L.getD k true = false → (∀ i, dn i = true → L.getD i false = true) → L.toList.count false ≤ fuel → RInv ops t0 d0 G I L a w → wpAny P .any ops Q fuel L a w := by
  simp only [lastR, Bool.and_eq_true, decide_eq_true_eq] at hl
  obtain ⟨hk, hl⟩ := hl
  have cnt : ∀ (L : Array Bool) i, L.getD i true = false → L.toList[i]? = some false := fun L i h1 => by
    rw [Array.getD_eq_getD_getElem?] at h1
    rw [Array.getElem?_toList]
    cases hL : L[i]? with
    | none => rw [hL] at h1; cases h1
    | some b => rw [hL] at h1; simpa using h1
  intro fuel
  induction fuel with
  | zero =>
    intro L a w hs hlk hlp hc h
    have := cnt_set _ _ (cnt L k hlk)
    omega
  | succ fuel ih =>
    intro L a w hs hlk hlp hc h
    refine ⟨fun hr => ?_, fun i hi => ?_⟩
    · rw [ready_nil ht hs hr k (by omega)] at hlk
      cases hlk
    · obtain ⟨h1, o, ho, hdep⟩ := mem_ready.1 hi
      have his : i < ops.size := (Array.getElem?_eq_some_iff.1 ho).1
      have hc1 := cnt_set _ _ (cnt L i h1)
      have hip : dn i = false := by
        cases hd : dn i with
        | false => rfl
        | true =>
          have h3 := hlp i hd
          have h2 := cnt L i h1
          rw [Array.getElem?_toList] at h2
          rw [Array.getD_eq_getD_getElem?, h2] at h3
          cases h3
      by_cases hik : i = k
      · subst hik
        simp only [ho] at hl
        have hall : ∀ j, j < i → L.getD j false = true := fun j hj => by
          have := List.all_eq_true.1 hl j (List.mem_range.2 hj)
          obtain ⟨e, he, h2⟩ := Array.any_eq_true'.1 this
          simp only [Bool.and_eq_true, beq_iff_eq] at h2
          have := hdep e he h2.2
          rw [h2.1] at this
          exact this
        refine wpOp_mono ?_ (hfin a w h.size h.defers h.frame h.glob fun j d hj hd => h.done j d hd (hall j hj))
        intro a' w' hq
        have hnil : Region.ready .any ops (L.setIfInBounds i true) = [] := by
          cases hr : Region.ready .any ops (L.setIfInBounds i true) with
          | nil => rfl
          | cons j rest =>
            have hj : j ∈ Region.ready .any ops (L.setIfInBounds i true) := by rw [hr]; exact List.mem_cons_self
            obtain ⟨h5, o', ho', _⟩ := mem_ready.1 hj
            have hjs : j < ops.size := (Array.getElem?_eq_some_iff.1 ho').1
            by_cases hji : j = i
            · subst hji
              rw [Array.getD_eq_getD_getElem?, Array.getElem?_eq_getElem (by simpa using (by omega : j < L.size))] at h5
              simp at h5
            · rw [getD_set_ne true (Ne.symm hji)] at h5
              have h6 := hall j (by omega)
              rw [Array.getD_eq_getD_getElem?] at h5 h6
              rw [Array.getElem?_eq_getElem (by omega)] at h5 h6
              simp at h5 h6
              rw [h5] at h6
              cases h6
        cases fuel with
        | zero => exact ⟨hnil, hq⟩
        | succ fuel => exact ⟨fun _ => hq, by rw [hnil]; simp⟩
      · refine wpOp_mono ?_ (hstep i (by omega) hip a w h.frameE h.glob (h.deps hi))
        rintro a' w' ⟨⟨v, rfl, hI⟩, hG, hB⟩
        refine ih _ _ _ (by simpa using hs) (by rw [getD_set_ne true hik]; exact hlk) (fun j hj => ?_) ?_ (h.next ht h1 hst hI hG hB)
        · have hij : i ≠ j := fun e => by subst e; rw [hip] at hj; cases hj
          rw [getD_set_ne false hij]; exact hlp j hj
        · rw [Array.toList_setIfInBounds]
          omega
def aft (ops : Array Oper) (j : Nat) : List Nat := match ops[j]? with | some o => (o.after.toList.filter fun e => Region.binds .any e).map (·.on) | none => []
def earlyL (ops : Array Oper) (p : Nat) : List Nat := (List.range p).reverse.foldl (fun S j => bif S.contains j then aft ops j ++ S else S) (aft ops p)
theorem early_done {p : Nat} {D : Nat → Prop} (h0 : ∀ x ∈ aft ops p, D x) (hc : ∀ j, D j → ∀ x ∈ aft ops j, D x) : ∀ x ∈ earlyL ops p, D x := by
  have key : ∀ (js S : List Nat), (∀ x ∈ S, D x) → ∀ x ∈ js.foldl (fun S j => bif S.contains j then aft ops j ++ S else S) S, D x := by
    intro js
    induction js with
    | nil => intro S h; exact h
    | cons j js ih =>
      intro S h
      refine ih _ ?_
      show ∀ x ∈ (bif S.contains j then aft ops j ++ S else S), D x
      cases hj : S.contains j with
      | false => exact h
      | true =>
        intro x hx
        rw [cond_true] at hx
        rcases List.mem_append.1 hx with hx | hx
        · exact hc j (h j (List.contains_iff_mem.1 hj)) x hx
        · exact h x hx
  exact key _ _ h0
theorem aft_mem {j : Nat} {o : Oper} (ho : ops[j]? = some o) {x : Nat} (hx : x ∈ aft ops j) : ∃ e ∈ o.after, e.on = x ∧ Region.binds .any e = true := by
  unfold aft at hx
  rw [ho] at hx
  obtain ⟨e, he, rfl⟩ := List.mem_map.1 hx
  obtain ⟨h1, h2⟩ := List.mem_filter.1 he
  exact ⟨e, Array.mem_toList_iff.1 h1, rfl, h2⟩
def IP (L2 : List Asr) (p : Nat) (v' : Value) (i : Nat) (v : Value) (w : World) : Prop := (i = p → v = v') ∧ atI L2 i v w
theorem region_append {k p dp : Nat} {t0 : Array Value} {d0 : List Deferred} {late : Nat → Bool} {o : Oper} {RA : World → Value → World → Prop} (hl : lastR ops k = true) (ht : tidyR ops t0.size = true) (hst : StabL L) (hst2 : StabL L2) (hpk : p < k) (hp : ops[p]? = some o) (hod : o.dst = some dp) (hog : o.guard = none)
    (hearly : ∀ j, j < k → j ≠ p → late j = false → j ∈ earlyL ops p)
    (hstep : ∀ i, i < k → i ≠ p → RStep P ops Q t0 (fun w => Below W.heap.size W w) (atI L) i)
    (happ : ∀ (a : Act) (w : World), (∀ t, freeT ops t = true → a.eval (.tmp t) = t0.getD t undef) → Below W.heap.size W w → (∀ j d, waitsFor ops p j d = true → atI L j (a.eval (.tmp d)) w) → ∃ v w', (execOp a.eval o).run P w = .ok (.value v) w' ∧ RA w v w')
    (hL2p : atI L2 p = anyA) (hpure : ∀ i, i < k → i ≠ p → ∀ v w w', atI L i v w → atI L2 i v w')
    (hlate : ∀ v' W2 i, i < k → i ≠ p → late i = true → RStep P ops Q t0 (fun w => w = W2) (IP L2 p v') i)
    (hfin : ∀ A v' W2, Below W.heap.size W A → RA A v' W2 → RFin ops t0 d0 (fun w => w = W2) (IP L2 p v') k (wpOp P ops Q k (Q .normal))) :
    ∀ (fuel : Nat) (LB : Array Bool) (a : Act) (w : World), LB.size = ops.size → LB.getD k true = false → LB.toList.count false ≤ fuel → LB.getD p true = false → (∀ j, LB.getD j false = true → ∀ x ∈ aft ops j, LB.getD x false = true) → RInv ops t0 d0 (fun w => Below W.heap.size W w) (atI L) LB a w → wpAny P .any ops Q fuel LB a w := by
  have hl0 := hl
  simp only [lastR, Bool.and_eq_true, decide_eq_true_eq] at hl
  obtain ⟨hk, hl⟩ := hl
  have cnt : ∀ (L : Array Bool) i, L.getD i true = false → L.toList[i]? = some false := fun L i h1 => by
    rw [Array.getD_eq_getD_getElem?] at h1
    rw [Array.getElem?_toList]
    cases hL : L[i]? with
    | none => rw [hL] at h1; cases h1
    | some b => rw [hL] at h1; simpa using h1
  intro fuel
  induction fuel with
  | zero =>
    intro LB a w hs hlk hc hlp hcl h
    have := cnt_set _ _ (cnt LB k hlk)
    omega
  | succ fuel ih =>
    intro LB a w hs hlk hc hlp hcl h
    refine ⟨fun hr => ?_, fun i hi => ?_⟩
    · rw [ready_nil ht hs hr k (by omega)] at hlk
      cases hlk
    · obtain ⟨h1, o', ho, hdep⟩ := mem_ready.1 hi
      have his : i < ops.size := (Array.getElem?_eq_some_iff.1 ho).1
      have hc1 := cnt_set _ _ (cnt LB i h1)
      by_cases hik : i = k
      · subst hik
        simp only [ho] at hl
        have := List.all_eq_true.1 hl p (List.mem_range.2 hpk)
        obtain ⟨e, he, h2⟩ := Array.any_eq_true'.1 this
        simp only [Bool.and_eq_true, beq_iff_eq] at h2
        have h3 := hdep e he h2.2
        rw [h2.1] at h3
        have h4 := cnt LB p hlp
        rw [Array.getElem?_toList] at h4
        rw [Array.getD_eq_getD_getElem?, h4] at h3
        cases h3
      · by_cases hip : i = p
        · subst hip
          rw [hp] at ho
          have ho' := (Option.some.inj ho).symm
          subst ho'
          obtain ⟨v', w', hr, hRA⟩ := happ a w h.frameE h.glob (h.deps hi)
          have step : wpOp P ops Q i (fun a2 w2 => a2 = a.put (some dp) v' ∧ w2 = w') a w := by
            unfold wpOp
            simp only [hp, wanted_free hog, if_true]
            refine .inl ?_
            unfold Oper.wp
            rw [hr]
            exact ⟨by rw [hod], rfl⟩
          refine wpOp_mono ?_ step
          rintro a2 w2 ⟨rfl, rfl⟩
          have hdst : (ops[i]?).bind (·.dst) = some dp := by rw [hp]; exact hod
          refine region_lastS (t0 := t0) (d0 := d0) (dn := fun j => decide (j = i) || (decide (j < k) && !late j)) (G := fun w => w = w2) (I := IP L2 i v') hl0 ht ?_ ?_ (hfin _ _ _ h.glob hRA) fuel _ _ _ (by simpa using hs) (by rw [getD_set_ne true hik]; exact hlk) ?_ ?_ ?_
          · rintro j v w1 w3 _ ⟨h5, h6⟩ hb
            exact ⟨h5, atI_stab hst2 _ _ _ _ h6 hb⟩
          · intro j hj hd
            simp only [Bool.or_eq_false_iff, decide_eq_false_iff_not, Bool.and_eq_false_iff, Bool.not_eq_false'] at hd
            refine hlate v' w2 j hj hd.1 ?_
            rcases hd.2 with h5 | h5
            · exact absurd hj h5
            · exact h5
          · intro j hd
            simp only [Bool.or_eq_true, decide_eq_true_eq, Bool.and_eq_true, Bool.not_eq_true'] at hd
            by_cases hji : j = i
            · subst hji
              rw [Array.getD_eq_getD_getElem?, Array.getElem?_setIfInBounds_self_of_lt (by omega)]; rfl
            · rcases hd with hd | ⟨hd1, hd2⟩
              · exact absurd hd hji
              · rw [getD_set_ne false (Ne.symm hji)]
                refine early_done (D := fun x => LB.getD x false = true) (fun x hx => ?_) (fun j hj x hx => hcl j hj x hx) j (hearly j hd1 hji hd2)
                obtain ⟨e, he, h5, h6⟩ := aft_mem hp hx
                have h7 := hdep e he h6
                rw [h5] at h7
                exact h7
          · rw [Array.toList_setIfInBounds]; omega
          · refine ⟨by rw [put_size]; exact h.size, by rw [put_defers]; exact h.defers, fun t hf => ?_, rfl, fun j d hd hj => ?_⟩
            · rw [put_other ?_]
              · exact h.frame t hf
              · intro e
                have := Array.all_eq_true'.1 hf _ (Array.mem_of_getElem? hp)
                simp at this
                exact this (hod.trans e)
            · by_cases hji : j = i
              · subst hji
                rw [hdst] at hd
                rw [put_at hd (by rw [h.size]; exact (tidy_dst ht (hdst.trans hd)).1)]
                exact ⟨fun _ => rfl, by rw [hL2p]; trivial⟩
              · rw [getD_set_ne false (Ne.symm hji)] at hj
                rw [put_other (fun e => hji ((tidy_dst ht (hdst.trans e)).2 j hd))]
                have hjk : j < k := by
                  obtain ⟨o2, ho2, _⟩ := Option.bind_eq_some_iff.1 hd
                  have h5 := (Array.getElem?_eq_some_iff.1 ho2).1
                  have h6 : j ≠ k := fun e => by
                    subst e
                    have h4 := cnt LB j hlk
                    rw [Array.getElem?_toList] at h4
                    rw [Array.getD_eq_getD_getElem?, h4] at hj
                    cases hj
                  omega
                exact ⟨fun e => absurd e hji, hpure j hjk hji _ _ _ (h.done j d hd hj)⟩
        · refine wpOp_mono ?_ (hstep i (by omega) hip a w h.frameE h.glob (h.deps hi))
          rintro a' w' ⟨⟨v, rfl, hI⟩, hG, hB⟩
          refine ih _ _ _ (by simpa using hs) (by rw [getD_set_ne true hik]; exact hlk) ?_ (by rw [getD_set_ne true hip]; exact hlp) (fun j hj x hx => ?_) (h.next ht h1 (fun i v w w' _ h hb => atI_stab hst i v w w' h hb) hI hG hB)
          · rw [Array.toList_setIfInBounds]
            omega
          · have hx2 : LB.getD x false = true := by
              by_cases hji : j = i
              · subst hji
                obtain ⟨e, he, h5, h6⟩ := aft_mem ho hx
                have h7 := hdep e he h6
                rw [h5] at h7
                exact h7
              · rw [getD_set_ne false (Ne.symm hji)] at hj
                exact hcl j hj x hx
            by_cases hxi : x = i
            · subst hxi
              rw [Array.getD_eq_getD_getElem?, Array.getElem?_setIfInBounds_self_of_lt (by omega)]; rfl
            · rw [getD_set_ne false (Ne.symm hxi)]; exact hx2
def pvL (v : Value) (p : Nat) : Nat → List Asr → List Asr
  | _, [] => []
  | j, q :: L => (bif Nat.beq j p then isV v else q) :: pvL v p (j + 1) L
theorem atI_pvL {v : Value} {p : Nat} : ∀ (L : List Asr) (j i : Nat), i < L.length → atI (pvL v p j L) i = if i + j = p then isV v else atI L i
  | [], j, i, h => by simp at h
  | q :: L, j, 0, h => by
    show (bif Nat.beq j p then isV v else q) = _
    cases hb : Nat.beq j p with
    | true => rw [if_pos (by rw [Nat.zero_add]; exact Nat.eq_of_beq_eq_true hb)]; rfl
    | false => rw [if_neg (by rw [Nat.zero_add]; intro e; rw [e, Nat.beq_refl] at hb; cases hb)]; rfl
  | q :: L, j, i + 1, h => by
    show atI (pvL v p (j + 1) L) i = _
    rw [atI_pvL L (j + 1) i (by simpa using h)]
    by_cases h1 : i + (j + 1) = p
    · rw [if_pos h1, if_pos (by omega)]
    · rw [if_neg h1, if_neg (by omega)]; rfl
variable {d : Nat} {op : Op} {ty : TypeId} {pos : String} {aft : Array Edge} {v : Value} {gd : Option (Nat × Bool)}
def RGL (P : Program) (n : Nat) (ops : Array Oper) (Q : Exit → Act → World → Prop) (l : Fr) (L2 : List Asr) (p i : Nat) : Prop := ∀ v' W2 a, Has n l a → RStep P ops Q a.tmps (fun w => w = W2) (IP L2 p v') i
theorem lgV {p : Nat} (li : Fr) (hi : ops[i]? = some ⟨some d, op, ty, pos, aft, gd⟩) (hw : Wants ops L2 i ⟨some d, op, ty, pos, aft, gd⟩) (hli : AllO n ops l L2 i li) (hr : ∀ w, Runs P li ⟨some d, op, ty, pos, #[], none⟩ w v w) (hI : atI L2 i = isV v) (hip : Nat.beq i p = false) : RGL P n ops Q l L2 p i :=
  fun v' W2 a ha => RStep.value hi fun b w hF hG hD => ⟨hw.yes (fun j d h => (hD j d h).2), v, w, by rw [execOp_guard b.eval _ _ _ _ pos _ #[] _ none]; exact hr w b.eval (allO_has ha hF (fun j d h => (hD j d h).2) hli), ⟨fun e => absurd hip (by rw [e, Nat.beq_refl]; decide), by rw [hI]; rfl⟩, hG, Below.refl _ _⟩
theorem RGL.ext {L1 L2 : List Asr} {p : Nat} (ht : tidyR ops n = true) (hag : ∀ j, j ≤ i → atI L1 j = atI L2 j) (h : RGL P n ops Q l L1 p i) : RGL P n ops Q l L2 p i := fun v' W2 a ha => by
  have h1 := h v' W2 a ha
  intro b w hF hG hD
  have hlt : ∀ j d, waitsFor ops i j d = true → j < i := fun j d hw => by
    cases ho : ops[i]? with
    | none => simp [waitsFor, ho] at hw
    | some o =>
      simp only [waitsFor, ho, Bool.and_eq_true, beq_iff_eq] at hw
      obtain ⟨e, he, h2⟩ := Array.any_eq_true'.1 hw.1
      simp only [Bool.and_eq_true, beq_iff_eq] at h2
      rw [← h2.1]; exact tidy_after ht ho e he h2.2
  have h2 := h1 b w hF hG (fun j d hw => by unfold IP; rw [hag j (Nat.le_of_lt (hlt j d hw))]; exact hD j d hw)
  unfold IP at h2
  rw [hag i (Nat.le_refl _)] at h2
  exact h2
def PureA (q q2 : Asr) : Prop := ∀ v w w', q v w → q2 v w'
theorem pure_v {c : Value} : PureA (isV c) (isV c) := fun _ _ _ h => h
theorem pure_any {q : Asr} : PureA q anyA := fun _ _ _ _ => trivial
def earlyR (ops : Array Oper) (p j : Nat) : Bool := (earlyL ops p).contains j
def BLP (P : Program) (n : Nat) (ops : Array Oper) (Q : Exit → Act → World → Prop) (l : Fr) (W : World) (p : Nat) (Goal : List Asr → List Asr → Prop) : Nat → List Asr → List Asr → Nat → Prop
  | 0, Lr, L2r, _ => Goal Lr L2r
  | m + 1, Lr, L2r, k => ∃ q q2, Stab q ∧ Stab q2 ∧ PureA q q2 ∧ ((k = p ∧ q2 = anyA) ∨ (k ≠ p ∧ RG P n ops Q l W (q :: Lr).reverse k ∧ (earlyR ops p k = true ∨ RGL P n ops Q l (q2 :: L2r).reverse p k))) ∧ BLP P n ops Q l W p Goal m (q :: Lr) (q2 :: L2r) (k + 1)
variable {Goal : List Asr → List Asr → Prop}
theorem blp_nil {Lr L2r : List Asr} {k p : Nat} (h : Goal Lr L2r) : BLP P n ops Q l W p Goal 0 Lr L2r k := h
theorem blp_v {m k p : Nat} {Lr L2r : List Asr} {c : Value} (k' : Nat) (hk : k + 1 = k') (hne : Nat.beq k p = false) (he : earlyR ops p k = true) (h : RG P n ops Q l W (isV c :: Lr).reverse k) (hr : BLP P n ops Q l W p Goal m (isV c :: Lr) (isV c :: L2r) k') : BLP P n ops Q l W p Goal (m + 1) Lr L2r k := by
  subst hk; exact ⟨isV c, isV c, stab_isV _, stab_isV _, pure_v, .inr ⟨fun e => absurd hne (by rw [e, Nat.beq_refl]; decide), h, .inl he⟩, hr⟩
theorem blp_q {m k p : Nat} {Lr L2r : List Asr} (k' : Nat) (hk : k + 1 = k') (hne : Nat.beq k p = false) (he : earlyR ops p k = true) (q : Asr) (hs : Stab q) (h : RG P n ops Q l W (q :: Lr).reverse k) (hr : BLP P n ops Q l W p Goal m (q :: Lr) (anyA :: L2r) k') : BLP P n ops Q l W p Goal (m + 1) Lr L2r k := by
  subst hk; exact ⟨q, anyA, hs, stab_anyA, pure_any, .inr ⟨fun e => absurd hne (by rw [e, Nat.beq_refl]; decide), h, .inl he⟩, hr⟩
theorem blp_late {m k p : Nat} {Lr L2r : List Asr} {c : Value} (k' : Nat) (hk : k + 1 = k') (hne : Nat.beq k p = false) (h : RG P n ops Q l W (isV c :: Lr).reverse k) (h2 : RGL P n ops Q l (isV c :: L2r).reverse p k) (hr : BLP P n ops Q l W p Goal m (isV c :: Lr) (isV c :: L2r) k') : BLP P n ops Q l W p Goal (m + 1) Lr L2r k := by
  subst hk; exact ⟨isV c, isV c, stab_isV _, stab_isV _, pure_v, .inr ⟨fun e => absurd hne (by rw [e, Nat.beq_refl]; decide), h, .inr h2⟩, hr⟩
theorem blp_app {m k p : Nat} {Lr L2r : List Asr} (k' : Nat) (hk : k + 1 = k') (hp : k = p) (hr : BLP P n ops Q l W p Goal m (anyA :: Lr) (anyA :: L2r) k') : BLP P n ops Q l W p Goal (m + 1) Lr L2r k := by
  subst hk; exact ⟨anyA, anyA, stab_anyA, stab_anyA, pure_any, .inl ⟨hp, rfl⟩, hr⟩
def BG (P : Program) (n : Nat) (ops : Array Oper) (Q : Exit → Act → World → Prop) (l : Fr) (W : World) (p : Nat) (L L2 : List Asr) (i : Nat) : Prop := PureA (atI L i) (atI L2 i) ∧ ((i = p ∧ atI L2 i = anyA) ∨ (i ≠ p ∧ RG P n ops Q l W L i ∧ (earlyR ops p i = true ∨ RGL P n ops Q l L2 p i)))
theorem blp_run (p : Nat) (ht : tidyR ops n = true) : ∀ (m k : Nat) (Lr L2r : List Asr), Lr.length = k → L2r.length = k → (∀ q ∈ Lr, Stab q) → (∀ q ∈ L2r, Stab q) → (∀ i, i < k → BG P n ops Q l W p Lr.reverse L2r.reverse i) → BLP P n ops Q l W p Goal m Lr L2r k →
    ∃ Lr' L2r', Lr'.length = k + m ∧ L2r'.length = k + m ∧ (∀ q ∈ Lr', Stab q) ∧ (∀ q ∈ L2r', Stab q) ∧ (∀ i, i < k + m → BG P n ops Q l W p Lr'.reverse L2r'.reverse i) ∧ Goal Lr' L2r'
  | 0, k, Lr, L2r, hl, hl2, hs, hs2, hg, h => ⟨Lr, L2r, hl, hl2, hs, hs2, hg, h⟩
  | m + 1, k, Lr, L2r, hl, hl2, hs, hs2, hg, ⟨q, q2, hp, hp2, hpu, hr, hn⟩ => by
    obtain ⟨L', L2', h1, h2, h3, h4, h5, h6⟩ := blp_run p ht m (k + 1) (q :: Lr) (q2 :: L2r) (by simp [hl]) (by simp [hl2]) (fun r hq => by
      rcases List.mem_cons.1 hq with rfl | hq
      · exact hp
      · exact hs r hq) (fun r hq => by
      rcases List.mem_cons.1 hq with rfl | hq
      · exact hp2
      · exact hs2 r hq) (fun i hi => by
      by_cases hik : i = k
      · subst hik
        refine ⟨by rw [at_top hl, at_top hl2]; exact hpu, ?_⟩
        rcases hr with ⟨e1, e2⟩ | hr
        · exact .inl ⟨e1, by rw [at_top hl2]; exact e2⟩
        · exact .inr hr
      · have hap : ∀ j, j ≤ i → atI Lr.reverse j = atI (q :: Lr).reverse j := fun j hj => by rw [List.reverse_cons, atI_append (by simp; omega)]
        have hap2 : ∀ j, j ≤ i → atI L2r.reverse j = atI (q2 :: L2r).reverse j := fun j hj => by rw [List.reverse_cons, atI_append (by simp; omega)]
        obtain ⟨g1, g2⟩ := hg i (by omega)
        refine ⟨by rw [← hap i (Nat.le_refl _), ← hap2 i (Nat.le_refl _)]; exact g1, ?_⟩
        rcases g2 with ⟨e1, e2⟩ | ⟨e1, e2, e3⟩
        · exact .inl ⟨e1, by rw [← hap2 i (Nat.le_refl _)]; exact e2⟩
        · exact .inr ⟨e1, RG.ext ht hap e2, e3.imp id (RGL.ext ht hap2)⟩) hn
    exact ⟨L', L2', by omega, by omega, h3, h4, fun i hi => h5 i (by omega), h6⟩
def RowOf (m s : Nat) (q : List Value → World → Prop) (py : Asr) : Prop := ∀ v w, py v w → ∃ b o c cs, v = .slice (some ⟨b, o, none⟩) m c ∧ CellsAt w b o cs ∧ cs.length = m * s ∧ cs.all Value.oneCell' = true ∧ q cs w
theorem rowOf_isRow {lo m s : Nat} {e : TypeId} {cs : List Value} (hl : Nat.beq cs.length (m * s) = true) (h1 : cs.all Value.oneCell' = true) : RowOf m s (fun xs _ => xs = cs) (isRow lo m e cs) := fun v w ⟨B, hv, _, hc⟩ =>
  ⟨B, 0, m, cs, hv, CellsAt.own (j := 0) (m := cs.length) hc (by simp), Nat.eq_of_beq_eq_true hl, h1, rfl⟩
theorem regBP {id dp p k : Nat} {o : Oper} {t e tx tz : TypeId} {inf : TypeInfo} {z : Value} {gi m : Nat} {g : GR} {aftp : Array Edge} (hm : P.follows .mixedOrders = true) (hS : St w0 O G K W) (hk : os[k]? = some o) (hlen : os.length = k + 1) (hl : lastR os.toArray k = true) (ht : tidyR os.toArray n = true) (hdst : (os.take k).all (fun o => o.dst.isSome) = true) (hfree : ∀ d, o.dst = some d → look l d = none)
    (hp : os[p]? = some ⟨some dp, .call { callee := .builtin .append, args := #[.tmp tx, .tmp tz], argTypes := #[t, t] }, ty, pos, aftp, none⟩) (hpk : Nat.blt p k = true)
    (hU : P.underlying t = some (.slice e)) (hinf : P.info? e = some inf) (hz : inf.zero = some z) (hzs : z.cells.size = inf.size) (hsz : 0 < inf.size)
    (hi : G[gi]? = some g) (he : g.e = e) (hgs : g.size = inf.size) (h63 : g.n + m ≤ maxLen) (hbytes : (g.n + m) * inf.bytes ≤ 140737488355328)
    (h : BLP P n os.toArray Q l W p (fun Lr L2r => ∃ (py : Asr) (q : List Value → World → Prop), OpG n os.toArray l Lr.reverse p tx (isV g.v) ∧ OpG n os.toArray l Lr.reverse p tz py ∧ RowOf m inf.size q py ∧
      ∀ A v' news W', Below W.heap.size W A → q news A → St w0 O (G.set gi ⟨v', g.n + m, g.xs ++ news, e, g.size⟩) ((W.heap.size, A) :: K) W' → FinI (os.take k) (pvL v' p 0 L2r.reverse) l (fun l' W' => OpsF P n os.toArray Q [o] l' W') W') k [] [] 0) : CodeF P n (.region id os.toArray true) Q l W := by
  obtain ⟨Lr, L2r, h1, h2, h3, h4, h5, py, q, hx, hy, hpy, hfin⟩ := blp_run p ht k 0 [] [] rfl rfl (fun p hp => by cases hp) (fun p hp => by cases hp) (fun i hi => by omega) h
  have hpk' : p < k := Nat.lt_of_lt_of_le (Nat.lt_succ_self _) (Nat.le_of_ble_eq_true hpk)
  subst he
  rw [Nat.zero_add] at h1 h2 h5
  have hpo : os.toArray[p]? = some ⟨some dp, .call { callee := .builtin .append, args := #[.tmp tx, .tmp tz], argTypes := #[t, t] }, ty, pos, aftp, none⟩ := by simpa using hp
  have hko : os.toArray[k]? = some o := by simpa using hk
  have hL2p : atI L2r.reverse p = anyA := by
    rcases (h5 p hpk').2 with h6 | h6
    · exact h6.2
    · exact absurd rfl h6.1
  intro a ha
  refine wp_region_any hm (region_append (W := W) (t0 := a.tmps) (d0 := a.defers) (L := Lr.reverse) (L2 := L2r.reverse) (late := fun j => !earlyR os.toArray p j)
    (RA := fun A v' W' => ∃ news, q news A ∧ St w0 O (G.set gi ⟨v', g.n + m, g.xs ++ news, g.e, g.size⟩) ((W.heap.size, A) :: K) W') hl (by rw [ha.size]; exact ht) (stabL_of fun q hq => h3 q (List.mem_reverse.1 hq)) (stabL_of fun q hq => h4 q (List.mem_reverse.1 hq)) hpk' hpo rfl rfl ?_ ?_ ?_ hL2p ?_ ?_ ?_ _ _ _ _ (by simp) ?_ (count_rep _) ?_ (fun j hj => by rw [Array.getD_eq_getD_getElem?, Array.getElem?_replicate] at hj; split at hj <;> simp at hj) (inv_zero ((Below.refl _ _).drew)))
  · intro j hj hjp he
    simp only [Bool.not_eq_false'] at he
    exact List.contains_iff_mem.1 he
  · intro i hi hip
    rcases (h5 i hi).2 with h6 | h6
    · exact absurd h6.1 hip
    · exact h6.2.1 a ha
  · intro b w hF hG hD
    have ex : b.eval (.tmp tx) = g.v := hx a ha b w hF hD
    obtain ⟨bb, oo, c, cs, ey, hc, hcl, h1c, hq⟩ := hpy _ w (hy a ha b w hF hD)
    have hS2 := hS.call hG
    have hrow := hS2.row gi hi
    rw [hgs] at hrow
    obtain ⟨v', W', hr, k2, k3, k4⟩ := append_own2 (P := P) (w := w) w0.heap.size t ty g.e inf z hU hinf hz hzs hsz g.v g.n g.xs hrow ⟨bb, oo, none⟩ m c cs hcl (fun j u hj => by rw [Addr.add_lit]; exact hc.get j u hj) (fun u hu => List.all_eq_true.1 h1c u hu) h63 hbytes hS2.below.size
    rw [← hgs] at k2
    refine ⟨v', W', ?_, cs, hq, hS2.setG gi hi k2 k3 k4⟩
    unfold execOp
    simp only [resolve, invoke, builtin, Sem.run_bind, Sem.run_pure, Result.andThen_ok, List.map_toArray, List.map_cons, List.map_nil, ex, ey, hr]
  · intro i hi hip v w w' hv
    exact (h5 i hi).1 v w w' hv
  · intro v' W2 i hi hip hlt
    rcases (h5 i hi).2 with h6 | h6
    · exact absurd h6.1 hip
    · rcases h6.2.2 with h7 | h7
      · rw [h7] at hlt; cases hlt
      · exact h7 v' W2 a ha
  · rintro A v' W2 hB ⟨news, hq, hS2⟩
    intro a' W' hs hd hf hG hI
    subst hG
    have hdst' : ∀ o ∈ os.take k, ∃ d, o.dst = some d := fun o ho => Option.isSome_iff_exists.1 (List.all_eq_true.1 hdst o ho)
    have htk : (os.take k).length = k := by simp; omega
    refine fin_has (os.take k) (pvL v' p 0 L2r.reverse) l (fun i d hi hd' => ?_) (hs.trans ha.size) (hd.trans ha.defers) ?_ hdst' (fun l' h ha' => ?_) (hfin A v' news W' hB hq hS2)
    · have hik : i < k := by omega
      have h6 := hI i d hik (by rw [List.getElem?_take, if_pos hik] at hd'; simpa using hd')
      rw [atI_pvL L2r.reverse 0 i (by simp; omega)]
      by_cases hip : i + 0 = p
      · rw [if_pos hip]; exact h6.1 hip
      · rw [if_neg hip]; exact h6.2
    · intro t' v hv hno
      rw [hf t' (by
        unfold freeT; rw [Array.all_eq_true']; intro o' ho'
        have ho2 : o' ∈ os := by simpa using ho'
        obtain ⟨j, hj⟩ := List.getElem?_of_mem ho2
        by_cases hjk : j < k
        · have : o' ∈ os.take k := List.mem_of_getElem? (by rw [List.getElem?_take, if_pos hjk]; exact hj)
          simpa using hno o' this
        · have hjl := (List.getElem?_eq_some_iff.1 hj).1
          have : j = k := by omega
          subst this
          rw [hk] at hj
          have e2 := Option.some.inj hj
          subst e2
          cases hx : o.dst with
          | none => simp
          | some d => simp; intro e; subst e; rw [hfree d hx] at hv; cases hv)]
      exact ha.at_ t' v hv
    · have h6 := h a' ha'
      unfold wpOp
      rw [hko]
      exact h6
  · rw [Array.getD_eq_getD_getElem?, Array.getElem?_replicate, if_pos (by simp; omega)]; rfl
  · rw [Array.getD_eq_getD_getElem?, Array.getElem?_replicate, if_pos (by simp; omega)]; rfl
end
end Go.Proofs.Ytpinbmjkbkogdaa
namespace Go.Proofs.Ytpinbmjkbkogdaa
open Go Go.RowKit
set_option linter.unusedVariables false
section
variable {P : Program} {ops : Array Oper} {Q : Exit → Act → World → Prop} {σ : Type}
end
structure Sg where
  ev : Option Value
  bs : List (Nat × Nat)
section
variable {lo : Nat} {X X' : Nat → Prop} {w w' w'' : World} {p : Asr} {v c : Value}
end
section
variable {P : Program} {n : Nat} {Q : Exit → Act → World → Prop} {l : Fr} {w0 W : World} {ops : Array Oper} {os : List Oper} {K : List (Nat × World)} {L : List Asr} {i : Nat}
variable {al : List Nat} {ca : Nat → Option Value → List Value} {ta : Nat → TypeId} {Os : Option Value → Own} {Gs : Option Value → Grows} {lo ef jy : Nat} {s : Sg}
theorem St.drops {O : Own} {G : Grows} {w : World} : ∀ (A : Own), St w0 (A ++ O) G K w → St w0 O G K w
  | [], h => h
  | _ :: A, h => St.drops A h.tail
variable {d : Nat} {op : Op} {ty : TypeId} {pos : String} {aft_ : Array Edge} {v : Value} {gd : Option (Nat × Bool)}
theorem St.perm {O O' : Own} {G : Grows} {w : World} (h : St w0 O G K w) (hp : O.Perm O') : St w0 O' G K w where
  below := h.below
  own := fun p hp' => h.own p (hp.mem_iff.2 hp')
  dist := h.dist.perm hp (fun h => Ne.symm h)
  kept := fun q hq => ⟨(h.kept q hq).1, fun p hp' => (h.kept q hq).2 p (hp.mem_iff.2 hp')⟩
  rows := fun g hg => ⟨(h.rows g hg).1, fun b hb => ⟨fun p hp' => ((h.rows g hg).2 b hb).1 p (hp.mem_iff.2 hp'), ((h.rows g hg).2 b hb).2⟩⟩
  gdist := h.gdist
variable {Goal : List Asr → Prop}
end
end Go.Proofs.Ytpinbmjkbkogdaa
namespace Go.Proofs.Ytpinbmjkbkogdaa
open Go Go.RowKit
set_option linter.unusedVariables false
section
variable {P : Program} {n : Nat} {Q : Exit → Act → World → Prop} {l : Fr} {w0 W : World} {ops : Array Oper} {os : List Oper} {K : List (Nat × World)} {L : List Asr} {i : Nat} {O : Own} {G : Grows}
variable {al : List Nat} {zc : Nat → List Value} {ta : Nat → TypeId} {lo ef jy : Nat} {d : Nat} {ty : TypeId} {pos : String} {aft_ : Array Edge} {v : Value}
theorem storeAt_many {T : TypeId} {B j m : Nat} {vs cs : List Value} {U : TypeId} {w : World} {y : Value} (hsz : ∀ w, (sizeOf T).run P w = .ok m w) (hc : y.cells = vs.toArray) (hl : vs.length = m) (h1 : vs.all Value.oneCell' = true) (hB : w.heap[B]? = some (.cells cs.toArray U (0, 0))) (hj : j + m ≤ cs.length) :
    (Instr.storeAt T (.pointer (some ⟨B, j, none⟩)) y).run P w = .ok () (setMany w B j vs) := by
  subst hl
  have hst := run_storeMany (P := P) vs 0 j w cs hB (by omega) (fun u hu => List.all_eq_true.1 h1 u hu)
  rw [Nat.add_zero] at hst
  simp [Instr.storeAt, Instr.sureAddr, storeVar, hsz, hc, hst]
end
end Go.Proofs.Ytpinbmjkbkogdaa
namespace Go.Proofs.Ytpinbmjkbkogdaa
open Go Go.RowKit
set_option linter.unusedVariables false
theorem ownsRow_sl {w : World} {base size n : Nat} {e : TypeId} {v : Value} {xs : List Value} (h : w.ownsRow base e size v n xs) : ∃ a c, v = .slice a n c ∧ n ≤ c := by
  rcases h.2 with ⟨rfl, rfl⟩ | ⟨g, cap, cur, rfl, _, _, hn, _⟩
  · exact ⟨none, 0, rfl, Nat.le_refl _⟩
  · exact ⟨_, cap, rfl, hn⟩
theorem ownsRow_agree {w W : World} {lo size n : Nat} {e : TypeId} {v : Value} {xs : List Value} (h : w.ownsRow lo e size v n xs) (hg : Agree lo w W) : W.ownsRow lo e size v n xs := by
  refine ⟨h.1, ?_⟩
  rcases h.2 with h2 | ⟨g, cap, cur, rfl, hb, hh, k⟩
  · exact .inl h2
  · exact .inr ⟨g, cap, cur, rfl, hb, (hg.2 g hb (lt_of_heap hh)).trans hh, k⟩
theorem ownsRow_cells {w : World} {base size n : Nat} {e : TypeId} {a : Option Addr} {c : Nat} {xs : List Value} (h : w.ownsRow base e size (.slice a n c) n xs) : (a = none ∧ n = 0) ∨ ∃ b, a = some ⟨b, 0, none⟩ ∧ base ≤ b ∧ ∀ (j : Nat) u, xs[j]? = some u → w.cell? ⟨b, j, none⟩ = some u := by
  rcases h.2 with ⟨e1, e2⟩ | ⟨g, cap, cur, e1, hb, hh, hn, hm, hs, ht⟩
  · cases e1; exact .inl ⟨rfl, e2⟩
  · cases e1
    refine .inr ⟨g, rfl, hb, fun j u hj => ?_⟩
    rw [← ht, List.getElem?_take] at hj
    split at hj
    · simp only [World.cell?, hh]
      simpa using hj
    · cases hj
section
variable {w0 W : World} {O : Own} {G : Grows} {K : List (Nat × World)}
theorem St.castO {O' : Own} (h : St w0 O G K W) (e : O = O') : St w0 O' G K W := e ▸ h
theorem St.castG {G' : Grows} (h : St w0 O G K W) (e : G = G') : St w0 O G' K W := e ▸ h
def Held (w0 : World) (Kk : List (Nat × World)) (p : World → Prop) : Prop := ∀ {O2 : Own} {G2 : Grows} {K2 : List (Nat × World)} {W2 : World}, St w0 O2 G2 K2 W2 → (∀ q ∈ Kk, q ∈ K2) → p W2
theorem Held.now {p : World → Prop} (h : Held w0 K p) (hS : St w0 O G K W) : p W := h hS (fun q hq => hq)
theorem Held.one {p : World → Prop} {lo : Nat} {A : World} (h : ∀ W2, Agree lo A W2 → p W2) : Held w0 [(lo, A)] p := fun h2 hk => h _ (h2.kept (lo, A) (hk _ List.mem_cons_self)).1
end
section
variable {P : Program} {n : Nat} {ops : Array Oper} {Q : Exit → Act → World → Prop} {l : Fr} {w0 W : World} {O : Own} {G : Grows} {K : List (Nat × World)} {os : List Oper} {d : Nat} {ty : TypeId} {pos : String} {aft : Array Edge}
end
end Go.Proofs.Ytpinbmjkbkogdaa
namespace Go.Proofs.Ytpinbmjkbkogdaa
open Go Go.RowKit
set_option linter.unusedVariables false
section
variable {P : Program} {n : Nat} {Q : Exit → Act → World → Prop} {l : Fr} {w0 W : World} {ops : Array Oper} {os : List Oper} {K : List (Nat × World)} {L : List Asr} {i : Nat}
variable {O : Own} {Gs : List Value → Grows} {efs : List Nat} {lo : Nat} {s : List Value}
variable {d : Nat} {op : Op} {ty : TypeId} {pos : String} {aft_ : Array Edge} {v : Value} {gd : Option (Nat × Bool)}
variable {Goal : List Asr → Prop}
theorem res3 {P : Program} {n : Nat} {l : Fr} {W : World} {fn : Func} {t u v : Nat} {x y z : Value} (hf : fn.results = #[.tmp t, .tmp u, .tmp v]) (hx : look l t = some x) (hy : look l u = some y) (hz : look l v = some z) : ∀ a, Has n l a → (results fn a.tmps).run P W = .ok (.tuple #[x, y, z]) W := fun a ha => by
  have h1 := ha.at_ t _ hx
  have h2 := ha.at_ u _ hy
  have h3 := ha.at_ v _ hz
  rw [Array.getD_eq_getD_getElem?] at h1 h2 h3
  simp [results, hf, h1, h2, h3]
theorem len2 {s : List Value} (h : s.length = 2) : ∃ a b, s = [a, b] := by
  match s, h with
  | [a, b], _ => exact ⟨a, b, rfl⟩
end
end Go.Proofs.Ytpinbmjkbkogdaa
namespace Go.Proofs.Ytpinbmjkbkogdaa
open Go Go.RowKit
set_option linter.unusedVariables false
section
variable {P : Program} {ops : Array Oper} {Q : Exit → Act → World → Prop} {σ : Type}
end
abbrev Sy := Nat → Option Value
structure AB where
  a : Nat
  T : TypeId
  zs : List Value
  st : Nat
section
variable {P : Program} {n : Nat} {Q : Exit → Act → World → Prop} {l : Fr} {w0 W : World} {ops opf : Array Oper} {os : List Oper} {K : List (Nat × World)} {L : List Asr} {i : Nat}
variable {Ob : Own} {al : List AB} {G : Sy → Grows} {E : List Nat} {lo : Nat} {s : Sy}
theorem joinF {x y : Code} (R : Fr → World → Prop) (h2 : ∀ l W, R l W → CodeF P n y Q l W) (h1 : CodeF P n x (Exit.then (fun a' w' => ∃ l', R l' w' ∧ Has n l' a') Q) l W) : CodeF P n (.seq x y) Q l W :=
  seqF (fun a ha => wp_mono (h1 a ha) (fun e a' w' h => by
    cases e with
    | normal => obtain ⟨l', hr, hh⟩ := h; exact h2 l' w' hr a' hh
    | _ => exact h))
theorem XF.join {R : Fr → World → Prop} (l' : Fr) (hs : SubF l l') (hI : R l' W) : XF (Exit.then (fun a' w' => ∃ l', R l' w' ∧ Has n l' a') Q) .normal n l W := fun a ha => ⟨l', hI, ha.sub hs⟩
variable {d : Nat} {op : Op} {ty : TypeId} {pos : String} {aft_ : Array Edge} {v : Value} {gd : Option (Nat × Bool)}
variable {Goal : List Asr → Prop}
end
end Go.Proofs.Ytpinbmjkbkogdaa
namespace Go.Proofs.Ytpinbmjkbkogdaa
open Go Go.RowKit
set_option linter.unusedVariables false
section
variable {P : Program} {n : Nat} {ops : Array Oper} {Q : Exit → Act → World → Prop} {l : Fr} {w0 W : World} {O : Own} {G : Grows} {K : List (Nat × World)} {os : List Oper} {d : Nat} {ty : TypeId} {pos : String} {aft : Array Edge}
theorem rn_sliceTo {T e : TypeId} {x y : Operand} {kk : IntKind} {a : Option Addr} {m c k s : Nat} {j : Int} (hU : P.underlying T = some (.slice e)) (hs : ∀ w, (sizeOf e).run P w = .ok s w) (hx : evL l x = some (.slice a m c)) (hy : evL l y = some (.int kk j)) (hj : j = (k : Int)) (hk : k ≤ c) (h0 : c ≠ 0) (ha : ∀ p, a = some p → ∃ b o, p = ⟨b, o, none⟩) :
    Runs P l ⟨some d, .slice T x none (some y) none, ty, pos, aft, none⟩ W (.slice a k c) W := fun ev he => by
  subst hj
  have h1 : (0 : Int) ≤ (k : Int) := by omega
  have h2 : (k : Int) ≤ (c : Int) := by omega
  have hm : a.map (·.add 0) = a := by
    cases a with
    | none => rfl
    | some p => obtain ⟨b, o, rfl⟩ := ha p rfl; rfl
  unfold execOp; simp only [Option.map_some, Option.map_none]; rw [he x _ hx, he y _ hy]
  simp [Instr.sliceAt, Instr.slice, Instr.sliceBounds, Instr.sliceBound, run_underlying hU, asIntOf, hk, hs, h0]
  exact hm
theorem op_sliceTo {T e : TypeId} {x y : Operand} {kk : IntKind} {a : Option Addr} {m c k s : Nat} {j : Int} (hU : P.underlying T = some (.slice e)) (hs : ∀ w, (sizeOf e).run P w = .ok s w) (hx : evL l x = some (.slice a m c)) (hy : evL l y = some (.int kk j)) (hj : j = (k : Int)) (hk : k ≤ c) (h0 : c ≠ 0) (ha : ∀ p, a = some p → ∃ b o, p = ⟨b, o, none⟩) (hd : Nat.blt d n = true)
    (h : OpsF P n ops Q os ((d, .slice a k c) :: l) W) : OpsF P n ops Q (⟨some d, .slice T x none (some y) none, ty, pos, aft, none⟩ :: os) l W := opV (rn_sliceTo hU hs hx hy hj hk h0 ha) hd h
end
end Go.Proofs.Ytpinbmjkbkogdaa
namespace Go.Proofs.Ytpinbmjkbkogdaa
open Go Go.RowKit
set_option linter.unusedVariables false
theorem rbool {a b : Bool} (h : a = b) : Ending.returned (.bool a) = .returned (.bool b) := by rw [h]
theorem rint {k : IntKind} {a b : Int} (h : a = b) : Ending.returned (.int k a) = .returned (.int k b) := by rw [h]
theorem rg_lenR {P : Program} {n : Nat} {Q : Exit → Act → World → Prop} {l : Fr} {W : World} {ops : Array Oper} {L : List Asr} {i d td m lo : Nat} {t e e2 ty : TypeId} {pos : String} {aft_ : Array Edge} {cs : List Value} (hi : ops[i]? = some ⟨some d, .call { callee := .builtin .len, args := #[.tmp td], argTypes := #[t] }, ty, pos, aft_, none⟩) (hp : OpG n ops l L i td (isRow lo m e cs)) (hU : P.underlying t = some (.slice e2)) (hI : atI L i = isV (.int .i64 (m : Int))) : RG P n ops Q l W L i :=
  fun a ha => st_value hi (w_free rfl) fun b w hF hG hD => by
    obtain ⟨B, hv, _⟩ := hp a ha b w hF hD
    refine ⟨.int .i64 (m : Int), w, ?_, by rw [hI]; rfl, Below.refl _ _⟩
    unfold execOp
    simp [resolve, invoke, builtin, hv, Builtin.len_, run_underlying hU, goInt]
def RowL {α : Type} (f : α → List Value) (sz : Nat) (w : World) (a : Option Addr) (xs : List α) : Prop :=
  xs = [] ∨ ∃ b off, a = some ⟨b, off, none⟩ ∧ ∀ (i : Nat) x, xs[i]? = some x → CellsAt w b (off + i * sz) (f x)
theorem RowL.get {α : Type} {f : α → List Value} {sz : Nat} {w : World} {a : Option Addr} {xs : List α} (h : RowL f sz w a xs) {i : Nat} (hi : i < xs.length) : ∃ b off x, a = some ⟨b, off, none⟩ ∧ xs[i]? = some x ∧ CellsAt w b (off + i * sz) (f x) := by
  rcases h with rfl | ⟨b, off, ha, hc⟩
  · simp at hi
  · exact ⟨b, off, xs[i], ha, by simp [hi], hc i _ (by simp [hi])⟩
theorem RowL.below {α : Type} {f : α → List Value} {sz : Nat} {w w' : World} {a : Option Addr} {xs : List α} (h : RowL f sz w a xs) (hb : Below w.heap.size w w') : RowL f sz w' a xs := by
  rcases h with h | ⟨b, off, ha, hc⟩
  · exact .inl h
  · exact .inr ⟨b, off, ha, fun i x hx => CellsAt.agree (below_agree hb 0) (Nat.zero_le _) (hc i x hx)⟩
abbrev icell (y : Int) : List Value := [.int .i64 y]
abbrev RowI := RowL icell 1
structure TV where
  f : Int
  t : Int
  k : Int
  x : Int
  y : Int
  kk : Int
  s : Int
abbrev TV.sev (s : TV) : List Value := [.int .i64 s.f, .int .i64 s.t, .int .i64 s.k, .int .i64 s.x, .int .i64 s.y, .int .i64 s.kk, .int .i64 s.s]
abbrev TV.val (s : TV) : Value := .agg #[.int .i64 s.f, .int .i64 s.t, .int .i64 s.k, .int .i64 s.x, .int .i64 s.y, .int .i64 s.kk, .int .i64 s.s]
structure UV where
  nm : ByteArray
  pr : Int
  fr : Int
  bk : Int
abbrev UV.four (u : UV) : List Value := [.string u.nm, .int .i64 u.pr, .int .i64 u.fr, .int .i64 u.bk]
structure NV where
  nm : ByteArray
  nd : Int
abbrev NV.two (u : NV) : List Value := [.string u.nm, .int .i64 u.nd]
structure KV where
  x : Int
  nd : Int
abbrev KV.two (u : KV) : List Value := [.int .i64 u.x, .int .i64 u.nd]
structure GV where
  va : Option Addr
  vl : Nat
  vc : Nat
  pa : Option Addr
  pl : Nat
  pc : Nat
  ea : Option Addr
  el : Nat
  ec : Nat
  es : List Int
  xa : Option Addr
  xl : Nat
  xc : Nat
  xs : List Int
  mn : Int
  oa : Option Addr
  ol : Nat
  oc : Nat
  os : List Int
  sa : Option Addr
  sl : Nat
  sc : Nat
  ss : List TV
  ta : Option Addr
  tl : Nat
  tc : Nat
  ts : List UV
  na : Option Addr
  nl : Nat
  nc : Nat
  ns : List NV
  ka : Option Addr
  kl : Nat
  kc : Nat
  ks : List KV
abbrev GV.ten (g : GV) : List Value := [.slice g.va g.vl g.vc, .slice g.pa g.pl g.pc, .slice g.ea g.el g.ec, .slice g.xa g.xl g.xc, .int .i64 g.mn, .slice g.oa g.ol g.oc, .slice g.sa g.sl g.sc, .slice g.ta g.tl g.tc, .slice g.na g.nl g.nc, .slice g.ka g.kl g.kc]
abbrev GV.val (g : GV) : Value := .agg #[.slice g.va g.vl g.vc, .slice g.pa g.pl g.pc, .slice g.ea g.el g.ec, .slice g.xa g.xl g.xc, .int .i64 g.mn, .slice g.oa g.ol g.oc, .slice g.sa g.sl g.sc, .slice g.ta g.tl g.tc, .slice g.na g.nl g.nc, .slice g.ka g.kl g.kc]
structure GIn (w : World) (g : GV) : Prop where
  e : RowI w g.ea g.es
  el : g.es.length = g.el
  x : RowI w g.xa g.xs
  xl : g.xs.length = g.xl
  o : RowI w g.oa g.os
  ol : g.os.length = g.ol
  s : RowL TV.sev 7 w g.sa g.ss
  sl : g.ss.length = g.sl
  t : RowL UV.four 4 w g.ta g.ts
  tl : g.ts.length = g.tl
  n : RowL NV.two 2 w g.na g.ns
  nl : g.ns.length = g.nl
  k : RowL KV.two 2 w g.ka g.ks
  kl : g.ks.length = g.kl
theorem GIn.below {w w' : World} {g : GV} (h : GIn w g) (hb : Below w.heap.size w w') : GIn w' g := ⟨h.e.below hb, h.el, h.x.below hb, h.xl, h.o.below hb, h.ol, h.s.below hb, h.sl, h.t.below hb, h.tl, h.n.below hb, h.nl, h.k.below hb, h.kl⟩
structure GFew (g : GV) : Prop where
  v : g.vl ≤ 5000
  p : g.pl ≤ 5000
  e : g.el ≤ 5000
  x : g.xl ≤ 5000
  o : g.ol ≤ 5000
  s : g.sl ≤ 5000
  t : g.tl ≤ 5000
  n : g.nl ≤ 5000
  k : g.kl ≤ 5000
def inQ (x : Int) (n : Nat) : Bool := decide (0 ≤ x) && decide (x < (n : Int))
theorem inQ_nat {x : Int} {n : Nat} (h : inQ x n = true) : ∃ k : Nat, x = (k : Int) ∧ k < n := by
  unfold inQ at h
  rw [Bool.and_eq_true, decide_eq_true_eq, decide_eq_true_eq] at h
  exact ⟨x.toNat, by omega, by omega⟩
theorem inQ_of {k n : Nat} (h : k < n) : inQ (k : Int) n = true := by
  unfold inQ
  rw [Bool.and_eq_true, decide_eq_true_eq, decide_eq_true_eq]; omega
theorem inQ_neg {x : Int} {n : Nat} (h : x < 0) : inQ x n = false := by
  unfold inQ
  rw [decide_eq_false (by omega)]; rfl
theorem inQ_big {x : Int} {n : Nat} (h : (n : Int) ≤ x) : inQ x n = false := by
  unfold inQ
  rw [decide_eq_false (show ¬ x < (n : Int) by omega), Bool.and_false]
def nodeB (os : List Int) (ol : Nat) (l : List Int) (p : Nat) : Bool := match l[p]? with
  | some n => inQ n ol && (match os[n.toNat]? with | some q => decide (q = (p : Int)) | none => false)
  | none => false
def procB (g : GV) (p : Nat) : Bool := nodeB g.os g.ol g.es p && nodeB g.os g.ol g.xs p
def sizedB (g : GV) : Bool :=
  if 64 < g.vl then false else if g.pl < 1 then false else if 1024 < g.pl then false else if g.el ≠ g.pl then false else if g.xl ≠ g.pl then false else if 4096 < g.ol then false else if 1024 < g.tl then false else
  if inQ g.mn g.pl = false then false else if g.os.all (fun y => inQ y g.pl) = false then false else (List.range g.pl).all (procB g)
def ofEq (os : List Int) (a b : Int) : Bool := match os[a.toNat]?, os[b.toNat]? with
  | some x, some y => decide (x = y)
  | _, _ => false
def siteC (ts : List UV) (s : TV) (n : Nat) : Bool := decide (s.s = (n : Int)) && (match ts[n]? with | some u => decide (u.fr = s.f) && decide (u.bk = s.t) | none => false)
def kindB (g : GV) (s : TV) (n : Nat) : Bool :=
  if s.k = 1 then decide (s.x = 0) && (decide (s.y = 0) && (decide (s.kk = 0) && decide (s.s = 0)))
  else if s.k = 8 then decide (s.x = 0) && (decide (s.y = 0) && (decide (s.kk = 0) && siteC g.ts s n))
  else if s.k = 2 then inQ s.x g.vl && (decide (s.y = 0) && (true && decide (s.s = 0)))
  else if s.k = 3 then inQ s.x g.vl && (inQ s.y g.vl && (decide (s.kk = 0) && decide (s.s = 0)))
  else if s.k = 4 ∨ s.k = 5 ∨ s.k = 6 then inQ s.x g.vl && (decide (s.y = 0) && (decide (s.kk = 0) && decide (s.s = 0)))
  else false
def stepK (g : GV) (s : TV) (n : Nat) : Bool := if inQ s.f g.ol = false then false else if inQ s.t g.ol = false then false else if ofEq g.os s.f s.t = false then false else kindB g s n
def stepsFrom (g : GV) : List TV → Nat → Option Nat
  | [], n => some n
  | s :: r, n => if stepK g s n = true then stepsFrom g r (if s.k = 8 then n + 1 else n) else none
def stepsB (g : GV) : Bool := decide (stepsFrom g g.ss 0 = some g.tl)
def markedB (g : GV) : Bool := if g.ts.all (fun u => inQ u.pr g.pl) = false then false else if g.ns.all (fun u => inQ u.nd g.ol) = false then false else g.ks.all (fun u => inQ u.nd g.ol && inQ u.x g.vl)
def checkE (g : GV) : Int := if sizedB g = false then 213 else if stepsB g = false then 213 else if markedB g = false then 213 else 0
theorem all_take_at {α : Type} {p : α → Bool} {l : List α} {i : Nat} {x : α} (hx : l[i]? = some x) (h : (l.take i).all p = true) (hp : p x = true) : (l.take (i + 1)).all p = true := by
  rw [List.take_add_one, List.all_append, h, hx]
  simp [hp]
theorem all_false_at {α : Type} {p : α → Bool} {l : List α} {i : Nat} {x : α} (hx : l[i]? = some x) (hp : p x = false) : l.all p = false := by
  cases h : l.all p with
  | false => rfl
  | true =>
    have := List.all_eq_true.1 h x (List.mem_of_getElem? hx)
    rw [hp] at this; cases this
theorem range_take {p : Nat → Bool} {n i : Nat} (hi : i < n) (h : (List.range i).all p = true) (hp : p i = true) : (List.range (i + 1)).all p = true := by
  rw [List.range_succ, List.all_append, h]
  simp [hp]
theorem range_false {p : Nat → Bool} {n i : Nat} (hi : i < n) (hp : p i = false) : (List.range n).all p = false := by
  cases h : (List.range n).all p with
  | false => rfl
  | true =>
    have := List.all_eq_true.1 h i (List.mem_range.2 hi)
    rw [hp] at this; cases this
theorem nodeB_at {os l : List Int} {ol p : Nat} {n q : Int} (hn : l[p]? = some n) (hi : inQ n ol = true) (hq : os[n.toNat]? = some q) : nodeB os ol l p = decide (q = (p : Int)) := by
  unfold nodeB
  rw [hn]
  dsimp only
  rw [hi, hq]; rfl
theorem nodeB_out {os l : List Int} {ol p : Nat} {n : Int} (hn : l[p]? = some n) (hi : inQ n ol = false) : nodeB os ol l p = false := by
  unfold nodeB
  rw [hn]
  dsimp only
  rw [hi]; rfl
theorem ofEq_at {os : List Int} {a b : Nat} {x y : Int} (h1 : os[a]? = some x) (h2 : os[b]? = some y) : ofEq os (a : Int) (b : Int) = decide (x = y) := by
  unfold ofEq
  rw [Int.toNat_natCast, Int.toNat_natCast, h1, h2]
theorem siteC_at {ts : List UV} {s : TV} {n : Nat} {u : UV} (hu : ts[n]? = some u) : siteC ts s n = (decide (s.s = (n : Int)) && (decide (u.fr = s.f) && decide (u.bk = s.t))) := by
  unfold siteC; rw [hu]
theorem siteC_out {ts : List UV} {s : TV} {n : Nat} (hn : ts.length ≤ n) : siteC ts s n = false := by
  unfold siteC; rw [List.getElem?_eq_none hn, Bool.and_false]
theorem site_cases {ts : List UV} (s : TV) (n : Nat) : ¬ s.s = (n : Int) ∨ (s.s = (n : Int) ∧ ts.length ≤ n) ∨ (s.s = (n : Int) ∧ n < ts.length ∧ ∃ u, ts[n]? = some u ∧ ¬ u.fr = s.f) ∨ (s.s = (n : Int) ∧ n < ts.length ∧ ∃ u, ts[n]? = some u ∧ u.fr = s.f) := by
  by_cases h1 : s.s = (n : Int)
  · rcases Nat.lt_or_ge n ts.length with h2 | h2
    · by_cases h3 : (ts[n]).fr = s.f
      · exact .inr (.inr (.inr ⟨h1, h2, ts[n], by simp [h2], h3⟩))
      · exact .inr (.inr (.inl ⟨h1, h2, ts[n], by simp [h2], h3⟩))
    · exact .inr (.inl ⟨h1, h2⟩)
  · exact .inl h1
theorem drop_at {α : Type} {l : List α} {k : Nat} {y : α} (h : l[k]? = some y) : l.drop k = y :: l.drop (k + 1) := by
  obtain ⟨hk, rfl⟩ := List.getElem?_eq_some_iff.1 h
  exact List.drop_eq_getElem_cons hk
end Go.Proofs.Ytpinbmjkbkogdaa
namespace Go.Proofs.Ytpinbmjkbkogdaa
open Go.RowKit Go.ChangeShapes Go.WideShapes Go.Deep Go.Joins
set_option linter.unusedVariables false
theorem list_pick {α : Type} : ∀ (n : Nat) (p : Nat → α → Prop), (∀ i, i < n → ∃ c, p i c) → ∃ xs : List α, xs.length = n ∧ ∀ i c, xs[i]? = some c → p i c
  | 0, p, h => ⟨[], rfl, fun i c hi => by simp at hi⟩
  | n + 1, p, h => by
    obtain ⟨xs, hl, hp⟩ := list_pick n p (fun i hi => h i (by omega))
    obtain ⟨c, hc⟩ := h n (by omega)
    refine ⟨xs ++ [c], by simp [hl], fun i d hi => ?_⟩
    rcases Nat.lt_or_ge i n with h1 | h1
    · rw [List.getElem?_append_left (by omega)] at hi
      exact hp i d hi
    · obtain ⟨h2, _⟩ := List.getElem?_eq_some_iff.1 hi
      simp [hl] at h2
      obtain rfl : i = n := by omega
      rw [List.getElem?_append_right (by omega), hl, Nat.sub_self] at hi
      simp at hi
      subst hi
      exact hc
theorem two_len {cs : List Value} (h : cs.length = 2) : ∃ a b, cs = [a, b] := by
  match cs, h with
  | [a, b], _ => exact ⟨a, b, rfl⟩
theorem four_len {cs : List Value} (h : cs.length = 4) : ∃ a b c d, cs = [a, b, c, d] := by
  match cs, h with
  | [a, b, c, d], _ => exact ⟨a, b, c, d, rfl⟩
theorem seven_len {cs : List Value} (h : cs.length = 7) : ∃ a b c d e f g, cs = [a, b, c, d, e, f, g] := by
  match cs, h with
  | [a, b, c, d, e, f, g], _ => exact ⟨a, b, c, d, e, f, g, rfl⟩
theorem ten_len {cs : List Value} (h : cs.length = 10) : ∃ a b c d e f g i j k, cs = [a, b, c, d, e, f, g, i, j, k] := by
  match cs, h with
  | [a, b, c, d, e, f, g, i, j, k], _ => exact ⟨a, b, c, d, e, f, g, i, j, k, rfl⟩
theorem cellsAt_of {w : World} {b : Nat} : ∀ (vs : List Value) (o : Nat), (∀ (j : Nat) u, vs[j]? = some u → w.cell? ⟨b, o + j, none⟩ = some u) → CellsAt w b o vs
  | [], _, _ => trivial
  | v :: vs, o, h => ⟨h 0 v rfl, cellsAt_of vs (o + 1) fun j u hj => by have := h (j + 1) u (by simpa using hj); rwa [show o + 1 + j = o + (j + 1) by omega]⟩
section
variable {H : Type} {enc : TypeId × Value → H} {w : World} {base : Nat} {spare : Nat → Bool} {held : Bool}
theorem rows_in {α : Type} {f : α → List Value} {sz : Nat} {t e : TypeId} {n : Nat} {v : Value} {x : DataW H × List MemPlace} (ht : Try.prog.underlying t = some (.slice e)) (hc : Try.prog.cellsOf e = sz) (hp : 0 < sz) (hf : ∀ y, (f y).length = sz)
    (one : ∀ (n : Nat) (cs : List Value) (x : DataW H × List MemPlace), DataW.trod enc Try.prog w base spare held n e cs = some x → ∃ y, cs = f y) (h : DataW.trod enc Try.prog w base spare held n t [v] = some x) :
    ∃ (a : Option Addr) (len cap : Nat) (xs : List α), v = .slice a len cap ∧ RowL f sz w a xs ∧ xs.length = len ∧ len ≤ cap ∧ cap ≤ maxLen := by
  rcases DataW.trod_slice ht h with ⟨hcs, _⟩ | ⟨ad, len, cap, elems, rest, n2, hn2, hcs, _, hb, hle, hcap, hel, hi, _, _⟩
  · simp at hcs
    subst hcs
    exact ⟨none, 0, 0, [], rfl, .inl rfl, rfl, Nat.le_refl _, Nat.zero_le _⟩
  · simp at hcs
    subst hcs
    rw [hc] at hi
    obtain ⟨rs, hrl, hrs⟩ := list_pick len (fun i (r : α) => ∀ (j : Nat) u, (f r)[j]? = some u → w.cell? (ad.add (i * sz + j)) = some u) (fun i hil => by
      have hii := hi i hil
      rw [List.getElem?_eq_getElem (by omega)] at hii
      obtain ⟨cs', hc', ht'⟩ := Option.bind_eq_some_iff.1 hii
      obtain ⟨_, hcl, hat⟩ := World.cells?_some hc'
      obtain ⟨r, rfl⟩ := one _ _ _ ht'
      refine ⟨r, fun j u hj => ?_⟩
      have hjs : j < sz := by have := (List.getElem?_eq_some_iff.1 hj).1; rw [hf] at this; exact this
      have h0 := hat j hjs
      rw [Go.Deep.add_add] at h0
      rw [h0]; exact hj)
    refine ⟨some ad, len, cap, rs, rfl, ?_, hrl, hle, hcap⟩
    rcases Nat.eq_zero_or_pos len with h0 | h0
    · exact .inl (List.length_eq_zero_iff.1 (by omega))
    · obtain ⟨b, off, spot⟩ := ad
      have h1 := hrs 0 (rs[0]'(by omega)) (List.getElem?_eq_getElem (by omega)) 0 _ (List.getElem?_eq_getElem (by rw [hf]; exact hp))
      have hspot : spot = none := by simpa [Addr.add] using World.cell?_spot h1
      subst hspot
      refine .inr ⟨b, off, rfl, fun i r hir => cellsAt_of _ _ fun j u hj => ?_⟩
      have h3 := hrs i r hir j u hj
      have e : ∀ k, ({ block := b, off := off } : Addr).add k = ⟨b, off + k, none⟩ := fun k => by simp [Addr.add]
      rw [e, ← Nat.add_assoc] at h3
      exact h3
set_option maxRecDepth 100000 in
theorem ints_in {n : Nat} {v : Value} {x : DataW H × List MemPlace} (h : DataW.trod enc Try.prog w base spare held n 23 [v] = some x) :
    ∃ (a : Option Addr) (len cap : Nat) (zs : List Int), v = .slice a len cap ∧ RowI w a zs ∧ zs.length = len ∧ len ≤ cap ∧ cap ≤ maxLen :=
  rows_in (e := 3) (by kernel_rfl) (by kernel_rfl) (by omega) (fun _ => rfl) (fun n cs x h => by
    obtain ⟨z0, e0, _, _⟩ := DataW.trod_int (k := .i64) (by kernel_rfl) h
    exact ⟨z0, e0⟩) h
set_option maxRecDepth 100000 in
theorem texts_in {n : Nat} {v : Value} {x : DataW H × List MemPlace} (h : DataW.trod enc Try.prog w base spare held n 22 [v] = some x) :
    ∃ (a : Option Addr) (len cap : Nat), v = .slice a len cap := by
  obtain ⟨a, len, cap, _, e, _⟩ := rows_in (f := fun s : ByteArray => [.string s]) (sz := 1) (e := 9) (by kernel_rfl) (by kernel_rfl) (by omega) (fun _ => rfl) (fun n cs x h => by
    obtain ⟨z0, e0, _, _⟩ := DataW.trod_string (by kernel_rfl) h
    exact ⟨z0, e0⟩) h
  exact ⟨a, len, cap, e⟩
set_option maxRecDepth 100000 in
theorem steps_in {n : Nat} {v : Value} {x : DataW H × List MemPlace} (h : DataW.trod enc Try.prog w base spare held n 24 [v] = some x) :
    ∃ (a : Option Addr) (len cap : Nat) (zs : List TV), v = .slice a len cap ∧ RowL TV.sev 7 w a zs ∧ zs.length = len ∧ len ≤ cap ∧ cap ≤ maxLen :=
  rows_in (e := 76) (by kernel_rfl) (by kernel_rfl) (by omega) (fun _ => rfl) (fun n cs x h => by
    obtain ⟨xs, n', hn, _, hl, hlen, hg⟩ := DataW.trod_struct Try.underlying76 h
    rw [show Try.prog.cellsOf 76 = 7 by kernel_rfl] at hl
    obtain ⟨a, b, c, d, e, f, g, rfl⟩ := seven_len hl
    have hlen' : xs.length = 7 := hlen
    have g0 := hg 0 _ rfl
    have g1 := hg 1 _ rfl
    have g2 := hg 2 _ rfl
    have g3 := hg 3 _ rfl
    have g4 := hg 4 _ rfl
    have g5 := hg 5 _ rfl
    have g6 := hg 6 _ rfl
    rw [show Try.prog.cellsOf _ = 1 by kernel_rfl, List.getElem?_eq_getElem (by omega)] at g0 g1 g2 g3 g4 g5 g6
    obtain ⟨z0, e0, _, _⟩ := DataW.trod_int (k := .i64) (by kernel_rfl) g0
    obtain ⟨z1, e1, _, _⟩ := DataW.trod_int (k := .i64) (by kernel_rfl) g1
    obtain ⟨z2, e2, _, _⟩ := DataW.trod_int (k := .i64) (by kernel_rfl) g2
    obtain ⟨z3, e3, _, _⟩ := DataW.trod_int (k := .i64) (by kernel_rfl) g3
    obtain ⟨z4, e4, _, _⟩ := DataW.trod_int (k := .i64) (by kernel_rfl) g4
    obtain ⟨z5, e5, _, _⟩ := DataW.trod_int (k := .i64) (by kernel_rfl) g5
    obtain ⟨z6, e6, _, _⟩ := DataW.trod_int (k := .i64) (by kernel_rfl) g6
    simp at e0 e1 e2 e3 e4 e5 e6
    subst e0 e1 e2 e3 e4 e5 e6
    exact ⟨⟨z0, z1, z2, z3, z4, z5, z6⟩, rfl⟩) h
set_option maxRecDepth 100000 in
theorem sites_in {n : Nat} {v : Value} {x : DataW H × List MemPlace} (h : DataW.trod enc Try.prog w base spare held n 25 [v] = some x) :
    ∃ (a : Option Addr) (len cap : Nat) (zs : List UV), v = .slice a len cap ∧ RowL UV.four 4 w a zs ∧ zs.length = len ∧ len ≤ cap ∧ cap ≤ maxLen :=
  rows_in (e := 47) (by kernel_rfl) (by kernel_rfl) (by omega) (fun _ => rfl) (fun n cs x h => by
    obtain ⟨xs, n', hn, _, hl, hlen, hg⟩ := DataW.trod_struct Try.underlying47 h
    rw [show Try.prog.cellsOf 47 = 4 by kernel_rfl] at hl
    obtain ⟨a, b, c, d, rfl⟩ := four_len hl
    have hlen' : xs.length = 4 := hlen
    have g0 := hg 0 _ rfl
    have g1 := hg 1 _ rfl
    have g2 := hg 2 _ rfl
    have g3 := hg 3 _ rfl
    rw [show Try.prog.cellsOf _ = 1 by kernel_rfl, List.getElem?_eq_getElem (by omega)] at g0 g1 g2 g3
    obtain ⟨z0, e0, _, _⟩ := DataW.trod_string (by kernel_rfl) g0
    obtain ⟨z1, e1, _, _⟩ := DataW.trod_int (k := .i64) (by kernel_rfl) g1
    obtain ⟨z2, e2, _, _⟩ := DataW.trod_int (k := .i64) (by kernel_rfl) g2
    obtain ⟨z3, e3, _, _⟩ := DataW.trod_int (k := .i64) (by kernel_rfl) g3
    simp at e0 e1 e2 e3
    subst e0 e1 e2 e3
    exact ⟨⟨z0, z1, z2, z3⟩, rfl⟩) h
set_option maxRecDepth 100000 in
theorem points_in {n : Nat} {v : Value} {x : DataW H × List MemPlace} (h : DataW.trod enc Try.prog w base spare held n 26 [v] = some x) :
    ∃ (a : Option Addr) (len cap : Nat) (zs : List NV), v = .slice a len cap ∧ RowL NV.two 2 w a zs ∧ zs.length = len ∧ len ≤ cap ∧ cap ≤ maxLen :=
  rows_in (e := 85) (by kernel_rfl) (by kernel_rfl) (by omega) (fun _ => rfl) (fun n cs x h => by
    obtain ⟨xs, n', hn, _, hl, hlen, hg⟩ := DataW.trod_struct Try.underlying85 h
    rw [show Try.prog.cellsOf 85 = 2 by kernel_rfl] at hl
    obtain ⟨a, b, rfl⟩ := two_len hl
    have hlen' : xs.length = 2 := hlen
    have g0 := hg 0 _ rfl
    have g1 := hg 1 _ rfl
    rw [show Try.prog.cellsOf _ = 1 by kernel_rfl, List.getElem?_eq_getElem (by omega)] at g0 g1
    obtain ⟨z0, e0, _, _⟩ := DataW.trod_string (by kernel_rfl) g0
    obtain ⟨z1, e1, _, _⟩ := DataW.trod_int (k := .i64) (by kernel_rfl) g1
    simp at e0 e1
    subst e0 e1
    exact ⟨⟨z0, z1⟩, rfl⟩) h
set_option maxRecDepth 100000 in
theorem sinks_in {n : Nat} {v : Value} {x : DataW H × List MemPlace} (h : DataW.trod enc Try.prog w base spare held n 27 [v] = some x) :
    ∃ (a : Option Addr) (len cap : Nat) (zs : List KV), v = .slice a len cap ∧ RowL KV.two 2 w a zs ∧ zs.length = len ∧ len ≤ cap ∧ cap ≤ maxLen :=
  rows_in (e := 87) (by kernel_rfl) (by kernel_rfl) (by omega) (fun _ => rfl) (fun n cs x h => by
    obtain ⟨xs, n', hn, _, hl, hlen, hg⟩ := DataW.trod_struct Try.underlying87 h
    rw [show Try.prog.cellsOf 87 = 2 by kernel_rfl] at hl
    obtain ⟨a, b, rfl⟩ := two_len hl
    have hlen' : xs.length = 2 := hlen
    have g0 := hg 0 _ rfl
    have g1 := hg 1 _ rfl
    rw [show Try.prog.cellsOf _ = 1 by kernel_rfl, List.getElem?_eq_getElem (by omega)] at g0 g1
    obtain ⟨z0, e0, _, _⟩ := DataW.trod_int (k := .i64) (by kernel_rfl) g0
    obtain ⟨z1, e1, _, _⟩ := DataW.trod_int (k := .i64) (by kernel_rfl) g1
    simp at e0 e1
    subst e0 e1
    exact ⟨⟨z0, z1⟩, rfl⟩) h
set_option maxRecDepth 100000 in
theorem graph_in {n : Nat} {cs : List Value} {x : DataW H × List MemPlace} (h : DataW.trod enc Try.prog w base spare held n 29 cs = some x) : ∃ g : GV, cs = g.ten ∧ GIn w g := by
  obtain ⟨xs, n', hn, _, hl, hlen, hg⟩ := DataW.trod_struct Try.underlying29 h
  rw [show Try.prog.cellsOf 29 = 10 by kernel_rfl] at hl
  obtain ⟨a, b, c, d, e, f, g, i, j, k, rfl⟩ := ten_len hl
  have hlen' : xs.length = 10 := hlen
  have g0 := hg 0 _ rfl
  have g1 := hg 1 _ rfl
  have g2 := hg 2 _ rfl
  have g3 := hg 3 _ rfl
  have g4 := hg 4 _ rfl
  have g5 := hg 5 _ rfl
  have g6 := hg 6 _ rfl
  have g7 := hg 7 _ rfl
  have g8 := hg 8 _ rfl
  have g9 := hg 9 _ rfl
  rw [show Try.prog.cellsOf _ = 1 by kernel_rfl, List.getElem?_eq_getElem (by omega)] at g0 g1 g2 g3 g4 g5 g6 g7 g8 g9
  obtain ⟨va, vl, vc, rfl⟩ := texts_in (v := a) g0
  obtain ⟨pa, pl, pc, rfl⟩ := texts_in (v := b) g1
  obtain ⟨ea, el, ec, es, rfl, he, hel, _⟩ := ints_in (v := c) g2
  obtain ⟨xa, xl, xc, ys, rfl, hx, hxl, _⟩ := ints_in (v := d) g3
  obtain ⟨mn, e4, _, _⟩ := DataW.trod_int (k := .i64) (by kernel_rfl) g4
  simp at e4
  subst e4
  obtain ⟨oa, ol, oc, os, rfl, ho, hol, _⟩ := ints_in (v := f) g5
  obtain ⟨sa, sl, sc, ss, rfl, hs, hsl, _⟩ := steps_in (v := g) g6
  obtain ⟨ta, tl, tc, ts, rfl, ht, htl, _⟩ := sites_in (v := i) g7
  obtain ⟨na, nl, nc, ns, rfl, hn', hnl, _⟩ := points_in (v := j) g8
  obtain ⟨ka, kl, kc, ks, rfl, hk, hkl, _⟩ := sinks_in (v := k) g9
  exact ⟨⟨va, vl, vc, pa, pl, pc, ea, el, ec, es, xa, xl, xc, ys, mn, oa, ol, oc, os, sa, sl, sc, ss, ta, tl, tc, ts, na, nl, nc, ns, ka, kl, kc, ks⟩, rfl, ⟨he, hel, hx, hxl, ho, hol, hs, hsl, ht, htl, hn', hnl, hk, hkl⟩⟩
set_option maxRecDepth 100000 in
theorem graph_open {r : Reach} {b0 : Nat} {v : Value} {d : DataW H} {p : List MemPlace} (hv : Value.okWide Try.prog w r b0 29 v) (h : DataW.Trod enc Try.prog w base spare held 29 v d p) :
    ∃ g : GV, v = g.val ∧ GIn w g := by
  obtain ⟨cs, rfl, _⟩ := okWide_struct Try.underlying29 hv
  obtain ⟨n, h⟩ := h
  obtain ⟨s, e, hs⟩ := graph_in (n := n) h
  have e' : cs.toList = _ := e
  exact ⟨s, by show Value.agg cs = Value.agg _; congr 1; exact Array.ext' e', hs⟩
set_option maxRecDepth 100000 in
theorem list_open {n : Nat} {a : Option Addr} {len cap : Nat} {x : DataW H × List MemPlace} (h : DataW.trod enc Try.prog w base spare held n 23 [.slice a len cap] = some x) : ∃ zs : List Int, RowI w a zs ∧ zs.length = len ∧ len ≤ cap ∧ len ≤ 9223372036854775807 := by
  obtain ⟨a', len', cap', zs, e, h1, h2, h3, h4⟩ := ints_in h
  cases e
  exact ⟨zs, h1, h2, h3, by simp only [maxLen] at h4; omega⟩
end
end Go.Proofs.Ytpinbmjkbkogdaa
namespace Go.Proofs.Ytpinbmjkbkogdaa
open Go Go.RowKit
set_option linter.unusedVariables false
theorem bs_23_2 (v0 : Int) (v1 : Int) : Instr.fill (fun i => some (i * 1, 1)) ((Array.range (2 * 1)).map ((Value.cells (.int .i64 0))[· % (Value.cells (.int .i64 0)).size]!)) [(0, .int .i64 v0), (1, .int .i64 v1)] = some (List.toArray [.int .i64 v0, .int .i64 v1]) := by kernel_rfl
theorem fa_29_0 (w : World) (b o : Nat) : (Instr.fieldAt 29 (.pointer (some ⟨b, o, none⟩)) 0).run Try.prog w = .ok (.pointer (some ⟨b, o + 0, none⟩)) w := by
  simp [Instr.fieldAt, run_underlying Try.underlying29, Instr.sureAddr, go_sem, Addr.add_lit]
theorem fa_29_1 (w : World) (b o : Nat) : (Instr.fieldAt 29 (.pointer (some ⟨b, o, none⟩)) 1).run Try.prog w = .ok (.pointer (some ⟨b, o + 1, none⟩)) w := by
  simp [Instr.fieldAt, run_underlying Try.underlying29, Instr.sureAddr, go_sem, Addr.add_lit]
theorem fa_29_2 (w : World) (b o : Nat) : (Instr.fieldAt 29 (.pointer (some ⟨b, o, none⟩)) 2).run Try.prog w = .ok (.pointer (some ⟨b, o + 2, none⟩)) w := by
  simp [Instr.fieldAt, run_underlying Try.underlying29, Instr.sureAddr, go_sem, Addr.add_lit]
theorem fa_29_3 (w : World) (b o : Nat) : (Instr.fieldAt 29 (.pointer (some ⟨b, o, none⟩)) 3).run Try.prog w = .ok (.pointer (some ⟨b, o + 3, none⟩)) w := by
  simp [Instr.fieldAt, run_underlying Try.underlying29, Instr.sureAddr, go_sem, Addr.add_lit]
theorem fa_29_4 (w : World) (b o : Nat) : (Instr.fieldAt 29 (.pointer (some ⟨b, o, none⟩)) 4).run Try.prog w = .ok (.pointer (some ⟨b, o + 4, none⟩)) w := by
  simp [Instr.fieldAt, run_underlying Try.underlying29, Instr.sureAddr, go_sem, Addr.add_lit]
theorem fa_29_5 (w : World) (b o : Nat) : (Instr.fieldAt 29 (.pointer (some ⟨b, o, none⟩)) 5).run Try.prog w = .ok (.pointer (some ⟨b, o + 5, none⟩)) w := by
  simp [Instr.fieldAt, run_underlying Try.underlying29, Instr.sureAddr, go_sem, Addr.add_lit]
theorem fa_29_7 (w : World) (b o : Nat) : (Instr.fieldAt 29 (.pointer (some ⟨b, o, none⟩)) 7).run Try.prog w = .ok (.pointer (some ⟨b, o + 7, none⟩)) w := by
  simp [Instr.fieldAt, run_underlying Try.underlying29, Instr.sureAddr, go_sem, Addr.add_lit]
theorem fa_81_0 (w : World) (b o : Nat) : (Instr.fieldAt 81 (.pointer (some ⟨b, o, none⟩)) 0).run Try.prog w = .ok (.pointer (some ⟨b, o + 0, none⟩)) w := by
  simp [Instr.fieldAt, run_underlying Try.underlying81, Instr.sureAddr, go_sem, Addr.add_lit]
theorem goes_31 : goesIn Try.prog 31 = true := by kernel_rfl
theorem goes_32 : goesIn Try.prog 32 = true := by kernel_rfl
theorem followsM : Try.prog.follows .mixedOrders = true := by kernel_rfl
set_option maxRecDepth 100000 in
set_option maxHeartbeats 4000000 in
theorem isNode_is (g : GV) (n : Int) (w : World) :
    Calls Try.prog 32 #[g.val, .int .i64 n] w (fun e w' => e = .returned (.bool (inQ n g.ol)) ∧ Below w.heap.size w w') := by
  refine enterF (args := [g.val, .int .i64 n]) Try.func32 rfl Try.ntmps32 rfl ?_
  have hS := St.start w
  refine seqF ?_
  refine regF ?_
  refine op_box (cs := [_, _, _, _, _, _, _, _, _, _]) hS rfl rfl rfl ?_
  clear hS; intro B1 W1 hS
  refine op_assign rfl rfl ?_
  refine endF ?_
  refine XF.thenN ?_
  refine seqF ?_
  refine regF ?_
  refine op_move rfl rfl ?_
  refine op_geq rfl rfl rfl ?_
  refine op_move rfl rfl ?_
  refine op_cases (d := 7) rfl (fun hc => ?_) (fun hc => ?_)
  · have hg7 := of_decide_eq_true hc; clear hc
    refine op_wantedF (d := 7) rfl rfl ?_
    refine op_move rfl rfl ?_
    refine op_wantedF (d := 7) rfl rfl ?_
    refine op_field (o' := 0) fa_81_0 rfl rfl rfl ?_
    refine op_wantedF (d := 7) rfl rfl ?_
    refine op_field (o' := 5) fa_29_5 rfl rfl rfl ?_
    refine op_wantedF (d := 7) rfl rfl ?_
    refine op_load Try.isAgg23 rfl (cell_own (hS.at_ 0 rfl) rfl) rfl ?_
    refine op_wantedF (d := 7) rfl rfl ?_
    refine op_len Try.underlying23 rfl rfl ?_
    refine op_wantedF (d := 7) rfl rfl ?_
    refine op_lss rfl rfl rfl ?_
    refine op_pickT rfl rfl rfl ?_
    refine op_assign rfl rfl ?_
    refine endF ?_
    refine XF.thenN ?_
    refine retF ?_
    refine XF.res (res1 Try.results32 rfl) ?_
    exact ⟨rbool (by simp [inQ, show 0 ≤ n from hg7]), hS.below⟩
  · have hg7 := of_decide_eq_false hc; clear hc
    refine op_notF (d := 7) rfl rfl rfl rfl ?_
    refine op_notF (d := 7) rfl rfl rfl rfl ?_
    refine op_notF (d := 7) rfl rfl rfl rfl ?_
    refine op_notF (d := 7) rfl rfl rfl rfl ?_
    refine op_notF (d := 7) rfl rfl rfl rfl ?_
    refine op_notF (d := 7) rfl rfl rfl rfl ?_
    refine op_pickF rfl rfl rfl ?_
    refine op_assign rfl rfl ?_
    refine endF ?_
    refine XF.thenN ?_
    refine retF ?_
    refine XF.res (res1 Try.results32 rfl) ?_
    exact ⟨rbool (by simp [inQ]; omega), hS.below⟩

set_option maxRecDepth 100000 in
set_option maxHeartbeats 4000000 in
theorem isProc_is (g : GV) (n : Int) (w : World) :
    Calls Try.prog 31 #[g.val, .int .i64 n] w (fun e w' => e = .returned (.bool (inQ n g.pl)) ∧ Below w.heap.size w w') := by
  refine enterF (args := [g.val, .int .i64 n]) Try.func31 rfl Try.ntmps31 rfl ?_
  have hS := St.start w
  refine seqF ?_
  refine regF ?_
  refine op_box (cs := [_, _, _, _, _, _, _, _, _, _]) hS rfl rfl rfl ?_
  clear hS; intro B1 W1 hS
  refine op_assign rfl rfl ?_
  refine endF ?_
  refine XF.thenN ?_
  refine seqF ?_
  refine regF ?_
  refine op_move rfl rfl ?_
  refine op_geq rfl rfl rfl ?_
  refine op_move rfl rfl ?_
  refine op_cases (d := 7) rfl (fun hc => ?_) (fun hc => ?_)
  · have hg7 := of_decide_eq_true hc; clear hc
    refine op_wantedF (d := 7) rfl rfl ?_
    refine op_move rfl rfl ?_
    refine op_wantedF (d := 7) rfl rfl ?_
    refine op_field (o' := 0) fa_81_0 rfl rfl rfl ?_
    refine op_wantedF (d := 7) rfl rfl ?_
    refine op_field (o' := 1) fa_29_1 rfl rfl rfl ?_
    refine op_wantedF (d := 7) rfl rfl ?_
    refine op_load Try.isAgg22 rfl (cell_own (hS.at_ 0 rfl) rfl) rfl ?_
    refine op_wantedF (d := 7) rfl rfl ?_
    refine op_len Try.underlying22 rfl rfl ?_
    refine op_wantedF (d := 7) rfl rfl ?_
    refine op_lss rfl rfl rfl ?_
    refine op_pickT rfl rfl rfl ?_
    refine op_assign rfl rfl ?_
    refine endF ?_
    refine XF.thenN ?_
    refine retF ?_
    refine XF.res (res1 Try.results31 rfl) ?_
    exact ⟨rbool (by simp [inQ, show 0 ≤ n from hg7]), hS.below⟩
  · have hg7 := of_decide_eq_false hc; clear hc
    refine op_notF (d := 7) rfl rfl rfl rfl ?_
    refine op_notF (d := 7) rfl rfl rfl rfl ?_
    refine op_notF (d := 7) rfl rfl rfl rfl ?_
    refine op_notF (d := 7) rfl rfl rfl rfl ?_
    refine op_notF (d := 7) rfl rfl rfl rfl ?_
    refine op_notF (d := 7) rfl rfl rfl rfl ?_
    refine op_pickF rfl rfl rfl ?_
    refine op_assign rfl rfl ?_
    refine endF ?_
    refine XF.thenN ?_
    refine retF ?_
    refine XF.res (res1 Try.results31 rfl) ?_
    exact ⟨rbool (by simp [inQ]; omega), hS.below⟩

set_option maxRecDepth 100000 in
set_option maxHeartbeats 4000000 in
theorem isVar_is (g : GV) (n : Int) (w : World) :
    Calls Try.prog 34 #[g.val, .int .i64 n] w (fun e w' => e = .returned (.bool (inQ n g.vl)) ∧ Below w.heap.size w w') := by
  refine enterF (args := [g.val, .int .i64 n]) Try.func34 rfl Try.ntmps34 rfl ?_
  have hS := St.start w
  refine seqF ?_
  refine regF ?_
  refine op_box (cs := [_, _, _, _, _, _, _, _, _, _]) hS rfl rfl rfl ?_
  clear hS; intro B1 W1 hS
  refine op_assign rfl rfl ?_
  refine endF ?_
  refine XF.thenN ?_
  refine seqF ?_
  refine regF ?_
  refine op_move rfl rfl ?_
  refine op_geq rfl rfl rfl ?_
  refine op_move rfl rfl ?_
  refine op_cases (d := 7) rfl (fun hc => ?_) (fun hc => ?_)
  · have hg7 := of_decide_eq_true hc; clear hc
    refine op_wantedF (d := 7) rfl rfl ?_
    refine op_move rfl rfl ?_
    refine op_wantedF (d := 7) rfl rfl ?_
    refine op_field (o' := 0) fa_81_0 rfl rfl rfl ?_
    refine op_wantedF (d := 7) rfl rfl ?_
    refine op_field (o' := 0) fa_29_0 rfl rfl rfl ?_
    refine op_wantedF (d := 7) rfl rfl ?_
    refine op_load Try.isAgg22 rfl (cell_own (hS.at_ 0 rfl) rfl) rfl ?_
    refine op_wantedF (d := 7) rfl rfl ?_
    refine op_len Try.underlying22 rfl rfl ?_
    refine op_wantedF (d := 7) rfl rfl ?_
    refine op_lss rfl rfl rfl ?_
    refine op_pickT rfl rfl rfl ?_
    refine op_assign rfl rfl ?_
    refine endF ?_
    refine XF.thenN ?_
    refine retF ?_
    refine XF.res (res1 Try.results34 rfl) ?_
    exact ⟨rbool (by simp [inQ, show 0 ≤ n from hg7]), hS.below⟩
  · have hg7 := of_decide_eq_false hc; clear hc
    refine op_notF (d := 7) rfl rfl rfl rfl ?_
    refine op_notF (d := 7) rfl rfl rfl rfl ?_
    refine op_notF (d := 7) rfl rfl rfl rfl ?_
    refine op_notF (d := 7) rfl rfl rfl rfl ?_
    refine op_notF (d := 7) rfl rfl rfl rfl ?_
    refine op_notF (d := 7) rfl rfl rfl rfl ?_
    refine op_pickF rfl rfl rfl ?_
    refine op_assign rfl rfl ?_
    refine endF ?_
    refine XF.thenN ?_
    refine retF ?_
    refine XF.res (res1 Try.results34 rfl) ?_
    exact ⟨rbool (by simp [inQ]; omega), hS.below⟩

set_option maxRecDepth 100000 in
set_option maxHeartbeats 4000000 in
theorem sized_c (va : Option Addr) (vl : Nat) (vc : Nat) (pa : Option Addr) (pl : Nat) (pc : Nat) (ea : Option Addr) (el : Nat) (ec : Nat) (es : List Int) (xa : Option Addr) (xl : Nat) (xc : Nat) (xs : List Int) (mn : Int) (oa : Option Addr) (ol : Nat) (oc : Nat) (os : List Int) (sa : Option Addr) (sl : Nat) (sc : Nat) (ss : List TV) (ta : Option Addr) (tl : Nat) (tc : Nat) (ts : List UV) (na : Option Addr) (nl : Nat) (nc : Nat) (ns : List NV) (ka : Option Addr) (kl : Nat) (kc : Nat) (ks : List KV) (w : World) (he : RowI w ea es) (hel : es.length = el) (hx : RowI w xa xs) (hxl : xs.length = xl) (ho : RowI w oa os) (hol : os.length = ol) (hs : RowL TV.sev 7 w sa ss) (hsl : ss.length = sl) (ht : RowL UV.four 4 w ta ts) (htl : ts.length = tl) (hn : RowL NV.two 2 w na ns) (hnl : ns.length = nl) (hk : RowL KV.two 2 w ka ks) (hkl : ks.length = kl) (b1 : vl ≤ 5000) (b2 : pl ≤ 5000) (b3 : el ≤ 5000) (b4 : xl ≤ 5000) (b5 : ol ≤ 5000) (b6 : sl ≤ 5000) (b7 : tl ≤ 5000) (b8 : nl ≤ 5000) (b9 : kl ≤ 5000) :
    Calls Try.prog 22 #[.agg #[.slice va vl vc, .slice pa pl pc, .slice ea el ec, .slice xa xl xc, .int .i64 mn, .slice oa ol oc, .slice sa sl sc, .slice ta tl tc, .slice na nl nc, .slice ka kl kc]] w (fun e w' => e = .returned (.bool (sizedB ⟨va, vl, vc, pa, pl, pc, ea, el, ec, es, xa, xl, xc, xs, mn, oa, ol, oc, os, sa, sl, sc, ss, ta, tl, tc, ts, na, nl, nc, ns, ka, kl, kc, ks⟩)) ∧ Below w.heap.size w w') := by
  refine enterF (args := [.agg #[.slice va vl vc, .slice pa pl pc, .slice ea el ec, .slice xa xl xc, .int .i64 mn, .slice oa ol oc, .slice sa sl sc, .slice ta tl tc, .slice na nl nc, .slice ka kl kc]]) Try.func22 rfl Try.ntmps22 rfl ?_
  have hS := St.start w
  refine seqF ?_
  refine regF ?_
  refine op_box (cs := [_, _, _, _, _, _, _, _, _, _]) hS rfl rfl rfl ?_
  clear hS; intro B1 W1 hS
  refine op_assign rfl rfl ?_
  refine endF ?_
  refine XF.thenN ?_
  refine seqF ?_
  refine regF ?_
  refine op_field (o' := 0) fa_81_0 rfl rfl rfl ?_
  refine op_field (o' := 1) fa_29_1 rfl rfl rfl ?_
  refine op_load Try.isAgg22 rfl (cell_own (hS.at_ 0 rfl) rfl) rfl ?_
  refine op_len Try.underlying22 rfl rfl ?_
  refine op_assign rfl rfl ?_
  refine endF ?_
  refine XF.thenN ?_
  refine seqF ?_
  refine seqF ?_
  refine regF ?_
  refine op_field (o' := 0) fa_81_0 rfl rfl rfl ?_
  refine op_field (o' := 0) fa_29_0 rfl rfl rfl ?_
  refine op_load Try.isAgg22 rfl (cell_own (hS.at_ 0 rfl) rfl) rfl ?_
  refine op_len Try.underlying22 rfl rfl ?_
  refine op_gtr rfl rfl rfl ?_
  refine op_move rfl rfl ?_
  refine op_cases (d := 18) rfl (fun hc => ?_) (fun hc => ?_)
  · have hg18 := of_decide_eq_true hc; clear hc
    refine op_notF (d := 18) rfl rfl rfl rfl ?_
    refine op_notF (d := 18) rfl rfl rfl rfl ?_
    refine op_pickT rfl rfl rfl ?_
    refine op_move rfl rfl ?_
    refine op_notF (d := 22) rfl rfl rfl rfl ?_
    refine op_notF (d := 22) rfl rfl rfl rfl ?_
    refine op_pickT rfl rfl rfl ?_
    refine op_move rfl rfl ?_
    refine op_notF (d := 26) rfl rfl rfl rfl ?_
    refine op_notF (d := 26) rfl rfl rfl rfl ?_
    refine op_notF (d := 26) rfl rfl rfl rfl ?_
    refine op_notF (d := 26) rfl rfl rfl rfl ?_
    refine op_notF (d := 26) rfl rfl rfl rfl ?_
    refine op_notF (d := 26) rfl rfl rfl rfl ?_
    refine op_pickT rfl rfl rfl ?_
    refine op_move rfl rfl ?_
    refine op_notF (d := 34) rfl rfl rfl rfl ?_
    refine op_notF (d := 34) rfl rfl rfl rfl ?_
    refine op_notF (d := 34) rfl rfl rfl rfl ?_
    refine op_notF (d := 34) rfl rfl rfl rfl ?_
    refine op_notF (d := 34) rfl rfl rfl rfl ?_
    refine op_notF (d := 34) rfl rfl rfl rfl ?_
    refine op_pickT rfl rfl rfl ?_
    refine op_move rfl rfl ?_
    refine op_notF (d := 42) rfl rfl rfl rfl ?_
    refine op_notF (d := 42) rfl rfl rfl rfl ?_
    refine op_notF (d := 42) rfl rfl rfl rfl ?_
    refine op_notF (d := 42) rfl rfl rfl rfl ?_
    refine op_notF (d := 42) rfl rfl rfl rfl ?_
    refine op_pickT rfl rfl rfl ?_
    refine op_move rfl rfl ?_
    refine op_notF (d := 49) rfl rfl rfl rfl ?_
    refine op_notF (d := 49) rfl rfl rfl rfl ?_
    refine op_notF (d := 49) rfl rfl rfl rfl ?_
    refine op_notF (d := 49) rfl rfl rfl rfl ?_
    refine op_notF (d := 49) rfl rfl rfl rfl ?_
    refine op_pickT rfl rfl rfl ?_
    refine op_move rfl rfl ?_
    refine op_notF (d := 56) rfl rfl rfl rfl ?_
    refine op_notF (d := 56) rfl rfl rfl rfl ?_
    refine op_notF (d := 56) rfl rfl rfl rfl ?_
    refine op_notF (d := 56) rfl rfl rfl rfl ?_
    refine op_notF (d := 56) rfl rfl rfl rfl ?_
    refine op_notF (d := 56) rfl rfl rfl rfl ?_
    refine op_pickT rfl rfl rfl ?_
    refine endF ?_
    refine XF.thenN ?_
    refine condT rfl ?_
    refine seqF ?_
    refine regF ?_
    refine op_assign rfl rfl ?_
    refine endF ?_
    refine XF.thenN ?_
    refine retF ?_
    refine XF.thenR ?_
    refine XF.res (res1 Try.results22 rfl) ?_
    exact ⟨rbool (by unfold sizedB; dsimp only; rw [if_pos (by omega)]), hS.below⟩
  · have hg18 := of_decide_eq_false hc; clear hc
    refine op_wantedF (d := 18) rfl rfl ?_
    refine op_move rfl rfl ?_
    refine op_wantedF (d := 18) rfl rfl ?_
    refine op_lss rfl rfl rfl ?_
    refine op_pickF rfl rfl rfl ?_
    refine op_move rfl rfl ?_
    refine op_cases (d := 22) rfl (fun hc => ?_) (fun hc => ?_)
    · have hg22 := of_decide_eq_true hc; clear hc
      refine op_notF (d := 22) rfl rfl rfl rfl ?_
      refine op_notF (d := 22) rfl rfl rfl rfl ?_
      refine op_pickT rfl rfl rfl ?_
      refine op_move rfl rfl ?_
      refine op_notF (d := 26) rfl rfl rfl rfl ?_
      refine op_notF (d := 26) rfl rfl rfl rfl ?_
      refine op_notF (d := 26) rfl rfl rfl rfl ?_
      refine op_notF (d := 26) rfl rfl rfl rfl ?_
      refine op_notF (d := 26) rfl rfl rfl rfl ?_
      refine op_notF (d := 26) rfl rfl rfl rfl ?_
      refine op_pickT rfl rfl rfl ?_
      refine op_move rfl rfl ?_
      refine op_notF (d := 34) rfl rfl rfl rfl ?_
      refine op_notF (d := 34) rfl rfl rfl rfl ?_
      refine op_notF (d := 34) rfl rfl rfl rfl ?_
      refine op_notF (d := 34) rfl rfl rfl rfl ?_
      refine op_notF (d := 34) rfl rfl rfl rfl ?_
      refine op_notF (d := 34) rfl rfl rfl rfl ?_
      refine op_pickT rfl rfl rfl ?_
      refine op_move rfl rfl ?_
      refine op_notF (d := 42) rfl rfl rfl rfl ?_
      refine op_notF (d := 42) rfl rfl rfl rfl ?_
      refine op_notF (d := 42) rfl rfl rfl rfl ?_
      refine op_notF (d := 42) rfl rfl rfl rfl ?_
      refine op_notF (d := 42) rfl rfl rfl rfl ?_
      refine op_pickT rfl rfl rfl ?_
      refine op_move rfl rfl ?_
      refine op_notF (d := 49) rfl rfl rfl rfl ?_
      refine op_notF (d := 49) rfl rfl rfl rfl ?_
      refine op_notF (d := 49) rfl rfl rfl rfl ?_
      refine op_notF (d := 49) rfl rfl rfl rfl ?_
      refine op_notF (d := 49) rfl rfl rfl rfl ?_
      refine op_pickT rfl rfl rfl ?_
      refine op_move rfl rfl ?_
      refine op_notF (d := 56) rfl rfl rfl rfl ?_
      refine op_notF (d := 56) rfl rfl rfl rfl ?_
      refine op_notF (d := 56) rfl rfl rfl rfl ?_
      refine op_notF (d := 56) rfl rfl rfl rfl ?_
      refine op_notF (d := 56) rfl rfl rfl rfl ?_
      refine op_notF (d := 56) rfl rfl rfl rfl ?_
      refine op_pickT rfl rfl rfl ?_
      refine endF ?_
      refine XF.thenN ?_
      refine condT rfl ?_
      refine seqF ?_
      refine regF ?_
      refine op_assign rfl rfl ?_
      refine endF ?_
      refine XF.thenN ?_
      refine retF ?_
      refine XF.thenR ?_
      refine XF.res (res1 Try.results22 rfl) ?_
      exact ⟨rbool (by unfold sizedB; dsimp only; rw [if_neg (by omega), if_pos (by omega)]), hS.below⟩
    · have hg22 := of_decide_eq_false hc; clear hc
      refine op_wantedF (d := 22) rfl rfl ?_
      refine op_move rfl rfl ?_
      refine op_wantedF (d := 22) rfl rfl ?_
      refine op_gtr rfl rfl rfl ?_
      refine op_pickF rfl rfl rfl ?_
      refine op_move rfl rfl ?_
      refine op_cases (d := 26) rfl (fun hc => ?_) (fun hc => ?_)
      · have hg26 := of_decide_eq_true hc; clear hc
        refine op_notF (d := 26) rfl rfl rfl rfl ?_
        refine op_notF (d := 26) rfl rfl rfl rfl ?_
        refine op_notF (d := 26) rfl rfl rfl rfl ?_
        refine op_notF (d := 26) rfl rfl rfl rfl ?_
        refine op_notF (d := 26) rfl rfl rfl rfl ?_
        refine op_notF (d := 26) rfl rfl rfl rfl ?_
        refine op_pickT rfl rfl rfl ?_
        refine op_move rfl rfl ?_
        refine op_notF (d := 34) rfl rfl rfl rfl ?_
        refine op_notF (d := 34) rfl rfl rfl rfl ?_
        refine op_notF (d := 34) rfl rfl rfl rfl ?_
        refine op_notF (d := 34) rfl rfl rfl rfl ?_
        refine op_notF (d := 34) rfl rfl rfl rfl ?_
        refine op_notF (d := 34) rfl rfl rfl rfl ?_
        refine op_pickT rfl rfl rfl ?_
        refine op_move rfl rfl ?_
        refine op_notF (d := 42) rfl rfl rfl rfl ?_
        refine op_notF (d := 42) rfl rfl rfl rfl ?_
        refine op_notF (d := 42) rfl rfl rfl rfl ?_
        refine op_notF (d := 42) rfl rfl rfl rfl ?_
        refine op_notF (d := 42) rfl rfl rfl rfl ?_
        refine op_pickT rfl rfl rfl ?_
        refine op_move rfl rfl ?_
        refine op_notF (d := 49) rfl rfl rfl rfl ?_
        refine op_notF (d := 49) rfl rfl rfl rfl ?_
        refine op_notF (d := 49) rfl rfl rfl rfl ?_
        refine op_notF (d := 49) rfl rfl rfl rfl ?_
        refine op_notF (d := 49) rfl rfl rfl rfl ?_
        refine op_pickT rfl rfl rfl ?_
        refine op_move rfl rfl ?_
        refine op_notF (d := 56) rfl rfl rfl rfl ?_
        refine op_notF (d := 56) rfl rfl rfl rfl ?_
        refine op_notF (d := 56) rfl rfl rfl rfl ?_
        refine op_notF (d := 56) rfl rfl rfl rfl ?_
        refine op_notF (d := 56) rfl rfl rfl rfl ?_
        refine op_notF (d := 56) rfl rfl rfl rfl ?_
        refine op_pickT rfl rfl rfl ?_
        refine endF ?_
        refine XF.thenN ?_
        refine condT rfl ?_
        refine seqF ?_
        refine regF ?_
        refine op_assign rfl rfl ?_
        refine endF ?_
        refine XF.thenN ?_
        refine retF ?_
        refine XF.thenR ?_
        refine XF.res (res1 Try.results22 rfl) ?_
        exact ⟨rbool (by unfold sizedB; dsimp only; rw [if_neg (by omega), if_neg (by omega), if_pos (by omega)]), hS.below⟩
      · have hg26 := of_decide_eq_false hc; clear hc
        refine op_wantedF (d := 26) rfl rfl ?_
        refine op_field (o' := 0) fa_81_0 rfl rfl rfl ?_
        refine op_wantedF (d := 26) rfl rfl ?_
        refine op_field (o' := 2) fa_29_2 rfl rfl rfl ?_
        refine op_wantedF (d := 26) rfl rfl ?_
        refine op_load Try.isAgg23 rfl (cell_own (hS.at_ 0 rfl) rfl) rfl ?_
        refine op_wantedF (d := 26) rfl rfl ?_
        refine op_len Try.underlying23 rfl rfl ?_
        refine op_wantedF (d := 26) rfl rfl ?_
        refine op_move rfl rfl ?_
        refine op_wantedF (d := 26) rfl rfl ?_
        refine op_neq rfl rfl rfl ?_
        refine op_pickF rfl rfl rfl ?_
        refine op_move rfl rfl ?_
        refine op_cases (d := 34) rfl (fun hc => ?_) (fun hc => ?_)
        · have hg34 := of_decide_eq_true hc; clear hc
          refine op_notF (d := 34) rfl rfl rfl rfl ?_
          refine op_notF (d := 34) rfl rfl rfl rfl ?_
          refine op_notF (d := 34) rfl rfl rfl rfl ?_
          refine op_notF (d := 34) rfl rfl rfl rfl ?_
          refine op_notF (d := 34) rfl rfl rfl rfl ?_
          refine op_notF (d := 34) rfl rfl rfl rfl ?_
          refine op_pickT rfl rfl rfl ?_
          refine op_move rfl rfl ?_
          refine op_notF (d := 42) rfl rfl rfl rfl ?_
          refine op_notF (d := 42) rfl rfl rfl rfl ?_
          refine op_notF (d := 42) rfl rfl rfl rfl ?_
          refine op_notF (d := 42) rfl rfl rfl rfl ?_
          refine op_notF (d := 42) rfl rfl rfl rfl ?_
          refine op_pickT rfl rfl rfl ?_
          refine op_move rfl rfl ?_
          refine op_notF (d := 49) rfl rfl rfl rfl ?_
          refine op_notF (d := 49) rfl rfl rfl rfl ?_
          refine op_notF (d := 49) rfl rfl rfl rfl ?_
          refine op_notF (d := 49) rfl rfl rfl rfl ?_
          refine op_notF (d := 49) rfl rfl rfl rfl ?_
          refine op_pickT rfl rfl rfl ?_
          refine op_move rfl rfl ?_
          refine op_notF (d := 56) rfl rfl rfl rfl ?_
          refine op_notF (d := 56) rfl rfl rfl rfl ?_
          refine op_notF (d := 56) rfl rfl rfl rfl ?_
          refine op_notF (d := 56) rfl rfl rfl rfl ?_
          refine op_notF (d := 56) rfl rfl rfl rfl ?_
          refine op_notF (d := 56) rfl rfl rfl rfl ?_
          refine op_pickT rfl rfl rfl ?_
          refine endF ?_
          refine XF.thenN ?_
          refine condT rfl ?_
          refine seqF ?_
          refine regF ?_
          refine op_assign rfl rfl ?_
          refine endF ?_
          refine XF.thenN ?_
          refine retF ?_
          refine XF.thenR ?_
          refine XF.res (res1 Try.results22 rfl) ?_
          exact ⟨rbool (by unfold sizedB; dsimp only; rw [if_neg (by omega), if_neg (by omega), if_neg (by omega), if_pos (by omega)]), hS.below⟩
        · have hg34 := of_decide_eq_false hc; clear hc
          refine op_wantedF (d := 34) rfl rfl ?_
          refine op_field (o' := 0) fa_81_0 rfl rfl rfl ?_
          refine op_wantedF (d := 34) rfl rfl ?_
          refine op_field (o' := 3) fa_29_3 rfl rfl rfl ?_
          refine op_wantedF (d := 34) rfl rfl ?_
          refine op_load Try.isAgg23 rfl (cell_own (hS.at_ 0 rfl) rfl) rfl ?_
          refine op_wantedF (d := 34) rfl rfl ?_
          refine op_len Try.underlying23 rfl rfl ?_
          refine op_wantedF (d := 34) rfl rfl ?_
          refine op_move rfl rfl ?_
          refine op_wantedF (d := 34) rfl rfl ?_
          refine op_neq rfl rfl rfl ?_
          refine op_pickF rfl rfl rfl ?_
          refine op_move rfl rfl ?_
          refine op_cases (d := 42) rfl (fun hc => ?_) (fun hc => ?_)
          · have hg42 := of_decide_eq_true hc; clear hc
            refine op_notF (d := 42) rfl rfl rfl rfl ?_
            refine op_notF (d := 42) rfl rfl rfl rfl ?_
            refine op_notF (d := 42) rfl rfl rfl rfl ?_
            refine op_notF (d := 42) rfl rfl rfl rfl ?_
            refine op_notF (d := 42) rfl rfl rfl rfl ?_
            refine op_pickT rfl rfl rfl ?_
            refine op_move rfl rfl ?_
            refine op_notF (d := 49) rfl rfl rfl rfl ?_
            refine op_notF (d := 49) rfl rfl rfl rfl ?_
            refine op_notF (d := 49) rfl rfl rfl rfl ?_
            refine op_notF (d := 49) rfl rfl rfl rfl ?_
            refine op_notF (d := 49) rfl rfl rfl rfl ?_
            refine op_pickT rfl rfl rfl ?_
            refine op_move rfl rfl ?_
            refine op_notF (d := 56) rfl rfl rfl rfl ?_
            refine op_notF (d := 56) rfl rfl rfl rfl ?_
            refine op_notF (d := 56) rfl rfl rfl rfl ?_
            refine op_notF (d := 56) rfl rfl rfl rfl ?_
            refine op_notF (d := 56) rfl rfl rfl rfl ?_
            refine op_notF (d := 56) rfl rfl rfl rfl ?_
            refine op_pickT rfl rfl rfl ?_
            refine endF ?_
            refine XF.thenN ?_
            refine condT rfl ?_
            refine seqF ?_
            refine regF ?_
            refine op_assign rfl rfl ?_
            refine endF ?_
            refine XF.thenN ?_
            refine retF ?_
            refine XF.thenR ?_
            refine XF.res (res1 Try.results22 rfl) ?_
            exact ⟨rbool (by unfold sizedB; dsimp only; rw [if_neg (by omega), if_neg (by omega), if_neg (by omega), if_neg (by omega), if_pos (by omega)]), hS.below⟩
          · have hg42 := of_decide_eq_false hc; clear hc
            refine op_wantedF (d := 42) rfl rfl ?_
            refine op_field (o' := 0) fa_81_0 rfl rfl rfl ?_
            refine op_wantedF (d := 42) rfl rfl ?_
            refine op_field (o' := 5) fa_29_5 rfl rfl rfl ?_
            refine op_wantedF (d := 42) rfl rfl ?_
            refine op_load Try.isAgg23 rfl (cell_own (hS.at_ 0 rfl) rfl) rfl ?_
            refine op_wantedF (d := 42) rfl rfl ?_
            refine op_len Try.underlying23 rfl rfl ?_
            refine op_wantedF (d := 42) rfl rfl ?_
            refine op_gtr rfl rfl rfl ?_
            refine op_pickF rfl rfl rfl ?_
            refine op_move rfl rfl ?_
            refine op_cases (d := 49) rfl (fun hc => ?_) (fun hc => ?_)
            · have hg49 := of_decide_eq_true hc; clear hc
              refine op_notF (d := 49) rfl rfl rfl rfl ?_
              refine op_notF (d := 49) rfl rfl rfl rfl ?_
              refine op_notF (d := 49) rfl rfl rfl rfl ?_
              refine op_notF (d := 49) rfl rfl rfl rfl ?_
              refine op_notF (d := 49) rfl rfl rfl rfl ?_
              refine op_pickT rfl rfl rfl ?_
              refine op_move rfl rfl ?_
              refine op_notF (d := 56) rfl rfl rfl rfl ?_
              refine op_notF (d := 56) rfl rfl rfl rfl ?_
              refine op_notF (d := 56) rfl rfl rfl rfl ?_
              refine op_notF (d := 56) rfl rfl rfl rfl ?_
              refine op_notF (d := 56) rfl rfl rfl rfl ?_
              refine op_notF (d := 56) rfl rfl rfl rfl ?_
              refine op_pickT rfl rfl rfl ?_
              refine endF ?_
              refine XF.thenN ?_
              refine condT rfl ?_
              refine seqF ?_
              refine regF ?_
              refine op_assign rfl rfl ?_
              refine endF ?_
              refine XF.thenN ?_
              refine retF ?_
              refine XF.thenR ?_
              refine XF.res (res1 Try.results22 rfl) ?_
              exact ⟨rbool (by unfold sizedB; dsimp only; rw [if_neg (by omega), if_neg (by omega), if_neg (by omega), if_neg (by omega), if_neg (by omega), if_pos (by omega)]), hS.below⟩
            · have hg49 := of_decide_eq_false hc; clear hc
              refine op_wantedF (d := 49) rfl rfl ?_
              refine op_field (o' := 0) fa_81_0 rfl rfl rfl ?_
              refine op_wantedF (d := 49) rfl rfl ?_
              refine op_field (o' := 7) fa_29_7 rfl rfl rfl ?_
              refine op_wantedF (d := 49) rfl rfl ?_
              refine op_load Try.isAgg25 rfl (cell_own (hS.at_ 0 rfl) rfl) rfl ?_
              refine op_wantedF (d := 49) rfl rfl ?_
              refine op_len Try.underlying25 rfl rfl ?_
              refine op_wantedF (d := 49) rfl rfl ?_
              refine op_gtr rfl rfl rfl ?_
              refine op_pickF rfl rfl rfl ?_
              refine op_move rfl rfl ?_
              refine op_cases (d := 56) rfl (fun hc => ?_) (fun hc => ?_)
              · have hg56 := of_decide_eq_true hc; clear hc
                refine op_notF (d := 56) rfl rfl rfl rfl ?_
                refine op_notF (d := 56) rfl rfl rfl rfl ?_
                refine op_notF (d := 56) rfl rfl rfl rfl ?_
                refine op_notF (d := 56) rfl rfl rfl rfl ?_
                refine op_notF (d := 56) rfl rfl rfl rfl ?_
                refine op_notF (d := 56) rfl rfl rfl rfl ?_
                refine op_pickT rfl rfl rfl ?_
                refine endF ?_
                refine XF.thenN ?_
                refine condT rfl ?_
                refine seqF ?_
                refine regF ?_
                refine op_assign rfl rfl ?_
                refine endF ?_
                refine XF.thenN ?_
                refine retF ?_
                refine XF.thenR ?_
                refine XF.res (res1 Try.results22 rfl) ?_
                exact ⟨rbool (by unfold sizedB; dsimp only; rw [if_neg (by omega), if_neg (by omega), if_neg (by omega), if_neg (by omega), if_neg (by omega), if_neg (by omega), if_pos (by omega)]), hS.below⟩
              · have hg56 := of_decide_eq_false hc; clear hc
                refine op_wantedF (d := 56) rfl rfl ?_
                refine op_loadA (vs := [_, _, _, _, _, _, _, _, _, _]) Try.isAgg81 Try.sizeOf81 rfl (CellsAt.own (j := 0) (m := 10) (hS.at_ 0 rfl) rfl) rfl ?_
                refine op_wantedF (d := 56) rfl rfl ?_
                refine op_field (o' := 0) fa_81_0 rfl rfl rfl ?_
                refine op_wantedF (d := 56) rfl rfl ?_
                refine op_field (o' := 4) fa_29_4 rfl rfl rfl ?_
                refine op_wantedF (d := 56) rfl rfl ?_
                refine op_load Try.isAgg3 rfl (cell_own (hS.at_ 0 rfl) rfl) rfl ?_
                refine op_wantedF (d := 56) rfl rfl ?_
                refine op_call (vs := [_, _]) hS goes_31 rfl (isProc_is ⟨_, vl, vc, _, pl, pc, _, el, ec, es, _, xl, xc, xs, mn, _, ol, oc, os, _, sl, sc, ss, _, tl, tc, ts, _, nl, nc, ns, _, kl, kc, ks⟩ mn _) rfl ?_
                rintro e W2 ⟨rfl, hb⟩
                refine ⟨_, rfl, hb, fun hS' => ?_⟩
                clear hS; have hS := hS'; clear hS' hb
                refine op_wantedF (d := 56) rfl rfl ?_
                refine op_not rfl rfl ?_
                refine op_pickF rfl rfl rfl ?_
                refine endF ?_
                refine XF.thenN ?_
                refine condF rfl (fun hc => ?_) (fun hc => ?_)
                · have hc63 := hc; clear hc
                  skip
                  refine seqF ?_
                  refine regF ?_
                  refine op_assign rfl rfl ?_
                  refine endF ?_
                  refine XF.thenN ?_
                  refine retF ?_
                  refine XF.thenR ?_
                  refine XF.res (res1 Try.results22 rfl) ?_
                  exact ⟨rbool (by unfold sizedB; dsimp only; rw [if_neg (by omega), if_neg (by omega), if_neg (by omega), if_neg (by omega), if_neg (by omega), if_neg (by omega), if_neg (by omega), if_pos (by simpa using hc63)]), hS.below⟩
                · have hc63 := hc; clear hc
                  have hmn : inQ mn pl = true := by simpa using hc63
                  refine skipF ?_
                  refine XF.thenN ?_
                  refine seqF ?_
                  refine seqF ?_
                  refine regF ?_
                  refine op_field (o' := 0) fa_81_0 rfl rfl rfl ?_
                  refine op_field (o' := 5) fa_29_5 rfl rfl rfl ?_
                  refine op_load Try.isAgg23 rfl (cell_own (hS.at_ 0 rfl) rfl) rfl ?_
                  refine op_len Try.underlying23 rfl rfl ?_
                  refine op_move rfl rfl ?_
                  refine endF ?_
                  refine XF.thenN ?_
                  refine blockF ?_
                  refine loopF (fun m l W => ∃ i : Nat, i ≤ ol ∧ m = ol - i ∧ l = [(1, .pointer (some ⟨B1, 0, none⟩)), (3, .int .i64 (pl : Int)), (66, .slice oa ol oc), (67, .int .i64 (ol : Int)), (68, .int .i64 (i : Int))] ∧ (os.take i).all (fun y => inQ y pl) = true ∧ St w [(B1, [.slice va vl vc, .slice pa pl pc, .slice ea el ec, .slice xa xl xc, .int .i64 mn, .slice oa ol oc, .slice sa sl sc, .slice ta tl tc, .slice na nl nc, .slice ka kl kc], 81)] [] [] W) (ol - 0) ([(1, _), (3, _), (66, _), (67, _), (68, _)]) ⟨rfl, rfl, rfl, rfl, rfl, trivial⟩ (⟨0, Nat.zero_le _, rfl, rfl, rfl, hS.clear⟩) ?_
                  clear hS
                  rintro m l W ⟨i, hi, rfl, rfl, hall, hS⟩
                  refine seqF ?_
                  refine regF ?_
                  refine op_lss rfl rfl rfl ?_
                  refine endF ?_
                  refine XF.thenN ?_
                  refine seqF ?_
                  refine condF rfl (fun hc => ?_) (fun hc => ?_)
                  · have hc69 := of_decide_eq_true hc; clear hc
                    have hk1 : i < ol := by omega
                    obtain ⟨b, off, y, rfl, hy, hyc⟩ := ho.get (i := i) (by omega)
                    have k1 := (CellsAt.agree hS.agree (Nat.zero_le _) hyc).1
                    refine skipF ?_
                    refine XF.thenN ?_
                    refine seqF ?_
                    refine blockF ?_
                    refine seqF ?_
                    refine regF ?_
                    refine op_indexA  Try.underlying23 Try.sizeOf3 rfl rfl rfl (by omega) rfl rfl ?_
                    refine op_load Try.isAgg3 rfl (k1) rfl ?_
                    refine op_assign rfl rfl ?_
                    refine endF ?_
                    refine XF.thenN ?_
                    refine seqF ?_
                    refine regF ?_
                    refine op_loadA (vs := [_, _, _, _, _, _, _, _, _, _]) Try.isAgg81 Try.sizeOf81 rfl (CellsAt.own (j := 0) (m := 10) (hS.at_ 0 rfl) rfl) rfl ?_
                    refine op_move rfl rfl ?_
                    refine op_call (vs := [_, _]) hS goes_31 rfl (isProc_is ⟨_, vl, vc, _, pl, pc, _, el, ec, es, _, xl, xc, xs, mn, _, ol, oc, os, _, sl, sc, ss, _, tl, tc, ts, _, nl, nc, ns, _, kl, kc, ks⟩ y _) rfl ?_
                    rintro e W3 ⟨rfl, hb⟩
                    refine ⟨_, rfl, hb, fun hS' => ?_⟩
                    clear hS; have hS := hS'; clear hS' hb
                    refine op_not rfl rfl ?_
                    refine endF ?_
                    refine XF.thenN ?_
                    refine condF rfl (fun hc => ?_) (fun hc => ?_)
                    · have hc75 := hc; clear hc
                      refine seqF ?_
                      refine regF ?_
                      refine op_assign rfl rfl ?_
                      refine endF ?_
                      refine XF.thenN ?_
                      refine retF ?_
                      refine XF.blkR ?_
                      refine XF.thenR ?_
                      refine XF.thenR ?_
                      refine XF.blkR ?_
                      refine XF.thenR ?_
                      refine XF.res (res1 Try.results22 rfl) ?_
                      exact ⟨rbool (by unfold sizedB; dsimp only; rw [if_neg (by omega), if_neg (by omega), if_neg (by omega), if_neg (by omega), if_neg (by omega), if_neg (by omega), if_neg (by omega), if_neg (by rw [hmn]; simp), if_pos (all_false_at hy (by simpa using hc75))]), hS.below⟩
                    · have hc75 := hc; clear hc
                      refine skipF ?_
                      refine XF.blkN ?_
                      refine XF.thenN ?_
                      refine regF ?_
                      refine op_add rfl rfl (IntWalk.i64_in _ (by omega)) rfl ?_
                      refine op_move rfl rfl ?_
                      refine endF ?_
                      exact XF.round (ol - (i + 1)) [(1, _), (3, _), (66, _), (67, _), (68, _)] (by omega) ⟨rfl, rfl, rfl, rfl, rfl, trivial⟩ ⟨i + 1, by omega, rfl, rfl, all_take_at hy hall (by simpa using hc75), hS.clear⟩
                  · have hc69 := of_decide_eq_false hc; clear hc
                    rw [List.take_of_length_le (by omega)] at hall
                    refine exitF ?_
                    refine XF.thenX ?_
                    refine XF.thenX ?_
                    refine XF.blkX ?_
                    refine XF.thenN ?_
                    refine seqF ?_
                    refine seqF ?_
                    refine regF ?_
                    refine op_move rfl rfl ?_
                    refine op_move rfl rfl ?_
                    refine endF ?_
                    refine XF.thenN ?_
                    refine blockF ?_
                    refine loopF (fun m l W => ∃ p : Nat, p ≤ pl ∧ m = pl - p ∧ l = [(1, .pointer (some ⟨B1, 0, none⟩)), (77, .int .i64 (pl : Int)), (78, .int .i64 (p : Int))] ∧ (List.range p).all (procB ⟨va, vl, vc, pa, pl, pc, ea, el, ec, es, xa, xl, xc, xs, mn, oa, ol, oc, os, sa, sl, sc, ss, ta, tl, tc, ts, na, nl, nc, ns, ka, kl, kc, ks⟩) = true ∧ St w [(B1, [.slice va vl vc, .slice pa pl pc, .slice ea el ec, .slice xa xl xc, .int .i64 mn, .slice oa ol oc, .slice sa sl sc, .slice ta tl tc, .slice na nl nc, .slice ka kl kc], 81)] [] [] W) (pl - 0) ([(1, _), (77, _), (78, _)]) ⟨rfl, rfl, rfl, trivial⟩ (⟨0, Nat.zero_le _, rfl, rfl, rfl, hS.clear⟩) ?_
                    clear hS
                    rintro m l W ⟨p, hp, rfl, rfl, hpr, hS⟩
                    refine seqF ?_
                    refine regF ?_
                    refine op_lss rfl rfl rfl ?_
                    refine endF ?_
                    refine XF.thenN ?_
                    refine seqF ?_
                    refine condF rfl (fun hc => ?_) (fun hc => ?_)
                    · have hc79 := of_decide_eq_true hc; clear hc
                      have hp1 : p < pl := by omega
                      obtain ⟨eb, eo, n1, rfl, hn1, hnc1⟩ := he.get (i := p) (by omega)
                      obtain ⟨xb, xo, n2, rfl, hn2, hnc2⟩ := hx.get (i := p) (by omega)
                      have k1 := (CellsAt.agree hS.agree (Nat.zero_le _) hnc1).1
                      have k2 := (CellsAt.agree hS.agree (Nat.zero_le _) hnc2).1
                      refine skipF ?_
                      refine XF.thenN ?_
                      refine seqF ?_
                      refine blockF ?_
                      refine seqF ?_
                      refine regF ?_
                      refine op_move rfl rfl ?_
                      refine op_assign rfl rfl ?_
                      refine endF ?_
                      refine XF.thenN ?_
                      refine seqF ?_
                      refine regB (m := 15) followsM hS (by kernel_rfl) (by kernel_rfl) rfl ?_
                      refine bl_cons 1 rfl (isV _) (stab_isV _) (rgV (li := [(1, _)]) rfl (w_free rfl) ⟨g_fr (by kernel_rfl) rfl, trivial⟩ (fun w hw => rn_field (o' := 0) fa_81_0 rfl rfl) (at_top rfl)) ?_
                      refine bl_cons 2 rfl (isV _) (stab_isV _) (rgV (li := [(81, _)]) rfl (w_free rfl) ⟨g_dep 0 (by kernel_rfl) (at_dep rfl rfl rfl), trivial⟩ (fun w hw => rn_field (o' := 2) fa_29_2 rfl rfl) (at_top rfl)) ?_
                      refine bl_cons 3 rfl (isV _) (stab_isV _) (rgV (li := [(82, _)]) rfl (w_free rfl) ⟨g_dep 1 (by kernel_rfl) (at_dep rfl rfl rfl), trivial⟩ (fun w hw => rn_load Try.isAgg23 rfl ((below_agree hw 0).cell (Nat.zero_le _) (cell_own (hS.at_ 0 rfl) rfl))) (at_top rfl)) ?_
                      refine bl_cons 4 rfl (isV _) (stab_isV _) (rgV (li := [(6, _)]) rfl (w_free rfl) ⟨g_fr (by kernel_rfl) rfl, trivial⟩ (fun w hw => rn_move rfl) (at_top rfl)) ?_
                      refine bl_cons 5 rfl (isV _) (stab_isV _) (rgV (li := [(83, _), (84, _)]) rfl (w_free rfl) ⟨g_dep 2 (by kernel_rfl) (at_dep rfl rfl rfl), g_dep 3 (by kernel_rfl) (at_dep rfl rfl rfl), trivial⟩ (fun w hw => rn_indexA  Try.underlying23 Try.sizeOf3 rfl rfl rfl (by omega) rfl) (at_top rfl)) ?_
                      refine bl_cons 6 rfl (isV _) (stab_isV _) (rgV (li := [(85, _)]) rfl (w_free rfl) ⟨g_dep 4 (by kernel_rfl) (at_dep rfl rfl rfl), trivial⟩ (fun w hw => rn_load Try.isAgg3 rfl ((below_agree hw 0).cell (Nat.zero_le _) (k1))) (at_top rfl)) ?_
                      refine bl_cons 7 rfl (isV _) (stab_isV _) (rgV (li := [(1, _)]) rfl (w_free rfl) ⟨g_fr (by kernel_rfl) rfl, trivial⟩ (fun w hw => rn_field (o' := 0) fa_81_0 rfl rfl) (at_top rfl)) ?_
                      refine bl_cons 8 rfl (isV _) (stab_isV _) (rgV (li := [(87, _)]) rfl (w_free rfl) ⟨g_dep 6 (by kernel_rfl) (at_dep rfl rfl rfl), trivial⟩ (fun w hw => rn_field (o' := 3) fa_29_3 rfl rfl) (at_top rfl)) ?_
                      refine bl_cons 9 rfl (isV _) (stab_isV _) (rgV (li := [(88, _)]) rfl (w_free rfl) ⟨g_dep 7 (by kernel_rfl) (at_dep rfl rfl rfl), trivial⟩ (fun w hw => rn_load Try.isAgg23 rfl ((below_agree hw 0).cell (Nat.zero_le _) (cell_own (hS.at_ 0 rfl) rfl))) (at_top rfl)) ?_
                      refine bl_cons 10 rfl (isV _) (stab_isV _) (rgV (li := [(6, _)]) rfl (w_free rfl) ⟨g_fr (by kernel_rfl) rfl, trivial⟩ (fun w hw => rn_move rfl) (at_top rfl)) ?_
                      refine bl_cons 11 rfl (isV _) (stab_isV _) (rgV (li := [(89, _), (90, _)]) rfl (w_free rfl) ⟨g_dep 8 (by kernel_rfl) (at_dep rfl rfl rfl), g_dep 9 (by kernel_rfl) (at_dep rfl rfl rfl), trivial⟩ (fun w hw => rn_indexA  Try.underlying23 Try.sizeOf3 rfl rfl rfl (by omega) rfl) (at_top rfl)) ?_
                      refine bl_cons 12 rfl (isV _) (stab_isV _) (rgV (li := [(91, _)]) rfl (w_free rfl) ⟨g_dep 10 (by kernel_rfl) (at_dep rfl rfl rfl), trivial⟩ (fun w hw => rn_load Try.isAgg3 rfl ((below_agree hw 0).cell (Nat.zero_le _) (k2))) (at_top rfl)) ?_
                      refine bl_cons 13 rfl (isRow W.heap.size 2 3 _) (stab_isRow) (rg_rowV (us := [.int .i64 _, .int .i64 _]) rfl (w_free rfl) Try.underlying23 Try.sizeOf3 Try.zeroValue3 rfl rfl ⟨p_tmp (g_dep 5 (by kernel_rfl) (at_dep rfl rfl rfl)), p_tmp (g_dep 11 (by kernel_rfl) (at_dep rfl rfl rfl)), trivial⟩ (bs_23_2 _ _) (at_top rfl)) ?_
                      refine bl_cons 14 rfl (isV (.int .i64 (2 : Nat))) (stab_isV _) (rg_lenR rfl (g_dep 12 (by kernel_rfl) (at_dep rfl rfl rfl)) Try.underlying23 (at_top rfl)) ?_
                      refine bl_cons 15 rfl (isV _) (stab_isV _) (rgV (li := []) rfl (w_free rfl) trivial (fun w hw => rn_move rfl) (at_top rfl)) ?_
                      refine bl_nil ?_
                      intro W4 hbR hS'
                      clear hS; have hS := hS'; clear hS'
                      refine fin_v ?_
                      refine fin_v ?_
                      refine fin_v ?_
                      refine fin_v ?_
                      refine fin_v ?_
                      refine fin_v ?_
                      refine fin_v ?_
                      refine fin_v ?_
                      refine fin_v ?_
                      refine fin_v ?_
                      refine fin_v ?_
                      refine fin_v ?_
                      refine fin_p ?_; rintro _ ⟨B13_12, rfl, hlo13_12, hrow13_12⟩
                      refine fin_v ?_
                      refine fin_v ?_
                      refine fin_nil ?_
                      refine XF.thenN ?_
                      refine blockF ?_
                      refine loopF (fun m l W => ∃ j : Nat, j ≤ 2 ∧ m = 2 - j ∧ l = [(1, .pointer (some ⟨B1, 0, none⟩)), (6, .int .i64 (p : Int)), (77, .int .i64 (pl : Int)), (78, .int .i64 (p : Int)), (93, .slice (some ⟨B13_12, 0, none⟩) 2 2), (94, .int .i64 (2 : Nat)), (95, .int .i64 (j : Int))] ∧ (1 ≤ j → nodeB os ol es p = true) ∧ (2 ≤ j → nodeB os ol xs p = true) ∧ W.heap[B13_12]? = some (.cells #[.int .i64 n1, .int .i64 n2] 3 (0, 0)) ∧ St w [(B1, [.slice va vl vc, .slice pa pl pc, .slice (some ⟨eb, eo, none⟩) el ec, .slice (some ⟨xb, xo, none⟩) xl xc, .int .i64 mn, .slice oa ol oc, .slice sa sl sc, .slice ta tl tc, .slice na nl nc, .slice ka kl kc], 81)] [] [] W) (2 - 0) ([(1, _), (6, _), (77, _), (78, _), (93, _), (94, _), (95, _)]) ⟨rfl, rfl, rfl, rfl, rfl, rfl, rfl, trivial⟩ (⟨0, Nat.zero_le _, rfl, rfl, fun h => by omega, fun h => by omega, hrow13_12, hS.clear⟩) ?_
                      clear hS
                      rintro m l W ⟨j, hj, rfl, rfl, hj1, hj2, hBc, hS⟩
                      refine seqF ?_
                      refine regF ?_
                      refine op_lss rfl rfl rfl ?_
                      refine endF ?_
                      refine XF.thenN ?_
                      refine seqF ?_
                      refine condF rfl (fun hc => ?_) (fun hc => ?_)
                      · have hc96 := of_decide_eq_true hc; clear hc
                        refine skipF ?_
                        refine XF.thenN ?_
                        refine seqF ?_
                        refine blockF ?_
                        refine seqF ?_
                        rcases (show j = 0 ∨ j = 1 by omega) with rfl | rfl
                        · have k3 := cell_own (j := 0) hBc rfl
                          refine regF ?_
                          refine op_indexA (j := 0) Try.underlying23 Try.sizeOf3 rfl rfl (by omega) (by omega) rfl rfl ?_
                          refine op_load Try.isAgg3 rfl (k3) rfl ?_
                          refine op_assign rfl rfl ?_
                          refine endF ?_
                          refine XF.thenN ?_
                          refine seqF ?_
                          refine regF ?_
                          refine op_loadA (vs := [_, _, _, _, _, _, _, _, _, _]) Try.isAgg81 Try.sizeOf81 rfl (CellsAt.own (j := 0) (m := 10) (hS.at_ 0 rfl) rfl) rfl ?_
                          refine op_move rfl rfl ?_
                          refine op_call (vs := [_, _]) hS goes_32 rfl (isNode_is ⟨_, vl, vc, _, pl, pc, _, el, ec, es, _, xl, xc, xs, mn, _, ol, oc, os, _, sl, sc, ss, _, tl, tc, ts, _, nl, nc, ns, _, kl, kc, ks⟩ n1 _) rfl ?_
                          rintro e W5 ⟨rfl, hb⟩
                          refine ⟨_, rfl, hb, fun hS' => ?_⟩
                          clear hS; have hS := hS'; clear hS'
                          have hBc := (hb.block _ (lt_of_heap hBc)).trans hBc
                          clear hb
                          refine op_not rfl rfl ?_
                          refine op_move rfl rfl ?_
                          refine op_cases (d := 103) rfl (fun hc => ?_) (fun hc => ?_)
                          · have hg103 := hc; clear hc
                            have hno : inQ n1 ol = false := by simpa using hg103
                            refine op_notF (d := 103) rfl rfl rfl rfl ?_
                            refine op_notF (d := 103) rfl rfl rfl rfl ?_
                            refine op_notF (d := 103) rfl rfl rfl rfl ?_
                            refine op_notF (d := 103) rfl rfl rfl rfl ?_
                            refine op_notF (d := 103) rfl rfl rfl rfl ?_
                            refine op_notF (d := 103) rfl rfl rfl rfl ?_
                            refine op_notF (d := 103) rfl rfl rfl rfl ?_
                            refine op_notF (d := 103) rfl rfl rfl rfl ?_
                            refine op_pickT rfl rfl rfl ?_
                            refine endF ?_
                            refine XF.thenN ?_
                            refine condT rfl ?_
                            refine seqF ?_
                            refine regF ?_
                            refine op_assign rfl rfl ?_
                            refine endF ?_
                            refine XF.thenN ?_
                            refine retF ?_
                            refine XF.blkR ?_
                            refine XF.thenR ?_
                            refine XF.thenR ?_
                            refine XF.blkR ?_
                            refine XF.blkR ?_
                            refine XF.thenR ?_
                            refine XF.thenR ?_
                            refine XF.blkR ?_
                            refine XF.thenR ?_
                            refine XF.res (res1 Try.results22 rfl) ?_
                            exact ⟨rbool (by unfold sizedB; dsimp only; rw [if_neg (by omega), if_neg (by omega), if_neg (by omega), if_neg (by omega), if_neg (by omega), if_neg (by omega), if_neg (by omega), if_neg (by rw [hmn]; simp), if_neg (by rw [hall]; simp), range_false hp1 (by show (nodeB os ol es p && nodeB os ol xs p) = false; rw [nodeB_out hn1 hno]; simp)]), hS.below⟩
                          · have hg103 := hc; clear hc
                            obtain ⟨kn, rfl, hkn⟩ := inQ_nat (show inQ n1 ol = true by simpa using hg103)
                            obtain ⟨ob, oo, q, rfl, hq, hqc⟩ := ho.get (i := kn) (by omega)
                            have k4 := (CellsAt.agree hS.agree (Nat.zero_le _) hqc).1
                            have hnq := nodeB_at (ol := ol) hn1 (inQ_of hkn) (by rw [Int.toNat_natCast]; exact hq)
                            refine op_wantedF (d := 103) rfl rfl ?_
                            refine op_field (o' := 0) fa_81_0 rfl rfl rfl ?_
                            refine op_wantedF (d := 103) rfl rfl ?_
                            refine op_field (o' := 5) fa_29_5 rfl rfl rfl ?_
                            refine op_wantedF (d := 103) rfl rfl ?_
                            refine op_load Try.isAgg23 rfl (cell_own (hS.at_ 0 rfl) rfl) rfl ?_
                            refine op_wantedF (d := 103) rfl rfl ?_
                            refine op_move rfl rfl ?_
                            refine op_wantedF (d := 103) rfl rfl ?_
                            refine op_indexA (j := kn) Try.underlying23 Try.sizeOf3 rfl rfl (by omega) (by omega) rfl rfl ?_
                            refine op_wantedF (d := 103) rfl rfl ?_
                            refine op_load Try.isAgg3 rfl (k4) rfl ?_
                            refine op_wantedF (d := 103) rfl rfl ?_
                            refine op_move rfl rfl ?_
                            refine op_wantedF (d := 103) rfl rfl ?_
                            refine op_neq rfl rfl rfl ?_
                            refine op_pickF rfl rfl rfl ?_
                            refine endF ?_
                            refine XF.thenN ?_
                            refine condF rfl (fun hc => ?_) (fun hc => ?_)
                            · have hc112 := of_decide_eq_true hc; clear hc
                              refine seqF ?_
                              refine regF ?_
                              refine op_assign rfl rfl ?_
                              refine endF ?_
                              refine XF.thenN ?_
                              refine retF ?_
                              refine XF.blkR ?_
                              refine XF.thenR ?_
                              refine XF.thenR ?_
                              refine XF.blkR ?_
                              refine XF.blkR ?_
                              refine XF.thenR ?_
                              refine XF.thenR ?_
                              refine XF.blkR ?_
                              refine XF.thenR ?_
                              refine XF.res (res1 Try.results22 rfl) ?_
                              exact ⟨rbool (by unfold sizedB; dsimp only; rw [if_neg (by omega), if_neg (by omega), if_neg (by omega), if_neg (by omega), if_neg (by omega), if_neg (by omega), if_neg (by omega), if_neg (by rw [hmn]; simp), if_neg (by rw [hall]; simp), range_false hp1 (by show (nodeB os ol es p && nodeB os ol xs p) = false; rw [hnq, decide_eq_false (by omega)]; simp)]), hS.below⟩
                            · have hc112 := of_decide_eq_false hc; clear hc
                              refine skipF ?_
                              refine XF.blkN ?_
                              refine XF.thenN ?_
                              refine regF ?_
                              refine op_add rfl rfl (IntWalk.i64_in _ (by omega)) rfl ?_
                              refine op_move rfl rfl ?_
                              refine endF ?_
                              exact XF.round (2 - (0 + 1)) [(1, _), (6, _), (77, _), (78, _), (93, _), (94, _), (95, _)] (by omega) ⟨rfl, rfl, rfl, rfl, rfl, rfl, rfl, trivial⟩ ⟨0 + 1, by omega, rfl, rfl, fun _ => by rw [hnq]; exact decide_eq_true (by omega), fun h => by omega, hBc, hS.clear⟩
                        · have k3 := cell_own (j := 1) hBc rfl
                          refine regF ?_
                          refine op_indexA (j := 1) Try.underlying23 Try.sizeOf3 rfl rfl (by omega) (by omega) rfl rfl ?_
                          refine op_load Try.isAgg3 rfl (k3) rfl ?_
                          refine op_assign rfl rfl ?_
                          refine endF ?_
                          refine XF.thenN ?_
                          refine seqF ?_
                          refine regF ?_
                          refine op_loadA (vs := [_, _, _, _, _, _, _, _, _, _]) Try.isAgg81 Try.sizeOf81 rfl (CellsAt.own (j := 0) (m := 10) (hS.at_ 0 rfl) rfl) rfl ?_
                          refine op_move rfl rfl ?_
                          refine op_call (vs := [_, _]) hS goes_32 rfl (isNode_is ⟨_, vl, vc, _, pl, pc, _, el, ec, es, _, xl, xc, xs, mn, _, ol, oc, os, _, sl, sc, ss, _, tl, tc, ts, _, nl, nc, ns, _, kl, kc, ks⟩ n2 _) rfl ?_
                          rintro e W6 ⟨rfl, hb⟩
                          refine ⟨_, rfl, hb, fun hS' => ?_⟩
                          clear hS; have hS := hS'; clear hS'
                          have hBc := (hb.block _ (lt_of_heap hBc)).trans hBc
                          clear hb
                          refine op_not rfl rfl ?_
                          refine op_move rfl rfl ?_
                          refine op_cases (d := 103) rfl (fun hc => ?_) (fun hc => ?_)
                          · have hg103 := hc; clear hc
                            have hno : inQ n2 ol = false := by simpa using hg103
                            refine op_notF (d := 103) rfl rfl rfl rfl ?_
                            refine op_notF (d := 103) rfl rfl rfl rfl ?_
                            refine op_notF (d := 103) rfl rfl rfl rfl ?_
                            refine op_notF (d := 103) rfl rfl rfl rfl ?_
                            refine op_notF (d := 103) rfl rfl rfl rfl ?_
                            refine op_notF (d := 103) rfl rfl rfl rfl ?_
                            refine op_notF (d := 103) rfl rfl rfl rfl ?_
                            refine op_notF (d := 103) rfl rfl rfl rfl ?_
                            refine op_pickT rfl rfl rfl ?_
                            refine endF ?_
                            refine XF.thenN ?_
                            refine condT rfl ?_
                            refine seqF ?_
                            refine regF ?_
                            refine op_assign rfl rfl ?_
                            refine endF ?_
                            refine XF.thenN ?_
                            refine retF ?_
                            refine XF.blkR ?_
                            refine XF.thenR ?_
                            refine XF.thenR ?_
                            refine XF.blkR ?_
                            refine XF.blkR ?_
                            refine XF.thenR ?_
                            refine XF.thenR ?_
                            refine XF.blkR ?_
                            refine XF.thenR ?_
                            refine XF.res (res1 Try.results22 rfl) ?_
                            exact ⟨rbool (by unfold sizedB; dsimp only; rw [if_neg (by omega), if_neg (by omega), if_neg (by omega), if_neg (by omega), if_neg (by omega), if_neg (by omega), if_neg (by omega), if_neg (by rw [hmn]; simp), if_neg (by rw [hall]; simp), range_false hp1 (by show (nodeB os ol es p && nodeB os ol xs p) = false; rw [nodeB_out hn2 hno]; simp)]), hS.below⟩
                          · have hg103 := hc; clear hc
                            obtain ⟨kn, rfl, hkn⟩ := inQ_nat (show inQ n2 ol = true by simpa using hg103)
                            obtain ⟨ob, oo, q, rfl, hq, hqc⟩ := ho.get (i := kn) (by omega)
                            have k4 := (CellsAt.agree hS.agree (Nat.zero_le _) hqc).1
                            have hnq := nodeB_at (ol := ol) hn2 (inQ_of hkn) (by rw [Int.toNat_natCast]; exact hq)
                            refine op_wantedF (d := 103) rfl rfl ?_
                            refine op_field (o' := 0) fa_81_0 rfl rfl rfl ?_
                            refine op_wantedF (d := 103) rfl rfl ?_
                            refine op_field (o' := 5) fa_29_5 rfl rfl rfl ?_
                            refine op_wantedF (d := 103) rfl rfl ?_
                            refine op_load Try.isAgg23 rfl (cell_own (hS.at_ 0 rfl) rfl) rfl ?_
                            refine op_wantedF (d := 103) rfl rfl ?_
                            refine op_move rfl rfl ?_
                            refine op_wantedF (d := 103) rfl rfl ?_
                            refine op_indexA (j := kn) Try.underlying23 Try.sizeOf3 rfl rfl (by omega) (by omega) rfl rfl ?_
                            refine op_wantedF (d := 103) rfl rfl ?_
                            refine op_load Try.isAgg3 rfl (k4) rfl ?_
                            refine op_wantedF (d := 103) rfl rfl ?_
                            refine op_move rfl rfl ?_
                            refine op_wantedF (d := 103) rfl rfl ?_
                            refine op_neq rfl rfl rfl ?_
                            refine op_pickF rfl rfl rfl ?_
                            refine endF ?_
                            refine XF.thenN ?_
                            refine condF rfl (fun hc => ?_) (fun hc => ?_)
                            · have hc112 := of_decide_eq_true hc; clear hc
                              refine seqF ?_
                              refine regF ?_
                              refine op_assign rfl rfl ?_
                              refine endF ?_
                              refine XF.thenN ?_
                              refine retF ?_
                              refine XF.blkR ?_
                              refine XF.thenR ?_
                              refine XF.thenR ?_
                              refine XF.blkR ?_
                              refine XF.blkR ?_
                              refine XF.thenR ?_
                              refine XF.thenR ?_
                              refine XF.blkR ?_
                              refine XF.thenR ?_
                              refine XF.res (res1 Try.results22 rfl) ?_
                              exact ⟨rbool (by unfold sizedB; dsimp only; rw [if_neg (by omega), if_neg (by omega), if_neg (by omega), if_neg (by omega), if_neg (by omega), if_neg (by omega), if_neg (by omega), if_neg (by rw [hmn]; simp), if_neg (by rw [hall]; simp), range_false hp1 (by show (nodeB os ol es p && nodeB os ol xs p) = false; rw [hnq, decide_eq_false (by omega)]; simp)]), hS.below⟩
                            · have hc112 := of_decide_eq_false hc; clear hc
                              refine skipF ?_
                              refine XF.blkN ?_
                              refine XF.thenN ?_
                              refine regF ?_
                              refine op_add rfl rfl (IntWalk.i64_in _ (by omega)) rfl ?_
                              refine op_move rfl rfl ?_
                              refine endF ?_
                              exact XF.round (2 - (1 + 1)) [(1, _), (6, _), (77, _), (78, _), (93, _), (94, _), (95, _)] (by omega) ⟨rfl, rfl, rfl, rfl, rfl, rfl, rfl, trivial⟩ ⟨1 + 1, by omega, rfl, rfl, fun _ => hj1 (by omega), fun _ => by rw [hnq]; exact decide_eq_true (by omega), hBc, hS.clear⟩
                      · have hc96 := of_decide_eq_false hc; clear hc
                        have hj3 : j = 2 := by omega
                        refine exitF ?_
                        refine XF.thenX ?_
                        refine XF.thenX ?_
                        refine XF.blkX ?_
                        refine XF.blkN ?_
                        refine XF.thenN ?_
                        refine regF ?_
                        refine op_add rfl rfl (IntWalk.i64_in _ (by omega)) rfl ?_
                        refine op_move rfl rfl ?_
                        refine endF ?_
                        exact XF.round (pl - (p + 1)) [(1, _), (77, _), (78, _)] (by omega) ⟨rfl, rfl, rfl, trivial⟩ ⟨p + 1, by omega, rfl, rfl, range_take hp1 hpr (by show (nodeB os ol es p && nodeB os ol xs p) = true; rw [hj1 (by omega), hj2 (by omega)]; rfl), hS.clear⟩
                    · have hc79 := of_decide_eq_false hc; clear hc
                      refine exitF ?_
                      refine XF.thenX ?_
                      refine XF.thenX ?_
                      refine XF.blkX ?_
                      refine XF.thenN ?_
                      refine seqF ?_
                      refine regF ?_
                      refine op_assign rfl rfl ?_
                      refine endF ?_
                      refine XF.thenN ?_
                      refine retF ?_
                      refine XF.res (res1 Try.results22 rfl) ?_
                      have hpp : p = pl := by omega
                      subst hpp
                      exact ⟨rbool (by unfold sizedB; dsimp only; rw [if_neg (by omega), if_neg (by omega), if_neg (by omega), if_neg (by omega), if_neg (by omega), if_neg (by omega), if_neg (by omega), if_neg (by rw [hmn]; simp), if_neg (by rw [hall]; simp), hpr]), hS.below⟩
end Go.Proofs.Ytpinbmjkbkogdaa
