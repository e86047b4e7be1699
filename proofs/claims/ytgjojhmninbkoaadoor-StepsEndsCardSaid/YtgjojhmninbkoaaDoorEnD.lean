import Derived.Orders
import Derived.Below
import Derived.Deep.RegionHeld
import Derived.WalkKit
import Derived.KernelRfl
import Derived.Laws.Rows
import Derived.Laws.AppendOwn
import Derived.Laws.Strings
import Derived.Laws.Small
import Derived.Lib.Hide
import Derived.IntWalk
import Derived.Laws.Tables
import Derived.Laws.Concat
import Derived.Laws.MakeOwn
import Derived.Test.YtgjojhmninbkoaaDoorProg
import Derived.Test.YtgjojhmninbkoaaDoorRows
import Derived.Lib.LaidTab
import Derived.Lib.ItoaNum
import Derived.Lib.TrailingZeros
import Derived.Stop.LaidErr
import Derived.WalkSmall
import Derived.LaidMore
import Derived.Shelf.Spec.TrailingZeros
import Derived.Laws.BitsAllLaws
import Derived.Laws.Bits64
import Derived.Deep.QuietTactic
import Derived.BigQuiet
import Derived.RegionTactic
import Derived.BigRegion
import Derived.Deep.RegionHeld3
import Derived.ChangeAlike
import Derived.RangeFuncNested
import Derived.RangeFuncBound
import Derived.RangeFuncCalls
import Derived.RangeFuncLeaves
import Derived.Shelf.Abstract
import Derived.Shelf.RegionOpen
import Derived.OwnWalkIn
import Derived.TacticsInMore
import Derived.LoopNIn
import Derived.LoopIn
import Derived.Laws.Bits128
import Derived.Deep.AppendLies
import Derived.Shelf.Strconv.Itoa0
import Derived.Shelf.Strconv.Itoa1
import Derived.Shelf.LaysM
import Derived.Shelf.Strconv.Itoa2
import Derived.Shelf.Strconv.AppendUint10
import Derived.Shelf.Strconv.AppendInt10
import Derived.Shelf.Strconv.AppendIntPublic10
import Derived.Shelf.Slices.Reverse
import Derived.Ground.Names2Prog
import Derived.Shelf.Slices.Clone
import Derived.Shelf.Slices.Cells
import Derived.Sort.Grow
import Derived.Maps.AppendAt
import Derived.Lib.OthersKept
import Derived.Laws.IdiomStrings
import Derived.StillTailTactics
import Derived.Deep.RegionLaw
import Derived.Deep.DeepCutAuto
import Derived.Deep.CutRange
import Derived.Deep.RegionWith
import Derived.Laws.Bits64b
import Derived.Deep.DrawnRows
import Derived.Lib.SliceRun
import Derived.Laws.OwnMore
import Derived.OwnWalk
import Derived.WalkSpells
import Derived.Lib.Join
import Derived.Lib.OwnBridge
import Derived.WideKeyEntry
import Derived.DeepKeys4
import Derived.Lib.AppendZeros
import Derived.Lib.ItoaLen
import Derived.Lib.UnsafeStr
import Derived.Lib.AppendIntMem
import Derived.Deep.Slices
import Derived.Deep.Fields
import Derived.ChangeSame
import Derived.Test.YtgjojhmninbkoaaDoorEnA
import Derived.Test.YtgjojhmninbkoaaDoorEnB
import Derived.Test.YtgjojhmninbkoaaDoorEnC
set_option maxRecDepth 100000
set_option maxHeartbeats 4000000
set_option linter.unusedVariables false
set_option linter.unusedVariables false
set_option linter.unusedSimpArgs false
set_option linter.unusedSectionVars false
set_option linter.unnecessarySimpa false
namespace Go.Proofs.YtgjojhmninbkoaaDoor
open Go Go.RowKit
section
variable {P : Program} {ops : Array Oper} {Q : Exit → Act → World → Prop} {σ : Type}
structure RInvF (fr : Nat → Bool) (ops : Array Oper) (t0 : Array Value) (d0 : List Deferred) (G : σ → World → Prop) (I : σ → Nat → Value → World → Prop) (V : σ → Array Bool → Prop) (s : σ) (L : Array Bool) (a : Act) (w : World) : Prop where
 size : a.tmps.size = t0.size
 defers : a.defers = d0
 frame : ∀ t, fr t = true → a.tmps.getD t undef = t0.getD t undef
 glob : G s w
 cons : V s L
 done : ∀ i d, (ops[i]?).bind (·.dst) = some d → L.getD i false = true → I s i (a.tmps.getD d undef) w
def GStepF (P : Program) (fr : Nat → Bool) (ops : Array Oper) (Q : Exit → Act → World → Prop) (t0 : Array Value) (G : σ → World → Prop) (I : σ → Nat → Value → World → Prop) (V : σ → Array Bool → Prop) (i : Nat) : Prop :=
 ∀ s L (a : Act) w, (∀ t, fr t = true → a.eval (.tmp t) = t0.getD t undef) → G s w → V s L → L.size = ops.size → ClosedG ops L → ReadyG ops L i → (∀ j d, waitsFor ops i j d = true → I s j (a.eval (.tmp d)) w) →
  wpOp P ops Q i (fun a' w' => ∃ s' v, a' = a.put ((ops[i]?).bind (·.dst)) v ∧ V s' (L.setIfInBounds i true) ∧ G s' w' ∧ (∀ d, (ops[i]?).bind (·.dst) = some d → I s' i v w') ∧ (∀ j d, j ≠ i → (ops[j]?).bind (·.dst) = some d → I s j (a.tmps.getD d undef) w → I s' j (a.tmps.getD d undef) w')) a w
theorem region_ghostF {fr : Nat → Bool} {t0 : Array Value} {d0 : List Deferred} {G : σ → World → Prop} {I : σ → Nat → Value → World → Prop} {V : σ → Array Bool → Prop} {k : Nat} (hfr : ∀ i d, i < k → (ops[i]?).bind (·.dst) = some d → fr d = false) (hk : k < ops.size) (hl : tailT ops k = true) (ht : tidyR ops t0.size = true)
  (hstep : ∀ i, i < k → GStepF P fr ops Q t0 G I V i)
  (hfin : ∀ s L a w, RInvF fr ops t0 d0 G I V s L a w → (∀ i, i < k → L.getD i false = true) → (∀ i, k ≤ i → L.getD i false = false) → wpList P ops Q (ops.toList.drop k) a w) :
  ∀ (fuel : Nat) (s : σ) (L : Array Bool) (a : Act) (w : World), L.size = ops.size → L.toList.count false ≤ fuel → ClosedG ops L → (∀ i, k ≤ i → L.getD i false = false) → RInvF fr ops t0 d0 G I V s L a w → wpAny P .any ops Q fuel L a w := by
 intro fuel
 induction fuel with
 | zero =>
  intro s L a w hs hc hcl hn h
  have := cnt_set _ _ (cnt_getD (by omega) (hn k (Nat.le_refl _)))
  omega
 | succ fuel ih =>
  intro s L a w hs hc hcl hn h
  by_cases hall : ∀ i, i < k → L.getD i false = true
  ·have hcnt : ops.size - k ≤ L.toList.count false := by
    have key : ∀ (l : List Bool) (k : Nat), (∀ i, k ≤ i → i < l.length → l[i]? = some false) → l.length - k ≤ l.count false := by
     intro l
     induction l with
     | nil => intro k _; simp
     | cons b l ihl =>
      intro k hk
      cases k with
      | zero =>
       have h0 := hk 0 (Nat.le_refl _) (by simp)
       simp at h0; subst h0
       have := ihl 0 (fun i _ hi => by have := hk (i + 1) (by omega) (by simpa using hi); simpa using this)
       simp at this ⊢; omega
      | succ k =>
       have := ihl k (fun i hi hi2 => by have := hk (i + 1) (by omega) (by simpa using hi2); simpa using this)
       rw [List.count_cons]; simp; omega
    have := key L.toList k (fun i h1 h2 => cnt_getD (by simpa using h2) (hn i h1))
    simpa [hs] using this
   exact tail_run (fun _ _ => trivial) hl ht (ops.size - k) k (fuel + 1) L a w (by omega) (Nat.le_refl _) (by omega) hs hcl hall hn (hfin s L a w h hall hn)
  ·refine ⟨fun hr => ?_, fun i hi => ?_⟩
   ·exfalso; apply hall
    intro i hi
    have h1 := ready_nil ht hs hr i (by omega)
    rw [Array.getD_eq_getD_getElem?, Array.getElem?_eq_getElem (by omega)] at h1 ⊢
    simpa using h1
   ·obtain ⟨his, hr⟩ := ready_g hi hs
    have hik : i < k := by
     rcases Nat.lt_or_ge i k with h1 | h1
     ·exact h1
     ·exfalso; apply hall
      intro x hx
      exact ready_early hcl hr x (tail_early hl his h1 (by omega))
    have hc1 := cnt_set _ _ (cnt_getD (by omega) hr.1)
    refine wpOp_mono ?_ (hstep i hik s L a w (fun t ht => h.frame t ht) h.glob h.cons hs hcl hr (fun j d hw => ?_))
    ·rintro a' w' ⟨s', v, rfl, hV, hG, hI, hst⟩
     refine ih s' _ _ _ (by simpa using hs) ?_ (hcl.next hr (by omega)) (fun x hx => by rw [getD_set_ne false (by omega)]; exact hn x hx) ⟨by rw [put_size]; exact h.size, by rw [put_defers]; exact h.defers, fun t hf => ?_, hG, hV, fun j d hd hj => ?_⟩
     ·rw [Array.toList_setIfInBounds]; omega
     ·rw [put_other ?_]
      ·exact h.frame t hf
      ·intro hd
       rw [hfr i t hik hd] at hf; cases hf
     ·by_cases hji : j = i
      ·subst hji
       rw [put_at hd (by rw [h.size]; exact (tidy_dst ht hd).1)]
       exact hI d hd
      ·rw [getD_set_ne false (Ne.symm hji)] at hj
       rw [put_other (fun e => hji ((tidy_dst ht e).2 j hd))]
       exact hst j d hji hd (h.done j d hd hj)
    ·have hj : j ∈ aft ops i := by
      unfold waitsFor at hw
      unfold aft
      cases ho : ops[i]? with
      | none => simp [ho] at hw
      | some o =>
       simp only [ho, Bool.and_eq_true, beq_iff_eq] at hw
       obtain ⟨e, he, h2⟩ := Array.any_eq_true'.1 hw.1
       simp only [Bool.and_eq_true, beq_iff_eq] at h2
       exact List.mem_map.2 ⟨e, List.mem_filter.2 ⟨Array.mem_toList_iff.2 he, h2.2⟩, h2.1⟩
     have hd : (ops[j]?).bind (·.dst) = some d := by
      unfold waitsFor at hw
      rw [Bool.and_eq_true, beq_iff_eq] at hw
      exact hw.2
     exact h.done j d hd (hr.2 j hj)
end
abbrev Sy := Nat → Option Value
def upd (s : Sy) (i : Nat) (v : Value) : Sy := fun j => bif Nat.beq j i then some v else s j
theorem upd_at (s : Sy) (i : Nat) (v : Value) : upd s i v i = some v := by unfold upd; rw [Nat.beq_refl]; rfl
theorem upd_ne (s : Sy) {i j : Nat} (v : Value) (h : j ≠ i) : upd s i v j = s j := by
 unfold upd
 cases hb : Nat.beq j i with
 | true => exact absurd (Nat.eq_of_beq_eq_true hb) h
 | false => rfl
def isE (s : Sy) (e : Nat) : Asr := fun v _ => s e = some v
def LS (E : List Nat) (s : Sy) : Nat → List Asr → List Asr
 | _, [] => []
 | j, q :: L => (bif E.contains j then isE s j else q) :: LS E s (j + 1) L
theorem atI_LS {E : List Nat} {s : Sy} : ∀ (L : List Asr) (j i : Nat), i < L.length → atI (LS E s j L) i = (bif E.contains (i + j) then isE s (i + j) else atI L i)
 | [], j, i, h => by simp at h
 | q :: L, j, 0, h => by rw [Nat.zero_add]; rfl
 | q :: L, j, i + 1, h => by
  show atI (LS E s (j + 1) L) i = _
  rw [atI_LS L (j + 1) i (by simpa using h), show i + 1 + j = i + (j + 1) by omega]
  rfl
theorem LS_length {E : List Nat} {s : Sy} : ∀ (L : List Asr) (j : Nat), (LS E s j L).length = L.length
 | [], _ => rfl
 | q :: L, j => by show (LS E s (j + 1) L).length + 1 = _; rw [LS_length L (j + 1)]; rfl
theorem at_n {E : List Nat} {s : Sy} {L : List Asr} {j : Nat} {p : Asr} (hl : Nat.blt j L.length = true) (he : E.contains j = false) (h : atI L j = p) : atI (LS E s 0 L) j = p := by
 rw [atI_LS L 0 j (Nat.lt_of_lt_of_le (Nat.lt_succ_self _) (Nat.le_of_ble_eq_true hl)), Nat.add_zero, he, cond_false, h]
structure AB where
 a : Nat
 T : TypeId
 zs : List Value
 st : Nat
def blkNo : Value → Nat
 | .pointer (some p) => p.block
 | _ => 0
def AB.cs (q : AB) (s : Sy) : List Value := match s q.st with | none => q.zs | some y => splice q.zs 0 y.cells.toList
def AS (al : List AB) (s : Sy) : Own := al.flatMap fun q => match s q.a with | some v => [(blkNo v, q.cs s, q.T)] | none => []
theorem AS_none (al : List AB) : AS al (fun _ => none) = [] := by
 unfold AS
 induction al with
 | nil => rfl
 | cons q al ih => rw [List.flatMap_cons, ih]; rfl
theorem AS_cons (q : AB) (al : List AB) (s : Sy) : AS (q :: al) s = (match s q.a with | some v => [(blkNo v, q.cs s, q.T)] | none => []) ++ AS al s := rfl
theorem AB.cs_upd {q : AB} {s : Sy} {i : Nat} {v : Value} (h : q.st ≠ i) : q.cs (upd s i v) = q.cs s := by unfold AB.cs; rw [upd_ne _ _ h]
theorem AS_other {s : Sy} {i : Nat} {v : Value} : ∀ {al : List AB}, (∀ q ∈ al, q.a ≠ i) → (∀ q ∈ al, q.st ≠ i) → AS al (upd s i v) = AS al s
 | [], _, _ => rfl
 | q :: al, h1, h2 => by
  rw [AS_cons, AS_cons, AS_other (fun x hx => h1 x (List.mem_cons_of_mem _ hx)) (fun x hx => h2 x (List.mem_cons_of_mem _ hx)), upd_ne _ _ (h1 q List.mem_cons_self), AB.cs_upd (h2 q List.mem_cons_self)]
theorem AS_alloc {s : Sy} {i : Nat} {v : Value} (hs : s i = none) : ∀ {al : List AB} {q : AB}, q ∈ al → q.a = i → (al.map (·.a)).Nodup → (∀ q ∈ al, q.st ≠ i) → ((blkNo v, q.cs s, q.T) :: AS al s).Perm (AS al (upd s i v))
 | [], _, h, _, _, _ => by cases h
 | x :: al, q, h, hq, hn, hst => by
  rw [List.map_cons, List.nodup_cons] at hn
  rw [AS_cons, AS_cons, AB.cs_upd (hst x List.mem_cons_self)]
  by_cases hx : x.a = i
  ·have hxq : q = x := by
    rcases List.mem_cons.1 h with h | h
    ·exact h
    ·exact absurd (List.mem_map.2 ⟨q, h, by rw [hq, hx]⟩) hn.1
   subst hxq
   rw [AS_other (al := al) (fun y hy e => hn.1 (List.mem_map.2 ⟨y, hy, by rw [e, hx]⟩)) (fun y hy => hst y (List.mem_cons_of_mem _ hy)), hx, upd_at, hs]
   exact List.Perm.refl _
  ·have hm : q ∈ al := by
    rcases List.mem_cons.1 h with h | h
    ·subst h; exact absurd hq hx
    ·exact h
   rw [upd_ne _ _ hx]
   refine List.Perm.trans ?_ (List.Perm.append_left _ (AS_alloc hs hm hq hn.2 (fun y hy => hst y (List.mem_cons_of_mem _ hy))))
   exact List.perm_middle.symm
theorem AS_store {s : Sy} {i : Nat} {v y : Value} (hs : s i = none) : ∀ {al : List AB} {q : AB}, q ∈ al → s q.a = some v → q.st = i → (al.map (·.st)).Nodup → (∀ q ∈ al, q.a ≠ i) → ∃ k, (AS al s)[k]? = some (blkNo v, q.zs, q.T) ∧ AS al (upd s i y) = (AS al s).set k (blkNo v, splice q.zs 0 y.cells.toList, q.T)
 | [], _, h, _, _, _, _ => by cases h
 | x :: al, q, h, hv, hq, hn, ha => by
  rw [List.map_cons, List.nodup_cons] at hn
  rw [AS_cons, AS_cons, upd_ne _ _ (ha x List.mem_cons_self)]
  by_cases hx : x.st = i
  ·have hxq : q = x := by
    rcases List.mem_cons.1 h with h | h
    ·exact h
    ·exact absurd (List.mem_map.2 ⟨q, h, by rw [hq, hx]⟩) hn.1
   subst hxq
   rw [AS_other (al := al) (fun y hy => ha y (List.mem_cons_of_mem _ hy)) (fun y hy e => hn.1 (List.mem_map.2 ⟨y, hy, by rw [e, hx]⟩)), hv]
   refine ⟨0, ?_, ?_⟩
   ·show some (blkNo v, q.cs s, q.T) = _
    unfold AB.cs; rw [hx, hs]
   ·show (blkNo v, q.cs (upd s i y), q.T) :: AS al s = _
    unfold AB.cs; rw [hx, upd_at]; rfl
  ·have hm : q ∈ al := by
    rcases List.mem_cons.1 h with h | h
    ·subst h; exact absurd hq hx
    ·exact h
   obtain ⟨k, h1, h2⟩ := AS_store (y := y) hs hm hv hq hn.2 (fun y hy => ha y (List.mem_cons_of_mem _ hy))
   rw [AB.cs_upd hx, h2]
   refine ⟨(match s x.a with | some v => [(blkNo v, x.cs s, x.T)] | none => [] : Own).length + k, ?_, ?_⟩
   ·rw [List.getElem?_append_right (by omega), Nat.add_sub_cancel_left]; exact h1
   ·rw [List.set_append_right _ _ (by omega), Nat.add_sub_cancel_left]
section
variable {P : Program} {n : Nat} {Q : Exit → Act → World → Prop} {l : Fr} {w0 W : World} {ops opf : Array Oper} {os : List Oper} {K : List (Nat × World)} {L : List Asr} {i : Nat}
variable {Ob : Own} {al : List AB} {G : Sy → Grows} {E : List Nat} {lo : Nat} {s : Sy}
theorem ne_of_nbeq {a b : Nat} (h : (!Nat.beq a b) = true) : a ≠ b := fun e => by rw [e, Nat.beq_refl] at h; cases h
theorem st_ne (h : al.all (fun q => !Nat.beq q.st i) = true) : ∀ q ∈ al, q.st ≠ i := fun q hq => ne_of_nbeq (List.all_eq_true.1 h q hq)
theorem a_ne (h : al.all (fun q => !Nat.beq q.a i) = true) : ∀ q ∈ al, q.a ≠ i := fun q hq => ne_of_nbeq (List.all_eq_true.1 h q hq)
abbrev OY (al : List AB) (Ob : Own) (s : Sy) : Own := AS al s ++ Ob
def GY0 (w0 : World) (K : List (Nat × World)) (lo : Nat) (al : List AB) (Ob : Own) (G : Sy → Grows) (s : Sy) (w : World) : Prop := St w0 (OY al Ob s) (G s) K w ∧ lo ≤ w.heap.size
def GY (w0 : World) (K : List (Nat × World)) (lo : Nat) (al : List AB) (Ob : Own) (G : Sy → Grows) (E : List Nat) (L : List Asr) (s : Sy) (w : World) : Prop := GY0 w0 K lo al Ob G s w ∧ ∀ e ∈ E, ∀ v, s e = some v → AwS lo (XB (OY al Ob s) (G s)) (atI L e) v w
def VY (E : List Nat) (s : Sy) (L : Array Bool) : Prop := (∀ e ∈ E, (L.getD e false = true ↔ (s e).isSome = true)) ∧ ∀ e, e ∉ E → s e = none
def IY (lo : Nat) (al : List AB) (Ob : Own) (G : Sy → Grows) (E : List Nat) (L : List Asr) (s : Sy) (i : Nat) (v : Value) (w : World) : Prop := (i ∈ E → s i = some v) ∧ AwS lo (XB (OY al Ob s) (G s)) (atI L i) v w
structure Kn (ops : Array Oper) (E : List Nat) (i : Nat) (s : Sy) : Prop where
 yes : ∀ e, E.contains e = true → (earlyL ops i).contains e = true → ∃ v, s e = some v
 no : ∀ e, (earlyL ops e).contains i = true → s e = none
 out : ∀ e, E.contains e = false → s e = none
 self : s i = none
def TrY (al : List AB) (Ob : Own) (G : Sy → Grows) (i : Nat) (s s' : Sy) (w w' : World) : Prop := SameX 0 (XB (OY al Ob s) (G s)) w w' ∧ (∀ b, XB (OY al Ob s') (G s') b → XB (OY al Ob s) (G s) b ∨ w.heap.size ≤ b) ∧ ∀ j, j ≠ i → s' j = s j
def SY (P : Program) (n : Nat) (ops opf : Array Oper) (Q : Exit → Act → World → Prop) (l : Fr) (w0 : World) (K : List (Nat × World)) (lo : Nat) (al : List AB) (Ob : Own) (G : Sy → Grows) (E : List Nat) (L : List Asr) (i : Nat) : Prop :=
 ∀ t0, Has n l t0 → ∀ s LB (a : Act) w, (∀ t, freeT opf t = true → a.eval (.tmp t) = t0.tmps.getD t undef) → GY0 w0 K lo al Ob G s w → VY E s LB → LB.size = ops.size → ClosedG ops LB → ReadyG ops LB i → (∀ j d, waitsFor ops i j d = true → IY lo al Ob G E L s j (a.eval (.tmp d)) w) →
  wpOp P ops Q i (fun a' w' => ∃ s' v, a' = a.put ((ops[i]?).bind (·.dst)) v ∧ VY E s' (LB.setIfInBounds i true) ∧ GY0 w0 K lo al Ob G s' w' ∧ TrY al Ob G i s s' w w' ∧ (∀ d, (ops[i]?).bind (·.dst) = some d → IY lo al Ob G E L s' i v w') ∧ (i ∈ E → ∀ y, s' i = some y → AwS lo (XB (OY al Ob s') (G s')) (atI L i) y w')) a w
theorem SY.step (h : SY P n ops opf Q l w0 K lo al Ob G E L i) : ∀ a, Has n l a → GStepF P (freeT opf) ops Q a.tmps (GY w0 K lo al Ob G E L) (IY lo al Ob G E L) (VY E) i := fun t0 h0 s LB a w hF hG hV hs hc hr hD => by
 refine wpOp_mono ?_ (h t0 h0 s LB a w hF hG.1 hV hs hc hr hD)
 rintro a' w' ⟨s', v, h1, h2, h3, ⟨t1, t2, t3⟩, h5, h6⟩
 refine ⟨s', v, h1, h2, ⟨h3, fun e he y hy => ?_⟩, h5, fun j d hji hd hj => ⟨fun hjE => ?_, hj.2.next t1 t2⟩⟩
 ·by_cases hei : e = i
  ·subst hei; exact h6 he y hy
  ·rw [t3 e hei] at hy
   exact (hG.2 e he y hy).next t1 t2
 ·rw [t3 j hji]; exact hj.1 hjE
theorem waits_lt (ht : tidyR ops n = true) {j d : Nat} (hw : waitsFor ops i j d = true) : j < i := by
 cases ho : ops[i]? with
 | none => simp [waitsFor, ho] at hw
 | some o =>
  simp only [waitsFor, ho, Bool.and_eq_true, beq_iff_eq] at hw
  obtain ⟨e, he, h2⟩ := Array.any_eq_true'.1 hw.1
  simp only [Bool.and_eq_true, beq_iff_eq] at h2
  rw [← h2.1]; exact tidy_after ht ho e he h2.2
theorem SY.ext {L1 L2 : List Asr} (ht : tidyR ops n = true) (hag : ∀ j, j ≤ i → atI L1 j = atI L2 j) (h : SY P n ops opf Q l w0 K lo al Ob G E L1 i) : SY P n ops opf Q l w0 K lo al Ob G E L2 i := fun t0 h0 s LB a w hF hG hV hs hc hr hD => by
 have h2 := h t0 h0 s LB a w hF hG hV hs hc hr (fun j d hw => by unfold IY; rw [hag j (Nat.le_of_lt (waits_lt ht hw))]; exact hD j d hw)
 unfold IY at h2
 rw [hag i (Nat.le_refl _)] at h2
 exact h2
theorem kn_of {LB : Array Bool} (hV : VY E s LB) (hs : LB.size = ops.size) (hc : ClosedG ops LB) (hr : ReadyG ops LB i) : Kn ops E i s where
 yes e he h := Option.isSome_iff_exists.1 ((hV.1 e (List.contains_iff_mem.1 he)).1 (ready_early hc hr e (List.contains_iff_mem.1 h)))
 no e h := by
  cases hse : s e with
  | none => rfl
  | some v =>
   have hE : e ∈ E := Decidable.byContradiction fun hn => by rw [hV.2 e hn] at hse; cases hse
   have hd : LB.getD e false = true := (hV.1 e hE).2 (by rw [hse]; rfl)
   have := early_done (D := fun x => LB.getD x false = true) (hc e hd) (fun j hj x hx => hc j hj x hx) i (List.contains_iff_mem.1 h)
   rw [hr.1] at this; cases this
 out e h := hV.2 e (fun hm => by rw [List.contains_iff_mem.2 hm] at h; cases h)
 self := by
  cases hse : s i with
  | none => rfl
  | some v =>
   have hE : i ∈ E := Decidable.byContradiction fun hn => by rw [hV.2 i hn] at hse; cases hse
   have := (hV.1 i hE).2 (by rw [hse]; rfl)
   rw [hr.1] at this; cases this
theorem deps_LS {a : Act} {w : World} (hD : ∀ j d, waitsFor ops i j d = true → IY lo al Ob G E L s j (a.eval (.tmp d)) w) : ∀ j d, waitsFor ops i j d = true → atI (LS E s 0 L) j (a.eval (.tmp d)) w := fun j d hw => by
 rcases Nat.lt_or_ge j L.length with hj | hj
 ·rw [atI_LS L 0 j hj, Nat.add_zero]
  cases hc : E.contains j with
  | true => rw [cond_true]; exact (hD j d hw).1 (List.contains_iff_mem.1 hc)
  | false => rw [cond_false]; exact (hD j d hw).2.here
 ·rw [atI_len (by rw [LS_length]; exact hj)]; trivial
structure Fst (ops opf : Array Oper) : Prop where
 same : ∀ (i : Nat) (o : Oper), opf[i]? = some o → ops[i]? = some o
theorem fst_take {os : List Oper} {k : Nat} : Fst os.toArray (os.take k).toArray := ⟨fun i o h => by
 have h1 : (os.take k)[i]? = some o := by simpa using h
 rw [List.getElem?_take] at h1
 split at h1
 ·simpa using h1
 ·cases h1⟩
theorem Fst.waits (h : Fst ops opf) {i j d : Nat} (hw : waitsFor opf i j d = true) : waitsFor ops i j d = true := by
 unfold waitsFor at hw ⊢
 rw [Bool.and_eq_true] at hw ⊢
 cases ho : opf[i]? with
 | none => simp [ho] at hw
 | some o =>
  rw [ho] at hw
  rw [h.same i o ho]
  refine ⟨hw.1, ?_⟩
  cases hj : opf[j]? with
  | none => simp [hj] at hw
  | some o2 => rw [hj] at hw; rw [h.same j o2 hj]; exact hw.2
variable {d : Nat} {op : Op} {ty : TypeId} {pos : String} {aft_ : Array Edge} {v : Value} {gd : Option (Nat × Bool)}
theorem vy_other {LB : Array Bool} (hV : VY E s LB) (hi : i ∉ E) : VY E s (LB.setIfInBounds i true) :=
 ⟨fun e he => by rw [getD_set_ne false (fun h => hi (by rw [h]; exact he))]; exact hV.1 e he, hV.2⟩
theorem vy_eff {LB : Array Bool} (hV : VY E s LB) (hs : LB.size = ops.size) (hi : i ∈ E) (hlt : i < ops.size) (v : Value) : VY E (upd s i v) (LB.setIfInBounds i true) := by
 refine ⟨fun e he => ?_, fun e he => ?_⟩
 ·by_cases hei : e = i
  ·subst hei
   rw [upd_at, Array.getD_eq_getD_getElem?, Array.getElem?_setIfInBounds_self_of_lt (by omega)]
   exact ⟨fun _ => rfl, fun _ => rfl⟩
  ·rw [upd_ne _ _ hei, getD_set_ne false (Ne.symm hei)]; exact hV.1 e he
 ·rw [upd_ne _ _ (fun h => he (by rw [h]; exact hi))]; exact hV.2 e he
theorem sy_base (hie : E.contains i = false) (hi : ops[i]? = some ⟨some d, op, ty, pos, aft_, gd⟩)
  (h : ∀ (t0 a : Act) s w, Has n l t0 → (∀ t, freeT opf t = true → a.eval (.tmp t) = t0.tmps.getD t undef) → GY0 w0 K lo al Ob G s w → Kn ops E i s → (∀ j d, waitsFor ops i j d = true → IY lo al Ob G E L s j (a.eval (.tmp d)) w) → (∀ j d, waitsFor ops i j d = true → atI (LS E s 0 L) j (a.eval (.tmp d)) w) →
   wpOp P ops Q i (fun a' w' => ∃ v, a' = a.put (some d) v ∧ AwS lo (XB (OY al Ob s) (G s)) (atI L i) v w' ∧ Below w.heap.size w w') a w) : SY P n ops opf Q l w0 K lo al Ob G E L i := fun t0 h0 s LB a w hF hG hV hs hc hr hD => by
 have hie' : i ∉ E := fun h => by rw [List.contains_iff_mem.2 h] at hie; cases hie
 refine wpOp_mono ?_ (h t0 a s w h0 hF hG (kn_of hV hs hc hr) hD (deps_LS hD))
 rintro a' w' ⟨v, rfl, hA, hb⟩
 exact ⟨s, v, by rw [hi]; rfl, vy_other hV hie', ⟨hG.1.grow hb, Nat.le_trans hG.2 hb.size⟩, ⟨sameX_of hb, fun b hb => .inl hb, fun _ _ => rfl⟩, fun _ _ => ⟨fun h => absurd h hie', hA⟩, fun h => absurd h hie'⟩
theorem syV (hf : Fst ops opf) (li : Fr) (hie : E.contains i = false) (hi : ops[i]? = some ⟨some d, op, ty, pos, aft_, gd⟩) (hw : ∀ s, Wants ops (LS E s 0 L) i ⟨some d, op, ty, pos, aft_, gd⟩) (hli : ∀ s, AllO n opf l (LS E s 0 L) i li)
  (hr : ∀ s w, St w0 Ob (G s) K w → Runs P li ⟨some d, op, ty, pos, #[], none⟩ w v w) (hI : atI L i = isV v) : SY P n ops opf Q l w0 K lo al Ob G E L i :=
 sy_base hie hi fun t0 a s w h0 hF hG hk hD hD' => by
  exact wp_val hi ((hw s).yes hD') (by rw [execOp_guard a.eval _ _ _ _ pos _ #[] _ none]; exact hr s w (St.drops _ hG.1) a.eval (allO_has h0 hF (fun j d h => hD' j d (hf.waits h)) (hli s))) ⟨v, rfl, by rw [hI]; exact awS_isV, Below.refl _ _⟩
theorem syP (jd td : Nat) (hie : E.contains i = false) (hi : ops[i]? = some ⟨some d, op, ty, pos, aft_, none⟩) (hwy : waitsFor ops i jd td = true) {p q : Asr} (hL : atI L jd = p)
  (hr : ∀ (ev : Operand → Value) w, p (ev (.tmp td)) w → ∃ v, (execOp ev ⟨some d, op, ty, pos, #[], none⟩).run P w = .ok (.value v) w ∧ ∀ w2, p (ev (.tmp td)) w2 → q v w2) (hI : atI L i = q) : SY P n ops opf Q l w0 K lo al Ob G E L i :=
 sy_base hie hi fun t0 a s w h0 hF hG hk hD hD' => by
  have h1 := (hD jd td hwy).2
  rw [hL] at h1
  obtain ⟨v, h2, h3⟩ := hr a.eval w h1.here
  exact wp_val hi (wanted_free rfl) (by rw [execOp_guard a.eval _ _ _ _ pos _ #[] _ none]; exact h2) ⟨v, rfl, by rw [hI]; exact fun w2 h4 => h3 w2 (h1 w2 h4), Below.refl _ _⟩
theorem sy_call {f : FuncId} {xs : List Operand} {ts : Array TypeId} (hf : Fst ops opf) (ps : Sy → List Asr) (hie : E.contains i = false) (hi : ops[i]? = some ⟨some d, .call { callee := .value (.func f), args := xs.toArray, argTypes := ts }, ty, pos, aft_, gd⟩) (hgo : goesIn P f = true)
  (hw : ∀ s, Wants ops (LS E s 0 L) i ⟨some d, .call { callee := .value (.func f), args := xs.toArray, argTypes := ts }, ty, pos, aft_, gd⟩) (hp : ∀ s, AllP n opf l (LS E s 0 L) i xs (ps s))
  {p : Asr} (hc : ∀ vs s w, Kn ops E i s → St w0 Ob (G s) K w → lo ≤ w.heap.size → Holds (ps s) vs w → Calls P f vs.toArray w (GivesN p w)) (hI : atI L i = p) : SY P n ops opf Q l w0 K lo al Ob G E L i :=
 sy_base hie hi fun t0 a s w h0 hF hG hk hD hD' => by
  have h1 := hc (xs.map a.eval) s w hk (St.drops _ hG.1) hG.2 (allP_holds h0 hF (fun j d h => hD' j d (hf.waits h)) (hp s))
  rw [show (xs.map a.eval).toArray = xs.toArray.map a.eval by simp] at h1
  unfold wpOp
  simp only [hi, (hw s).yes hD', if_true]
  refine .inl ?_
  unfold Oper.wp
  rw [run_call P a.eval w f xs.toArray ts _ rfl rfl hgo, Oper.upon_enter]
  refine h1.mono ?_
  rintro e w' ⟨v, rfl, hv, hb⟩
  refine ⟨v, by simp, ?_, hb⟩
  rw [hI]
  intro w2 h2
  refine hv w2 ⟨h2.2.1, fun b h3 h4 => h2.2.2 b (Nat.le_trans hG.2 h3) h4 (fun hx => ?_)⟩
  rcases hx with ⟨q, hq, rfl⟩ | ⟨g, hg, hgb⟩
  ·have := lt_of_heap (hG.1.own q hq).2; omega
  ·have := (hG.1.glt hg hgb).2; omega
theorem sy_eff {o : Oper} (hie : E.contains i = true) (hi : ops[i]? = some o)
  (h : ∀ (t0 a : Act) s w, Has n l t0 → (∀ t, freeT opf t = true → a.eval (.tmp t) = t0.tmps.getD t undef) → GY0 w0 K lo al Ob G s w → Kn ops E i s → (∀ j d, waitsFor ops i j d = true → IY lo al Ob G E L s j (a.eval (.tmp d)) w) → (∀ j d, waitsFor ops i j d = true → atI (LS E s 0 L) j (a.eval (.tmp d)) w) →
   wpOp P ops Q i (fun a' w' => ∃ v y, a' = a.put o.dst v ∧ (∀ d, o.dst = some d → v = y) ∧ St w0 (OY al Ob (upd s i y)) (G (upd s i y)) K w' ∧ SameX 0 (XB (OY al Ob s) (G s)) w w' ∧ (∀ b, XB (OY al Ob (upd s i y)) (G (upd s i y)) b → XB (OY al Ob s) (G s) b ∨ w.heap.size ≤ b) ∧ AwS lo (XB (OY al Ob (upd s i y)) (G (upd s i y))) (atI L i) y w') a w) : SY P n ops opf Q l w0 K lo al Ob G E L i := fun t0 h0 s LB a w hF hG hV hs hc hr hD => by
 have hie' : i ∈ E := List.contains_iff_mem.1 hie
 refine wpOp_mono ?_ (h t0 a s w h0 hF hG (kn_of hV hs hc hr) hD (deps_LS hD))
 rintro a' w' ⟨v, y, rfl, hvy, hSt, hsame, hX, hA⟩
 refine ⟨upd s i y, v, by rw [hi]; rfl, vy_eff hV hs hie' (Array.getElem?_eq_some_iff.1 hi).1 y, ⟨hSt, Nat.le_trans hG.2 hsame.2.1⟩, ⟨hsame, hX, fun j hj => upd_ne _ _ hj⟩, fun d hd => ?_, fun _ y2 h2 => ?_⟩
 ·rw [hi] at hd
  have e := hvy d hd
  subst e
  exact ⟨fun _ => upd_at _ _ _, hA⟩
 ·rw [upd_at] at h2; cases h2; exact hA
def isPtr (lo : Nat) : Asr := fun v _ => ∃ B, v = .pointer (some ⟨B, 0, none⟩) ∧ lo ≤ B
theorem sy_alloc {T : TypeId} {z : Value} (q : AB) (hie : E.contains i = true) (hi : ops[i]? = some ⟨some d, .alloc T, ty, pos, aft_, none⟩) (hz : ∀ w, (zeroValue T).run P w = .ok z w) (hq : q ∈ al) (hqa : q.a = i) (hqT : q.T = T) (hqz : z.cells = q.zs.toArray) (hqs : (earlyL ops q.st).contains i = true ∨ E.contains q.st = false)
  (hn : (al.map (·.a)).Nodup) (hst_ : al.all (fun q => !Nat.beq q.st i) = true) (hG : ∀ s v, G (upd s i v) = G s) (hL : atI L i = isPtr lo) : SY P n ops opf Q l w0 K lo al Ob G E L i :=
 sy_eff hie hi fun t0 a s w h0 hF hg hk hD hD' => by
  have hst := st_ne hst_
  have hcs : q.cs s = q.zs := by
   unfold AB.cs
   rw [show s q.st = none from hqs.elim (fun h => hk.no _ h) (fun h => hk.out _ h)]
  have hB : Below w.heap.size w (w.alloc (.cells q.zs.toArray T)) := (Below.refl _ _).alloc (Nat.le_refl _) _
  have hperm := AS_alloc (v := .pointer (some ⟨w.heap.size, 0, none⟩)) hk.self hq hqa hn hst
  rw [hcs, hqT] at hperm
  have h1 := hg.1.alloc q.zs T
  have hSt := h1.perm (O' := OY al Ob (upd s i (.pointer (some ⟨w.heap.size, 0, none⟩)))) (List.Perm.append_right Ob hperm)
  refine wp_val hi rfl (v := .pointer (some ⟨w.heap.size, 0, none⟩)) (w' := w.alloc (.cells q.zs.toArray T)) (by unfold execOp; simp only []; simp [Instr.alloc, newVar, newRow, hz, hqz]) ⟨_, _, rfl, fun _ _ => rfl, by rw [hG]; exact hSt, sameX_of hB, fun b hb => ?_, by rw [hL]; exact fun _ _ => ⟨_, rfl, hg.2⟩⟩
  rw [hG] at hb
  rcases hb with ⟨p, hp, rfl⟩ | h
  ·have hp2 := (List.Perm.append_right Ob hperm).mem_iff.2 hp
   rw [List.cons_append] at hp2
   rcases List.mem_cons.1 hp2 with rfl | hp2
   ·exact .inr (Nat.le_refl _)
   ·exact .inl (.inl ⟨p, hp2, rfl⟩)
  ·exact .inl (.inr h)
theorem sy_store {T : TypeId} {tx tyy m jy : Nat} {py : Asr} (q : AB) (hie : E.contains i = true) (hi : ops[i]? = some ⟨none, .store T (.tmp tx) (.tmp tyy), ty, pos, aft_, none⟩) (hq : q ∈ al) (hqs : q.st = i) (hqa : E.contains q.a = true) (hwx : waitsFor ops i q.a tx = true) (hLa : atI L q.a = isPtr lo) (hwy : waitsFor ops i jy tyy = true) (hLy : atI L jy = py) (hL : atI L i = py)
  (hsz : ∀ w, (sizeOf T).run P w = .ok m w) (hzl : Nat.ble m q.zs.length = true) (hpy : ∀ v w, py v w → ∃ vs : List Value, v.cells = vs.toArray ∧ vs.length = m ∧ vs.all Value.oneCell' = true)
  (hn : (al.map (·.st)).Nodup) (hst_ : al.all (fun q => !Nat.beq q.a i) = true) (hG : ∀ s v, G (upd s i v) = G s) : SY P n ops opf Q l w0 K lo al Ob G E L i :=
 sy_eff hie hi fun t0 a s w h0 hF hg hk hD hD' => by
  have hst := a_ne hst_
  have hx := hD q.a tx hwx
  have hsa := hx.1 (List.contains_iff_mem.1 hqa)
  have hptr := hx.2.here
  rw [hLa] at hptr
  obtain ⟨B, ex, hBlo⟩ := hptr
  have hy := (hD jy tyy hwy).2
  rw [hLy] at hy
  obtain ⟨vs, hc, hl, h1⟩ := hpy _ _ hy.here
  obtain ⟨k, hk1, hk2⟩ := AS_store (y := a.eval (.tmp tyy)) hk.self hq hsa hqs hn hst
  rw [ex] at hk1 hk2
  have hbn : blkNo (.pointer (some ⟨B, 0, none⟩)) = B := rfl
  rw [hbn] at hk1 hk2
  have hOk : (OY al Ob s)[k]? = some (B, q.zs, q.T) := by
   have := (List.getElem?_eq_some_iff.1 hk1).1
   unfold OY
   rw [List.getElem?_append_left this]; exact hk1
  have hXB : XB (OY al Ob s) (G s) B := .inl ⟨_, List.mem_of_getElem? hOk, rfl⟩
  have hrun := storeAt_many (P := P) hsz hc hl h1 (hg.1.at_ k hOk) (j := 0) (by have := Nat.le_of_ble_eq_true hzl; omega)
  have hO' : OY al Ob (upd s i (a.eval (.tmp tyy))) = (OY al Ob s).set k (B, splice q.zs 0 vs, q.T) := by
   unfold OY
   rw [hk2, List.set_append_left _ _ (List.getElem?_eq_some_iff.1 hk1).1, hc]
  have hX : ∀ b, XB (OY al Ob (upd s i (a.eval (.tmp tyy)))) (G (upd s i (a.eval (.tmp tyy)))) b → XB (OY al Ob s) (G s) b := by
   rw [hG]
   rintro b (⟨p, hp, rfl⟩ | h)
   ·rw [hO'] at hp
    rcases List.mem_or_eq_of_mem_set hp with hp | rfl
    ·exact .inl ⟨p, hp, rfl⟩
    ·exact hXB
   ·exact .inr h
  have hsame : SameX 0 (XB (OY al Ob s) (G s)) w (setMany w B 0 vs) := setMany_sameX hXB
  refine wp_store hi rfl rfl rfl (by rw [ex]; exact hrun) ⟨undef, a.eval (.tmp tyy), rfl, (fun d hd => by cases hd), ?_, hsame, fun b hb => .inl (hX b hb), ?_⟩
  ·rw [hG, hO']
   exact hg.1.setMany k vs 0 hOk
  ·rw [hL]
   exact hy.next hsame (fun b hb => .inl (hX b hb))
def BLY (P : Program) (n : Nat) (ops opf : Array Oper) (Q : Exit → Act → World → Prop) (l : Fr) (w0 : World) (K : List (Nat × World)) (lo : Nat) (al : List AB) (Ob : Own) (G : Sy → Grows) (E : List Nat) (Goal : List Asr → Prop) : Nat → List Asr → Nat → Prop
 | 0, Lr, _ => Goal Lr
 | m + 1, Lr, k => ∃ q, SY P n ops opf Q l w0 K lo al Ob G E (q :: Lr).reverse k ∧ BLY P n ops opf Q l w0 K lo al Ob G E Goal m (q :: Lr) (k + 1)
variable {Goal : List Asr → Prop}
theorem bly_nil {Lr : List Asr} {k : Nat} (h : Goal Lr) : BLY P n ops opf Q l w0 K lo al Ob G E Goal 0 Lr k := h
theorem bly_cons {m k : Nat} {Lr : List Asr} (k' : Nat) (hk : k + 1 = k') (q : Asr) (h : SY P n ops opf Q l w0 K lo al Ob G E (q :: Lr).reverse k) (hr : BLY P n ops opf Q l w0 K lo al Ob G E Goal m (q :: Lr) k') : BLY P n ops opf Q l w0 K lo al Ob G E Goal (m + 1) Lr k := by
 subst hk; exact ⟨q, h, hr⟩
theorem bly_run (ht : tidyR ops n = true) : ∀ (m k : Nat) (Lr : List Asr), Lr.length = k → (∀ i, i < k → SY P n ops opf Q l w0 K lo al Ob G E Lr.reverse i) → BLY P n ops opf Q l w0 K lo al Ob G E Goal m Lr k →
  ∃ Lr', Lr'.length = k + m ∧ (∀ i, i < k + m → SY P n ops opf Q l w0 K lo al Ob G E Lr'.reverse i) ∧ Goal Lr'
 | 0, k, Lr, hl, hg, h => ⟨Lr, hl, hg, h⟩
 | m + 1, k, Lr, hl, hg, ⟨q, hr, hn⟩ => by
  have hap : ∀ j, j < k → atI Lr.reverse j = atI (q :: Lr).reverse j := fun j hj => by rw [List.reverse_cons, atI_append (by simp; omega)]
  obtain ⟨L', h1, h3, h4⟩ := bly_run ht m (k + 1) (q :: Lr) (by simp [hl]) (fun i hi => by
   by_cases hik : i = k
   ·subst hik; exact hr
   ·exact SY.ext ht (fun j hj => hap j (by omega)) (hg i (by omega))) hn
  exact ⟨L', by omega, fun i hi => h3 i (by omega), h4⟩
def finY (E : List Nat) (lo : Nat) (X : Nat → Prop) (s : Sy) : Nat → List Asr → List Asr
 | _, [] => []
 | j, q :: L => (bif E.contains j then isE s j else AwS lo X q) :: finY E lo X s (j + 1) L
theorem atI_finY {X : Nat → Prop} : ∀ (L : List Asr) (j i : Nat), i < L.length → atI (finY E lo X s j L) i = (bif E.contains (i + j) then isE s (i + j) else AwS lo X (atI L i))
 | [], j, i, h => by simp at h
 | q :: L, j, 0, h => by rw [Nat.zero_add]; rfl
 | q :: L, j, i + 1, h => by
  show atI (finY E lo X s (j + 1) L) i = _
  rw [atI_finY L (j + 1) i (by simpa using h), show i + 1 + j = i + (j + 1) by omega]
  rfl
theorem regY {id k : Nat} {ds : List Nat} {G0 : Grows} (hm : P.follows .mixedOrders = true) (hlo : lo = W.heap.size) (hS : St w0 Ob G0 K W) (hG0 : G (fun _ => none) = G0) (hk : Nat.blt k os.length = true) (htl : tailT os.toArray k = true) (ht : tidyR os.toArray n = true) (hE : E.all (fun a => Nat.blt a k) = true)
  (hdst : (List.range k).all (fun j => E.contains j || ((os.toArray[j]?).bind (·.dst)).isSome) = true) (hds : (os.drop k).all (fun o => match o.dst with | some d => ds.contains d | none => true) = true)
  (h : BLY P n os.toArray (os.take k).toArray Q l w0 K lo al Ob G E (fun Lr => ∀ (s : Sy) (W' : World) (Ks : List (Nat × World)), (∀ e, E.contains e = true → ∃ v, s e = some v) → W.heap.size ≤ W'.heap.size → (∀ q ∈ Ks, lo ≤ q.1) → St w0 (OY al Ob s) (G s) (Ks ++ K) W' →
   (∀ {O2 G2 K2 W2}, St w0 O2 G2 K2 W2 → (∀ q ∈ Ks, q ∈ K2) → SameX lo (XB (OY al Ob s) (G s)) W' W2) → (∀ e, E.contains e = true → ∀ v, s e = some v → AwS lo (XB (OY al Ob s) (G s)) (atI Lr.reverse e) v W') → (∀ e, E.contains e = false → s e = none) →
   FinI (os.take k) (finY E lo (XB (OY al Ob s) (G s)) s 0 Lr.reverse) (dropF ds l) (fun l' W' => OpsF P n os.toArray Q (os.drop k) l' W') W') k [] 0) : CodeF P n (.region id os.toArray true) Q l W := by
 obtain ⟨Lr, h1, h2, hfin⟩ := bly_run ht k 0 [] rfl (fun i hi => by omega) h
 rw [Nat.zero_add] at h1 h2
 have hk' : k < os.length := Nat.lt_of_lt_of_le (Nat.lt_succ_self _) (Nat.le_of_ble_eq_true hk)
 have hE' : ∀ a ∈ E, a < k := fun a ha => Nat.lt_of_lt_of_le (Nat.lt_succ_self _) (Nat.le_of_ble_eq_true (List.all_eq_true.1 hE a ha))
 intro a ha
 have hrep : ∀ (m j : Nat), (Array.replicate m false).getD j false = false := fun m j => by
  rw [Array.getD_eq_getD_getElem?, Array.getElem?_replicate]; split <;> rfl
 refine wp_region_any hm (region_ghostF (fr := freeT (os.take k).toArray) (t0 := a.tmps) (d0 := a.defers) (V := VY E) (I := IY lo al Ob G E Lr.reverse) (G := GY w0 K lo al Ob G E Lr.reverse) (k := k) (fun i d hik hd => ?_) (by simpa using hk') htl (by rw [ha.size]; exact ht) (fun i hi => (h2 i hi).step a ha) ?_ _ (fun _ => none) _ _ _ (by simp) (count_rep _) (fun j hj => by rw [hrep] at hj; cases hj) (fun i _ => hrep _ _) ⟨rfl, rfl, fun _ _ => rfl, ⟨⟨by unfold OY; rw [AS_none, hG0]; exact hS.drew, by rw [hlo]; exact Nat.le_refl _⟩, fun _ _ _ h => (by cases h)⟩, ⟨fun e he => ⟨fun h3 => (by rw [hrep] at h3; cases h3), fun h3 => (by cases h3)⟩, fun _ _ => rfl⟩, fun i d _ hj => (by rw [hrep] at hj; cases hj)⟩)
 ·have hd2 : (os[i]?).bind (·.dst) = some d := by simpa using hd
  obtain ⟨o, ho, hod⟩ := Option.bind_eq_some_iff.1 hd2
  have hm2 : o ∈ os.take k := List.mem_of_getElem? (i := i) (by rw [List.getElem?_take, if_pos hik]; exact ho)
  cases hf : freeT (os.take k).toArray d with
  | false => rfl
  | true =>
   unfold freeT at hf
   have := Array.all_eq_true'.1 hf o (by simpa using hm2)
   rw [hod] at this
   simp at this
 intro s LB a' W' hR hdone hnot
 obtain ⟨⟨hG, hG2⟩, hG3⟩ := hR.glob
 obtain ⟨v1, v2⟩ := hR.cons
 have hall : ∀ e, E.contains e = true → ∃ v, s e = some v := fun e he => Option.isSome_iff_exists.1 ((v1 e (List.contains_iff_mem.1 he)).1 (hdone e (hE' e (List.contains_iff_mem.1 he))))
 obtain ⟨Ks, c1, ⟨qw, c2, c3⟩, c4⟩ := cuts (((OY al Ob s).map (·.1)) ++ (G s).filterMap (fun g => g.v.ownBlock)) lo W'
 have hG4 := hG.more Ks (fun q hq => ⟨(c1 q hq).2.1, fun p hp => (c1 q hq).2.2 p.1 (List.mem_append_left _ (List.mem_map.2 ⟨p, hp, rfl⟩)), fun g hg b hb => (c1 q hq).2.2 b (List.mem_append_right _ (List.mem_filterMap.2 ⟨g, hg, hb⟩))⟩)
 have hcov : ∀ {O2 G2 K2 W2}, St w0 O2 G2 K2 W2 → (∀ q ∈ Ks, q ∈ K2) → SameX lo (XB (OY al Ob s) (G s)) W' W2 := fun {O2 G2 K2 W2} h2 hq => by
  refine ⟨⟨h2.below.os.trans hG.below.os.symm, h2.below.tape.trans hG.below.tape.symm, h2.below.output.trans hG.below.output.symm⟩, ?_, fun b b1 b2 b3 => ?_⟩
  ·have := (h2.kept qw (hq qw c2)).1.1; rw [c3] at this; exact this
  ·obtain ⟨q, q1, q2, q3⟩ := c4 b b1 b2 (fun hb => b3 (by
    rcases List.mem_append.1 hb with hb | hb
    ·obtain ⟨p, hp, rfl⟩ := List.mem_map.1 hb
     exact .inl ⟨p, hp, rfl⟩
    ·obtain ⟨g, hg, e⟩ := List.mem_filterMap.1 hb
     exact .inr ⟨g, hg, e⟩))
   exact ((h2.kept q (hq q q1)).1.2 b q2 q3).trans ((c1 q q1).2.1.2 b q2 q3).symm
 have htk : (os.take k).length = k := by simp; omega
 refine fin_hasS (os.take k) (finY E lo (XB (OY al Ob s) (G s)) s 0 Lr.reverse) (dropF ds l) (fun i d hi hd' => ?_) (fun i hi hd' => ?_) (hR.size.trans ha.size) (hR.defers.trans ha.defers) ?_ (fun l' h ha' => ?_) (hfin s W' Ks hall (by rw [← hlo]; exact hG2) (fun q hq => (c1 q hq).1) hG4 hcov (fun e he v hv => hG3 e (List.contains_iff_mem.1 he) v hv) (fun e he => v2 e (fun hm => by rw [List.contains_iff_mem.2 hm] at he; cases he)))
 ·have hik : i < k := by omega
  have hd2 : (os.toArray[i]?).bind (·.dst) = some d := by rw [List.getElem?_take, if_pos hik] at hd'; simpa using hd'
  obtain ⟨i1, i2⟩ := hR.done i d hd2 (hdone i hik)
  rw [atI_finY Lr.reverse 0 i (by simp; omega), Nat.add_zero]
  cases hc1 : E.contains i with
  | true => rw [cond_true]; exact i1 (List.contains_iff_mem.1 hc1)
  | false => rw [cond_false]; exact i2
 ·have hik : i < k := by omega
  have h3 := List.all_eq_true.1 hdst i (List.mem_range.2 hik)
  have hd2 : (os.toArray[i]?).bind (·.dst) = none := by rw [List.getElem?_take, if_pos hik] at hd'; simpa using hd'
  rw [hd2] at h3
  have hc : E.contains i = true := by simpa using h3
  rw [atI_finY Lr.reverse 0 i (by simp; omega), Nat.add_zero, hc, cond_true]
  exact hall i hc
 ·intro t v hv hno
  have hl := look_dropF hv (look_dropF_not hv)
  rw [hR.frame t ?_]
  ·exact ha.at_ t v hl
  ·unfold freeT; rw [Array.all_eq_true']; intro o' ho'
   have ho2 : o' ∈ os.take k := by simpa using ho'
   simpa using hno o' ho2
 ·have := h a' ha'
  simpa using this
end
end Go.Proofs.YtgjojhmninbkoaaDoor
namespace Go.Proofs.YtgjojhmninbkoaaDoor
open Go Go.RowKit
section
variable {P : Program} {n : Nat} {Q : Exit → Act → World → Prop} {l : Fr} {w0 W : World} {ops opf : Array Oper} {os : List Oper} {K : List (Nat × World)} {L : List Asr} {i : Nat}
variable {O : Own} {Gs : List Value → Grows} {efs : List Nat} {lo : Nat} {s : List Value}
def GCF (w0 : World) (K : List (Nat × World)) (lo : Nat) (O : Own) (Gs : List Value → Grows) (s : List Value) (w : World) : Prop := St w0 O (Gs s) K w ∧ lo ≤ w.heap.size
def VCF (efs : List Nat) (s : List Value) (L : Array Bool) : Prop := s.length ≤ efs.length ∧ ∀ k e, efs[k]? = some e → (L.getD e false = true ↔ k < s.length)
def ICF (efs : List Nat) (lo : Nat) (O : Own) (Gs : List Value → Grows) (L : List Asr) (s : List Value) (i : Nat) (v : Value) (w : World) : Prop := (∀ k : Nat, efs[k]? = some i → s[k]? = some v) ∧ (i ∉ efs → AwS lo (XB O (Gs s)) (atI L i) v w)
def SCF (P : Program) (n : Nat) (ops opf : Array Oper) (Q : Exit → Act → World → Prop) (l : Fr) (w0 : World) (K : List (Nat × World)) (lo : Nat) (O : Own) (Gs : List Value → Grows) (efs : List Nat) (L : List Asr) (i : Nat) : Prop :=
 ∀ t0, Has n l t0 → ∀ s LB (a : Act) w, (∀ t, freeT opf t = true → a.eval (.tmp t) = t0.tmps.getD t undef) → GCF w0 K lo O Gs s w → VCF efs s LB → LB.size = ops.size → ClosedG ops LB → ReadyG ops LB i → (∀ j d, waitsFor ops i j d = true → ICF efs lo O Gs L s j (a.eval (.tmp d)) w) →
  wpOp P ops Q i (fun a' w' => ∃ s' v, a' = a.put ((ops[i]?).bind (·.dst)) v ∧ VCF efs s' (LB.setIfInBounds i true) ∧ GCF w0 K lo O Gs s' w' ∧ (SameX 0 (XB O (Gs s)) w w' ∧ (∀ b, XB O (Gs s') b → XB O (Gs s) b ∨ w.heap.size ≤ b) ∧ (s' = s ∨ ∃ u, s' = s ++ [u] ∧ efs[s.length]? = some i)) ∧ (∀ d, (ops[i]?).bind (·.dst) = some d → ICF efs lo O Gs L s' i v w')) a w
theorem SCF.step (h : SCF P n ops opf Q l w0 K lo O Gs efs L i) : ∀ a, Has n l a → GStepF P (freeT opf) ops Q a.tmps (GCF w0 K lo O Gs) (ICF efs lo O Gs L) (VCF efs) i := fun t0 h0 s LB a w hF hG hV hs hc hr hD => by
 refine wpOp_mono ?_ (h t0 h0 s LB a w hF hG hV hs hc hr hD)
 rintro a' w' ⟨s', v, h1, h2, h3, ⟨t1, t2, t3⟩, h5⟩
 refine ⟨s', v, h1, h2, h3, h5, fun j d _ hd hj => ⟨fun k hk => ?_, fun h6 => (hj.2 h6).next t1 t2⟩⟩
 rcases t3 with rfl | ⟨u, rfl, hu⟩
 ·exact hj.1 k hk
 ·have h7 := hj.1 k hk
  rw [List.getElem?_append_left (List.getElem?_eq_some_iff.1 h7).1]
  exact h7
theorem SCF.ext {L1 L2 : List Asr} (ht : tidyR ops n = true) (hag : ∀ j, j ≤ i → atI L1 j = atI L2 j) (h : SCF P n ops opf Q l w0 K lo O Gs efs L1 i) : SCF P n ops opf Q l w0 K lo O Gs efs L2 i := fun t0 h0 s LB a w hF hG hV hs hc hr hD => by
 have hlt : ∀ j d, waitsFor ops i j d = true → j < i := fun j d hw => by
  cases ho : ops[i]? with
  | none => simp [waitsFor, ho] at hw
  | some o =>
   simp only [waitsFor, ho, Bool.and_eq_true, beq_iff_eq] at hw
   obtain ⟨e, he, h2⟩ := Array.any_eq_true'.1 hw.1
   simp only [Bool.and_eq_true, beq_iff_eq] at h2
   rw [← h2.1]; exact tidy_after ht ho e he h2.2
 have h2 := h t0 h0 s LB a w hF hG hV hs hc hr (fun j d hw => by unfold ICF; rw [hag j (Nat.le_of_lt (hlt j d hw))]; exact hD j d hw)
 unfold ICF at h2
 rw [hag i (Nat.le_refl _)] at h2
 exact h2
def NoCF (efs : List Nat) (L : List Asr) : Prop := ∀ j, j ∈ efs → atI L j = anyA
theorem deps_hasCF {t0 : Act} (h0 : Has n l t0) {a : Act} {w : World} (hF : ∀ t, freeT opf t = true → a.eval (.tmp t) = t0.tmps.getD t undef) (hD : ∀ j d, waitsFor ops i j d = true → ICF efs lo O Gs L s j (a.eval (.tmp d)) w)
  (hn : ∀ j d, waitsFor ops i j d = true → j ∈ efs → atI L j = anyA) : ∀ j d, waitsFor ops i j d = true → atI L j (a.eval (.tmp d)) w := fun j d hw => by
 by_cases h1 : j ∈ efs
 ·rw [hn j d hw h1]; trivial
 ·exact ((hD j d hw).2 h1).here
theorem vc_otherF {L : Array Bool} (hV : VCF efs s L) (hi : i ∉ efs) : VCF efs s (L.setIfInBounds i true) :=
 ⟨hV.1, fun k e he => by rw [getD_set_ne false (fun h => hi (by rw [h]; exact List.mem_of_getElem? he))]; exact hV.2 k e he⟩
variable {d : Nat} {op : Op} {ty : TypeId} {pos : String} {aft_ : Array Edge} {v : Value} {gd : Option (Nat × Bool)}
theorem sc_baseF (hie : i ∉ efs) (hi : ops[i]? = some ⟨some d, op, ty, pos, aft_, gd⟩) (hNo : NoCF efs L)
  (h : ∀ (t0 a : Act) s w, Has n l t0 → (∀ t, freeT opf t = true → a.eval (.tmp t) = t0.tmps.getD t undef) → GCF w0 K lo O Gs s w → (∀ j d, waitsFor ops i j d = true → ICF efs lo O Gs L s j (a.eval (.tmp d)) w) → (∀ j d, waitsFor ops i j d = true → atI L j (a.eval (.tmp d)) w) →
   wpOp P ops Q i (fun a' w' => ∃ v, a' = a.put (some d) v ∧ AwS lo (XB O (Gs s)) (atI L i) v w' ∧ Below w.heap.size w w') a w) : SCF P n ops opf Q l w0 K lo O Gs efs L i := fun t0 h0 s LB a w hF hG hV hs hc hr hD => by
 refine wpOp_mono ?_ (h t0 a s w h0 hF hG hD (deps_hasCF h0 hF hD fun j d _ hj => hNo j hj))
 rintro a' w' ⟨v, rfl, hA, hb⟩
 refine ⟨s, v, by rw [hi]; rfl, vc_otherF hV hie, ⟨hG.1.grow hb, Nat.le_trans hG.2 hb.size⟩, ⟨sameX_of hb, fun b hb => .inl hb, .inl rfl⟩, fun _ _ => ⟨fun k hk => absurd (List.mem_of_getElem? hk) hie, fun _ => hA⟩⟩
theorem scVF (hf : Fst ops opf) (li : Fr) (hie : efs.contains i = false) (hi : ops[i]? = some ⟨some d, op, ty, pos, aft_, gd⟩) (hNo : NoCF efs L) (hw : Wants ops L i ⟨some d, op, ty, pos, aft_, gd⟩) (hli : AllO n opf l L i li)
  (hr : ∀ s w, St w0 O (Gs s) K w → Runs P li ⟨some d, op, ty, pos, #[], none⟩ w v w) (hI : atI L i = isV v) : SCF P n ops opf Q l w0 K lo O Gs efs L i :=
 sc_baseF (fun h => by rw [List.contains_iff_mem.2 h] at hie; cases hie) hi hNo fun t0 a s w h0 hF hG hD hD' => by
  have hS : St w0 O (Gs s) K w := hG.1
  exact wp_val hi (hw.yes hD') (by rw [execOp_guard a.eval _ _ _ _ pos _ #[] _ none]; exact hr s w hS a.eval (allO_has h0 hF (fun j d h => hD' j d (hf.waits h)) hli)) ⟨v, rfl, by rw [hI]; exact awS_isV, Below.refl _ _⟩
theorem sc_rowVF {T e : TypeId} {m sz : Nat} {xs : List (Nat × Operand)} {us : List Value} {z : Value} {cs : List Value} (hf0 : Fst ops opf) (hie : efs.contains i = false) (hi : ops[i]? = some ⟨some d, .buildSlice T m xs.toArray, ty, pos, aft_, gd⟩) (hNo : NoCF efs L) (hw : Wants ops L i ⟨some d, .buildSlice T m xs.toArray, ty, pos, aft_, gd⟩)
  (hU : P.underlying T = some (.slice e)) (hs : ∀ w, (sizeOf e).run P w = .ok sz w) (hz : ∀ w, (zeroValue e).run P w = .ok z w) (hm : Nat.ble (m * sz) 16777216 = true) (hm0 : Nat.beq (m * sz) 0 = false) (hp : AllP n opf l L i (xs.map (·.2)) (us.map isV))
  (hf : Instr.fill (fun i => some (i * sz, sz)) ((Array.range (m * sz)).map (z.cells[· % z.cells.size]!)) ((xs.map (·.1)).zip us) = some cs.toArray) (hI : atI L i = isRow lo m e cs) : SCF P n ops opf Q l w0 K lo O Gs efs L i :=
 sc_baseF (fun h => by rw [List.contains_iff_mem.2 h] at hie; cases hie) hi hNo fun t0 a s w h0 hF hG hD hD' => by
  have hv := holds_isV (allP_holds h0 hF (fun j d h => hD' j d (hf0.waits h)) hp)
  have h4 : m * sz ≤ 16777216 := Nat.le_of_ble_eq_true hm
  have h5 : m * sz ≠ 0 := fun e => by rw [e] at hm0; cases hm0
  have h6 : ¬ (m * sz > 2 ^ 24) := by omega
  have h7 : xs.map (fun p => (p.1, a.eval p.2)) = (xs.map (·.1)).zip us := by
   rw [← hv]
   clear hi hw hp hv hf
   induction xs with
   | nil => rfl
   | cons x xs ih => simp only [List.map_cons, List.zip_cons_cons, ← ih]
  have hB : Below w.heap.size w (w.alloc (.cells cs.toArray e)) := (Below.refl _ _).alloc (Nat.le_refl _) _
  refine wp_val hi (hw.yes hD') (v := .slice (some ⟨w.heap.size, 0, none⟩) m m) (w' := w.alloc (.cells cs.toArray e)) ?_ ⟨_, rfl, ?_, hB⟩
  ·unfold execOp
   simp only []
   rw [show (Array.map (fun p => (p.1, a.eval p.2)) xs.toArray) = (xs.map (fun p => (p.1, a.eval p.2))).toArray by simp, h7]
   simp only [Instr.buildSlice, Sem.run_bind, run_underlying hU, Result.andThen_ok, hs, if_neg h6, if_neg h5, hz, Sem.run_pure, hf, newRow, run_newObj_alloc]
  ·rw [hI]
   intro w2 h2
   have hnew := heap_alloc_new w (.cells cs.toArray e)
   refine ⟨w.heap.size, rfl, hG.2, (h2.2.2 _ hG.2 (lt_of_heap hnew) (fun hx => ?_)).trans hnew⟩
   rcases hx with ⟨q, hq, e1⟩ | ⟨g, hg, hgb⟩
   ·have := lt_of_heap (hG.1.own q hq).2; omega
   ·have := (hG.1.glt hg hgb).2; omega
theorem sc_appF {t e : TypeId} {x : Operand} {tyy jy m : Nat} {gv : Value} {gn : Nat} {gxs cs : List Value} {inf : TypeInfo} {z : Value} (hf : Fst ops opf) (k gi : Nat) (li : Fr) (hek : efs[k]? = some i) (hearly : (efs.take k).all (fun j => (earlyL ops i).contains j) = true) (hnd : efs.Nodup)
  (hi : ops[i]? = some ⟨some d, .call { callee := .builtin .append, args := #[x, .tmp tyy], argTypes := #[t, t] }, ty, pos, aft_, none⟩) (hNo : NoCF efs L)
  (hU : P.underlying t = some (.slice e)) (hinf : P.info? e = some inf) (hz : inf.zero = some z) (hzs : z.cells.size = inf.size) (hsz : 0 < inf.size)
  (hg : ∀ s, s.length = k → (Gs s)[gi]? = some ⟨gv, gn, gxs, e, inf.size⟩) (hgs : ∀ s v', s.length = k → Gs (s ++ [v']) = (Gs s).set gi ⟨v', gn + m, gxs ++ cs, e, inf.size⟩)
  (hli : AllO n opf l L i li) (hx : evL li x = some gv) (hwy : waitsFor ops i jy tyy = true) (hjy : efs.contains jy = false) (hLy : atI L jy = isRow lo m e cs) (hl : cs.length = m * inf.size) (h1 : cs.all Value.oneCell' = true) (h63 : gn + m ≤ maxLen) (hbytes : (gn + m) * inf.bytes ≤ 140737488355328) : SCF P n ops opf Q l w0 K lo O Gs efs L i := fun t0 h0 s LB a w hF hG hV hs hc hr hD => by
 have hik : s.length = k := by
  have h2 : ¬ k < s.length := fun h => by have := (hV.2 k i hek).2 h; rw [hr.1] at this; cases this
  have h3 : ¬ s.length < k := fun h => by
   obtain ⟨e1, he1⟩ : ∃ e1, efs[s.length]? = some e1 := ⟨efs[s.length]'(by have := (List.getElem?_eq_some_iff.1 hek).1; omega), by simp⟩
   have h4 := List.all_eq_true.1 hearly e1 (List.mem_of_getElem? (i := s.length) (by rw [List.getElem?_take, if_pos h]; exact he1))
   have h5 := ready_early hc hr e1 (List.contains_iff_mem.1 h4)
   exact absurd ((hV.2 s.length e1 he1).1 h5) (by omega)
  omega
 have hD' := deps_hasCF h0 hF hD (fun j d _ hj => hNo j hj)
 have ex := allO_has h0 hF (fun j d h => hD' j d (hf.waits h)) hli x _ hx
 have hy := ((hD jy tyy hwy).2 (fun h => by rw [List.contains_iff_mem.2 h] at hjy; cases hjy)).here
 rw [hLy] at hy
 obtain ⟨B, ey, hB1, hB2⟩ := hy
 have hgi := hg s hik
 have hrow := hG.1.row gi hgi
 obtain ⟨v', W', hr2, h2, h3, h4⟩ := append_own2 (P := P) (w := w) w0.heap.size t ty e inf z hU hinf hz hzs hsz gv gn gxs hrow ⟨B, 0, none⟩ m m cs hl (fun j u hj => by
  rw [Addr.add_lit, Nat.zero_add]
  simp only [World.cell?, hB2]
  simpa using hj) (fun u hu => List.all_eq_true.1 h1 u hu) h63 hbytes hG.1.below.size
 have hSt := hG.1.setG gi hgi h2 h3 h4
 refine wp_val (w' := W') (v := v') hi (wanted_free rfl) ?_ ?_
 ·unfold execOp
  simp only [resolve, invoke, builtin, Sem.run_bind, Sem.run_pure, Result.andThen_ok, List.map_toArray, List.map_cons, List.map_nil, ex, ey, hr2]
 ·have hXg : ∀ b, gv.ownBlock = some b → XB O (Gs s) b := fun b hb => .inr ⟨_, List.mem_of_getElem? hgi, hb⟩
  refine ⟨s ++ [v'], v', by rw [hi]; rfl, ⟨?_, fun k' e' he' => ?_⟩, ⟨by rw [hgs s v' hik]; exact hSt, Nat.le_trans hG.2 h3.size⟩, ⟨⟨⟨h3.os, h3.tape, h3.output⟩, h3.size, fun b _ hb hx => h3.block b hb (fun e => hx (hXg b e.symm))⟩, ?_, .inr ⟨v', rfl, by rw [hik]; exact hek⟩⟩, fun d hd => ⟨fun k' hk' => ?_, fun h => absurd (List.mem_of_getElem? hek) h⟩⟩
  ·have := (List.getElem?_eq_some_iff.1 hek).1
   rw [List.length_append]; simp; omega
  ·rw [List.length_append, hik]
   by_cases hkk : k' = k
   ·subst hkk
    rw [hek] at he'; cases he'
    rw [Array.getD_eq_getD_getElem?, Array.getElem?_setIfInBounds_self_of_lt (by rw [hs]; exact (Array.getElem?_eq_some_iff.1 hi).1)]
    exact ⟨fun _ => by simp, fun _ => rfl⟩
   ·have hne : i ≠ e' := fun h => hkk (by
     subst h
     have a1 := List.getElem?_eq_some_iff.1 hek
     have a2 := List.getElem?_eq_some_iff.1 he'
     exact (List.getElem_inj hnd).1 (a2.2.trans a1.2.symm))
    rw [getD_set_ne false hne, hV.2 k' e' he', hik]
    simp; omega
  ·intro b hb
   rcases hb with ⟨p, hp, rfl⟩ | ⟨g, hg2, e1⟩
   ·exact .inl (.inl ⟨p, hp, rfl⟩)
   ·rw [hgs s v' hik] at hg2
    rcases List.mem_or_eq_of_mem_set hg2 with hg2 | rfl
    ·exact .inl (.inr ⟨g, hg2, e1⟩)
    ·rcases h4 with h5 | h5
     ·exact .inl (hXg b (h5 ▸ e1))
     ·have e2 : v'.ownBlock = some b := e1
      rw [h5] at e2; exact .inr (Nat.le_of_eq (Option.some.inj e2))
  ·have : k' = k := by
    have a1 := List.getElem?_eq_some_iff.1 hek
    have a2 := List.getElem?_eq_some_iff.1 hk'
    exact (List.getElem_inj hnd).1 (a2.2.trans a1.2.symm)
   rw [this, ← hik]; simp
def BLCF (P : Program) (n : Nat) (ops opf : Array Oper) (Q : Exit → Act → World → Prop) (l : Fr) (w0 : World) (K : List (Nat × World)) (lo : Nat) (O : Own) (Gs : List Value → Grows) (efs : List Nat) (Goal : List Asr → Prop) : Nat → List Asr → Nat → Prop
 | 0, Lr, _ => Goal Lr
 | m + 1, Lr, k => ∃ q, (k ∈ efs → q = anyA) ∧ (NoCF efs (q :: Lr).reverse → SCF P n ops opf Q l w0 K lo O Gs efs (q :: Lr).reverse k) ∧ BLCF P n ops opf Q l w0 K lo O Gs efs Goal m (q :: Lr) (k + 1)
variable {Goal : List Asr → Prop}
theorem blc_nilF {Lr : List Asr} {k : Nat} (h : Goal Lr) : BLCF P n ops opf Q l w0 K lo O Gs efs Goal 0 Lr k := h
theorem blc_consF {m k : Nat} {Lr : List Asr} (k' : Nat) (hk : k + 1 = k') (hne : efs.contains k = false) (q : Asr) (h : NoCF efs (q :: Lr).reverse → SCF P n ops opf Q l w0 K lo O Gs efs (q :: Lr).reverse k) (hr : BLCF P n ops opf Q l w0 K lo O Gs efs Goal m (q :: Lr) k') : BLCF P n ops opf Q l w0 K lo O Gs efs Goal (m + 1) Lr k := by
 subst hk
 refine ⟨q, fun hc => ?_, h, hr⟩
 rw [List.contains_iff_mem.2 hc] at hne; cases hne
theorem blc_anyF {m k : Nat} {Lr : List Asr} (k' : Nat) (hk : k + 1 = k') (h : SCF P n ops opf Q l w0 K lo O Gs efs (anyA :: Lr).reverse k) (hr : BLCF P n ops opf Q l w0 K lo O Gs efs Goal m (anyA :: Lr) k') : BLCF P n ops opf Q l w0 K lo O Gs efs Goal (m + 1) Lr k := by
 subst hk; exact ⟨anyA, fun _ => rfl, fun _ => h, hr⟩
theorem blc_runF (ht : tidyR ops n = true) : ∀ (m k : Nat) (Lr : List Asr), Lr.length = k → NoCF efs Lr.reverse → (∀ i, i < k → SCF P n ops opf Q l w0 K lo O Gs efs Lr.reverse i) → BLCF P n ops opf Q l w0 K lo O Gs efs Goal m Lr k →
  ∃ Lr', Lr'.length = k + m ∧ (∀ i, i < k + m → SCF P n ops opf Q l w0 K lo O Gs efs Lr'.reverse i) ∧ Goal Lr'
 | 0, k, Lr, hl, hs, hg, h => ⟨Lr, hl, hg, h⟩
 | m + 1, k, Lr, hl, hs, hg, ⟨q, hq, hr, hn⟩ => by
  have hap : ∀ j, j < k → atI Lr.reverse j = atI (q :: Lr).reverse j := fun j hj => by rw [List.reverse_cons, atI_append (by simp; omega)]
  have hs' : NoCF efs (q :: Lr).reverse := fun j hj => by
   rcases Nat.lt_trichotomy j k with h1 | h1 | h1
   ·rw [← hap j h1]; exact hs j hj
   ·subst h1; rw [at_top hl]; exact hq hj
   ·exact atI_len (by simp; omega)
  obtain ⟨L', h1, h3, h4⟩ := blc_runF ht m (k + 1) (q :: Lr) (by simp [hl]) hs' (fun i hi => by
   by_cases hik : i = k
   ·subst hik; exact hr hs'
   ·exact SCF.ext ht (fun j hj => hap j (by omega)) (hg i (by omega))) hn
  exact ⟨L', by omega, fun i hi => h3 i (by omega), h4⟩
def finCF (efs : List Nat) (lo : Nat) (X : Nat → Prop) (s : List Value) : Nat → List Asr → List Asr
 | _, [] => []
 | j, q :: L => (match efs.idxOf? j with | some k => isV (s.getD k undef) | none => AwS lo X q) :: finCF efs lo X s (j + 1) L
theorem atI_finCF {X : Nat → Prop} : ∀ (L : List Asr) (j i : Nat), i < L.length → atI (finCF efs lo X s j L) i = (match efs.idxOf? (i + j) with | some k => isV (s.getD k undef) | none => AwS lo X (atI L i))
 | [], j, i, h => by simp at h
 | q :: L, j, 0, h => by rw [Nat.zero_add]; rfl
 | q :: L, j, i + 1, h => by
  show atI (finCF efs lo X s (j + 1) L) i = _
  rw [atI_finCF L (j + 1) i (by simpa using h), show i + 1 + j = i + (j + 1) by omega]
  rfl
theorem regCF {id k : Nat} {ds : List Nat} (hm : P.follows .mixedOrders = true) (hlo : lo = W.heap.size) (hS : St w0 O (Gs []) K W) (hk : Nat.blt k os.length = true) (htl : tailT os.toArray k = true) (ht : tidyR os.toArray n = true) (hef : efs.all (fun a => Nat.blt a k) = true) (hnd : efs.Nodup)
  (hdst : (List.range k).all (fun j => ((os.toArray[j]?).bind (·.dst)).isSome) = true) (hds : (os.drop k).all (fun o => match o.dst with | some d => ds.contains d | none => true) = true)
  (h : BLCF P n os.toArray (os.take k).toArray Q l w0 K lo O Gs efs (fun Lr => ∀ (s : List Value) (W' : World) (Ks : List (Nat × World)), s.length = efs.length → W.heap.size ≤ W'.heap.size → (∀ q ∈ Ks, lo ≤ q.1) → St w0 O (Gs s) (Ks ++ K) W' →
   (∀ {O2 G2 K2 W2}, St w0 O2 G2 K2 W2 → (∀ q ∈ Ks, q ∈ K2) → SameX lo (XB O (Gs s)) W' W2) →
   FinI (os.take k) (finCF efs lo (XB O (Gs s)) s 0 Lr.reverse) (dropF ds l) (fun l' W' => OpsF P n os.toArray Q (os.drop k) l' W') W') k [] 0) : CodeF P n (.region id os.toArray true) Q l W := by
 obtain ⟨Lr, h1, h2, hfin⟩ := blc_runF ht k 0 [] rfl (fun j _ => by rfl) (fun i hi => by omega) h
 rw [Nat.zero_add] at h1 h2
 have hk' : k < os.length := Nat.lt_of_lt_of_le (Nat.lt_succ_self _) (Nat.le_of_ble_eq_true hk)
 have hef' : ∀ a ∈ efs, a < k := fun a ha => Nat.lt_of_lt_of_le (Nat.lt_succ_self _) (Nat.le_of_ble_eq_true (List.all_eq_true.1 hef a ha))
 intro a ha
 have hrep : ∀ (m j : Nat), (Array.replicate m false).getD j false = false := fun m j => by
  rw [Array.getD_eq_getD_getElem?, Array.getElem?_replicate]; split <;> rfl
 refine wp_region_any hm (region_ghostF (fr := freeT (os.take k).toArray) (t0 := a.tmps) (d0 := a.defers) (V := VCF efs) (I := ICF efs lo O Gs Lr.reverse) (G := GCF w0 K lo O Gs) (k := k) (fun i d hik hd => ?_) (by simpa using hk') htl (by rw [ha.size]; exact ht) (fun i hi => (h2 i hi).step a ha) ?_ _ [] _ _ _ (by simp) (count_rep _) (fun j hj => by rw [hrep] at hj; cases hj) (fun i _ => hrep _ _) ⟨rfl, rfl, fun _ _ => rfl, ⟨hS.drew, by rw [hlo]; exact Nat.le_refl _⟩, ⟨Nat.zero_le _, fun k' e he => ⟨fun h3 => (by rw [hrep] at h3; cases h3), fun h3 => absurd h3 (Nat.not_lt_zero _)⟩⟩, fun i d _ hj => (by rw [hrep] at hj; cases hj)⟩)
 ·have hd2 : (os[i]?).bind (·.dst) = some d := by simpa using hd
  obtain ⟨o, ho, hod⟩ := Option.bind_eq_some_iff.1 hd2
  have hm2 : o ∈ os.take k := List.mem_of_getElem? (i := i) (by rw [List.getElem?_take, if_pos hik]; exact ho)
  cases hf : freeT (os.take k).toArray d with
  | false => rfl
  | true =>
   unfold freeT at hf
   have := Array.all_eq_true'.1 hf o (by simpa using hm2)
   rw [hod] at this
   simp at this
 intro s LB a' W' hR hdone hnot
 obtain ⟨hG, hG2⟩ := hR.glob
 obtain ⟨v1, v2⟩ := hR.cons
 have hlen : s.length = efs.length := by
  rcases Nat.lt_or_ge s.length efs.length with h3 | h3
  ·have h4 := (v2 s.length efs[s.length] (by simp)).1 (hdone _ (hef' _ (List.getElem_mem h3)))
   omega
  ·omega
 obtain ⟨Ks, c1, ⟨qw, c2, c3⟩, c4⟩ := cuts ((O.map (·.1)) ++ (Gs s).filterMap (fun g => g.v.ownBlock)) lo W'
 have hG4 := hG.more Ks (fun q hq => ⟨(c1 q hq).2.1, fun p hp => (c1 q hq).2.2 p.1 (List.mem_append_left _ (List.mem_map.2 ⟨p, hp, rfl⟩)), fun g hg b hb => (c1 q hq).2.2 b (List.mem_append_right _ (List.mem_filterMap.2 ⟨g, hg, hb⟩))⟩)
 have hcov : ∀ {O2 G2 K2 W2}, St w0 O2 G2 K2 W2 → (∀ q ∈ Ks, q ∈ K2) → SameX lo (XB O (Gs s)) W' W2 := fun {O2 G2 K2 W2} h2 hq => by
  refine ⟨⟨h2.below.os.trans hG.below.os.symm, h2.below.tape.trans hG.below.tape.symm, h2.below.output.trans hG.below.output.symm⟩, ?_, fun b b1 b2 b3 => ?_⟩
  ·have := (h2.kept qw (hq qw c2)).1.1; rw [c3] at this; exact this
  ·obtain ⟨q, q1, q2, q3⟩ := c4 b b1 b2 (fun hb => b3 (by
    rcases List.mem_append.1 hb with hb | hb
    ·obtain ⟨p, hp, rfl⟩ := List.mem_map.1 hb
     exact .inl ⟨p, hp, rfl⟩
    ·obtain ⟨g, hg, e⟩ := List.mem_filterMap.1 hb
     exact .inr ⟨g, hg, e⟩))
   exact ((h2.kept q (hq q q1)).1.2 b q2 q3).trans ((c1 q q1).2.1.2 b q2 q3).symm
 have htk : (os.take k).length = k := by simp; omega
 refine fin_hasS (os.take k) (finCF efs lo (XB O (Gs s)) s 0 Lr.reverse) (dropF ds l) (fun i d hi hd' => ?_) (fun i hi hd' => ?_) (hR.size.trans ha.size) (hR.defers.trans ha.defers) ?_ (fun l' h ha' => ?_) (hfin s W' Ks hlen (by rw [← hlo]; exact hG2) (fun q hq => (c1 q hq).1) hG4 hcov)
 ·have hik : i < k := by omega
  have hd2 : (os.toArray[i]?).bind (·.dst) = some d := by rw [List.getElem?_take, if_pos hik] at hd'; simpa using hd'
  obtain ⟨i1, i2⟩ := hR.done i d hd2 (hdone i hik)
  rw [atI_finCF Lr.reverse 0 i (by simp; omega), Nat.add_zero]
  cases hc1 : efs.idxOf? i with
  | some k' =>
   have he : efs[k']? = some i := by
    have := List.findIdx?_eq_some_iff_getElem.1 hc1
    obtain ⟨h3, h4, _⟩ := this
    rw [List.getElem?_eq_getElem h3]
    simpa using h4
   show _ = _
   have h5 := i1 k' he
   simp [List.getD, h5]
  | none =>
   have hni : i ∉ efs := fun hm' => by
    have := List.findIdx?_eq_none_iff.1 hc1 i hm'
    simp at this
   exact i2 hni
 ·have hik : i < k := by omega
  have h3 := List.all_eq_true.1 hdst i (List.mem_range.2 hik)
  have hd2 : (os.toArray[i]?).bind (·.dst) = none := by rw [List.getElem?_take, if_pos hik] at hd'; simpa using hd'
  rw [hd2] at h3; cases h3
 ·intro t v hv hno
  have hl := look_dropF hv (look_dropF_not hv)
  rw [hR.frame t ?_]
  ·exact ha.at_ t v hl
  ·unfold freeT; rw [Array.all_eq_true']; intro o' ho'
   have ho2 : o' ∈ os.take k := by simpa using ho'
   simpa using hno o' ho2
 ·have := h a' ha'
  simpa using this
end
end Go.Proofs.YtgjojhmninbkoaaDoor
namespace Go.Proofs.YtgjojhmninbkoaaDoor
open Go Go.RowKit
open Go.WideMaps (KeyLaw)
open Go.ChangeMaps (setBlock)
section
variable {α : Type} {P : Program} {K E S T : TypeId} {κ : α → Value} {W : World} {lo b : Nat} {f : α → List Value}
structure GrpE (P : Program) (K E : TypeId) (κ : α → Value) (lo : Nat) (f : α → List Value) (W : World) (es : Array MapEntry) (clock : Nat) : Prop where
 born : ∀ x ∈ es.toList, x.born < clock
 nodup : (es.toList.map (·.born)).Nodup
 keys : es.toList.Pairwise (fun x y => x.key ≠ y.key)
 is : ∀ x ∈ es.toList, ∃ k, x.key = κ k ∧ (∃ l, keyOf P K (κ k) = some l) ∧ W.ownsRow lo E 1 x.val (f k).length (f k)
 all : ∀ k, f k ≠ [] → ∃ x ∈ es.toList, x.key = κ k
 apart : ∀ x ∈ es.toList, ∀ y ∈ es.toList, x.key ≠ y.key → Value.apart x.val y.val
def Grp (P : Program) (K E : TypeId) (κ : α → Value) (lo : Nat) (f : α → List Value) (b : Nat) (W : World) : Prop :=
 ∃ es clock, W.heap[b]? = some (.map es clock) ∧ GrpE P K E κ lo f W es clock
theorem key_uniq {l : List MapEntry} (h : l.Pairwise (fun x y => x.key ≠ y.key)) {x y : MapEntry} (hx : x ∈ l) (hy : y ∈ l) (e : x.key = y.key) : x = y := by
 induction h with
 | nil => cases hx
 | cons a _ ih =>
  rcases List.mem_cons.1 hx with hx1 | hx1
  ·rcases List.mem_cons.1 hy with hy1 | hy1
   ·rw [hx1, hy1]
   ·subst hx1; exact absurd e (a _ hy1)
  ·rcases List.mem_cons.1 hy with hy1 | hy1
   ·subst hy1; exact absurd e.symm (a _ hx1)
   ·exact ih hx1 hy1
theorem GrpE.valid {es : Array MapEntry} {clock : Nat} (h : GrpE P K E κ lo f W es clock) : ∀ e ∈ es.toList, ∃ l, keyOf P K e.key = some l := fun e he => by
 obtain ⟨k, h1, h2, _⟩ := h.is e he
 rw [h1]; exact h2
theorem GrpE.nil_of {es : Array MapEntry} {clock : Nat} (h : GrpE P K E κ lo f W es clock) {k : α} (hn : ∀ x ∈ es.toList, x.key ≠ κ k) : f k = [] :=
 Decidable.byContradiction fun hne => by
  obtain ⟨x, hx, hk⟩ := h.all k hne
  exact hn x hx hk
theorem GrpE.at_ {es : Array MapEntry} {clock : Nat} (h : GrpE P K E κ lo f W es clock) (hinj : ∀ x y, κ x = κ y → x = y) {x : MapEntry} {k : α} (hx : x ∈ es.toList) (hk : x.key = κ k) : W.ownsRow lo E 1 x.val (f k).length (f k) := by
 obtain ⟨k2, h1, _, h2⟩ := h.is x hx
 obtain rfl := hinj _ _ (h1.symm.trans hk)
 exact h2
theorem row_not_map {w : World} {base n p : Nat} {e : TypeId} {size : Nat} {v : Value} {xs : List Value} (h : w.ownsRow base e size v n xs) {es : Array MapEntry} {clock : Nat} (hb : w.heap[b]? = some (.map es clock)) (hp : v.ownBlock = some p) : p ≠ b := by
 rcases h.2 with ⟨rfl, _⟩ | ⟨g, cap, cur, rfl, _, h4, _⟩
 ·cases hp
 ·intro e1
  have : g = p := Option.some.inj hp
  rw [this, e1, hb] at h4; cases h4
theorem Grp.same {W' : World} (h : Grp P K E κ lo f b W) (hb : b < W.heap.size → W'.heap[b]? = W.heap[b]?) (hs : ∀ p, lo ≤ p → p < W.heap.size → W'.heap[p]? = W.heap[p]?) : Grp P K E κ lo f b W' := by
 obtain ⟨es, clock, h1, h2⟩ := h
 refine ⟨es, clock, (hb (lt_of_heap h1)).trans h1, ⟨h2.born, h2.nodup, h2.keys, fun x hx => ?_, h2.all, h2.apart⟩⟩
 obtain ⟨k, h3, h4, h5⟩ := h2.is x hx
 exact ⟨k, h3, h4, ownsRow_same h5 fun p hp => hs p (h5.lt p hp).1 (h5.lt p hp).2⟩
theorem Grp.lower {lo' : Nat} (h : Grp P K E κ lo f b W) (hl : lo' ≤ lo) : Grp P K E κ lo' f b W := by
 obtain ⟨es, clock, h1, h2⟩ := h
 refine ⟨es, clock, h1, ⟨h2.born, h2.nodup, h2.keys, fun x hx => ?_, h2.all, h2.apart⟩⟩
 obtain ⟨k, h3, h4, h5, h6⟩ := h2.is x hx
 refine ⟨k, h3, h4, h5, ?_⟩
 rcases h6 with h6 | ⟨g, cap, cur, h6, h7, h8⟩
 ·exact .inl h6
 ·exact .inr ⟨g, cap, cur, h6, Nat.le_trans hl h7, h8⟩
theorem Grp.fresh (lo : Nat) (hb : W.heap[b]? = some (.map #[] 0)) : Grp P K E κ lo (fun _ => []) b W :=
 ⟨#[], 0, hb, ⟨by simp, by simp, by simp, by simp, fun k h => absurd rfl h, by simp⟩⟩
theorem Grp.look (h : Grp P K E κ lo f b W) (L : KeyLaw P K) (ht : P.underlying T = some (.map K S)) (hz : ∀ w, (zeroValue S).run P w = .ok (.slice none 0 0) w) {k : α} (hk : ∃ l, keyOf P K (κ k) = some l) (hinj : ∀ x y, κ x = κ y → x = y) :
  ∃ v, (∀ W', W'.heap[b]? = W.heap[b]? → (Instr.lookup T (.map (some b)) (κ k) false).run P W' = .ok v W') ∧ W.ownsRow lo E 1 v (f k).length (f k) := by
 obtain ⟨es, clock, hb, hE⟩ := h
 obtain ⟨l, hl⟩ := hk
 by_cases hx : ∃ x ∈ es.toList, x.key = κ k
 ·obtain ⟨x, hx, hxk⟩ := hx
  refine ⟨x.val, fun W' hW' => ?_, hE.at_ hinj hx hxk⟩
  rcases L.find W' hl es.toList hE.valid with ⟨_, h2⟩ | ⟨j, e0, h1, h2, h3⟩
  ·exact absurd hxk (h2 x hx)
  ·obtain rfl : e0 = x := key_uniq hE.keys (List.mem_of_getElem? h2) hx (h3.trans hxk.symm)
   simp [Instr.lookup, run_underlying ht, MapKept.run_getObj_map (hW'.trans hb), L.check W' _ hl, h1, Result.andThen]
 ·have hn : ∀ x ∈ es.toList, x.key ≠ κ k := fun x h1 h2 => hx ⟨x, h1, h2⟩
  refine ⟨.slice none 0 0, fun W' hW' => ?_, ?_⟩
  ·rcases L.find W' hl es.toList hE.valid with ⟨h1, _⟩ | ⟨j, e0, _, h2, h3⟩
   ·simp [Instr.lookup, run_underlying ht, MapKept.run_getObj_map (hW'.trans hb), L.check W' _ hl, h1, hz, Result.andThen]
   ·exact absurd ⟨e0, List.mem_of_getElem? h2, h3⟩ hx
  ·rw [hE.nil_of hn]; exact World.ownsRow_nil _ _ _ _
theorem setBlock_at {w : World} {o o' : Obj} (hb : w.heap[b]? = some o) : (setBlock w b o').heap[b]? = some o' := (MapKept.heap_set hb).1
theorem setBlock_other {w : World} {o o' : Obj} (hb : w.heap[b]? = some o) {p : Nat} (hp : p ≠ b) : (setBlock w b o').heap[p]? = w.heap[p]? := (MapKept.heap_set hb).2 p hp
theorem setBlock_grown {w : World} {o o' : Obj} (hb : w.heap[b]? = some o) : w.grownBy (setBlock w b o') (some b) :=
 ⟨rfl, rfl, rfl, by simp [setBlock], fun k _ hk => setBlock_other hb (fun e => hk (by rw [e]))⟩
theorem mem_modify {es : Array MapEntry} {j : Nat} {e0 x : MapEntry} {g : MapEntry → MapEntry} (hj : es.toList[j]? = some e0) (hx : x ∈ (es.modify j g).toList) : x = g e0 ∨ ∃ i, i ≠ j ∧ es.toList[i]? = some x := by
 obtain ⟨i, hi⟩ := List.getElem?_of_mem hx
 rw [Array.toList_modify, List.getElem?_modify] at hi
 by_cases hij : j = i
 ·subst hij
  rw [hj] at hi
  simp at hi
  exact .inl hi.symm
 ·refine .inr ⟨i, fun e => hij e.symm, ?_⟩
  simpa [hij] using hi
theorem modify_mem {es : Array MapEntry} {j i : Nat} {x : MapEntry} {g : MapEntry → MapEntry} (hx : es.toList[i]? = some x) : (if j = i then g x else x) ∈ (es.modify j g).toList := by
 refine List.mem_of_getElem? (i := i) ?_
 rw [Array.toList_modify, List.getElem?_modify, hx]
 by_cases hij : j = i <;> simp [hij]
theorem map_modify {β : Type} {es : Array MapEntry} {j : Nat} {g : MapEntry → MapEntry} {p : MapEntry → β} (h : ∀ x, p (g x) = p x) : (es.modify j g).toList.map p = es.toList.map p := by
 apply List.ext_getElem?
 intro i
 rw [Array.toList_modify, List.getElem?_map, List.getElem?_map, List.getElem?_modify]
 cases es.toList[i]? with
 | none => rfl
 | some x =>
  by_cases hij : j = i
  ·simp [hij, h]
  ·simp [hij]
theorem pw_map {β : Type} {r : β → β → Prop} {p : MapEntry → β} {l l' : List MapEntry} (h : l.Pairwise (fun x y => r (p x) (p y))) (e : l'.map p = l.map p) : l'.Pairwise (fun x y => r (p x) (p y)) := by
 rw [← List.pairwise_map] at h ⊢
 rw [e]; exact h
theorem Grp.entry [DecidableEq α] (h : Grp P K E κ lo f b W) (L : KeyLaw P K) (ht : P.underlying T = some (.map K S)) (hz : ∀ w, (zeroValue S).run P w = .ok (.slice none 0 0) w) {k : α} (hk : ∃ l, keyOf P K (κ k) = some l) (hinj : ∀ x y, κ x = κ y → x = y) :
  ∃ v0 st W1, (Instr.mapEntry T (.map (some b)) (κ k)).run P W = .ok (.tuple #[v0, st]) W1 ∧ W.grownBy W1 (some b) ∧ W1.heap.size = W.heap.size ∧ W1.ownsRow lo E 1 v0 (f k).length (f k) ∧ (∀ p, v0.ownBlock = some p → p ≠ b) ∧
   ∀ W2 v' zs, W1.grownBy W2 v0.ownBlock → W2.ownsRow lo E 1 v' zs.length zs → (v'.ownBlock = v0.ownBlock ∨ v'.ownBlock = some W1.heap.size) → ∃ W3, (Instr.entryStore T (.map (some b)) st v').run P W2 = .ok () W3 ∧ W2.grownBy W3 (some b) ∧ Grp P K E κ lo (fun x => if x = k then zs else f x) b W3 := by
 obtain ⟨es, clock, hb, hE⟩ := h
 obtain ⟨l, hl⟩ := hk
 have hold : ∀ x ∈ es.toList, ∀ p, x.val.ownBlock = some p → p < W.heap.size ∧ p ≠ b := fun x hx p hp => by
  obtain ⟨k2, _, _, h2⟩ := hE.is x hx
  exact ⟨(h2.lt p hp).2, row_not_map h2 hb hp⟩
 rcases L.find W hl es.toList hE.valid with ⟨h1, h2⟩ | ⟨j, e0, h1, h2, h3⟩
 ·have hnil := hE.nil_of h2
  refine ⟨.slice none 0 0, goInt clock, setBlock W b (.map (es.push ⟨κ k, .slice none 0 0, clock⟩) (clock + 1)), ?_, setBlock_grown hb, by simp [setBlock], by rw [hnil]; exact World.ownsRow_nil _ _ _ _, (fun p hp => by cases hp), fun W2 v' zs hg hr hv => ?_⟩
  ·simp [Instr.mapEntry, run_underlying ht, MapKept.run_getObj_map hb, L.check W _ hl, h1, hz, MapKept.run_setObj_map _ hb, setBlock, Result.andThen]
  ·have hb1 := setBlock_at (o' := .map (es.push ⟨κ k, .slice none 0 0, clock⟩) (clock + 1)) hb
   have hb2 : W2.heap[b]? = some (.map (es.push ⟨κ k, .slice none 0 0, clock⟩) (clock + 1)) := (hg.block b (lt_of_heap hb1) (fun e => by cases e)).trans hb1
   have hsz : (setBlock W b (.map (es.push ⟨κ k, .slice none 0 0, clock⟩) (clock + 1))).heap.size = W.heap.size := by simp [setBlock]
   have hidx : (es.push ⟨κ k, .slice none 0 0, clock⟩).findIdx? (fun e => ((e.born : Nat) : Int) == ((clock : Nat) : Int)) = some es.size := by
    rw [WideElems.findIdx_arr]
    refine WideElems.findIdx_born (e0 := ⟨κ k, .slice none 0 0, clock⟩) ?_ (by simp)
    rw [Array.toList_push, List.map_append, List.nodup_append]
    refine ⟨hE.nodup, by simp, fun a ha c hc e1 => ?_⟩
    obtain ⟨x, hx, rfl⟩ := List.mem_map.1 ha
    have := hE.born x hx
    simp at hc; omega
   have hmod : (es.push ⟨κ k, .slice none 0 0, clock⟩).modify es.size (fun e => { e with val := v' }) = es.push ⟨κ k, v', clock⟩ := by
    apply Array.ext'
    rw [Array.toList_modify, Array.toList_push, Array.toList_push, ← Array.length_toList, WideElems.modify_last]
   refine ⟨setBlock W2 b (.map (es.push ⟨κ k, v', clock⟩) (clock + 1)), ?_, setBlock_grown hb2, ⟨_, _, setBlock_at hb2, ?_⟩⟩
   ·simp [Instr.entryStore, MapKept.run_getObj_map hb2, asInt, asIntOf, goInt, hidx, hmod, MapKept.run_setObj_map _ hb2, setBlock, Result.andThen]
   ·have hmem : ∀ x, x ∈ (es.push ⟨κ k, v', clock⟩).toList ↔ x ∈ es.toList ∨ x = ⟨κ k, v', clock⟩ := fun x => by simp
    have hrow : ∀ x ∈ es.toList, ∀ p, x.val.ownBlock = some p → (setBlock W2 b (.map (es.push ⟨κ k, v', clock⟩) (clock + 1))).heap[p]? = W.heap[p]? := fun x hx p hp => by
     obtain ⟨p1, p2⟩ := hold x hx p hp
     rw [setBlock_other hb2 p2, hg.block p (by rw [hsz]; exact p1) (fun e => by cases e), setBlock_other hb p2]
    refine ⟨fun x hx => ?_, ?_, ?_, fun x hx => ?_, fun k2 hk2 => ?_, fun x hx y hy hne => ?_⟩
    ·rcases (hmem x).1 hx with hx | rfl
     ·have := hE.born x hx; omega
     ·exact Nat.lt_succ_self _
    ·rw [Array.toList_push, List.map_append, List.nodup_append]
     refine ⟨hE.nodup, by simp, fun a ha c hc e1 => ?_⟩
     obtain ⟨x, hx, rfl⟩ := List.mem_map.1 ha
     have := hE.born x hx
     simp at hc; omega
    ·rw [Array.toList_push, List.pairwise_append]
     refine ⟨hE.keys, by simp, fun x hx y hy => ?_⟩
     simp at hy; subst hy; exact h2 x hx
    ·rcases (hmem x).1 hx with hx | rfl
     ·obtain ⟨k2, e1, e2, e3⟩ := hE.is x hx
      refine ⟨k2, e1, e2, ?_⟩
      rw [if_neg (fun e => h2 x hx (by rw [e1, e]))]
      exact ownsRow_same e3 (hrow x hx)
     ·refine ⟨k, rfl, ⟨l, hl⟩, ?_⟩
      rw [if_pos rfl]
      exact ownsRow_same hr fun p hp => setBlock_other hb2 (row_not_map hr hb2 hp)
    ·by_cases e : k2 = k
     ·exact ⟨⟨κ k, v', clock⟩, (hmem _).2 (.inr rfl), by rw [e]⟩
     ·rw [if_neg e] at hk2
      obtain ⟨x, hx, hxk⟩ := hE.all k2 hk2
      exact ⟨x, (hmem x).2 (.inl hx), hxk⟩
    ·have hnew : ∀ x ∈ es.toList, ∀ p, x.val.ownBlock = some p → v'.ownBlock ≠ some p := fun x hx p hp e => by
      rcases hv with hv | hv
      ·rw [hv] at e; cases e
      ·rw [hv, hsz] at e
       have := (hold x hx p hp).1
       have := Option.some.inj e
       omega
     rcases (hmem x).1 hx with hx | rfl
     ·rcases (hmem y).1 hy with hy | rfl
      ·exact hE.apart x hx y hy hne
      ·exact fun p hp => hnew x hx p hp
     ·rcases (hmem y).1 hy with hy | rfl
      ·exact fun p hp e => hnew y hy p e hp
      ·exact absurd rfl hne
 ·have hm0 := List.mem_of_getElem? h2
  have hj : es[j]? = some e0 := by simpa using h2
  have hsame : es.modify j (fun e => { e with key := κ k }) = es := by
   apply Array.ext'
   apply List.ext_getElem?
   intro i
   rw [Array.toList_modify, List.getElem?_modify]
   by_cases hij : j = i
   ·subst hij
    rw [h2]
    simp [← h3]
   ·simp [hij]
  refine ⟨e0.val, goInt e0.born, setBlock W b (.map es clock), ?_, setBlock_grown hb, by simp [setBlock], ?_, (fun p hp => (hold e0 hm0 p hp).2), fun W2 v' zs hg hr hv => ?_⟩
  ·simp [Instr.mapEntry, run_underlying ht, MapKept.run_getObj_map hb, L.check W _ hl, h1, hj, h3, L.stays W hl, hsame, MapKept.run_setObj_map _ hb, setBlock, Result.andThen]
  ·exact ownsRow_same (hE.at_ hinj hm0 h3) fun p hp => setBlock_other hb (hold e0 hm0 p hp).2
  ·have hb1 := setBlock_at (o' := .map es clock) hb
   have hb2 : W2.heap[b]? = some (.map es clock) := (hg.block b (lt_of_heap hb1) (fun e => (hold e0 hm0 b e.symm).2 rfl)).trans hb1
   have hsz : (setBlock W b (.map es clock)).heap.size = W.heap.size := by simp [setBlock]
   have hidx : es.findIdx? (fun e => ((e.born : Nat) : Int) == ((e0.born : Nat) : Int)) = some j := by
    rw [WideElems.findIdx_arr]
    exact WideElems.findIdx_born hE.nodup h2
   refine ⟨setBlock W2 b (.map (es.modify j fun e => { e with val := v' }) clock), ?_, setBlock_grown hb2, ⟨_, _, setBlock_at hb2, ?_⟩⟩
   ·simp [Instr.entryStore, MapKept.run_getObj_map hb2, asInt, asIntOf, goInt, hidx, MapKept.run_setObj_map _ hb2, setBlock, Result.andThen]
   ·have hrow : ∀ x ∈ es.toList, x.key ≠ κ k → ∀ p, x.val.ownBlock = some p → (setBlock W2 b (.map (es.modify j fun e => { e with val := v' }) clock)).heap[p]? = W.heap[p]? := fun x hx hne p hp => by
     obtain ⟨p1, p2⟩ := hold x hx p hp
     rw [setBlock_other hb2 p2, hg.block p (by rw [hsz]; exact p1) (fun e => hE.apart x hx e0 hm0 (by rw [h3]; exact hne) p hp e.symm), setBlock_other hb p2]
    have hcs : ∀ x ∈ (es.modify j fun e => { e with val := v' }).toList, (x.key = κ k ∧ x.val = v') ∨ (x ∈ es.toList ∧ x.key ≠ κ k) := fun x hx => by
     rcases mem_modify h2 hx with rfl | ⟨i, hij, hi⟩
     ·exact .inl ⟨h3, rfl⟩
     ·refine .inr ⟨List.mem_of_getElem? hi, fun e => hij ?_⟩
      have hx0 := key_uniq hE.keys (List.mem_of_getElem? hi) hm0 (e.trans h3.symm)
      subst hx0
      have hbn := hE.nodup
      obtain ⟨a1, a2⟩ := List.getElem?_eq_some_iff.1 hi
      obtain ⟨c1, c2⟩ := List.getElem?_eq_some_iff.1 h2
      exact (List.getElem_inj (i := i) (j := j) (h₀ := by rw [List.length_map]; exact a1) (h₁ := by rw [List.length_map]; exact c1) hbn).1 (by rw [List.getElem_map, List.getElem_map, a2, c2])
    refine ⟨fun x hx => ?_, ?_, ?_, fun x hx => ?_, fun k2 hk2 => ?_, fun x hx y hy hne => ?_⟩
    ·rcases mem_modify h2 hx with rfl | ⟨i, _, hi⟩
     ·exact hE.born e0 hm0
     ·exact hE.born x (List.mem_of_getElem? hi)
    ·exact (map_modify (es := es) (j := j) (g := fun e => { e with val := v' }) (p := fun x => x.born) (fun _ => rfl)) ▸ hE.nodup
    ·exact pw_map (p := fun x => x.key) (r := fun x y => x ≠ y) hE.keys (map_modify (es := es) (j := j) (g := fun e => { e with val := v' }) (p := fun x => x.key) (fun _ => rfl))
    ·rcases hcs x hx with ⟨e1, e2⟩ | ⟨e1, e2⟩
     ·refine ⟨k, e1, ⟨l, hl⟩, ?_⟩
      rw [if_pos rfl, e2]
      exact ownsRow_same hr fun p hp => setBlock_other hb2 (row_not_map hr hb2 hp)
     ·obtain ⟨k2, a1, a2, a3⟩ := hE.is x e1
      refine ⟨k2, a1, a2, ?_⟩
      rw [if_neg (fun e => e2 (by rw [a1, e]))]
      exact ownsRow_same a3 (hrow x e1 e2)
    ·by_cases e : k2 = k
     ·refine ⟨_, modify_mem h2, ?_⟩
      rw [if_pos rfl, e]; exact h3
     ·rw [if_neg e] at hk2
      obtain ⟨x, hx, hxk⟩ := hE.all k2 hk2
      obtain ⟨i, hi⟩ := List.getElem?_of_mem hx
      refine ⟨_, modify_mem (j := j) (g := fun e => { e with val := v' }) hi, ?_⟩
      by_cases hij : j = i
      ·rw [if_pos hij]; exact hxk
      ·rw [if_neg hij]; exact hxk
    ·have hnew : ∀ x ∈ es.toList, x.key ≠ κ k → ∀ p, x.val.ownBlock = some p → v'.ownBlock ≠ some p := fun x hx hne p hp e => by
      rcases hv with hv | hv
      ·rw [hv] at e; exact hE.apart x hx e0 hm0 (by rw [h3]; exact hne) p hp e
      ·rw [hv, hsz] at e
       have := (hold x hx p hp).1
       have := Option.some.inj e
       omega
     rcases hcs x hx with ⟨e1, e2⟩ | ⟨e1, e2⟩
     ·rcases hcs y hy with ⟨d1, d2⟩ | ⟨d1, d2⟩
      ·exact absurd (e1.trans d1.symm) hne
      ·exact fun p hp e => hnew y d1 d2 p e (by rw [← e2]; exact hp)
     ·rcases hcs y hy with ⟨d1, d2⟩ | ⟨d1, d2⟩
      ·exact fun p hp => by rw [d2]; exact hnew x e1 e2 p hp
      ·exact hE.apart x e1 y d1 hne
theorem St.foreign {w0 W' : World} {O : Own} {row : Option Nat} (h : St w0 O [] [] W) (hg : W.grownBy W' row) (hb : ∀ k, row = some k → w0.heap.size ≤ k ∧ ∀ p ∈ O, p.1 ≠ k) : St w0 O [] [] W' where
 below := h.below.grown hg h.below.size (fun k hk => (hb k hk).1)
 own := fun p hp => by
  obtain ⟨h1, h2⟩ := h.own p hp
  exact ⟨h1, (hg.block _ (lt_of_heap h2) (fun e => (hb _ e.symm).2 p hp rfl)).trans h2⟩
 dist := h.dist
 kept := fun q hq => by cases hq
 rows := fun g hg => by cases hg
 gdist := List.Pairwise.nil
variable {n : Nat} {ops : Array Oper} {Q : Exit → Act → World → Prop} {os : List Oper} {l : Fr} {w0 : World} {O : Own} {G : Grows} {Kk : List (Nat × World)} {d : Nat} {ty : TypeId} {pos : String} {aft : Array Edge}
theorem op_makeMap (hS : St w0 O G Kk W) (hd : Nat.blt d n = true) (h : ∀ B W', W'.heap[B]? = some (.map #[] 0) → W.heap.size ≤ B → St w0 O G ((W.heap.size, W') :: Kk) W' → OpsF P n ops Q os ((d, .map (some B)) :: l) W') : OpsF P n ops Q (⟨some d, .makeMap T none, ty, pos, aft, none⟩ :: os) l W :=
 opV (W' := W.alloc (.map #[] 0)) (v := .map (some W.heap.size)) (fun ev he => by
  unfold execOp
  simp [Instr.makeMap, Result.andThen]) hd (h _ _ (heap_alloc_new W _) (Nat.le_refl _) (hS.call ((Below.refl _ _).alloc (Nat.le_refl _) _)))
theorem rn_lookup {m x : Operand} {v u : Value} {w : World} {key : Value} (hm : evL l m = some u) (hx : evL l x = some key) (hr : (Instr.lookup T u key false).run P w = .ok v w) : Runs P l ⟨some d, .lookup T m x false, ty, pos, aft, none⟩ w v w := fun ev he => by
 unfold execOp; simp only []; rw [he m _ hm, he x _ hx]
 simp [hr, Result.andThen]
theorem rn_cap {x : Operand} {t e : TypeId} {ad : Option Addr} {m c : Nat} (ht : P.underlying t = some (.slice e)) (hx : evL l x = some (.slice ad m c)) : Runs P l ⟨some d, .call { callee := .builtin .cap, args := #[x], argTypes := #[t] }, ty, pos, aft, none⟩ W (.int .i64 (c : Int)) W := fun ev he => by
 unfold execOp; simp [resolve, invoke, builtin, he x _ hx, Builtin.cap_, run_underlying ht, goInt]
theorem op_group [DecidableEq α] {pos1 pos2 pos3 pos4 pos5 : String} {ty1 ty2 ty3 ty4 ty5 t : TypeId} {af1 af2 af3 af4 af5 : Array Edge} {d1 d2 d3 d4 B : Nat} {m kx y : Operand} {k : α} {u z : Value} {inf : TypeInfo} (hS : St w0 O [] [] W) (hM : Grp P K E κ lo f b W) (hO : ∀ p ∈ O, p.1 ≠ b ∧ p.1 < lo) (hwb : w0.heap.size ≤ b) (hwl : w0.heap.size ≤ lo) (hlo : lo ≤ W.heap.size)
  (L : KeyLaw P K) (ht : P.underlying T = some (.map K S)) (hz : ∀ w, (zeroValue S).run P w = .ok (.slice none 0 0) w) (hk : ∃ l, keyOf P K (κ k) = some l) (hinj : ∀ x y, κ x = κ y → x = y)
  (hU : P.underlying t = some (.slice E)) (hinf : P.info? E = some inf) (hzi : inf.zero = some z) (hzs : z.cells.size = inf.size) (hsz : inf.size = 1)
  (hm : evL l m = some (.map (some b))) (hkx : evL l kx = some (κ k)) (hy : evL l y = some (.slice (some ⟨B, 0, none⟩) 1 1)) (hB : W.heap[B]? = some (.cells #[u] E (0, 0))) (hu : u.oneCell' = true)
  (h63 : (f k).length + 1 ≤ maxLen) (hbytes : ((f k).length + 1) * inf.bytes ≤ 140737488355328)
  (hd1 : Nat.blt d1 n = true) (hd2 : Nat.blt d2 n = true) (hd3 : Nat.blt d3 n = true) (hd4 : Nat.blt d4 n = true)
  (hl1 : ∀ v1, evL ((d1, v1) :: l) y = evL l y) (hl2 : ∀ v1 v2, evL ((d2, v2) :: (d1, v1) :: l) y = evL l y) (hl3 : ∀ v1 v2 v3, evL ((d3, v3) :: (d2, v2) :: (d1, v1) :: l) (.tmp d1) = some v1) (hl4 : ∀ v1 v2 v3 v4, evL ((d4, v4) :: (d3, v3) :: (d2, v2) :: (d1, v1) :: l) m = evL l m ∧ evL ((d4, v4) :: (d3, v3) :: (d2, v2) :: (d1, v1) :: l) (.tmp d3) = some v3)
  (h : ∀ v1 v2 v3 v4 W', St w0 O [] [] W' → Grp P K E κ lo (fun x => if x = k then f k ++ [u] else f x) b W' → lo ≤ W'.heap.size → OpsF P n ops Q os ((d4, v4) :: (d3, v3) :: (d2, v2) :: (d1, v1) :: l) W') :
  OpsF P n ops Q (⟨some d1, .mapEntry T m kx, ty1, pos1, af1, none⟩ :: ⟨some d2, .extract (.tmp d1) 0, ty2, pos2, af2, none⟩ :: ⟨some d3, .call { callee := .builtin .append, args := #[.tmp d2, y], argTypes := #[t, t] }, ty3, pos3, af3, none⟩ :: ⟨some d4, .extract (.tmp d1) 1, ty4, pos4, af4, none⟩ :: ⟨none, .entryStore T m (.tmp d4) (.tmp d3), ty5, pos5, af5, none⟩ :: os) l W := by
 obtain ⟨v0, st, W1, r1, g1, s1, o1, nb, back⟩ := hM.entry L ht hz hk hinj
 refine opV (W' := W1) (v := .tuple #[v0, st]) (fun ev he => by
  unfold execOp; simp only []; rw [he m _ hm, he kx _ hkx]; simp [r1, Result.andThen]) hd1 ?_
 refine opV (W' := W1) (v := v0) (rn_extract (vs := #[v0, st]) (by simp [evL, look]) rfl) hd2 ?_
 have hS1 := hS.foreign g1 (fun k hk => by cases hk; exact ⟨hwb, fun p hp => (hO p hp).1⟩)
 have hBb : B ≠ b := fun e => by
  obtain ⟨es, clock, hb, _⟩ := hM
  rw [e, hb] at hB; cases hB
 have hB1 : W1.heap[B]? = some (.cells #[u] E (0, 0)) := (g1.block B (lt_of_heap hB) (fun e => hBb (Option.some.inj e))).trans hB
 rw [← hsz] at o1
 obtain ⟨v', W2, r2, o2, g2, e2⟩ := append_own2 (P := P) (w := W1) lo t ty3 E inf z hU hinf hzi hzs (by omega) v0 _ _ o1 ⟨B, 0, none⟩ 1 1 [u] (by simp [hsz]) (fun j x hj => by
  rw [Addr.add_lit, Nat.zero_add]
  simp only [World.cell?, hB1]
  simpa using hj) (fun x hx => by simp at hx; subst hx; exact hu) h63 hbytes (by omega)
 refine opV (W' := W2) (v := v') (fun ev he => ?_) hd3 ?_
 ·have ex := he (.tmp d2) v0 (by simp [evL, look])
  have ey := he y _ ((hl2 _ _).trans hy)
  unfold execOp
  simp only [resolve, invoke, builtin, Sem.run_bind, Sem.run_pure, Result.andThen_ok, List.map_toArray, List.map_cons, List.map_nil, ex, ey, r2]
 have hS2 := hS1.foreign g2 (fun k hk => ⟨Nat.le_trans hwl (o1.lt k hk).1, fun p hp e => by
  have := (hO p hp).2
  have := (o1.lt k hk).1
  omega⟩)
 refine opV (W' := W2) (v := st) (rn_extract (vs := #[v0, st]) (hl3 _ _ _) rfl) hd4 ?_
 obtain ⟨W3, r3, g3, m3⟩ := back W2 v' (f k ++ [u]) g2 (by rw [← hsz, List.length_append]; exact o2) e2
 have hS3 := hS2.foreign g3 (fun k hk => by cases hk; exact ⟨hwb, fun p hp => (hO p hp).1⟩)
 intro a ha
 refine wpList_plain rfl fun K' hK => ?_
 unfold Oper.wp execOp
 simp only []
 rw [ha.ev m _ ((hl4 _ _ _ _).1.trans hm), ha.ev (.tmp d4) st (by simp [evL, look]), ha.ev (.tmp d3) v' (hl4 _ _ _ _).2]
 simp only [Sem.run_bind, r3, Result.andThen_ok, Sem.run_pure, Oper.upon_skip]
 exact hK _ _ (h _ _ _ _ W3 hS3 m3 (by have a1 := g2.size; have a2 := g3.size; omega) _ ha)
theorem op_cutNil {T e : TypeId} {x y : Operand} {kk : IntKind} {j : Int} {s : Nat} (hU : P.underlying T = some (.slice e)) (hs : ∀ w, (sizeOf e).run P w = .ok s w) (hx : evL l x = some (.slice none 0 0)) (hy : evL l y = some (.int kk j)) (hj : j = 0) (hd : Nat.blt d n = true)
  (h : OpsF P n ops Q os ((d, .slice none 0 0) :: l) W) : OpsF P n ops Q (⟨some d, .slice T x none (some y) none, ty, pos, aft, none⟩ :: os) l W :=
 opV (v := .slice none 0 0) (fun ev he => by
  subst hj
  unfold execOp; simp only [Option.map_some, Option.map_none]; rw [he x _ hx, he y _ hy]
  simp [Instr.sliceAt, Instr.slice, Instr.sliceBounds, Instr.sliceBound, run_underlying hU, asIntOf, hs, Result.andThen]) hd h
theorem op_growNil {T e tn : TypeId} {inf : TypeInfo} {z : Value} {x y : Operand} {m : Nat} {i : Int} {kn : IntKind} (hS : St w0 O G Kk W) (hU : P.underlying T = some (.slice e)) (hUn : P.underlying tn = some (.int kn)) (hinf : P.info? e = some inf) (hz : inf.zero = some z) (hzs : z.cells.size = inf.size) (hsz : inf.size = 1)
  (hx : evL l x = some (.slice none 0 0)) (hy : evL l y = some (.int .i64 i)) (hi : i = (m : Int)) (h0 : 0 < m) (h63 : m ≤ maxLen) (hb : m * inf.bytes ≤ 281474976710656) (hd : Nat.blt d n = true)
  (h : ∀ B c xs W', xs.length = m → St w0 O (⟨.slice (some ⟨B, 0, none⟩) m c, m, xs, e, 1⟩ :: G) Kk W' → OpsF P n ops Q os ((d, .slice (some ⟨B, 0, none⟩) m c) :: l) W') : OpsF P n ops Q (⟨some d, .call { callee := .builtin .append, args := #[x, y], argTypes := #[T, tn] }, ty, pos, aft, none⟩ :: os) l W := by
 subst hi
 have hr := Lib.run_append_nil_zeros (P := P) W T tn ty e inf z .i64 kn hU hUn hinf hz m h0 (by omega) (by simp only [maxLen] at h63; omega) hb
 have hge := grownCap_ge W m 0 e
 have hle := grownCap_le_maxLen W m 0 e h63
 obtain ⟨c, hc⟩ : ∃ c, c = grownCap W m 0 e := ⟨_, rfl⟩
 rw [← hc] at hr hge hle
 obtain ⟨cs, hcs⟩ : ∃ cs, cs = Builtin.zeroCells z.cells m ++ Builtin.zeroCells z.cells (c - m) := ⟨_, rfl⟩
 rw [← hcs] at hr
 have hl : cs.size = c * 1 := by
  rw [hcs]
  simp [Builtin.zeroCells, hzs, hsz]
  omega
 refine opV (W' := W.drew.alloc (.cells cs e)) (v := .slice (some ⟨W.heap.size, 0, none⟩) m c) (fun ev he => ?_) hd (h W.heap.size c (cs.toList.take (m * 1)) _ (by rw [List.length_take, Array.length_toList]; omega) ?_)
 ·unfold execOp
  simp only [resolve, invoke, builtin, Sem.run_bind, Sem.run_pure, Result.andThen_ok, List.map_toArray, List.map_cons, List.map_nil, he x _ hx, he y _ hy, hr]
 ·refine hS.adopt ((Below.refl _ _).drew.alloc (Nat.le_refl _) _) ⟨by rw [List.length_take, Array.length_toList]; omega, .inr ⟨W.heap.size, c, cs, rfl, Nat.le_refl _, heap_alloc_new W.drew _, hge, hle, hl, rfl⟩⟩
theorem own_off {es : Array MapEntry} {clock : Nat} (hS : St w0 O G Kk W) (hb : W.heap[b]? = some (.map es clock)) : ∀ p ∈ O, p.1 ≠ b ∧ p.1 < W.heap.size := fun p hp => by
 refine ⟨fun e => ?_, hS.own_lt p hp⟩
 have h1 := (hS.own p hp).2
 rw [e, hb] at h1
 cases h1
theorem Grp.lt (h : Grp P K E κ lo f b W) : b < W.heap.size := by
 obtain ⟨es, clock, h1, _⟩ := h
 exact lt_of_heap h1
def cutW (W : World) (b : Nat) : World := { W with heap := W.heap.extract 0 (b + 1) }
theorem cutW_size (h : b < W.heap.size) : (cutW W b).heap.size = b + 1 := by simp [cutW]; omega
theorem cutW_lt (h : b < W.heap.size) : b < (cutW W b).heap.size := by rw [cutW_size h]; exact Nat.lt_succ_self _
theorem cutW_at (h : b < W.heap.size) : (cutW W b).heap[b]? = W.heap[b]? := by
 rw [Array.getElem?_eq_getElem (cutW_lt h), Array.getElem?_eq_getElem h]
 simp [cutW]
theorem St.markAt {b : Nat} (h : St w0 O [] Kk W) (hb : b < W.heap.size) (hO : ∀ p ∈ O, p.1 ≠ b) : St w0 O [] ((b, cutW W b) :: Kk) W where
 below := h.below
 own := h.own
 dist := h.dist
 kept := fun q hq => by
  rcases List.mem_cons.1 hq with rfl | hq
  ·refine ⟨⟨by show (cutW W b).heap.size ≤ _; rw [cutW_size hb]; exact hb, fun x h1 h2 => ?_⟩, fun p hp => ?_⟩
   ·have h3 : x < b + 1 := by rw [← cutW_size hb]; exact h2
    have h4 : b ≤ x := h1
    obtain rfl : x = b := by omega
    exact (cutW_at hb).symm
   ·have := hO p hp
    show p.1 < b ∨ (cutW W b).heap.size ≤ p.1
    rw [cutW_size hb]; omega
  ·exact h.kept q hq
 rows := fun g hg => by cases hg
 gdist := List.Pairwise.nil
end
end Go.Proofs.YtgjojhmninbkoaaDoor
namespace Go.Proofs.YtgjojhmninbkoaaDoor
open Go Go.RowKit
open Go.WideMaps (KeyLaw)
abbrev kv (k : Int × Int) : Value := .agg #[.int .i64 k.1, .int .i64 k.2]
theorem kv_inj (x y : Int × Int) (h : kv x = kv y) : x = y := by
 obtain ⟨a, b⟩ := x
 obtain ⟨c, d⟩ := y
 simp at h
 rw [h.1, h.2]
theorem topRow : (82 : TypeId) < Tryd.prog.types.size := of_decide_eq_true (by kernel_rfl)
theorem pos_of_lt {a b : Nat} (h : a < b) : b = b - 1 + 1 := by omega
theorem topSize : Tryd.prog.types.size = Tryd.prog.types.size - 1 + 1 := pos_of_lt topRow
theorem topWide : (match Tryd.prog.underlying 82 with | some (.array _ _) | some (.struct _) => true | _ => false) = true := by rw [Tryd.underlying82]
theorem topLaw : KeyLaw Tryd.prog 82 := deep_law_laid (by kernel_rfl) (m := 2) (by omega) topRow (by kernel_rfl) topWide
theorem topCells : Tryd.prog.cellsOf 82 = 2 := by kernel_rfl
theorem intCells : Tryd.prog.cellsOf 3 = 1 := by kernel_rfl
theorem topKey {p g : Int} (hp : (Lit.int .i64 p).wf = true) (hg : (Lit.int .i64 g).wf = true) : ∃ l, keyOf Tryd.prog 82 (kv (p, g)) = some l := by
 have h1 : Tryd.prog.keyType 82 = true := by kernel_rfl
 have h2 : (kv (p, g)).formed Tryd.prog 82 = true := by simp [Value.formed, Tryd.underlying82, topCells]
 have hi : ∀ (d : Nat) (x : Int), (Lit.int .i64 x).wf = true → Tryd.prog.keyLits (d + 1) 3 [.int .i64 x] = some [.int .i64 x] := fun d x hx => by simp [Program.keyLits, Tryd.underlying3, hx]
 obtain ⟨m, hm⟩ : ∃ m, Tryd.prog.types.size = m + 1 := ⟨Tryd.prog.types.size - 1, topSize⟩
 unfold keyOf
 rw [Tryd.underlying82]
 simp only [h1, h2, Bool.and_self, if_true]
 rw [hm]
 simp [Program.keyLits, Tryd.underlying82, topCells, intCells, hi m p hp, hi m g hg, Value.cells, hp, hg]
theorem wf_small {x : Int} (h0 : 0 ≤ x) (h1 : x ≤ 1000000) : (Lit.int .i64 x).wf = true := by
 have e1 : IntKind.i64.min = -9223372036854775808 := rfl
 have e2 : IntKind.i64.max = 9223372036854775807 := rfl
 simp [Lit.wf]
 omega
end Go.Proofs.YtgjojhmninbkoaaDoor
namespace Go.Proofs.YtgjojhmninbkoaaDoor
open Go Go.RowKit
theorem bs_112_2 (v0a : Option Addr) (v0l : Nat) (v0c : Nat) (v1a : Option Addr) (v1l : Nat) (v1c : Nat) : Instr.fill (fun i => some (i * 1, 1)) ((Array.range (2 * 1)).map ((Value.cells (.slice none 0 0))[· % (Value.cells (.slice none 0 0)).size]!)) [(0, .slice v0a v0l v0c), (1, .slice v1a v1l v1c)] = some (List.toArray [.slice v0a v0l v0c, .slice v1a v1l v1c]) := by kernel_rfl
theorem goes_36 : goesIn Tryd.prog 36 = true := by kernel_rfl
theorem goes_50 : goesIn Tryd.prog 50 = true := by kernel_rfl
theorem grow_is (n : Nat) (w : World) (hn : n ≤ 65536) :
  Calls Tryd.prog 50 #[.slice none 0 0, .int .i64 (n : Int)] w (fun e w' => ∃ v, e = .returned v ∧ Below w.heap.size w w' ∧ w'.ownsRow w.heap.size 3 1 v 0 []) := by
 refine enterF (args := [.slice none 0 0, .int .i64 (n : Int)]) Tryd.func50 rfl Tryd.ntmps50 rfl ?_
 have hS := St.start w
 refine seqF (regF ?_)
 refine op_assign rfl rfl ?_
 refine endF (XF.thenN ?_)
 refine seqF ?_
 refine seqF (regF ?_)
 refine op_move rfl rfl ?_
 refine op_lss rfl rfl rfl ?_
 refine endF (XF.thenN ?_)
 refine condF rfl (fun hc => absurd (of_decide_eq_true hc) (by omega)) (fun hc => ?_)
 have hc := of_decide_eq_false hc
 refine skipF ?_
 refine XF.thenN ?_
 refine seqF ?_
 refine seqF (regF ?_)
 refine op_move rfl rfl ?_
 refine op_move rfl rfl ?_
 refine opV (rn_cap Tryd.underlying29 rfl) rfl ?_
 refine op_move rfl rfl ?_
 refine op_len Tryd.underlying29 rfl rfl ?_
 refine op_sub rfl rfl (IntWalk.i64_in _ (by omega)) rfl ?_
 refine op_sub rfl rfl (IntWalk.i64_in _ (by omega)) rfl ?_
 refine op_assign rfl rfl ?_
 refine endF (XF.thenN ?_)
 refine seqF (regF ?_)
 refine op_move rfl rfl ?_
 refine op_gtr rfl rfl rfl ?_
 refine endF (XF.thenN ?_)
 refine condF rfl (fun hc => ?_) (fun hc => ?_)
 ·have hc16 := of_decide_eq_true hc; clear hc
  have hn0 : 0 < n := by omega
  refine regF ?_
  refine op_move rfl rfl ?_
  refine op_move rfl rfl ?_
  refine opV (rn_cap Tryd.underlying29 rfl) rfl ?_
  refine op_cutNil Tryd.underlying29 Tryd.sizeOf3 rfl rfl rfl rfl ?_
  refine op_move rfl rfl ?_
  refine op_growNil (m := n) hS Tryd.underlying29 Tryd.underlying3 inf_3 rfl rfl rfl rfl rfl (by omega) hn0 (by simp only [maxLen]; omega) (by show n * 8 ≤ _; omega) rfl ?_
  clear hS; intro B9 c9 xs9 W9 hx9 hS
  refine op_move rfl rfl ?_
  refine op_len Tryd.underlying29 rfl rfl ?_
  refine op_cut hS 0 (k := 0) Tryd.underlying29 Tryd.sizeOf3 rfl rfl rfl (by omega) (Nat.zero_le _) rfl ?_
  clear hS; intro hS
  refine op_assign rfl rfl ?_
  refine endF (XF.thenN ?_)
  refine seqF (regF ?_)
  refine op_move rfl rfl ?_
  refine op_assign rfl rfl ?_
  refine endF (XF.thenN ?_)
  refine retF ?_
  refine XF.res (res1 Tryd.results50 rfl) ?_
  exact ⟨_, rfl, hS.below, by simpa using hS.row 0 rfl⟩
 ·have hc16 := of_decide_eq_false hc; clear hc
  have hn0 : n = 0 := by omega
  refine skipF ?_
  refine XF.thenN ?_
  refine seqF (regF ?_)
  refine op_move rfl rfl ?_
  refine op_assign rfl rfl ?_
  refine endF (XF.thenN ?_)
  refine retF ?_
  refine XF.res (res1 Tryd.results50 rfl) ?_
  exact ⟨_, rfl, hS.below, World.ownsRow_nil _ _ _ _⟩
structure LV where
 a : Option Addr
 l : Nat
 c : Nat
 zs : List Int
abbrev LV.val (x : LV) : Value := .slice x.a x.l x.c
def sumL (ls : List LV) : Nat := (ls.map (·.l)).sum
def flatL (ls : List LV) : List Int := ls.flatMap (·.zs)
theorem sum_take {ls : List LV} {i : Nat} {x : LV} (h : ls[i]? = some x) : sumL (ls.take (i + 1)) = sumL (ls.take i) + x.l := by
 unfold sumL
 rw [List.take_add_one, h, List.map_append, List.sum_append]
 simp
theorem sum_le {ls : List LV} {i : Nat} : sumL (ls.take i) ≤ sumL ls := by
 have h := congrArg (fun z => (z.map (·.l)).sum) (List.take_append_drop i ls)
 simp only [List.map_append, List.sum_append] at h
 unfold sumL; omega
theorem flat_take {ls : List LV} {i : Nat} {x : LV} (h : ls[i]? = some x) : flatL (ls.take (i + 1)) = flatL (ls.take i) ++ x.zs := by
 unfold flatL
 rw [List.take_add_one, h, List.flatMap_append]
 simp
theorem flat_len {ls : List LV} (h : ∀ x ∈ ls, x.zs.length = x.l) : (flatL ls).length = sumL ls := by
 unfold flatL sumL
 rw [List.length_flatMap]
 congr 1
 exact List.map_congr_left h
theorem concat_is (B : Nat) (T : TypeId) (ls : List LV) (w : World) (hB : w.heap[B]? = some (.cells (ls.map LV.val).toArray T (0, 0))) (hin : ∀ x ∈ ls, Row w x.a x.zs ∧ x.zs.length = x.l) (hsum : sumL ls ≤ 65536) (hlm : ls.length ≤ 65536) :
  Calls Tryd.prog 36 #[.slice (some ⟨B, 0, none⟩) ls.length ls.length] w (fun e w' => ∃ a c, e = .returned (.slice a (flatL ls).length c) ∧ RowN w.heap.size w' a c (flatL ls) ∧ Below w.heap.size w w') := by
 refine enterF (args := [.slice (some ⟨B, 0, none⟩) ls.length ls.length]) Tryd.func36 rfl Tryd.ntmps36 rfl ?_
 have hS := St.start w
 refine seqF (regF ?_)
 refine op_assign rfl rfl ?_
 refine endF (XF.thenN ?_)
 refine seqF (regF ?_)
 refine op_assign rfl rfl ?_
 refine endF (XF.thenN ?_)
 refine seqF ?_
 refine seqF (regF ?_)
 refine op_move rfl rfl ?_
 refine op_len Tryd.underlying112 rfl rfl ?_
 refine op_move rfl rfl ?_
 refine endF (XF.thenN ?_)
 refine blockF ?_
 refine loopF (fun m l W => ∃ i s : Nat, i ≤ ls.length ∧ m = ls.length - i ∧ l = [(0, .slice (some ⟨B, 0, none⟩) ls.length ls.length), (3, .int .i64 (s : Int)), (9, .slice (some ⟨B, 0, none⟩) ls.length ls.length), (10, .int .i64 (ls.length : Int)), (11, .int .i64 (i : Int))] ∧ s = sumL (ls.take i) ∧ St w [] [] [] W) (ls.length - 0) ([(0, _), (3, _), (9, _), (10, _), (11, _)]) ⟨rfl, rfl, rfl, rfl, rfl, trivial⟩ (⟨0, 0, Nat.zero_le _, rfl, rfl, rfl, hS.clear⟩) ?_
 clear hS
 rintro m l W ⟨i, s, hi, rfl, rfl, hs, hS⟩
 refine seqF (regF ?_)
 refine op_lss rfl rfl rfl ?_
 refine endF (XF.thenN ?_)
 refine seqF ?_
 refine condF rfl (fun hc => ?_) (fun hc => ?_)
 ·have hc12 := of_decide_eq_true hc; clear hc
  have hk : i < ls.length := by omega
  obtain ⟨x, hx⟩ : ∃ x, ls[i]? = some x := ⟨ls[i], by simp [hk]⟩
  have k1 : W.cell? ⟨B, 0 + i * 1, none⟩ = some x.val := cell_own (cs := ls.map LV.val) ((hS.below.block B (lt_of_heap hB)).trans hB) (by rw [Nat.zero_add, Nat.mul_one, List.getElem?_map, hx]; rfl)
  have hsx := sum_take hx
  have hle := sum_le (ls := ls) (i := i + 1)
  obtain ⟨hrx, hlx⟩ := hin x (List.mem_of_getElem? hx)
  refine skipF ?_
  refine XF.thenN ?_
  refine seqF ?_
  refine blockF ?_
  refine seqF (regF ?_)
  refine op_indexA  Tryd.underlying112 Tryd.sizeOf29 rfl rfl rfl (by omega) rfl rfl ?_
  refine op_load Tryd.isAgg29 rfl (k1) rfl ?_
  refine op_assign rfl rfl ?_
  refine endF (XF.thenN ?_)
  refine seqF (regF ?_)
  refine op_move rfl rfl ?_
  refine op_move rfl rfl ?_
  refine op_len Tryd.underlying29 rfl rfl ?_
  refine op_add rfl rfl (IntWalk.i64_in _ (by omega)) rfl ?_
  refine op_assign rfl rfl ?_
  refine endF (XF.thenN ?_)
  refine seqF (regF ?_)
  refine op_move rfl rfl ?_
  refine op_lss rfl rfl rfl ?_
  refine endF (XF.thenN ?_)
  refine condF rfl (fun hc => absurd (of_decide_eq_true hc) (by omega)) (fun hc => ?_)
  have hc := of_decide_eq_false hc
  refine skipF ?_
  refine XF.blkN ?_
  refine XF.thenN ?_
  refine regF ?_
  refine op_add rfl rfl (IntWalk.i64_in _ (by omega)) rfl ?_
  refine op_move rfl rfl ?_
  refine endF ?_
  exact XF.round (ls.length - (i + 1)) [(0, _), (3, _), (9, _), (10, _), (11, _)] (by omega) ⟨rfl, rfl, rfl, rfl, rfl, trivial⟩ ⟨i + 1, s + x.l, by omega, rfl, rfl, by rw [hs, hsx], hS.clear⟩
 ·have hc12 := of_decide_eq_false hc; clear hc
  rw [List.take_of_length_le (by omega)] at hs
  refine exitF ?_
  refine XF.thenX ?_
  refine XF.thenX ?_
  refine XF.blkX ?_
  refine XF.thenN ?_
  refine seqF (regF ?_)
  refine op_move rfl rfl ?_
  refine op_callG (vs := [_, _]) (xs := []) (e1 := 3) (size := 1) (m := 0) hS goes_50 rfl (grow_is s _ (by omega)) rfl (fun e W2 h => h) ?_
  clear hS; intro v1 W1 hS
  refine op_assign rfl rfl ?_
  refine endF (XF.thenN ?_)
  refine seqF ?_
  refine seqF (regF ?_)
  refine op_move rfl rfl ?_
  refine op_len Tryd.underlying112 rfl rfl ?_
  refine op_move rfl rfl ?_
  refine endF (XF.thenN ?_)
  refine blockF ?_
  refine loopF (fun m l W => ∃ (i : Nat) (v : Value), i ≤ ls.length ∧ m = ls.length - i ∧ l = [(6, v), (25, .slice (some ⟨B, 0, none⟩) ls.length ls.length), (26, .int .i64 (ls.length : Int)), (27, .int .i64 (i : Int))] ∧ St w [] [⟨v, sumL (ls.take i), (flatL (ls.take i)).map (Value.int .i64), 3, 1⟩] [] W) (ls.length - 0) ([(6, _), (25, _), (26, _), (27, _)]) ⟨rfl, rfl, rfl, rfl, trivial⟩ (⟨0, _, Nat.zero_le _, rfl, rfl, hS.clear⟩) ?_
  clear hS
  rintro m l W ⟨i, v, hi, rfl, rfl, hS⟩
  refine seqF (regF ?_)
  refine op_lss rfl rfl rfl ?_
  refine endF (XF.thenN ?_)
  refine seqF ?_
  refine condF rfl (fun hc => ?_) (fun hc => ?_)
  ·have hc28 := of_decide_eq_true hc; clear hc
   have hk : i < ls.length := by omega
   obtain ⟨x, hx⟩ : ∃ x, ls[i]? = some x := ⟨ls[i], by simp [hk]⟩
   have k1 : W.cell? ⟨B, 0 + i * 1, none⟩ = some x.val := cell_own (cs := ls.map LV.val) ((hS.below.block B (lt_of_heap hB)).trans hB) (by rw [Nat.zero_add, Nat.mul_one, List.getElem?_map, hx]; rfl)
   have hsx := sum_take hx
   have hle := sum_le (ls := ls) (i := i + 1)
   obtain ⟨hrx, hlx⟩ := hin x (List.mem_of_getElem? hx)
   refine skipF ?_
   refine XF.thenN ?_
   refine seqF ?_
   refine blockF ?_
   refine seqF (regF ?_)
   refine op_indexA  Tryd.underlying112 Tryd.sizeOf29 rfl rfl rfl (by omega) rfl rfl ?_
   refine op_load Tryd.isAgg29 rfl (k1) rfl ?_
   refine op_assign rfl rfl ?_
   refine endF (XF.thenN ?_)
   refine regF ?_
   refine op_move rfl rfl ?_
   refine op_move rfl rfl ?_
   refine op_appendV (i := 0) (news := x.zs.map (Value.int .i64)) hS Tryd.underlying29 inf_3 rfl rfl (by show 0 < 1; decide) rfl rfl rfl rfl rfl (Row.app (hrx.below hS.below) hlx) (by show (x.zs.map (Value.int .i64)).length = x.l * 1; simpa using hlx) (ints_one x.zs) (by simp only [maxLen]; omega) (by show (sumL (ls.take i) + x.l) * 8 ≤ _; omega) rfl ?_
   clear hS; intro v2 W2 hS
   refine op_assign rfl rfl ?_
   refine endF ?_
   refine XF.blkN ?_
   refine XF.thenN ?_
   refine regF ?_
   refine op_add rfl rfl (IntWalk.i64_in _ (by omega)) rfl ?_
   refine op_move rfl rfl ?_
   refine endF ?_
   exact XF.round (ls.length - (i + 1)) [(6, _), (25, _), (26, _), (27, _)] (by omega) ⟨rfl, rfl, rfl, rfl, trivial⟩ ⟨i + 1, _, by omega, rfl, rfl, hS.clear.castG (by rw [hsx, flat_take hx, List.map_append]; rfl)⟩
  ·have hc28 := of_decide_eq_false hc; clear hc
   rw [List.take_of_length_le (by omega)] at hS
   obtain ⟨a9, c9, rfl, hac⟩ := ownsRow_sl (v := v) (n := sumL ls) (hS.row 0 rfl)
   refine exitF ?_
   refine XF.thenX ?_
   refine XF.thenX ?_
   refine XF.blkX ?_
   refine XF.thenN ?_
   refine seqF (regF ?_)
   refine op_move rfl rfl ?_
   refine op_assign rfl rfl ?_
   refine endF (XF.thenN ?_)
   refine retF ?_
   refine XF.res (res1 Tryd.results36 rfl) ?_
   have hfl := flat_len (fun x hx => (hin x hx).2)
   exact ⟨a9, c9, by rw [hfl], by unfold RowN; rw [hfl]; exact hS.row 0 rfl, hS.below⟩
theorem Row.dropN {w : World} {a ad : Option Addr} {zs : List Int} {l c k : Nat} (h : Row w a zs) (hl : zs.length = l) (hk : k ≤ l) (hlc : l ≤ c) (h1 : c = k → ad = a) (h2 : c ≠ k → ad = a.map (·.add (k * 1))) : Row w ad (zs.drop k) := by
 by_cases e : c = k
 ·exact .inl (List.drop_eq_nil_of_le (by omega))
 ·rcases h with rfl | ⟨b, off, rfl, hc⟩
  ·exact .inl (by simp)
  ·refine .inr ⟨b, off + k, by rw [h2 e]; simp [Addr.add_lit], fun i hi => ?_⟩
   rw [List.length_drop] at hi
   have := hc (k + i) (by omega)
   rw [Nat.add_assoc, this]
   simp [List.getD, List.getElem?_drop]
def RplRet (R : Option (Int × List Int)) (w : World) (e : Ending) (w' : World) : Prop := Below w.heap.size w w' ∧ match R with
 | none => e = .returned (.tuple #[.agg #[.int .i64 0, .slice none 0 0], .bool false])
 | some (p, xs) => ∃ a c, e = .returned (.tuple #[.agg #[.int .i64 p, .slice a xs.length c], .bool true]) ∧ RowN w.heap.size w' a c xs
theorem rplRet_no {R : Option (Int × List Int)} {w w' : World} (hR : R = none) (hb : Below w.heap.size w w') : RplRet R w (.returned (.tuple #[.agg #[.int .i64 0, .slice none 0 0], .bool false])) w' := by subst hR; exact ⟨hb, rfl⟩
theorem rplRet_yes {R : Option (Int × List Int)} {w w' : World} {p : Int} {xs : List Int} {a : Option Addr} {c : Nat} (hR : R = some (p, xs)) (hn : RowN w.heap.size w' a c xs) (hb : Below w.heap.size w w') : RplRet R w (.returned (.tuple #[.agg #[.int .i64 p, .slice a xs.length c], .bool true])) w' := by subst hR; exact ⟨hb, a, c, rfl, hn⟩
theorem replaced_is (p q : Int) (wa va : Option Addr) (wl wc vl vc k : Nat) (ws vs : List Int) (w : World) (hrow : Row w wa ws) (hlen : ws.length = wl) (hrov : Row w va vs) (hlev : vs.length = vl) (hkl : k ≤ vl) (hcv : vl ≤ vc) (hwm : wl ≤ 8192) (hvm : vl ≤ 8192) :
  Calls Tryd.prog 26 #[.int .i64 p, .slice wa wl wc, .agg #[.int .i64 q, .slice va vl vc], .int .i64 (k : Int)] w (RplRet (if 4096 + k < wl + vl then none else some (p, ws ++ vs.drop k)) w) := by
 refine enterF (args := [.int .i64 p, .slice wa wl wc, .agg #[.int .i64 q, .slice va vl vc], .int .i64 (k : Int)]) Tryd.func26 rfl Tryd.ntmps26 rfl ?_
 have hS := St.start w
 refine seqF (regF ?_)
 refine op_box (cs := [_, _]) hS rfl rfl rfl ?_
 clear hS; intro B1 W1 hS
 refine op_alloc (cs := [_, _]) hS Tryd.zeroValue31 rfl rfl ?_
 clear hS; intro B2 W2 hS
 refine op_assign rfl rfl ?_
 refine endF (XF.thenN ?_)
 refine seqF ?_
 refine seqF (regF ?_)
 refine op_move rfl rfl ?_
 refine op_len Tryd.underlying29 rfl rfl ?_
 refine op_field (o' := 1) fa_31_1 rfl rfl rfl ?_
 refine op_load Tryd.isAgg29 rfl (cell_own (hS.at_ 1 rfl) rfl) rfl ?_
 refine op_len Tryd.underlying29 rfl rfl ?_
 refine op_add rfl rfl (IntWalk.i64_in _ (by omega)) rfl ?_
 refine op_move rfl rfl ?_
 refine op_sub rfl rfl (IntWalk.i64_in _ (by omega)) rfl ?_
 refine op_gtr rfl rfl rfl ?_
 refine endF (XF.thenN ?_)
 refine condF rfl (fun hc => ?_) (fun hc => ?_)
 ·have hc18 := of_decide_eq_true hc; clear hc
  refine seqF (regF ?_)
  refine op_build (us := []) rfl (bld_31) rfl ?_
  refine op_storeA (i := 0) (vs := [_, _]) (cs' := [_, _]) (O' := [_, _]) hS Tryd.sizeOf31 rfl rfl rfl rfl rfl rfl rfl ?_
  clear hS; intro W3 hS
  refine op_assign rfl rfl ?_
  refine endF (XF.thenN ?_)
  refine retF ?_
  refine XF.thenR ?_
  refine XF.res (resCT (vs := [_, _]) Tryd.results26 Tryd.isAgg31 Tryd.sizeOf31 rfl (CellsAt.own (j := 0) (m := 2) (hS.at_ 0 rfl) rfl) rfl) ?_
  exact rplRet_no (if_pos (by omega)) hS.below
 ·have hc18 := of_decide_eq_false hc; clear hc
  refine skipF ?_
  refine XF.thenN ?_
  refine seqF (regF ?_)
  refine op_move rfl rfl ?_
  refine op_move rfl rfl ?_
  refine op_field (o' := 1) fa_31_1 rfl rfl rfl ?_
  refine op_load Tryd.isAgg29 rfl (cell_own (hS.at_ 1 rfl) rfl) rfl ?_
  refine op_move rfl rfl ?_
  refine op_sliceFrom  Tryd.underlying29 Tryd.sizeOf3 rfl rfl rfl (by omega) rfl ?_
  intro ad4 hadE4 hadN4
  have hrd := Row.dropN hrov hlev hkl hcv hadE4 hadN4
  clear hadE4 hadN4
  obtain ⟨ad9, had9⟩ : ∃ a, a = ad4 := ⟨_, rfl⟩
  rw [← had9] at hrd ⊢
  refine op_buildSlice (us := [(0, .slice _ _ _), (1, .slice _ _ _)]) hS Tryd.underlying112 Tryd.sizeOf29 Tryd.zeroValue29 rfl rfl rfl (bs_112_2 _ _ _ _ _ _) rfl ?_
  clear hS; intro B5 W5 hS
  have hsz3 := hS.below.size
  refine op_call (vs := [_]) hS goes_36 rfl (concat_is _ _ [⟨wa, wl, wc, ws⟩, ⟨ad9, vl - k, vc - k, vs.drop k⟩] _ (hS.at_ 0 rfl) (fun x hx => by
   simp at hx
   rcases hx with rfl | rfl
   ·exact ⟨hrow.below hS.below, hlen⟩
   ·exact ⟨hrd.below hS.below, by rw [List.length_drop, hlev]⟩) (by show sumL [_, _] ≤ _; unfold sumL; simp; omega) (by simp)) rfl ?_
  rintro e W6 ⟨a9, c9, rfl, hn9, hb⟩
  refine ⟨_, rfl, hb, fun hS' => ?_⟩
  clear hS; have hS := hS'; clear hS' hb
  refine op_build (us := [(0, .int .i64 _), (1, .slice _ _ _)]) rfl (bld_31_0_1 _ _ _ _) rfl ?_
  refine op_storeA (i := 1) (vs := [_, _]) (cs' := [_, _]) (O' := [_, _, _]) hS Tryd.sizeOf31 rfl rfl rfl rfl rfl rfl rfl ?_
  clear hS; intro W7 hS
  refine op_assign rfl rfl ?_
  refine endF (XF.thenN ?_)
  refine retF ?_
  refine XF.res (resCT (vs := [_, _]) Tryd.results26 Tryd.isAgg31 Tryd.sizeOf31 rfl (CellsAt.own (j := 0) (m := 2) (hS.at_ 1 rfl) rfl) rfl) ?_
  have hn8 := (hn9.agree (hS.since 0 rfl)).mono hsz3
  rw [show flatL [⟨wa, wl, wc, ws⟩, ⟨ad9, vl - k, vc - k, vs.drop k⟩] = ws ++ vs.drop k by simp [flatL]] at hn8 ⊢
  exact rplRet_yes (if_neg (by omega)) hn8 hS.below
end Go.Proofs.YtgjojhmninbkoaaDoor
namespace Go.Proofs.YtgjojhmninbkoaaDoor
open Go Go.RowKit
theorem bld_64_0_1 (v0a : Option Addr) (v0l : Nat) (v0c : Nat) (v1 : Option Nat) : Tryd.prog.built 64 [(0, .slice v0a v0l v0c), (1, .map v1)] = some #[.slice v0a v0l v0c, .map v1] := by kernel_rfl
theorem bld_82_0_1 (v0 : Int) (v1 : Int) : Tryd.prog.built 82 [(0, .int .i64 v0), (1, .int .i64 v1)] = some #[.int .i64 v0, .int .i64 v1] := by kernel_rfl
theorem fa_64_1 (w : World) (b o : Nat) : (Instr.fieldAt 64 (.pointer (some ⟨b, o, none⟩)) 1).run Tryd.prog w = .ok (.pointer (some ⟨b, o + 1, none⟩)) w := by
 simp [Instr.fieldAt, run_underlying Tryd.underlying64, Instr.sureAddr, go_sem, Addr.add_lit]
def byL : List RV → Nat → Int × Int → List Int
 | [], _, _ => []
 | r :: rs, i, k => if k = (r.p, r.g) then (i : Int) :: byL rs (i + 1) k else byL rs (i + 1) k
theorem byL_app (r : RV) (k : Int × Int) : ∀ (rs : List RV) (i : Nat), byL (rs ++ [r]) i k = byL rs i k ++ (if k = (r.p, r.g) then [((i + rs.length : Nat) : Int)] else [])
 | [], i => by simp only [byL, List.nil_append, List.length_nil, Nat.add_zero]
 | x :: rs, i => by
  simp only [List.cons_append, byL, byL_app r k rs (i + 1), List.length_cons]
  rw [show i + 1 + rs.length = i + (rs.length + 1) by omega]
  by_cases h : k = (x.p, x.g)
  ·rw [if_pos h, if_pos h]; rfl
  ·rw [if_neg h, if_neg h]
theorem byL_take {rs : List RV} {i : Nat} {r : RV} (h : rs[i]? = some r) (k : Int × Int) : byL (rs.take (i + 1)) 0 k = byL (rs.take i) 0 k ++ (if k = (r.p, r.g) then [(i : Int)] else []) := by
 rw [List.take_add_one, h]
 show byL (rs.take i ++ [r]) 0 k = _
 rw [byL_app, List.length_take, Nat.min_eq_left (Nat.le_of_lt (List.getElem?_eq_some_iff.1 h).1), Nat.zero_add]
theorem byL_len (k : Int × Int) : ∀ (rs : List RV) (i : Nat), (byL rs i k).length ≤ rs.length
 | [], _ => Nat.le_refl _
 | x :: rs, i => by
  have := byL_len k rs (i + 1)
  unfold byL
  split <;> simp <;> omega
abbrev byV (rs : List RV) (k : Int × Int) : List Value := (byL rs 0 k).map (Value.int .i64)
theorem byV_step {rs : List RV} {i : Nat} {r : RV} (h : rs[i]? = some r) : (fun x => if x = (r.p, r.g) then byV (rs.take i) (r.p, r.g) ++ [.int .i64 (i : Int)] else byV (rs.take i) x) = byV (rs.take (i + 1)) := by
 funext x
 unfold byV
 rw [byL_take h x]
 by_cases e : x = (r.p, r.g)
 ·subst e
  rw [if_pos rfl, if_pos rfl, List.map_append]; rfl
 ·rw [if_neg e, if_neg e, List.append_nil]
def GrpT (lo : Nat) (rs : List RV) (b : Nat) (W : World) : Prop := Grp Tryd.prog 82 3 kv lo (byV rs) b W
def Keyed (rs : List RV) : Prop := ∀ r ∈ rs, (0 ≤ r.p ∧ r.p ≤ 1000000) ∧ (0 ≤ r.g ∧ r.g ≤ 1000000)
theorem mover_is (s : SV) (st sy : Int) (ra : Option Addr) (rl rc : Nat) (rs : List RV) (w : World) (hprow : RRow w ra rs) (hplen : rs.length = rl) (hrm : rl ≤ 16384) (hky : Keyed rs) :
  Calls Tryd.prog 17 #[.agg #[.int .i64 s.f.tag, .int .i64 s.f.dim, .slice s.f.a s.f.len s.f.cap, .int .i64 st, .int .i64 sy, .slice ra rl rc]] w (fun e w' => ∃ b, e = .returned (.agg #[.slice ra rl rc, .map (some b)]) ∧ w.heap.size ≤ b ∧ GrpT w.heap.size rs b w' ∧ Below w.heap.size w w') := by
 refine enterF (args := [.agg #[.int .i64 s.f.tag, .int .i64 s.f.dim, .slice s.f.a s.f.len s.f.cap, .int .i64 st, .int .i64 sy, .slice ra rl rc]]) Tryd.func17 rfl Tryd.ntmps17 rfl ?_
 have hS := St.start w
 refine seqF (regF ?_)
 refine op_box (cs := [_, _, _, _, _, _]) hS rfl rfl rfl ?_
 clear hS; intro B1 W1 hS
 refine op_alloc (cs := [_, _]) hS Tryd.zeroValue64 rfl rfl ?_
 clear hS; intro B2 W2 hS
 refine endF (XF.thenN ?_)
 refine seqF (regF ?_)
 refine op_field (o' := 5) fa_28_3 rfl rfl rfl ?_
 refine op_load Tryd.isAgg26 rfl (cell_own (hS.at_ 1 rfl) rfl) rfl ?_
 have hsz0 := hS.below.size
 refine op_makeMap hS rfl ?_
 clear hS; intro bm Wm hbm hlm hS
 refine op_build (us := [(0, .slice _ _ _), (1, .map _)]) rfl (bld_64_0_1 _ _ _ _) rfl ?_
 refine op_alloc (cs := [_, _]) hS Tryd.zeroValue64 rfl rfl ?_
 clear hS; intro B3 W3 hS
 refine op_storeA (i := 0) (vs := [_, _]) (cs' := [_, _]) (O' := [_, _, _]) hS Tryd.sizeOf64 rfl rfl rfl rfl rfl rfl rfl ?_
 clear hS; intro W4 hS
 refine endF (XF.thenN ?_)
 refine seqF ?_
 refine seqF ?_
 have hbm2 := (hS.since 0 rfl).2 bm hlm (lt_of_heap hbm)
 rw [hbm] at hbm2
 have hwb : w.heap.size ≤ bm := Nat.le_trans hsz0 hlm
 obtain ⟨lo, hlo⟩ : ∃ lo, lo = W4.heap.size := ⟨_, rfl⟩
 have hO := own_off hS hbm2
 have hwl := hS.below.size
 rw [← hlo] at hO hwl
 refine regF ?_
 refine op_field (o' := 5) fa_28_3 rfl rfl rfl ?_
 refine op_load Tryd.isAgg26 rfl (cell_own (hS.at_ 2 rfl) rfl) rfl ?_
 refine op_len Tryd.underlying26 rfl rfl ?_
 refine op_move rfl rfl ?_
 refine endF (XF.thenN ?_)
 refine blockF ?_
 refine loopF (fun m l W => ∃ i : Nat, i ≤ rl ∧ m = rl - i ∧ l = [(1, .pointer (some ⟨B1, 0, none⟩)), (2, .pointer (some ⟨B2, 0, none⟩)), (3, .pointer (some ⟨B3, 0, none⟩)), (12, .slice ra rl rc), (13, .int .i64 (rl : Int)), (14, .int .i64 (i : Int))] ∧ Grp Tryd.prog 82 3 kv lo (byV (rs.take i)) bm W ∧ lo ≤ W.heap.size ∧ St w [(B3, [.slice ra rl rc, .map (some bm)], 64), (B2, [.slice none 0 0, .map none], 64), (B1, [.int .i64 s.f.tag, .int .i64 s.f.dim, .slice s.f.a s.f.len s.f.cap, .int .i64 st, .int .i64 sy, .slice ra rl rc], 28)] [] [] W) (rl - 0) ([(1, _), (2, _), (3, _), (12, _), (13, _), (14, _)]) ⟨rfl, rfl, rfl, rfl, rfl, rfl, trivial⟩ (⟨0, Nat.zero_le _, rfl, rfl, Grp.fresh lo hbm2, Nat.le_of_eq hlo, hS.clear⟩) ?_
 clear hS
 rintro m l W ⟨i, hi, rfl, rfl, hM, hlo9, hS⟩
 refine seqF (regF ?_)
 refine op_lss rfl rfl rfl ?_
 refine endF (XF.thenN ?_)
 refine seqF ?_
 refine condF rfl (fun hc => ?_) (fun hc => ?_)
 ·have hc15 := of_decide_eq_true hc; clear hc
  have hk : i < rl := by omega
  obtain ⟨r, hr⟩ : ∃ r, rs[i]? = some r := ⟨rs[i]'(by omega), by simp [show i < rs.length by omega]⟩
  obtain ⟨b, off, rfl, hcs⟩ := hprow.at_ hr
  have k1 := CellsAt.agree hS.agree (Nat.zero_le _) hcs
  obtain ⟨hkp, hkg⟩ := hky r (List.mem_of_getElem? hr)
  have hS := (hS.markAt (Grp.lt hM) (fun p hp => (hO p hp).1)).mark lo (fun p hp => (hO p hp).2) rfl
  refine skipF ?_
  refine XF.thenN ?_
  refine seqF ?_
  refine blockF ?_
  refine seqF (regF ?_)
  refine op_move rfl rfl ?_
  refine op_indexA  Tryd.underlying26 Tryd.sizeOf60 rfl rfl rfl (by omega) rfl rfl ?_
  refine op_loadA (vs := [_, _, _, _, _, _, _, _, _, _]) Tryd.isAgg60 Tryd.sizeOf60 rfl (k1) rfl ?_
  refine op_alloc (cs := [_, _, _, _, _, _, _, _, _, _]) hS Tryd.zeroValue60 rfl rfl ?_
  clear hS; intro B5 W5 hS
  refine op_assign rfl rfl ?_
  refine op_storeA (i := 0) (vs := [_, _, _, _, _, _, _, _, _, _]) (cs' := [_, _, _, _, _, _, _, _, _, _]) (O' := [_, _, _, _]) hS Tryd.sizeOf60 rfl rfl rfl rfl rfl rfl rfl ?_
  clear hS; intro W6 hS
  refine endF (XF.thenN ?_)
  refine seqF (regF ?_)
  refine op_field (o' := 0) fa_60_0 rfl rfl rfl ?_
  refine op_load Tryd.isAgg3 rfl (cell_own (hS.at_ 0 rfl) rfl) rfl ?_
  refine op_field (o' := 1) fa_60_1 rfl rfl rfl ?_
  refine op_load Tryd.isAgg3 rfl (cell_own (hS.at_ 0 rfl) rfl) rfl ?_
  refine op_build (us := [(0, .int .i64 _), (1, .int .i64 _)]) rfl (bld_82_0_1 _ _) rfl ?_
  refine op_alloc (cs := [_, _]) hS Tryd.zeroValue82 rfl rfl ?_
  clear hS; intro B7 W7 hS
  refine op_storeA (i := 0) (vs := [_, _]) (cs' := [_, _]) (O' := [_, _, _, _, _]) hS Tryd.sizeOf82 rfl rfl rfl rfl rfl rfl rfl ?_
  clear hS; intro W8 hS
  refine endF (XF.thenN ?_)
  refine regF ?_
  refine op_field (o' := 1) fa_64_1 rfl rfl rfl ?_
  refine op_load Tryd.isAgg62 rfl (cell_own (hS.at_ 2 rfl) rfl) rfl ?_
  refine op_loadA (vs := [_, _]) Tryd.isAgg82 Tryd.sizeOf82 rfl (CellsAt.own (j := 0) (m := 2) (hS.at_ 0 rfl) rfl) rfl ?_
  refine op_move rfl rfl ?_
  refine op_buildSlice (us := [(0, .int .i64 _)]) hS Tryd.underlying29 Tryd.sizeOf3 Tryd.zeroValue3 rfl rfl rfl (bs_29_1 _) rfl ?_
  clear hS; intro B9 W9 hS
  have hS9 := hS.tail.tail.tail.clear
  have hlo8 := (hS.since 0 rfl).1
  refine op_group (k := (r.p, r.g)) hS9 (Grp.same hM (fun h1 => ((hS.since 1 rfl).2 bm (Nat.le_refl _) (cutW_lt h1)).trans (cutW_at h1)) (fun p h0 h1 => (hS.since 0 rfl).2 p h0 h1)) hO hwb hwl (Nat.le_trans hlo9 hlo8) topLaw Tryd.underlying62 Tryd.zeroValue29 (topKey (wf_small hkp.1 hkp.2) (wf_small hkg.1 hkg.2)) kv_inj Tryd.underlying29 inf_3 rfl rfl rfl rfl rfl rfl (hS.at_ 0 rfl) rfl (by have h9 := byL_len (r.p, r.g) (rs.take i) 0; rw [List.length_take] at h9; rw [List.length_map]; simp only [maxLen]; omega) (by have h9 := byL_len (r.p, r.g) (rs.take i) 0; rw [List.length_take] at h9; rw [List.length_map]; show (_ + 1) * 8 ≤ _; omega) rfl rfl rfl rfl (fun _ => rfl) (fun _ _ => rfl) (fun _ _ _ => rfl) (fun _ _ _ _ => ⟨rfl, rfl⟩) ?_
  clear hS hS9 hM hlo9; intro v1 v2 v3 v4 W9 hS hM hlo9
  rw [byV_step hr] at hM
  refine endF ?_
  refine XF.blkN ?_
  refine XF.thenN ?_
  refine regF ?_
  refine op_add rfl rfl (IntWalk.i64_in _ (by omega)) rfl ?_
  refine op_move rfl rfl ?_
  refine endF ?_
  exact XF.round (rl - (i + 1)) [(1, _), (2, _), (3, _), (12, _), (13, _), (14, _)] (by omega) ⟨rfl, rfl, rfl, rfl, rfl, rfl, trivial⟩ ⟨i + 1, by omega, rfl, rfl, hM, hlo9, hS⟩
 ·have hc15 := of_decide_eq_false hc; clear hc
  rw [List.take_of_length_le (by omega)] at hM
  have hS := (hS.markAt (Grp.lt hM) (fun p hp => (hO p hp).1)).mark lo (fun p hp => (hO p hp).2) rfl
  refine exitF ?_
  refine XF.thenX ?_
  refine XF.thenX ?_
  refine XF.blkX ?_
  refine XF.thenN ?_
  refine seqF (regF ?_)
  refine op_loadA (vs := [_, _]) Tryd.isAgg64 Tryd.sizeOf64 rfl (CellsAt.own (j := 0) (m := 2) (hS.at_ 0 rfl) rfl) rfl ?_
  refine op_storeA (i := 1) (vs := [_, _]) (cs' := [_, _]) (O' := [_, _, _]) hS Tryd.sizeOf64 rfl rfl rfl rfl rfl rfl rfl ?_
  clear hS; intro W10 hS
  refine endF (XF.thenN ?_)
  refine retF ?_
  refine XF.res (resC1 (vs := [_, _]) Tryd.results17 Tryd.isAgg64 Tryd.sizeOf64 rfl (CellsAt.own (j := 0) (m := 2) (hS.at_ 1 rfl) rfl)) ?_
  exact ⟨bm, rfl, hwb, Grp.lower (Grp.same hM (fun h1 => ((hS.since 1 rfl).2 bm (Nat.le_refl _) (cutW_lt h1)).trans (cutW_at h1)) (fun p h0 h1 => (hS.since 0 rfl).2 p h0 h1)) hwl, hS.below⟩
end Go.Proofs.YtgjojhmninbkoaaDoor
namespace Go.Proofs.YtgjojhmninbkoaaDoor
open Go Go.RowKit
theorem okW_plain {f : SF} {ps : List SV} {x : WV} (hp : plainB f.tag f.dim f.len = true) (ho : okW (.mk f ps) x = true) : pwOk f.tag f.dim x.f = true := by
 have h : (if plainB f.tag f.dim f.len = true then pwOk f.tag f.dim x.f else (match (generalizing := false) ps with | [p, q] => pairOk p q x.f x.ps | _ => false)) = true := ho
 rw [if_pos hp] at h
 exact h
theorem space_of {w : World} {d : Nat} {s : SV} (hs : SIn w d s) (hse : spaceE s = 0) : ∃ S : PS, S.ok ∧ SIs w S s.f ∧ ∀ (x : WV) (e : Nat), WIn w e x → okW s x = true → ∃ y, XIs w S x.f y := by
 match d, s, hs with
 | d + 1, .mk f ps, hs =>
  by_cases hp : plainB f.tag f.dim f.len = true
  ·obtain ⟨t, n, a, l, c⟩ := f
   dsimp only at hp
   obtain rfl : l = 0 := (plainB_tag hp).1
   refine ⟨.one t n, hp, ⟨a, c, rfl⟩, fun x e hx ho => ?_⟩
   match e, x, hx, ho with
   | e + 1, .mk g qs, hx, ho =>
    exact ⟨.one g.pf, PIs.of hp hx.1 (okW_plain (f := ⟨t, n, a, 0, c⟩) hp ho)⟩
  ·have hse' : (if plainB f.tag f.dim f.len = true then (0 : Int) else if f.tag = 5 ∧ f.dim = 0 ∧ ps.length = 2 ∧ ps.all SV.pl = true then 0 else 50) = 0 := hse
   rw [if_neg hp] at hse'
   split at hse'
   ·rename_i hq
    obtain ⟨h5, h0, h2, hall⟩ := hq
    obtain ⟨t, n, a, l, c⟩ := f
    dsimp only at h5 h0 hp
    subst h5; subst h0
    obtain ⟨p, q, rfl⟩ := two_of h2
    have hl : 2 = l := hs.1
    subst hl
    simp only [List.all_cons, List.all_nil, Bool.and_true, Bool.and_eq_true] at hall
    obtain ⟨_, b, off, ha, _, hp3, hq3, _, _⟩ := hs.two
    dsimp only at ha
    subst ha
    obtain ⟨⟨pt, pn, pa, pl, pc⟩, pps⟩ := p
    obtain ⟨⟨qt, qn, qa, ql, qc⟩, qps⟩ := q
    have e1 : plainB pt pn pl = true := hall.1
    have e2 : plainB qt qn ql = true := hall.2
    obtain rfl : pl = 0 := (plainB_tag e1).1
    obtain rfl : ql = 0 := (plainB_tag e2).1
    refine ⟨.two pt pn qt qn, ⟨e1, e2⟩, ⟨b, off, c, pa, pc, qa, qc, rfl, hp3, hq3⟩, fun x e hx ho => ?_⟩
    match e, x, hx, ho with
    | e + 1, .mk g qs, hx, ho =>
     have ho' : (if plainB 5 0 2 = true then pwOk 5 0 g else pairOk (.mk ⟨pt, pn, pa, 0, pc⟩ pps) (.mk ⟨qt, qn, qa, 0, qc⟩ qps) g qs) = true := ho
     rw [if_neg (show ¬ plainB 5 0 2 = true from hp)] at ho'
     unfold pairOk at ho'
     simp only [Bool.and_eq_true, Bool.not_eq_true', decide_eq_true_eq] at ho'
     obtain ⟨hbare, hz, h2q, o1, o2⟩ := ho'
     obtain ⟨x1, x2, rfl⟩ := two_of h2q
     obtain ⟨hpl, wb, wo, hpa, _, h6, h7, hx1, hx2⟩ := hx.two
     have hat := hx.1
     have hg : g.c = 0 ∧ g.g = 0 ∧ g.rl = 0 ∧ g.cl = 0 := by
      simp only [bareB, onlyB, hz, Bool.not_false, Bool.true_and, Bool.and_eq_true, Bool.or_eq_true, decide_eq_true_eq] at hbare
      obtain ⟨k1, k2, k3, _⟩ := hbare
      exact ⟨k1.resolve_left (by decide), (k2.resolve_left (by decide)).1, (k2.resolve_left (by decide)).2, k3.resolve_left (by decide)⟩
     have hr0 : g.rows = [] := List.eq_nil_of_length_eq_zero (by have := hat.rl; omega)
     have hc0 : g.cells = [] := List.eq_nil_of_length_eq_zero (by have := hat.cl; omega)
     refine ⟨.two x1.f.pf x2.f.pf, ?_, hg.2.2.1, hg.2.2.2, hpl, wb, wo, x1.f, x2.f, hpa, h6, h7, PIs.of e1 (WIn.at_ hx1) o1, PIs.of e2 (WIn.at_ hx2) o2⟩
     show (⟨g.z, g.c, g.g, g.rows, g.cells⟩ : PF) = pC 0
     unfold pC
     rw [hz, hg.1, hg.2.1, hr0, hc0]
   ·cases hse'
def isX (S : PS) (x : PX) : Asr := fun v w => ∃ f : WF, v = f.val ∧ XIs w S f x
theorem stab_isX {S : PS} {x : PX} : Stab (isX S x) := fun v w w' ⟨f, h1, h2⟩ hb => ⟨f, h1, h2.below hb⟩
def isRowX (S : PS) (xs : List PX) : Asr := fun v w => ∃ b fs, v = .slice (some ⟨b, 0, none⟩) xs.length xs.length ∧ FRow w (some ⟨b, 0, none⟩) fs ∧ XL w S fs xs
theorem stab_isRowX {S : PS} {xs : List PX} : Stab (isRowX S xs) := fun v w w' ⟨b, fs, h1, h2, h3⟩ hb => ⟨b, fs, h1, h2.below hb, h3.below hb⟩
section
variable {n : Nat} {Q : Exit → Act → World → Prop} {l : Fr} {W : World} {ops : Array Oper} {L : List Asr} {i d : Nat} {ty : TypeId} {pos : String} {aft : Array Edge} {gd : Option (Nat × Bool)} {S : PS} {x y z : PX} {p q r : Operand}
theorem rg_rowX2 (hi : ops[i]? = some ⟨some d, .buildSlice 38 2 (List.toArray [(0, p), (1, q)]), ty, pos, aft, gd⟩) (hw : Wants ops L i ⟨some d, .buildSlice 38 2 (List.toArray [(0, p), (1, q)]), ty, pos, aft, gd⟩) (hp : AllP n ops l L i [p, q] [isX S x, isX S y]) (hI : atI L i = isRowX S [x, y]) : RG Tryd.prog n ops Q l W L i :=
 rg_row [isX S x, isX S y] hi hw Tryd.underlying38 Tryd.sizeOf40 Tryd.zeroValue40 rfl rfl hp fun vs w hb hh => by
  obtain ⟨v1, v2, rfl, ⟨f, rfl, hf⟩, g, rfl, hg⟩ := holds2 hh
  exact ⟨f.six ++ g.six, bs_38_2 _ _ _ _ _ _ _ _ _ _ _ _, fun B w' hB h1 h2 => by rw [hI]; exact ⟨B, [f, g], rfl, frow2 h1, xl_cons (hf.below h2) (xl_cons (hg.below h2) xl_nil)⟩⟩
end
section
variable {w : World} {S : PS} {sf : SF} {x y z : PX} {vs : List Value}
end
end Go.Proofs.YtgjojhmninbkoaaDoor
namespace Go.Proofs.YtgjojhmninbkoaaDoor
open Go Go.RowKit
abbrev StT := Int × List Int × PX
def runStep (S : PS) (px : RV → PX) (rs : List RV) (i : Int) (st : StT) : Except Int StT :=
 if i < 0 then .error 5 else match rs[i.toNat]? with
  | none => .error 5
  | some r => if appB r st.1 st.2.1 = false then .error 121 else if 4096 < r.wl + (st.2.1.length - 1) then .error 2 else .ok (r.q, r.ws ++ st.2.1.tail, extX S st.2.2 (px r))
def runF (S : PS) (px : RV → PX) (rs : List RV) : List Int → Nat → StT → Option StT × Int × Int
 | [], _, st => (some st, 0, 0)
 | i :: l, k, st => match runStep S px rs i st with
  | .error c => (none, (k : Int), c)
  | .ok st' => runF S px rs l (k + 1) st'
section
variable {S : PS} {px : RV → PX} {rs : List RV} {i : Int} {l : List Int} {k : Nat} {st st' : StT} {c : Int}
theorem runF_err (h : runStep S px rs i st = .error c) : runF S px rs (i :: l) k st = (none, (k : Int), c) := by simp only [runF, h]
theorem runF_ok (h : runStep S px rs i st = .ok st') : runF S px rs (i :: l) k st = runF S px rs l (k + 1) st' := by simp only [runF, h]
theorem runStep_neg (h : i < 0) : runStep S px rs i st = .error 5 := by unfold runStep; rw [if_pos h]
theorem runStep_big (h : (rs.length : Int) ≤ i) : runStep S px rs i st = .error 5 := by
 unfold runStep; rw [if_neg (by omega), List.getElem?_eq_none (by omega)]
theorem runStep_at {n : Nat} {r : RV} (h : rs[n]? = some r) : runStep S px rs (n : Int) st = if appB r st.1 st.2.1 = false then .error 121 else if 4096 < r.wl + (st.2.1.length - 1) then .error 2 else .ok (r.q, r.ws ++ st.2.1.tail, extX S st.2.2 (px r)) := by
 unfold runStep; rw [if_neg (by omega), Int.toNat_natCast, h]
end
def RunRet (S : PS) (R : Option StT × Int × Int) (w : World) (e : Ending) (w' : World) : Prop := Below w.heap.size w w' ∧ match R with
 | (none, n, c) => e = .returned (.tuple #[.agg #[.int .i64 0, .slice none 0 0], .agg #[.bool false, .int .i64 0, .int .u64 0, .slice none 0 0, .slice none 0 0, .slice none 0 0], .int .i64 n, .int .i64 c])
 | (some st, _, _) => ∃ a c f, e = .returned (.tuple #[.agg #[.int .i64 st.1, .slice a st.2.1.length c], WF.val f, .int .i64 0, .int .i64 0]) ∧ RowN w.heap.size w' a c st.2.1 ∧ XNew w.heap.size w' S f st.2.2
theorem runRet_none {S : PS} {n c : Int} {w w' : World} (hb : Below w.heap.size w w') : RunRet S (none, n, c) w (.returned (.tuple #[.agg #[.int .i64 0, .slice none 0 0], .agg #[.bool false, .int .i64 0, .int .u64 0, .slice none 0 0, .slice none 0 0, .slice none 0 0], .int .i64 n, .int .i64 c])) w' := by
 unfold RunRet
 exact ⟨hb, rfl⟩
theorem drop_at9 {α : Type} {l : List α} {k : Nat} {y : α} (h : l[k]? = some y) : l.drop k = y :: l.drop (k + 1) := by
 obtain ⟨hk, rfl⟩ := List.getElem?_eq_some_iff.1 h
 exact List.drop_eq_getElem_cons hk
theorem us_cases (p q : Int) (us : List Int) : us = [] ∨ (0 < us.length ∧ p ≠ q) ∨ ∃ y t, us = y :: t ∧ p = q := by
 cases us with
 | nil => exact .inl rfl
 | cons y t =>
  by_cases h : p = q
  ·exact .inr (.inr ⟨y, t, rfl, h⟩)
  ·exact .inr (.inl ⟨Nat.succ_pos _, h⟩)
theorem top_at {t : List Int} {y : Int} : ((y :: t).reverse.map (Value.int .i64))[t.length]? = some (.int .i64 y) := by simp
theorem top_cut {t rws : List Int} {y : Int} : ((y :: t).reverse.map (Value.int .i64)).take (t.length * 1) = (t.reverse ++ rws.reverse.take 0).map (Value.int .i64) := by simp
theorem take_app {t rws : List Int} {y : Int} {j n : Nat} (hy : rws[n - 1 - j]? = some y) (hn : rws.length = n) (hj : j < n) : (t.reverse ++ rws.reverse.take j).map (Value.int .i64) ++ [.int .i64 y] = (t.reverse ++ rws.reverse.take (j + 1)).map (Value.int .i64) := by
 have h : rws.reverse[j]? = some y := by rw [List.getElem?_reverse (by omega), hn]; exact hy
 rw [List.take_add_one, h]
 simp
theorem isNew_mono {lo lo' : Nat} {S : PS} {x : PX} {v : Value} {w : World} (h : isNew lo S x v w) (hl : lo' ≤ lo) : isNew lo' S x v w := by
 obtain ⟨f, e, h⟩ := h
 exact ⟨f, e, h.mono hl⟩
theorem isX_of {lo : Nat} {S : PS} {x : PX} {v : Value} {w w' : World} (h : isNew lo S x v w) (hb : Below w.heap.size w w') : isX S x v w' := by
 obtain ⟨f, e, h⟩ := h
 exact ⟨f, e, h.is.below hb⟩
theorem one_givesN {P : Program} {f : FuncId} {vs : Array Value} {w : World} {S : PS} {x : PX} {lo : Nat} (hlo : lo ≤ w.heap.size) (h : Calls P f vs w (WRet S x w)) : Calls P f vs w (GivesN (isNew lo S x) w) := h.mono fun e w2 ⟨g, he, hn, hb⟩ => ⟨g.val, he, fun w3 hg => ⟨g, rfl, (hn.agree hg).mono hlo⟩, hb⟩
theorem times2 {w : World} {S : PS} {sf : SF} {f0 : WF} {x y : PX} {vs : List Value} {lo : Nat} (hh : Holds [isV (ringV sf f0), isRowX S [x, y]] vs w) (hs : SIs w S sf) (hok : S.ok) (ht : Tabs w) (hlo : lo ≤ w.heap.size) : Calls Tryd.prog 16 vs.toArray w (Gives (isNew lo S (extX S x y)) w) := by
 obtain ⟨v1, v2, rfl, rfl, b, fs, rfl, hr, hx⟩ := holds2 hh
 match fs, hr, hx with
 | g0 :: ft, hr, hx =>
  refine (ringTimes_is S sf f0 w hs hok _ 2 2 g0 x ft [y] hr hx (by have := hx.1; simpa using this) (by decide) (by decide) ht).mono ?_
  rintro e w' ⟨f, rfl, hn, hb⟩
  exact ⟨_, rfl, ⟨f, rfl, hn.mono hlo⟩, hb⟩
 | [], hr, hx => exact absurd hx.1 (by simp)
theorem clone_ints {w : World} {a : Option Addr} {l c : Nat} {ws : List Int} (h : Row w a ws) (hl : ws.length = l) (hm : l ≤ 8192) : Calls Tryd.prog 14 #[.slice a l c] w fun e w' => ∃ v, e = .returned v ∧ Below w.heap.size w w' ∧ w'.ownsRow w.heap.size 3 1 v l (ws.map (Value.int .i64)) := by
 cases a with
 | none =>
  have hw : ws = [] := by
   rcases h with h | ⟨b, off, h, _⟩
   ·exact h
   ·cases h
  subst hw; subst hl
  refine (Tryd.slices_Clone_int_nil _ c w).mono ?_
  rintro e w' ⟨rfl, rfl⟩
  exact ⟨_, rfl, Below.refl _ _, World.ownsRow_nil _ _ _ _⟩
 | some p =>
  rcases h with rfl | ⟨b, off, h, hc⟩
  ·subst hl
   refine (Tryd.slices_Clone_int_zero p c w).mono ?_
   rintro e w' ⟨v, rfl, h1, _, h2⟩
   exact ⟨_, rfl, h2, h1⟩
  ·cases h
   refine (Tryd.slices_Clone_int b off l c ws w (by omega) (by omega) hc).mono ?_
   rintro e w' ⟨v, rfl, h1, _, h2⟩
   rw [List.take_of_length_le (by omega)] at h1
   exact ⟨_, rfl, h2, h1⟩
theorem runA_c (ds d : Nat) (S : PS) (px : RV → PX) (s : SV) (st sy : Int) (ra : Option Addr) (rl rc : Nat) (rs : List RV) (p : Int) (wa : Option Addr) (wl wc : Nat) (ws : List Int) (la : Option Addr) (ll lc : Nat) (is : List Int) (w : World) (hs : SIn w ds s) (hprow : RRow w ra rs) (hplen : rs.length = rl) (hin : ∀ r ∈ rs, RIn w d r) (hrow : Row w wa ws) (hlen : ws.length = wl) (hcap : wl ≤ wc) (hrla : Row w la is) (hll : is.length = ll) (hlm : ll ≤ 9223372036854775807) (hsi : SIs w S s.f) (hok : S.ok) (hchk : stepE ⟨s, st, sy, ra, rl, rc, rs⟩ ⟨p, wa, wl, wc, ws⟩ = 0) (h4 : ∀ r ∈ rs, r.wl ≤ 4096) (hw4 : wl ≤ 4096) (hx : ∀ r ∈ rs, XIs w S r.x.f (px r)) (ht : Tabs w) :
  Calls Tryd.prog 5 #[.agg #[.int .i64 s.f.tag, .int .i64 s.f.dim, .slice s.f.a s.f.len s.f.cap, .int .i64 st, .int .i64 sy, .slice ra rl rc], .agg #[.int .i64 p, .slice wa wl wc], .slice la ll lc] w (RunRet S (runF S px rs is 0 (p, ws, oneX S)) w) := by
 refine enterF (args := [.agg #[.int .i64 s.f.tag, .int .i64 s.f.dim, .slice s.f.a s.f.len s.f.cap, .int .i64 st, .int .i64 sy, .slice ra rl rc], .agg #[.int .i64 p, .slice wa wl wc], .slice la ll lc]) Tryd.func5 rfl Tryd.ntmps5 rfl ?_
 have hS := St.start w
 refine seqF (regF ?_)
 refine op_box (cs := [_, _, _, _, _, _]) hS rfl rfl rfl ?_
 clear hS; intro B1 W1 hS
 refine op_box (cs := [_, _]) hS rfl rfl rfl ?_
 clear hS; intro B2 W2 hS
 refine op_alloc (cs := [_, _]) hS Tryd.zeroValue31 rfl rfl ?_
 clear hS; intro B3 W3 hS
 refine op_alloc (cs := [_, _, _, _, _, _]) hS Tryd.zeroValue40 rfl rfl ?_
 clear hS; intro B4 W4 hS
 refine op_assign rfl rfl ?_
 refine op_assign rfl rfl ?_
 refine endF (XF.thenN ?_)
 refine seqF ?_
 refine seqF (regF ?_)
 refine op_loadA (vs := [_, _, _, _, _, _]) Tryd.isAgg28 Tryd.sizeOf28 rfl (CellsAt.own (j := 0) (m := 6) (hS.at_ 3 rfl) rfl) rfl ?_
 refine op_loadA (vs := [_, _]) Tryd.isAgg31 Tryd.sizeOf31 rfl (CellsAt.own (j := 0) (m := 2) (hS.at_ 2 rfl) rfl) rfl ?_
 refine op_call (vs := [_, _]) hS goes_11 rfl (stepA_is ds d ⟨s, st, sy, ra, rl, rc, rs⟩ ⟨p, wa, wl, wc, ws⟩ _ (PvIn.below ⟨hs, hprow, hplen, hin⟩ hS.below) (CIn.below ⟨hrow, hlen⟩ hS.below)) rfl ?_
 rintro e W5 ⟨rfl, hb⟩
 refine ⟨_, rfl, hb, fun hS' => ?_⟩
 clear hS; have hS := hS'; clear hS' hb
 refine op_assign rfl rfl ?_
 refine endF (XF.thenN ?_)
 refine seqF (regF ?_)
 refine op_move rfl rfl ?_
 refine op_neq rfl rfl rfl ?_
 refine endF (XF.thenN ?_)
 refine condF rfl (fun hc => absurd (of_decide_eq_true hc) (by exact fun h => h hchk)) (fun hc => ?_)
 have hc := of_decide_eq_false hc
 refine skipF ?_
 refine XF.thenN ?_
 refine seqF (regF ?_)
 refine op_field (o' := 0) fa_28_0 rfl rfl rfl ?_
 refine op_loadA (vs := [_, _, _]) Tryd.isAgg25 Tryd.sizeOf25 rfl (CellsAt.own (j := 0) (m := 3) (hS.at_ 3 rfl) rfl) rfl ?_
 refine op_call (vs := [_]) hS goes_12 rfl (ringOf_is S s.f _ (hsi.below hS.below) hok) rfl ?_
 rintro e W6 ⟨f0, rfl, hn0, hb⟩
 refine ⟨_, rfl, hb, fun hS' => ?_⟩
 clear hS; have hS := hS'; clear hS' hb
 refine op_alloc (cs := [_, _, _, _, _, _, _, _, _]) hS Tryd.zeroValue54 rfl rfl ?_
 clear hS; intro B7 W7 hS
 refine op_storeA (i := 0) (vs := [_, _, _, _, _, _, _, _, _]) (cs' := [_, _, _, _, _, _, _, _, _]) (O' := [_, _, _, _, _]) hS Tryd.sizeOf54 rfl rfl rfl rfl rfl rfl rfl ?_
 clear hS; intro W8 hS
 refine endF (XF.thenN ?_)
 refine seqF ?_
 have hsz5 := hS.below.size
 refine regS (ef := 5) (jy := 1) (ca := caSt (fun _ => [.bool false, .int .i64 0, .int .u64 0, .slice none 0 0, .slice none 0 0, .slice none 0 0]) 4) (ta := fun _ => 40) (Os := osNo _) (Gs := gsNo _) (al := [4]) (k := 6) (ds := [13]) followsM rfl hS rfl (by kernel_rfl) (by kernel_rfl) rfl (by decide) rfl (some) (.inl ⟨rfl, rfl⟩) rfl rfl ?_
 refine bls_cons 1 rfl rfl (isV _) (fun hNo => sgV [(11, _)] rfl rfl rfl rfl hNo (w_free rfl) ⟨g_fr (by kernel_rfl) rfl, trivial⟩ (fun ev w he hw => rn_loadA (vs := [_, _, _, _, _, _, _, _, _]) Tryd.isAgg54 Tryd.sizeOf54 rfl ((CellsAt.own (j := 0) (m := 9) (hw.at_ 0 rfl) rfl))) (at_top rfl)) ?_
 refine bls_cons 2 rfl rfl (isNew W8.heap.size S (oneX S)) (fun hNo => sg_call [isV (ringV s.f f0)] rfl rfl rfl rfl hNo goes_13 (w_free rfl) ⟨p_tmp (g_dep 0 (by kernel_rfl) (at_dep rfl rfl rfl)), trivial⟩ (fun vs ev w' he hSt hlo hh => by have e := holds_isV (us := [_]) hh; subst e; exact one_givesN hlo (ringOne_is S s.f f0 w' (hsi.below hSt.below) hok)) (at_top rfl)) ?_
 refine bls_cons 3 rfl rfl (isV _) (fun hNo => sgV [(4, _)] rfl rfl rfl rfl hNo (w_free rfl) ⟨g_fr (by kernel_rfl) rfl, trivial⟩ (fun ev w he hw => rn_field (o' := 0) fa_31_0 rfl rfl) (at_top rfl)) ?_
 refine bls_cons 4 rfl rfl (isV _) (fun hNo => sgV [(33, _)] rfl rfl rfl rfl hNo (w_free rfl) ⟨g_dep 2 (by kernel_rfl) (at_dep rfl rfl rfl), trivial⟩ (fun ev w he hw => rn_load Tryd.isAgg3 rfl ((cell_own (hw.at_ 3 rfl) rfl))) (at_top rfl)) ?_
 refine bls_any 5 rfl (sg_alloc rfl rfl rfl rfl rfl Tryd.zeroValue40 (fun ev he => by rw [he rfl]; rfl)) ?_
 refine bls_any 6 rfl (eff_stA (py := isNew W8.heap.size S (oneX S)) (m := 6) 4 rfl rfl rfl rfl (by kernel_rfl) rfl (by kernel_rfl) rfl rfl Tryd.sizeOf40 rfl (fun v w ⟨f, e, _⟩ => ⟨f.six, by rw [e]; rfl, rfl, rfl⟩)) ?_
 refine bls_nil ?_
 intro Bf9 y9 W9 Ks9 hsz9 hKs9 hS' hcov9
 clear hS; have hS := hS'.castO (O' := [_, _, _, _, _, _]) rfl; clear hS'
 refine castL (L' := [AwS _ _ (isV _), (fun v w => v = _ ∧ AwS _ _ (isNew W8.heap.size S (oneX S)) v w), AwS _ _ (isV _), AwS _ _ (isV _), isV _, isV _]) rfl ?_
 refine fin_sV ?_
 refine fin_p ?_; rintro _ ⟨rfl, hA5⟩; obtain ⟨f1, e1, hn1⟩ := hA5.here; subst e1; have hcov5 := @hcov9
 refine fin_sV ?_
 refine fin_sV ?_
 refine fin_v ?_
 refine fin_0 ?_
 refine fin_nil ?_
 refine op_assign rfl rfl ?_
 refine endF (XF.thenN ?_)
 refine seqF (regF ?_)
 refine op_field (o' := 1) fa_31_1 rfl rfl rfl ?_
 refine op_load Tryd.isAgg29 rfl (cell_own (hS.at_ 4 rfl) rfl) rfl ?_
 refine op_callG (vs := [_]) (xs := ws.map (Value.int .i64)) (e1 := 3) (size := 1) (m := wl) hS goes_14 rfl (clone_ints (c := wc) (hrow.below hS.below) hlen (by omega)) rfl (fun e W2 h => h) ?_
 clear hS; intro v10 W10 hS
 refine op_assign rfl rfl ?_
 refine endF (XF.thenN ?_)
 refine seqF (regF ?_)
 refine op_move rfl rfl ?_
 refine op_rev (zs := ws) hS 0 goes_15 rfl rfl Tryd.slices_Reverse_int Tryd.slices_Reverse_int_empty rfl ?_
 clear hS; intro W11 hS
 refine endF (XF.thenN ?_)
 refine seqF ?_
 refine seqF (regF ?_)
 refine op_move rfl rfl ?_
 refine op_len Tryd.underlying29 rfl rfl ?_
 refine op_move rfl rfl ?_
 refine endF (XF.thenN ?_)
 refine blockF ?_
 refine loopF (fun m l W => ∃ (k : Nat) (q : Int) (us : List Int) (x : PX) (f : WF) (v : Value) (Kk : List (Nat × World)), k ≤ ll ∧ m = ll - k ∧ l = [(3, .pointer (some ⟨B1, 0, none⟩)), (6, .pointer (some ⟨B3, 0, none⟩)), (7, .pointer (some ⟨B4, 0, none⟩)), (11, .pointer (some ⟨B7, 0, none⟩)), (12, .pointer (some ⟨(Bf9 4), 0, none⟩)), (13, .int .i64 q), (14, v), (40, .slice la ll lc), (41, .int .i64 (ll : Int)), (42, .int .i64 (k : Int))] ∧ runF S px rs (is.drop k) k (q, us, x) = runF S px rs is 0 (p, ws, oneX S) ∧ us.length ≤ 4096 ∧ Held w Kk (fun W2 => isNew w.heap.size S x f.val W2) ∧ St w [((Bf9 4), f.six, 40), (B7, [.int .i64 s.f.tag, .int .i64 s.f.dim, .slice s.f.a s.f.len s.f.cap, .bool f0.z, .int .i64 f0.c, .int .u64 (f0.g : Int), .slice f0.ra f0.rl f0.rc, .slice f0.ca f0.cl f0.cc, .slice f0.pa f0.pl f0.pc], 54), (B4, [.bool false, .int .i64 0, .int .u64 0, .slice none 0 0, .slice none 0 0, .slice none 0 0], 40), (B3, [.int .i64 0, .slice none 0 0], 31), (B2, [.int .i64 p, .slice wa wl wc], 31), (B1, [.int .i64 s.f.tag, .int .i64 s.f.dim, .slice s.f.a s.f.len s.f.cap, .int .i64 st, .int .i64 sy, .slice ra rl rc], 28)] [⟨v, us.length, us.reverse.map (Value.int .i64), 3, 1⟩] Kk W) (ll - 0) ([(3, _), (6, _), (7, _), (11, _), (12, _), (13, _), (14, _), (40, _), (41, _), (42, _)]) ⟨rfl, rfl, rfl, rfl, rfl, rfl, rfl, rfl, rfl, rfl, trivial⟩ (⟨0, p, ws, oneX S, f1, _, Ks9, Nat.zero_le _, rfl, rfl, rfl, by omega, fun h2 hk => isNew_mono (hA5 _ (hcov5 h2 hk)) hsz5, (hS.keep Ks9 (fun q hq => List.mem_append_left _ hq)).castG (by subst hlen; rfl)⟩) ?_
 clear hS
 rintro m l W ⟨k, q, us, x, f, v, Kk, hk, rfl, rfl, hrun, hus, hX, hS⟩
 obtain ⟨a, c, rfl, hac⟩ := ownsRow_sl (v := v) (n := us.length) (hS.row 0 rfl)
 refine seqF (regF ?_)
 refine op_lss rfl rfl rfl ?_
 refine endF (XF.thenN ?_)
 refine seqF ?_
 refine condF rfl (fun hc => ?_) (fun hc => ?_)
 ·have hc43 := of_decide_eq_true hc; clear hc
  have hk1 : k < ll := by omega
  obtain ⟨b0, off0, y, rfl, hy, hyc⟩ := hrla.at1 (show k < is.length by omega)
  have k1 := hS.old hyc
  rw [drop_at9 hy] at hrun
  refine skipF ?_
  refine XF.thenN ?_
  refine seqF ?_
  refine blockF ?_
  refine seqF (regF ?_)
  refine op_move rfl rfl ?_
  refine op_indexA  Tryd.underlying29 Tryd.sizeOf3 rfl rfl rfl (by omega) rfl rfl ?_
  refine op_load Tryd.isAgg3 rfl (by first | assumption | exact hS.old (by assumption)) rfl ?_
  refine op_assign rfl rfl ?_
  refine op_assign rfl rfl ?_
  refine endF (XF.thenN ?_)
  refine seqF ?_
  refine seqF (regF ?_)
  refine op_move rfl rfl ?_
  refine op_lss rfl rfl rfl ?_
  refine op_move rfl rfl ?_
  refine op_cases (d := 49) rfl (fun hc => ?_) (fun hc => ?_)
  ·have hg49 := of_decide_eq_true hc; clear hc
   refine op_notF (d := 49) rfl rfl rfl rfl ?_
   refine op_notF (d := 49) rfl rfl rfl rfl ?_
   refine op_notF (d := 49) rfl rfl rfl rfl ?_
   refine op_notF (d := 49) rfl rfl rfl rfl ?_
   refine op_notF (d := 49) rfl rfl rfl rfl ?_
   refine op_pickT rfl rfl rfl ?_
   refine endF (XF.thenN ?_)
   refine condT rfl ?_
   refine seqF (regF ?_)
   refine op_build (us := []) rfl (bld_31) rfl ?_
   refine op_build (us := []) rfl (bld_40) rfl ?_
   refine op_move rfl rfl ?_
   refine op_storeA (i := 3) (vs := [_, _]) (cs' := [_, _]) (O' := [_, _, _, _, _, _]) hS Tryd.sizeOf31 rfl rfl rfl rfl rfl rfl rfl ?_
   clear hS; intro W12 hS
   refine op_storeA (i := 2) (vs := [_, _, _, _, _, _]) (cs' := [_, _, _, _, _, _]) (O' := [_, _, _, _, _, _]) hS Tryd.sizeOf40 rfl rfl rfl rfl rfl rfl rfl ?_
   clear hS; intro W13 hS
   refine op_assign rfl rfl ?_
   refine op_assign rfl rfl ?_
   refine endF (XF.thenN ?_)
   refine retF ?_
   refine XF.thenR ?_
   refine XF.blkR ?_
   refine XF.thenR ?_
   refine XF.thenR ?_
   refine XF.blkR ?_
   refine XF.thenR ?_
   refine XF.res (resCCTT (vs := [_, _]) (us := [_, _, _, _, _, _]) Tryd.results5 Tryd.isAgg31 Tryd.sizeOf31 rfl (CellsAt.own (j := 0) (m := 2) (hS.at_ 3 rfl) rfl) Tryd.isAgg40 Tryd.sizeOf40 rfl (CellsAt.own (j := 0) (m := 6) (hS.at_ 2 rfl) rfl) rfl rfl) ?_
   rw [← hrun, runF_err (runStep_neg hg49)]
   exact runRet_none hS.below
  ·have hg49 := of_decide_eq_false hc; clear hc
   refine op_wantedF (d := 49) rfl rfl ?_
   refine op_move rfl rfl ?_
   refine op_wantedF (d := 49) rfl rfl ?_
   refine op_field (o' := 5) fa_28_3 rfl rfl rfl ?_
   refine op_wantedF (d := 49) rfl rfl ?_
   refine op_load Tryd.isAgg26 rfl (cell_own (hS.at_ 5 rfl) rfl) rfl ?_
   refine op_wantedF (d := 49) rfl rfl ?_
   refine op_len Tryd.underlying26 rfl rfl ?_
   refine op_wantedF (d := 49) rfl rfl ?_
   refine op_geq rfl rfl rfl ?_
   refine op_pickF rfl rfl rfl ?_
   refine endF (XF.thenN ?_)
   refine condF rfl (fun hc => ?_) (fun hc => ?_)
   ·have hc55 := of_decide_eq_true hc; clear hc
    refine seqF (regF ?_)
    refine op_build (us := []) rfl (bld_31) rfl ?_
    refine op_build (us := []) rfl (bld_40) rfl ?_
    refine op_move rfl rfl ?_
    refine op_storeA (i := 3) (vs := [_, _]) (cs' := [_, _]) (O' := [_, _, _, _, _, _]) hS Tryd.sizeOf31 rfl rfl rfl rfl rfl rfl rfl ?_
    clear hS; intro W14 hS
    refine op_storeA (i := 2) (vs := [_, _, _, _, _, _]) (cs' := [_, _, _, _, _, _]) (O' := [_, _, _, _, _, _]) hS Tryd.sizeOf40 rfl rfl rfl rfl rfl rfl rfl ?_
    clear hS; intro W15 hS
    refine op_assign rfl rfl ?_
    refine op_assign rfl rfl ?_
    refine endF (XF.thenN ?_)
    refine retF ?_
    refine XF.thenR ?_
    refine XF.blkR ?_
    refine XF.thenR ?_
    refine XF.thenR ?_
    refine XF.blkR ?_
    refine XF.thenR ?_
    refine XF.res (resCCTT (vs := [_, _]) (us := [_, _, _, _, _, _]) Tryd.results5 Tryd.isAgg31 Tryd.sizeOf31 rfl (CellsAt.own (j := 0) (m := 2) (hS.at_ 3 rfl) rfl) Tryd.isAgg40 Tryd.sizeOf40 rfl (CellsAt.own (j := 0) (m := 6) (hS.at_ 2 rfl) rfl) rfl rfl) ?_
    rw [← hrun, runF_err (runStep_big (by omega))]
    exact runRet_none hS.below
   ·have hc55 := of_decide_eq_false hc; clear hc
    obtain ⟨yn, rfl⟩ := Int.eq_ofNat_of_zero_le (show 0 ≤ y by omega)
    have hyn : yn < rl := by omega
    obtain ⟨r, hr⟩ : ∃ r, rs[yn]? = some r := ⟨rs[yn]'(by omega), by simp [show yn < rs.length by omega]⟩
    obtain ⟨b2, off2, rfl, hcs⟩ := hprow.at_ hr
    have hri := hin r (List.mem_of_getElem? hr)
    have hrx := hx r (List.mem_of_getElem? hr)
    have hr4 := h4 r (List.mem_of_getElem? hr)
    have hst := runStep_at (S := S) (px := px) (st := (q, us, x)) hr
    obtain ⟨rp, rg, rq, rwa, rwl, rwc, rws, rx⟩ := r
    dsimp only at hst hr4 hrx
    dsimp only [RV.ten] at hcs
    have hrw : Row w rwa rws := hri.row
    have hrwl : rws.length = rwl := hri.len
    have k2 := CellsAt.agree hS.agree (Nat.zero_le _) hcs
    refine skipF ?_
    refine XF.thenN ?_
    refine seqF (regF ?_)
    refine op_field (o' := 5) fa_28_3 rfl rfl rfl ?_
    refine op_load Tryd.isAgg26 rfl (cell_own (hS.at_ 5 rfl) rfl) rfl ?_
    refine op_move rfl rfl ?_
    refine op_indexA  Tryd.underlying26 Tryd.sizeOf60 rfl rfl rfl (by omega) rfl rfl ?_
    refine op_loadA (vs := [_, _, _, _, _, _, _, _, _, _]) Tryd.isAgg60 Tryd.sizeOf60 rfl (by assumption) rfl ?_
    refine op_move rfl rfl ?_
    refine op_len Tryd.underlying29 rfl rfl ?_
    refine op_alloc (cs := [_, _, _, _, _, _, _, _, _, _]) hS Tryd.zeroValue60 rfl rfl ?_
    clear hS; intro B16 W16 hS
    refine op_storeA (i := 0) (vs := [_, _, _, _, _, _, _, _, _, _]) (cs' := [_, _, _, _, _, _, _, _, _, _]) (O' := [_, _, _, _, _, _, _]) hS Tryd.sizeOf60 rfl rfl rfl rfl rfl rfl rfl ?_
    clear hS; intro W17 hS
    refine op_assign rfl rfl ?_
    refine endF (XF.thenN ?_)
    refine seqF ?_
    refine seqF ?_
    rcases us_cases rp q us with h1 | ⟨h1, h2⟩ | ⟨y2, t, h1, h2⟩
    ·subst h1
     have hE : runStep S px rs (yn : Int) (q, [], x) = .error 121 := by rw [hst]; simp [appB]
     refine regB (m := 18) followsM hS (by kernel_rfl) (by kernel_rfl) rfl ?_
     refine bl_cons 1 rfl (isV _) (stab_isV _) (rgV (li := [(18, _)]) rfl (w_free rfl) ⟨g_fr (by kernel_rfl) rfl, trivial⟩ (fun w hw => rn_move rfl) (at_top rfl)) ?_
     refine bl_cons 2 rfl (isV (.bool true)) (stab_isV _) (rgVe (li := [(66, _)]) rfl (w_free rfl) ⟨g_dep 0 (by kernel_rfl) (at_dep rfl rfl rfl), trivial⟩ (fun w hw => rn_eql rfl rfl) (by simp) (at_top rfl)) ?_
     refine bl_cons 3 rfl (isV _) (stab_isV _) (rgV (li := [(67, _)]) rfl (w_free rfl) ⟨g_dep 1 (by kernel_rfl) (at_dep rfl rfl rfl), trivial⟩ (fun w hw => rn_move rfl) (at_top rfl)) ?_
     refine bl_cons 4 rfl (isV undef) (stab_isV _) (rg_no rfl (w_no 68 rfl (by kernel_rfl) (by kernel_rfl) (at_dep rfl rfl rfl) rfl) (at_top rfl)) ?_
     refine bl_cons 5 rfl (isV undef) (stab_isV _) (rg_no rfl (w_no 68 rfl (by kernel_rfl) (by kernel_rfl) (at_dep rfl rfl rfl) rfl) (at_top rfl)) ?_
     refine bl_cons 6 rfl (isV undef) (stab_isV _) (rg_no rfl (w_no 68 rfl (by kernel_rfl) (by kernel_rfl) (at_dep rfl rfl rfl) rfl) (at_top rfl)) ?_
     refine bl_cons 7 rfl (isV undef) (stab_isV _) (rg_no rfl (w_no 68 rfl (by kernel_rfl) (by kernel_rfl) (at_dep rfl rfl rfl) rfl) (at_top rfl)) ?_
     refine bl_cons 8 rfl (isV _) (stab_isV _) (rgV (li := [(68, _)]) rfl (w_free rfl) ⟨g_dep 2 (by kernel_rfl) (at_dep rfl rfl rfl), trivial⟩ (fun w hw => rn_pickT rfl rfl) (at_top rfl)) ?_
     refine bl_cons 9 rfl (isV _) (stab_isV _) (rgV (li := [(73, _)]) rfl (w_free rfl) ⟨g_dep 7 (by kernel_rfl) (at_dep rfl rfl rfl), trivial⟩ (fun w hw => rn_move rfl) (at_top rfl)) ?_
     refine bl_cons 10 rfl (isV undef) (stab_isV _) (rg_no rfl (w_no 74 rfl (by kernel_rfl) (by kernel_rfl) (at_dep rfl rfl rfl) rfl) (at_top rfl)) ?_
     refine bl_cons 11 rfl (isV undef) (stab_isV _) (rg_no rfl (w_no 74 rfl (by kernel_rfl) (by kernel_rfl) (at_dep rfl rfl rfl) rfl) (at_top rfl)) ?_
     refine bl_cons 12 rfl (isV undef) (stab_isV _) (rg_no rfl (w_no 74 rfl (by kernel_rfl) (by kernel_rfl) (at_dep rfl rfl rfl) rfl) (at_top rfl)) ?_
     refine bl_cons 13 rfl (isV undef) (stab_isV _) (rg_no rfl (w_no 74 rfl (by kernel_rfl) (by kernel_rfl) (at_dep rfl rfl rfl) rfl) (at_top rfl)) ?_
     refine bl_cons 14 rfl (isV undef) (stab_isV _) (rg_no rfl (w_no 74 rfl (by kernel_rfl) (by kernel_rfl) (at_dep rfl rfl rfl) rfl) (at_top rfl)) ?_
     refine bl_cons 15 rfl (isV undef) (stab_isV _) (rg_no rfl (w_no 74 rfl (by kernel_rfl) (by kernel_rfl) (at_dep rfl rfl rfl) rfl) (at_top rfl)) ?_
     refine bl_cons 16 rfl (isV undef) (stab_isV _) (rg_no rfl (w_no 74 rfl (by kernel_rfl) (by kernel_rfl) (at_dep rfl rfl rfl) rfl) (at_top rfl)) ?_
     refine bl_cons 17 rfl (isV undef) (stab_isV _) (rg_no rfl (w_no 74 rfl (by kernel_rfl) (by kernel_rfl) (at_dep rfl rfl rfl) rfl) (at_top rfl)) ?_
     refine bl_cons 18 rfl (isV _) (stab_isV _) (rgV (li := [(74, _)]) rfl (w_free rfl) ⟨g_dep 8 (by kernel_rfl) (at_dep rfl rfl rfl), trivial⟩ (fun w hw => rn_pickT rfl rfl) (at_top rfl)) ?_
     refine bl_nil ?_
     intro W18 hbR hS'
     clear hS; have hS := hS'; clear hS'
     refine fin_v ?_
     refine fin_v ?_
     refine fin_v ?_
     refine fin_v ?_
     refine fin_v ?_
     refine fin_v ?_
     refine fin_v ?_
     refine fin_v ?_
     refine fin_v ?_
     refine fin_v ?_
     refine fin_v ?_
     refine fin_v ?_
     refine fin_v ?_
     refine fin_v ?_
     refine fin_v ?_
     refine fin_v ?_
     refine fin_v ?_
     refine fin_v ?_
     refine fin_nil ?_
     refine XF.thenN ?_
     refine condT rfl ?_
     refine seqF (regF ?_)
     refine op_build (us := []) rfl (bld_31) rfl ?_
     refine op_build (us := []) rfl (bld_40) rfl ?_
     refine op_move rfl rfl ?_
     refine op_storeA (i := 4) (vs := [_, _]) (cs' := [_, _]) (O' := [_, _, _, _, _, _, _]) hS Tryd.sizeOf31 rfl rfl rfl rfl rfl rfl rfl ?_
     clear hS; intro W19 hS
     refine op_storeA (i := 3) (vs := [_, _, _, _, _, _]) (cs' := [_, _, _, _, _, _]) (O' := [_, _, _, _, _, _, _]) hS Tryd.sizeOf40 rfl rfl rfl rfl rfl rfl rfl ?_
     clear hS; intro W20 hS
     refine op_assign rfl rfl ?_
     refine op_assign rfl rfl ?_
     refine endF (XF.thenN ?_)
     refine retF ?_
     refine XF.thenR ?_
     refine XF.blkR ?_
     refine XF.thenR ?_
     refine XF.thenR ?_
     refine XF.blkR ?_
     refine XF.thenR ?_
     refine XF.res (resCCTT (vs := [_, _]) (us := [_, _, _, _, _, _]) Tryd.results5 Tryd.isAgg31 Tryd.sizeOf31 rfl (CellsAt.own (j := 0) (m := 2) (hS.at_ 4 rfl) rfl) Tryd.isAgg40 Tryd.sizeOf40 rfl (CellsAt.own (j := 0) (m := 6) (hS.at_ 3 rfl) rfl) rfl rfl) ?_
     rw [← hrun, runF_err hE]
     exact runRet_none hS.below
    ·have hE : runStep S px rs (yn : Int) (q, us, x) = .error 121 := by rw [hst]; simp [appB, h2]
     refine regB (m := 18) followsM hS (by kernel_rfl) (by kernel_rfl) rfl ?_
     refine bl_cons 1 rfl (isV _) (stab_isV _) (rgV (li := [(18, _)]) rfl (w_free rfl) ⟨g_fr (by kernel_rfl) rfl, trivial⟩ (fun w hw => rn_move rfl) (at_top rfl)) ?_
     refine bl_cons 2 rfl (isV (.bool false)) (stab_isV _) (rgVe (li := [(66, _)]) rfl (w_free rfl) ⟨g_dep 0 (by kernel_rfl) (at_dep rfl rfl rfl), trivial⟩ (fun w hw => rn_eql rfl rfl) (by rw [decide_eq_false (by omega)]) (at_top rfl)) ?_
     refine bl_cons 3 rfl (isV _) (stab_isV _) (rgV (li := [(67, _)]) rfl (w_free rfl) ⟨g_dep 1 (by kernel_rfl) (at_dep rfl rfl rfl), trivial⟩ (fun w hw => rn_move rfl) (at_top rfl)) ?_
     refine bl_cons 4 rfl (isV _) (stab_isV _) (rgV (li := [(17, _)]) rfl (w_yes 68 rfl (by kernel_rfl) (by kernel_rfl) (at_dep rfl rfl rfl)) ⟨g_fr (by kernel_rfl) rfl, trivial⟩ (fun w hw => rn_field (o' := 0) fa_60_0 rfl rfl) (at_top rfl)) ?_
     refine bl_cons 5 rfl (isV _) (stab_isV _) (rgV (li := [(69, _)]) rfl (w_yes 68 rfl (by kernel_rfl) (by kernel_rfl) (at_dep rfl rfl rfl)) ⟨g_dep 3 (by kernel_rfl) (at_dep rfl rfl rfl), trivial⟩ (fun w hw => rn_load Tryd.isAgg3 rfl ((below_agree hw 0).cell (Nat.zero_le _) (cell_own (hS.at_ 0 rfl) rfl))) (at_top rfl)) ?_
     refine bl_cons 6 rfl (isV _) (stab_isV _) (rgV (li := [(13, _)]) rfl (w_yes 68 rfl (by kernel_rfl) (by kernel_rfl) (at_dep rfl rfl rfl)) ⟨g_fr (by kernel_rfl) rfl, trivial⟩ (fun w hw => rn_move rfl) (at_top rfl)) ?_
     refine bl_cons 7 rfl (isV (.bool true)) (stab_isV _) (rgVe (li := [(70, _), (71, _)]) rfl (w_yes 68 rfl (by kernel_rfl) (by kernel_rfl) (at_dep rfl rfl rfl)) ⟨g_dep 4 (by kernel_rfl) (at_dep rfl rfl rfl), g_dep 5 (by kernel_rfl) (at_dep rfl rfl rfl), trivial⟩ (fun w hw => rn_neq rfl rfl) (by rw [decide_eq_true h2]) (at_top rfl)) ?_
     refine bl_cons 8 rfl (isV _) (stab_isV _) (rgV (li := [(68, _), (72, _)]) rfl (w_free rfl) ⟨g_dep 2 (by kernel_rfl) (at_dep rfl rfl rfl), g_dep 6 (by kernel_rfl) (at_dep rfl rfl rfl), trivial⟩ (fun w hw => rn_pickF rfl rfl) (at_top rfl)) ?_
     refine bl_cons 9 rfl (isV _) (stab_isV _) (rgV (li := [(73, _)]) rfl (w_free rfl) ⟨g_dep 7 (by kernel_rfl) (at_dep rfl rfl rfl), trivial⟩ (fun w hw => rn_move rfl) (at_top rfl)) ?_
     refine bl_cons 10 rfl (isV undef) (stab_isV _) (rg_no rfl (w_no 74 rfl (by kernel_rfl) (by kernel_rfl) (at_dep rfl rfl rfl) rfl) (at_top rfl)) ?_
     refine bl_cons 11 rfl (isV undef) (stab_isV _) (rg_no rfl (w_no 74 rfl (by kernel_rfl) (by kernel_rfl) (at_dep rfl rfl rfl) rfl) (at_top rfl)) ?_
     refine bl_cons 12 rfl (isV undef) (stab_isV _) (rg_no rfl (w_no 74 rfl (by kernel_rfl) (by kernel_rfl) (at_dep rfl rfl rfl) rfl) (at_top rfl)) ?_
     refine bl_cons 13 rfl (isV undef) (stab_isV _) (rg_no rfl (w_no 74 rfl (by kernel_rfl) (by kernel_rfl) (at_dep rfl rfl rfl) rfl) (at_top rfl)) ?_
     refine bl_cons 14 rfl (isV undef) (stab_isV _) (rg_no rfl (w_no 74 rfl (by kernel_rfl) (by kernel_rfl) (at_dep rfl rfl rfl) rfl) (at_top rfl)) ?_
     refine bl_cons 15 rfl (isV undef) (stab_isV _) (rg_no rfl (w_no 74 rfl (by kernel_rfl) (by kernel_rfl) (at_dep rfl rfl rfl) rfl) (at_top rfl)) ?_
     refine bl_cons 16 rfl (isV undef) (stab_isV _) (rg_no rfl (w_no 74 rfl (by kernel_rfl) (by kernel_rfl) (at_dep rfl rfl rfl) rfl) (at_top rfl)) ?_
     refine bl_cons 17 rfl (isV undef) (stab_isV _) (rg_no rfl (w_no 74 rfl (by kernel_rfl) (by kernel_rfl) (at_dep rfl rfl rfl) rfl) (at_top rfl)) ?_
     refine bl_cons 18 rfl (isV _) (stab_isV _) (rgV (li := [(74, _)]) rfl (w_free rfl) ⟨g_dep 8 (by kernel_rfl) (at_dep rfl rfl rfl), trivial⟩ (fun w hw => rn_pickT rfl rfl) (at_top rfl)) ?_
     refine bl_nil ?_
     intro W21 hbR hS'
     clear hS; have hS := hS'; clear hS'
     refine fin_v ?_
     refine fin_v ?_
     refine fin_v ?_
     refine fin_v ?_
     refine fin_v ?_
     refine fin_v ?_
     refine fin_v ?_
     refine fin_v ?_
     refine fin_v ?_
     refine fin_v ?_
     refine fin_v ?_
     refine fin_v ?_
     refine fin_v ?_
     refine fin_v ?_
     refine fin_v ?_
     refine fin_v ?_
     refine fin_v ?_
     refine fin_v ?_
     refine fin_nil ?_
     refine XF.thenN ?_
     refine condT rfl ?_
     refine seqF (regF ?_)
     refine op_build (us := []) rfl (bld_31) rfl ?_
     refine op_build (us := []) rfl (bld_40) rfl ?_
     refine op_move rfl rfl ?_
     refine op_storeA (i := 4) (vs := [_, _]) (cs' := [_, _]) (O' := [_, _, _, _, _, _, _]) hS Tryd.sizeOf31 rfl rfl rfl rfl rfl rfl rfl ?_
     clear hS; intro W22 hS
     refine op_storeA (i := 3) (vs := [_, _, _, _, _, _]) (cs' := [_, _, _, _, _, _]) (O' := [_, _, _, _, _, _, _]) hS Tryd.sizeOf40 rfl rfl rfl rfl rfl rfl rfl ?_
     clear hS; intro W23 hS
     refine op_assign rfl rfl ?_
     refine op_assign rfl rfl ?_
     refine endF (XF.thenN ?_)
     refine retF ?_
     refine XF.thenR ?_
     refine XF.blkR ?_
     refine XF.thenR ?_
     refine XF.thenR ?_
     refine XF.blkR ?_
     refine XF.thenR ?_
     refine XF.res (resCCTT (vs := [_, _]) (us := [_, _, _, _, _, _]) Tryd.results5 Tryd.isAgg31 Tryd.sizeOf31 rfl (CellsAt.own (j := 0) (m := 2) (hS.at_ 4 rfl) rfl) Tryd.isAgg40 Tryd.sizeOf40 rfl (CellsAt.own (j := 0) (m := 6) (hS.at_ 3 rfl) rfl) rfl rfl) ?_
     rw [← hrun, runF_err hE]
     exact runRet_none hS.below
    ·subst h1
     have hlt : (y2 :: t).length = t.length + 1 := rfl
     rcases ownsRow_cells (a := a) (c := c) (n := (y2 :: t).length) (hS.row 0 rfl) with ⟨_, h0⟩ | ⟨b3, rfl, hb3, hcell⟩
     ·exact absurd h0 (by simp)
     have k3 : W17.cell? ⟨b3, 0 + t.length * 1, none⟩ = some (.int .i64 y2) := by rw [Nat.zero_add, Nat.mul_one]; exact hcell _ _ top_at
     refine regB (m := 18) followsM hS (by kernel_rfl) (by kernel_rfl) rfl ?_
     refine bl_cons 1 rfl (isV _) (stab_isV _) (rgV (li := [(18, _)]) rfl (w_free rfl) ⟨g_fr (by kernel_rfl) rfl, trivial⟩ (fun w hw => rn_move rfl) (at_top rfl)) ?_
     refine bl_cons 2 rfl (isV (.bool false)) (stab_isV _) (rgVe (li := [(66, _)]) rfl (w_free rfl) ⟨g_dep 0 (by kernel_rfl) (at_dep rfl rfl rfl), trivial⟩ (fun w hw => rn_eql rfl rfl) (by rw [decide_eq_false (by omega)]) (at_top rfl)) ?_
     refine bl_cons 3 rfl (isV _) (stab_isV _) (rgV (li := [(67, _)]) rfl (w_free rfl) ⟨g_dep 1 (by kernel_rfl) (at_dep rfl rfl rfl), trivial⟩ (fun w hw => rn_move rfl) (at_top rfl)) ?_
     refine bl_cons 4 rfl (isV _) (stab_isV _) (rgV (li := [(17, _)]) rfl (w_yes 68 rfl (by kernel_rfl) (by kernel_rfl) (at_dep rfl rfl rfl)) ⟨g_fr (by kernel_rfl) rfl, trivial⟩ (fun w hw => rn_field (o' := 0) fa_60_0 rfl rfl) (at_top rfl)) ?_
     refine bl_cons 5 rfl (isV _) (stab_isV _) (rgV (li := [(69, _)]) rfl (w_yes 68 rfl (by kernel_rfl) (by kernel_rfl) (at_dep rfl rfl rfl)) ⟨g_dep 3 (by kernel_rfl) (at_dep rfl rfl rfl), trivial⟩ (fun w hw => rn_load Tryd.isAgg3 rfl ((below_agree hw 0).cell (Nat.zero_le _) (cell_own (hS.at_ 0 rfl) rfl))) (at_top rfl)) ?_
     refine bl_cons 6 rfl (isV _) (stab_isV _) (rgV (li := [(13, _)]) rfl (w_yes 68 rfl (by kernel_rfl) (by kernel_rfl) (at_dep rfl rfl rfl)) ⟨g_fr (by kernel_rfl) rfl, trivial⟩ (fun w hw => rn_move rfl) (at_top rfl)) ?_
     refine bl_cons 7 rfl (isV (.bool false)) (stab_isV _) (rgVe (li := [(70, _), (71, _)]) rfl (w_yes 68 rfl (by kernel_rfl) (by kernel_rfl) (at_dep rfl rfl rfl)) ⟨g_dep 4 (by kernel_rfl) (at_dep rfl rfl rfl), g_dep 5 (by kernel_rfl) (at_dep rfl rfl rfl), trivial⟩ (fun w hw => rn_neq rfl rfl) (by rw [decide_eq_false (fun h => h h2)]) (at_top rfl)) ?_
     refine bl_cons 8 rfl (isV _) (stab_isV _) (rgV (li := [(68, _), (72, _)]) rfl (w_free rfl) ⟨g_dep 2 (by kernel_rfl) (at_dep rfl rfl rfl), g_dep 6 (by kernel_rfl) (at_dep rfl rfl rfl), trivial⟩ (fun w hw => rn_pickF rfl rfl) (at_top rfl)) ?_
     refine bl_cons 9 rfl (isV _) (stab_isV _) (rgV (li := [(73, _)]) rfl (w_free rfl) ⟨g_dep 7 (by kernel_rfl) (at_dep rfl rfl rfl), trivial⟩ (fun w hw => rn_move rfl) (at_top rfl)) ?_
     refine bl_cons 10 rfl (isV _) (stab_isV _) (rgV (li := [(17, _)]) rfl (w_yes 74 rfl (by kernel_rfl) (by kernel_rfl) (at_dep rfl rfl rfl)) ⟨g_fr (by kernel_rfl) rfl, trivial⟩ (fun w hw => rn_field (o' := 1) fa_60_1 rfl rfl) (at_top rfl)) ?_
     refine bl_cons 11 rfl (isV _) (stab_isV _) (rgV (li := [(75, _)]) rfl (w_yes 74 rfl (by kernel_rfl) (by kernel_rfl) (at_dep rfl rfl rfl)) ⟨g_dep 9 (by kernel_rfl) (at_dep rfl rfl rfl), trivial⟩ (fun w hw => rn_load Tryd.isAgg3 rfl ((below_agree hw 0).cell (Nat.zero_le _) (cell_own (hS.at_ 0 rfl) rfl))) (at_top rfl)) ?_
     refine bl_cons 12 rfl (isV _) (stab_isV _) (rgV (li := [(14, _)]) rfl (w_yes 74 rfl (by kernel_rfl) (by kernel_rfl) (at_dep rfl rfl rfl)) ⟨g_fr (by kernel_rfl) rfl, trivial⟩ (fun w hw => rn_move rfl) (at_top rfl)) ?_
     refine bl_cons 13 rfl (isV _) (stab_isV _) (rgV (li := [(18, _)]) rfl (w_yes 74 rfl (by kernel_rfl) (by kernel_rfl) (at_dep rfl rfl rfl)) ⟨g_fr (by kernel_rfl) rfl, trivial⟩ (fun w hw => rn_move rfl) (at_top rfl)) ?_
     refine bl_cons 14 rfl (isV _) (stab_isV _) (rgV (li := [(78, _)]) rfl (w_yes 74 rfl (by kernel_rfl) (by kernel_rfl) (at_dep rfl rfl rfl)) ⟨g_dep 12 (by kernel_rfl) (at_dep rfl rfl rfl), trivial⟩ (fun w hw => rn_sub rfl rfl (IntWalk.i64_in _ (by omega))) (at_top rfl)) ?_
     refine bl_cons 15 rfl (isV _) (stab_isV _) (rgV (li := [(77, _), (79, _)]) rfl (w_yes 74 rfl (by kernel_rfl) (by kernel_rfl) (at_dep rfl rfl rfl)) ⟨g_dep 11 (by kernel_rfl) (at_dep rfl rfl rfl), g_dep 13 (by kernel_rfl) (at_dep rfl rfl rfl), trivial⟩ (fun w hw => rn_indexA (j := t.length) Tryd.underlying29 Tryd.sizeOf3 rfl rfl (by omega) (by omega) rfl) (at_top rfl)) ?_
     refine bl_cons 16 rfl (isV _) (stab_isV _) (rgV (li := [(80, _)]) rfl (w_yes 74 rfl (by kernel_rfl) (by kernel_rfl) (at_dep rfl rfl rfl)) ⟨g_dep 14 (by kernel_rfl) (at_dep rfl rfl rfl), trivial⟩ (fun w hw => rn_load Tryd.isAgg3 rfl ((below_agree hw 0).cell (Nat.zero_le _) (by assumption))) (at_top rfl)) ?_
     refine bl_cons 17 rfl (isV _) (stab_isV _) (rgV (li := [(76, _), (81, _)]) rfl (w_yes 74 rfl (by kernel_rfl) (by kernel_rfl) (at_dep rfl rfl rfl)) ⟨g_dep 10 (by kernel_rfl) (at_dep rfl rfl rfl), g_dep 15 (by kernel_rfl) (at_dep rfl rfl rfl), trivial⟩ (fun w hw => rn_neq rfl rfl) (at_top rfl)) ?_
     refine bl_cons 18 rfl (isV _) (stab_isV _) (rgV (li := [(74, _), (82, _)]) rfl (w_free rfl) ⟨g_dep 8 (by kernel_rfl) (at_dep rfl rfl rfl), g_dep 16 (by kernel_rfl) (at_dep rfl rfl rfl), trivial⟩ (fun w hw => rn_pickF rfl rfl) (at_top rfl)) ?_
     refine bl_nil ?_
     intro W24 hbR hS'
     clear hS; have hS := hS'; clear hS'
     refine fin_v ?_
     refine fin_v ?_
     refine fin_v ?_
     refine fin_v ?_
     refine fin_v ?_
     refine fin_v ?_
     refine fin_v ?_
     refine fin_v ?_
     refine fin_v ?_
     refine fin_v ?_
     refine fin_v ?_
     refine fin_v ?_
     refine fin_v ?_
     refine fin_v ?_
     refine fin_v ?_
     refine fin_v ?_
     refine fin_v ?_
     refine fin_v ?_
     refine fin_nil ?_
     refine XF.thenN ?_
     refine condF rfl (fun hc => ?_) (fun hc => ?_)
     ·have hc83 := hc; clear hc
      have hne := of_decide_eq_true hc83
      have hE : runStep S px rs (yn : Int) (q, y2 :: t, x) = .error 121 := by rw [hst]; simp [appB, h2, Ne.symm hne]
      refine seqF (regF ?_)
      refine op_build (us := []) rfl (bld_31) rfl ?_
      refine op_build (us := []) rfl (bld_40) rfl ?_
      refine op_move rfl rfl ?_
      refine op_storeA (i := 4) (vs := [_, _]) (cs' := [_, _]) (O' := [_, _, _, _, _, _, _]) hS Tryd.sizeOf31 rfl rfl rfl rfl rfl rfl rfl ?_
      clear hS; intro W25 hS
      refine op_storeA (i := 3) (vs := [_, _, _, _, _, _]) (cs' := [_, _, _, _, _, _]) (O' := [_, _, _, _, _, _, _]) hS Tryd.sizeOf40 rfl rfl rfl rfl rfl rfl rfl ?_
      clear hS; intro W26 hS
      refine op_assign rfl rfl ?_
      refine op_assign rfl rfl ?_
      refine endF (XF.thenN ?_)
      refine retF ?_
      refine XF.thenR ?_
      refine XF.blkR ?_
      refine XF.thenR ?_
      refine XF.thenR ?_
      refine XF.blkR ?_
      refine XF.thenR ?_
      refine XF.res (resCCTT (vs := [_, _]) (us := [_, _, _, _, _, _]) Tryd.results5 Tryd.isAgg31 Tryd.sizeOf31 rfl (CellsAt.own (j := 0) (m := 2) (hS.at_ 4 rfl) rfl) Tryd.isAgg40 Tryd.sizeOf40 rfl (CellsAt.own (j := 0) (m := 6) (hS.at_ 3 rfl) rfl) rfl rfl) ?_
      rw [← hrun, runF_err hE]
      exact runRet_none hS.below
     ·have hc83 := hc; clear hc
      have hgy : y2 = rg := (Decidable.of_not_not (of_decide_eq_false hc83)).symm
      have happ : appB ⟨rp, rg, rq, rwa, rwl, rwc, rws, rx⟩ q (y2 :: t) = true := by simp [appB, h2, hgy]
      refine skipF ?_
      refine XF.thenN ?_
      refine seqF ?_
      refine seqF (regF ?_)
      refine op_move rfl rfl ?_
      refine op_sub rfl rfl (IntWalk.i64_in _ (by omega)) rfl ?_
      refine op_field (o' := 3) fa_60_3 rfl rfl rfl ?_
      refine op_load Tryd.isAgg29 rfl (cell_own (hS.at_ 0 rfl) rfl) rfl ?_
      refine op_len Tryd.underlying29 rfl rfl ?_
      refine op_add rfl rfl (IntWalk.i64_in _ (by omega)) rfl ?_
      refine op_gtr rfl rfl rfl ?_
      refine endF (XF.thenN ?_)
      refine condF rfl (fun hc => ?_) (fun hc => ?_)
      ·have hc93 := of_decide_eq_true hc; clear hc
       have hE : runStep S px rs (yn : Int) (q, y2 :: t, x) = .error 2 := by rw [hst, if_neg (by rw [happ]; simp), if_pos (by omega)]
       refine seqF (regF ?_)
       refine op_build (us := []) rfl (bld_31) rfl ?_
       refine op_build (us := []) rfl (bld_40) rfl ?_
       refine op_move rfl rfl ?_
       refine op_storeA (i := 4) (vs := [_, _]) (cs' := [_, _]) (O' := [_, _, _, _, _, _, _]) hS Tryd.sizeOf31 rfl rfl rfl rfl rfl rfl rfl ?_
       clear hS; intro W27 hS
       refine op_storeA (i := 3) (vs := [_, _, _, _, _, _]) (cs' := [_, _, _, _, _, _]) (O' := [_, _, _, _, _, _, _]) hS Tryd.sizeOf40 rfl rfl rfl rfl rfl rfl rfl ?_
       clear hS; intro W28 hS
       refine op_assign rfl rfl ?_
       refine op_assign rfl rfl ?_
       refine endF (XF.thenN ?_)
       refine retF ?_
       refine XF.thenR ?_
       refine XF.blkR ?_
       refine XF.thenR ?_
       refine XF.thenR ?_
       refine XF.blkR ?_
       refine XF.thenR ?_
       refine XF.res (resCCTT (vs := [_, _]) (us := [_, _, _, _, _, _]) Tryd.results5 Tryd.isAgg31 Tryd.sizeOf31 rfl (CellsAt.own (j := 0) (m := 2) (hS.at_ 4 rfl) rfl) Tryd.isAgg40 Tryd.sizeOf40 rfl (CellsAt.own (j := 0) (m := 6) (hS.at_ 3 rfl) rfl) rfl rfl) ?_
       rw [← hrun, runF_err hE]
       exact runRet_none hS.below
      ·have hc93 := of_decide_eq_false hc; clear hc
       have hO : runStep S px rs (yn : Int) (q, y2 :: t, x) = .ok (rq, rws ++ t, extX S x (px ⟨rp, rg, rq, rwa, rwl, rwc, rws, rx⟩)) := by rw [hst, if_neg (by rw [happ]; simp), if_neg (by omega)]; rfl
       refine skipF ?_
       refine XF.thenN ?_
       refine seqF (regF ?_)
       refine op_move rfl rfl ?_
       refine op_move rfl rfl ?_
       refine op_sub rfl rfl (IntWalk.i64_in _ (by omega)) rfl ?_
       refine op_cut (k := t.length) hS 0 Tryd.underlying29 Tryd.sizeOf3 rfl rfl rfl (by omega) (by omega) rfl ?_
       intro hS'; clear hS; have hS := hS'; clear hS'
       refine op_assign rfl rfl ?_
       refine endF (XF.thenN ?_)
       refine seqF ?_
       refine seqF ?_
       have hS := hS.castG (congrArg (fun z => [GR.mk (.slice (some ⟨b3, 0, none⟩) t.length c) t.length z 3 1]) (top_cut (rws := rws)))
       refine regF ?_
       refine op_field (o' := 3) fa_60_3 rfl rfl rfl ?_
       refine op_load Tryd.isAgg29 rfl (cell_own (hS.at_ 0 rfl) rfl) rfl ?_
       refine op_len Tryd.underlying29 rfl rfl ?_
       refine op_move rfl rfl ?_
       refine endF (XF.thenN ?_)
       refine blockF ?_
       refine loopF (fun m2 l W => ∃ (j : Nat) (v : Value), j ≤ rwl ∧ m2 = rwl - j ∧ l = [(3, .pointer (some ⟨B1, 0, none⟩)), (6, .pointer (some ⟨B3, 0, none⟩)), (7, .pointer (some ⟨B4, 0, none⟩)), (11, .pointer (some ⟨B7, 0, none⟩)), (12, .pointer (some ⟨(Bf9 4), 0, none⟩)), (13, .int .i64 q), (14, v), (15, .int .i64 (k : Int)), (17, .pointer (some ⟨B16, 0, none⟩)), (40, .slice (some ⟨b0, off0, none⟩) ll lc), (41, .int .i64 (ll : Int)), (42, .int .i64 (k : Int)), (103, .int .i64 (rwl : Int)), (104, .int .i64 (j : Int))] ∧ St w [(B16, [.int .i64 rp, .int .i64 rg, .int .i64 rq, .slice rwa rwl rwc, .bool rx.f.z, .int .i64 rx.f.c, .int .u64 (rx.f.g : Int), .slice rx.f.ra rx.f.rl rx.f.rc, .slice rx.f.ca rx.f.cl rx.f.cc, .slice rx.f.pa rx.f.pl rx.f.pc], 60), ((Bf9 4), f.six, 40), (B7, [.int .i64 s.f.tag, .int .i64 s.f.dim, .slice s.f.a s.f.len s.f.cap, .bool f0.z, .int .i64 f0.c, .int .u64 (f0.g : Int), .slice f0.ra f0.rl f0.rc, .slice f0.ca f0.cl f0.cc, .slice f0.pa f0.pl f0.pc], 54), (B4, [.bool false, .int .i64 0, .int .u64 0, .slice none 0 0, .slice none 0 0, .slice none 0 0], 40), (B3, [.int .i64 0, .slice none 0 0], 31), (B2, [.int .i64 p, .slice wa wl wc], 31), (B1, [.int .i64 s.f.tag, .int .i64 s.f.dim, .slice s.f.a s.f.len s.f.cap, .int .i64 st, .int .i64 sy, .slice (some ⟨b2, off2, none⟩) rl rc], 28)] [⟨v, t.length + j, (t.reverse ++ rws.reverse.take j).map (Value.int .i64), 3, 1⟩] Kk W) (rwl - 0) ([(3, _), (6, _), (7, _), (11, _), (12, _), (13, _), (14, _), (15, _), (17, _), (40, _), (41, _), (42, _), (103, _), (104, _)]) ⟨rfl, rfl, rfl, rfl, rfl, rfl, rfl, rfl, rfl, rfl, rfl, rfl, rfl, rfl, trivial⟩ (⟨0, _, Nat.zero_le _, rfl, rfl, hS.keep Kk (fun q hq => List.mem_cons_of_mem _ hq)⟩) ?_
       clear hS
       rintro m2 l W ⟨j, v, hj, rfl, rfl, hS⟩
       refine seqF (regF ?_)
       refine op_lss rfl rfl rfl ?_
       refine endF (XF.thenN ?_)
       refine seqF ?_
       refine condF rfl (fun hc => ?_) (fun hc => ?_)
       ·have hc105 := of_decide_eq_true hc; clear hc
        have hj1 : j < rwl := by omega
        obtain ⟨b4, off4, y4, rfl, hy4, hy4c⟩ := hrw.at1 (i := rwl - 1 - j) (show rwl - 1 - j < rws.length by omega)
        have k4 := hS.old hy4c
        refine skipF ?_
        refine XF.thenN ?_
        refine seqF ?_
        refine blockF ?_
        refine seqF (regF ?_)
        refine op_move rfl rfl ?_
        refine op_assign rfl rfl ?_
        refine endF (XF.thenN ?_)
        refine regF ?_
        refine op_move rfl rfl ?_
        refine op_field (o' := 3) fa_60_3 rfl rfl rfl ?_
        refine op_load Tryd.isAgg29 rfl (cell_own (hS.at_ 0 rfl) rfl) rfl ?_
        refine op_field (o' := 3) fa_60_3 rfl rfl rfl ?_
        refine op_load Tryd.isAgg29 rfl (cell_own (hS.at_ 0 rfl) rfl) rfl ?_
        refine op_len Tryd.underlying29 rfl rfl ?_
        refine op_sub rfl rfl (IntWalk.i64_in _ (by omega)) rfl ?_
        refine op_move rfl rfl ?_
        refine op_sub rfl rfl (IntWalk.i64_in _ (by omega)) rfl ?_
        refine op_indexA (j := rwl - 1 - j) Tryd.underlying29 Tryd.sizeOf3 rfl rfl (by omega) (by omega) rfl rfl ?_
        refine op_load Tryd.isAgg3 rfl (by first | assumption | exact hS.old (by assumption)) rfl ?_
        refine op_buildSlice (us := [(0, .int .i64 _)]) hS Tryd.underlying29 Tryd.sizeOf3 Tryd.zeroValue3 rfl rfl rfl (bs_29_1 _) rfl ?_
        clear hS; intro B29 W29 hS
        refine op_append (i := 0) (news := [_]) hS Tryd.underlying29 inf_3 rfl rfl (by show 0 < 1; decide) rfl rfl rfl rfl rfl (CellsAt.own (j := 0) (m := 1) (hS.at_ 0 rfl) rfl) rfl rfl (by simp only [maxLen]; omega) (by show (t.length + j + 1) * 8 ≤ _; omega) rfl ?_
        clear hS; intro v30 W30 hS
        have hS := hS.castG (congrArg (fun z => [GR.mk v30 (t.length + (j + 1)) z 3 1]) (take_app hy4 hrwl hj1))
        refine op_assign rfl rfl ?_
        refine endF ?_
        refine XF.blkN ?_
        refine XF.thenN ?_
        refine regF ?_
        refine op_add rfl rfl (IntWalk.i64_in _ (by omega)) rfl ?_
        refine op_move rfl rfl ?_
        refine endF ?_
        exact XF.round (rwl - (j + 1)) [(3, _), (6, _), (7, _), (11, _), (12, _), (13, _), (14, _), (15, _), (17, _), (40, _), (41, _), (42, _), (103, _), (104, _)] (by omega) ⟨rfl, rfl, rfl, rfl, rfl, rfl, rfl, rfl, rfl, rfl, rfl, rfl, rfl, rfl, trivial⟩ ⟨j + 1, _, by omega, rfl, rfl, hS.tail⟩
       ·have hc105 := of_decide_eq_false hc; clear hc
        have hjr : j = rwl := by omega
        have hS := hS.castG (G' := [⟨v, (rws ++ t).length, (rws ++ t).reverse.map (Value.int .i64), 3, 1⟩]) (by rw [show t.length + j = (rws ++ t).length by simp; omega, show t.reverse ++ rws.reverse.take j = (rws ++ t).reverse by rw [List.take_of_length_le (by simp; omega)]; simp])
        refine exitF ?_
        refine XF.thenX ?_
        refine XF.thenX ?_
        refine XF.blkX ?_
        refine XF.thenN ?_
        have hsz := hS.below.size
        have hXw := hX.now hS
        have hrxw := hrx.below hS.below
        refine regBK followsM 9 hS rfl rfl (by kernel_rfl) (by kernel_rfl) (by kernel_rfl) (fun d hd => by cases hd) ?_
        refine bl_cons 1 rfl (isV _) (stab_isV _) (rgV (li := [(17, _)]) rfl (w_free rfl) ⟨g_fr (by kernel_rfl) rfl, trivial⟩ (fun w hw => rn_field (o' := 2) fa_60_2 rfl rfl) (at_top rfl)) ?_
        refine bl_cons 2 rfl (isV _) (stab_isV _) (rgV (li := [(121, _)]) rfl (w_free rfl) ⟨g_dep 0 (by kernel_rfl) (at_dep rfl rfl rfl), trivial⟩ (fun w hw => rn_load Tryd.isAgg3 rfl ((below_agree hw 0).cell (Nat.zero_le _) (cell_own (hS.at_ 0 rfl) rfl))) (at_top rfl)) ?_
        refine bl_cons 3 rfl (isV _) (stab_isV _) (rgV (li := [(11, _)]) rfl (w_free rfl) ⟨g_fr (by kernel_rfl) rfl, trivial⟩ (fun w hw => rn_loadA (vs := [_, _, _, _, _, _, _, _, _]) Tryd.isAgg54 Tryd.sizeOf54 rfl (CellsAt.agree (below_agree hw 0) (Nat.zero_le _) (CellsAt.own (j := 0) (m := 9) (hS.at_ 2 rfl) rfl))) (at_top rfl)) ?_
        refine bl_cons 4 rfl (isX S x) (stab_isX) (rgP (li := [(12, _)]) rfl (w_free rfl) ⟨g_fr (by kernel_rfl) rfl, trivial⟩ (fun w hw => rn_loadA (vs := [_, _, _, _, _, _]) Tryd.isAgg40 Tryd.sizeOf40 rfl (CellsAt.agree (below_agree hw 0) (Nat.zero_le _) (CellsAt.own (j := 0) (m := 6) (hS.at_ 1 rfl) rfl))) (fun w hw => isX_of hXw hw) (at_top rfl)) ?_
        refine bl_cons 5 rfl (isV _) (stab_isV _) (rgV (li := [(17, _)]) rfl (w_free rfl) ⟨g_fr (by kernel_rfl) rfl, trivial⟩ (fun w hw => rn_field (o' := 4) fa_60_4 rfl rfl) (at_top rfl)) ?_
        refine bl_cons 6 rfl (isX S (px ⟨rp, rg, rq, rwa, rwl, rwc, rws, rx⟩)) (stab_isX) (rgP (li := [(125, _)]) rfl (w_free rfl) ⟨g_dep 4 (by kernel_rfl) (at_dep rfl rfl rfl), trivial⟩ (fun w hw => rn_loadA (vs := [_, _, _, _, _, _]) Tryd.isAgg40 Tryd.sizeOf40 rfl (CellsAt.agree (below_agree hw 0) (Nat.zero_le _) (CellsAt.own (j := 4) (m := 6) (hS.at_ 0 rfl) rfl))) (fun w hw => ⟨rx.f, rfl, hrxw.below hw⟩) (at_top rfl)) ?_
        refine bl_cons 7 rfl (isRowX S [x, px ⟨rp, rg, rq, rwa, rwl, rwc, rws, rx⟩]) (stab_isRowX) (rg_rowX2 rfl (w_free rfl) ⟨p_tmp (g_dep 3 (by kernel_rfl) (at_dep rfl rfl rfl)), p_tmp (g_dep 5 (by kernel_rfl) (at_dep rfl rfl rfl)), trivial⟩ (at_top rfl)) ?_
        refine bl_cons 8 rfl (isNew W.heap.size S (extX S x (px ⟨rp, rg, rq, rwa, rwl, rwc, rws, rx⟩))) (stab_isNew) (rg_call [isV (ringV s.f f0), isRowX S [x, px ⟨rp, rg, rq, rwa, rwl, rwc, rws, rx⟩]] rfl goes_16 (w_free rfl) ⟨p_tmp (g_dep 2 (by kernel_rfl) (at_dep rfl rfl rfl)), p_tmp (g_dep 6 (by kernel_rfl) (at_dep rfl rfl rfl)), trivial⟩ (fun vs w' hb hh => times2 hh (hsi.below (hS.below.trans (hb.mono hS.below.size))) hok (ht.below (hS.below.trans (hb.mono hS.below.size))) hb.size) (at_top rfl)) ?_
        refine bl_cons 9 rfl (isV _) (stab_isV _) (rgV (li := [(122, _)]) rfl (w_free rfl) ⟨g_dep 1 (by kernel_rfl) (at_dep rfl rfl rfl), trivial⟩ (fun w hw => rn_assign rfl) (at_top rfl)) ?_
        refine bl_nil ?_
        intro W31 hbR hS'
        clear hS; have hS := hS'; clear hS'
        refine fin_v ?_
        refine fin_v ?_
        refine fin_v ?_
        refine fin_p ?_; rintro _ _
        refine fin_v ?_
        refine fin_p ?_; rintro _ _
        refine fin_p ?_; rintro _ _
        refine fin_p ?_; rintro _ ⟨f2, rfl, hn2⟩
        refine fin_v ?_
        refine fin_nil ?_
        refine op_storeA (i := 1) (vs := [_, _, _, _, _, _]) (cs' := [_, _, _, _, _, _]) (O' := [_, _, _, _, _, _, _]) hS Tryd.sizeOf40 rfl rfl rfl rfl rfl rfl rfl ?_
        clear hS; intro W32 hS
        refine endF ?_
        refine XF.blkN ?_
        refine XF.thenN ?_
        refine regF ?_
        refine op_add rfl rfl (IntWalk.i64_in _ (by omega)) rfl ?_
        refine op_move rfl rfl ?_
        refine endF ?_
        exact XF.round (ll - (k + 1)) [(3, _), (6, _), (7, _), (11, _), (12, _), (13, _), (14, _), (40, _), (41, _), (42, _)] (by omega) ⟨rfl, rfl, rfl, rfl, rfl, rfl, rfl, rfl, rfl, rfl, trivial⟩ ⟨k + 1, rq, rws ++ t, extX S x (px ⟨rp, rg, rq, rwa, rwl, rwc, rws, rx⟩), f2, v, [(_, _)], by omega, rfl, rfl, by rw [← hrun, runF_ok hO], by simp; omega, Held.one (fun W2 hg => ⟨f2, rfl, (hn2.agree hg).mono hsz⟩), hS.tail.keep [_] (fun q hq => by simp at hq; subst hq; exact List.mem_cons_self)⟩
 ·have hc43 := of_decide_eq_false hc; clear hc
  rw [List.drop_of_length_le (by omega)] at hrun
  refine exitF ?_
  refine XF.thenX ?_
  refine XF.thenX ?_
  refine XF.blkX ?_
  refine XF.thenN ?_
  refine seqF (regF ?_)
  refine op_move rfl rfl ?_
  refine op_rev (zs := us.reverse) hS 0 goes_15 rfl rfl Tryd.slices_Reverse_int Tryd.slices_Reverse_int_empty rfl ?_
  clear hS; intro W33 hS
  refine endF (XF.thenN ?_)
  refine seqF ?_
  refine regS (ef := 4) (jy := 8) (ca := caNo (fun _ => [])) (ta := fun _ => 0) (Os := osSt _ 3 0 B3 ([.int .i64 0, .slice none 0 0]) ([.int .i64 q, .slice a us.length c]) 31) (Gs := gsNo _) (al := []) (k := 5) (ds := [8, 9]) followsM rfl hS rfl (by kernel_rfl) (by kernel_rfl) rfl (by decide) rfl (some) (.inl ⟨rfl, rfl⟩) rfl rfl ?_
  refine bls_cons 1 rfl rfl (isV _) (fun hNo => sgV [(13, _)] rfl rfl rfl rfl hNo (w_free rfl) ⟨g_fr (by kernel_rfl) rfl, trivial⟩ (fun ev w he hw => rn_move rfl) (at_top rfl)) ?_
  refine bls_cons 2 rfl rfl (isV _) (fun hNo => sgV [(14, _)] rfl rfl rfl rfl hNo (w_free rfl) ⟨g_fr (by kernel_rfl) rfl, trivial⟩ (fun ev w he hw => rn_move rfl) (at_top rfl)) ?_
  refine bls_cons 3 rfl rfl (isV _) (fun hNo => sgV [(132, _), (133, _)] rfl rfl rfl rfl hNo (w_free rfl) ⟨g_dep 0 (by kernel_rfl) (at_dep rfl rfl rfl), g_dep 1 (by kernel_rfl) (at_dep rfl rfl rfl), trivial⟩ (fun ev w he hw => rn_build (us := [(0, .int .i64 _), (1, .slice _ _ _)]) rfl (bld_31_0_1 _ _ _ _)) (at_top rfl)) ?_
  refine bls_cons 4 rfl rfl (isV _) (fun hNo => sgV [(12, _)] rfl rfl rfl rfl hNo (w_free rfl) ⟨g_fr (by kernel_rfl) rfl, trivial⟩ (fun ev w he hw => rn_loadA (vs := [_, _, _, _, _, _]) Tryd.isAgg40 Tryd.sizeOf40 rfl ((CellsAt.own (j := 0) (m := 6) (hw.at_ 0 (osSt_at (i := 0) (j := 3) rfl rfl)) rfl))) (at_top rfl)) ?_
  refine bls_any 5 rfl (eff_stO (m := 2) 3 0 [(6, _), (134, _)] rfl rfl rfl rfl (fun j hj => by rcases hj with h | rfl <;> first | (cases h <;> rfl) | rfl) ⟨g_fr (by kernel_rfl) rfl, g_dep 2 (by kernel_rfl) (at_dep rfl rfl rfl), trivial⟩ rfl rfl rfl Tryd.sizeOf31 rfl rfl rfl rfl) ?_
  refine bls_nil ?_
  intro Bf34 y34 W34 Ks34 hsz34 hKs34 hS' hcov34
  clear hS; have hS := hS'.castO (O' := [_, _, _, _, _, _]) rfl; clear hS'
  refine castL (L' := [AwS _ _ (isV _), AwS _ _ (isV _), AwS _ _ (isV _), AwS _ _ (isV _), isV _]) rfl ?_
  refine fin_sV ?_
  refine fin_sV ?_
  refine fin_sV ?_
  refine fin_sV ?_
  refine fin_0 ?_
  refine fin_nil ?_
  refine op_storeA (i := 2) (vs := [_, _, _, _, _, _]) (cs' := [_, _, _, _, _, _]) (O' := [_, _, _, _, _, _]) hS Tryd.sizeOf40 rfl rfl rfl rfl rfl rfl rfl ?_
  clear hS; intro W35 hS
  refine op_assign rfl rfl ?_
  refine op_assign rfl rfl ?_
  refine endF (XF.thenN ?_)
  refine retF ?_
  refine XF.res (resCCTT (vs := [_, _]) (us := [_, _, _, _, _, _]) Tryd.results5 Tryd.isAgg31 Tryd.sizeOf31 rfl (CellsAt.own (j := 0) (m := 2) (hS.at_ 3 rfl) rfl) Tryd.isAgg40 Tryd.sizeOf40 rfl (CellsAt.own (j := 0) (m := 6) (hS.at_ 2 rfl) rfl) rfl rfl) ?_
  rw [← hrun]
  obtain ⟨f', e', h'⟩ := hX hS (fun q hq => List.mem_append_right _ hq)
  exact ⟨hS.below, a, c, f', congrArg (fun z => Ending.returned (.tuple #[.agg #[.int .i64 q, .slice a us.length c], z, .int .i64 0, .int .i64 0])) e', by have h9 := hS.row 0 rfl; simp only [List.reverse_reverse] at h9; exact h9, h'⟩
end Go.Proofs.YtgjojhmninbkoaaDoor
namespace Go.Proofs.YtgjojhmninbkoaaDoor
open Go Go.RowKit
def CvRow (w : World) (a : Option Addr) (cs : List CV) : Prop :=
 cs = [] ∨ ∃ b off, a = some ⟨b, off, none⟩ ∧ ∀ (i : Nat) c, cs[i]? = some c → CellsAt w b (off + i * 2) [.int .i64 c.p, .slice c.wa c.wl c.wc]
theorem CvRow.at_ {w : World} {a : Option Addr} {cs : List CV} (h : CvRow w a cs) {i : Nat} {c : CV} (hi : cs[i]? = some c) : ∃ b off, a = some ⟨b, off, none⟩ ∧ CellsAt w b (off + i * 2) [.int .i64 c.p, .slice c.wa c.wl c.wc] := by
 rcases h with rfl | ⟨b, off, ha, hc⟩
 ·simp at hi
 ·exact ⟨b, off, ha, hc i c hi⟩
def CV.pl (c : CV) : Int × List Int := (c.p, c.ws)
theorem sameC_is {w : World} (c d : CV) (hc : CIn w c) (hd : CIn w d) (hm : c.wl ≤ 9223372036854775807) : Calls Tryd.prog 8 #[c.val, d.val] w fun e w' => e = .returned (.bool (decide (c.pl = d.pl))) ∧ Below w.heap.size w w' := by
 have h := sameC_c c.p c.wa c.wl c.wc c.ws d.p d.wa d.wl d.wc d.ws w hc.row hc.len hd.row hd.len hm
 rw [show decide (c.p = d.p ∧ c.ws = d.ws) = decide (c.pl = d.pl) from decide_eq_decide.2 ⟨fun h => by unfold CV.pl; rw [h.1, h.2], fun h => by unfold CV.pl at h; exact ⟨congrArg Prod.fst h, congrArg Prod.snd h⟩⟩] at h
 exact h
end Go.Proofs.YtgjojhmninbkoaaDoor
namespace Go.Proofs.YtgjojhmninbkoaaDoor
open Go Go.RowKit
theorem bs_44_1 (v00 : Value) (v01 : Value) : Instr.fill (fun i => some (i * 2, 2)) ((Array.range (1 * 2)).map ((Value.cells (.agg #[.int .i64 0, .slice none 0 0]))[· % (Value.cells (.agg #[.int .i64 0, .slice none 0 0])).size]!)) [(0, .agg #[v00, v01])] = some (List.toArray [v00, v01]) := by kernel_rfl
theorem inf_31 : Tryd.prog.info? 31 = some Tryd.t31 := by kernel_rfl
def nextF (p : Int) (ws : List Int) : List RV → Nat → Option (List (Int × Int × List Int))
 | [], _ => some []
 | r :: rs, i => if appB r p ws = true then (if 4096 < r.wl + (ws.length - 1) then none else (nextF p ws rs (i + 1)).map (((i : Int), r.q, r.ws ++ ws.tail) :: ·)) else nextF p ws rs (i + 1)
def two9 (c : CV) : List Value := [.int .i64 c.p, .slice c.wa c.wl c.wc]
def CHeld (lo : Nat) (W : World) (c : CV) : Prop := RowN lo W c.wa c.wc c.ws ∧ c.wl = c.ws.length
end Go.Proofs.YtgjojhmninbkoaaDoor
namespace Go.Proofs.YtgjojhmninbkoaaDoor
open Go Go.RowKit
theorem fa_64_0 (w : World) (b o : Nat) : (Instr.fieldAt 64 (.pointer (some ⟨b, o, none⟩)) 0).run Tryd.prog w = .ok (.pointer (some ⟨b, o + 0, none⟩)) w := by
 simp [Instr.fieldAt, run_underlying Tryd.underlying64, Instr.sureAddr, go_sem, Addr.add_lit]
theorem goes_26 : goesIn Tryd.prog 26 = true := by kernel_rfl
def goL (rs : List RV) (ws : List Int) : List Int → Option (List (Int × Int × List Int))
 | [] => some []
 | i :: l => match rs[i.toNat]? with
  | none => none
  | some r => if 4096 < r.wl + (ws.length - 1) then none else (goL rs ws l).map ((i, r.q, r.ws ++ ws.tail) :: ·)
theorem goL_at {rs : List RV} {ws l : List Int} {n : Nat} {r : RV} (h : rs[n]? = some r) : goL rs ws ((n : Int) :: l) = if 4096 < r.wl + (ws.length - 1) then none else (goL rs ws l).map (((n : Int), r.q, r.ws ++ ws.tail) :: ·) := by
 simp only [goL, Int.toNat_natCast, h]
theorem nextF_go {rs : List RV} {p y : Int} {t : List Int} : ∀ (xs : List RV) (i : Nat), (∀ (j : Nat) r, xs[j]? = some r → rs[i + j]? = some r) → nextF p (y :: t) xs i = goL rs (y :: t) (byL xs i (p, y))
 | [], i, _ => rfl
 | x :: xs, i, h => by
  have ih := nextF_go (rs := rs) (p := p) (y := y) (t := t) xs (i + 1) (fun j r hr => by
   have := h (j + 1) r (by simpa using hr)
   rw [show i + 1 + j = i + (j + 1) by omega]; exact this)
  have hx := h 0 x rfl
  rw [Nat.add_zero] at hx
  have hb : appB x p (y :: t) = decide ((p, y) = (x.p, x.g)) := by
   unfold appB
   show (decide (x.p = p) && decide (y = x.g)) = _
   rw [Bool.eq_iff_iff, Bool.and_eq_true, decide_eq_true_iff, decide_eq_true_iff, decide_eq_true_iff, Prod.mk.injEq]
   exact ⟨fun h => ⟨h.1.symm, h.2⟩, fun h => ⟨h.1.symm, h.2⟩⟩
  simp only [nextF, byL]
  rw [hb, ih]
  by_cases e : (p, y) = (x.p, x.g)
  ·rw [if_pos (decide_eq_true e), if_pos e, goL_at hx]
  ·rw [if_neg (by simpa using e), if_neg e]
theorem nextF_nil {p : Int} : ∀ (xs : List RV) (i : Nat), nextF p [] xs i = some []
 | [], i => rfl
 | x :: xs, i => by
  have hb : appB x p [] = false := by simp [appB]
  simp only [nextF]
  rw [hb, if_neg (by simp)]
  exact nextF_nil xs (i + 1)
theorem byL_at {k : Int × Int} : ∀ {rs : List RV} {i j : Nat} {x : Int}, (byL rs i k)[j]? = some x → ∃ (n : Nat) (r : RV), x = ((i + n : Nat) : Int) ∧ rs[n]? = some r ∧ k = (r.p, r.g)
 | [], i, j, x, h => by simp [byL] at h
 | y :: rs, i, j, x, h => by
  unfold byL at h
  by_cases e : k = (y.p, y.g)
  ·rw [if_pos e] at h
   cases j with
   | zero =>
    simp at h
    exact ⟨0, y, by rw [Nat.add_zero]; exact h.symm, rfl, e⟩
   | succ j =>
    obtain ⟨n, r, h1, h2, h3⟩ := byL_at (by simpa using h)
    exact ⟨n + 1, r, by rw [h1, show i + 1 + n = i + (n + 1) by omega], by simpa using h2, h3⟩
  ·rw [if_neg e] at h
   obtain ⟨n, r, h1, h2, h3⟩ := byL_at h
   exact ⟨n + 1, r, by rw [h1, show i + 1 + n = i + (n + 1) by omega], by simpa using h2, h3⟩
abbrev NxL := List (Int × Int × List Int)
def isNumN (lo : Nat) (l : NxL) : Asr := fun v w => w.ownsRow lo 3 1 v l.length ((l.map (·.1)).map (Value.int .i64))
def isCfsN (lo : Nat) (l : NxL) : Asr := fun v w => ∃ cs : List CV, w.ownsRow lo 31 2 v cs.length (cs.flatMap two9) ∧ cs.map CV.pl = l.map (·.2) ∧ ∀ c ∈ cs, CHeld lo w c
def MvRet (R : Option NxL) (w : World) (e : Ending) (w' : World) : Prop := Below w.heap.size w w' ∧ match R with
 | none => e = .returned (.tuple #[.slice none 0 0, .slice none 0 0, .bool false])
 | some l => ∃ v8 v9 : Value, e = .returned (.tuple #[v8, v9, .bool true]) ∧ isNumN w.heap.size l v8 w' ∧ isCfsN w.heap.size l v9 w'
theorem mvRet_no {R : Option NxL} {w w' : World} (hR : R = none) (hb : Below w.heap.size w w') : MvRet R w (.returned (.tuple #[.slice none 0 0, .slice none 0 0, .bool false])) w' := by subst hR; exact ⟨hb, rfl⟩
theorem mvRet_yes {R : Option NxL} {w w' : World} {l : NxL} {v8 v9 : Value} (hR : R = some l) (h1 : isNumN w.heap.size l v8 w') (h2 : isCfsN w.heap.size l v9 w') (hb : Below w.heap.size w w') : MvRet R w (.returned (.tuple #[v8, v9, .bool true])) w' := by subst hR; exact ⟨hb, v8, v9, rfl, h1, h2⟩
def isRplN (lo : Nat) (q : Int) (xs : List Int) : Asr := fun v w => ∃ a c, v = .tuple #[.agg #[.int .i64 q, .slice a xs.length c], .bool true] ∧ RowN lo w a c xs
theorem rpl_gN {P : Program} {f : FuncId} {vs : Array Value} {w : World} {q : Int} {xs : List Int} {R : Option (Int × List Int)} {lo : Nat} (hlo : lo ≤ w.heap.size) (hR : R = some (q, xs)) (h : Calls P f vs w (RplRet R w)) : Calls P f vs w (GivesN (isRplN lo q xs) w) := by
 subst hR
 exact h.mono fun e w2 ⟨hb, a, c, he, hn⟩ => ⟨_, he, fun w3 hg => ⟨a, c, rfl, (hn.agree hg).mono hlo⟩, hb⟩
theorem rpl_gN0 {P : Program} {f : FuncId} {vs : Array Value} {w : World} {R : Option (Int × List Int)} (hR : R = none) (h : Calls P f vs w (RplRet R w)) : Calls P f vs w (GivesN (isV (.tuple #[.agg #[.int .i64 0, .slice none 0 0], .bool false])) w) := by
 subst hR
 exact h.mono fun e w2 ⟨hb, he⟩ => ⟨_, he, fun _ _ => rfl, hb⟩
theorem syp_move9 {P : Program} {p : Asr} {d td : Nat} {ty : TypeId} {pos : String} : ∀ (ev : Operand → Value) (w : World), p (ev (.tmp td)) w → ∃ v, (execOp ev ⟨some d, .move (.tmp td), ty, pos, #[], none⟩).run P w = .ok (.value v) w ∧ ∀ w2, p (ev (.tmp td)) w2 → p v w2 := fun ev w h => ⟨ev (.tmp td), by unfold execOp; rfl, fun _ h => h⟩
theorem syp_ext9 {P : Program} {p q : Asr} {d td k : Nat} {ty : TypeId} {pos : String} (hpq : ∀ v w, p v w → ∃ (vs : Array Value) (u : Value), v = .tuple vs ∧ vs[k]? = some u ∧ ∀ w2, p v w2 → q u w2) : ∀ (ev : Operand → Value) (w : World), p (ev (.tmp td)) w → ∃ v, (execOp ev ⟨some d, .extract (.tmp td) k, ty, pos, #[], none⟩).run P w = .ok (.value v) w ∧ ∀ w2, p (ev (.tmp td)) w2 → q v w2 := fun ev w h => by
 obtain ⟨vs, u, e, hu, h2⟩ := hpq _ _ h
 exact ⟨u, by unfold execOp; simp only []; rw [e]; simp [Instr.extract, hu], h2⟩
theorem tup2_inj {a b a2 b2 : Value} (h : Value.tuple #[a, b] = .tuple #[a2, b2]) : a = a2 ∧ b = b2 := by
 simp at h; exact h
theorem isRpl_0 {lo : Nat} {q : Int} {xs : List Int} : ∀ v w, isRplN lo q xs v w → ∃ (vs : Array Value) (u : Value), v = .tuple vs ∧ vs[0]? = some u ∧ ∀ w2, isRplN lo q xs v w2 → isConfN lo q xs u w2 := fun v w ⟨a, c, e, h1⟩ => by
 subst e
 exact ⟨_, _, rfl, rfl, fun w2 ⟨a2, c2, e2, h3⟩ => ⟨a2, c2, (tup2_inj e2).1, h3⟩⟩
theorem isRpl_1 {lo : Nat} {q : Int} {xs : List Int} : ∀ v w, isRplN lo q xs v w → ∃ (vs : Array Value) (u : Value), v = .tuple vs ∧ vs[1]? = some u ∧ ∀ w2, isRplN lo q xs v w2 → isV (.bool true) u w2 := fun v w ⟨a, c, e, h1⟩ => by
 subst e
 exact ⟨_, _, rfl, rfl, fun w2 _ => rfl⟩
theorem confN_row9 {lo : Nat} {q : Int} {us : List Int} {a : Option Addr} {n c : Nat} {w : World} (h : isConfN lo q us (.agg #[.int .i64 q, .slice a n c]) w) : RowN lo w a c us := by
 obtain ⟨a2, c2, e, h⟩ := h
 simp at e
 obtain ⟨rfl, _, rfl⟩ := e
 exact h
theorem next_is (ra : Option Addr) (rl rc : Nat) (rs : List RV) (lo bm : Nat) (p : Int) (wa : Option Addr) (wl wc : Nat) (ws : List Int) (w : World) (hprow : RRow w ra rs) (hplen : rs.length = rl) (hin : ∀ r ∈ rs, Row w r.wa r.ws ∧ r.ws.length = r.wl ∧ r.wl ≤ 4096) (hrm : rl ≤ 16384) (hM : GrpT lo rs bm w) (hrow : Row w wa ws) (hlen : ws.length = wl) (hcap : wl ≤ wc) (hw4 : wl ≤ 4096) (hp : 0 ≤ p ∧ p ≤ 1000000) (hy : ∀ y ∈ ws, 0 ≤ y ∧ y ≤ 1000000) :
  Calls Tryd.prog 19 #[.agg #[.slice ra rl rc, .map (some bm)], .agg #[.int .i64 p, .slice wa wl wc]] w (MvRet (nextF p ws rs 0) w) := by
 refine enterF (args := [.agg #[.slice ra rl rc, .map (some bm)], .agg #[.int .i64 p, .slice wa wl wc]]) Tryd.func19 rfl Tryd.ntmps19 rfl ?_
 have hS := St.start w
 refine seqF (regF ?_)
 refine op_box (cs := [_, _]) hS rfl rfl rfl ?_
 clear hS; intro B1 W1 hS
 refine op_box (cs := [_, _]) hS rfl rfl rfl ?_
 clear hS; intro B2 W2 hS
 refine op_assign rfl rfl ?_
 refine op_assign rfl rfl ?_
 refine op_assign rfl rfl ?_
 refine endF (XF.thenN ?_)
 refine seqF ?_
 refine seqF (regF ?_)
 refine op_field (o' := 1) fa_31_1 rfl rfl rfl ?_
 refine op_load Tryd.isAgg29 rfl (cell_own (hS.at_ 0 rfl) rfl) rfl ?_
 refine op_len Tryd.underlying29 rfl rfl ?_
 refine op_eql rfl rfl rfl ?_
 refine endF (XF.thenN ?_)
 refine condF rfl (fun hc => ?_) (fun hc => ?_)
 ·have hc16 := of_decide_eq_true hc; clear hc
  obtain rfl : ws = [] := List.eq_nil_of_length_eq_zero (by omega)
  refine seqF (regF ?_)
  refine op_assign rfl rfl ?_
  refine op_assign rfl rfl ?_
  refine op_assign rfl rfl ?_
  refine endF (XF.thenN ?_)
  refine retF ?_
  refine XF.thenR ?_
  refine XF.res (res3 Tryd.results19 rfl rfl rfl) ?_
  exact mvRet_yes (nextF_nil _ _) (World.ownsRow_nil _ _ _ _) ⟨[], World.ownsRow_nil _ _ _ _, rfl, fun c hc => by cases hc⟩ hS.below
 ·have hc16 := of_decide_eq_false hc; clear hc
  obtain ⟨y, t, rfl⟩ : ∃ y t, ws = y :: t := by
   cases ws with
   | nil => exact absurd hlen (by simp; omega)
   | cons y t => exact ⟨y, t, rfl⟩
  have hyy := hy y List.mem_cons_self
  obtain ⟨v26, hlk, hrw26⟩ := Grp.look hM topLaw Tryd.underlying62 Tryd.zeroValue29 (k := (p, y)) (topKey (wf_small hp.1 hp.2) (wf_small hyy.1 hyy.2)) kv_inj
  obtain ⟨la, lc, rfl, hlc⟩ := ownsRow_sl hrw26
  obtain ⟨ll, hll⟩ : ∃ n, n = (byV rs (p, y)).length := ⟨_, rfl⟩
  rw [← hll] at hlk hrw26 hlc
  have hbm := Grp.lt hM
  have hll2 : ll = (byL rs 0 (p, y)).length := by rw [hll, List.length_map]
  have hlrs := byL_len (p, y) rs 0
  have hgo := nextF_go (rs := rs) (p := p) (y := y) (t := t) rs 0 (fun j r h => by rw [Nat.zero_add]; exact h)
  obtain ⟨wb, wo, y0, rfl, hy0, hyc⟩ := hrow.at1 (show 0 < (y :: t).length by simp)
  obtain rfl : y = y0 := Option.some.inj hy0
  have hyc1 : w.cell? ⟨wb, wo, none⟩ = some (.int .i64 y) := hyc
  refine skipF ?_
  refine XF.thenN ?_
  refine seqF ?_
  have hS := hS.newG 31 2
  refine regF ?_
  refine op_assign rfl rfl ?_
  refine endF (XF.thenN ?_)
  refine seqF ?_
  have hS := hS.newG 3 1
  refine regF ?_
  refine op_assign rfl rfl ?_
  refine endF (XF.thenN ?_)
  refine seqF ?_
  refine seqF ?_
  have k1 := hS.old hyc1
  refine regB (m := 12) followsM hS (by kernel_rfl) (by kernel_rfl) rfl ?_
  refine bl_cons 1 rfl (isV _) (stab_isV _) (rgV (li := [(2, _)]) rfl (w_free rfl) ⟨g_fr (by kernel_rfl) rfl, trivial⟩ (fun w hw => rn_field (o' := 1) fa_64_1 rfl rfl) (at_top rfl)) ?_
  refine bl_cons 2 rfl (isV _) (stab_isV _) (rgV (li := [(17, _)]) rfl (w_free rfl) ⟨g_dep 0 (by kernel_rfl) (at_dep rfl rfl rfl), trivial⟩ (fun w hw => rn_load Tryd.isAgg62 rfl ((below_agree hw 0).cell (Nat.zero_le _) (cell_own (hS.at_ 1 rfl) rfl))) (at_top rfl)) ?_
  refine bl_cons 3 rfl (isV _) (stab_isV _) (rgV (li := [(3, _)]) rfl (w_free rfl) ⟨g_fr (by kernel_rfl) rfl, trivial⟩ (fun w hw => rn_field (o' := 0) fa_31_0 rfl rfl) (at_top rfl)) ?_
  refine bl_cons 4 rfl (isV _) (stab_isV _) (rgV (li := [(19, _)]) rfl (w_free rfl) ⟨g_dep 2 (by kernel_rfl) (at_dep rfl rfl rfl), trivial⟩ (fun w hw => rn_load Tryd.isAgg3 rfl ((below_agree hw 0).cell (Nat.zero_le _) (cell_own (hS.at_ 0 rfl) rfl))) (at_top rfl)) ?_
  refine bl_cons 5 rfl (isV _) (stab_isV _) (rgV (li := [(3, _)]) rfl (w_free rfl) ⟨g_fr (by kernel_rfl) rfl, trivial⟩ (fun w hw => rn_field (o' := 1) fa_31_1 rfl rfl) (at_top rfl)) ?_
  refine bl_cons 6 rfl (isV _) (stab_isV _) (rgV (li := [(21, _)]) rfl (w_free rfl) ⟨g_dep 4 (by kernel_rfl) (at_dep rfl rfl rfl), trivial⟩ (fun w hw => rn_load Tryd.isAgg29 rfl ((below_agree hw 0).cell (Nat.zero_le _) (cell_own (hS.at_ 0 rfl) rfl))) (at_top rfl)) ?_
  refine bl_cons 7 rfl (isV _) (stab_isV _) (rgV (li := [(22, _)]) rfl (w_free rfl) ⟨g_dep 5 (by kernel_rfl) (at_dep rfl rfl rfl), trivial⟩ (fun w hw => rn_indexA (j := 0) Tryd.underlying29 Tryd.sizeOf3 rfl rfl rfl (by omega) (Nat.add_zero _)) (at_top rfl)) ?_
  refine bl_cons 8 rfl (isV _) (stab_isV _) (rgV (li := [(23, _)]) rfl (w_free rfl) ⟨g_dep 6 (by kernel_rfl) (at_dep rfl rfl rfl), trivial⟩ (fun w hw => rn_load Tryd.isAgg3 rfl ((below_agree hw 0).cell (Nat.zero_le _) (k1))) (at_top rfl)) ?_
  refine bl_cons 9 rfl (isV _) (stab_isV _) (rgV (li := [(20, _), (24, _)]) rfl (w_free rfl) ⟨g_dep 3 (by kernel_rfl) (at_dep rfl rfl rfl), g_dep 7 (by kernel_rfl) (at_dep rfl rfl rfl), trivial⟩ (fun w hw => rn_build (us := [(0, .int .i64 _), (1, .int .i64 _)]) rfl (bld_82_0_1 _ _)) (at_top rfl)) ?_
  refine bl_cons 10 rfl (isV _) (stab_isV _) (rgV (li := [(18, _), (25, _)]) rfl (w_free rfl) ⟨g_dep 1 (by kernel_rfl) (at_dep rfl rfl rfl), g_dep 8 (by kernel_rfl) (at_dep rfl rfl rfl), trivial⟩ (fun w hw => rn_lookup rfl rfl (hlk w ((hw.block _ (Nat.lt_of_lt_of_le hbm hS.below.size)).trans (hS.below.block _ hbm)))) (at_top rfl)) ?_
  refine bl_cons 11 rfl (isV _) (stab_isV _) (rgV (li := [(26, _)]) rfl (w_free rfl) ⟨g_dep 9 (by kernel_rfl) (at_dep rfl rfl rfl), trivial⟩ (fun w hw => rn_len Tryd.underlying29 rfl) (at_top rfl)) ?_
  refine bl_cons 12 rfl (isV _) (stab_isV _) (rgV (li := []) rfl (w_free rfl) trivial (fun w hw => rn_move rfl) (at_top rfl)) ?_
  refine bl_nil ?_
  intro W3 hbR hS'
  clear hS; have hS := hS'; clear hS'
  refine fin_v ?_
  refine fin_v ?_
  refine fin_v ?_
  refine fin_v ?_
  refine fin_v ?_
  refine fin_v ?_
  refine fin_v ?_
  refine fin_v ?_
  refine fin_v ?_
  refine fin_v ?_
  refine fin_v ?_
  refine fin_v ?_
  refine fin_nil ?_
  refine XF.thenN ?_
  refine blockF ?_
  refine loopF (fun m l W => ∃ (i : Nat) (v8 v9 : Value) (acc : NxL) (cs : List CV) (Kk : List (Nat × World)), i ≤ ll ∧ m = ll - i ∧ l = [(2, .pointer (some ⟨B1, 0, none⟩)), (3, .pointer (some ⟨B2, 0, none⟩)), (7, v8), (8, v9), (26, .slice la ll lc), (27, .int .i64 (ll : Int)), (28, .int .i64 (i : Int))] ∧ (goL rs (y :: t) ((byL rs 0 (p, y)).drop i)).map (acc ++ ·) = nextF p (y :: t) rs 0 ∧ acc.length = i ∧ cs.map CV.pl = acc.map (·.2) ∧ Held w Kk (fun W2 => ∀ c ∈ cs, CHeld w.heap.size W2 c) ∧ St w [(B2, [.int .i64 p, .slice (some ⟨wb, wo, none⟩) wl wc], 31), (B1, [.slice ra rl rc, .map (some bm)], 64)] [⟨v8, acc.length, (acc.map (·.1)).map (Value.int .i64), 3, 1⟩, ⟨v9, cs.length, cs.flatMap two9, 31, 2⟩] Kk W) (ll - 0) ([(2, _), (3, _), (7, _), (8, _), (26, _), (27, _), (28, _)]) ⟨rfl, rfl, rfl, rfl, rfl, rfl, rfl, trivial⟩ (⟨0, _, _, [], [], [], Nat.zero_le _, rfl, rfl, by rw [List.drop_zero, hgo]; cases goL rs (y :: t) (byL rs 0 (p, y)) <;> rfl, rfl, rfl, (fun _ _ c hc => by cases hc), hS.clear⟩) ?_
  clear hS
  rintro m l W ⟨i, v8, v9, acc, cs, Kk, hi, rfl, rfl, hrun, hacc, hcs9, hX, hS⟩
  refine seqF (regF ?_)
  refine op_lss rfl rfl rfl ?_
  refine endF (XF.thenN ?_)
  refine seqF ?_
  refine condF rfl (fun hc => ?_) (fun hc => ?_)
  ·have hc29 := of_decide_eq_true hc; clear hc
   have hk : i < ll := by omega
   obtain ⟨x, hx⟩ : ∃ x, (byL rs 0 (p, y))[i]? = some x := ⟨(byL rs 0 (p, y))[i]'(by omega), by simp⟩
   obtain ⟨nn, r, hxn, hr, _⟩ := byL_at hx
   rw [Nat.zero_add] at hxn
   subst hxn
   have hnr := (List.getElem?_eq_some_iff.1 hr).1
   obtain ⟨b, off, rfl, hcs⟩ := hprow.at_ hr
   have k1 := CellsAt.agree hS.agree (Nat.zero_le _) hcs
   obtain ⟨_, h0⟩ | ⟨lb, rfl, _, hcell⟩ := ownsRow_cells hrw26
   ·omega
   have k2 : W.cell? ⟨lb, 0 + i * 1, none⟩ = some (.int .i64 (nn : Int)) := hS.old (by rw [Nat.zero_add, Nat.mul_one]; exact hcell i _ (by rw [List.getElem?_map, hx]; rfl))
   have hri := hin r (List.mem_of_getElem? hr)
   have hcl : cs.length = acc.length := by have := congrArg List.length hcs9; simpa using this
   rw [drop_at9 hx, goL_at hr] at hrun
   have htl : wl = t.length + 1 := by rw [← hlen]; rfl
   refine skipF ?_
   refine XF.thenN ?_
   refine seqF ?_
   refine blockF ?_
   refine seqF (regF ?_)
   refine op_indexA  Tryd.underlying29 Tryd.sizeOf3 rfl rfl rfl (by omega) rfl rfl ?_
   refine op_load Tryd.isAgg3 rfl (k2) rfl ?_
   refine op_assign rfl rfl ?_
   refine endF (XF.thenN ?_)
   refine seqF ?_
   by_cases hlong : 4096 < r.wl + ((y :: t).length - 1)
   ·rw [if_pos hlong] at hrun
    have hsz8 := hS.below.size
    have k3 : w.cell? ⟨b, off + nn * 10 + 2, none⟩ = some (.int .i64 r.q) := hcs.2.2.1
    have k4 : w.cell? ⟨b, off + nn * 10 + 3, none⟩ = some (.slice r.wa r.wl r.wc) := hcs.2.2.2.1
    refine regY (al := [⟨17, 31, [.int .i64 0, .slice none 0 0], 18⟩]) (G := fun _ => [⟨v8, acc.length, (acc.map (·.1)).map (Value.int .i64), 3, 1⟩, ⟨v9, cs.length, cs.flatMap two9, 31, 2⟩]) (E := [17, 18]) (k := 19) (ds := [12]) followsM rfl hS rfl rfl (by kernel_rfl) (by kernel_rfl) rfl (by decide) rfl ?_
    refine bly_cons 1 rfl (isV _) (syV fst_take [(2, _)] rfl rfl (fun _ => (w_free rfl)) (fun _ => ⟨g_fr (by kernel_rfl) rfl, trivial⟩) (fun s w hw => rn_field (o' := 0) fa_64_0 rfl rfl) (at_top rfl)) ?_
    refine bly_cons 2 rfl (isV _) (syV fst_take [(33, _)] rfl rfl (fun _ => (w_free rfl)) (fun _ => ⟨g_dep 0 (by kernel_rfl) (at_n rfl rfl (at_dep rfl rfl rfl)), trivial⟩) (fun s w hw => rn_load Tryd.isAgg26 rfl ((cell_own (hw.at_ 1 rfl) rfl))) (at_top rfl)) ?_
    refine bly_cons 3 rfl (isV _) (syV fst_take [(10, _)] rfl rfl (fun _ => (w_free rfl)) (fun _ => ⟨g_fr (by kernel_rfl) rfl, trivial⟩) (fun s w hw => rn_move rfl) (at_top rfl)) ?_
    refine bly_cons 4 rfl (isV _) (syV fst_take [(34, _), (35, _)] rfl rfl (fun _ => (w_free rfl)) (fun _ => ⟨g_dep 1 (by kernel_rfl) (at_n rfl rfl (at_dep rfl rfl rfl)), g_dep 2 (by kernel_rfl) (at_n rfl rfl (at_dep rfl rfl rfl)), trivial⟩) (fun s w hw => rn_indexA (j := nn) Tryd.underlying26 Tryd.sizeOf60 rfl rfl (rfl) (by omega) rfl) (at_top rfl)) ?_
    refine bly_cons 5 rfl (isV _) (syV fst_take [(36, _)] rfl rfl (fun _ => (w_free rfl)) (fun _ => ⟨g_dep 3 (by kernel_rfl) (at_n rfl rfl (at_dep rfl rfl rfl)), trivial⟩) (fun s w hw => rn_field fa_60_2 rfl rfl) (at_top rfl)) ?_
    refine bly_cons 6 rfl (isV _) (syV fst_take [(37, _)] rfl rfl (fun _ => (w_free rfl)) (fun _ => ⟨g_dep 4 (by kernel_rfl) (at_n rfl rfl (at_dep rfl rfl rfl)), trivial⟩) (fun s w hw => rn_load Tryd.isAgg3 rfl (hw.agree.cell (Nat.zero_le _) (k3))) (at_top rfl)) ?_
    refine bly_cons 7 rfl (isV _) (syV fst_take [(2, _)] rfl rfl (fun _ => (w_free rfl)) (fun _ => ⟨g_fr (by kernel_rfl) rfl, trivial⟩) (fun s w hw => rn_field (o' := 0) fa_64_0 rfl rfl) (at_top rfl)) ?_
    refine bly_cons 8 rfl (isV _) (syV fst_take [(39, _)] rfl rfl (fun _ => (w_free rfl)) (fun _ => ⟨g_dep 6 (by kernel_rfl) (at_n rfl rfl (at_dep rfl rfl rfl)), trivial⟩) (fun s w hw => rn_load Tryd.isAgg26 rfl ((cell_own (hw.at_ 1 rfl) rfl))) (at_top rfl)) ?_
    refine bly_cons 9 rfl (isV _) (syV fst_take [(10, _)] rfl rfl (fun _ => (w_free rfl)) (fun _ => ⟨g_fr (by kernel_rfl) rfl, trivial⟩) (fun s w hw => rn_move rfl) (at_top rfl)) ?_
    refine bly_cons 10 rfl (isV _) (syV fst_take [(40, _), (41, _)] rfl rfl (fun _ => (w_free rfl)) (fun _ => ⟨g_dep 7 (by kernel_rfl) (at_n rfl rfl (at_dep rfl rfl rfl)), g_dep 8 (by kernel_rfl) (at_n rfl rfl (at_dep rfl rfl rfl)), trivial⟩) (fun s w hw => rn_indexA (j := nn) Tryd.underlying26 Tryd.sizeOf60 rfl rfl (rfl) (by omega) rfl) (at_top rfl)) ?_
    refine bly_cons 11 rfl (isV _) (syV fst_take [(42, _)] rfl rfl (fun _ => (w_free rfl)) (fun _ => ⟨g_dep 9 (by kernel_rfl) (at_n rfl rfl (at_dep rfl rfl rfl)), trivial⟩) (fun s w hw => rn_field fa_60_3 rfl rfl) (at_top rfl)) ?_
    refine bly_cons 12 rfl (isV _) (syV fst_take [(43, _)] rfl rfl (fun _ => (w_free rfl)) (fun _ => ⟨g_dep 10 (by kernel_rfl) (at_n rfl rfl (at_dep rfl rfl rfl)), trivial⟩) (fun s w hw => rn_load Tryd.isAgg29 rfl (hw.agree.cell (Nat.zero_le _) (k4))) (at_top rfl)) ?_
    refine bly_cons 13 rfl (isV _) (syV fst_take [(3, _)] rfl rfl (fun _ => (w_free rfl)) (fun _ => ⟨g_fr (by kernel_rfl) rfl, trivial⟩) (fun s w hw => rn_loadA (vs := [_, _]) Tryd.isAgg31 Tryd.sizeOf31 rfl ((CellsAt.own (j := 0) (m := 2) (hw.at_ 0 rfl) rfl))) (at_top rfl)) ?_
    refine bly_cons 14 rfl (isV (.tuple #[.agg #[.int .i64 0, .slice none 0 0], .bool false])) (sy_call fst_take (fun s => [isV _, isV _, isV _, isV _]) rfl rfl goes_26 (fun _ => w_free rfl) (fun s => ⟨p_tmp (g_dep 5 (by kernel_rfl) (at_n rfl rfl (at_dep rfl rfl rfl))), p_tmp (g_dep 11 (by kernel_rfl) (at_n rfl rfl (at_dep rfl rfl rfl))), p_tmp (g_dep 12 (by kernel_rfl) (at_n rfl rfl (at_dep rfl rfl rfl))), p_const, trivial⟩) (fun vs s w' hk hw hlo hh => by have e := holds_isV (us := [_, _, _, _]) hh; subst e; exact rpl_gN0 (if_pos (by simp at hlong; omega)) (replaced_is r.q p r.wa _ r.wl r.wc wl wc 1 r.ws (y :: t) _ (hri.1.below hw.below) hri.2.1 (hrow.below hw.below) hlen (by omega) hcap (by omega) (by omega))) (at_top rfl)) ?_
    refine bly_cons 15 rfl (isV _) (syV fst_take [(46, _)] rfl rfl (fun _ => (w_free rfl)) (fun _ => ⟨g_dep 13 (by kernel_rfl) (at_n rfl rfl (at_dep rfl rfl rfl)), trivial⟩) (fun s w hw => rn_move rfl) (at_top rfl)) ?_
    refine bly_cons 16 rfl (isV _) (syV fst_take [(32, _)] rfl rfl (fun _ => (w_free rfl)) (fun _ => ⟨g_dep 14 (by kernel_rfl) (at_n rfl rfl (at_dep rfl rfl rfl)), trivial⟩) (fun s w hw => rn_extract rfl rfl) (at_top rfl)) ?_
    refine bly_cons 17 rfl (isV _) (syV fst_take [(32, _)] rfl rfl (fun _ => (w_free rfl)) (fun _ => ⟨g_dep 14 (by kernel_rfl) (at_n rfl rfl (at_dep rfl rfl rfl)), trivial⟩) (fun s w hw => rn_extract rfl rfl) (at_top rfl)) ?_
    refine bly_cons 18 rfl (isPtr W.heap.size) (sy_alloc ⟨17, 31, [.int .i64 0, .slice none 0 0], 18⟩ rfl rfl Tryd.zeroValue31 List.mem_cons_self rfl rfl rfl (.inl (by kernel_rfl)) (by decide) rfl (fun _ _ => rfl) (at_top rfl)) ?_
    refine bly_cons 19 rfl (isV _) (sy_store (jy := 15) (m := 2) ⟨17, 31, [.int .i64 0, .slice none 0 0], 18⟩ rfl rfl List.mem_cons_self rfl rfl (by kernel_rfl) (at_dep rfl rfl rfl) (by kernel_rfl) (at_dep rfl rfl rfl) (at_top rfl) Tryd.sizeOf31 rfl (fun v w h => by subst h; exact ⟨_, rfl, rfl, rfl⟩) (by decide) rfl (fun _ _ => rfl)) ?_
    refine bly_nil ?_
    intro s4 W4 Ks4 hall4 hsz4 hKs4 hS' hcov4 hfx4 hno4
    obtain ⟨v4_17, h4_17⟩ := hall4 17 rfl
    obtain ⟨v4_18, h4_18⟩ := hall4 18 rfl
    have f4_17 : AwS _ _ (isPtr W.heap.size) _ _ := hfx4 17 rfl _ h4_17
    obtain ⟨B4_17, rfl, hB4_17⟩ := f4_17.here
    have f4_18 : AwS _ _ (isV _) _ _ := hfx4 18 rfl _ h4_18
    obtain rfl := f4_18.here
    clear hS; have hS := hS'.castO (O' := [(B4_17, _, 31), _, _]) (by simp only [OY, AS_cons, AB.cs, h4_17, h4_18]; rfl); clear hS'
    refine castL (L' := [AwS _ _ (isV _), AwS _ _ (isV _), AwS _ _ (isV _), AwS _ _ (isV _), AwS _ _ (isV _), AwS _ _ (isV _), AwS _ _ (isV _), AwS _ _ (isV _), AwS _ _ (isV _), AwS _ _ (isV _), AwS _ _ (isV _), AwS _ _ (isV _), AwS _ _ (isV _), AwS _ _ (isV (.tuple #[.agg #[.int .i64 0, .slice none 0 0], .bool false])), AwS _ _ (isV _), AwS _ _ (isV _), AwS _ _ (isV _), isE s4 17, isE s4 18]) rfl ?_
    refine fin_sV ?_
    refine fin_sV ?_
    refine fin_sV ?_
    refine fin_sV ?_
    refine fin_sV ?_
    refine fin_sV ?_
    refine fin_sV ?_
    refine fin_sV ?_
    refine fin_sV ?_
    refine fin_sV ?_
    refine fin_sV ?_
    refine fin_sV ?_
    refine fin_sV ?_
    refine fin_sV ?_
    refine fin_sV ?_
    refine fin_sV ?_
    refine fin_sV ?_
    refine fin_p ?_; intro u hu; obtain rfl := Option.some.inj (h4_17.symm.trans hu); clear hu
    refine fin_0 ?_
    refine fin_nil ?_
    refine op_assign rfl rfl ?_
    refine endF (XF.thenN ?_)
    refine seqF ?_
    refine seqF (regF ?_)
    refine op_move rfl rfl ?_
    refine op_not rfl rfl ?_
    refine endF (XF.thenN ?_)
    refine condF rfl (fun hc => ?_) (fun hc => absurd hc (by decide))
    skip
    refine seqF (regF ?_)
    refine op_assign rfl rfl ?_
    refine op_assign rfl rfl ?_
    refine op_assign rfl rfl ?_
    refine endF (XF.thenN ?_)
    refine retF ?_
    refine XF.thenR ?_
    refine XF.blkR ?_
    refine XF.thenR ?_
    refine XF.thenR ?_
    refine XF.blkR ?_
    refine XF.thenR ?_
    refine XF.res (res3 Tryd.results19 rfl rfl rfl) ?_
    exact mvRet_no (by rw [← hrun]; rfl) hS.below
   ·rw [if_neg hlong] at hrun
    have hsz8 := hS.below.size
    have k3 : w.cell? ⟨b, off + nn * 10 + 2, none⟩ = some (.int .i64 r.q) := hcs.2.2.1
    have k4 : w.cell? ⟨b, off + nn * 10 + 3, none⟩ = some (.slice r.wa r.wl r.wc) := hcs.2.2.2.1
    refine regY (al := [⟨17, 31, [.int .i64 0, .slice none 0 0], 18⟩]) (G := fun _ => [⟨v8, acc.length, (acc.map (·.1)).map (Value.int .i64), 3, 1⟩, ⟨v9, cs.length, cs.flatMap two9, 31, 2⟩]) (E := [17, 18]) (k := 19) (ds := [12]) followsM rfl hS rfl rfl (by kernel_rfl) (by kernel_rfl) rfl (by decide) rfl ?_
    refine bly_cons 1 rfl (isV _) (syV fst_take [(2, _)] rfl rfl (fun _ => (w_free rfl)) (fun _ => ⟨g_fr (by kernel_rfl) rfl, trivial⟩) (fun s w hw => rn_field (o' := 0) fa_64_0 rfl rfl) (at_top rfl)) ?_
    refine bly_cons 2 rfl (isV _) (syV fst_take [(33, _)] rfl rfl (fun _ => (w_free rfl)) (fun _ => ⟨g_dep 0 (by kernel_rfl) (at_n rfl rfl (at_dep rfl rfl rfl)), trivial⟩) (fun s w hw => rn_load Tryd.isAgg26 rfl ((cell_own (hw.at_ 1 rfl) rfl))) (at_top rfl)) ?_
    refine bly_cons 3 rfl (isV _) (syV fst_take [(10, _)] rfl rfl (fun _ => (w_free rfl)) (fun _ => ⟨g_fr (by kernel_rfl) rfl, trivial⟩) (fun s w hw => rn_move rfl) (at_top rfl)) ?_
    refine bly_cons 4 rfl (isV _) (syV fst_take [(34, _), (35, _)] rfl rfl (fun _ => (w_free rfl)) (fun _ => ⟨g_dep 1 (by kernel_rfl) (at_n rfl rfl (at_dep rfl rfl rfl)), g_dep 2 (by kernel_rfl) (at_n rfl rfl (at_dep rfl rfl rfl)), trivial⟩) (fun s w hw => rn_indexA (j := nn) Tryd.underlying26 Tryd.sizeOf60 rfl rfl (rfl) (by omega) rfl) (at_top rfl)) ?_
    refine bly_cons 5 rfl (isV _) (syV fst_take [(36, _)] rfl rfl (fun _ => (w_free rfl)) (fun _ => ⟨g_dep 3 (by kernel_rfl) (at_n rfl rfl (at_dep rfl rfl rfl)), trivial⟩) (fun s w hw => rn_field fa_60_2 rfl rfl) (at_top rfl)) ?_
    refine bly_cons 6 rfl (isV _) (syV fst_take [(37, _)] rfl rfl (fun _ => (w_free rfl)) (fun _ => ⟨g_dep 4 (by kernel_rfl) (at_n rfl rfl (at_dep rfl rfl rfl)), trivial⟩) (fun s w hw => rn_load Tryd.isAgg3 rfl (hw.agree.cell (Nat.zero_le _) (k3))) (at_top rfl)) ?_
    refine bly_cons 7 rfl (isV _) (syV fst_take [(2, _)] rfl rfl (fun _ => (w_free rfl)) (fun _ => ⟨g_fr (by kernel_rfl) rfl, trivial⟩) (fun s w hw => rn_field (o' := 0) fa_64_0 rfl rfl) (at_top rfl)) ?_
    refine bly_cons 8 rfl (isV _) (syV fst_take [(39, _)] rfl rfl (fun _ => (w_free rfl)) (fun _ => ⟨g_dep 6 (by kernel_rfl) (at_n rfl rfl (at_dep rfl rfl rfl)), trivial⟩) (fun s w hw => rn_load Tryd.isAgg26 rfl ((cell_own (hw.at_ 1 rfl) rfl))) (at_top rfl)) ?_
    refine bly_cons 9 rfl (isV _) (syV fst_take [(10, _)] rfl rfl (fun _ => (w_free rfl)) (fun _ => ⟨g_fr (by kernel_rfl) rfl, trivial⟩) (fun s w hw => rn_move rfl) (at_top rfl)) ?_
    refine bly_cons 10 rfl (isV _) (syV fst_take [(40, _), (41, _)] rfl rfl (fun _ => (w_free rfl)) (fun _ => ⟨g_dep 7 (by kernel_rfl) (at_n rfl rfl (at_dep rfl rfl rfl)), g_dep 8 (by kernel_rfl) (at_n rfl rfl (at_dep rfl rfl rfl)), trivial⟩) (fun s w hw => rn_indexA (j := nn) Tryd.underlying26 Tryd.sizeOf60 rfl rfl (rfl) (by omega) rfl) (at_top rfl)) ?_
    refine bly_cons 11 rfl (isV _) (syV fst_take [(42, _)] rfl rfl (fun _ => (w_free rfl)) (fun _ => ⟨g_dep 9 (by kernel_rfl) (at_n rfl rfl (at_dep rfl rfl rfl)), trivial⟩) (fun s w hw => rn_field fa_60_3 rfl rfl) (at_top rfl)) ?_
    refine bly_cons 12 rfl (isV _) (syV fst_take [(43, _)] rfl rfl (fun _ => (w_free rfl)) (fun _ => ⟨g_dep 10 (by kernel_rfl) (at_n rfl rfl (at_dep rfl rfl rfl)), trivial⟩) (fun s w hw => rn_load Tryd.isAgg29 rfl (hw.agree.cell (Nat.zero_le _) (k4))) (at_top rfl)) ?_
    refine bly_cons 13 rfl (isV _) (syV fst_take [(3, _)] rfl rfl (fun _ => (w_free rfl)) (fun _ => ⟨g_fr (by kernel_rfl) rfl, trivial⟩) (fun s w hw => rn_loadA (vs := [_, _]) Tryd.isAgg31 Tryd.sizeOf31 rfl ((CellsAt.own (j := 0) (m := 2) (hw.at_ 0 rfl) rfl))) (at_top rfl)) ?_
    refine bly_cons 14 rfl (isRplN W.heap.size r.q (r.ws ++ t)) (sy_call fst_take (fun s => [isV _, isV _, isV _, isV _]) rfl rfl goes_26 (fun _ => w_free rfl) (fun s => ⟨p_tmp (g_dep 5 (by kernel_rfl) (at_n rfl rfl (at_dep rfl rfl rfl))), p_tmp (g_dep 11 (by kernel_rfl) (at_n rfl rfl (at_dep rfl rfl rfl))), p_tmp (g_dep 12 (by kernel_rfl) (at_n rfl rfl (at_dep rfl rfl rfl))), p_const, trivial⟩) (fun vs s w' hk hw hlo hh => by have e := holds_isV (us := [_, _, _, _]) hh; subst e; exact rpl_gN hlo (by rw [if_neg (by simp at hlong; omega)]; rfl) (replaced_is r.q p r.wa _ r.wl r.wc wl wc 1 r.ws (y :: t) _ (hri.1.below hw.below) hri.2.1 (hrow.below hw.below) hlen (by omega) hcap (by omega) (by omega))) (at_top rfl)) ?_
    refine bly_cons 15 rfl (isRplN W.heap.size r.q (r.ws ++ t)) (syP (q := isRplN W.heap.size r.q (r.ws ++ t)) 13 46 rfl rfl (by kernel_rfl) (at_dep rfl rfl rfl) syp_move9 (at_top rfl)) ?_
    refine bly_cons 16 rfl (isConfN W.heap.size r.q (r.ws ++ t)) (syP (q := isConfN W.heap.size r.q (r.ws ++ t)) 14 32 rfl rfl (by kernel_rfl) (at_dep rfl rfl rfl) (syp_ext9 isRpl_0) (at_top rfl)) ?_
    refine bly_cons 17 rfl (isV (.bool true)) (syP (q := isV (.bool true)) 14 32 rfl rfl (by kernel_rfl) (at_dep rfl rfl rfl) (syp_ext9 isRpl_1) (at_top rfl)) ?_
    refine bly_cons 18 rfl (isPtr W.heap.size) (sy_alloc ⟨17, 31, [.int .i64 0, .slice none 0 0], 18⟩ rfl rfl Tryd.zeroValue31 List.mem_cons_self rfl rfl rfl (.inl (by kernel_rfl)) (by decide) rfl (fun _ _ => rfl) (at_top rfl)) ?_
    refine bly_cons 19 rfl (isConfN W.heap.size r.q (r.ws ++ t)) (sy_store (jy := 15) (m := 2) ⟨17, 31, [.int .i64 0, .slice none 0 0], 18⟩ rfl rfl List.mem_cons_self rfl rfl (by kernel_rfl) (at_dep rfl rfl rfl) (by kernel_rfl) (at_dep rfl rfl rfl) (at_top rfl) Tryd.sizeOf31 rfl (fun v w ⟨a, c, h, _⟩ => by subst h; exact ⟨_, rfl, rfl, rfl⟩) (by decide) rfl (fun _ _ => rfl)) ?_
    refine bly_nil ?_
    intro s5 W5 Ks5 hall5 hsz5 hKs5 hS' hcov5 hfx5 hno5
    obtain ⟨v5_17, h5_17⟩ := hall5 17 rfl
    obtain ⟨v5_18, h5_18⟩ := hall5 18 rfl
    have f5_17 : AwS _ _ (isPtr W.heap.size) _ _ := hfx5 17 rfl _ h5_17
    obtain ⟨B5_17, rfl, hB5_17⟩ := f5_17.here
    have f5_18 : AwS _ _ (isConfN W.heap.size r.q (r.ws ++ t)) _ _ := hfx5 18 rfl _ h5_18
    obtain ⟨aD, cD, rfl, hnD⟩ := f5_18.here
    clear hS; have hS := hS'.castO (O' := [(B5_17, _, 31), _, _]) (by simp only [OY, AS_cons, AB.cs, h5_17, h5_18]; rfl); clear hS'
    have HD : Held w Ks5 (fun W2 => RowN _ W2 aD cD (r.ws ++ t)) := fun h2 hk => confN_row9 (f5_18 _ (hcov5 h2 hk))
    refine castL (L' := [AwS _ _ (isV _), AwS _ _ (isV _), AwS _ _ (isV _), AwS _ _ (isV _), AwS _ _ (isV _), AwS _ _ (isV _), AwS _ _ (isV _), AwS _ _ (isV _), AwS _ _ (isV _), AwS _ _ (isV _), AwS _ _ (isV _), AwS _ _ (isV _), AwS _ _ (isV _), AwS _ _ (isRplN W.heap.size r.q (r.ws ++ t)), AwS _ _ (isRplN W.heap.size r.q (r.ws ++ t)), AwS _ _ (isConfN W.heap.size r.q (r.ws ++ t)), AwS _ _ (isV (.bool true)), isE s5 17, isE s5 18]) rfl ?_
    refine fin_sV ?_
    refine fin_sV ?_
    refine fin_sV ?_
    refine fin_sV ?_
    refine fin_sV ?_
    refine fin_sV ?_
    refine fin_sV ?_
    refine fin_sV ?_
    refine fin_sV ?_
    refine fin_sV ?_
    refine fin_sV ?_
    refine fin_sV ?_
    refine fin_sV ?_
    refine fin_p ?_; intro _ _
    refine fin_p ?_; intro _ _
    refine fin_p ?_; intro _ _
    refine fin_sV ?_
    refine fin_p ?_; intro u hu; obtain rfl := Option.some.inj (h5_17.symm.trans hu); clear hu
    refine fin_0 ?_
    refine fin_nil ?_
    refine op_assign rfl rfl ?_
    refine endF (XF.thenN ?_)
    refine seqF ?_
    refine seqF (regF ?_)
    refine op_move rfl rfl ?_
    refine op_not rfl rfl ?_
    refine endF (XF.thenN ?_)
    refine condF rfl (fun hc => absurd hc (by decide)) (fun hc => ?_)
    skip
    refine skipF ?_
    refine XF.thenN ?_
    refine regCF (Gs := gsC _ [(0, fun v => ⟨v, acc.length + 1, (acc.map (·.1)).map (Value.int .i64) ++ [.int .i64 (nn : Int)], 3, 1⟩)]) (efs := [3]) (k := 7) (ds := [7, 8, 58]) followsM rfl hS rfl (by kernel_rfl) (by kernel_rfl) rfl (by decide) rfl rfl ?_
    refine blc_consF 1 rfl rfl (isV _) (fun hNo => scVF fst_take [(7, _)] rfl rfl hNo (w_free rfl) ⟨g_fr (by kernel_rfl) rfl, trivial⟩ (fun s w hw => rn_move rfl) (at_top rfl)) ?_
    refine blc_consF 2 rfl rfl (isV _) (fun hNo => scVF fst_take [(10, _)] rfl rfl hNo (w_free rfl) ⟨g_fr (by kernel_rfl) rfl, trivial⟩ (fun s w hw => rn_move rfl) (at_top rfl)) ?_
    refine blc_consF 3 rfl rfl (isRow W5.heap.size 1 3 _) (fun hNo => sc_rowVF fst_take (us := [.int .i64 _]) rfl rfl hNo (w_free rfl) Tryd.underlying29 Tryd.sizeOf3 Tryd.zeroValue3 rfl rfl ⟨p_tmp (g_dep 1 (by kernel_rfl) (at_dep rfl rfl rfl)), trivial⟩ (bs_29_1 _) (at_top rfl)) ?_
    refine blc_anyF 4 rfl (sc_appF (efs := [3]) (jy := 2) (m := 1) fst_take 0 0 [(51, _)] rfl rfl (by decide) rfl (fun j hj => by simp at hj; subst hj; rfl) Tryd.underlying29 inf_3 rfl rfl (by show 0 < 1; decide) (hg0 rfl) (hgs0 (fun _ => rfl)) ⟨g_dep 0 (by kernel_rfl) (at_dep rfl rfl rfl), trivial⟩ rfl (by kernel_rfl) rfl rfl rfl rfl (by simp only [maxLen]; omega) (by show (acc.length + 1) * 8 ≤ _; omega)) ?_
    refine blc_consF 5 rfl rfl (isV _) (fun hNo => scVF fst_take [(8, _)] rfl rfl hNo (w_free rfl) ⟨g_fr (by kernel_rfl) rfl, trivial⟩ (fun s w hw => rn_move rfl) (at_top rfl)) ?_
    refine blc_consF 6 rfl rfl (isV _) (fun hNo => scVF fst_take [(11, _)] rfl rfl hNo (w_free rfl) ⟨g_fr (by kernel_rfl) rfl, trivial⟩ (fun s w hw => rn_loadA (vs := [_, _]) Tryd.isAgg31 Tryd.sizeOf31 rfl ((CellsAt.own (j := 0) (m := 2) (hw.at_ 0 rfl) rfl))) (at_top rfl)) ?_
    refine blc_consF 7 rfl rfl (isRow W5.heap.size 1 31 _) (fun hNo => sc_rowVF fst_take (us := [.agg (List.toArray [_, _])]) rfl rfl hNo (w_free rfl) Tryd.underlying44 Tryd.sizeOf31 Tryd.zeroValue31 rfl rfl ⟨p_tmp (g_dep 5 (by kernel_rfl) (at_dep rfl rfl rfl)), trivial⟩ (bs_44_1 _ _) (at_top rfl)) ?_
    refine blc_nilF ?_
    intro s6 W6 Ks6 hlen6 hsz6 hKs6 hS' hcov6
    obtain ⟨v6_3, rfl⟩ := List.length_eq_one_iff.1 hlen6
    clear hS; have hS := hS'.castG (G' := [_, _]) rfl; clear hS'
    refine castL (L' := [AwS _ _ (isV _), AwS _ _ (isV _), AwS _ _ (isRow W5.heap.size 1 3 _), isV _, AwS _ _ (isV _), AwS _ _ (isV _), AwS _ _ (isRow W5.heap.size 1 31 _)]) rfl ?_
    refine fin_sV ?_
    refine fin_sV ?_
    refine fin_p ?_; rintro _ hA6_2; obtain ⟨BR2, rfl, hlo2, hrow2⟩ := hA6_2.here
    refine fin_v ?_
    refine fin_sV ?_
    refine fin_sV ?_
    refine fin_p ?_; rintro _ hA6_6; obtain ⟨BR6, rfl, hlo6, hrow6⟩ := hA6_6.here
    refine fin_nil ?_
    refine op_appendV (i := 1) (news := [.int .i64 r.q, .slice aD (r.ws ++ t).length cD]) hS Tryd.underlying44 inf_31 rfl rfl (by show 0 < 2; decide) rfl rfl rfl rfl rfl (rowSrc hrow6) (rfl) (fun u hu => by simp at hu; rcases hu with rfl | rfl <;> rfl) (by dsimp only; simp only [maxLen]; omega) (by dsimp only; show (cs.length + 1) * 32 ≤ _; omega) rfl ?_
    clear hS; intro v7 W7 hS
    refine op_assign rfl rfl ?_
    refine op_assign rfl rfl ?_
    refine endF ?_
    refine XF.blkN ?_
    refine XF.thenN ?_
    refine regF ?_
    refine op_add rfl rfl (IntWalk.i64_in _ (by omega)) rfl ?_
    refine op_move rfl rfl ?_
    refine endF ?_
    exact XF.round (ll - (i + 1)) [(2, _), (3, _), (7, _), (8, _), (26, _), (27, _), (28, _)] (by omega) ⟨rfl, rfl, rfl, rfl, rfl, rfl, rfl, trivial⟩ ⟨i + 1, _, _, acc ++ [((nn : Int), r.q, r.ws ++ t)], cs ++ [⟨r.q, aD, (r.ws ++ t).length, cD, r.ws ++ t⟩], _, by omega, rfl, rfl, by rw [← hrun, Option.map_map]; congr 1; funext z; simp, by simp; omega, by simp [hcs9, CV.pl], (fun h2 hk c hc => by
      rcases List.mem_append.1 hc with hc | hc
      ·exact hX h2 (fun q hq => hk q (by simp [hq])) c hc
      ·simp at hc; subst hc
       exact ⟨(HD h2 (fun q hq => hk q (by simp [hq]))).mono hsz8, by simp⟩), hS.tail.castG (by simp [two9])⟩
  ·have hc29 := of_decide_eq_false hc; clear hc
   rw [List.drop_of_length_le (by omega)] at hrun
   refine exitF ?_
   refine XF.thenX ?_
   refine XF.thenX ?_
   refine XF.blkX ?_
   refine XF.thenN ?_
   refine seqF (regF ?_)
   refine op_move rfl rfl ?_
   refine op_move rfl rfl ?_
   refine op_assign rfl rfl ?_
   refine op_assign rfl rfl ?_
   refine op_assign rfl rfl ?_
   refine endF (XF.thenN ?_)
   refine retF ?_
   refine XF.res (res3 Tryd.results19 rfl rfl rfl) ?_
   exact mvRet_yes (by rw [← hrun]; simp [goL]) (by have := hS.row 0 rfl; exact this) ⟨cs, hS.row 1 rfl, hcs9, hX.now hS⟩ hS.below
end Go.Proofs.YtgjojhmninbkoaaDoor
namespace Go.Proofs.YtgjojhmninbkoaaDoor
open Go Go.RowKit
theorem goes_17 : goesIn Tryd.prog 17 = true := by kernel_rfl
theorem goes_19 : goesIn Tryd.prog 19 = true := by kernel_rfl
theorem ite9 {c x : Int} {p : Prop} [Decidable p] (h : (if p then x else c) = 0) (hx : x ≠ 0) : ¬ p ∧ c = 0 := by
 by_cases hp : p
 ·rw [if_pos hp] at h; exact absurd h hx
 ·rw [if_neg hp] at h; exact ⟨hp, h⟩
theorem inQ_le {x n m : Int} (h : inQ x n = true) (hn : n ≤ m) : 0 ≤ x ∧ x ≤ m := by
 unfold inQ at h
 rw [Bool.and_eq_true, decide_eq_true_eq, decide_eq_true_eq] at h
 omega
structure StepOk (p : PV) (c : CV) : Prop where
 rl : p.rl ≤ 16384
 key : Keyed p.rs
 w4 : ∀ r ∈ p.rs, r.wl ≤ 4096
 p : 0 ≤ c.p ∧ c.p ≤ 1000000
 cw : c.wl ≤ 4096
 ws : ∀ y ∈ c.ws, 0 ≤ y ∧ y ≤ 1000000
theorem stepOk {p : PV} {c : CV} (h : stepE p c = 0) : StepOk p c := by
 unfold stepE at h
 by_cases h0 : pdsE p = 0
 ·rw [if_neg (not_not_intro h0)] at h
  have hc : confB p c = true := by
   by_cases h2 : confB p c = true
   ·exact h2
   ·rw [if_neg h2] at h; cases h
  unfold pdsE at h0
  by_cases h1 : spaceE p.s = 0
  ·rw [if_neg (not_not_intro h1)] at h0
   obtain ⟨h2, h0⟩ := ite9 h0 (by decide)
   obtain ⟨h3, h0⟩ := ite9 h0 (by decide)
   have hall : p.rs.all (ruleB p.st p.sy) = true := by
    by_cases h4 : p.rs.all (ruleB p.st p.sy) = true
    ·exact h4
    ·rw [if_neg h4] at h0; cases h0
   have hst : p.st ≤ 1000000 := by omega
   have hsy : p.sy ≤ 1000000 := by omega
   unfold confB at hc
   rw [Bool.and_eq_true, Bool.and_eq_true, decide_eq_true_eq] at hc
   refine ⟨by omega, fun r hr => ?_, fun r hr => ?_, inQ_le hc.1 hst, hc.2.1, fun y hy => inQ_le (List.all_eq_true.1 hc.2.2 y hy) hsy⟩
   ·have := List.all_eq_true.1 hall r hr
    unfold ruleB at this
    simp only [Bool.and_eq_true] at this
    exact ⟨inQ_le this.1 hst, inQ_le this.2.2.1 hsy⟩
   ·have := List.all_eq_true.1 hall r hr
    unfold ruleB at this
    simp only [Bool.and_eq_true, decide_eq_true_eq] at this
    exact this.2.2.2.1
  ·rw [if_pos h1] at h0; exact absurd h0 h1
 ·rw [if_pos h0] at h; exact absurd h h0
end Go.Proofs.YtgjojhmninbkoaaDoor
namespace Go.Proofs.YtgjojhmninbkoaaDoor
open Go Go.RowKit
theorem St.regrow {w0 W W' : World} {v v' : Value} {n n' : Nat} {xs xs' : List Value} {e : TypeId} {size : Nat} (h : St w0 [] [⟨v, n, xs, e, size⟩] [] W) (hb : Below w0.heap.size W W') (hr : W'.ownsRow w0.heap.size e size v' n' xs') : St w0 [] [⟨v', n', xs', e, size⟩] [] W' :=
 ⟨h.below.trans hb, (fun p hp => by cases hp), List.Pairwise.nil, (fun q hq => by cases hq), (fun g hg => by
  rcases List.mem_cons.1 hg with rfl | hg
  ·exact ⟨hr, fun b hb => ⟨fun p hp => (by cases hp), fun q hq => (by cases hq)⟩⟩
  ·cases hg), List.pairwise_singleton _ _⟩
section
variable {P : Program} {n : Nat} {ops : Array Oper} {Q : Exit → Act → World → Prop} {l : Fr} {w0 W : World} {O : Own} {G : Grows} {K : List (Nat × World)} {os : List Oper} {d : Nat} {ty : TypeId} {pos : String} {aft : Array Edge}
theorem op_convB {src dst e : TypeId} {x : Operand} {base : Nat} {v : Value} {bs : List UInt8} (hs : P.underlying src = some (.slice e)) (he : P.underlying e = some (.int .u8)) (hdst : P.underlying dst = some .string) (hx : evL l x = some v) (hr : W.ownsRow base e 1 v bs.length (Lib.byteCells bs)) (h0 : 0 < bs.length) (hd : Nat.blt d n = true)
  (h : OpsF P n ops Q os ((d, .string ⟨bs.toArray⟩) :: l) W) : OpsF P n ops Q (⟨some d, .convert src dst x, ty, pos, aft, none⟩ :: os) l W :=
 opV (v := .string ⟨bs.toArray⟩) (fun ev hev => by
  obtain ⟨b, c, rfl, _⟩ := ownsRow_at hr h0
  have hc : ∀ j (hj : j < bs.length), W.cell? (Addr.add ⟨b, 0, none⟩ j) = some (.int .u8 (bs[j].toNat : Int)) := fun j hj => by
   rcases ownsRow_cells hr with ⟨h1, _⟩ | ⟨b', h1, _, h2⟩
   ·cases h1
   ·cases h1
    rw [Addr.add_lit, Nat.zero_add]
    exact h2 j _ (by simp [Lib.byteCells, hj])
  have hr := run_convert_bytes_back (P := P) W src dst e ⟨b, 0, none⟩ c bs hs he hdst hc
  unfold execOp; simp only []; rw [hev x _ hx]
  simp [hr]) hd h
end
end Go.Proofs.YtgjojhmninbkoaaDoor
namespace Go.Proofs.YtgjojhmninbkoaaDoor
open Go Go.RowKit
def confT (p : Int) (ws : List Int) : List UInt8 := Lib.itoa p ++ ws.flatMap (fun g => 32 :: Lib.itoa g)
theorem confT_take {p : Int} {ws : List Int} {i : Nat} {y : Int} (h : ws[i]? = some y) : confT p (ws.take (i + 1)) = confT p (ws.take i) ++ 32 :: Lib.itoa y := by
 unfold confT
 rw [List.take_add_one, h]
 simp [List.flatMap_append]
theorem confT_len {p : Int} {ws : List Int} (hp : -9223372036854775808 ≤ p ∧ p ≤ 9223372036854775807) (hw : ∀ y ∈ ws, -9223372036854775808 ≤ y ∧ y ≤ 9223372036854775807) : (confT p ws).length ≤ 21 + 22 * ws.length := by
 unfold confT
 rw [List.length_append]
 have h1 := Lib.itoa_length_le p hp.1 hp.2
 have h2 : (ws.flatMap (fun g => 32 :: Lib.itoa g)).length ≤ 22 * ws.length := by
  induction ws with
  | nil => simp
  | cons y t ih =>
   have h3 := hw y List.mem_cons_self
   have h4 := Lib.itoa_length_le y h3.1 h3.2
   have h5 := ih (fun z hz => hw z (List.mem_cons_of_mem _ hz))
   simp only [List.flatMap_cons, List.length_append, List.length_cons]
   omega
 omega
theorem text_c (p : Int) (wa : Option Addr) (wl wc : Nat) (ws : List Int) (w : World) (hrow : Row w wa ws) (hlen : ws.length = wl) (hm : wl ≤ 4096) (hp : -9223372036854775808 ≤ p ∧ p ≤ 9223372036854775807) (hwr : ∀ y ∈ ws, -9223372036854775808 ≤ y ∧ y ≤ 9223372036854775807) (hne : 0 < (confT p ws).length) (ht : Tabs w) :
  Calls Tryd.prog 10 #[.agg #[.int .i64 p, .slice wa wl wc]] w (fun e w' => e = .returned (.string ⟨(confT p ws).toArray⟩) ∧ Below w.heap.size w w') := by
 refine enterF (args := [.agg #[.int .i64 p, .slice wa wl wc]]) Tryd.func10 rfl Tryd.ntmps10 rfl ?_
 have hS := St.start w
 refine seqF (regF ?_)
 refine op_box (cs := [_, _]) hS rfl rfl rfl ?_
 clear hS; intro B1 W1 hS
 refine op_assign rfl rfl ?_
 refine endF (XF.thenN ?_)
 refine seqF ?_
 have hRoot := hS.below
 have c0 : W1.cell? ⟨B1, 0, none⟩ = some (.int .i64 p) := cell_own (hS.at_ 0 rfl) rfl
 have c1 : W1.cell? ⟨B1, 1, none⟩ = some (.slice wa wl wc) := cell_own (hS.at_ 0 rfl) rfl
 have hT : Lib.TabBelow Tryd.prog W1.heap.size W1 "internal/strconv.uint64pow10" .u64 Lib.pow10Tab := fun w2 hb2 => (ht.below (hRoot.trans (hb2.mono hRoot.size))).pow
 have hRoot0 := hRoot
 clear hS; have hS := St.start W1
 refine regF ?_
 refine op_field fa_31_0 rfl (Nat.add_zero _) rfl ?_
 refine op_load Tryd.isAgg3 rfl (by first | assumption | exact hS.old (by assumption)) rfl ?_
 refine op_callG (vs := [_, _, _]) (xs := [] ++ Lib.byteCells (Lib.itoa p)) (e1 := 5) (size := 1) (m := 0 + (Lib.itoa p).length) hS goes_20 rfl (Tryd.strconv_AppendInt_10 W1.heap.size 0 p hp.1 hp.2 _ [] _ (World.ownsRow_nil _ _ _ _) (Nat.le_refl _) (by decide) hT) rfl (fun e W2 ⟨v, h1, h2, h3, _⟩ => ⟨v, h1, h3, h2⟩) ?_
 clear hS; intro v2 W2 hS
 refine op_assign rfl rfl ?_
 refine endF (XF.thenN ?_)
 refine seqF ?_
 refine seqF (regF ?_)
 refine op_field fa_31_1 rfl rfl rfl ?_
 refine op_load Tryd.isAgg29 rfl (by first | assumption | exact hS.old (by assumption)) rfl ?_
 refine op_len Tryd.underlying29 rfl rfl ?_
 refine op_move rfl rfl ?_
 refine endF (XF.thenN ?_)
 refine blockF ?_
 refine loopF (fun m l W => ∃ (i : Nat) (v : Value), i ≤ wl ∧ m = wl - i ∧ l = [(3, v), (10, .slice wa wl wc), (11, .int .i64 (wl : Int)), (12, .int .i64 (i : Int))] ∧ St W1 [] [⟨v, (confT p (ws.take i)).length, Lib.byteCells (confT p (ws.take i)), 5, 1⟩] [] W) (wl - 0) ([(3, _), (10, _), (11, _), (12, _)]) ⟨rfl, rfl, rfl, rfl, trivial⟩ (⟨0, _, Nat.zero_le _, rfl, rfl, hS.castG (by simp [confT])⟩) ?_
 clear hS
 rintro m l W ⟨i, v, hi, rfl, rfl, hS⟩
 refine seqF (regF ?_)
 refine op_lss rfl rfl rfl ?_
 refine endF (XF.thenN ?_)
 refine seqF ?_
 refine condF rfl (fun hc => ?_) (fun hc => ?_)
 ·have hc13 := of_decide_eq_true hc; clear hc
  have hk : i < wl := by omega
  obtain ⟨b, off, y, rfl, hy, hyc⟩ := hrow.at1 (show i < ws.length by omega)
  have k1 := hS.old (cell_old hyc hRoot0)
  have hyr := hwr y (List.mem_of_getElem? hy)
  have hTl := confT_len (ws := ws.take i) hp (fun z hz => hwr z (List.mem_of_mem_take hz))
  have hTl2 : (ws.take i).length ≤ 4096 := by rw [List.length_take]; omega
  refine skipF ?_
  refine XF.thenN ?_
  refine seqF ?_
  refine blockF ?_
  refine seqF (regF ?_)
  refine op_indexA  Tryd.underlying29 Tryd.sizeOf3 rfl rfl rfl (by omega) rfl rfl ?_
  refine op_load Tryd.isAgg3 rfl (by first | assumption | exact hS.old (by assumption)) rfl ?_
  refine op_assign rfl rfl ?_
  refine endF (XF.thenN ?_)
  refine seqF (regF ?_)
  refine op_move rfl rfl ?_
  refine op_buildSlice (us := [(0, .int .u8 _)]) hS Tryd.underlying74 Tryd.sizeOf5 Tryd.zeroValue5 rfl rfl rfl (bs_74_1 _) rfl ?_
  clear hS; intro B3 W3 hS
  refine op_append (i := 0) (news := [_]) hS Tryd.underlying74 inf_5 rfl rfl (by show 0 < 1; decide) rfl rfl rfl rfl rfl (CellsAt.own (j := 0) (m := 1) (hS.at_ 0 rfl) rfl) rfl rfl (by simp only [maxLen]; omega) (by show ((confT p (ws.take i)).length + 1) * 1 ≤ _; omega) rfl ?_
  clear hS; intro v4 W4 hS
  refine op_assign rfl rfl ?_
  refine endF (XF.thenN ?_)
  refine regF ?_
  refine op_move rfl rfl ?_
  refine op_move rfl rfl ?_
  refine op_callX (vs := [_, _, _]) goes_20 rfl (Tryd.strconv_AppendInt_10 W1.heap.size ((confT p (ws.take i)).length + 1) y hyr.1 hyr.2 _ _ _ (hS.row 0 rfl) hS.below.size (by omega) (fun w2 hb2 => hT w2 (hS.below.trans hb2))) rfl ?_
  rintro e W90 ⟨v90, rfl, hown90, hb90, _⟩
  refine ⟨_, rfl, ?_⟩
  have hS := (hS.tail.clear).regrow hb90 hown90
  refine op_assign rfl rfl ?_
  refine endF ?_
  refine XF.blkN ?_
  refine XF.thenN ?_
  refine regF ?_
  refine op_add rfl rfl (IntWalk.i64_in _ (by omega)) rfl ?_
  refine op_move rfl rfl ?_
  refine endF ?_
  exact XF.round (wl - (i + 1)) [(3, _), (10, _), (11, _), (12, _)] (by omega) ⟨rfl, rfl, rfl, rfl, trivial⟩ ⟨i + 1, v90, by omega, rfl, rfl, hS.castG (by rw [confT_take hy]; simp [Lib.byteCells, Nat.add_assoc, Nat.add_comm 1])⟩
 ·have hc13 := of_decide_eq_false hc; clear hc
  rw [List.take_of_length_le (by omega)] at hS
  refine exitF ?_
  refine XF.thenX ?_
  refine XF.thenX ?_
  refine XF.blkX ?_
  refine XF.thenN ?_
  refine seqF (regF ?_)
  refine op_move rfl rfl ?_
  refine op_convB Tryd.underlying74 Tryd.underlying5 Tryd.underlying9 rfl (hS.row 0 rfl) hne rfl ?_
  refine op_assign rfl rfl ?_
  refine endF (XF.thenN ?_)
  refine retF ?_
  refine XF.res (res1 Tryd.results10 rfl) ?_
  exact ⟨rfl, hRoot0.trans (hS.below.mono hRoot0.size)⟩
end Go.Proofs.YtgjojhmninbkoaaDoor
namespace Go.Proofs.YtgjojhmninbkoaaDoor
open Go Go.RowKit
theorem runA_bad (ds d : Nat) (p : PV) (c : CV) (la : Option Addr) (ll lc : Nat) (w : World) (hp : PvIn w ds d p) (hcf : CIn w c) (hne : stepE p c ≠ 0) :
  Calls Tryd.prog 5 #[p.val, c.val, .slice la ll lc] w (fun e w' => e = .returned (.tuple #[.agg #[.int .i64 0, .slice none 0 0], .agg #[.bool false, .int .i64 0, .int .u64 0, .slice none 0 0, .slice none 0 0, .slice none 0 0], .int .i64 0, .int .i64 (stepE p c)]) ∧ Below w.heap.size w w') := by
 refine enterF (args := [p.val, c.val, .slice la ll lc]) Tryd.func5 rfl Tryd.ntmps5 rfl ?_
 have hS := St.start w
 refine seqF (regF ?_)
 refine op_box (cs := [_, _, _, _, _, _]) hS rfl rfl rfl ?_
 clear hS; intro B1 W1 hS
 refine op_box (cs := [_, _]) hS rfl rfl rfl ?_
 clear hS; intro B2 W2 hS
 refine op_alloc (cs := [_, _]) hS Tryd.zeroValue31 rfl rfl ?_
 clear hS; intro B3 W3 hS
 refine op_alloc (cs := [_, _, _, _, _, _]) hS Tryd.zeroValue40 rfl rfl ?_
 clear hS; intro B4 W4 hS
 refine op_assign rfl rfl ?_
 refine op_assign rfl rfl ?_
 refine endF (XF.thenN ?_)
 refine seqF ?_
 refine seqF (regF ?_)
 refine op_loadA (vs := [_, _, _, _, _, _]) Tryd.isAgg28 Tryd.sizeOf28 rfl (CellsAt.own (j := 0) (m := 6) (hS.at_ 3 rfl) rfl) rfl ?_
 refine op_loadA (vs := [_, _]) Tryd.isAgg31 Tryd.sizeOf31 rfl (CellsAt.own (j := 0) (m := 2) (hS.at_ 2 rfl) rfl) rfl ?_
 refine op_call (vs := [_, _]) hS goes_11 rfl (stepA_is ds d p c _ (hp.below hS.below) (hcf.below hS.below)) rfl ?_
 rintro e W5 ⟨rfl, hb⟩
 refine ⟨_, rfl, hb, fun hS' => ?_⟩
 clear hS; have hS := hS'; clear hS' hb
 refine op_assign rfl rfl ?_
 refine endF (XF.thenN ?_)
 refine seqF (regF ?_)
 refine op_move rfl rfl ?_
 refine op_neq rfl rfl rfl ?_
 refine endF (XF.thenN ?_)
 refine condF rfl (fun hc => ?_) (fun hc => absurd (of_decide_eq_false hc) (by exact fun h => h hne))
 have hc := of_decide_eq_true hc
 refine seqF (regF ?_)
 refine op_build (us := []) rfl (bld_31) rfl ?_
 refine op_build (us := []) rfl (bld_40) rfl ?_
 refine op_move rfl rfl ?_
 refine op_storeA (i := 1) (vs := [_, _]) (cs' := [_, _]) (O' := [_, _, _, _]) hS Tryd.sizeOf31 rfl rfl rfl rfl rfl rfl rfl ?_
 clear hS; intro W6 hS
 refine op_storeA (i := 0) (vs := [_, _, _, _, _, _]) (cs' := [_, _, _, _, _, _]) (O' := [_, _, _, _]) hS Tryd.sizeOf40 rfl rfl rfl rfl rfl rfl rfl ?_
 clear hS; intro W7 hS
 refine op_assign rfl rfl ?_
 refine op_assign rfl rfl ?_
 refine endF (XF.thenN ?_)
 refine retF ?_
 refine XF.thenR ?_
 refine XF.res (resCCTT (vs := [_, _]) (us := [_, _, _, _, _, _]) Tryd.results5 Tryd.isAgg31 Tryd.sizeOf31 rfl (CellsAt.own (j := 0) (m := 2) (hS.at_ 1 rfl) rfl) Tryd.isAgg40 Tryd.sizeOf40 rfl (CellsAt.own (j := 0) (m := 6) (hS.at_ 0 rfl) rfl) rfl rfl) ?_
 exact ⟨rfl, hS.below⟩
structure Ready (w : World) (S : PS) (px : RV → PX) (p : PV) (c : CV) : Prop where
 chk : stepE p c = 0
 ok : S.ok
 si : SIs w S p.s.f
 w4 : ∀ r ∈ p.rs, r.wl ≤ 4096
 c4 : c.wl ≤ 4096
 x : ∀ r ∈ p.rs, XIs w S r.x.f (px r)
theorem ready {w : World} {ds d : Nat} {p : PV} {c : CV} (hp : PvIn w ds d p) (h : stepE p c = 0) : ∃ S px, Ready w S px p c := by
 classical
 have h1 : pdsE p = 0 ∧ confB p c = true := by
  unfold stepE at h
  split at h
  ·rename_i hn; exact absurd h hn
  ·rename_i hn
   split at h
   ·rename_i hc; exact ⟨Decidable.of_not_not hn, hc⟩
   ·cases h
 obtain ⟨hd, hc⟩ := h1
 have h2 : spaceE p.s = 0 ∧ p.rs.all (ruleB p.st p.sy) = true ∧ wtE p.s p.rs = 0 := by
  unfold pdsE at hd
  split at hd
  ·rename_i hn; exact absurd hd hn
  ·rename_i hn
   split at hd
   ·cases hd
   ·split at hd
    ·cases hd
    ·split at hd
     ·rename_i ha; exact ⟨Decidable.of_not_not hn, ha, hd⟩
     ·cases hd
 obtain ⟨hs, hr, hw⟩ := h2
 obtain ⟨S, hok, hsi, hx⟩ := space_of hp.s hs
 have hall : ∀ r ∈ p.rs, chkW p.s r.x = 0 := by
  have key : ∀ rs : List RV, wtE p.s rs = 0 → ∀ r ∈ rs, chkW p.s r.x = 0 := by
   intro rs
   induction rs with
   | nil => intro _ r hr; cases hr
   | cons a rs ih =>
    intro hz r hr
    unfold wtE at hz
    split at hz
    ·rename_i h0
     rcases List.mem_cons.1 hr with rfl | hr
     ·exact h0
     ·exact ih hz r hr
    ·rename_i h0; exact absurd hz h0
  exact key _ hw
 have hex : ∀ r, ∃ x, r ∈ p.rs → XIs w S r.x.f x := fun r => by
  by_cases hm : r ∈ p.rs
  ·have h0 := hall r hm
   have hokw : okW p.s r.x = true := by
    unfold chkW at h0
    rw [if_pos hs] at h0
    split at h0
    ·assumption
    ·cases h0
   obtain ⟨x, hxx⟩ := hx r.x d (hp.rin r hm).x hokw
   exact ⟨x, fun _ => hxx⟩
  ·exact ⟨zeroX S, fun h => absurd h hm⟩
 refine ⟨S, fun r => Classical.choose (hex r), h, hok, hsi, fun r hm => ?_, ?_, fun r hm => Classical.choose_spec (hex r) hm⟩
 ·have := List.all_eq_true.1 hr r hm
  unfold ruleB at this
  simp only [Bool.and_eq_true, decide_eq_true_eq] at this
  exact this.2.2.2.1
 ·unfold confB at hc
  simp only [Bool.and_eq_true, decide_eq_true_eq] at hc
  exact hc.2.1
theorem run_cases {w : World} {ds d : Nat} {p : PV} {c : CV} (is : List Int) (hp : PvIn w ds d p) : stepE p c ≠ 0 ∨ (∃ S px n e, Ready w S px p c ∧ runF S px p.rs is 0 (c.p, c.ws, oneX S) = (none, n, e)) ∨ ∃ S px st n e, Ready w S px p c ∧ runF S px p.rs is 0 (c.p, c.ws, oneX S) = (some st, n, e) := by
 by_cases h : stepE p c = 0
 ·obtain ⟨S, px, hr⟩ := ready hp h
  cases hR : runF S px p.rs is 0 (c.p, c.ws, oneX S) with
  | mk o q =>
   obtain ⟨n, e⟩ := q
   cases o with
   | none => exact .inr (.inl ⟨S, px, n, e, hr, hR⟩)
   | some st => exact .inr (.inr ⟨S, px, st, n, e, hr, hR⟩)
 ·exact .inl h
section
variable {w : World} {ds d : Nat} {S : PS} {px : RV → PX} {p : PV} {c : CV} {la : Option Addr} {ll lc : Nat} {is : List Int} {R : Option StT × Int × Int}
theorem runA_is (hp : PvIn w ds d p) (hcf : CIn w c) (hcc : c.wl ≤ c.wc) (hrla : Row w la is) (hll : is.length = ll) (hlm : ll ≤ 9223372036854775807) (hr : Ready w S px p c) (ht : Tabs w) (hR : runF S px p.rs is 0 (c.p, c.ws, oneX S) = R) : Calls Tryd.prog 5 #[p.val, c.val, .slice la ll lc] w (RunRet S R w) := by
 subst hR
 exact runA_c ds d S px p.s p.st p.sy p.ra p.rl p.rc p.rs c.p c.wa c.wl c.wc c.ws la ll lc is w hp.s hp.row hp.len hp.rin hcf.row hcf.len hcc hrla hll hlm hr.si hr.ok hr.chk hr.w4 hr.c4 hr.x ht
theorem Ready.below {w' : World} (h : Ready w S px p c) (hb : Below w.heap.size w w') : Ready w' S px p c := ⟨h.chk, h.ok, h.si.below hb, h.w4, h.c4, fun r hm => (h.x r hm).below hb⟩
end
end Go.Proofs.YtgjojhmninbkoaaDoor
namespace Go.Proofs.YtgjojhmninbkoaaDoor
open Go Go.RowKit
def exW : WV := .mk ⟨false, 1, 0, none, 0, 0, [], none, 0, 0, [], none, 0, 0⟩ []
def exP (b1 b2 : Nat) : PV := ⟨.mk ⟨2, 9, none, 0, 0⟩ [], 2, 3, some ⟨b2, 0, none⟩, 2, 2, [⟨0, 1, 0, some ⟨b1, 0, none⟩, 2, 2, [2, 1], exW⟩, ⟨0, 2, 1, none, 0, 0, [], exW⟩]⟩
theorem exW_in (w : World) : WIn w 1 exW := ⟨⟨.inl rfl, rfl, by decide, (fun r hr => by cases hr), .inl rfl, rfl, (fun c hc => by cases hc), by decide⟩, rfl, .inl rfl, fun p hp => by cases hp⟩
theorem row2 {w : World} {b : Nat} {x y : Int} {T : TypeId} (h : w.heap[b]? = some (.cells (List.toArray [.int .i64 x, .int .i64 y]) T (0, 0))) : Row w (some ⟨b, 0, none⟩) [x, y] := row_own h
theorem row1 {w : World} {b : Nat} {x : Int} {T : TypeId} (h : w.heap[b]? = some (.cells (List.toArray [.int .i64 x]) T (0, 0))) : Row w (some ⟨b, 0, none⟩) [x] := by
 refine .inr ⟨b, 0, rfl, fun i hi => ?_⟩
 have : i = 0 := by simp at hi; omega
 subst this
 simp [World.cell?, h]
theorem exP_in {w : World} {b1 b2 : Nat} {T1 T2 : TypeId} (h1 : w.heap[b1]? = some (.cells (List.toArray [.int .i64 2, .int .i64 1]) T1 (0, 0)))
  (h2 : w.heap[b2]? = some (.cells (List.toArray ((⟨0, 1, 0, some ⟨b1, 0, none⟩, 2, 2, [2, 1], exW⟩ : RV).ten ++ (⟨0, 2, 1, none, 0, 0, [], exW⟩ : RV).ten)) T2 (0, 0))) : PvIn w 1 1 (exP b1 b2) := by
 refine ⟨⟨rfl, .inl rfl, fun p hp => by cases hp⟩, .inr ⟨b2, 0, rfl, fun i r hi => ?_⟩, rfl, fun r hr => ?_⟩
 ·match i, hi with
  | 0, hi =>
   cases hi
   exact CellsAt.own (j := 0) (m := 10) h2 rfl
  | 1, hi =>
   cases hi
   exact CellsAt.own (j := 10) (m := 10) h2 rfl
  | i + 2, hi => exact absurd hi (by simp [exP])
 ·rcases List.mem_cons.1 hr with rfl | hr
  ·exact ⟨row2 h1, rfl, exW_in w⟩
  ·rcases List.mem_cons.1 hr with rfl | hr
   ·exact ⟨.inl rfl, rfl, exW_in w⟩
   ·cases hr
theorem example_is (w : World) :
  Calls Tryd.prog 9 #[] w (fun e w' => ∃ b1 b2, e = .returned (exP b1 b2).val ∧ (∀ w2, Agree w.heap.size w' w2 → PvIn w2 1 1 (exP b1 b2)) ∧ Below w.heap.size w w') := by
 refine enterF (args := []) Tryd.func9 rfl Tryd.ntmps9 rfl ?_
 have hS := St.start w
 refine seqF (regF ?_)
 refine op_alloc (cs := [_, _, _, _, _, _]) hS Tryd.zeroValue28 rfl rfl ?_
 clear hS; intro B1 W1 hS
 refine endF (XF.thenN ?_)
 refine seqF (regF ?_)
 refine op_build (us := [(1, .int .i64 _)]) rfl (bld_40_1 _) rfl ?_
 refine op_alloc (cs := [_, _, _, _, _, _]) hS Tryd.zeroValue40 rfl rfl ?_
 clear hS; intro B2 W2 hS
 refine op_storeA (i := 0) (vs := [_, _, _, _, _, _]) (cs' := [_, _, _, _, _, _]) (O' := [_, _]) hS Tryd.sizeOf40 rfl rfl rfl rfl rfl rfl rfl ?_
 clear hS; intro W3 hS
 refine endF (XF.thenN ?_)
 refine seqF (regF ?_)
 refine op_build (us := [(0, .int .i64 _), (1, .int .i64 _)]) rfl (bld_25_0_1 _ _) rfl ?_
 refine op_buildSlice (us := [(0, .int .i64 _), (1, .int .i64 _)]) hS Tryd.underlying29 Tryd.sizeOf3 Tryd.zeroValue3 rfl rfl rfl (bs_29_2 _ _) rfl ?_
 clear hS; intro B4 W4 hS
 refine op_loadA (vs := [_, _, _, _, _, _]) Tryd.isAgg40 Tryd.sizeOf40 rfl (CellsAt.own (j := 0) (m := 6) (hS.at_ 1 rfl) rfl) rfl ?_
 refine op_build (us := [(1, .int .i64 _), (3, .slice _ _ _), (4, .agg (List.toArray [_, _, _, _, _, _]))]) rfl (bld_60_1_3_4 _ _ _ _ _ _ _ _ _ _) rfl ?_
 refine op_loadA (vs := [_, _, _, _, _, _]) Tryd.isAgg40 Tryd.sizeOf40 rfl (CellsAt.own (j := 0) (m := 6) (hS.at_ 1 rfl) rfl) rfl ?_
 refine op_build (us := [(1, .int .i64 _), (2, .int .i64 _), (4, .agg (List.toArray [_, _, _, _, _, _]))]) rfl (bld_60_1_2_4 _ _ _ _ _ _ _ _) rfl ?_
 refine op_buildSlice (us := [(0, .agg (List.toArray [_, _, _, _, _, _, _, _, _, _])), (1, .agg (List.toArray [_, _, _, _, _, _, _, _, _, _]))]) hS Tryd.underlying26 Tryd.sizeOf60 Tryd.zeroValue60 rfl rfl rfl (bs_26_2 _ _ _ _ _ _ _ _ _ _ _ _ _ _ _ _ _ _ _ _) rfl ?_
 clear hS; intro B5 W5 hS
 refine op_build (us := [(0, .agg (List.toArray [_, _, _])), (1, .int .i64 _), (2, .int .i64 _), (3, .slice _ _ _)]) rfl (bld_28_0_1_2_3 _ _ _ _ _ _ _ _) rfl ?_
 refine op_storeA (i := 3) (vs := [_, _, _, _, _, _]) (cs' := [_, _, _, _, _, _]) (O' := [_, _, _, _]) hS Tryd.sizeOf28 rfl rfl rfl rfl rfl rfl rfl ?_
 clear hS; intro W6 hS
 refine endF (XF.thenN ?_)
 refine retF ?_
 refine XF.res (resC1 (vs := [_, _, _, _, _, _]) Tryd.results9 Tryd.isAgg28 Tryd.sizeOf28 rfl (CellsAt.own (j := 0) (m := 6) (hS.at_ 3 rfl) rfl)) ?_
 exact ⟨B4, B5, rfl, fun w2 hg => exP_in ((hg.2 _ (hS.ge 1 rfl) (lt_of_heap (hS.at_ 1 rfl))).trans (hS.at_ 1 rfl)) ((hg.2 _ (hS.ge 0 rfl) (lt_of_heap (hS.at_ 0 rfl))).trans (hS.at_ 0 rfl)), hS.below⟩
theorem ex_ready {w : World} {b1 b2 b3 : Nat} (S : PS) (hS : S = .one 2 9) : Ready w S (fun _ => .one (pC 1)) (exP b1 b2) ⟨0, some ⟨b3, 0, none⟩, 1, 1, [1]⟩ := by
 subst hS
 have hx : XIs w (.one 2 9) exW.f (.one (pC 1)) := PIs.of (by decide) (exW_in w).1 (by decide)
 refine ⟨?_, by show plainB 2 9 0 = true; decide, ⟨none, 0, rfl⟩, fun r hr => ?_, by show 1 ≤ 4096; decide, fun r hr => ?_⟩
 ·have e1 : spaceE (exP b1 b2).s = 0 := by show spaceE (.mk ⟨2, 9, none, 0, 0⟩ []) = 0; decide
  have e2 : (exP b1 b2).rs.all (ruleB 2 3) = true := by simp [exP, ruleB, inQ]
  have e3 : chkW (exP b1 b2).s exW = 0 := by show chkW (.mk ⟨2, 9, none, 0, 0⟩ []) exW = 0; decide
  have e4 : wtE (exP b1 b2).s (exP b1 b2).rs = 0 := wtE_all (by simp [exP]; exact decide_eq_true e3)
  have e5 : pdsE (exP b1 b2) = 0 := by
   unfold pdsE
   rw [if_neg (by rw [e1]; simp), if_neg (by simp [exP]), if_neg (by simp [exP]), if_pos (show (exP b1 b2).rs.all (ruleB (exP b1 b2).st (exP b1 b2).sy) = true from e2), e4]
  unfold stepE
  rw [if_neg (by rw [e5]; simp), if_pos (by simp [confB, exP, inQ])]
 ·rcases List.mem_cons.1 hr with rfl | hr
  ·show 2 ≤ 4096; decide
  ·rcases List.mem_cons.1 hr with rfl | hr
   ·show 0 ≤ 4096; decide
   ·cases hr
 ·rcases List.mem_cons.1 hr with rfl | hr
  ·exact hx
  ·rcases List.mem_cons.1 hr with rfl | hr
   ·exact hx
   ·cases hr
theorem ex_run {b1 b2 : Nat} : runF (.one 2 9) (fun _ => .one (pC 1)) (exP b1 b2).rs [0, 1] 0 (0, [1], oneX (.one 2 9)) = (some (1, [1], .one (pC 2)), 0, 0) := by rfl
theorem conf11 : confT 1 [1] = [49, 32, 49] := by
 have h : Lib.itoa 1 = [49] := by simp [Lib.itoa, Lib.decDigits]
 simp [confT, h]
theorem exRun {w : World} {b1 b2 b3 b4 : Nat} (hp : PvIn w 1 1 (exP b1 b2)) (h3 : Row w (some ⟨b3, 0, none⟩) [1]) (h4 : Row w (some ⟨b4, 0, none⟩) [0, 1]) (ht : Tabs w) : Calls Tryd.prog 5 #[(exP b1 b2).val, .agg #[.int .i64 0, .slice (some ⟨b3, 0, none⟩) 1 1], .slice (some ⟨b4, 0, none⟩) 2 2] w fun e w' => ∃ a c f, e = .returned (.tuple #[.agg #[.int .i64 1, .slice a 1 c], WF.val f, .int .i64 0, .int .i64 0]) ∧ RowN w.heap.size w' a c [1] ∧ f.c = 2 ∧ Below w.heap.size w w' := by
 have hr := ex_ready (w := w) (b1 := b1) (b2 := b2) (b3 := b3) _ rfl
 refine (runA_is (c := ⟨0, some ⟨b3, 0, none⟩, 1, 1, [1]⟩) (is := [0, 1]) hp ⟨h3, rfl⟩ (by show 1 ≤ 1; decide) h4 rfl (by decide) hr ht ex_run).mono ?_
 rintro e w' ⟨hb, a, c, f, rfl, hn, hx⟩
 exact ⟨a, c, f, rfl, hn, (pf_inj (hx.is).pf).2.1, hb⟩
end Go.Proofs.YtgjojhmninbkoaaDoor
namespace Go.Proofs.YtgjojhmninbkoaaDoor
open Go Go.RowKit
theorem text11 {w : World} {a : Option Addr} {c : Nat} (hr : Row w a [1]) (ht : Tabs w) : Calls Tryd.prog 10 #[.agg #[.int .i64 1, .slice a 1 c]] w fun e w' => e = .returned (.string ⟨#[49, 32, 49]⟩) ∧ Below w.heap.size w w' := by
 have h := text_c 1 a 1 c [1] w hr rfl (by decide) (by decide) (by decide) (by rw [conf11]; decide) ht
 rw [conf11] at h
 exact h
theorem awakeS_is (w : World) (ht : Tabs w) :
  Calls Tryd.prog 4 #[] w (fun e w' => e = .returned (.bool (true)) ∧ Below w.heap.size w w') := by
 refine enterF (args := []) Tryd.func4 rfl Tryd.ntmps4 rfl ?_
 have hS := St.start w
 refine seqF (regF ?_)
 refine op_assign rfl rfl ?_
 refine endF (XF.thenN ?_)
 refine seqF (regF ?_)
 refine op_call (vs := []) hS goes_9 rfl (example_is _) rfl ?_
 rintro e W1 ⟨b1, b2, rfl, hex, hb⟩
 refine ⟨_, rfl, hb, fun hS' => ?_⟩
 clear hS; have hS := hS'; clear hS'
 refine op_buildSlice (us := [(0, .int .i64 _)]) hS Tryd.underlying29 Tryd.sizeOf3 Tryd.zeroValue3 rfl rfl rfl (bs_29_1 _) rfl ?_
 clear hS; intro B2 W2 hS
 refine op_build (us := [(1, .slice _ _ _)]) rfl (bld_31_1 _ _ _) rfl ?_
 refine op_buildSlice (us := [(0, .int .i64 _), (1, .int .i64 _)]) hS Tryd.underlying29 Tryd.sizeOf3 Tryd.zeroValue3 rfl rfl rfl (bs_29_2 _ _) rfl ?_
 clear hS; intro B3 W3 hS
 have hsz := hS.below.size
 refine op_call (vs := [_, _, _]) hS goes_5 rfl (exRun (hex _ (hS.since 0 rfl)) (row1 (hS.at_ 1 rfl)) (row2 (hS.at_ 0 rfl)) (ht.below hS.below)) rfl ?_
 rintro e W4 ⟨a5, c5, f5, rfl, hrn, hfc, hb⟩
 refine ⟨_, rfl, hb, fun hS' => ?_⟩
 clear hS; have hS := hS'; clear hS'
 refine op_move rfl rfl ?_
 refine op_extract rfl rfl rfl ?_
 refine op_extract rfl rfl rfl ?_
 refine op_extract rfl rfl rfl ?_
 refine op_extract rfl rfl rfl ?_
 refine op_alloc (cs := [_, _]) hS Tryd.zeroValue31 rfl rfl ?_
 clear hS; intro B5 W5 hS
 refine op_alloc (cs := [_, _, _, _, _, _]) hS Tryd.zeroValue40 rfl rfl ?_
 clear hS; intro B6 W6 hS
 refine op_storeA (i := 1) (vs := [_, _]) (cs' := [_, _]) (O' := [_, _, _, _]) hS Tryd.sizeOf31 rfl rfl rfl rfl rfl rfl rfl ?_
 clear hS; intro W7 hS
 refine op_storeA (i := 0) (vs := [_, _, _, _, _, _]) (cs' := [_, _, _, _, _, _]) (O' := [_, _, _, _]) hS Tryd.sizeOf40 rfl rfl rfl rfl rfl rfl rfl ?_
 clear hS; intro W8 hS
 refine op_assign rfl rfl ?_
 refine op_assign rfl rfl ?_
 refine endF (XF.thenN ?_)
 refine seqF (regF ?_)
 refine op_move rfl rfl ?_
 refine op_eql rfl rfl rfl ?_
 refine op_move rfl rfl ?_
 refine op_cases (d := 17) rfl (fun hc => ?_) (fun hc => absurd (of_decide_eq_false hc) (by omega))
 have hc := of_decide_eq_true hc
 refine op_wantedF (d := 17) rfl rfl ?_
 refine op_loadA (vs := [_, _]) Tryd.isAgg31 Tryd.sizeOf31 rfl (CellsAt.own (j := 0) (m := 2) (hS.at_ 1 rfl) rfl) rfl ?_
 refine op_wantedF (d := 17) rfl rfl ?_
 refine op_call (vs := [_]) hS goes_10 rfl (text11 (hrn.agree (hS.since 0 rfl)).row (ht.below hS.below)) rfl ?_
 rintro e W9 ⟨rfl, hb⟩
 refine ⟨_, rfl, hb, fun hS' => ?_⟩
 clear hS; have hS := hS'; clear hS' hb
 refine op_wantedF (d := 17) rfl rfl ?_
 refine op_binG rfl rfl rfl (run_eqlS_same _ _ _) rfl ?_
 refine op_pickT rfl rfl rfl ?_
 refine op_move rfl rfl ?_
 refine op_wantedF (d := 22) rfl rfl ?_
 refine op_field (o' := 1) fa_40_1 rfl rfl rfl ?_
 refine op_wantedF (d := 22) rfl rfl ?_
 refine op_load Tryd.isAgg3 rfl (cell_own (hS.at_ 0 rfl) rfl) rfl ?_
 refine op_wantedF (d := 22) rfl rfl ?_
 refine op_eql rfl rfl rfl ?_
 refine op_pickT rfl rfl rfl ?_
 refine op_assign rfl rfl ?_
 refine endF (XF.thenN ?_)
 refine retF ?_
 refine XF.res (res1 Tryd.results4 rfl) ?_
 exact ⟨rbool (decide_eq_true hfc), hS.below⟩
end Go.Proofs.YtgjojhmninbkoaaDoor
namespace Go.Proofs.YtgjojhmninbkoaaDoor
open Go.RowKit Go.ChangeShapes Go.WideShapes Go.Deep
section
variable {H : Type} {enc : TypeId × Value → H} {w : World} {base : Nat} {spare : Nat → Bool} {held : Bool}
theorem three_len {cs : List Value} (h : cs.length = 3) : ∃ a b c, cs = [a, b, c] := by
 match cs, h with
 | [a, b, c], _ => exact ⟨a, b, c, rfl⟩
theorem cell_open {n : Nat} {cs : List Value} {x : DataW H × List MemPlace} (hl : cs.length = 3) (h : DataW.trod enc Tryd.prog w base spare held n 107 cs = some x) :
  ∃ c : Cl, c.f < 18446744073709551616 ∧ cs = [.int .u64 (c.f : Int), .int .i64 c.k, .int .i64 c.v] := by
 obtain ⟨xs, n', _, hx, _, hlen, hg⟩ := DataW.trod_struct Tryd.underlying107 h
 obtain ⟨a, b, c, rfl⟩ := three_len hl
 ·skip
  have hlen3 : xs.length = 3 := hlen
  have g0 := hg 0 _ rfl
  have g1 := hg 1 _ rfl
  have g2 := hg 2 _ rfl
  rw [show Tryd.prog.cellsOf _ = 1 by kernel_rfl, List.getElem?_eq_getElem (by omega)] at g0 g1 g2
  obtain ⟨z0, e0, _, w0⟩ := DataW.trod_int Tryd.underlying33 g0
  obtain ⟨z1, e1, _, w1⟩ := DataW.trod_int (k := .i64) (by kernel_rfl) g1
  obtain ⟨z2, e2, _, w2⟩ := DataW.trod_int (k := .i64) (by kernel_rfl) g2
  simp at e0 e1 e2
  subst e0 e1 e2
  have hw : 0 ≤ z0 ∧ z0 ≤ 18446744073709551615 := by simpa [Lit.wf, IntKind.signed, IntKind.bits, IntKind.min, IntKind.max] using w0
  exact ⟨⟨z0.toNat, z1, z2⟩, by show z0.toNat < _; omega, by simp; omega⟩
theorem list_of : ∀ (n : Nat) (p : Nat → Cl → Prop), (∀ i, i < n → ∃ c, p i c) → ∃ xs : List Cl, xs.length = n ∧ ∀ i c, xs[i]? = some c → p i c
 | 0, p, h => ⟨[], rfl, fun i c hi => by simp at hi⟩
 | n + 1, p, h => by
  obtain ⟨xs, hl, hp⟩ := list_of n p (fun i hi => h i (by omega))
  obtain ⟨c, hc⟩ := h n (by omega)
  refine ⟨xs ++ [c], by simp [hl], fun i d hi => ?_⟩
  rcases Nat.lt_or_ge i n with h1 | h1
  ·rw [List.getElem?_append_left (by omega)] at hi
   exact hp i d hi
  ·obtain ⟨h2, _⟩ := List.getElem?_eq_some_iff.1 hi
   simp [hl] at h2
   obtain rfl : i = n := by omega
   rw [List.getElem?_append_right (by omega), hl, Nat.sub_self] at hi
   simp at hi
   subst hi
   exact hc
theorem cells_open {n : Nat} {a : Option Addr} {len cap : Nat} {x : DataW H × List MemPlace} (h : DataW.trod enc Tryd.prog w base spare held n 37 [.slice a len cap] = some x) :
  ∃ xs, IsCells w a len cap xs := by
 rcases open_slice Tryd.underlying37 h with ⟨hcs, _⟩ | ⟨ad, len', cap', m, n', D, Pl, hcs, hb, hl, hm, hmm, hx, hi⟩
 ·simp at hcs
  obtain ⟨rfl, rfl, rfl⟩ := hcs
  exact ⟨[], rfl, by simp, .inl rfl, fun c hc => by simp at hc⟩
 ·simp at hcs
  obtain ⟨rfl, rfl, rfl⟩ := hcs
  rw [show Tryd.prog.cellsOf 107 = 3 by kernel_rfl] at hi
  obtain ⟨xs, hxl, hxs⟩ := list_of len (fun i c => c.f < 18446744073709551616 ∧ w.cell? (ad.add (i * 3)) = some (.int .u64 (c.f : Int)) ∧ w.cell? (ad.add (i * 3 + 1)) = some (.int .i64 c.k) ∧ w.cell? (ad.add (i * 3 + 2)) = some (.int .i64 c.v)) (fun i hil => by
   obtain ⟨cs', hc, ht⟩ := hi i (by rw [hmm]; split <;> omega)
   obtain ⟨_, hcl, hat⟩ := World.cells?_some hc
   obtain ⟨c, hf, rfl⟩ := cell_open hcl ht
   have e0 := hat 0 (by omega)
   have e1 := hat 1 (by omega)
   have e2 := hat 2 (by omega)
   rw [add_add] at e0 e1 e2
   exact ⟨c, hf, e0, e1, e2⟩)
  refine ⟨xs, hxl.symm, by omega, ?_, fun c hc => ?_⟩
  ·rcases Nat.eq_zero_or_pos len with h0 | h0
   ·exact .inl (List.length_eq_zero_iff.1 (by omega))
   ·obtain ⟨b, off, spot⟩ := ad
    obtain ⟨_, h1, _, _⟩ := hxs 0 (xs[0]'(by omega)) (List.getElem?_eq_getElem (by omega))
    have hspot : spot = none := by simpa [Addr.add] using World.cell?_spot h1
    subst hspot
    refine .inr ⟨b, off, rfl, fun i c hic => ?_⟩
    have e : ∀ k, ({ block := b, off := off } : Addr).add k = ⟨b, off + k, none⟩ := fun k => by simp [Addr.add]
    have h3 := (hxs i c hic).2
    rw [e, e, e, ← Nat.add_assoc, ← Nat.add_assoc] at h3
    exact h3
  ·obtain ⟨i, hi', hic⟩ := List.mem_iff_getElem.1 hc
   exact (hxs i c (by rw [← hic]; exact List.getElem?_eq_getElem hi')).1
end
end Go.Proofs.YtgjojhmninbkoaaDoor
namespace Go.Proofs.YtgjojhmninbkoaaDoor
open Go.RowKit Go.ChangeShapes Go.WideShapes Go.Deep
section
variable {H : Type} {enc : TypeId × Value → H} {w : World} {base : Nat} {spare : Nat → Bool} {held : Bool}
theorem slice_form {n : Nat} {cs : List Value} {x : DataW H × List MemPlace} (h : DataW.trod enc Tryd.prog w base spare held n 37 cs = some x) : ∃ a len cap, cs = [.slice a len cap] := by
 rcases open_slice Tryd.underlying37 h with ⟨hcs, _⟩ | ⟨ad, len', cap', m, n', D, Pl, hcs, _⟩
 ·exact ⟨_, _, _, hcs⟩
 ·exact ⟨_, _, _, hcs⟩
end
end Go.Proofs.YtgjojhmninbkoaaDoor
