import Derived.Orders
import Derived.Below
import Derived.Deep.RegionHeld
import Derived.WalkKit
import Derived.KernelRfl
import Derived.Laws.Rows
import Derived.Laws.AppendOwn
import Derived.Laws.Strings
import Derived.Laws.Small
import Derived.Lib.Hide
import Derived.IntWalk
import Derived.Laws.Tables
import Derived.Laws.Concat
import Derived.Laws.MakeOwn
import Derived.Test.YtfkbkekgnoanaaaDoorProg
import Derived.Test.YtfkbkekgnoanaaaDoorRows
import Derived.Lib.LaidTab
import Derived.Lib.ItoaNum
import Derived.Lib.TrailingZeros
import Derived.Stop.LaidErr
import Derived.WalkSmall
import Derived.LaidMore
import Derived.Shelf.Spec.TrailingZeros
import Derived.Laws.BitsAllLaws
import Derived.Laws.Bits64
import Derived.Deep.QuietTactic
import Derived.BigQuiet
import Derived.RegionTactic
import Derived.BigRegion
import Derived.Deep.RegionHeld3
import Derived.ChangeAlike
import Derived.RangeFuncNested
import Derived.RangeFuncBound
import Derived.RangeFuncCalls
import Derived.RangeFuncLeaves
import Derived.Shelf.Abstract
import Derived.Shelf.RegionOpen
import Derived.OwnWalkIn
import Derived.TacticsInMore
import Derived.LoopNIn
import Derived.LoopIn
import Derived.Laws.Bits128
import Derived.Deep.AppendLies
import Derived.Maps.AppendAt
import Derived.Shelf.Strconv.Itoa0
import Derived.Shelf.Strconv.Itoa1
import Derived.Shelf.LaysM
import Derived.Shelf.Strconv.Itoa2
import Derived.Shelf.Strconv.AppendUint10
import Derived.Shelf.Strconv.AppendInt10
import Derived.Shelf.Strconv.AppendIntPublic10
import Derived.Shelf.Slices.Reverse
import Derived.Shelf.Slices.Equal
import Derived.Ground.Names2Prog
import Derived.Shelf.Slices.Clone
import Derived.Shelf.Slices.Cells
import Derived.Shelf.Slices.Empties2
import Derived.Lib.OthersKept
import Derived.Laws.IdiomStrings
import Derived.StillTailTactics
import Derived.Deep.RegionLaw
import Derived.Deep.DeepCutAuto
import Derived.Deep.CutRange
import Derived.Deep.RegionWith
import Derived.Laws.Bits64b
import Derived.Deep.DrawnRows
import Derived.Lib.SliceRun
import Derived.Laws.OwnMore
import Derived.OwnWalk
import Derived.WalkSpells
import Derived.Lib.Join
import Derived.Lib.OwnBridge
import Derived.Lib.ItoaLen
import Derived.Lib.UnsafeStr
import Derived.Lib.AppendIntMem
import Derived.Deep.Slices
import Derived.Deep.Fields
import Derived.ChangeSame
import Derived.Test.YtfkbkekgnoanaaaDoorPartsA
import Derived.Test.YtfkbkekgnoanaaaDoorPartsB
import Derived.Test.YtfkbkekgnoanaaaDoorPartsC
import Derived.Test.YtfkbkekgnoanaaaDoorPartsD
set_option maxRecDepth 100000
set_option maxHeartbeats 4000000
set_option linter.unusedVariables false
set_option linter.unusedVariables false
set_option linter.unusedSimpArgs false
set_option linter.unusedSectionVars false
set_option linter.unnecessarySimpa false
namespace Go.Proofs.YtfkbkekgnoanaaaDoor
open Go Go.RowKit
section
variable {P : Program} {ops : Array Oper} {Q : Exit → Act → World → Prop} {σ : Type}
structure RInvG (ops : Array Oper) (t0 : Array Value) (d0 : List Deferred) (G : σ → World → Prop) (I : σ → Nat → Value → World → Prop) (V : σ → Array Bool → Prop) (s : σ) (L : Array Bool) (a : Act) (w : World) : Prop where
 size : a.tmps.size = t0.size
 defers : a.defers = d0
 frame : ∀ t, freeT ops t = true → a.tmps.getD t undef = t0.getD t undef
 glob : G s w
 cons : V s L
 done : ∀ i d, (ops[i]?).bind (·.dst) = some d → L.getD i false = true → I s i (a.tmps.getD d undef) w
def ClosedG (ops : Array Oper) (L : Array Bool) : Prop := ∀ j, L.getD j false = true → ∀ x ∈ aft ops j, L.getD x false = true
def ReadyG (ops : Array Oper) (L : Array Bool) (i : Nat) : Prop := L.getD i false = false ∧ ∀ x ∈ aft ops i, L.getD x false = true
def GStep (P : Program) (ops : Array Oper) (Q : Exit → Act → World → Prop) (t0 : Array Value) (G : σ → World → Prop) (I : σ → Nat → Value → World → Prop) (V : σ → Array Bool → Prop) (i : Nat) : Prop :=
 ∀ s L (a : Act) w, (∀ t, freeT ops t = true → a.eval (.tmp t) = t0.getD t undef) → G s w → V s L → L.size = ops.size → ClosedG ops L → ReadyG ops L i → (∀ j d, waitsFor ops i j d = true → I s j (a.eval (.tmp d)) w) →
  wpOp P ops Q i (fun a' w' => ∃ s' v, a' = a.put ((ops[i]?).bind (·.dst)) v ∧ V s' (L.setIfInBounds i true) ∧ G s' w' ∧ (∀ d, (ops[i]?).bind (·.dst) = some d → I s' i v w') ∧ (∀ j d, (ops[j]?).bind (·.dst) = some d → I s j (a.tmps.getD d undef) w → I s' j (a.tmps.getD d undef) w')) a w
def tailT (ops : Array Oper) (k : Nat) : Bool := (List.range ops.size).all fun j => decide (j < k) || (List.range j).all fun i => (earlyL ops j).contains i
theorem tail_early {k j i : Nat} (h : tailT ops k = true) (hj : j < ops.size) (hk : k ≤ j) (hi : i < j) : i ∈ earlyL ops j := by
 have h1 := List.all_eq_true.1 h j (List.mem_range.2 hj)
 rw [Bool.or_eq_true, decide_eq_true_eq] at h1
 rcases h1 with h1 | h1
 ·omega
 ·exact List.contains_iff_mem.1 (List.all_eq_true.1 h1 i (List.mem_range.2 hi))
theorem ready_g {L : Array Bool} {i : Nat} (h : i ∈ Region.ready .any ops L) (hs : L.size = ops.size) : i < ops.size ∧ ReadyG ops L i := by
 obtain ⟨h1, o, ho, hdep⟩ := mem_ready.1 h
 have his : i < ops.size := (Array.getElem?_eq_some_iff.1 ho).1
 refine ⟨his, ?_, fun x hx => ?_⟩
 ·rw [Array.getD_eq_getD_getElem?, Array.getElem?_eq_getElem (by omega)] at h1 ⊢
  simpa using h1
 ·obtain ⟨e, he, h5, h6⟩ := aft_mem ho hx
  have h7 := hdep e he h6
  rw [h5] at h7
  exact h7
theorem cnt_getD {L : Array Bool} {i : Nat} (hi : i < L.size) (h : L.getD i false = false) : L.toList[i]? = some false := by
 rw [Array.getD_eq_getD_getElem?, Array.getElem?_eq_getElem hi] at h
 rw [Array.getElem?_toList, Array.getElem?_eq_getElem hi]
 simpa using h
theorem ClosedG.next {L : Array Bool} {i : Nat} (h : ClosedG ops L) (hr : ReadyG ops L i) (hi : i < L.size) : ClosedG ops (L.setIfInBounds i true) := fun j hj x hx => by
 have hx2 : L.getD x false = true := by
  by_cases hji : j = i
  ·subst hji; exact hr.2 x hx
  ·rw [getD_set_ne false (Ne.symm hji)] at hj
   exact h j hj x hx
 by_cases hxi : x = i
 ·subst hxi
  rw [Array.getD_eq_getD_getElem?, Array.getElem?_setIfInBounds_self_of_lt hi]; rfl
 ·rw [getD_set_ne false (Ne.symm hxi)]; exact hx2
theorem ready_early {L : Array Bool} {i : Nat} (h : ClosedG ops L) (hr : ReadyG ops L i) : ∀ x ∈ earlyL ops i, L.getD x false = true :=
 early_done (D := fun x => L.getD x false = true) hr.2 (fun j hj x hx => h j hj x hx)
theorem tail_run (ht : ∀ n, tidyR ops n = true → True) {k : Nat} (hl : tailT ops k = true) {n0 : Nat} (htd : tidyR ops n0 = true) : ∀ (m j fuel : Nat) (L : Array Bool) (a : Act) (w : World), ops.size = j + m → k ≤ j → m ≤ fuel → L.size = ops.size → ClosedG ops L → (∀ i, i < j → L.getD i false = true) → (∀ i, j ≤ i → L.getD i false = false) →
  wpList P ops Q (ops.toList.drop j) a w → wpAny P .any ops Q fuel L a w
 | 0, j, fuel, L, a, w, hm, hk, hf, hs, hc, hd, hn, h => by
  have hnil : Region.ready .any ops L = [] := by
   cases hr : Region.ready .any ops L with
   | nil => rfl
   | cons i rest =>
    obtain ⟨h1, h2⟩ := ready_g (by rw [hr]; exact List.mem_cons_self) hs
    have h3 := h2.1
    rw [hd i (by omega)] at h3
    cases h3
  rw [List.drop_of_length_le (by simp; omega)] at h
  cases fuel with
  | zero => exact ⟨hnil, h⟩
  | succ fuel => exact ⟨fun _ => h, by rw [hnil]; simp⟩
 | m + 1, j, 0, L, a, w, hm, hk, hf, hs, hc, hd, hn, h => by omega
 | m + 1, j, fuel + 1, L, a, w, hm, hk, hf, hs, hc, hd, hn, h => by
  have hj : j < ops.size := by omega
  have only : ∀ i ∈ Region.ready .any ops L, i = j := fun i hi => by
   obtain ⟨h1, h2⟩ := ready_g hi hs
   rcases Nat.lt_trichotomy i j with h3 | h3 | h3
   ·have h4 := h2.1
    rw [hd i h3] at h4; cases h4
   ·exact h3
   ·have := ready_early hc h2 j (tail_early hl h1 (by omega) h3)
    rw [hn j (Nat.le_refl _)] at this; cases this
  refine ⟨fun hr => ?_, fun i hi => ?_⟩
  ·have := ready_nil htd hs hr j hj
   have h2 := hn j (Nat.le_refl _)
   rw [Array.getD_eq_getD_getElem?, Array.getElem?_eq_getElem (by omega)] at this h2
   simp at this h2
   rw [this] at h2; cases h2
  ·obtain ⟨h1, h2⟩ := ready_g hi hs
   obtain rfl := only i hi
   have e : ops.toList.drop i = ops[i] :: ops.toList.drop (i + 1) := by
    rw [List.drop_eq_getElem_cons (by simpa using hj)]; simp
   rw [e] at h
   have key : wpOp P ops Q i (fun a' w' => wpList P ops Q (ops.toList.drop (i + 1)) a' w') a w := by
    unfold wpOp
    rw [Array.getElem?_eq_getElem hj]
    exact h
   refine wpOp_mono ?_ key
   intro a' w' hq
   refine tail_run ht hl htd m (i + 1) fuel _ a' w' (by omega) (by omega) (by omega) (by simpa using hs) (hc.next h2 (by omega)) (fun x hx => ?_) (fun x hx => ?_) hq
   ·by_cases hxi : x = i
    ·subst hxi
     rw [Array.getD_eq_getD_getElem?, Array.getElem?_setIfInBounds_self_of_lt (by omega)]; rfl
    ·rw [getD_set_ne false (Ne.symm hxi)]; exact hd x (by omega)
   ·rw [getD_set_ne false (by omega)]; exact hn x (by omega)
theorem region_ghost {t0 : Array Value} {d0 : List Deferred} {G : σ → World → Prop} {I : σ → Nat → Value → World → Prop} {V : σ → Array Bool → Prop} {k : Nat} (hk : k < ops.size) (hl : tailT ops k = true) (ht : tidyR ops t0.size = true)
  (hstep : ∀ i, i < k → GStep P ops Q t0 G I V i)
  (hfin : ∀ s L a w, RInvG ops t0 d0 G I V s L a w → (∀ i, i < k → L.getD i false = true) → (∀ i, k ≤ i → L.getD i false = false) → wpList P ops Q (ops.toList.drop k) a w) :
  ∀ (fuel : Nat) (s : σ) (L : Array Bool) (a : Act) (w : World), L.size = ops.size → L.toList.count false ≤ fuel → ClosedG ops L → (∀ i, k ≤ i → L.getD i false = false) → RInvG ops t0 d0 G I V s L a w → wpAny P .any ops Q fuel L a w := by
 intro fuel
 induction fuel with
 | zero =>
  intro s L a w hs hc hcl hn h
  have := cnt_set _ _ (cnt_getD (by omega) (hn k (Nat.le_refl _)))
  omega
 | succ fuel ih =>
  intro s L a w hs hc hcl hn h
  by_cases hall : ∀ i, i < k → L.getD i false = true
  ·have hcnt : ops.size - k ≤ L.toList.count false := by
    have key : ∀ (l : List Bool) (k : Nat), (∀ i, k ≤ i → i < l.length → l[i]? = some false) → l.length - k ≤ l.count false := by
     intro l
     induction l with
     | nil => intro k _; simp
     | cons b l ihl =>
      intro k hk
      cases k with
      | zero =>
       have h0 := hk 0 (Nat.le_refl _) (by simp)
       simp at h0; subst h0
       have := ihl 0 (fun i _ hi => by have := hk (i + 1) (by omega) (by simpa using hi); simpa using this)
       simp at this ⊢; omega
      | succ k =>
       have := ihl k (fun i hi hi2 => by have := hk (i + 1) (by omega) (by simpa using hi2); simpa using this)
       rw [List.count_cons]; simp; omega
    have := key L.toList k (fun i h1 h2 => cnt_getD (by simpa using h2) (hn i h1))
    simpa [hs] using this
   exact tail_run (fun _ _ => trivial) hl ht (ops.size - k) k (fuel + 1) L a w (by omega) (Nat.le_refl _) (by omega) hs hcl hall hn (hfin s L a w h hall hn)
  ·refine ⟨fun hr => ?_, fun i hi => ?_⟩
   ·exfalso; apply hall
    intro i hi
    have h1 := ready_nil ht hs hr i (by omega)
    rw [Array.getD_eq_getD_getElem?, Array.getElem?_eq_getElem (by omega)] at h1 ⊢
    simpa using h1
   ·obtain ⟨his, hr⟩ := ready_g hi hs
    have hik : i < k := by
     rcases Nat.lt_or_ge i k with h1 | h1
     ·exact h1
     ·exfalso; apply hall
      intro x hx
      exact ready_early hcl hr x (tail_early hl his h1 (by omega))
    have hc1 := cnt_set _ _ (cnt_getD (by omega) hr.1)
    refine wpOp_mono ?_ (hstep i hik s L a w (fun t ht => h.frame t ht) h.glob h.cons hs hcl hr (fun j d hw => ?_))
    ·rintro a' w' ⟨s', v, rfl, hV, hG, hI, hst⟩
     refine ih s' _ _ _ (by simpa using hs) ?_ (hcl.next hr (by omega)) (fun x hx => by rw [getD_set_ne false (by omega)]; exact hn x hx) ⟨by rw [put_size]; exact h.size, by rw [put_defers]; exact h.defers, fun t hf => ?_, hG, hV, fun j d hd hj => ?_⟩
     ·rw [Array.toList_setIfInBounds]; omega
     ·rw [put_other ?_]
      ·exact h.frame t hf
      ·intro hd
       obtain ⟨o, ho, hd⟩ := Option.bind_eq_some_iff.1 hd
       have := Array.all_eq_true'.1 hf o (Array.mem_of_getElem? ho)
       simp [hd] at this
     ·by_cases hji : j = i
      ·subst hji
       rw [put_at hd (by rw [h.size]; exact (tidy_dst ht hd).1)]
       exact hI d hd
      ·rw [getD_set_ne false (Ne.symm hji)] at hj
       rw [put_other (fun e => hji ((tidy_dst ht e).2 j hd))]
       exact hst j d hd (h.done j d hd hj)
    ·have : j ∈ aft ops i := by
      unfold waitsFor at hw
      unfold aft
      cases ho : ops[i]? with
      | none => simp [ho] at hw
      | some o =>
       simp only [ho, Bool.and_eq_true, beq_iff_eq] at hw
       obtain ⟨e, he, h2⟩ := Array.any_eq_true'.1 hw.1
       simp only [Bool.and_eq_true, beq_iff_eq] at h2
       exact List.mem_map.2 ⟨e, List.mem_filter.2 ⟨Array.mem_toList_iff.2 he, h2.2⟩, h2.1⟩
     have hd : (ops[j]?).bind (·.dst) = some d := by
      unfold waitsFor at hw
      simp only [Bool.and_eq_true, beq_iff_eq] at hw
      exact hw.2
     exact h.done j d hd (hr.2 j this)
end
structure Sg where
 ev : Option Value
 bs : List (Nat × Nat)
def OE (ca : Nat → Option Value → List Value) (ta : Nat → TypeId) (Os : Option Value → Own) (s : Sg) : Own := s.bs.map (fun q => (q.2, ca q.1 s.ev, ta q.1)) ++ Os s.ev
def XB (O : Own) (G : Grows) (b : Nat) : Prop := (∃ p ∈ O, p.1 = b) ∨ (∃ g ∈ G, g.v.ownBlock = some b)
def SameX (lo : Nat) (X : Nat → Prop) (w w' : World) : Prop := (w'.os = w.os ∧ w'.tape = w.tape ∧ w'.output = w.output) ∧ w.heap.size ≤ w'.heap.size ∧ ∀ b, lo ≤ b → b < w.heap.size → ¬ X b → w'.heap[b]? = w.heap[b]?
def AwS (lo : Nat) (X : Nat → Prop) (p : Asr) : Asr := fun v w => ∀ w', SameX lo X w w' → p v w'
section
variable {lo : Nat} {X X' : Nat → Prop} {w w' w'' : World} {p : Asr} {v c : Value}
theorem SameX.refl (lo : Nat) (X : Nat → Prop) (w : World) : SameX lo X w w := ⟨⟨rfl, rfl, rfl⟩, Nat.le_refl _, fun _ _ _ _ => rfl⟩
theorem sameX_of (h : Below w.heap.size w w') : SameX lo X w w' := ⟨⟨h.os, h.tape, h.output⟩, h.size, fun b _ hb _ => h.block b hb⟩
theorem SameX.trans (h : SameX lo X w w') (k : SameX lo X' w' w'') (hx : ∀ b, X' b → X b ∨ w.heap.size ≤ b) : SameX lo X w w'' :=
 ⟨⟨k.1.1.trans h.1.1, k.1.2.1.trans h.1.2.1, k.1.2.2.trans h.1.2.2⟩, Nat.le_trans h.2.1 k.2.1, fun b h1 h2 h3 => (k.2.2 b h1 (Nat.lt_of_lt_of_le h2 h.2.1) (fun hb => (hx b hb).elim h3 (fun h4 => by omega))).trans (h.2.2 b h1 h2 h3)⟩
theorem SameX.mono (h : SameX 0 X w w') : SameX lo X w w' := ⟨h.1, h.2.1, fun b _ hb hx => h.2.2 b (Nat.zero_le _) hb hx⟩
theorem AwS.here (h : AwS lo X p v w) : p v w := h w (SameX.refl _ _ _)
theorem AwS.next (h : AwS lo X p v w) (hs : SameX 0 X w w') (hx : ∀ b, X' b → X b ∨ w.heap.size ≤ b) : AwS lo X' p v w' := fun w2 h2 => h w2 (hs.mono.trans h2 hx)
theorem awS_isV : AwS lo X (isV c) c w := fun _ _ => rfl
end
section
variable {P : Program} {n : Nat} {Q : Exit → Act → World → Prop} {l : Fr} {w0 W : World} {ops : Array Oper} {os : List Oper} {K : List (Nat × World)} {L : List Asr} {i : Nat}
variable {al : List Nat} {ca : Nat → Option Value → List Value} {ta : Nat → TypeId} {Os : Option Value → Own} {Gs : Option Value → Grows} {lo ef jy : Nat} {s : Sg}
theorem St.drops {O : Own} {G : Grows} {w : World} : ∀ (A : Own), St w0 (A ++ O) G K w → St w0 O G K w
 | [], h => h
 | _ :: A, h => St.drops A h.tail
def GG (w0 : World) (K : List (Nat × World)) (lo : Nat) (ca : Nat → Option Value → List Value) (ta : Nat → TypeId) (Os : Option Value → Own) (Gs : Option Value → Grows) (s : Sg) (w : World) : Prop := St w0 (OE ca ta Os s) (Gs s.ev) K w ∧ lo ≤ w.heap.size ∧ ∀ q ∈ s.bs, lo ≤ q.2
def VG (al : List Nat) (ef : Nat) (s : Sg) (L : Array Bool) : Prop := (∀ a ∈ al, L.getD a false = true ↔ ∃ B, (a, B) ∈ s.bs) ∧ (∀ q ∈ s.bs, q.1 ∈ al) ∧ s.bs.Pairwise (fun p q => p.1 ≠ q.1) ∧ (L.getD ef false = true ↔ s.ev.isSome = true)
def IG (al : List Nat) (ef jy lo : Nat) (ca : Nat → Option Value → List Value) (ta : Nat → TypeId) (Os : Option Value → Own) (Gs : Option Value → Grows) (L : List Asr) (s : Sg) (i : Nat) (v : Value) (w : World) : Prop :=
 (i ∈ al → ∃ B, (i, B) ∈ s.bs ∧ v = .pointer (some ⟨B, 0, none⟩)) ∧ (i = ef → s.ev = some v) ∧ (i = jy → ∀ y, s.ev = some y → v = y) ∧ (i ∉ al → i ≠ ef → AwS lo (XB (OE ca ta Os s) (Gs s.ev)) (atI L i) v w)
def Tr (ops : Array Oper) (jy : Nat) (ca : Nat → Option Value → List Value) (ta : Nat → TypeId) (Os : Option Value → Own) (Gs : Option Value → Grows) (s s' : Sg) (a : Act) (w w' : World) : Prop :=
 SameX 0 (XB (OE ca ta Os s) (Gs s.ev)) w w' ∧ (∀ b, XB (OE ca ta Os s') (Gs s'.ev) b → XB (OE ca ta Os s) (Gs s.ev) b ∨ w.heap.size ≤ b) ∧ (∀ q ∈ s.bs, q ∈ s'.bs) ∧ (s'.ev = s.ev ∨ (s.ev = none ∧ ∃ y, s'.ev = some y ∧ ∀ d, (ops[jy]?).bind (·.dst) = some d → a.eval (.tmp d) = y))
theorem Tr.refl {a : Act} {w w' : World} (h : Below w.heap.size w w') : Tr ops jy ca ta Os Gs s s a w w' := ⟨sameX_of h, fun b hb => .inl hb, fun q hq => hq, .inl rfl⟩
def SG (P : Program) (n : Nat) (ops : Array Oper) (Q : Exit → Act → World → Prop) (l : Fr) (w0 : World) (K : List (Nat × World)) (lo : Nat) (al : List Nat) (ef jy : Nat) (ca : Nat → Option Value → List Value) (ta : Nat → TypeId) (Os : Option Value → Own) (Gs : Option Value → Grows) (L : List Asr) (i : Nat) : Prop :=
 ∀ t0, Has n l t0 → ∀ s LB (a : Act) w, (∀ t, freeT ops t = true → a.eval (.tmp t) = t0.tmps.getD t undef) → GG w0 K lo ca ta Os Gs s w → VG al ef s LB → LB.size = ops.size → ClosedG ops LB → ReadyG ops LB i → (∀ j d, waitsFor ops i j d = true → IG al ef jy lo ca ta Os Gs L s j (a.eval (.tmp d)) w) →
  wpOp P ops Q i (fun a' w' => ∃ s' v, a' = a.put ((ops[i]?).bind (·.dst)) v ∧ VG al ef s' (LB.setIfInBounds i true) ∧ GG w0 K lo ca ta Os Gs s' w' ∧ Tr ops jy ca ta Os Gs s s' a w w' ∧ (∀ d, (ops[i]?).bind (·.dst) = some d → IG al ef jy lo ca ta Os Gs L s' i v w')) a w
theorem SG.step (h : SG P n ops Q l w0 K lo al ef jy ca ta Os Gs L i) : ∀ a, Has n l a → GStep P ops Q a.tmps (GG w0 K lo ca ta Os Gs) (IG al ef jy lo ca ta Os Gs L) (VG al ef) i := fun t0 h0 s LB a w hF hG hV hs hc hr hD => by
 refine wpOp_mono ?_ (h t0 h0 s LB a w hF hG hV hs hc hr hD)
 rintro a' w' ⟨s', v, h1, h2, h3, ⟨t1, t2, t3, t4⟩, h5⟩
 refine ⟨s', v, h1, h2, h3, h5, fun j d hd hj => ⟨fun hj1 => ?_, fun hj1 => ?_, fun hj1 y hy => ?_, fun h6 h7 => (hj.2.2.2 h6 h7).next t1 t2⟩⟩
 ·obtain ⟨B, hB, e⟩ := hj.1 hj1
  exact ⟨B, t3 _ hB, e⟩
 ·rcases t4 with t4 | ⟨t4, _⟩
  ·rw [t4]; exact hj.2.1 hj1
  ·have := hj.2.1 hj1; rw [t4] at this; cases this
 ·rcases t4 with t4 | ⟨t4, y', t5, t6⟩
  ·rw [t4] at hy; exact hj.2.2.1 hj1 y hy
  ·rw [t5] at hy; cases hy
   subst hj1
   exact t6 d hd
theorem SG.ext {L1 L2 : List Asr} (ht : tidyR ops n = true) (hag : ∀ j, j ≤ i → atI L1 j = atI L2 j) (h : SG P n ops Q l w0 K lo al ef jy ca ta Os Gs L1 i) : SG P n ops Q l w0 K lo al ef jy ca ta Os Gs L2 i := fun t0 h0 s LB a w hF hG hV hs hc hr hD => by
 have hlt : ∀ j d, waitsFor ops i j d = true → j < i := fun j d hw => by
  cases ho : ops[i]? with
  | none => simp [waitsFor, ho] at hw
  | some o =>
   simp only [waitsFor, ho, Bool.and_eq_true, beq_iff_eq] at hw
   obtain ⟨e, he, h2⟩ := Array.any_eq_true'.1 hw.1
   simp only [Bool.and_eq_true, beq_iff_eq] at h2
   rw [← h2.1]; exact tidy_after ht ho e he h2.2
 have h2 := h t0 h0 s LB a w hF hG hV hs hc hr (fun j d hw => by unfold IG; rw [hag j (Nat.le_of_lt (hlt j d hw))]; exact hD j d hw)
 unfold IG at h2
 rw [hag i (Nat.le_refl _)] at h2
 exact h2
def earlyE (ops : Array Oper) (ef i : Nat) : Bool := Nat.ble ops.size ef || (earlyL ops ef).contains i
def earlyJ (ops : Array Oper) (ef jy i : Nat) : Bool := !Nat.beq i jy || earlyE ops ef i
theorem earlyJ_of (h : earlyJ ops ef jy i = true) : i = jy → earlyE ops ef i = true := fun e => by
 unfold earlyJ at h
 rw [e, Nat.beq_refl] at h
 rw [e]; exact h
theorem ev_none {L : Array Bool} (hV : VG al ef s L) (hs : L.size = ops.size) (hc : ClosedG ops L) (hi : L.getD i false = false) (he : earlyE ops ef i = true) : s.ev = none := by
 cases hev : s.ev with
 | none => rfl
 | some v =>
  have hd : L.getD ef false = true := hV.2.2.2.2 (by rw [hev]; rfl)
  unfold earlyE at he
  rw [Bool.or_eq_true] at he
  rcases he with he | he
  ·have h1 : ops.size ≤ ef := Nat.le_of_ble_eq_true he
   rw [Array.getD_eq_getD_getElem?, Array.getElem?_eq_none (by omega)] at hd
   cases hd
  ·have := early_done (D := fun x => L.getD x false = true) (hc ef hd) (fun j hj x hx => hc j hj x hx) i (List.contains_iff_mem.1 he)
   rw [hi] at this; cases this
theorem deps_has {t0 : Act} (h0 : Has n l t0) {a : Act} {w : World} (hF : ∀ t, freeT ops t = true → a.eval (.tmp t) = t0.tmps.getD t undef) (hD : ∀ j d, waitsFor ops i j d = true → IG al ef jy lo ca ta Os Gs L s j (a.eval (.tmp d)) w)
  (hn : ∀ j d, waitsFor ops i j d = true → j ∈ al ∨ j = ef → atI L j = anyA) : ∀ j d, waitsFor ops i j d = true → atI L j (a.eval (.tmp d)) w := fun j d hw => by
 by_cases h1 : j ∈ al ∨ j = ef
 ·rw [hn j d hw h1]; trivial
 ·rw [not_or] at h1
  exact ((hD j d hw).2.2.2 h1.1 h1.2).here
def NoAsr (al : List Nat) (ef : Nat) (L : List Asr) : Prop := ∀ j, j ∈ al ∨ j = ef → atI L j = anyA
theorem vg_other {L : Array Bool} (hV : VG al ef s L) (hi : i ∉ al) (he : i ≠ ef) : VG al ef s (L.setIfInBounds i true) :=
 ⟨fun a ha => by rw [getD_set_ne false (fun e => hi (by rw [e]; exact ha))]; exact hV.1 a ha, hV.2.1, hV.2.2.1, by rw [getD_set_ne false he]; exact hV.2.2.2⟩
variable {d : Nat} {op : Op} {ty : TypeId} {pos : String} {aft_ : Array Edge} {v : Value} {gd : Option (Nat × Bool)}
theorem sg_base (hal : i ∉ al) (hie : i ≠ ef) (hij : i = jy → earlyE ops ef i = true) (hi : ops[i]? = some ⟨some d, op, ty, pos, aft_, gd⟩) (hNo : NoAsr al ef L)
  (h : ∀ (t0 a : Act) s w, Has n l t0 → (∀ t, freeT ops t = true → a.eval (.tmp t) = t0.tmps.getD t undef) → GG w0 K lo ca ta Os Gs s w → (earlyE ops ef i = true → s.ev = none) → (∀ j d, waitsFor ops i j d = true → IG al ef jy lo ca ta Os Gs L s j (a.eval (.tmp d)) w) → (∀ j d, waitsFor ops i j d = true → atI L j (a.eval (.tmp d)) w) →
   wpOp P ops Q i (fun a' w' => ∃ v, a' = a.put (some d) v ∧ AwS lo (XB (OE ca ta Os s) (Gs s.ev)) (atI L i) v w' ∧ Below w.heap.size w w') a w) : SG P n ops Q l w0 K lo al ef jy ca ta Os Gs L i := fun t0 h0 s LB a w hF hG hV hs hc hr hD => by
 refine wpOp_mono ?_ (h t0 a s w h0 hF hG (fun he => ev_none hV hs hc hr.1 he) hD (deps_has h0 hF hD fun j d _ hj => hNo j hj))
 rintro a' w' ⟨v, rfl, hA, hb⟩
 refine ⟨s, v, by rw [hi]; rfl, vg_other hV hal hie, ⟨hG.1.grow hb, Nat.le_trans hG.2.1 hb.size, hG.2.2⟩, Tr.refl hb, fun _ _ => ⟨fun h => absurd h hal, fun h => absurd h hie, (fun h y hy => by rw [ev_none hV hs hc hr.1 (hij h)] at hy; cases hy), fun _ _ => hA⟩⟩
theorem wp_val {o : Oper} {a : Act} {w w' : World} {K' : Act → World → Prop} (hi : ops[i]? = some o) (hw : Region.wanted o (yielded ops a.tmps) = true) (hr : (execOp a.eval o).run P w = .ok (.value v) w') (hK : K' (a.put o.dst v) w') : wpOp P ops Q i K' a w := by
 unfold wpOp
 simp only [hi, hw, if_true]
 refine .inl ?_
 unfold Oper.wp
 rw [hr]
 exact hK
theorem sgV (li : Fr) (hal : al.contains i = false) (hie : Nat.beq i ef = false) (hij : earlyJ ops ef jy i = true) (hi : ops[i]? = some ⟨some d, op, ty, pos, aft_, gd⟩) (hNo : NoAsr al ef L) (hw : Wants ops L i ⟨some d, op, ty, pos, aft_, gd⟩) (hli : AllO n ops l L i li)
  (hr : ∀ ev w, (earlyE ops ef i = true → ev = none) → St w0 (Os ev) (Gs ev) K w → Runs P li ⟨some d, op, ty, pos, #[], none⟩ w v w) (hI : atI L i = isV v) : SG P n ops Q l w0 K lo al ef jy ca ta Os Gs L i :=
 sg_base (fun h => by rw [List.contains_iff_mem.2 h] at hal; cases hal) (fun e => by rw [e, Nat.beq_refl] at hie; cases hie) (earlyJ_of hij) hi hNo fun t0 a s w h0 hF hG he hD hD' => by
  have hS : St w0 (Os s.ev) (Gs s.ev) K w := St.drops _ hG.1
  exact wp_val hi (hw.yes hD') (by rw [execOp_guard a.eval _ _ _ _ pos _ #[] _ none]; exact hr s.ev w he hS a.eval (allO_has h0 hF hD' hli)) ⟨v, rfl, by rw [hI]; exact awS_isV, Below.refl _ _⟩
theorem sg_call {f : FuncId} {xs : List Operand} {ts : Array TypeId} (ps : List Asr) (hal : al.contains i = false) (hie : Nat.beq i ef = false) (hij : earlyJ ops ef jy i = true) (hi : ops[i]? = some ⟨some d, .call { callee := .value (.func f), args := xs.toArray, argTypes := ts }, ty, pos, aft_, gd⟩) (hNo : NoAsr al ef L) (hgo : goesIn P f = true)
  (hw : Wants ops L i ⟨some d, .call { callee := .value (.func f), args := xs.toArray, argTypes := ts }, ty, pos, aft_, gd⟩) (hp : AllP n ops l L i xs ps)
  {p : Asr} (hc : ∀ vs ev w, (earlyE ops ef i = true → ev = none) → St w0 (Os ev) (Gs ev) K w → lo ≤ w.heap.size → Holds ps vs w → Calls P f vs.toArray w (GivesN p w)) (hI : atI L i = p) : SG P n ops Q l w0 K lo al ef jy ca ta Os Gs L i :=
 sg_base (fun h => by rw [List.contains_iff_mem.2 h] at hal; cases hal) (fun e => by rw [e, Nat.beq_refl] at hie; cases hie) (earlyJ_of hij) hi hNo fun t0 a s w h0 hF hG he hD hD' => by
  have hS : St w0 (Os s.ev) (Gs s.ev) K w := St.drops _ hG.1
  have h1 := hc (xs.map a.eval) s.ev w he hS hG.2.1 (allP_holds h0 hF hD' hp)
  rw [show (xs.map a.eval).toArray = xs.toArray.map a.eval by simp] at h1
  unfold wpOp
  simp only [hi, hw.yes hD', if_true]
  refine .inl ?_
  unfold Oper.wp
  rw [run_call P a.eval w f xs.toArray ts _ rfl rfl hgo, Oper.upon_enter]
  refine h1.mono ?_
  rintro e w' ⟨v, rfl, hv, hb⟩
  refine ⟨v, by simp, ?_, hb⟩
  rw [hI]
  intro w2 h2
  refine hv w2 ⟨h2.2.1, fun b h3 h4 => h2.2.2 b (Nat.le_trans hG.2.1 h3) h4 (fun hx => ?_)⟩
  rcases hx with ⟨q, hq, rfl⟩ | ⟨g, hg, hgb⟩
  ·have := lt_of_heap (hG.1.own q hq).2; omega
  ·have := (hG.1.glt hg hgb).2; omega
theorem sg_alloc {T : TypeId} {z : Value} (hal : al.contains i = true) (hie : Nat.beq i ef = false) (hij : Nat.beq i jy = false) (hi : ops[i]? = some ⟨some d, .alloc T, ty, pos, aft_, none⟩) (hT : ta i = T) (hz : ∀ w, (zeroValue T).run P w = .ok z w) (hc : ∀ ev, (earlyE ops ef i = true → ev = none) → z.cells = (ca i ev).toArray) : SG P n ops Q l w0 K lo al ef jy ca ta Os Gs L i := fun t0 h0 s LB a w hF hG hV hs hcl hr hD => by
 have hal' : i ∈ al := List.contains_iff_mem.1 hal
 have hie' : i ≠ ef := fun e => by rw [e, Nat.beq_refl] at hie; cases hie
 have hcz := hc s.ev (fun he => ev_none hV hs hcl hr.1 he)
 have hB : Below w.heap.size w (w.alloc (.cells (ca i s.ev).toArray T)) := (Below.refl _ _).alloc (Nat.le_refl _) _
 have hnot : ¬ ∃ B, (i, B) ∈ s.bs := fun h => by have := (hV.1 i hal').2 h; rw [hr.1] at this; cases this
 refine wp_val hi rfl (v := .pointer (some ⟨w.heap.size, 0, none⟩)) (w' := w.alloc (.cells (ca i s.ev).toArray T)) (by unfold execOp; simp only []; simp [Instr.alloc, newVar, newRow, hz, hcz]) ?_
 have hX : ∀ b, XB (OE ca ta Os ⟨s.ev, (i, w.heap.size) :: s.bs⟩) (Gs s.ev) b → XB (OE ca ta Os s) (Gs s.ev) b ∨ w.heap.size ≤ b := by
  rintro b (⟨q, hq, rfl⟩ | h)
  ·unfold OE at hq
   rw [List.map_cons, List.cons_append] at hq
   rcases List.mem_cons.1 hq with rfl | hq
   ·exact .inr (Nat.le_refl _)
   ·exact .inl (.inl ⟨q, hq, rfl⟩)
  ·exact .inl (.inr h)
 refine ⟨⟨s.ev, (i, w.heap.size) :: s.bs⟩, _, by rw [hi]; rfl, ⟨fun a ha => ?_, fun q hq => ?_, List.Pairwise.cons (fun q hq e => hnot ⟨q.2, by rw [show i = q.1 from e]; exact hq⟩) hV.2.2.1, by rw [getD_set_ne false hie']; exact hV.2.2.2⟩, ⟨?_, Nat.le_trans hG.2.1 hB.size, fun q hq => ?_⟩, ⟨sameX_of hB, hX, fun q hq => List.mem_cons_of_mem _ hq, .inl rfl⟩, fun _ _ => ⟨fun _ => ⟨w.heap.size, List.mem_cons_self, rfl⟩, fun h => absurd h hie', fun h => absurd hij (by rw [h, Nat.beq_refl]; decide), fun h => absurd hal' h⟩⟩
 ·by_cases hai : a = i
  ·subst hai
   rw [Array.getD_eq_getD_getElem?, Array.getElem?_setIfInBounds_self_of_lt (by rw [hs]; exact (Array.getElem?_eq_some_iff.1 hi).1)]
   exact ⟨fun _ => ⟨_, List.mem_cons_self⟩, fun _ => rfl⟩
  ·rw [getD_set_ne false (Ne.symm hai), hV.1 a ha]
   constructor
   ·rintro ⟨B, hB⟩; exact ⟨B, List.mem_cons_of_mem _ hB⟩
   ·rintro ⟨B, hB⟩
    rcases List.mem_cons.1 hB with h | h
    ·exact absurd (congrArg Prod.fst h) hai
    ·exact ⟨B, h⟩
 ·rcases List.mem_cons.1 hq with rfl | hq
  ·exact hal'
  ·exact hV.2.1 q hq
 ·have h1 := hG.1.alloc (ca i s.ev) (ta i)
  rw [hT] at h1
  unfold OE
  rw [List.map_cons, List.cons_append, hT]
  exact h1
 ·rcases List.mem_cons.1 hq with rfl | hq
  ·exact hG.2.1
  ·exact hG.2.2 q hq
theorem sg_eff {o : Oper} (hal : al.contains ef = false) (hij : Nat.beq ef jy = false) (hi : ops[ef]? = some o)
  (h : ∀ (t0 a : Act) bs w, Has n l t0 → (∀ t, freeT ops t = true → a.eval (.tmp t) = t0.tmps.getD t undef) → GG w0 K lo ca ta Os Gs ⟨none, bs⟩ w → bs.Pairwise (fun p q => p.1 ≠ q.1) → (∀ j d, waitsFor ops ef j d = true → IG al ef jy lo ca ta Os Gs L ⟨none, bs⟩ j (a.eval (.tmp d)) w) →
   wpOp P ops Q ef (fun a' w' => ∃ v y, a' = a.put o.dst v ∧ (∀ d, o.dst = some d → v = y) ∧ St w0 (OE ca ta Os ⟨some y, bs⟩) (Gs (some y)) K w' ∧ SameX 0 (XB (OE ca ta Os ⟨none, bs⟩) (Gs none)) w w' ∧ (∀ b, XB (OE ca ta Os ⟨some y, bs⟩) (Gs (some y)) b → XB (OE ca ta Os ⟨none, bs⟩) (Gs none) b ∨ w.heap.size ≤ b) ∧ (∀ d, (ops[jy]?).bind (·.dst) = some d → a.eval (.tmp d) = y)) a w) : SG P n ops Q l w0 K lo al ef jy ca ta Os Gs L ef := fun t0 h0 s LB a w hF hG hV hs hc hr hD => by
 have hal' : ef ∉ al := fun h => by rw [List.contains_iff_mem.2 h] at hal; cases hal
 obtain ⟨ev, bs⟩ := s
 have hev : ev = none := by
  cases ev with
  | none => rfl
  | some v => have := hV.2.2.2.2 rfl; rw [hr.1] at this; cases this
 subst hev
 refine wpOp_mono ?_ (h t0 a bs w h0 hF hG hV.2.2.1 hD)
 rintro a' w' ⟨v, y, rfl, hvy, hSt, hsame, hX, hy⟩
 refine ⟨⟨some y, bs⟩, v, by rw [hi]; rfl, ⟨fun a ha => by rw [getD_set_ne false (fun e => hal' (by rw [e]; exact ha))]; exact hV.1 a ha, hV.2.1, hV.2.2.1, ?_⟩, ⟨hSt, Nat.le_trans hG.2.1 hsame.2.1, hG.2.2⟩, ⟨hsame, hX, fun q hq => hq, .inr ⟨rfl, y, rfl, hy⟩⟩, fun d hd => ⟨fun h => absurd h hal', fun _ => ?_, fun h => absurd hij (by rw [h, Nat.beq_refl]; decide), fun _ h => absurd rfl h⟩⟩
 ·rw [Array.getD_eq_getD_getElem?, Array.getElem?_setIfInBounds_self_of_lt (by rw [hs]; exact (Array.getElem?_eq_some_iff.1 hi).1)]
  exact ⟨fun _ => rfl, fun _ => rfl⟩
 ·rw [hi] at hd
  rw [hvy d hd]
theorem St.perm {O O' : Own} {G : Grows} {w : World} (h : St w0 O G K w) (hp : O.Perm O') : St w0 O' G K w where
 below := h.below
 own := fun p hp' => h.own p (hp.mem_iff.2 hp')
 dist := h.dist.perm hp (fun h => Ne.symm h)
 kept := fun q hq => ⟨(h.kept q hq).1, fun p hp' => (h.kept q hq).2 p (hp.mem_iff.2 hp')⟩
 rows := fun g hg => ⟨(h.rows g hg).1, fun b hb => ⟨fun p hp' => ((h.rows g hg).2 b hb).1 p (hp.mem_iff.2 hp'), ((h.rows g hg).2 b hb).2⟩⟩
 gdist := h.gdist
def dropF (ds : List Nat) : Fr → Fr
 | [] => []
 | p :: l => bif ds.contains p.1 then dropF ds l else p :: dropF ds l
theorem look_dropF {ds : List Nat} {t : Nat} {v : Value} : ∀ {l : Fr}, look (dropF ds l) t = some v → t ∉ ds → look l t = some v
 | [], h, _ => by cases h
 | p :: l, h, ht => by
  unfold dropF at h
  unfold look
  cases hc : ds.contains p.1 with
  | true =>
   rw [hc, cond_true] at h
   cases hb : Nat.beq p.1 t with
   | true =>
    rw [Nat.eq_of_beq_eq_true hb] at hc
    exact absurd (List.contains_iff_mem.1 hc) ht
   | false => rw [cond_false]; exact look_dropF h ht
  | false =>
   rw [hc, cond_false] at h
   unfold look at h
   cases hb : Nat.beq p.1 t with
   | true => rw [hb, cond_true] at h; rw [cond_true]; exact h
   | false => rw [hb, cond_false] at h; rw [cond_false]; exact look_dropF h ht
theorem look_dropF_not {ds : List Nat} {t : Nat} {v : Value} : ∀ {l : Fr}, look (dropF ds l) t = some v → t ∉ ds
 | [], h => by cases h
 | p :: l, h => by
  unfold dropF at h
  cases hc : ds.contains p.1 with
  | true => rw [hc, cond_true] at h; exact look_dropF_not h
  | false =>
   rw [hc, cond_false] at h
   unfold look at h
   cases hb : Nat.beq p.1 t with
   | true =>
    intro hm
    rw [← Nat.eq_of_beq_eq_true hb] at hm
    rw [List.contains_iff_mem.2 hm] at hc; cases hc
   | false => rw [hb, cond_false] at h; exact look_dropF_not h
def finL (al : List Nat) (ef jy lo : Nat) (X : Nat → Prop) (Bf : Nat → Nat) (y : Value) : Nat → List Asr → List Asr
 | _, [] => []
 | j, q :: L => (bif al.contains j then isV (.pointer (some ⟨Bf j, 0, none⟩)) else bif Nat.beq j ef then isV y else bif Nat.beq j jy then (fun v w => v = y ∧ AwS lo X q v w) else AwS lo X q) :: finL al ef jy lo X Bf y (j + 1) L
theorem atI_finL {X : Nat → Prop} {Bf : Nat → Nat} {y : Value} : ∀ (L : List Asr) (j i : Nat), i < L.length → atI (finL al ef jy lo X Bf y j L) i = (bif al.contains (i + j) then isV (.pointer (some ⟨Bf (i + j), 0, none⟩)) else bif Nat.beq (i + j) ef then isV y else bif Nat.beq (i + j) jy then (fun v w => v = y ∧ AwS lo X (atI L i) v w) else AwS lo X (atI L i))
 | [], j, i, h => by simp at h
 | q :: L, j, 0, h => by rw [Nat.zero_add]; rfl
 | q :: L, j, i + 1, h => by
  show atI (finL al ef jy lo X Bf y (j + 1) L) i = _
  rw [atI_finL L (j + 1) i (by simpa using h), show i + 1 + j = i + (j + 1) by omega]
  rfl
theorem cuts : ∀ (Bs : List Nat) (lo : Nat) (w : World), ∃ Ks : List (Nat × World), (∀ q ∈ Ks, lo ≤ q.1 ∧ Agree q.1 q.2 w ∧ ∀ B ∈ Bs, B < q.1 ∨ q.2.heap.size ≤ B) ∧ (∃ q ∈ Ks, q.2 = w) ∧ ∀ b, lo ≤ b → b < w.heap.size → b ∉ Bs → ∃ q ∈ Ks, q.1 ≤ b ∧ b < q.2.heap.size
 | [], lo, w => ⟨[(lo, w)], fun q hq => by
   simp only [List.mem_cons, List.not_mem_nil, or_false] at hq
   subst hq
   exact ⟨Nat.le_refl _, Agree.refl _ _, fun B hB => by cases hB⟩, ⟨(lo, w), List.mem_cons_self, rfl⟩, fun b h1 h2 _ => ⟨(lo, w), List.mem_cons_self, h1, h2⟩⟩
 | B :: Bs, lo, w => by
  by_cases hB : B < w.heap.size
  ·obtain ⟨A, hA, hA1⟩ := cut_world w (B := B) (lo := lo) (Nat.le_of_lt hB)
   obtain ⟨K1, k1, _, k2⟩ := cuts Bs lo A
   obtain ⟨K2, k3, ⟨q0, k5, k6⟩, k4⟩ := cuts Bs (max lo (B + 1)) w
   refine ⟨K1 ++ K2, fun q hq => ?_, ⟨q0, List.mem_append_right _ k5, k6⟩, fun b h1 h2 h3 => ?_⟩
   ·rcases List.mem_append.1 hq with hq | hq
    ·obtain ⟨e1, e2, e3⟩ := k1 q hq
     refine ⟨e1, e2.trans (hA1.mono e1), fun B' hB' => ?_⟩
     rcases List.mem_cons.1 hB' with rfl | hB'
     ·right; rw [← hA]; exact e2.1
     ·exact e3 B' hB'
    ·obtain ⟨e1, e2, e3⟩ := k3 q hq
     refine ⟨by omega, e2, fun B' hB' => ?_⟩
     rcases List.mem_cons.1 hB' with rfl | hB'
     ·left; omega
     ·exact e3 B' hB'
   ·have h4 : b ≠ B := fun e => h3 (by rw [e]; exact List.mem_cons_self)
    have h5 : b ∉ Bs := fun e => h3 (List.mem_cons_of_mem _ e)
    rcases Nat.lt_or_ge b B with h6 | h6
    ·obtain ⟨q, hq, h7⟩ := k2 b h1 (by omega) h5
     exact ⟨q, List.mem_append_left _ hq, h7⟩
    ·obtain ⟨q, hq, h7⟩ := k4 b (by omega) h2 h5
     exact ⟨q, List.mem_append_right _ hq, h7⟩
  ·obtain ⟨K1, k1, k5, k2⟩ := cuts Bs lo w
   refine ⟨K1, fun q hq => ?_, k5, fun b h1 h2 h3 => k2 b h1 h2 (fun e => h3 (List.mem_cons_of_mem _ e))⟩
   obtain ⟨e1, e2, e3⟩ := k1 q hq
   refine ⟨e1, e2, fun B' hB' => ?_⟩
   rcases List.mem_cons.1 hB' with rfl | hB'
   ·right; have := e2.1; omega
   ·exact e3 B' hB'
theorem St.more {O : Own} {G : Grows} {w : World} (h : St w0 O G K w) (Ks : List (Nat × World)) (hk : ∀ q ∈ Ks, Agree q.1 q.2 w ∧ (∀ p ∈ O, p.1 < q.1 ∨ q.2.heap.size ≤ p.1) ∧ ∀ g ∈ G, ∀ b, g.v.ownBlock = some b → b < q.1 ∨ q.2.heap.size ≤ b) : St w0 O G (Ks ++ K) w where
 below := h.below
 own := h.own
 dist := h.dist
 kept := fun q hq => by
  rcases List.mem_append.1 hq with hq | hq
  ·exact ⟨(hk q hq).1, (hk q hq).2.1⟩
  ·exact h.kept q hq
 rows := fun g hg => ⟨(h.rows g hg).1, fun b hb => ⟨((h.rows g hg).2 b hb).1, fun q hq => by
  rcases List.mem_append.1 hq with hq | hq
  ·exact (hk q hq).2.2 g hg b hb
  ·exact ((h.rows g hg).2 b hb).2 q hq⟩⟩
 gdist := h.gdist
theorem atI_len : ∀ {L : List Asr} {j : Nat}, L.length ≤ j → atI L j = anyA
 | [], _, _ => rfl
 | _ :: L, 0, h => by simp at h
 | _ :: L, j + 1, h => atI_len (L := L) (by simpa using h)
def BLS (P : Program) (n : Nat) (ops : Array Oper) (Q : Exit → Act → World → Prop) (l : Fr) (w0 : World) (K : List (Nat × World)) (lo : Nat) (al : List Nat) (ef jy : Nat) (ca : Nat → Option Value → List Value) (ta : Nat → TypeId) (Os : Option Value → Own) (Gs : Option Value → Grows) (Goal : List Asr → Prop) : Nat → List Asr → Nat → Prop
 | 0, Lr, _ => Goal Lr
 | m + 1, Lr, k => ∃ q, ((k ∈ al ∨ k = ef) → q = anyA) ∧ (NoAsr al ef (q :: Lr).reverse → SG P n ops Q l w0 K lo al ef jy ca ta Os Gs (q :: Lr).reverse k) ∧ BLS P n ops Q l w0 K lo al ef jy ca ta Os Gs Goal m (q :: Lr) (k + 1)
variable {Goal : List Asr → Prop}
theorem bls_nil {Lr : List Asr} {k : Nat} (h : Goal Lr) : BLS P n ops Q l w0 K lo al ef jy ca ta Os Gs Goal 0 Lr k := h
theorem bls_cons {m k : Nat} {Lr : List Asr} (k' : Nat) (hk : k + 1 = k') (hne : (al.contains k || Nat.beq k ef) = false) (q : Asr) (h : NoAsr al ef (q :: Lr).reverse → SG P n ops Q l w0 K lo al ef jy ca ta Os Gs (q :: Lr).reverse k) (hr : BLS P n ops Q l w0 K lo al ef jy ca ta Os Gs Goal m (q :: Lr) k') : BLS P n ops Q l w0 K lo al ef jy ca ta Os Gs Goal (m + 1) Lr k := by
 subst hk
 refine ⟨q, fun hc => ?_, h, hr⟩
 rw [Bool.or_eq_false_iff] at hne
 rcases hc with hc | hc
 ·rw [List.contains_iff_mem.2 hc] at hne; cases hne.1
 ·rw [hc, Nat.beq_refl] at hne; cases hne.2
theorem bls_any {m k : Nat} {Lr : List Asr} (k' : Nat) (hk : k + 1 = k') (h : SG P n ops Q l w0 K lo al ef jy ca ta Os Gs (anyA :: Lr).reverse k) (hr : BLS P n ops Q l w0 K lo al ef jy ca ta Os Gs Goal m (anyA :: Lr) k') : BLS P n ops Q l w0 K lo al ef jy ca ta Os Gs Goal (m + 1) Lr k := by
 subst hk; exact ⟨anyA, fun _ => rfl, fun _ => h, hr⟩
theorem bls_run (ht : tidyR ops n = true) : ∀ (m k : Nat) (Lr : List Asr), Lr.length = k → NoAsr al ef Lr.reverse → (∀ i, i < k → SG P n ops Q l w0 K lo al ef jy ca ta Os Gs Lr.reverse i) → BLS P n ops Q l w0 K lo al ef jy ca ta Os Gs Goal m Lr k →
  ∃ Lr', Lr'.length = k + m ∧ (∀ i, i < k + m → SG P n ops Q l w0 K lo al ef jy ca ta Os Gs Lr'.reverse i) ∧ Goal Lr'
 | 0, k, Lr, hl, hs, hg, h => ⟨Lr, hl, hg, h⟩
 | m + 1, k, Lr, hl, hs, hg, ⟨q, hq, hr, hn⟩ => by
  have hap : ∀ j, j < k → atI Lr.reverse j = atI (q :: Lr).reverse j := fun j hj => by rw [List.reverse_cons, atI_append (by simp; omega)]
  have hs' : NoAsr al ef (q :: Lr).reverse := fun j hj => by
   rcases Nat.lt_trichotomy j k with h1 | h1 | h1
   ·rw [← hap j h1]; exact hs j hj
   ·subst h1; rw [at_top hl]; exact hq hj
   ·exact atI_len (by simp; omega)
  obtain ⟨L', h1, h3, h4⟩ := bls_run ht m (k + 1) (q :: Lr) (by simp [hl]) hs' (fun i hi => by
   by_cases hik : i = k
   ·subst hik; exact hr hs'
   ·exact SG.ext ht (fun j hj => hap j (by omega)) (hg i (by omega))) hn
  exact ⟨L', by omega, fun i hi => h3 i (by omega), h4⟩
theorem fin_hasS {a : Act} {Kk : Fr → World → Prop} {G : Prop} : ∀ (os : List Oper) (L : List Asr) (l : Fr), (∀ i d, i < os.length → (os[i]?).bind (·.dst) = some d → atI L i (a.tmps.getD d undef) W) → (∀ i, i < os.length → (os[i]?).bind (·.dst) = none → ∃ v, atI L i v W) → a.tmps.size = n → a.defers = [] →
  (∀ t v, look l t = some v → (∀ o ∈ os, o.dst ≠ some t) → a.tmps.getD t undef = v) → (hK : ∀ l', Kk l' W → Has n l' a → G) → FinI os L l Kk W → G
 | [], L, l, hI, _, hs, hd, hl, hK, h => hK l h ⟨hs, hd, fun t v hv => hl t v hv (fun o ho => by cases ho)⟩
 | o :: os, L, l, hI, hN, hs, hd, hl, hK, h => by
  cases hod : o.dst with
  | none =>
   obtain ⟨v, hv⟩ := hN 0 (by simp) (by simp [hod])
   have h1 := h v hv
   rw [hod] at h1
   refine fin_hasS os L.tail _ (fun i e hi he => by rw [atI_tail]; exact hI (i + 1) e (by simpa using hi) (by simpa using he)) (fun i hi he => by rw [atI_tail]; exact hN (i + 1) (by simpa using hi) (by simpa using he)) hs hd ?_ hK h1
   intro t v hv hno
   refine hl t v hv (fun o' ho' => ?_)
   rcases List.mem_cons.1 ho' with rfl | ho'
   ·rw [hod]; simp
   ·exact hno o' ho'
  | some d =>
   have h0 := hI 0 d (by simp) (by simp [hod])
   have h1 := h _ h0
   refine fin_hasS os L.tail _ (fun i e hi he => by rw [atI_tail]; exact hI (i + 1) e (by simpa using hi) (by simpa using he)) (fun i hi he => by rw [atI_tail]; exact hN (i + 1) (by simpa using hi) (by simpa using he)) hs hd ?_ hK h1
   intro t v hv hno
   rw [hod] at hv
   simp only [List.cons_append, List.nil_append] at hv
   unfold look at hv
   cases hb : Nat.beq d t with
   | true =>
    simp only [hb, cond_true, Option.some.injEq] at hv
    rw [← Nat.eq_of_beq_eq_true hb]; exact hv
   | false =>
    simp only [hb, cond_false] at hv
    refine hl t v hv (fun o' ho' => ?_)
    rcases List.mem_cons.1 ho' with rfl | ho'
    ·rw [hod]; intro e; rw [Option.some.inj e, Nat.beq_refl] at hb; cases hb
    ·exact hno o' ho'
def bAt (bs : List (Nat × Nat)) (a : Nat) : Nat := ((bs.find? (fun q => Nat.beq q.1 a)).map (·.2)).getD 0
theorem bAt_mem : ∀ {bs : List (Nat × Nat)} {a : Nat}, (∃ B, (a, B) ∈ bs) → (a, bAt bs a) ∈ bs
 | [], _, ⟨B, h⟩ => by cases h
 | q :: bs, a, ⟨B, h⟩ => by
  unfold bAt
  rw [List.find?_cons]
  cases hb : Nat.beq q.1 a with
  | true =>
   have := Nat.eq_of_beq_eq_true hb
   subst this
   exact List.mem_cons_self
  | false =>
   rcases List.mem_cons.1 h with h | h
   ·rw [← h, Nat.beq_refl] at hb; cases hb
   ·exact List.mem_cons_of_mem _ (bAt_mem ⟨B, h⟩)
theorem bAt_uniq {bs : List (Nat × Nat)} (hp : bs.Pairwise (fun p q => p.1 ≠ q.1)) {p q : Nat × Nat} (h1 : p ∈ bs) (h2 : q ∈ bs) (he : p.1 = q.1) : p = q := by
 induction hp with
 | nil => cases h1
 | cons ha hb ih =>
  rcases List.mem_cons.1 h1 with h3 | h3 <;> rcases List.mem_cons.1 h2 with h4 | h4
  ·rw [h3, h4]
  ·subst h3; exact absurd he (ha _ h4)
  ·subst h4; exact absurd he.symm (ha _ h3)
  ·exact ih h3 h4
theorem regS {id k : Nat} {ds : List Nat} (hm : P.follows .mixedOrders = true) (hlo : lo = W.heap.size) (hS : St w0 (Os none) (Gs none) K W) (hk : Nat.blt k os.length = true) (htl : tailT os.toArray k = true) (ht : tidyR os.toArray n = true) (hal : al.all (fun a => Nat.blt a k) = true) (hnd : al.Nodup) (hea : al.contains ef = false)
  (evE : Value → Option Value) (hev : (Nat.blt ef k = true ∧ evE = some) ∨ (Nat.ble os.length ef = true ∧ Nat.ble os.length jy = true ∧ evE = fun _ => none)) (hdst : (List.range k).all (fun j => Nat.beq j ef || ((os.toArray[j]?).bind (·.dst)).isSome) = true) (hds : (os.drop k).all (fun o => match o.dst with | some d => ds.contains d | none => true) = true)
  (h : BLS P n os.toArray Q l w0 K lo al ef jy ca ta Os Gs (fun Lr => ∀ (Bf : Nat → Nat) (y : Value) (W' : World) (Ks : List (Nat × World)), W.heap.size ≤ W'.heap.size → (∀ q ∈ Ks, lo ≤ q.1) → St w0 (al.map (fun a => (Bf a, ca a (evE y), ta a)) ++ Os (evE y)) (Gs (evE y)) (Ks ++ K) W' →
   (∀ {O2 G2 K2 W2}, St w0 O2 G2 K2 W2 → (∀ q ∈ Ks, q ∈ K2) → SameX lo (XB (al.map (fun a => (Bf a, ca a (evE y), ta a)) ++ Os (evE y)) (Gs (evE y))) W' W2) →
   FinI (os.take k) (finL al ef jy lo (XB (al.map (fun a => (Bf a, ca a (evE y), ta a)) ++ Os (evE y)) (Gs (evE y))) Bf y 0 Lr.reverse) (dropF ds l) (fun l' W' => OpsF P n os.toArray Q (os.drop k) l' W') W') k [] 0) : CodeF P n (.region id os.toArray true) Q l W := by
 obtain ⟨Lr, h1, h2, hfin⟩ := bls_run ht k 0 [] rfl (fun j _ => by rfl) (fun i hi => by omega) h
 rw [Nat.zero_add] at h1 h2
 have hk' : k < os.length := Nat.lt_of_lt_of_le (Nat.lt_succ_self _) (Nat.le_of_ble_eq_true hk)
 have hal' : ∀ a ∈ al, a < k := fun a ha => Nat.lt_of_lt_of_le (Nat.lt_succ_self _) (Nat.le_of_ble_eq_true (List.all_eq_true.1 hal a ha))
 have hea' : ef ∉ al := fun h => by rw [List.contains_iff_mem.2 h] at hea; cases hea
 intro a ha
 refine wp_region_any hm (region_ghost (t0 := a.tmps) (d0 := a.defers) (V := VG al ef) (I := IG al ef jy lo ca ta Os Gs Lr.reverse) (G := GG w0 K lo ca ta Os Gs) (k := k) (by simpa using hk') htl (by rw [ha.size]; exact ht) (fun i hi => (h2 i hi).step a ha) ?_ _ ⟨none, []⟩ _ _ _ (by simp) (count_rep _) (fun j hj => by rw [Array.getD_eq_getD_getElem?, Array.getElem?_replicate] at hj; split at hj <;> simp at hj) (fun i _ => by rw [Array.getD_eq_getD_getElem?, Array.getElem?_replicate]; split <;> rfl) ⟨rfl, rfl, fun _ _ => rfl, ⟨by unfold OE; exact hS.drew, by rw [hlo]; exact Nat.le_refl _, (fun q hq => by cases hq)⟩, ⟨fun a _ => ?_, (fun q hq => by cases hq), List.Pairwise.nil, ?_⟩, fun i d _ hj => ?_⟩)
 ·intro s LB a' W' hR hdone hnot
  obtain ⟨hG, hG2, hG3⟩ := hR.glob
  obtain ⟨v1, v2, v3, v4⟩ := hR.cons
  obtain ⟨ev, bs⟩ := s
  have hall : ∀ x ∈ al, (x, bAt bs x) ∈ bs := fun x hx => bAt_mem ((v1 x hx).1 (hdone x (hal' x hx)))
  obtain ⟨y, hy⟩ : ∃ y, ev = evE y := by
   rcases hev with ⟨e1, e2⟩ | ⟨e1, e3, e2⟩
   ·have h3 : ev.isSome = true := v4.1 (hdone ef (Nat.lt_of_lt_of_le (Nat.lt_succ_self _) (Nat.le_of_ble_eq_true e1)))
    obtain ⟨y, hy⟩ := Option.isSome_iff_exists.1 h3
    exact ⟨y, by rw [hy, e2]⟩
   ·refine ⟨undef, ?_⟩
    rw [e2]
    have h3 := hnot ef (by have := Nat.le_of_ble_eq_true e1; omega)
    cases ev with
    | none => rfl
    | some v => have := v4.2 rfl; rw [h3] at this; cases this
  subst hy
  have hperm : bs.Perm (al.map (fun x => (x, bAt bs x))) := by
   refine (List.perm_ext_iff_of_nodup (v3.imp (fun h e => h (by rw [e]))) ?_).2 fun q => ?_
   ·refine List.Pairwise.map _ (fun x y (hxy : x ≠ y) => ?_) hnd
    intro e; exact hxy (congrArg Prod.fst e)
   ·constructor
    ·intro hq
     have h3 := hall q.1 (v2 q hq)
     have h4 := bAt_uniq v3 hq h3 rfl
     rw [h4]
     exact List.mem_map.2 ⟨q.1, v2 q hq, rfl⟩
    ·intro hq
     obtain ⟨x, hx, rfl⟩ := List.mem_map.1 hq
     exact hall x hx
  have hO : (OE ca ta Os ⟨evE y, bs⟩).Perm (al.map (fun a => (bAt bs a, ca a (evE y), ta a)) ++ Os (evE y)) := by
   unfold OE
   refine List.Perm.append_right _ ?_
   have := hperm.map (fun q : Nat × Nat => (q.2, ca q.1 (evE y), ta q.1))
   rw [List.map_map] at this
   exact this
  have hG' := hG.perm hO
  have hX : ∀ b, XB (OE ca ta Os ⟨evE y, bs⟩) (Gs (evE y)) b ↔ XB (al.map (fun a => (bAt bs a, ca a (evE y), ta a)) ++ Os (evE y)) (Gs (evE y)) b := fun b => by
   unfold XB
   constructor
   ·rintro (⟨p, hp, e⟩ | h); exact .inl ⟨p, hO.mem_iff.1 hp, e⟩; exact .inr h
   ·rintro (⟨p, hp, e⟩ | h); exact .inl ⟨p, hO.mem_iff.2 hp, e⟩; exact .inr h
  obtain ⟨Ks, c1, ⟨qw, c2, c3⟩, c4⟩ := cuts (((al.map (fun a => (bAt bs a, ca a (evE y), ta a)) ++ Os (evE y)).map (·.1)) ++ (Gs (evE y)).filterMap (fun g => g.v.ownBlock)) lo W'
  have hG4 := hG'.more Ks (fun q hq => ⟨(c1 q hq).2.1, fun p hp => (c1 q hq).2.2 p.1 (List.mem_append_left _ (List.mem_map.2 ⟨p, hp, rfl⟩)), fun g hg b hb => (c1 q hq).2.2 b (List.mem_append_right _ (List.mem_filterMap.2 ⟨g, hg, hb⟩))⟩)
  have hcov : ∀ {O2 G2 K2 W2}, St w0 O2 G2 K2 W2 → (∀ q ∈ Ks, q ∈ K2) → SameX lo (XB (al.map (fun a => (bAt bs a, ca a (evE y), ta a)) ++ Os (evE y)) (Gs (evE y))) W' W2 := fun {O2 G2 K2 W2} h2 hq => by
   refine ⟨⟨h2.below.os.trans hG.below.os.symm, h2.below.tape.trans hG.below.tape.symm, h2.below.output.trans hG.below.output.symm⟩, ?_, fun b b1 b2 b3 => ?_⟩
   ·have := (h2.kept qw (hq qw c2)).1.1; rw [c3] at this; exact this
   ·obtain ⟨q, q1, q2, q3⟩ := c4 b b1 b2 (fun hb => b3 (by
     rcases List.mem_append.1 hb with hb | hb
     ·obtain ⟨p, hp, rfl⟩ := List.mem_map.1 hb
      exact .inl ⟨p, hp, rfl⟩
     ·obtain ⟨g, hg, e⟩ := List.mem_filterMap.1 hb
      exact .inr ⟨g, hg, e⟩))
    exact ((h2.kept q (hq q q1)).1.2 b q2 q3).trans ((c1 q q1).2.1.2 b q2 q3).symm
  have htk : (os.take k).length = k := by simp; omega
  refine fin_hasS (os.take k) (finL al ef jy lo (XB (al.map (fun a => (bAt bs a, ca a (evE y), ta a)) ++ Os (evE y)) (Gs (evE y))) (bAt bs) y 0 Lr.reverse) (dropF ds l) (fun i d hi hd' => ?_) (fun i hi hd' => ?_) (hR.size.trans ha.size) (hR.defers.trans ha.defers) ?_ (fun l' h ha' => ?_) (hfin (bAt bs) y W' Ks (by rw [← hlo]; exact hG2) (fun q hq => (c1 q hq).1) hG4 hcov)
  ·have hik : i < k := by omega
   have hd2 : (os.toArray[i]?).bind (·.dst) = some d := by rw [List.getElem?_take, if_pos hik] at hd'; simpa using hd'
   obtain ⟨i1, i2, i3, i4⟩ := hR.done i d hd2 (hdone i hik)
   rw [atI_finL Lr.reverse 0 i (by simp; omega), Nat.add_zero]
   cases hc1 : al.contains i with
   | true =>
    rw [cond_true]
    obtain ⟨B, hB, e⟩ := i1 (List.contains_iff_mem.1 hc1)
    have := bAt_uniq v3 hB (hall i (List.contains_iff_mem.1 hc1)) rfl
    show _ = _
    rw [e, show B = bAt bs i from congrArg Prod.snd this]
   | false =>
    rw [cond_false]
    have hni : i ∉ al := fun hm' => by rw [List.contains_iff_mem.2 hm'] at hc1; cases hc1
    cases hc2 : Nat.beq i ef with
    | true =>
     rw [cond_true]
     have h5 := i2 (Nat.eq_of_beq_eq_true hc2)
     rcases hev with ⟨e1, e2⟩ | ⟨e1, e3, e2⟩
     ·rw [e2] at h5
      exact (Option.some.inj h5).symm
     ·rw [e2] at h5; cases h5
    | false =>
     rw [cond_false]
     have hne : i ≠ ef := fun e => by rw [e, Nat.beq_refl] at hc2; cases hc2
     have h6 : AwS lo (XB (al.map (fun a => (bAt bs a, ca a (evE y), ta a)) ++ Os (evE y)) (Gs (evE y))) (atI Lr.reverse i) (a'.tmps.getD d undef) W' := fun w2 hw2 => i4 hni hne w2 ⟨hw2.1, hw2.2.1, fun b b1 b2 b3 => hw2.2.2 b b1 b2 (fun hb => b3 ((hX b).2 hb))⟩
     cases hc3 : Nat.beq i jy with
     | true =>
      rw [cond_true]
      refine ⟨?_, h6⟩
      rcases hev with ⟨e1, e2⟩ | ⟨e1, e3, e2⟩
      ·exact i3 (Nat.eq_of_beq_eq_true hc3) y (by rw [e2])
      ·have := Nat.le_of_ble_eq_true e3
       have := Nat.eq_of_beq_eq_true hc3
       omega
     | false => rw [cond_false]; exact h6
  ·have hik : i < k := by omega
   have h3 := List.all_eq_true.1 hdst i (List.mem_range.2 hik)
   rw [Bool.or_eq_true] at h3
   have hd2 : (os.toArray[i]?).bind (·.dst) = none := by rw [List.getElem?_take, if_pos hik] at hd'; simpa using hd'
   rcases h3 with h3 | h3
   ·rw [atI_finL Lr.reverse 0 i (by simp; omega), Nat.add_zero]
    have hc1 : al.contains i = false := by rw [Nat.eq_of_beq_eq_true h3]; exact hea
    rw [hc1, cond_false, h3, cond_true]
    exact ⟨y, rfl⟩
   ·rw [hd2] at h3; cases h3
  ·intro t v hv hno
   have hl := look_dropF hv (look_dropF_not hv)
   have hnt := look_dropF_not hv
   rw [hR.frame t ?_]
   ·exact ha.at_ t v hl
   ·unfold freeT; rw [Array.all_eq_true']; intro o' ho'
    have ho2 : o' ∈ os := by simpa using ho'
    rw [← List.take_append_drop k os] at ho2
    rcases List.mem_append.1 ho2 with ho2 | ho2
    ·simpa using hno o' ho2
    ·have h5 := List.all_eq_true.1 hds o' ho2
     cases hx : o'.dst with
     | none => simp
     | some d =>
      rw [hx] at h5
      simp
      intro e; subst e
      exact hnt (List.contains_iff_mem.1 h5)
  ·have := h a' ha'
   simpa using this
 ·rw [Array.getD_eq_getD_getElem?, Array.getElem?_replicate]
  constructor
  ·intro h3; split at h3 <;> simp at h3
  ·rintro ⟨B, hB⟩; cases hB
 ·rw [Array.getD_eq_getD_getElem?, Array.getElem?_replicate]
  constructor
  ·intro h3; split at h3 <;> simp at h3
  ·intro h3; cases h3
 ·rw [Array.getD_eq_getD_getElem?, Array.getElem?_replicate] at hj
  split at hj <;> simp at hj
end
end Go.Proofs.YtfkbkekgnoanaaaDoor
namespace Go.Proofs.YtfkbkekgnoanaaaDoor
open Go Go.RowKit
section
variable {P : Program} {n : Nat} {Q : Exit → Act → World → Prop} {l : Fr} {w0 W : World} {ops : Array Oper} {os : List Oper} {K : List (Nat × World)} {L : List Asr} {i : Nat} {O : Own} {G : Grows}
variable {al : List Nat} {zc : Nat → List Value} {ta : Nat → TypeId} {lo ef jy : Nat} {d : Nat} {ty : TypeId} {pos : String} {aft_ : Array Edge} {v : Value}
def caNo (zc : Nat → List Value) (a : Nat) : Option Value → List Value := fun _ => zc a
def caSt (zc : Nat → List Value) (a0 a : Nat) : Option Value → List Value
 | none => zc a
 | some y => bif Nat.beq a a0 then splice (zc a) 0 y.cells.toList else zc a
theorem caSt_at (zc : Nat → List Value) (a0 : Nat) (y : Value) : caSt zc a0 a0 (some y) = splice (zc a0) 0 y.cells.toList := by
 show (bif Nat.beq a0 a0 then splice (zc a0) 0 y.cells.toList else zc a0) = _
 rw [Nat.beq_refl, cond_true]
theorem caSt_ne (zc : Nat → List Value) {a0 a : Nat} (y : Value) (h : Nat.beq a a0 = false) : caSt zc a0 a (some y) = zc a := by
 show (bif Nat.beq a a0 then splice (zc a) 0 y.cells.toList else zc a) = _
 rw [h, cond_false]
def osNo (O : Own) : Option Value → Own := fun _ => O
def gsNo (G : Grows) : Option Value → Grows := fun _ => G
def osSt (O : Own) (j jx B : Nat) (cs vs : List Value) (U : TypeId) : Option Value → Own
 | none => O
 | some _ => O.set j (B, splice cs jx vs, U)
theorem setMany_other {B b : Nat} (hb : b ≠ B) : ∀ (vs : List Value) (j : Nat) (w : World), (setMany w B j vs).heap[b]? = w.heap[b]?
 | [], _, _ => rfl
 | v :: vs, j, w => by unfold setMany; rw [setMany_other hb vs (j + 1)]; exact Below.heap_setCell _ _ _ _ hb
theorem setMany_rest : ∀ (vs : List Value) (B j : Nat) (w : World), ((setMany w B j vs).os = w.os ∧ (setMany w B j vs).tape = w.tape ∧ (setMany w B j vs).output = w.output) ∧ (setMany w B j vs).heap.size = w.heap.size
 | [], _, _, _ => ⟨⟨rfl, rfl, rfl⟩, rfl⟩
 | v :: vs, B, j, w => by
  unfold setMany
  obtain ⟨⟨h1, h2, h3⟩, h4⟩ := setMany_rest vs B (j + 1) (w.setCell ⟨B, j, none⟩ v)
  exact ⟨⟨h1, h2, h3⟩, h4.trans (by simp [World.setCell])⟩
theorem setMany_sameX {B j : Nat} {vs : List Value} {w : World} {X : Nat → Prop} (hX : X B) : SameX 0 X w (setMany w B j vs) :=
 ⟨(setMany_rest vs B j w).1, Nat.le_of_eq (setMany_rest vs B j w).2.symm, fun b _ _ hb => setMany_other (fun e => hb (by rw [e]; exact hX)) vs j w⟩
theorem storeAt_many {T : TypeId} {B j m : Nat} {vs cs : List Value} {U : TypeId} {w : World} {y : Value} (hsz : ∀ w, (sizeOf T).run P w = .ok m w) (hc : y.cells = vs.toArray) (hl : vs.length = m) (h1 : vs.all Value.oneCell' = true) (hB : w.heap[B]? = some (.cells cs.toArray U (0, 0))) (hj : j + m ≤ cs.length) :
  (Instr.storeAt T (.pointer (some ⟨B, j, none⟩)) y).run P w = .ok () (setMany w B j vs) := by
 subst hl
 have hst := run_storeMany (P := P) vs 0 j w cs hB (by omega) (fun u hu => List.all_eq_true.1 h1 u hu)
 rw [Nat.add_zero] at hst
 simp [Instr.storeAt, Instr.sureAddr, storeVar, hsz, hc, hst]
theorem wp_store {o : Oper} {a : Act} {w w' : World} {T : TypeId} {x y : Operand} {K' : Act → World → Prop} (hi : ops[i]? = some o) (ho : o.op = .store T x y) (hod : o.dst = none) (hog : o.guard = none) (hr : (Instr.storeAt T (a.eval x) (a.eval y)).run P w = .ok () w') (hK : K' a w') : wpOp P ops Q i K' a w := by
 unfold wpOp
 simp only [hi, wanted_free hog, if_true]
 refine .inl ?_
 obtain ⟨dst, op, ty, pos, aft, gd⟩ := o
 simp only at ho hod
 subst ho; subst hod
 unfold Oper.wp execOp
 simp only [Sem.run_bind, hr, Result.andThen_ok, Sem.run_pure, Oper.upon_skip]
 exact hK
theorem eff_stA {T : TypeId} {tx tyy m : Nat} {py : Asr} (a0 : Nat) (hal : al.contains ef = false) (hij : Nat.beq ef jy = false) (hi : ops[ef]? = some ⟨none, .store T (.tmp tx) (.tmp tyy), ty, pos, aft_, none⟩) (hjy : (ops[jy]?).bind (·.dst) = some tyy)
  (hwx : waitsFor ops ef a0 tx = true) (ha0 : al.contains a0 = true) (hwy : waitsFor ops ef jy tyy = true) (hja : al.contains jy = false) (hLy : atI L jy = py) (hsz : ∀ w, (sizeOf T).run P w = .ok m w) (hzl : Nat.ble m (zc a0).length = true) (hpy : ∀ v w, py v w → ∃ vs : List Value, v.cells = vs.toArray ∧ vs.length = m ∧ vs.all Value.oneCell' = true) : SG P n ops Q l w0 K lo al ef jy (caSt zc a0) ta (osNo O) (gsNo G) L ef :=
 sg_eff hal hij hi fun t0 a bs w h0 hF hG hbs hD => by
  obtain ⟨B, hB, ex⟩ := (hD a0 tx hwx).1 (List.contains_iff_mem.1 ha0)
  have hy := ((hD jy tyy hwy).2.2.2 (fun h => by rw [List.contains_iff_mem.2 h] at hja; cases hja) (fun e => by rw [e, Nat.beq_refl] at hij; cases hij)).here
  rw [hLy] at hy
  obtain ⟨vs, hc, hl, h1⟩ := hpy _ _ hy
  obtain ⟨k, hk⟩ := List.getElem?_of_mem hB
  have hkl := (List.getElem?_eq_some_iff.1 hk).1
  have hOk : (OE (caSt zc a0) ta (osNo O) ⟨none, bs⟩)[k]? = some (B, zc a0, ta a0) := by
   unfold OE
   rw [List.getElem?_append_left (by simpa using hkl), List.getElem?_map, hk]
   rfl
  have hXB : XB (OE (caSt zc a0) ta (osNo O) ⟨none, bs⟩) (gsNo G none) B := .inl ⟨_, List.mem_of_getElem? hOk, rfl⟩
  have hrun := storeAt_many (P := P) hsz hc hl h1 (hG.1.at_ k hOk) (j := 0) (by have := Nat.le_of_ble_eq_true hzl; omega)
  have hO' : OE (caSt zc a0) ta (osNo O) ⟨some (a.eval (.tmp tyy)), bs⟩ = (OE (caSt zc a0) ta (osNo O) ⟨none, bs⟩).set k (B, splice (zc a0) 0 vs, ta a0) := by
   unfold OE
   rw [List.set_append_left _ _ (by simpa using hkl)]
   congr 1
   apply List.ext_getElem?
   intro j
   rw [List.getElem?_set, List.getElem?_map, List.getElem?_map]
   by_cases hj : k = j
   ·subst hj
    rw [if_pos rfl, hk, if_pos (by simpa using hkl)]
    show some (B, caSt zc a0 a0 (some (a.eval (.tmp tyy))), ta a0) = _
    rw [caSt_at, hc]
   ·rw [if_neg hj]
    cases hq : bs[j]? with
    | none => rfl
    | some q =>
     have hne : q.1 ≠ a0 := fun e => by
      have hjl := (List.getElem?_eq_some_iff.1 hq).1
      have e1 := (List.getElem?_eq_some_iff.1 hq).2
      have e2 := (List.getElem?_eq_some_iff.1 hk).2
      have hp := List.pairwise_iff_getElem.1 hbs
      rcases Nat.lt_or_ge j k with h | h
      ·have := hp j k hjl hkl h; rw [e1, e2] at this; exact this e
      ·have := hp k j hkl hjl (by omega); rw [e1, e2] at this; exact this e.symm
     have hb : Nat.beq q.1 a0 = false := by
      cases hb : Nat.beq q.1 a0 with
      | true => exact absurd (Nat.eq_of_beq_eq_true hb) hne
      | false => rfl
     show some (q.2, caSt zc a0 q.1 (some (a.eval (.tmp tyy))), ta q.1) = some (q.2, caSt zc a0 q.1 none, ta q.1)
     rw [caSt_ne _ _ hb]
     rfl
  refine wp_store hi rfl rfl rfl (by rw [ex]; exact hrun) ⟨undef, a.eval (.tmp tyy), rfl, (fun d hd => by cases hd), ?_, setMany_sameX hXB, ?_, fun d hd => ?_⟩
  ·rw [hO']
   exact hG.1.setMany k vs 0 hOk
  ·rintro b (⟨p, hp, rfl⟩ | h)
   ·rw [hO'] at hp
    rcases List.mem_or_eq_of_mem_set hp with hp | rfl
    ·exact .inl (.inl ⟨p, hp, rfl⟩)
    ·exact .inl hXB
   ·exact .inl (.inr h)
  ·rw [hjy] at hd; cases hd; rfl
theorem eff_stO {T U : TypeId} {x y : Operand} {B m : Nat} {cs vs : List Value} (j jx : Nat) (li : Fr) (hal : al.contains ef = false) (hij : Nat.beq ef jy = false) (hi : ops[ef]? = some ⟨none, .store T x y, ty, pos, aft_, none⟩) (hjn : (ops[jy]?).isNone = true) (hNo : NoAsr al ef L) (hli : AllO n ops l L ef li) (hx : evL li x = some (.pointer (some ⟨B, jx, none⟩))) (hy : evL li y = some v)
  (hO : O[j]? = some (B, cs, U)) (hsz : ∀ w, (sizeOf T).run P w = .ok m w) (hc : v.cells = vs.toArray) (hl : vs.length = m) (h1 : vs.all Value.oneCell' = true) (hjm : Nat.ble (jx + m) cs.length = true) : SG P n ops Q l w0 K lo al ef jy (caNo zc) ta (osSt O j jx B cs vs U) (gsNo G) L ef :=
 sg_eff hal hij hi fun t0 a bs w h0 hF hG hbs hD => by
  have hD' := deps_has h0 hF hD (fun j d _ hj => hNo j hj)
  have ex := allO_has h0 hF hD' hli x _ hx
  have ey := allO_has h0 hF hD' hli y _ hy
  have hOk : (OE (caNo zc) ta (osSt O j jx B cs vs U) ⟨none, bs⟩)[bs.length + j]? = some (B, cs, U) := by
   unfold OE
   rw [List.getElem?_append_right (by simp)]
   simpa [osSt] using hO
  have hXB : XB (OE (caNo zc) ta (osSt O j jx B cs vs U) ⟨none, bs⟩) (gsNo G none) B := .inl ⟨_, List.mem_of_getElem? hOk, rfl⟩
  have hrun := storeAt_many (P := P) hsz hc hl h1 (hG.1.at_ _ hOk) (j := jx) (Nat.le_of_ble_eq_true hjm)
  have hO' : OE (caNo zc) ta (osSt O j jx B cs vs U) ⟨some undef, bs⟩ = (OE (caNo zc) ta (osSt O j jx B cs vs U) ⟨none, bs⟩).set (bs.length + j) (B, splice cs jx vs, U) := by
   unfold OE
   rw [List.set_append_right _ _ (by simp)]
   congr 1
   simp [osSt]
  refine wp_store hi rfl rfl rfl (by rw [ex, ey]; exact hrun) ⟨undef, undef, rfl, (fun d hd => by cases hd), ?_, setMany_sameX hXB, ?_, fun d hd => ?_⟩
  ·rw [hO']
   exact hG.1.setMany _ vs jx hOk
  ·rintro b (⟨p, hp, rfl⟩ | h)
   ·rw [hO'] at hp
    rcases List.mem_or_eq_of_mem_set hp with hp | rfl
    ·exact .inl (.inl ⟨p, hp, rfl⟩)
    ·exact .inl hXB
   ·exact .inl (.inr h)
  ·cases hjy : ops[jy]? with
   | none => rw [hjy] at hd; cases hd
   | some o => rw [hjy] at hjn; cases hjn
end
end Go.Proofs.YtfkbkekgnoanaaaDoor
namespace Go.Proofs.YtfkbkekgnoanaaaDoor
open Go Go.RowKit
theorem ownsRow_sl {w : World} {base size n : Nat} {e : TypeId} {v : Value} {xs : List Value} (h : w.ownsRow base e size v n xs) : ∃ a c, v = .slice a n c ∧ n ≤ c := by
 rcases h.2 with ⟨rfl, rfl⟩ | ⟨g, cap, cur, rfl, _, _, hn, _⟩
 ·exact ⟨none, 0, rfl, Nat.le_refl _⟩
 ·exact ⟨_, cap, rfl, hn⟩
theorem ownsRow_at {w : World} {base size n : Nat} {e : TypeId} {v : Value} {xs : List Value} (h : w.ownsRow base e size v n xs) (hn : 0 < n) : ∃ b c, v = .slice (some ⟨b, 0, none⟩) n c ∧ base ≤ b := by
 rcases h.2 with ⟨rfl, rfl⟩ | ⟨g, cap, cur, rfl, hb, _, _, _⟩
 ·omega
 ·exact ⟨_, cap, rfl, hb⟩
theorem ownsRow_base {w : World} {base base' size n : Nat} {e : TypeId} {v : Value} {xs : List Value} (h : w.ownsRow base e size v n xs) (hb : base' ≤ base) : w.ownsRow base' e size v n xs :=
 ⟨h.1, h.2.imp id fun ⟨g, cap, cur, e, hg, k⟩ => ⟨g, cap, cur, e, Nat.le_trans hb hg, k⟩⟩
theorem ownsRow_agree {w W : World} {lo size n : Nat} {e : TypeId} {v : Value} {xs : List Value} (h : w.ownsRow lo e size v n xs) (hg : Agree lo w W) : W.ownsRow lo e size v n xs := by
 refine ⟨h.1, ?_⟩
 rcases h.2 with h2 | ⟨g, cap, cur, rfl, hb, hh, k⟩
 ·exact .inl h2
 ·exact .inr ⟨g, cap, cur, rfl, hb, (hg.2 g hb (lt_of_heap hh)).trans hh, k⟩
theorem ownsRow_cells {w : World} {base size n : Nat} {e : TypeId} {a : Option Addr} {c : Nat} {xs : List Value} (h : w.ownsRow base e size (.slice a n c) n xs) : (a = none ∧ n = 0) ∨ ∃ b, a = some ⟨b, 0, none⟩ ∧ base ≤ b ∧ ∀ (j : Nat) u, xs[j]? = some u → w.cell? ⟨b, j, none⟩ = some u := by
 rcases h.2 with ⟨e1, e2⟩ | ⟨g, cap, cur, e1, hb, hh, hn, hm, hs, ht⟩
 ·cases e1; exact .inl ⟨rfl, e2⟩
 ·cases e1
  refine .inr ⟨g, rfl, hb, fun j u hj => ?_⟩
  rw [← ht, List.getElem?_take] at hj
  split at hj
  ·simp only [World.cell?, hh]
   simpa using hj
  ·cases hj
theorem castL {os : List Oper} {L L' : List Asr} {l : Fr} {K : Fr → World → Prop} {W : World} (h : L = L') (k : FinI os L' l K W) : FinI os L l K W := h ▸ k
theorem fin_sV {os : List Oper} {L : List Asr} {l : Fr} {W : World} {lo : Nat} {X : Nat → Prop} {c : Value} {K : Fr → World → Prop} {dst : Nat} {op : Op} {ty : TypeId} {pos : String} {aft : Array Edge} {g : Option (Nat × Bool)} (h : FinI os L ((dst, c) :: l) K W) : FinI (⟨some dst, op, ty, pos, aft, g⟩ :: os) (AwS lo X (isV c) :: L) l K W := fun v hv => by
 have : v = c := hv.here
 subst this; exact h
theorem fin_0 {os : List Oper} {L : List Asr} {l : Fr} {W : World} {p : Asr} {K : Fr → World → Prop} {op : Op} {ty : TypeId} {pos : String} {aft : Array Edge} {g : Option (Nat × Bool)} (h : FinI os L l K W) : FinI (⟨none, op, ty, pos, aft, g⟩ :: os) (p :: L) l K W := fun _ _ => h
theorem osSt_at {O : Own} {i j jx B : Nat} {cs vs : List Value} {U : TypeId} {ev : Option Value} {q : Nat × List Value × TypeId} (h : O[i]? = some q) (hij : Nat.beq i j = false) : (osSt O j jx B cs vs U ev)[i]? = some q := by
 cases ev with
 | none => exact h
 | some y =>
  have : j ≠ i := fun e => by rw [e, Nat.beq_refl] at hij; cases hij
  show (O.set j _)[i]? = _
  rw [List.getElem?_set, if_neg this]; exact h
section
variable {w0 W : World} {O : Own} {G : Grows} {K : List (Nat × World)}
theorem St.castO {O' : Own} (h : St w0 O G K W) (e : O = O') : St w0 O' G K W := e ▸ h
theorem St.castG {G' : Grows} (h : St w0 O G K W) (e : G = G') : St w0 O G' K W := e ▸ h
def Held (w0 : World) (Kk : List (Nat × World)) (p : World → Prop) : Prop := ∀ {O2 : Own} {G2 : Grows} {K2 : List (Nat × World)} {W2 : World}, St w0 O2 G2 K2 W2 → (∀ q ∈ Kk, q ∈ K2) → p W2
theorem Held.now {p : World → Prop} (h : Held w0 K p) (hS : St w0 O G K W) : p W := h hS (fun q hq => hq)
theorem Held.one {p : World → Prop} {lo : Nat} {A : World} (h : ∀ W2, Agree lo A W2 → p W2) : Held w0 [(lo, A)] p := fun h2 hk => h _ (h2.kept (lo, A) (hk _ List.mem_cons_self)).1
theorem St.adopt {W' : World} {e : TypeId} {size n : Nat} {v : Value} {xs : List Value} (h : St w0 O G K W) (hb : Below W.heap.size W W') (hr : W'.ownsRow W.heap.size e size v n xs) : St w0 O (⟨v, n, xs, e, size⟩ :: G) K W' := by
 have h' := h.grow hb
 have hge : ∀ b, v.ownBlock = some b → W.heap.size ≤ b := fun b e1 => by
  rcases hr.2 with ⟨rfl, _⟩ | ⟨g, cap, cur, rfl, h3, _⟩
  ·cases e1
  ·cases e1; exact h3
 refine ⟨h'.below, h'.own, h'.dist, h'.kept, fun g hg => ?_, List.Pairwise.cons (fun q hq b e1 e2 => ?_) h'.gdist⟩
 ·rcases List.mem_cons.1 hg with rfl | hg
  ·refine ⟨ownsRow_base hr h.below.size, fun b e1 => ⟨fun p hp e2 => ?_, fun q hq => .inr ?_⟩⟩
   ·have := lt_of_heap (h.own p hp).2; have := hge b e1; omega
   ·have := (h.kept q hq).1.1; have := hge b e1; omega
  ·exact h'.rows g hg
 ·have h3 := (h.glt hq e2).2
  have := hge b e1; omega
theorem St.cut (h : St w0 O G K W) (i : Nat) {b c nn k : Nat} {xs : List Value} {e : TypeId} {size : Nat} (hi : G[i]? = some ⟨.slice (some ⟨b, 0, none⟩) nn c, nn, xs, e, size⟩) (hk : k ≤ nn) : St w0 O (G.set i ⟨.slice (some ⟨b, 0, none⟩) k c, k, xs.take (k * size), e, size⟩) K W := by
 have hg := List.mem_of_getElem? hi
 have hrow := (h.rows _ hg).1
 refine h.setG i hi (v' := .slice (some ⟨b, 0, none⟩) k c) ?_ ⟨rfl, rfl, rfl, Nat.le_refl _, fun _ _ _ => rfl⟩ (.inl rfl)
 refine ⟨?_, ?_⟩
 ·have h2 : k * size ≤ nn * size := Nat.mul_le_mul_right _ hk
  have := hrow.1
  dsimp only at this ⊢; rw [List.length_take, this, Nat.min_eq_left h2]
 ·rcases hrow.2 with ⟨e1, _⟩ | ⟨g, cap, cur, e1, hg, hh, hn, hm, hs, ht⟩
  ·cases e1
  ·cases e1
   refine .inr ⟨b, c, cur, rfl, hg, hh, by dsimp only at hn; omega, hm, hs, ?_⟩
   have h2 : k * size ≤ nn * size := Nat.mul_le_mul_right _ hk
   dsimp only at ht ⊢
   rw [← ht, List.take_take, Nat.min_eq_left h2]
theorem St.turned (h : St w0 O G K W) (i : Nat) {b c nn q : Nat} {zs : List Int} {e : TypeId} (hi : G[i]? = some ⟨.slice (some ⟨b, 0, none⟩) nn c, nn, zs.map (Value.int .i64), e, 1⟩) : St w0 O (G.set i ⟨.slice (some ⟨b, 0, none⟩) nn c, nn, zs.reverse.map (Value.int .i64), e, 1⟩) K (Go.Sort.putRow (Value.int .i64) (Go.Sort.ahead W q) b 0 zs.reverse.toArray) := by
 have hg := List.mem_of_getElem? hi
 have hrow := (h.rows _ hg).1
 have hl : zs.length = nn := by have := hrow.1; simpa using this
 refine h.setG i hi (v' := .slice (some ⟨b, 0, none⟩) nn c) ?_ ⟨rfl, rfl, rfl, by simp [Go.Sort.putRow, Go.Sort.mapBlock, Go.Sort.ahead], fun k hk hne => ?_⟩ (.inl rfl)
 ·have := Go.Lib.ownsRow_putRow (q := q) hrow (ys := zs.reverse) (by simpa using hl) (Nat.le_refl _)
  rwa [List.take_of_length_le (by simp; omega)] at this
 ·have hne' : b ≠ k := fun e => hne (by rw [e]; rfl)
  simp [Go.Sort.putRow, Go.Sort.mapBlock, Go.Sort.ahead, Array.getElem?_modify, hne']
end
section
variable {P : Program} {n : Nat} {ops : Array Oper} {Q : Exit → Act → World → Prop} {l : Fr} {w0 W : World} {O : Own} {G : Grows} {K : List (Nat × World)} {os : List Oper} {d : Nat} {ty : TypeId} {pos : String} {aft : Array Edge}
theorem resCCTT {fn : Func} {r1 r2 t u : Nat} {T1 T2 : TypeId} {B1 B2 o1 o2 : Nat} {vs us : List Value} {x y : Value} (hf : fn.results = #[.cell r1 T1, .cell r2 T2, .tmp t, .tmp u]) (hT1 : ∀ w, (isAgg T1).run P w = .ok true w) (hS1 : ∀ w, (sizeOf T1).run P w = .ok vs.length w) (hl1 : look l r1 = some (.pointer (some ⟨B1, o1, none⟩))) (hc1 : CellsAt W B1 o1 vs)
  (hT2 : ∀ w, (isAgg T2).run P w = .ok true w) (hS2 : ∀ w, (sizeOf T2).run P w = .ok us.length w) (hl2 : look l r2 = some (.pointer (some ⟨B2, o2, none⟩))) (hc2 : CellsAt W B2 o2 us) (hx : look l t = some x) (hy : look l u = some y) :
  ∀ a, Has n l a → (results fn a.tmps).run P W = .ok (.tuple #[.agg vs.toArray, .agg us.toArray, x, y]) W := fun a ha => by
 have h1 := run_loadCells_list (P := P) W ⟨B1, o1, none⟩ vs (fun j u hj => by rw [Addr.add_lit]; exact hc1.get j u hj)
 have h1' := run_loadCells_list (P := P) W ⟨B2, o2, none⟩ us (fun j u hj => by rw [Addr.add_lit]; exact hc2.get j u hj)
 have h2 := ha.at_ r1 _ hl1
 have h2' := ha.at_ r2 _ hl2
 have h3 := ha.at_ t _ hx
 have h4 := ha.at_ u _ hy
 rw [Array.getD_eq_getD_getElem?] at h2 h2' h3 h4
 simp [results, hf, h2, h2', h3, h4, asAddr, loadVar, hT1, hS1, hT2, hS2, h1, h1']
theorem op_callX {f : FuncId} {args : Array Operand} {ts : Array TypeId} {vs : List Value} {R : Ending → World → Prop} (hgo : goesIn P f = true) (ha : args.toList.map (evL l) = vs.map some) (hc : Calls P f vs.toArray W R)
  (hd : Nat.blt d n = true)
  (h : ∀ e W', R e W' → ∃ v, e = .returned v ∧ OpsF P n ops Q os ((d, v) :: l) W') : OpsF P n ops Q (⟨some d, .call { callee := .value (.func f), args := args, argTypes := ts }, ty, pos, aft, none⟩ :: os) l W := fun a hl => by
 refine wpList_plain rfl fun K' hK => ?_
 unfold Oper.wp
 rw [run_call P a.eval W f args ts _ rfl rfl hgo, Oper.upon_enter]
 have hargs : args.map a.eval = vs.toArray := by
  have key : ∀ (xs : List Operand) (us : List Value), xs.map (evL l) = us.map some → xs.map a.eval = us := by
   intro xs
   induction xs with
   | nil => intro us h; cases us <;> simp at h ⊢
   | cons x xs ih =>
    intro us h
    cases us with
    | nil => simp at h
    | cons u us =>
     simp only [List.map_cons, List.cons.injEq] at h
     simp only [List.map_cons, hl.ev x u h.1, ih us h.2]
  apply Array.ext'
  rw [Array.toList_map, key _ _ ha]
 rw [hargs]
 refine hc.mono ?_
 intro e W' hRe
 obtain ⟨v, rfl, hn⟩ := h e W' hRe
 exact hK _ _ (hn _ (hl.put hd))
theorem op_callG {f : FuncId} {args : Array Operand} {ts : Array TypeId} {vs : List Value} {R : Ending → World → Prop} {e1 : TypeId} {size m : Nat} {xs : List Value} (hS : St w0 O G K W) (hgo : goesIn P f = true) (ha : args.toList.map (evL l) = vs.map some) (hc : Calls P f vs.toArray W R)
  (hd : Nat.blt d n = true) (hR : ∀ e W', R e W' → ∃ v, e = .returned v ∧ Below W.heap.size W W' ∧ W'.ownsRow W.heap.size e1 size v m xs)
  (h : ∀ v W', St w0 O (⟨v, m, xs, e1, size⟩ :: G) K W' → OpsF P n ops Q os ((d, v) :: l) W') : OpsF P n ops Q (⟨some d, .call { callee := .value (.func f), args := args, argTypes := ts }, ty, pos, aft, none⟩ :: os) l W :=
 op_callX hgo ha hc hd fun e W' hRe => by
  obtain ⟨v, h1, h2, h3⟩ := hR e W' hRe
  exact ⟨v, h1, h v W' (hS.adopt h2 h3)⟩
theorem op_rev {f : FuncId} {x : Operand} {ts : Array TypeId} {v : Value} {nn : Nat} {zs : List Int} {e1 : TypeId} (hS : St w0 O G K W) (i : Nat) (hgo : goesIn P f = true) (hx : evL l x = some v) (hi : G[i]? = some ⟨v, nn, zs.map (Value.int .i64), e1, 1⟩)
  (hc : ∀ (blk off cap : Nat) (zs : List Int) (w : World), Go.Sort.Holds (Value.int .i64) w blk off zs.toArray → zs.length ≤ 9223372036854775807 → Calls P f #[.slice (some ⟨blk, off, none⟩) zs.length cap] w fun e w' => e = .returned (.tuple #[]) ∧ ∃ n, w' = Go.Sort.putRow (Value.int .i64) (Go.Sort.ahead w n) blk off zs.reverse.toArray)
  (hc0 : ∀ (a : Option Addr) (cap : Nat) (w : World), Calls P f #[.slice a 0 cap] w fun e w' => e = .returned (.tuple #[]) ∧ w' = w)
  (hd : Nat.blt d n = true) (h : ∀ W', St w0 O (G.set i ⟨v, nn, zs.reverse.map (Value.int .i64), e1, 1⟩) K W' → OpsF P n ops Q os ((d, .tuple #[]) :: l) W') : OpsF P n ops Q (⟨some d, .call { callee := .value (.func f), args := #[x], argTypes := ts }, ty, pos, aft, none⟩ :: os) l W := by
 have hrow : W.ownsRow w0.heap.size e1 1 v nn (zs.map (Value.int .i64)) := hS.row i hi
 have hl : zs.length = nn := by have := hrow.1; simpa using this
 by_cases hv : v = .slice none 0 0
 ·subst hv
  have hn : nn = 0 := by
   rcases hrow.2 with ⟨_, h0⟩ | ⟨g, cap, cur, e0, _⟩
   ·exact h0
   ·cases e0
  subst hn
  have hz : zs = [] := List.eq_nil_of_length_eq_zero hl
  subst hz
  refine op_callX (vs := [.slice none 0 0]) hgo (by simp [hx]) (hc0 none 0 W) hd ?_
  rintro e W' ⟨rfl, rfl⟩
  refine ⟨_, rfl, h W' ?_⟩
  rw [List.reverse_nil]
  have e2 : G.set i ⟨.slice none 0 0, 0, ([] : List Int).map (Value.int .i64), e1, 1⟩ = G := by
   apply List.ext_getElem?
   intro j
   rw [List.getElem?_set]
   by_cases hj : i = j
   ·subst hj; rw [if_pos rfl, hi]; split <;> first | rfl | skip
    rename_i hlt; exact absurd (List.getElem?_eq_some_iff.1 hi).1 hlt
   ·rw [if_neg hj]
  rw [e2]; exact hS
 ·obtain ⟨g, cap, rfl, h1, h2, h3, h4, h5, hH⟩ := Go.Lib.holds_of_ownsRow hrow hv
  subst h5
  refine op_callX (vs := [.slice (some ⟨g, 0, none⟩) zs.length cap]) hgo (by simp [hx]) (hc g 0 cap zs W hH (by simp only [maxLen] at h4; omega)) hd ?_
  rintro e W' ⟨rfl, q, rfl⟩
  exact ⟨_, rfl, h _ (hS.turned i hi)⟩
theorem op_cut {T e : TypeId} {x y : Operand} {kk : IntKind} {k : Nat} {j : Int} {b c nn s : Nat} {xs : List Value} (hS : St w0 O G K W) (i : Nat) (hU : P.underlying T = some (.slice e)) (hs : ∀ w, (sizeOf e).run P w = .ok s w) (hi : G[i]? = some ⟨.slice (some ⟨b, 0, none⟩) nn c, nn, xs, e, s⟩) (hx : evL l x = some (.slice (some ⟨b, 0, none⟩) nn c)) (hy : evL l y = some (.int kk j)) (hj : j = (k : Int)) (hk : k ≤ nn) (hd : Nat.blt d n = true)
  (h : St w0 O (G.set i ⟨.slice (some ⟨b, 0, none⟩) k c, k, xs.take (k * s), e, s⟩) K W → OpsF P n ops Q os ((d, .slice (some ⟨b, 0, none⟩) k c) :: l) W) : OpsF P n ops Q (⟨some d, .slice T x none (some y) none, ty, pos, aft, none⟩ :: os) l W :=
 opV (v := .slice (some ⟨b, 0, none⟩) k c) (fun ev he => by
  subst hj
  have hc : nn ≤ c := by
   rcases (hS.row i hi).2 with ⟨e1, _⟩ | ⟨g, cap, cur, e1, _, _, hn, _⟩
   ·cases e1
   ·cases e1; exact hn
  have h1 : (0 : Int) ≤ (k : Int) := by omega
  have h2 : (k : Int) ≤ (c : Int) := by omega
  have h3 : k ≤ c := by omega
  unfold execOp; simp only [Option.map_some, Option.map_none]; rw [he x _ hx, he y _ hy]
  simp [Instr.sliceAt, Instr.slice, Instr.sliceBounds, Instr.sliceBound, run_underlying hU, asIntOf, h3, hs]
  intro _; rfl) hd (h (hS.cut i hi hk))
theorem run_append_noneC {w : World} (base : Nat) (t ty e : TypeId) (i : TypeInfo) (size : Nat) (ht : P.underlying t = some (.slice e)) (hi : P.info? e = some i)
  (v : Value) (n : Nat) (xs : List Value) (c : Nat) (hown : w.ownsRow base e size v n xs) :
  (Builtin.append_ #[t, t] ty #[v, .slice none 0 c]).run P w = .ok v w := by
 rcases hown.2 with ⟨rfl, rfl⟩ | ⟨g, cap, cur, rfl, _, _, hnc, _⟩
 ·simp [Builtin.append_, run_underlying ht, sizeOf, typeInfo, hi, Builtin.lenOf, Builtin.firstCells]
 ·simp [Builtin.append_, run_underlying ht, sizeOf, typeInfo, hi, Builtin.lenOf, Builtin.firstCells, hnc, storeCells]
end
end Go.Proofs.YtfkbkekgnoanaaaDoor
namespace Go.Proofs.YtfkbkekgnoanaaaDoor
open Go Go.RowKit
def RowN (lo : Nat) (W : World) (a : Option Addr) (c : Nat) (xs : List Int) : Prop := W.ownsRow lo 3 1 (.slice a xs.length c) xs.length (xs.map (Value.int .i64))
theorem RowN.row {lo : Nat} {W : World} {a : Option Addr} {c : Nat} {xs : List Int} (h : RowN lo W a c xs) : Row W a xs := by
 rcases ownsRow_cells h with ⟨_, h2⟩ | ⟨b, h1, _, h3⟩
 ·exact .inl (List.eq_nil_of_length_eq_zero h2)
 ·refine .inr ⟨b, 0, h1, fun i hi => ?_⟩
  rw [Nat.zero_add]
  exact h3 i _ (by rw [List.getElem?_map, List.getElem?_eq_getElem hi]; simp [List.getD, List.getElem?_eq_getElem hi])
theorem RowN.cap {lo : Nat} {W : World} {a : Option Addr} {c : Nat} {xs : List Int} (h : RowN lo W a c xs) : xs.length ≤ c := by
 obtain ⟨a', c', e, h2⟩ := ownsRow_sl h
 cases e; exact h2
theorem RowN.mono {lo lo' : Nat} {W : World} {a : Option Addr} {c : Nat} {xs : List Int} (h : RowN lo W a c xs) (hl : lo' ≤ lo) : RowN lo' W a c xs := ownsRow_base h hl
theorem RowN.agree {lo : Nat} {A W : World} {a : Option Addr} {c : Nat} {xs : List Int} (h : RowN lo A a c xs) (hg : Agree lo A W) : RowN lo W a c xs := ownsRow_agree h hg
theorem ints_one (xs : List Int) : ∀ u ∈ xs.map (Value.int .i64), u.oneCell' = true := fun u hu => by
 obtain ⟨z, _, rfl⟩ := List.mem_map.1 hu
 rfl
theorem Row.app {W : World} {a : Option Addr} {ws : List Int} {m : Nat} (h : Row W a ws) (hl : ws.length = m) : (a = none ∧ m = 0) ∨ ∃ p, a = some p ∧ ∀ (j : Nat) u, (ws.map (Value.int .i64))[j]? = some u → W.cell? (p.add j) = some u := by
 rcases h with rfl | ⟨b, off, rfl, hc⟩
 ·cases a with
  | none => exact .inl ⟨rfl, hl.symm⟩
  | some p => exact .inr ⟨p, rfl, fun j u hj => by simp at hj⟩
 ·refine .inr ⟨_, rfl, fun j u hj => ?_⟩
  rw [List.getElem?_map] at hj
  cases hz : ws[j]? with
  | none => rw [hz] at hj; cases hj
  | some z =>
   rw [hz] at hj; cases hj
   have hj' := (List.getElem?_eq_some_iff.1 hz).1
   have := hc j hj'
   rw [Addr.add_lit, this]
   simp [List.getD, hz]
def isConfN (lo : Nat) (p : Int) (xs : List Int) : Asr := fun v w => ∃ a c, v = .agg #[.int .i64 p, .slice a xs.length c] ∧ RowN lo w a c xs
end Go.Proofs.YtfkbkekgnoanaaaDoor
namespace Go.Proofs.YtfkbkekgnoanaaaDoor
open Go Go.RowKit
theorem okW_plain {f : SF} {ps : List SV} {x : WV} (hp : plainB f.tag f.dim f.len = true) (ho : okW (.mk f ps) x = true) : pwOk f.tag f.dim x.f = true := by
 have h : (if plainB f.tag f.dim f.len = true then pwOk f.tag f.dim x.f else (match (generalizing := false) ps with | [p, q] => pairOk p q x.f x.ps | _ => false)) = true := ho
 rw [if_pos hp] at h
 exact h
theorem space_of {w : World} {d : Nat} {s : SV} (hs : SIn w d s) (hse : spaceE s = 0) : ∃ S : PS, S.ok ∧ SIs w S s.f ∧ ∀ (x : WV) (e : Nat), WIn w e x → okW s x = true → ∃ y, XIs w S x.f y := by
 match d, s, hs with
 | d + 1, .mk f ps, hs =>
  by_cases hp : plainB f.tag f.dim f.len = true
  ·obtain ⟨t, n, a, l, c⟩ := f
   dsimp only at hp
   obtain rfl : l = 0 := (plainB_tag hp).1
   refine ⟨.one t n, hp, ⟨a, c, rfl⟩, fun x e hx ho => ?_⟩
   match e, x, hx, ho with
   | e + 1, .mk g qs, hx, ho =>
    exact ⟨.one g.pf, PIs.of hp hx.1 (okW_plain (f := ⟨t, n, a, 0, c⟩) hp ho)⟩
  ·have hse' : (if plainB f.tag f.dim f.len = true then (0 : Int) else if f.tag = 5 ∧ f.dim = 0 ∧ ps.length = 2 ∧ ps.all SV.pl = true then 0 else 50) = 0 := hse
   rw [if_neg hp] at hse'
   split at hse'
   ·rename_i hq
    obtain ⟨h5, h0, h2, hall⟩ := hq
    obtain ⟨t, n, a, l, c⟩ := f
    dsimp only at h5 h0 hp
    subst h5; subst h0
    obtain ⟨p, q, rfl⟩ := two_of h2
    have hl : 2 = l := hs.1
    subst hl
    simp only [List.all_cons, List.all_nil, Bool.and_true, Bool.and_eq_true] at hall
    obtain ⟨_, b, off, ha, _, hp3, hq3, _, _⟩ := hs.two
    dsimp only at ha
    subst ha
    obtain ⟨⟨pt, pn, pa, pl, pc⟩, pps⟩ := p
    obtain ⟨⟨qt, qn, qa, ql, qc⟩, qps⟩ := q
    have e1 : plainB pt pn pl = true := hall.1
    have e2 : plainB qt qn ql = true := hall.2
    obtain rfl : pl = 0 := (plainB_tag e1).1
    obtain rfl : ql = 0 := (plainB_tag e2).1
    refine ⟨.two pt pn qt qn, ⟨e1, e2⟩, ⟨b, off, c, pa, pc, qa, qc, rfl, hp3, hq3⟩, fun x e hx ho => ?_⟩
    match e, x, hx, ho with
    | e + 1, .mk g qs, hx, ho =>
     have ho' : (if plainB 5 0 2 = true then pwOk 5 0 g else pairOk (.mk ⟨pt, pn, pa, 0, pc⟩ pps) (.mk ⟨qt, qn, qa, 0, qc⟩ qps) g qs) = true := ho
     rw [if_neg (show ¬ plainB 5 0 2 = true from hp)] at ho'
     unfold pairOk at ho'
     simp only [Bool.and_eq_true, Bool.not_eq_true', decide_eq_true_eq] at ho'
     obtain ⟨hbare, hz, h2q, o1, o2⟩ := ho'
     obtain ⟨x1, x2, rfl⟩ := two_of h2q
     obtain ⟨hpl, wb, wo, hpa, _, h6, h7, hx1, hx2⟩ := hx.two
     have hat := hx.1
     have hg : g.c = 0 ∧ g.g = 0 ∧ g.rl = 0 ∧ g.cl = 0 := by
      simp only [bareB, onlyB, hz, Bool.not_false, Bool.true_and, Bool.and_eq_true, Bool.or_eq_true, decide_eq_true_eq] at hbare
      obtain ⟨k1, k2, k3, _⟩ := hbare
      exact ⟨k1.resolve_left (by decide), (k2.resolve_left (by decide)).1, (k2.resolve_left (by decide)).2, k3.resolve_left (by decide)⟩
     have hr0 : g.rows = [] := List.eq_nil_of_length_eq_zero (by have := hat.rl; omega)
     have hc0 : g.cells = [] := List.eq_nil_of_length_eq_zero (by have := hat.cl; omega)
     refine ⟨.two x1.f.pf x2.f.pf, ?_, hg.2.2.1, hg.2.2.2, hpl, wb, wo, x1.f, x2.f, hpa, h6, h7, PIs.of e1 (WIn.at_ hx1) o1, PIs.of e2 (WIn.at_ hx2) o2⟩
     show (⟨g.z, g.c, g.g, g.rows, g.cells⟩ : PF) = pC 0
     unfold pC
     rw [hz, hg.1, hg.2.1, hr0, hc0]
   ·cases hse'
def isX (S : PS) (x : PX) : Asr := fun v w => ∃ f : WF, v = f.val ∧ XIs w S f x
theorem stab_isX {S : PS} {x : PX} : Stab (isX S x) := fun v w w' ⟨f, h1, h2⟩ hb => ⟨f, h1, h2.below hb⟩
def isRowX (S : PS) (xs : List PX) : Asr := fun v w => ∃ b fs, v = .slice (some ⟨b, 0, none⟩) xs.length xs.length ∧ FRow w (some ⟨b, 0, none⟩) fs ∧ XL w S fs xs
theorem stab_isRowX {S : PS} {xs : List PX} : Stab (isRowX S xs) := fun v w w' ⟨b, fs, h1, h2, h3⟩ hb => ⟨b, fs, h1, h2.below hb, h3.below hb⟩
theorem holds3 {p q r : Asr} {vs : List Value} {w : World} (h : Holds [p, q, r] vs w) : ∃ a b c, vs = [a, b, c] ∧ p a w ∧ q b w ∧ r c w := by
 match vs, h with
 | [a, b, c], h => exact ⟨a, b, c, rfl, h.1, h.2.1, h.2.2.1⟩
section
variable {n : Nat} {Q : Exit → Act → World → Prop} {l : Fr} {W : World} {ops : Array Oper} {L : List Asr} {i d : Nat} {ty : TypeId} {pos : String} {aft : Array Edge} {gd : Option (Nat × Bool)} {S : PS} {x y z : PX} {p q r : Operand}
theorem rg_rowX2 (hi : ops[i]? = some ⟨some d, .buildSlice 45 2 (List.toArray [(0, p), (1, q)]), ty, pos, aft, gd⟩) (hw : Wants ops L i ⟨some d, .buildSlice 45 2 (List.toArray [(0, p), (1, q)]), ty, pos, aft, gd⟩) (hp : AllP n ops l L i [p, q] [isX S x, isX S y]) (hI : atI L i = isRowX S [x, y]) : RG Tryd.prog n ops Q l W L i :=
 rg_row [isX S x, isX S y] hi hw Tryd.underlying45 Tryd.sizeOf47 Tryd.zeroValue47 rfl rfl hp fun vs w hb hh => by
  obtain ⟨v1, v2, rfl, ⟨f, rfl, hf⟩, g, rfl, hg⟩ := holds2 hh
  exact ⟨f.six ++ g.six, bs_45_2 _ _ _ _ _ _ _ _ _ _ _ _, fun B w' hB h1 h2 => by rw [hI]; exact ⟨B, [f, g], rfl, frow2 h1, xl_cons (hf.below h2) (xl_cons (hg.below h2) xl_nil)⟩⟩
end
section
variable {w : World} {S : PS} {sf : SF} {x y z : PX} {vs : List Value}
end
end Go.Proofs.YtfkbkekgnoanaaaDoor
namespace Go.Proofs.YtfkbkekgnoanaaaDoor
open Go Go.RowKit
abbrev StT := Int × List Int × PX
def runStep (S : PS) (px : RV → PX) (rs : List RV) (i : Int) (st : StT) : Except Int StT :=
 if i < 0 then .error 5 else match rs[i.toNat]? with
  | none => .error 5
  | some r => if appB r st.1 st.2.1 = false then .error 121 else if 4096 < r.wl + (st.2.1.length - 1) then .error 2 else .ok (r.q, r.ws ++ st.2.1.tail, extX S st.2.2 (px r))
def runF (S : PS) (px : RV → PX) (rs : List RV) : List Int → Nat → StT → Option StT × Int × Int
 | [], _, st => (some st, 0, 0)
 | i :: l, k, st => match runStep S px rs i st with
  | .error c => (none, (k : Int), c)
  | .ok st' => runF S px rs l (k + 1) st'
section
variable {S : PS} {px : RV → PX} {rs : List RV} {i : Int} {l : List Int} {k : Nat} {st st' : StT} {c : Int}
theorem runF_err (h : runStep S px rs i st = .error c) : runF S px rs (i :: l) k st = (none, (k : Int), c) := by simp only [runF, h]
theorem runF_ok (h : runStep S px rs i st = .ok st') : runF S px rs (i :: l) k st = runF S px rs l (k + 1) st' := by simp only [runF, h]
theorem runStep_neg (h : i < 0) : runStep S px rs i st = .error 5 := by unfold runStep; rw [if_pos h]
theorem runStep_big (h : (rs.length : Int) ≤ i) : runStep S px rs i st = .error 5 := by
 unfold runStep; rw [if_neg (by omega), List.getElem?_eq_none (by omega)]
theorem runStep_at {n : Nat} {r : RV} (h : rs[n]? = some r) : runStep S px rs (n : Int) st = if appB r st.1 st.2.1 = false then .error 121 else if 4096 < r.wl + (st.2.1.length - 1) then .error 2 else .ok (r.q, r.ws ++ st.2.1.tail, extX S st.2.2 (px r)) := by
 unfold runStep; rw [if_neg (by omega), Int.toNat_natCast, h]
end
def RunRet (S : PS) (R : Option StT × Int × Int) (w : World) (e : Ending) (w' : World) : Prop := Below w.heap.size w w' ∧ match R with
 | (none, n, c) => e = .returned (.tuple #[.agg #[.int .i64 0, .slice none 0 0], .agg #[.bool false, .int .i64 0, .int .u64 0, .slice none 0 0, .slice none 0 0, .slice none 0 0], .int .i64 n, .int .i64 c])
 | (some st, _, _) => ∃ a c f, e = .returned (.tuple #[.agg #[.int .i64 st.1, .slice a st.2.1.length c], WF.val f, .int .i64 0, .int .i64 0]) ∧ RowN w.heap.size w' a c st.2.1 ∧ XNew w.heap.size w' S f st.2.2
theorem runRet_none {S : PS} {n c : Int} {w w' : World} (hb : Below w.heap.size w w') : RunRet S (none, n, c) w (.returned (.tuple #[.agg #[.int .i64 0, .slice none 0 0], .agg #[.bool false, .int .i64 0, .int .u64 0, .slice none 0 0, .slice none 0 0, .slice none 0 0], .int .i64 n, .int .i64 c])) w' := by
 unfold RunRet
 exact ⟨hb, rfl⟩
theorem drop_at9 {α : Type} {l : List α} {k : Nat} {y : α} (h : l[k]? = some y) : l.drop k = y :: l.drop (k + 1) := by
 obtain ⟨hk, rfl⟩ := List.getElem?_eq_some_iff.1 h
 exact List.drop_eq_getElem_cons hk
theorem us_cases (p q : Int) (us : List Int) : us = [] ∨ (0 < us.length ∧ p ≠ q) ∨ ∃ y t, us = y :: t ∧ p = q := by
 cases us with
 | nil => exact .inl rfl
 | cons y t =>
  by_cases h : p = q
  ·exact .inr (.inr ⟨y, t, rfl, h⟩)
  ·exact .inr (.inl ⟨Nat.succ_pos _, h⟩)
theorem top_at {t : List Int} {y : Int} : ((y :: t).reverse.map (Value.int .i64))[t.length]? = some (.int .i64 y) := by simp
theorem top_cut {t rws : List Int} {y : Int} : ((y :: t).reverse.map (Value.int .i64)).take (t.length * 1) = (t.reverse ++ rws.reverse.take 0).map (Value.int .i64) := by simp
theorem take_app {t rws : List Int} {y : Int} {j n : Nat} (hy : rws[n - 1 - j]? = some y) (hn : rws.length = n) (hj : j < n) : (t.reverse ++ rws.reverse.take j).map (Value.int .i64) ++ [.int .i64 y] = (t.reverse ++ rws.reverse.take (j + 1)).map (Value.int .i64) := by
 have h : rws.reverse[j]? = some y := by rw [List.getElem?_reverse (by omega), hn]; exact hy
 rw [List.take_add_one, h]
 simp
theorem isNew_mono {lo lo' : Nat} {S : PS} {x : PX} {v : Value} {w : World} (h : isNew lo S x v w) (hl : lo' ≤ lo) : isNew lo' S x v w := by
 obtain ⟨f, e, h⟩ := h
 exact ⟨f, e, h.mono hl⟩
theorem isX_of {lo : Nat} {S : PS} {x : PX} {v : Value} {w w' : World} (h : isNew lo S x v w) (hb : Below w.heap.size w w') : isX S x v w' := by
 obtain ⟨f, e, h⟩ := h
 exact ⟨f, e, h.is.below hb⟩
theorem one_givesN {P : Program} {f : FuncId} {vs : Array Value} {w : World} {S : PS} {x : PX} {lo : Nat} (hlo : lo ≤ w.heap.size) (h : Calls P f vs w (WRet S x w)) : Calls P f vs w (GivesN (isNew lo S x) w) := h.mono fun e w2 ⟨g, he, hn, hb⟩ => ⟨g.val, he, fun w3 hg => ⟨g, rfl, (hn.agree hg).mono hlo⟩, hb⟩
theorem times2 {w : World} {S : PS} {sf : SF} {f0 : WF} {x y : PX} {vs : List Value} {lo : Nat} (hh : Holds [isV (ringV sf f0), isRowX S [x, y]] vs w) (hs : SIs w S sf) (hok : S.ok) (ht : Tabs w) (hlo : lo ≤ w.heap.size) : Calls Tryd.prog 31 vs.toArray w (Gives (isNew lo S (extX S x y)) w) := by
 obtain ⟨v1, v2, rfl, rfl, b, fs, rfl, hr, hx⟩ := holds2 hh
 match fs, hr, hx with
 | g0 :: ft, hr, hx =>
  refine (ringTimes_is S sf f0 w hs hok _ 2 2 g0 x ft [y] hr hx (by have := hx.1; simpa using this) (by decide) (by decide) ht).mono ?_
  rintro e w' ⟨f, rfl, hn, hb⟩
  exact ⟨_, rfl, ⟨f, rfl, hn.mono hlo⟩, hb⟩
 | [], hr, hx => exact absurd hx.1 (by simp)
theorem clone_ints {w : World} {a : Option Addr} {l c : Nat} {ws : List Int} (h : Row w a ws) (hl : ws.length = l) (hm : l ≤ 8192) : Calls Tryd.prog 29 #[.slice a l c] w fun e w' => ∃ v, e = .returned v ∧ Below w.heap.size w w' ∧ w'.ownsRow w.heap.size 3 1 v l (ws.map (Value.int .i64)) := by
 cases a with
 | none =>
  have hw : ws = [] := by
   rcases h with h | ⟨b, off, h, _⟩
   ·exact h
   ·cases h
  subst hw; subst hl
  refine (Tryd.slices_Clone_int_nil _ c w).mono ?_
  rintro e w' ⟨rfl, rfl⟩
  exact ⟨_, rfl, Below.refl _ _, World.ownsRow_nil _ _ _ _⟩
 | some p =>
  rcases h with rfl | ⟨b, off, h, hc⟩
  ·subst hl
   refine (Tryd.slices_Clone_int_zero p c w).mono ?_
   rintro e w' ⟨v, rfl, h1, _, h2⟩
   exact ⟨_, rfl, h2, h1⟩
  ·cases h
   refine (Tryd.slices_Clone_int b off l c ws w (by omega) (by omega) hc).mono ?_
   rintro e w' ⟨v, rfl, h1, _, h2⟩
   rw [List.take_of_length_le (by omega)] at h1
   exact ⟨_, rfl, h2, h1⟩
theorem runA_c (ds d : Nat) (S : PS) (px : RV → PX) (s : SV) (st sy : Int) (ra : Option Addr) (rl rc : Nat) (rs : List RV) (p : Int) (wa : Option Addr) (wl wc : Nat) (ws : List Int) (la : Option Addr) (ll lc : Nat) (is : List Int) (w : World) (hs : SIn w ds s) (hprow : RRow w ra rs) (hplen : rs.length = rl) (hin : ∀ r ∈ rs, RIn w d r) (hrow : Row w wa ws) (hlen : ws.length = wl) (hcap : wl ≤ wc) (hrla : Row w la is) (hll : is.length = ll) (hlm : ll ≤ 9223372036854775807) (hsi : SIs w S s.f) (hok : S.ok) (hchk : stepE ⟨s, st, sy, ra, rl, rc, rs⟩ ⟨p, wa, wl, wc, ws⟩ = 0) (h4 : ∀ r ∈ rs, r.wl ≤ 4096) (hw4 : wl ≤ 4096) (hx : ∀ r ∈ rs, XIs w S r.x.f (px r)) (ht : Tabs w) :
  Calls Tryd.prog 11 #[.agg #[.int .i64 s.f.tag, .int .i64 s.f.dim, .slice s.f.a s.f.len s.f.cap, .int .i64 st, .int .i64 sy, .slice ra rl rc], .agg #[.int .i64 p, .slice wa wl wc], .slice la ll lc] w (RunRet S (runF S px rs is 0 (p, ws, oneX S)) w) := by
 refine enterF (args := [.agg #[.int .i64 s.f.tag, .int .i64 s.f.dim, .slice s.f.a s.f.len s.f.cap, .int .i64 st, .int .i64 sy, .slice ra rl rc], .agg #[.int .i64 p, .slice wa wl wc], .slice la ll lc]) Tryd.func11 rfl Tryd.ntmps11 rfl ?_
 have hS := St.start w
 refine seqF (regF ?_)
 refine op_box (cs := [_, _, _, _, _, _]) hS rfl rfl rfl ?_
 clear hS; intro B1 W1 hS
 refine op_box (cs := [_, _]) hS rfl rfl rfl ?_
 clear hS; intro B2 W2 hS
 refine op_alloc (cs := [_, _]) hS Tryd.zeroValue31 rfl rfl ?_
 clear hS; intro B3 W3 hS
 refine op_alloc (cs := [_, _, _, _, _, _]) hS Tryd.zeroValue47 rfl rfl ?_
 clear hS; intro B4 W4 hS
 refine op_assign rfl rfl ?_
 refine op_assign rfl rfl ?_
 refine endF (XF.thenN ?_)
 refine seqF ?_
 refine seqF (regF ?_)
 refine op_loadA (vs := [_, _, _, _, _, _]) Tryd.isAgg28 Tryd.sizeOf28 rfl (CellsAt.own (j := 0) (m := 6) (hS.at_ 3 rfl) rfl) rfl ?_
 refine op_loadA (vs := [_, _]) Tryd.isAgg31 Tryd.sizeOf31 rfl (CellsAt.own (j := 0) (m := 2) (hS.at_ 2 rfl) rfl) rfl ?_
 refine op_call (vs := [_, _]) hS goes_19 rfl (stepA_is ds d ⟨s, st, sy, ra, rl, rc, rs⟩ ⟨p, wa, wl, wc, ws⟩ _ (PvIn.below ⟨hs, hprow, hplen, hin⟩ hS.below) (CIn.below ⟨hrow, hlen⟩ hS.below)) rfl ?_
 rintro e W5 ⟨rfl, hb⟩
 refine ⟨_, rfl, hb, fun hS' => ?_⟩
 clear hS; have hS := hS'; clear hS' hb
 refine op_assign rfl rfl ?_
 refine endF (XF.thenN ?_)
 refine seqF (regF ?_)
 refine op_move rfl rfl ?_
 refine op_neq rfl rfl rfl ?_
 refine endF (XF.thenN ?_)
 refine condF rfl (fun hc => absurd (of_decide_eq_true hc) (by exact fun h => h hchk)) (fun hc => ?_)
 have hc := of_decide_eq_false hc
 refine skipF ?_
 refine XF.thenN ?_
 refine seqF (regF ?_)
 refine op_field (o' := 0) fa_28_0 rfl rfl rfl ?_
 refine op_loadA (vs := [_, _, _]) Tryd.isAgg25 Tryd.sizeOf25 rfl (CellsAt.own (j := 0) (m := 3) (hS.at_ 3 rfl) rfl) rfl ?_
 refine op_call (vs := [_]) hS goes_27 rfl (ringOf_is S s.f _ (hsi.below hS.below) hok) rfl ?_
 rintro e W6 ⟨f0, rfl, hn0, hb⟩
 refine ⟨_, rfl, hb, fun hS' => ?_⟩
 clear hS; have hS := hS'; clear hS' hb
 refine op_alloc (cs := [_, _, _, _, _, _, _, _, _]) hS Tryd.zeroValue77 rfl rfl ?_
 clear hS; intro B7 W7 hS
 refine op_storeA (i := 0) (vs := [_, _, _, _, _, _, _, _, _]) (cs' := [_, _, _, _, _, _, _, _, _]) (O' := [_, _, _, _, _]) hS Tryd.sizeOf77 rfl rfl rfl rfl rfl rfl rfl ?_
 clear hS; intro W8 hS
 refine endF (XF.thenN ?_)
 refine seqF ?_
 have hsz5 := hS.below.size
 refine regS (ef := 5) (jy := 1) (ca := caSt (fun _ => [.bool false, .int .i64 0, .int .u64 0, .slice none 0 0, .slice none 0 0, .slice none 0 0]) 4) (ta := fun _ => 47) (Os := osNo _) (Gs := gsNo _) (al := [4]) (k := 6) (ds := [13]) followsM rfl hS rfl (by kernel_rfl) (by kernel_rfl) rfl (by decide) rfl (some) (.inl ⟨rfl, rfl⟩) rfl rfl ?_
 refine bls_cons 1 rfl rfl (isV _) (fun hNo => sgV [(11, _)] rfl rfl rfl rfl hNo (w_free rfl) ⟨g_fr (by kernel_rfl) rfl, trivial⟩ (fun ev w he hw => rn_loadA (vs := [_, _, _, _, _, _, _, _, _]) Tryd.isAgg77 Tryd.sizeOf77 rfl ((CellsAt.own (j := 0) (m := 9) (hw.at_ 0 rfl) rfl))) (at_top rfl)) ?_
 refine bls_cons 2 rfl rfl (isNew W8.heap.size S (oneX S)) (fun hNo => sg_call [isV (ringV s.f f0)] rfl rfl rfl rfl hNo goes_28 (w_free rfl) ⟨p_tmp (g_dep 0 (by kernel_rfl) (at_dep rfl rfl rfl)), trivial⟩ (fun vs ev w' he hSt hlo hh => by have e := holds_isV (us := [_]) hh; subst e; exact one_givesN hlo (ringOne_is S s.f f0 w' (hsi.below hSt.below) hok)) (at_top rfl)) ?_
 refine bls_cons 3 rfl rfl (isV _) (fun hNo => sgV [(4, _)] rfl rfl rfl rfl hNo (w_free rfl) ⟨g_fr (by kernel_rfl) rfl, trivial⟩ (fun ev w he hw => rn_field (o' := 0) fa_31_0 rfl rfl) (at_top rfl)) ?_
 refine bls_cons 4 rfl rfl (isV _) (fun hNo => sgV [(33, _)] rfl rfl rfl rfl hNo (w_free rfl) ⟨g_dep 2 (by kernel_rfl) (at_dep rfl rfl rfl), trivial⟩ (fun ev w he hw => rn_load Tryd.isAgg3 rfl ((cell_own (hw.at_ 3 rfl) rfl))) (at_top rfl)) ?_
 refine bls_any 5 rfl (sg_alloc rfl rfl rfl rfl rfl Tryd.zeroValue47 (fun ev he => by rw [he rfl]; rfl)) ?_
 refine bls_any 6 rfl (eff_stA (py := isNew W8.heap.size S (oneX S)) (m := 6) 4 rfl rfl rfl rfl (by kernel_rfl) rfl (by kernel_rfl) rfl rfl Tryd.sizeOf47 rfl (fun v w ⟨f, e, _⟩ => ⟨f.six, by rw [e]; rfl, rfl, rfl⟩)) ?_
 refine bls_nil ?_
 intro Bf9 y9 W9 Ks9 hsz9 hKs9 hS' hcov9
 clear hS; have hS := hS'.castO (O' := [_, _, _, _, _, _]) rfl; clear hS'
 refine castL (L' := [AwS _ _ (isV _), (fun v w => v = _ ∧ AwS _ _ (isNew W8.heap.size S (oneX S)) v w), AwS _ _ (isV _), AwS _ _ (isV _), isV _, isV _]) rfl ?_
 refine fin_sV ?_
 refine fin_p ?_; rintro _ ⟨rfl, hA5⟩; obtain ⟨f1, e1, hn1⟩ := hA5.here; subst e1; have hcov5 := @hcov9
 refine fin_sV ?_
 refine fin_sV ?_
 refine fin_v ?_
 refine fin_0 ?_
 refine fin_nil ?_
 refine op_assign rfl rfl ?_
 refine endF (XF.thenN ?_)
 refine seqF (regF ?_)
 refine op_field (o' := 1) fa_31_1 rfl rfl rfl ?_
 refine op_load Tryd.isAgg29 rfl (cell_own (hS.at_ 4 rfl) rfl) rfl ?_
 refine op_callG (vs := [_]) (xs := ws.map (Value.int .i64)) (e1 := 3) (size := 1) (m := wl) hS goes_29 rfl (clone_ints (c := wc) (hrow.below hS.below) hlen (by omega)) rfl (fun e W2 h => h) ?_
 clear hS; intro v10 W10 hS
 refine op_assign rfl rfl ?_
 refine endF (XF.thenN ?_)
 refine seqF (regF ?_)
 refine op_move rfl rfl ?_
 refine op_rev (zs := ws) hS 0 goes_30 rfl rfl Tryd.slices_Reverse_int Tryd.slices_Reverse_int_empty rfl ?_
 clear hS; intro W11 hS
 refine endF (XF.thenN ?_)
 refine seqF ?_
 refine seqF (regF ?_)
 refine op_move rfl rfl ?_
 refine op_len Tryd.underlying29 rfl rfl ?_
 refine op_move rfl rfl ?_
 refine endF (XF.thenN ?_)
 refine blockF ?_
 refine loopF (fun m l W => ∃ (k : Nat) (q : Int) (us : List Int) (x : PX) (f : WF) (v : Value) (Kk : List (Nat × World)), k ≤ ll ∧ m = ll - k ∧ l = [(3, .pointer (some ⟨B1, 0, none⟩)), (6, .pointer (some ⟨B3, 0, none⟩)), (7, .pointer (some ⟨B4, 0, none⟩)), (11, .pointer (some ⟨B7, 0, none⟩)), (12, .pointer (some ⟨(Bf9 4), 0, none⟩)), (13, .int .i64 q), (14, v), (40, .slice la ll lc), (41, .int .i64 (ll : Int)), (42, .int .i64 (k : Int))] ∧ runF S px rs (is.drop k) k (q, us, x) = runF S px rs is 0 (p, ws, oneX S) ∧ us.length ≤ 4096 ∧ Held w Kk (fun W2 => isNew w.heap.size S x f.val W2) ∧ St w [((Bf9 4), f.six, 47), (B7, [.int .i64 s.f.tag, .int .i64 s.f.dim, .slice s.f.a s.f.len s.f.cap, .bool f0.z, .int .i64 f0.c, .int .u64 (f0.g : Int), .slice f0.ra f0.rl f0.rc, .slice f0.ca f0.cl f0.cc, .slice f0.pa f0.pl f0.pc], 77), (B4, [.bool false, .int .i64 0, .int .u64 0, .slice none 0 0, .slice none 0 0, .slice none 0 0], 47), (B3, [.int .i64 0, .slice none 0 0], 31), (B2, [.int .i64 p, .slice wa wl wc], 31), (B1, [.int .i64 s.f.tag, .int .i64 s.f.dim, .slice s.f.a s.f.len s.f.cap, .int .i64 st, .int .i64 sy, .slice ra rl rc], 28)] [⟨v, us.length, us.reverse.map (Value.int .i64), 3, 1⟩] Kk W) (ll - 0) ([(3, _), (6, _), (7, _), (11, _), (12, _), (13, _), (14, _), (40, _), (41, _), (42, _)]) ⟨rfl, rfl, rfl, rfl, rfl, rfl, rfl, rfl, rfl, rfl, trivial⟩ (⟨0, p, ws, oneX S, f1, _, Ks9, Nat.zero_le _, rfl, rfl, rfl, by omega, fun h2 hk => isNew_mono (hA5 _ (hcov5 h2 hk)) hsz5, (hS.keep Ks9 (fun q hq => List.mem_append_left _ hq)).castG (by subst hlen; rfl)⟩) ?_
 clear hS
 rintro m l W ⟨k, q, us, x, f, v, Kk, hk, rfl, rfl, hrun, hus, hX, hS⟩
 obtain ⟨a, c, rfl, hac⟩ := ownsRow_sl (v := v) (n := us.length) (hS.row 0 rfl)
 refine seqF (regF ?_)
 refine op_lss rfl rfl rfl ?_
 refine endF (XF.thenN ?_)
 refine seqF ?_
 refine condF rfl (fun hc => ?_) (fun hc => ?_)
 ·have hc43 := of_decide_eq_true hc; clear hc
  have hk1 : k < ll := by omega
  obtain ⟨b0, off0, y, rfl, hy, hyc⟩ := hrla.at1 (show k < is.length by omega)
  have k1 := hS.old hyc
  rw [drop_at9 hy] at hrun
  refine skipF ?_
  refine XF.thenN ?_
  refine seqF ?_
  refine blockF ?_
  refine seqF (regF ?_)
  refine op_move rfl rfl ?_
  refine op_indexA  Tryd.underlying29 Tryd.sizeOf3 rfl rfl rfl (by omega) rfl rfl ?_
  refine op_load Tryd.isAgg3 rfl (by first | assumption | exact hS.old (by assumption)) rfl ?_
  refine op_assign rfl rfl ?_
  refine op_assign rfl rfl ?_
  refine endF (XF.thenN ?_)
  refine seqF ?_
  refine seqF (regF ?_)
  refine op_move rfl rfl ?_
  refine op_lss rfl rfl rfl ?_
  refine op_move rfl rfl ?_
  refine op_cases (d := 49) rfl (fun hc => ?_) (fun hc => ?_)
  ·have hg49 := of_decide_eq_true hc; clear hc
   refine op_notF (d := 49) rfl rfl rfl rfl ?_
   refine op_notF (d := 49) rfl rfl rfl rfl ?_
   refine op_notF (d := 49) rfl rfl rfl rfl ?_
   refine op_notF (d := 49) rfl rfl rfl rfl ?_
   refine op_notF (d := 49) rfl rfl rfl rfl ?_
   refine op_pickT rfl rfl rfl ?_
   refine endF (XF.thenN ?_)
   refine condT rfl ?_
   refine seqF (regF ?_)
   refine op_build (us := []) rfl (bld_31) rfl ?_
   refine op_build (us := []) rfl (bld_47) rfl ?_
   refine op_move rfl rfl ?_
   refine op_storeA (i := 3) (vs := [_, _]) (cs' := [_, _]) (O' := [_, _, _, _, _, _]) hS Tryd.sizeOf31 rfl rfl rfl rfl rfl rfl rfl ?_
   clear hS; intro W12 hS
   refine op_storeA (i := 2) (vs := [_, _, _, _, _, _]) (cs' := [_, _, _, _, _, _]) (O' := [_, _, _, _, _, _]) hS Tryd.sizeOf47 rfl rfl rfl rfl rfl rfl rfl ?_
   clear hS; intro W13 hS
   refine op_assign rfl rfl ?_
   refine op_assign rfl rfl ?_
   refine endF (XF.thenN ?_)
   refine retF ?_
   refine XF.thenR ?_
   refine XF.blkR ?_
   refine XF.thenR ?_
   refine XF.thenR ?_
   refine XF.blkR ?_
   refine XF.thenR ?_
   refine XF.res (resCCTT (vs := [_, _]) (us := [_, _, _, _, _, _]) Tryd.results11 Tryd.isAgg31 Tryd.sizeOf31 rfl (CellsAt.own (j := 0) (m := 2) (hS.at_ 3 rfl) rfl) Tryd.isAgg47 Tryd.sizeOf47 rfl (CellsAt.own (j := 0) (m := 6) (hS.at_ 2 rfl) rfl) rfl rfl) ?_
   rw [← hrun, runF_err (runStep_neg hg49)]
   exact runRet_none hS.below
  ·have hg49 := of_decide_eq_false hc; clear hc
   refine op_wantedF (d := 49) rfl rfl ?_
   refine op_move rfl rfl ?_
   refine op_wantedF (d := 49) rfl rfl ?_
   refine op_field (o' := 5) fa_28_3 rfl rfl rfl ?_
   refine op_wantedF (d := 49) rfl rfl ?_
   refine op_load Tryd.isAgg26 rfl (cell_own (hS.at_ 5 rfl) rfl) rfl ?_
   refine op_wantedF (d := 49) rfl rfl ?_
   refine op_len Tryd.underlying26 rfl rfl ?_
   refine op_wantedF (d := 49) rfl rfl ?_
   refine op_geq rfl rfl rfl ?_
   refine op_pickF rfl rfl rfl ?_
   refine endF (XF.thenN ?_)
   refine condF rfl (fun hc => ?_) (fun hc => ?_)
   ·have hc55 := of_decide_eq_true hc; clear hc
    refine seqF (regF ?_)
    refine op_build (us := []) rfl (bld_31) rfl ?_
    refine op_build (us := []) rfl (bld_47) rfl ?_
    refine op_move rfl rfl ?_
    refine op_storeA (i := 3) (vs := [_, _]) (cs' := [_, _]) (O' := [_, _, _, _, _, _]) hS Tryd.sizeOf31 rfl rfl rfl rfl rfl rfl rfl ?_
    clear hS; intro W14 hS
    refine op_storeA (i := 2) (vs := [_, _, _, _, _, _]) (cs' := [_, _, _, _, _, _]) (O' := [_, _, _, _, _, _]) hS Tryd.sizeOf47 rfl rfl rfl rfl rfl rfl rfl ?_
    clear hS; intro W15 hS
    refine op_assign rfl rfl ?_
    refine op_assign rfl rfl ?_
    refine endF (XF.thenN ?_)
    refine retF ?_
    refine XF.thenR ?_
    refine XF.blkR ?_
    refine XF.thenR ?_
    refine XF.thenR ?_
    refine XF.blkR ?_
    refine XF.thenR ?_
    refine XF.res (resCCTT (vs := [_, _]) (us := [_, _, _, _, _, _]) Tryd.results11 Tryd.isAgg31 Tryd.sizeOf31 rfl (CellsAt.own (j := 0) (m := 2) (hS.at_ 3 rfl) rfl) Tryd.isAgg47 Tryd.sizeOf47 rfl (CellsAt.own (j := 0) (m := 6) (hS.at_ 2 rfl) rfl) rfl rfl) ?_
    rw [← hrun, runF_err (runStep_big (by omega))]
    exact runRet_none hS.below
   ·have hc55 := of_decide_eq_false hc; clear hc
    obtain ⟨yn, rfl⟩ := Int.eq_ofNat_of_zero_le (show 0 ≤ y by omega)
    have hyn : yn < rl := by omega
    obtain ⟨r, hr⟩ : ∃ r, rs[yn]? = some r := ⟨rs[yn]'(by omega), by simp [show yn < rs.length by omega]⟩
    obtain ⟨b2, off2, rfl, hcs⟩ := hprow.at_ hr
    have hri := hin r (List.mem_of_getElem? hr)
    have hrx := hx r (List.mem_of_getElem? hr)
    have hr4 := h4 r (List.mem_of_getElem? hr)
    have hst := runStep_at (S := S) (px := px) (st := (q, us, x)) hr
    obtain ⟨rp, rg, rq, rwa, rwl, rwc, rws, rx⟩ := r
    dsimp only at hst hr4 hrx
    dsimp only [RV.ten] at hcs
    have hrw : Row w rwa rws := hri.row
    have hrwl : rws.length = rwl := hri.len
    have k2 := CellsAt.agree hS.agree (Nat.zero_le _) hcs
    refine skipF ?_
    refine XF.thenN ?_
    refine seqF (regF ?_)
    refine op_field (o' := 5) fa_28_3 rfl rfl rfl ?_
    refine op_load Tryd.isAgg26 rfl (cell_own (hS.at_ 5 rfl) rfl) rfl ?_
    refine op_move rfl rfl ?_
    refine op_indexA  Tryd.underlying26 Tryd.sizeOf69 rfl rfl rfl (by omega) rfl rfl ?_
    refine op_loadA (vs := [_, _, _, _, _, _, _, _, _, _]) Tryd.isAgg69 Tryd.sizeOf69 rfl (by assumption) rfl ?_
    refine op_move rfl rfl ?_
    refine op_len Tryd.underlying29 rfl rfl ?_
    refine op_alloc (cs := [_, _, _, _, _, _, _, _, _, _]) hS Tryd.zeroValue69 rfl rfl ?_
    clear hS; intro B16 W16 hS
    refine op_storeA (i := 0) (vs := [_, _, _, _, _, _, _, _, _, _]) (cs' := [_, _, _, _, _, _, _, _, _, _]) (O' := [_, _, _, _, _, _, _]) hS Tryd.sizeOf69 rfl rfl rfl rfl rfl rfl rfl ?_
    clear hS; intro W17 hS
    refine op_assign rfl rfl ?_
    refine endF (XF.thenN ?_)
    refine seqF ?_
    refine seqF ?_
    rcases us_cases rp q us with h1 | ⟨h1, h2⟩ | ⟨y2, t, h1, h2⟩
    ·subst h1
     have hE : runStep S px rs (yn : Int) (q, [], x) = .error 121 := by rw [hst]; simp [appB]
     refine regB (m := 18) followsM hS (by kernel_rfl) (by kernel_rfl) rfl ?_
     refine bl_cons 1 rfl (isV _) (stab_isV _) (rgV (li := [(18, _)]) rfl (w_free rfl) ⟨g_fr (by kernel_rfl) rfl, trivial⟩ (fun w hw => rn_move rfl) (at_top rfl)) ?_
     refine bl_cons 2 rfl (isV (.bool true)) (stab_isV _) (rgVe (li := [(66, _)]) rfl (w_free rfl) ⟨g_dep 0 (by kernel_rfl) (at_dep rfl rfl rfl), trivial⟩ (fun w hw => rn_eql rfl rfl) (by simp) (at_top rfl)) ?_
     refine bl_cons 3 rfl (isV _) (stab_isV _) (rgV (li := [(67, _)]) rfl (w_free rfl) ⟨g_dep 1 (by kernel_rfl) (at_dep rfl rfl rfl), trivial⟩ (fun w hw => rn_move rfl) (at_top rfl)) ?_
     refine bl_cons 4 rfl (isV undef) (stab_isV _) (rg_no rfl (w_no 68 rfl (by kernel_rfl) (by kernel_rfl) (at_dep rfl rfl rfl) rfl) (at_top rfl)) ?_
     refine bl_cons 5 rfl (isV undef) (stab_isV _) (rg_no rfl (w_no 68 rfl (by kernel_rfl) (by kernel_rfl) (at_dep rfl rfl rfl) rfl) (at_top rfl)) ?_
     refine bl_cons 6 rfl (isV undef) (stab_isV _) (rg_no rfl (w_no 68 rfl (by kernel_rfl) (by kernel_rfl) (at_dep rfl rfl rfl) rfl) (at_top rfl)) ?_
     refine bl_cons 7 rfl (isV undef) (stab_isV _) (rg_no rfl (w_no 68 rfl (by kernel_rfl) (by kernel_rfl) (at_dep rfl rfl rfl) rfl) (at_top rfl)) ?_
     refine bl_cons 8 rfl (isV _) (stab_isV _) (rgV (li := [(68, _)]) rfl (w_free rfl) ⟨g_dep 2 (by kernel_rfl) (at_dep rfl rfl rfl), trivial⟩ (fun w hw => rn_pickT rfl rfl) (at_top rfl)) ?_
     refine bl_cons 9 rfl (isV _) (stab_isV _) (rgV (li := [(73, _)]) rfl (w_free rfl) ⟨g_dep 7 (by kernel_rfl) (at_dep rfl rfl rfl), trivial⟩ (fun w hw => rn_move rfl) (at_top rfl)) ?_
     refine bl_cons 10 rfl (isV undef) (stab_isV _) (rg_no rfl (w_no 74 rfl (by kernel_rfl) (by kernel_rfl) (at_dep rfl rfl rfl) rfl) (at_top rfl)) ?_
     refine bl_cons 11 rfl (isV undef) (stab_isV _) (rg_no rfl (w_no 74 rfl (by kernel_rfl) (by kernel_rfl) (at_dep rfl rfl rfl) rfl) (at_top rfl)) ?_
     refine bl_cons 12 rfl (isV undef) (stab_isV _) (rg_no rfl (w_no 74 rfl (by kernel_rfl) (by kernel_rfl) (at_dep rfl rfl rfl) rfl) (at_top rfl)) ?_
     refine bl_cons 13 rfl (isV undef) (stab_isV _) (rg_no rfl (w_no 74 rfl (by kernel_rfl) (by kernel_rfl) (at_dep rfl rfl rfl) rfl) (at_top rfl)) ?_
     refine bl_cons 14 rfl (isV undef) (stab_isV _) (rg_no rfl (w_no 74 rfl (by kernel_rfl) (by kernel_rfl) (at_dep rfl rfl rfl) rfl) (at_top rfl)) ?_
     refine bl_cons 15 rfl (isV undef) (stab_isV _) (rg_no rfl (w_no 74 rfl (by kernel_rfl) (by kernel_rfl) (at_dep rfl rfl rfl) rfl) (at_top rfl)) ?_
     refine bl_cons 16 rfl (isV undef) (stab_isV _) (rg_no rfl (w_no 74 rfl (by kernel_rfl) (by kernel_rfl) (at_dep rfl rfl rfl) rfl) (at_top rfl)) ?_
     refine bl_cons 17 rfl (isV undef) (stab_isV _) (rg_no rfl (w_no 74 rfl (by kernel_rfl) (by kernel_rfl) (at_dep rfl rfl rfl) rfl) (at_top rfl)) ?_
     refine bl_cons 18 rfl (isV _) (stab_isV _) (rgV (li := [(74, _)]) rfl (w_free rfl) ⟨g_dep 8 (by kernel_rfl) (at_dep rfl rfl rfl), trivial⟩ (fun w hw => rn_pickT rfl rfl) (at_top rfl)) ?_
     refine bl_nil ?_
     intro W18 hbR hS'
     clear hS; have hS := hS'; clear hS'
     refine fin_v ?_
     refine fin_v ?_
     refine fin_v ?_
     refine fin_v ?_
     refine fin_v ?_
     refine fin_v ?_
     refine fin_v ?_
     refine fin_v ?_
     refine fin_v ?_
     refine fin_v ?_
     refine fin_v ?_
     refine fin_v ?_
     refine fin_v ?_
     refine fin_v ?_
     refine fin_v ?_
     refine fin_v ?_
     refine fin_v ?_
     refine fin_v ?_
     refine fin_nil ?_
     refine XF.thenN ?_
     refine condT rfl ?_
     refine seqF (regF ?_)
     refine op_build (us := []) rfl (bld_31) rfl ?_
     refine op_build (us := []) rfl (bld_47) rfl ?_
     refine op_move rfl rfl ?_
     refine op_storeA (i := 4) (vs := [_, _]) (cs' := [_, _]) (O' := [_, _, _, _, _, _, _]) hS Tryd.sizeOf31 rfl rfl rfl rfl rfl rfl rfl ?_
     clear hS; intro W19 hS
     refine op_storeA (i := 3) (vs := [_, _, _, _, _, _]) (cs' := [_, _, _, _, _, _]) (O' := [_, _, _, _, _, _, _]) hS Tryd.sizeOf47 rfl rfl rfl rfl rfl rfl rfl ?_
     clear hS; intro W20 hS
     refine op_assign rfl rfl ?_
     refine op_assign rfl rfl ?_
     refine endF (XF.thenN ?_)
     refine retF ?_
     refine XF.thenR ?_
     refine XF.blkR ?_
     refine XF.thenR ?_
     refine XF.thenR ?_
     refine XF.blkR ?_
     refine XF.thenR ?_
     refine XF.res (resCCTT (vs := [_, _]) (us := [_, _, _, _, _, _]) Tryd.results11 Tryd.isAgg31 Tryd.sizeOf31 rfl (CellsAt.own (j := 0) (m := 2) (hS.at_ 4 rfl) rfl) Tryd.isAgg47 Tryd.sizeOf47 rfl (CellsAt.own (j := 0) (m := 6) (hS.at_ 3 rfl) rfl) rfl rfl) ?_
     rw [← hrun, runF_err hE]
     exact runRet_none hS.below
    ·have hE : runStep S px rs (yn : Int) (q, us, x) = .error 121 := by rw [hst]; simp [appB, h2]
     refine regB (m := 18) followsM hS (by kernel_rfl) (by kernel_rfl) rfl ?_
     refine bl_cons 1 rfl (isV _) (stab_isV _) (rgV (li := [(18, _)]) rfl (w_free rfl) ⟨g_fr (by kernel_rfl) rfl, trivial⟩ (fun w hw => rn_move rfl) (at_top rfl)) ?_
     refine bl_cons 2 rfl (isV (.bool false)) (stab_isV _) (rgVe (li := [(66, _)]) rfl (w_free rfl) ⟨g_dep 0 (by kernel_rfl) (at_dep rfl rfl rfl), trivial⟩ (fun w hw => rn_eql rfl rfl) (by rw [decide_eq_false (by omega)]) (at_top rfl)) ?_
     refine bl_cons 3 rfl (isV _) (stab_isV _) (rgV (li := [(67, _)]) rfl (w_free rfl) ⟨g_dep 1 (by kernel_rfl) (at_dep rfl rfl rfl), trivial⟩ (fun w hw => rn_move rfl) (at_top rfl)) ?_
     refine bl_cons 4 rfl (isV _) (stab_isV _) (rgV (li := [(17, _)]) rfl (w_yes 68 rfl (by kernel_rfl) (by kernel_rfl) (at_dep rfl rfl rfl)) ⟨g_fr (by kernel_rfl) rfl, trivial⟩ (fun w hw => rn_field (o' := 0) fa_69_0 rfl rfl) (at_top rfl)) ?_
     refine bl_cons 5 rfl (isV _) (stab_isV _) (rgV (li := [(69, _)]) rfl (w_yes 68 rfl (by kernel_rfl) (by kernel_rfl) (at_dep rfl rfl rfl)) ⟨g_dep 3 (by kernel_rfl) (at_dep rfl rfl rfl), trivial⟩ (fun w hw => rn_load Tryd.isAgg3 rfl ((below_agree hw 0).cell (Nat.zero_le _) (cell_own (hS.at_ 0 rfl) rfl))) (at_top rfl)) ?_
     refine bl_cons 6 rfl (isV _) (stab_isV _) (rgV (li := [(13, _)]) rfl (w_yes 68 rfl (by kernel_rfl) (by kernel_rfl) (at_dep rfl rfl rfl)) ⟨g_fr (by kernel_rfl) rfl, trivial⟩ (fun w hw => rn_move rfl) (at_top rfl)) ?_
     refine bl_cons 7 rfl (isV (.bool true)) (stab_isV _) (rgVe (li := [(70, _), (71, _)]) rfl (w_yes 68 rfl (by kernel_rfl) (by kernel_rfl) (at_dep rfl rfl rfl)) ⟨g_dep 4 (by kernel_rfl) (at_dep rfl rfl rfl), g_dep 5 (by kernel_rfl) (at_dep rfl rfl rfl), trivial⟩ (fun w hw => rn_neq rfl rfl) (by rw [decide_eq_true h2]) (at_top rfl)) ?_
     refine bl_cons 8 rfl (isV _) (stab_isV _) (rgV (li := [(68, _), (72, _)]) rfl (w_free rfl) ⟨g_dep 2 (by kernel_rfl) (at_dep rfl rfl rfl), g_dep 6 (by kernel_rfl) (at_dep rfl rfl rfl), trivial⟩ (fun w hw => rn_pickF rfl rfl) (at_top rfl)) ?_
     refine bl_cons 9 rfl (isV _) (stab_isV _) (rgV (li := [(73, _)]) rfl (w_free rfl) ⟨g_dep 7 (by kernel_rfl) (at_dep rfl rfl rfl), trivial⟩ (fun w hw => rn_move rfl) (at_top rfl)) ?_
     refine bl_cons 10 rfl (isV undef) (stab_isV _) (rg_no rfl (w_no 74 rfl (by kernel_rfl) (by kernel_rfl) (at_dep rfl rfl rfl) rfl) (at_top rfl)) ?_
     refine bl_cons 11 rfl (isV undef) (stab_isV _) (rg_no rfl (w_no 74 rfl (by kernel_rfl) (by kernel_rfl) (at_dep rfl rfl rfl) rfl) (at_top rfl)) ?_
     refine bl_cons 12 rfl (isV undef) (stab_isV _) (rg_no rfl (w_no 74 rfl (by kernel_rfl) (by kernel_rfl) (at_dep rfl rfl rfl) rfl) (at_top rfl)) ?_
     refine bl_cons 13 rfl (isV undef) (stab_isV _) (rg_no rfl (w_no 74 rfl (by kernel_rfl) (by kernel_rfl) (at_dep rfl rfl rfl) rfl) (at_top rfl)) ?_
     refine bl_cons 14 rfl (isV undef) (stab_isV _) (rg_no rfl (w_no 74 rfl (by kernel_rfl) (by kernel_rfl) (at_dep rfl rfl rfl) rfl) (at_top rfl)) ?_
     refine bl_cons 15 rfl (isV undef) (stab_isV _) (rg_no rfl (w_no 74 rfl (by kernel_rfl) (by kernel_rfl) (at_dep rfl rfl rfl) rfl) (at_top rfl)) ?_
     refine bl_cons 16 rfl (isV undef) (stab_isV _) (rg_no rfl (w_no 74 rfl (by kernel_rfl) (by kernel_rfl) (at_dep rfl rfl rfl) rfl) (at_top rfl)) ?_
     refine bl_cons 17 rfl (isV undef) (stab_isV _) (rg_no rfl (w_no 74 rfl (by kernel_rfl) (by kernel_rfl) (at_dep rfl rfl rfl) rfl) (at_top rfl)) ?_
     refine bl_cons 18 rfl (isV _) (stab_isV _) (rgV (li := [(74, _)]) rfl (w_free rfl) ⟨g_dep 8 (by kernel_rfl) (at_dep rfl rfl rfl), trivial⟩ (fun w hw => rn_pickT rfl rfl) (at_top rfl)) ?_
     refine bl_nil ?_
     intro W21 hbR hS'
     clear hS; have hS := hS'; clear hS'
     refine fin_v ?_
     refine fin_v ?_
     refine fin_v ?_
     refine fin_v ?_
     refine fin_v ?_
     refine fin_v ?_
     refine fin_v ?_
     refine fin_v ?_
     refine fin_v ?_
     refine fin_v ?_
     refine fin_v ?_
     refine fin_v ?_
     refine fin_v ?_
     refine fin_v ?_
     refine fin_v ?_
     refine fin_v ?_
     refine fin_v ?_
     refine fin_v ?_
     refine fin_nil ?_
     refine XF.thenN ?_
     refine condT rfl ?_
     refine seqF (regF ?_)
     refine op_build (us := []) rfl (bld_31) rfl ?_
     refine op_build (us := []) rfl (bld_47) rfl ?_
     refine op_move rfl rfl ?_
     refine op_storeA (i := 4) (vs := [_, _]) (cs' := [_, _]) (O' := [_, _, _, _, _, _, _]) hS Tryd.sizeOf31 rfl rfl rfl rfl rfl rfl rfl ?_
     clear hS; intro W22 hS
     refine op_storeA (i := 3) (vs := [_, _, _, _, _, _]) (cs' := [_, _, _, _, _, _]) (O' := [_, _, _, _, _, _, _]) hS Tryd.sizeOf47 rfl rfl rfl rfl rfl rfl rfl ?_
     clear hS; intro W23 hS
     refine op_assign rfl rfl ?_
     refine op_assign rfl rfl ?_
     refine endF (XF.thenN ?_)
     refine retF ?_
     refine XF.thenR ?_
     refine XF.blkR ?_
     refine XF.thenR ?_
     refine XF.thenR ?_
     refine XF.blkR ?_
     refine XF.thenR ?_
     refine XF.res (resCCTT (vs := [_, _]) (us := [_, _, _, _, _, _]) Tryd.results11 Tryd.isAgg31 Tryd.sizeOf31 rfl (CellsAt.own (j := 0) (m := 2) (hS.at_ 4 rfl) rfl) Tryd.isAgg47 Tryd.sizeOf47 rfl (CellsAt.own (j := 0) (m := 6) (hS.at_ 3 rfl) rfl) rfl rfl) ?_
     rw [← hrun, runF_err hE]
     exact runRet_none hS.below
    ·subst h1
     have hlt : (y2 :: t).length = t.length + 1 := rfl
     rcases ownsRow_cells (a := a) (c := c) (n := (y2 :: t).length) (hS.row 0 rfl) with ⟨_, h0⟩ | ⟨b3, rfl, hb3, hcell⟩
     ·exact absurd h0 (by simp)
     have k3 : W17.cell? ⟨b3, 0 + t.length * 1, none⟩ = some (.int .i64 y2) := by rw [Nat.zero_add, Nat.mul_one]; exact hcell _ _ top_at
     refine regB (m := 18) followsM hS (by kernel_rfl) (by kernel_rfl) rfl ?_
     refine bl_cons 1 rfl (isV _) (stab_isV _) (rgV (li := [(18, _)]) rfl (w_free rfl) ⟨g_fr (by kernel_rfl) rfl, trivial⟩ (fun w hw => rn_move rfl) (at_top rfl)) ?_
     refine bl_cons 2 rfl (isV (.bool false)) (stab_isV _) (rgVe (li := [(66, _)]) rfl (w_free rfl) ⟨g_dep 0 (by kernel_rfl) (at_dep rfl rfl rfl), trivial⟩ (fun w hw => rn_eql rfl rfl) (by rw [decide_eq_false (by omega)]) (at_top rfl)) ?_
     refine bl_cons 3 rfl (isV _) (stab_isV _) (rgV (li := [(67, _)]) rfl (w_free rfl) ⟨g_dep 1 (by kernel_rfl) (at_dep rfl rfl rfl), trivial⟩ (fun w hw => rn_move rfl) (at_top rfl)) ?_
     refine bl_cons 4 rfl (isV _) (stab_isV _) (rgV (li := [(17, _)]) rfl (w_yes 68 rfl (by kernel_rfl) (by kernel_rfl) (at_dep rfl rfl rfl)) ⟨g_fr (by kernel_rfl) rfl, trivial⟩ (fun w hw => rn_field (o' := 0) fa_69_0 rfl rfl) (at_top rfl)) ?_
     refine bl_cons 5 rfl (isV _) (stab_isV _) (rgV (li := [(69, _)]) rfl (w_yes 68 rfl (by kernel_rfl) (by kernel_rfl) (at_dep rfl rfl rfl)) ⟨g_dep 3 (by kernel_rfl) (at_dep rfl rfl rfl), trivial⟩ (fun w hw => rn_load Tryd.isAgg3 rfl ((below_agree hw 0).cell (Nat.zero_le _) (cell_own (hS.at_ 0 rfl) rfl))) (at_top rfl)) ?_
     refine bl_cons 6 rfl (isV _) (stab_isV _) (rgV (li := [(13, _)]) rfl (w_yes 68 rfl (by kernel_rfl) (by kernel_rfl) (at_dep rfl rfl rfl)) ⟨g_fr (by kernel_rfl) rfl, trivial⟩ (fun w hw => rn_move rfl) (at_top rfl)) ?_
     refine bl_cons 7 rfl (isV (.bool false)) (stab_isV _) (rgVe (li := [(70, _), (71, _)]) rfl (w_yes 68 rfl (by kernel_rfl) (by kernel_rfl) (at_dep rfl rfl rfl)) ⟨g_dep 4 (by kernel_rfl) (at_dep rfl rfl rfl), g_dep 5 (by kernel_rfl) (at_dep rfl rfl rfl), trivial⟩ (fun w hw => rn_neq rfl rfl) (by rw [decide_eq_false (fun h => h h2)]) (at_top rfl)) ?_
     refine bl_cons 8 rfl (isV _) (stab_isV _) (rgV (li := [(68, _), (72, _)]) rfl (w_free rfl) ⟨g_dep 2 (by kernel_rfl) (at_dep rfl rfl rfl), g_dep 6 (by kernel_rfl) (at_dep rfl rfl rfl), trivial⟩ (fun w hw => rn_pickF rfl rfl) (at_top rfl)) ?_
     refine bl_cons 9 rfl (isV _) (stab_isV _) (rgV (li := [(73, _)]) rfl (w_free rfl) ⟨g_dep 7 (by kernel_rfl) (at_dep rfl rfl rfl), trivial⟩ (fun w hw => rn_move rfl) (at_top rfl)) ?_
     refine bl_cons 10 rfl (isV _) (stab_isV _) (rgV (li := [(17, _)]) rfl (w_yes 74 rfl (by kernel_rfl) (by kernel_rfl) (at_dep rfl rfl rfl)) ⟨g_fr (by kernel_rfl) rfl, trivial⟩ (fun w hw => rn_field (o' := 1) fa_69_1 rfl rfl) (at_top rfl)) ?_
     refine bl_cons 11 rfl (isV _) (stab_isV _) (rgV (li := [(75, _)]) rfl (w_yes 74 rfl (by kernel_rfl) (by kernel_rfl) (at_dep rfl rfl rfl)) ⟨g_dep 9 (by kernel_rfl) (at_dep rfl rfl rfl), trivial⟩ (fun w hw => rn_load Tryd.isAgg3 rfl ((below_agree hw 0).cell (Nat.zero_le _) (cell_own (hS.at_ 0 rfl) rfl))) (at_top rfl)) ?_
     refine bl_cons 12 rfl (isV _) (stab_isV _) (rgV (li := [(14, _)]) rfl (w_yes 74 rfl (by kernel_rfl) (by kernel_rfl) (at_dep rfl rfl rfl)) ⟨g_fr (by kernel_rfl) rfl, trivial⟩ (fun w hw => rn_move rfl) (at_top rfl)) ?_
     refine bl_cons 13 rfl (isV _) (stab_isV _) (rgV (li := [(18, _)]) rfl (w_yes 74 rfl (by kernel_rfl) (by kernel_rfl) (at_dep rfl rfl rfl)) ⟨g_fr (by kernel_rfl) rfl, trivial⟩ (fun w hw => rn_move rfl) (at_top rfl)) ?_
     refine bl_cons 14 rfl (isV _) (stab_isV _) (rgV (li := [(78, _)]) rfl (w_yes 74 rfl (by kernel_rfl) (by kernel_rfl) (at_dep rfl rfl rfl)) ⟨g_dep 12 (by kernel_rfl) (at_dep rfl rfl rfl), trivial⟩ (fun w hw => rn_sub rfl rfl (IntWalk.i64_in _ (by omega))) (at_top rfl)) ?_
     refine bl_cons 15 rfl (isV _) (stab_isV _) (rgV (li := [(77, _), (79, _)]) rfl (w_yes 74 rfl (by kernel_rfl) (by kernel_rfl) (at_dep rfl rfl rfl)) ⟨g_dep 11 (by kernel_rfl) (at_dep rfl rfl rfl), g_dep 13 (by kernel_rfl) (at_dep rfl rfl rfl), trivial⟩ (fun w hw => rn_indexA (j := t.length) Tryd.underlying29 Tryd.sizeOf3 rfl rfl (by omega) (by omega) rfl) (at_top rfl)) ?_
     refine bl_cons 16 rfl (isV _) (stab_isV _) (rgV (li := [(80, _)]) rfl (w_yes 74 rfl (by kernel_rfl) (by kernel_rfl) (at_dep rfl rfl rfl)) ⟨g_dep 14 (by kernel_rfl) (at_dep rfl rfl rfl), trivial⟩ (fun w hw => rn_load Tryd.isAgg3 rfl ((below_agree hw 0).cell (Nat.zero_le _) (by assumption))) (at_top rfl)) ?_
     refine bl_cons 17 rfl (isV _) (stab_isV _) (rgV (li := [(76, _), (81, _)]) rfl (w_yes 74 rfl (by kernel_rfl) (by kernel_rfl) (at_dep rfl rfl rfl)) ⟨g_dep 10 (by kernel_rfl) (at_dep rfl rfl rfl), g_dep 15 (by kernel_rfl) (at_dep rfl rfl rfl), trivial⟩ (fun w hw => rn_neq rfl rfl) (at_top rfl)) ?_
     refine bl_cons 18 rfl (isV _) (stab_isV _) (rgV (li := [(74, _), (82, _)]) rfl (w_free rfl) ⟨g_dep 8 (by kernel_rfl) (at_dep rfl rfl rfl), g_dep 16 (by kernel_rfl) (at_dep rfl rfl rfl), trivial⟩ (fun w hw => rn_pickF rfl rfl) (at_top rfl)) ?_
     refine bl_nil ?_
     intro W24 hbR hS'
     clear hS; have hS := hS'; clear hS'
     refine fin_v ?_
     refine fin_v ?_
     refine fin_v ?_
     refine fin_v ?_
     refine fin_v ?_
     refine fin_v ?_
     refine fin_v ?_
     refine fin_v ?_
     refine fin_v ?_
     refine fin_v ?_
     refine fin_v ?_
     refine fin_v ?_
     refine fin_v ?_
     refine fin_v ?_
     refine fin_v ?_
     refine fin_v ?_
     refine fin_v ?_
     refine fin_v ?_
     refine fin_nil ?_
     refine XF.thenN ?_
     refine condF rfl (fun hc => ?_) (fun hc => ?_)
     ·have hc83 := hc; clear hc
      have hne := of_decide_eq_true hc83
      have hE : runStep S px rs (yn : Int) (q, y2 :: t, x) = .error 121 := by rw [hst]; simp [appB, h2, Ne.symm hne]
      refine seqF (regF ?_)
      refine op_build (us := []) rfl (bld_31) rfl ?_
      refine op_build (us := []) rfl (bld_47) rfl ?_
      refine op_move rfl rfl ?_
      refine op_storeA (i := 4) (vs := [_, _]) (cs' := [_, _]) (O' := [_, _, _, _, _, _, _]) hS Tryd.sizeOf31 rfl rfl rfl rfl rfl rfl rfl ?_
      clear hS; intro W25 hS
      refine op_storeA (i := 3) (vs := [_, _, _, _, _, _]) (cs' := [_, _, _, _, _, _]) (O' := [_, _, _, _, _, _, _]) hS Tryd.sizeOf47 rfl rfl rfl rfl rfl rfl rfl ?_
      clear hS; intro W26 hS
      refine op_assign rfl rfl ?_
      refine op_assign rfl rfl ?_
      refine endF (XF.thenN ?_)
      refine retF ?_
      refine XF.thenR ?_
      refine XF.blkR ?_
      refine XF.thenR ?_
      refine XF.thenR ?_
      refine XF.blkR ?_
      refine XF.thenR ?_
      refine XF.res (resCCTT (vs := [_, _]) (us := [_, _, _, _, _, _]) Tryd.results11 Tryd.isAgg31 Tryd.sizeOf31 rfl (CellsAt.own (j := 0) (m := 2) (hS.at_ 4 rfl) rfl) Tryd.isAgg47 Tryd.sizeOf47 rfl (CellsAt.own (j := 0) (m := 6) (hS.at_ 3 rfl) rfl) rfl rfl) ?_
      rw [← hrun, runF_err hE]
      exact runRet_none hS.below
     ·have hc83 := hc; clear hc
      have hgy : y2 = rg := (Decidable.of_not_not (of_decide_eq_false hc83)).symm
      have happ : appB ⟨rp, rg, rq, rwa, rwl, rwc, rws, rx⟩ q (y2 :: t) = true := by simp [appB, h2, hgy]
      refine skipF ?_
      refine XF.thenN ?_
      refine seqF ?_
      refine seqF (regF ?_)
      refine op_move rfl rfl ?_
      refine op_sub rfl rfl (IntWalk.i64_in _ (by omega)) rfl ?_
      refine op_field (o' := 3) fa_69_3 rfl rfl rfl ?_
      refine op_load Tryd.isAgg29 rfl (cell_own (hS.at_ 0 rfl) rfl) rfl ?_
      refine op_len Tryd.underlying29 rfl rfl ?_
      refine op_add rfl rfl (IntWalk.i64_in _ (by omega)) rfl ?_
      refine op_gtr rfl rfl rfl ?_
      refine endF (XF.thenN ?_)
      refine condF rfl (fun hc => ?_) (fun hc => ?_)
      ·have hc93 := of_decide_eq_true hc; clear hc
       have hE : runStep S px rs (yn : Int) (q, y2 :: t, x) = .error 2 := by rw [hst, if_neg (by rw [happ]; simp), if_pos (by omega)]
       refine seqF (regF ?_)
       refine op_build (us := []) rfl (bld_31) rfl ?_
       refine op_build (us := []) rfl (bld_47) rfl ?_
       refine op_move rfl rfl ?_
       refine op_storeA (i := 4) (vs := [_, _]) (cs' := [_, _]) (O' := [_, _, _, _, _, _, _]) hS Tryd.sizeOf31 rfl rfl rfl rfl rfl rfl rfl ?_
       clear hS; intro W27 hS
       refine op_storeA (i := 3) (vs := [_, _, _, _, _, _]) (cs' := [_, _, _, _, _, _]) (O' := [_, _, _, _, _, _, _]) hS Tryd.sizeOf47 rfl rfl rfl rfl rfl rfl rfl ?_
       clear hS; intro W28 hS
       refine op_assign rfl rfl ?_
       refine op_assign rfl rfl ?_
       refine endF (XF.thenN ?_)
       refine retF ?_
       refine XF.thenR ?_
       refine XF.blkR ?_
       refine XF.thenR ?_
       refine XF.thenR ?_
       refine XF.blkR ?_
       refine XF.thenR ?_
       refine XF.res (resCCTT (vs := [_, _]) (us := [_, _, _, _, _, _]) Tryd.results11 Tryd.isAgg31 Tryd.sizeOf31 rfl (CellsAt.own (j := 0) (m := 2) (hS.at_ 4 rfl) rfl) Tryd.isAgg47 Tryd.sizeOf47 rfl (CellsAt.own (j := 0) (m := 6) (hS.at_ 3 rfl) rfl) rfl rfl) ?_
       rw [← hrun, runF_err hE]
       exact runRet_none hS.below
      ·have hc93 := of_decide_eq_false hc; clear hc
       have hO : runStep S px rs (yn : Int) (q, y2 :: t, x) = .ok (rq, rws ++ t, extX S x (px ⟨rp, rg, rq, rwa, rwl, rwc, rws, rx⟩)) := by rw [hst, if_neg (by rw [happ]; simp), if_neg (by omega)]; rfl
       refine skipF ?_
       refine XF.thenN ?_
       refine seqF (regF ?_)
       refine op_move rfl rfl ?_
       refine op_move rfl rfl ?_
       refine op_sub rfl rfl (IntWalk.i64_in _ (by omega)) rfl ?_
       refine op_cut (k := t.length) hS 0 Tryd.underlying29 Tryd.sizeOf3 rfl rfl rfl (by omega) (by omega) rfl ?_
       intro hS'; clear hS; have hS := hS'; clear hS'
       refine op_assign rfl rfl ?_
       refine endF (XF.thenN ?_)
       refine seqF ?_
       refine seqF ?_
       have hS := hS.castG (congrArg (fun z => [GR.mk (.slice (some ⟨b3, 0, none⟩) t.length c) t.length z 3 1]) (top_cut (rws := rws)))
       refine regF ?_
       refine op_field (o' := 3) fa_69_3 rfl rfl rfl ?_
       refine op_load Tryd.isAgg29 rfl (cell_own (hS.at_ 0 rfl) rfl) rfl ?_
       refine op_len Tryd.underlying29 rfl rfl ?_
       refine op_move rfl rfl ?_
       refine endF (XF.thenN ?_)
       refine blockF ?_
       refine loopF (fun m2 l W => ∃ (j : Nat) (v : Value), j ≤ rwl ∧ m2 = rwl - j ∧ l = [(3, .pointer (some ⟨B1, 0, none⟩)), (6, .pointer (some ⟨B3, 0, none⟩)), (7, .pointer (some ⟨B4, 0, none⟩)), (11, .pointer (some ⟨B7, 0, none⟩)), (12, .pointer (some ⟨(Bf9 4), 0, none⟩)), (13, .int .i64 q), (14, v), (15, .int .i64 (k : Int)), (17, .pointer (some ⟨B16, 0, none⟩)), (40, .slice (some ⟨b0, off0, none⟩) ll lc), (41, .int .i64 (ll : Int)), (42, .int .i64 (k : Int)), (103, .int .i64 (rwl : Int)), (104, .int .i64 (j : Int))] ∧ St w [(B16, [.int .i64 rp, .int .i64 rg, .int .i64 rq, .slice rwa rwl rwc, .bool rx.f.z, .int .i64 rx.f.c, .int .u64 (rx.f.g : Int), .slice rx.f.ra rx.f.rl rx.f.rc, .slice rx.f.ca rx.f.cl rx.f.cc, .slice rx.f.pa rx.f.pl rx.f.pc], 69), ((Bf9 4), f.six, 47), (B7, [.int .i64 s.f.tag, .int .i64 s.f.dim, .slice s.f.a s.f.len s.f.cap, .bool f0.z, .int .i64 f0.c, .int .u64 (f0.g : Int), .slice f0.ra f0.rl f0.rc, .slice f0.ca f0.cl f0.cc, .slice f0.pa f0.pl f0.pc], 77), (B4, [.bool false, .int .i64 0, .int .u64 0, .slice none 0 0, .slice none 0 0, .slice none 0 0], 47), (B3, [.int .i64 0, .slice none 0 0], 31), (B2, [.int .i64 p, .slice wa wl wc], 31), (B1, [.int .i64 s.f.tag, .int .i64 s.f.dim, .slice s.f.a s.f.len s.f.cap, .int .i64 st, .int .i64 sy, .slice (some ⟨b2, off2, none⟩) rl rc], 28)] [⟨v, t.length + j, (t.reverse ++ rws.reverse.take j).map (Value.int .i64), 3, 1⟩] Kk W) (rwl - 0) ([(3, _), (6, _), (7, _), (11, _), (12, _), (13, _), (14, _), (15, _), (17, _), (40, _), (41, _), (42, _), (103, _), (104, _)]) ⟨rfl, rfl, rfl, rfl, rfl, rfl, rfl, rfl, rfl, rfl, rfl, rfl, rfl, rfl, trivial⟩ (⟨0, _, Nat.zero_le _, rfl, rfl, hS.keep Kk (fun q hq => List.mem_cons_of_mem _ hq)⟩) ?_
       clear hS
       rintro m2 l W ⟨j, v, hj, rfl, rfl, hS⟩
       refine seqF (regF ?_)
       refine op_lss rfl rfl rfl ?_
       refine endF (XF.thenN ?_)
       refine seqF ?_
       refine condF rfl (fun hc => ?_) (fun hc => ?_)
       ·have hc105 := of_decide_eq_true hc; clear hc
        have hj1 : j < rwl := by omega
        obtain ⟨b4, off4, y4, rfl, hy4, hy4c⟩ := hrw.at1 (i := rwl - 1 - j) (show rwl - 1 - j < rws.length by omega)
        have k4 := hS.old hy4c
        refine skipF ?_
        refine XF.thenN ?_
        refine seqF ?_
        refine blockF ?_
        refine seqF (regF ?_)
        refine op_move rfl rfl ?_
        refine op_assign rfl rfl ?_
        refine endF (XF.thenN ?_)
        refine regF ?_
        refine op_move rfl rfl ?_
        refine op_field (o' := 3) fa_69_3 rfl rfl rfl ?_
        refine op_load Tryd.isAgg29 rfl (cell_own (hS.at_ 0 rfl) rfl) rfl ?_
        refine op_field (o' := 3) fa_69_3 rfl rfl rfl ?_
        refine op_load Tryd.isAgg29 rfl (cell_own (hS.at_ 0 rfl) rfl) rfl ?_
        refine op_len Tryd.underlying29 rfl rfl ?_
        refine op_sub rfl rfl (IntWalk.i64_in _ (by omega)) rfl ?_
        refine op_move rfl rfl ?_
        refine op_sub rfl rfl (IntWalk.i64_in _ (by omega)) rfl ?_
        refine op_indexA (j := rwl - 1 - j) Tryd.underlying29 Tryd.sizeOf3 rfl rfl (by omega) (by omega) rfl rfl ?_
        refine op_load Tryd.isAgg3 rfl (by first | assumption | exact hS.old (by assumption)) rfl ?_
        refine op_buildSlice (us := [(0, .int .i64 _)]) hS Tryd.underlying29 Tryd.sizeOf3 Tryd.zeroValue3 rfl rfl rfl (bs_29_1 _) rfl ?_
        clear hS; intro B29 W29 hS
        refine op_append (i := 0) (news := [_]) hS Tryd.underlying29 inf_3 rfl rfl (by show 0 < 1; decide) rfl rfl rfl rfl rfl (CellsAt.own (j := 0) (m := 1) (hS.at_ 0 rfl) rfl) rfl rfl (by simp only [maxLen]; omega) (by show (t.length + j + 1) * 8 ≤ _; omega) rfl ?_
        clear hS; intro v30 W30 hS
        have hS := hS.castG (congrArg (fun z => [GR.mk v30 (t.length + (j + 1)) z 3 1]) (take_app hy4 hrwl hj1))
        refine op_assign rfl rfl ?_
        refine endF ?_
        refine XF.blkN ?_
        refine XF.thenN ?_
        refine regF ?_
        refine op_add rfl rfl (IntWalk.i64_in _ (by omega)) rfl ?_
        refine op_move rfl rfl ?_
        refine endF ?_
        exact XF.round (rwl - (j + 1)) [(3, _), (6, _), (7, _), (11, _), (12, _), (13, _), (14, _), (15, _), (17, _), (40, _), (41, _), (42, _), (103, _), (104, _)] (by omega) ⟨rfl, rfl, rfl, rfl, rfl, rfl, rfl, rfl, rfl, rfl, rfl, rfl, rfl, rfl, trivial⟩ ⟨j + 1, _, by omega, rfl, rfl, hS.tail⟩
       ·have hc105 := of_decide_eq_false hc; clear hc
        have hjr : j = rwl := by omega
        have hS := hS.castG (G' := [⟨v, (rws ++ t).length, (rws ++ t).reverse.map (Value.int .i64), 3, 1⟩]) (by rw [show t.length + j = (rws ++ t).length by simp; omega, show t.reverse ++ rws.reverse.take j = (rws ++ t).reverse by rw [List.take_of_length_le (by simp; omega)]; simp])
        refine exitF ?_
        refine XF.thenX ?_
        refine XF.thenX ?_
        refine XF.blkX ?_
        refine XF.thenN ?_
        have hsz := hS.below.size
        have hXw := hX.now hS
        have hrxw := hrx.below hS.below
        refine regBK followsM 9 hS rfl rfl (by kernel_rfl) (by kernel_rfl) (by kernel_rfl) (fun d hd => by cases hd) ?_
        refine bl_cons 1 rfl (isV _) (stab_isV _) (rgV (li := [(17, _)]) rfl (w_free rfl) ⟨g_fr (by kernel_rfl) rfl, trivial⟩ (fun w hw => rn_field (o' := 2) fa_69_2 rfl rfl) (at_top rfl)) ?_
        refine bl_cons 2 rfl (isV _) (stab_isV _) (rgV (li := [(121, _)]) rfl (w_free rfl) ⟨g_dep 0 (by kernel_rfl) (at_dep rfl rfl rfl), trivial⟩ (fun w hw => rn_load Tryd.isAgg3 rfl ((below_agree hw 0).cell (Nat.zero_le _) (cell_own (hS.at_ 0 rfl) rfl))) (at_top rfl)) ?_
        refine bl_cons 3 rfl (isV _) (stab_isV _) (rgV (li := [(11, _)]) rfl (w_free rfl) ⟨g_fr (by kernel_rfl) rfl, trivial⟩ (fun w hw => rn_loadA (vs := [_, _, _, _, _, _, _, _, _]) Tryd.isAgg77 Tryd.sizeOf77 rfl (CellsAt.agree (below_agree hw 0) (Nat.zero_le _) (CellsAt.own (j := 0) (m := 9) (hS.at_ 2 rfl) rfl))) (at_top rfl)) ?_
        refine bl_cons 4 rfl (isX S x) (stab_isX) (rgP (li := [(12, _)]) rfl (w_free rfl) ⟨g_fr (by kernel_rfl) rfl, trivial⟩ (fun w hw => rn_loadA (vs := [_, _, _, _, _, _]) Tryd.isAgg47 Tryd.sizeOf47 rfl (CellsAt.agree (below_agree hw 0) (Nat.zero_le _) (CellsAt.own (j := 0) (m := 6) (hS.at_ 1 rfl) rfl))) (fun w hw => isX_of hXw hw) (at_top rfl)) ?_
        refine bl_cons 5 rfl (isV _) (stab_isV _) (rgV (li := [(17, _)]) rfl (w_free rfl) ⟨g_fr (by kernel_rfl) rfl, trivial⟩ (fun w hw => rn_field (o' := 4) fa_69_4 rfl rfl) (at_top rfl)) ?_
        refine bl_cons 6 rfl (isX S (px ⟨rp, rg, rq, rwa, rwl, rwc, rws, rx⟩)) (stab_isX) (rgP (li := [(125, _)]) rfl (w_free rfl) ⟨g_dep 4 (by kernel_rfl) (at_dep rfl rfl rfl), trivial⟩ (fun w hw => rn_loadA (vs := [_, _, _, _, _, _]) Tryd.isAgg47 Tryd.sizeOf47 rfl (CellsAt.agree (below_agree hw 0) (Nat.zero_le _) (CellsAt.own (j := 4) (m := 6) (hS.at_ 0 rfl) rfl))) (fun w hw => ⟨rx.f, rfl, hrxw.below hw⟩) (at_top rfl)) ?_
        refine bl_cons 7 rfl (isRowX S [x, px ⟨rp, rg, rq, rwa, rwl, rwc, rws, rx⟩]) (stab_isRowX) (rg_rowX2 rfl (w_free rfl) ⟨p_tmp (g_dep 3 (by kernel_rfl) (at_dep rfl rfl rfl)), p_tmp (g_dep 5 (by kernel_rfl) (at_dep rfl rfl rfl)), trivial⟩ (at_top rfl)) ?_
        refine bl_cons 8 rfl (isNew W.heap.size S (extX S x (px ⟨rp, rg, rq, rwa, rwl, rwc, rws, rx⟩))) (stab_isNew) (rg_call [isV (ringV s.f f0), isRowX S [x, px ⟨rp, rg, rq, rwa, rwl, rwc, rws, rx⟩]] rfl goes_31 (w_free rfl) ⟨p_tmp (g_dep 2 (by kernel_rfl) (at_dep rfl rfl rfl)), p_tmp (g_dep 6 (by kernel_rfl) (at_dep rfl rfl rfl)), trivial⟩ (fun vs w' hb hh => times2 hh (hsi.below (hS.below.trans (hb.mono hS.below.size))) hok (ht.below (hS.below.trans (hb.mono hS.below.size))) hb.size) (at_top rfl)) ?_
        refine bl_cons 9 rfl (isV _) (stab_isV _) (rgV (li := [(122, _)]) rfl (w_free rfl) ⟨g_dep 1 (by kernel_rfl) (at_dep rfl rfl rfl), trivial⟩ (fun w hw => rn_assign rfl) (at_top rfl)) ?_
        refine bl_nil ?_
        intro W31 hbR hS'
        clear hS; have hS := hS'; clear hS'
        refine fin_v ?_
        refine fin_v ?_
        refine fin_v ?_
        refine fin_p ?_; rintro _ _
        refine fin_v ?_
        refine fin_p ?_; rintro _ _
        refine fin_p ?_; rintro _ _
        refine fin_p ?_; rintro _ ⟨f2, rfl, hn2⟩
        refine fin_v ?_
        refine fin_nil ?_
        refine op_storeA (i := 1) (vs := [_, _, _, _, _, _]) (cs' := [_, _, _, _, _, _]) (O' := [_, _, _, _, _, _, _]) hS Tryd.sizeOf47 rfl rfl rfl rfl rfl rfl rfl ?_
        clear hS; intro W32 hS
        refine endF ?_
        refine XF.blkN ?_
        refine XF.thenN ?_
        refine regF ?_
        refine op_add rfl rfl (IntWalk.i64_in _ (by omega)) rfl ?_
        refine op_move rfl rfl ?_
        refine endF ?_
        exact XF.round (ll - (k + 1)) [(3, _), (6, _), (7, _), (11, _), (12, _), (13, _), (14, _), (40, _), (41, _), (42, _)] (by omega) ⟨rfl, rfl, rfl, rfl, rfl, rfl, rfl, rfl, rfl, rfl, trivial⟩ ⟨k + 1, rq, rws ++ t, extX S x (px ⟨rp, rg, rq, rwa, rwl, rwc, rws, rx⟩), f2, v, [(_, _)], by omega, rfl, rfl, by rw [← hrun, runF_ok hO], by simp; omega, Held.one (fun W2 hg => ⟨f2, rfl, (hn2.agree hg).mono hsz⟩), hS.tail.keep [_] (fun q hq => by simp at hq; subst hq; exact List.mem_cons_self)⟩
 ·have hc43 := of_decide_eq_false hc; clear hc
  rw [List.drop_of_length_le (by omega)] at hrun
  refine exitF ?_
  refine XF.thenX ?_
  refine XF.thenX ?_
  refine XF.blkX ?_
  refine XF.thenN ?_
  refine seqF (regF ?_)
  refine op_move rfl rfl ?_
  refine op_rev (zs := us.reverse) hS 0 goes_30 rfl rfl Tryd.slices_Reverse_int Tryd.slices_Reverse_int_empty rfl ?_
  clear hS; intro W33 hS
  refine endF (XF.thenN ?_)
  refine seqF ?_
  refine regS (ef := 4) (jy := 8) (ca := caNo (fun _ => [])) (ta := fun _ => 0) (Os := osSt _ 3 0 B3 ([.int .i64 0, .slice none 0 0]) ([.int .i64 q, .slice a us.length c]) 31) (Gs := gsNo _) (al := []) (k := 5) (ds := [8, 9]) followsM rfl hS rfl (by kernel_rfl) (by kernel_rfl) rfl (by decide) rfl (some) (.inl ⟨rfl, rfl⟩) rfl rfl ?_
  refine bls_cons 1 rfl rfl (isV _) (fun hNo => sgV [(13, _)] rfl rfl rfl rfl hNo (w_free rfl) ⟨g_fr (by kernel_rfl) rfl, trivial⟩ (fun ev w he hw => rn_move rfl) (at_top rfl)) ?_
  refine bls_cons 2 rfl rfl (isV _) (fun hNo => sgV [(14, _)] rfl rfl rfl rfl hNo (w_free rfl) ⟨g_fr (by kernel_rfl) rfl, trivial⟩ (fun ev w he hw => rn_move rfl) (at_top rfl)) ?_
  refine bls_cons 3 rfl rfl (isV _) (fun hNo => sgV [(132, _), (133, _)] rfl rfl rfl rfl hNo (w_free rfl) ⟨g_dep 0 (by kernel_rfl) (at_dep rfl rfl rfl), g_dep 1 (by kernel_rfl) (at_dep rfl rfl rfl), trivial⟩ (fun ev w he hw => rn_build (us := [(0, .int .i64 _), (1, .slice _ _ _)]) rfl (bld_31_0_1 _ _ _ _)) (at_top rfl)) ?_
  refine bls_cons 4 rfl rfl (isV _) (fun hNo => sgV [(12, _)] rfl rfl rfl rfl hNo (w_free rfl) ⟨g_fr (by kernel_rfl) rfl, trivial⟩ (fun ev w he hw => rn_loadA (vs := [_, _, _, _, _, _]) Tryd.isAgg47 Tryd.sizeOf47 rfl ((CellsAt.own (j := 0) (m := 6) (hw.at_ 0 (osSt_at (i := 0) (j := 3) rfl rfl)) rfl))) (at_top rfl)) ?_
  refine bls_any 5 rfl (eff_stO (m := 2) 3 0 [(6, _), (134, _)] rfl rfl rfl rfl (fun j hj => by rcases hj with h | rfl <;> first | (cases h <;> rfl) | rfl) ⟨g_fr (by kernel_rfl) rfl, g_dep 2 (by kernel_rfl) (at_dep rfl rfl rfl), trivial⟩ rfl rfl rfl Tryd.sizeOf31 rfl rfl rfl rfl) ?_
  refine bls_nil ?_
  intro Bf34 y34 W34 Ks34 hsz34 hKs34 hS' hcov34
  clear hS; have hS := hS'.castO (O' := [_, _, _, _, _, _]) rfl; clear hS'
  refine castL (L' := [AwS _ _ (isV _), AwS _ _ (isV _), AwS _ _ (isV _), AwS _ _ (isV _), isV _]) rfl ?_
  refine fin_sV ?_
  refine fin_sV ?_
  refine fin_sV ?_
  refine fin_sV ?_
  refine fin_0 ?_
  refine fin_nil ?_
  refine op_storeA (i := 2) (vs := [_, _, _, _, _, _]) (cs' := [_, _, _, _, _, _]) (O' := [_, _, _, _, _, _]) hS Tryd.sizeOf47 rfl rfl rfl rfl rfl rfl rfl ?_
  clear hS; intro W35 hS
  refine op_assign rfl rfl ?_
  refine op_assign rfl rfl ?_
  refine endF (XF.thenN ?_)
  refine retF ?_
  refine XF.res (resCCTT (vs := [_, _]) (us := [_, _, _, _, _, _]) Tryd.results11 Tryd.isAgg31 Tryd.sizeOf31 rfl (CellsAt.own (j := 0) (m := 2) (hS.at_ 3 rfl) rfl) Tryd.isAgg47 Tryd.sizeOf47 rfl (CellsAt.own (j := 0) (m := 6) (hS.at_ 2 rfl) rfl) rfl rfl) ?_
  rw [← hrun]
  obtain ⟨f', e', h'⟩ := hX hS (fun q hq => List.mem_append_right _ hq)
  exact ⟨hS.below, a, c, f', congrArg (fun z => Ending.returned (.tuple #[.agg #[.int .i64 q, .slice a us.length c], z, .int .i64 0, .int .i64 0])) e', by have h9 := hS.row 0 rfl; simp only [List.reverse_reverse] at h9; exact h9, h'⟩
end Go.Proofs.YtfkbkekgnoanaaaDoor
namespace Go.Proofs.YtfkbkekgnoanaaaDoor
open Go Go.RowKit
def isPairRow (lo : Nat) (S : PS) (x : PX) : Asr := fun v w => ∃ b, v = .slice (some ⟨b, 0, none⟩) 2 2 ∧ XNew lo w S (pairF b) x
theorem stab_isPairRow {lo : Nat} {S : PS} {x : PX} : Stab (isPairRow lo S x) := fun v w w' ⟨b, h1, h2⟩ hb => ⟨b, h1, h2.below hb⟩
section
variable {n : Nat} {Q : Exit → Act → World → Prop} {l : Fr} {W : World} {ops : Array Oper} {L : List Asr} {i d : Nat} {ty : TypeId} {pos : String} {aft : Array Edge} {gd : Option (Nat × Bool)} {t k u m : Int} {x y : PF} {p q : Operand}
theorem rg_pairRow (hi : ops[i]? = some ⟨some d, .buildSlice 45 2 (List.toArray [(0, p), (1, q)]), ty, pos, aft, gd⟩) (hw : Wants ops L i ⟨some d, .buildSlice 45 2 (List.toArray [(0, p), (1, q)]), ty, pos, aft, gd⟩) (hp : AllP n ops l L i [p, q] [isNew W.heap.size (.one t k) (.one x), isNew W.heap.size (.one u m) (.one y)]) (hI : atI L i = isPairRow W.heap.size (.two t k u m) (.two x y)) : RG Tryd.prog n ops Q l W L i :=
 rg_row [isNew W.heap.size (.one t k) (.one x), isNew W.heap.size (.one u m) (.one y)] hi hw Tryd.underlying45 Tryd.sizeOf47 Tryd.zeroValue47 rfl rfl hp fun vs w hb hh => by
  obtain ⟨v1, v2, rfl, ⟨f, rfl, hf⟩, g, rfl, hg⟩ := holds2 hh
  refine ⟨f.six ++ g.six, bs_45_2 _ _ _ _ _ _ _ _ _ _ _ _, fun B w' hB h1 h2 => ?_⟩
  rw [hI]
  rcases frow2 h1 with h | ⟨b, off, e, h3⟩
  ·cases h
  ·cases e
   exact ⟨B, rfl, pair_new (h3 0 f rfl) (h3 1 g rfl) (by rw [← hB]; exact hb.size) (PNew.below hf h2) (PNew.below hg h2)⟩
end
end Go.Proofs.YtfkbkekgnoanaaaDoor
namespace Go.Proofs.YtfkbkekgnoanaaaDoor
open Go Go.RowKit
theorem oneR_not4 (t n : Int) (sa : Option Addr) (sc : Nat) (w : World) (hp : plainB t n 0 = true) (ht4 : t ≠ 4) :
  Calls Tryd.prog 33 #[.agg #[.int .i64 t, .int .i64 n, .slice sa 0 sc]] w (WRet (.one t n) (.one (oneP t n)) w) := by
 refine enterF (args := [.agg #[.int .i64 t, .int .i64 n, .slice sa 0 sc]]) Tryd.func33 rfl Tryd.ntmps33 rfl ?_
 have hS := St.start w
 refine seqF (regF ?_)
 refine op_box (cs := [_, _, _]) hS rfl rfl rfl ?_
 clear hS; intro B1 W1 hS
 refine op_alloc (cs := [_, _, _, _, _, _]) hS Tryd.zeroValue47 rfl rfl ?_
 clear hS; intro B2 W2 hS
 refine endF (XF.thenN ?_)
 refine seqF (regF ?_)
 refine op_build (us := []) rfl (bld_47) rfl ?_
 refine op_alloc (cs := [_, _, _, _, _, _]) hS Tryd.zeroValue47 rfl rfl ?_
 clear hS; intro B3 W3 hS
 refine op_storeA (i := 0) (vs := [_, _, _, _, _, _]) (cs' := [_, _, _, _, _, _]) (O' := [_, _, _]) hS Tryd.sizeOf47 rfl rfl rfl rfl rfl rfl rfl ?_
 clear hS; intro W4 hS
 refine endF (XF.thenN ?_)
 refine seqF ?_
 refine seqF (regF ?_)
 refine op_field (o' := 0) fa_25_0 rfl rfl rfl ?_
 refine op_load Tryd.isAgg22 rfl (cell_own (hS.at_ 2 rfl) rfl) rfl ?_
 refine endF (XF.thenN ?_)
 refine blockF ?_
 refine seqF (regF ?_)
 refine op_eql rfl rfl rfl ?_
 refine op_assign rfl rfl ?_
 refine endF (XF.thenN ?_)
 refine condF rfl (fun hc => ?_) (fun hc => ?_)
 ·have hc8 := of_decide_eq_true hc; clear hc
  have e3 : t = 3 := hc8
  subst e3
  obtain ⟨m, rfl, hm⟩ := dim3 hp (.inl rfl)
  refine regF ?_
  refine op_field (o' := 1) fa_25_1 rfl rfl rfl ?_
  refine op_load Tryd.isAgg3 rfl (cell_own (hS.at_ 2 rfl) rfl) rfl ?_
  have hsz := hS.below.size
  refine op_call (vs := [_]) hS goes_46 rfl ((oneR_is m _ _ (one_good hm).1 _ (one_good hm).2).mono fun _ _ h => FOwn.ret h) rfl ?_
  rintro e W5 ⟨a1, c1, rfl, hv, hl, hb⟩
  refine ⟨_, rfl, hb, fun hS' => ?_⟩
  clear hS; have hS := hS'; clear hS'
  refine op_move rfl rfl ?_
  refine op_extract rfl rfl rfl ?_
  refine op_extract rfl rfl rfl ?_
  refine op_field (o' := 2) fa_47_2 rfl rfl rfl ?_
  refine op_storeA (i := 0) (vs := [_, _]) (cs' := [_, _, _, _, _, _]) (O' := [_, _, _]) hS Tryd.sizeOf43 rfl rfl rfl rfl rfl rfl rfl ?_
  clear hS; intro W6 hS
  refine endF ?_
  refine XF.blkN ?_
  refine XF.thenN ?_
  refine seqF (regF ?_)
  refine op_loadA (vs := [_, _, _, _, _, _]) Tryd.isAgg47 Tryd.sizeOf47 rfl (CellsAt.own (j := 0) (m := 6) (hS.at_ 0 rfl) rfl) rfl ?_
  refine op_storeA (i := 1) (vs := [_, _, _, _, _, _]) (cs' := [_, _, _, _, _, _]) (O' := [_, _, _]) hS Tryd.sizeOf47 rfl rfl rfl rfl rfl rfl rfl ?_
  clear hS; intro W7 hS
  refine endF (XF.thenN ?_)
  refine retF ?_
  refine XF.res (resC1 (vs := [_, _, _, _, _, _]) Tryd.results33 Tryd.isAgg47 Tryd.sizeOf47 rfl (CellsAt.own (j := 0) (m := 6) (hS.at_ 1 rfl) rfl)) ?_
  exact wret_one (one_f3 hm (hv.agree (fun ad e => (hl ad e).1) (hS.since 0 rfl)) (fun ad e => Nat.le_trans hsz (hl ad e).1)) hS.below
 ·have hc8 := of_decide_eq_false hc; clear hc
  refine seqF (regF ?_)
  refine op_eql rfl rfl rfl ?_
  refine op_assign rfl rfl ?_
  refine endF (XF.thenN ?_)
  refine condF rfl (fun hc => absurd (of_decide_eq_true hc) (by exact ht4)) (fun hc => ?_)
  have hc := of_decide_eq_false hc
  refine seqF (regF ?_)
  refine op_eql rfl rfl rfl ?_
  refine op_assign rfl rfl ?_
  refine endF (XF.thenN ?_)
  refine condF rfl (fun hc => absurd (of_decide_eq_true hc) (by exact plain_ne5 hp)) (fun hc => ?_)
  have hc := of_decide_eq_false hc
  refine skipF ?_
  refine XF.blkN ?_
  refine XF.thenN ?_
  refine seqF (regF ?_)
  refine op_loadA (vs := [_, _, _, _, _, _]) Tryd.isAgg47 Tryd.sizeOf47 rfl (CellsAt.own (j := 0) (m := 6) (hS.at_ 0 rfl) rfl) rfl ?_
  refine op_storeA (i := 1) (vs := [_, _, _, _, _, _]) (cs' := [_, _, _, _, _, _]) (O' := [_, _, _]) hS Tryd.sizeOf47 rfl rfl rfl rfl rfl rfl rfl ?_
  clear hS; intro W8 hS
  refine endF (XF.thenN ?_)
  refine retF ?_
  refine XF.res (resC1 (vs := [_, _, _, _, _, _]) Tryd.results33 Tryd.isAgg47 Tryd.sizeOf47 rfl (CellsAt.own (j := 0) (m := 6) (hS.at_ 1 rfl) rfl)) ?_
  exact wret_one (one_f1 hp hc8 ht4) hS.below
theorem oneR_pair (t n u m : Int) (a1 a2 : Option Addr) (c1 c2 b off sc : Nat) (w : World) (hs1 : S3 w b off ⟨t, n, a1, 0, c1⟩) (hs2 : S3 w b (off + 3) ⟨u, m, a2, 0, c2⟩) (hp1 : plainB t n 0 = true) (hp2 : plainB u m 0 = true) (ih10 : ∀ W : World, Calls Tryd.prog 33 #[.agg #[.int .i64 t, .int .i64 n, .slice a1 0 c1]] W (WRet (.one t n) (.one (oneP t n)) W)) (ih20 : ∀ W : World, Calls Tryd.prog 33 #[.agg #[.int .i64 u, .int .i64 m, .slice a2 0 c2]] W (WRet (.one u m) (.one (oneP u m)) W)) :
  Calls Tryd.prog 33 #[.agg #[.int .i64 5, .int .i64 0, .slice (some ⟨b, off, none⟩) 2 sc]] w (WRet (.two t n u m) (.two (oneP t n) (oneP u m)) w) := by
 refine enterF (args := [.agg #[.int .i64 5, .int .i64 0, .slice (some ⟨b, off, none⟩) 2 sc]]) Tryd.func33 rfl Tryd.ntmps33 rfl ?_
 have hS := St.start w
 refine seqF (regF ?_)
 refine op_box (cs := [_, _, _]) hS rfl rfl rfl ?_
 clear hS; intro B1 W1 hS
 refine op_alloc (cs := [_, _, _, _, _, _]) hS Tryd.zeroValue47 rfl rfl ?_
 clear hS; intro B2 W2 hS
 refine endF (XF.thenN ?_)
 refine seqF (regF ?_)
 refine op_build (us := []) rfl (bld_47) rfl ?_
 refine op_alloc (cs := [_, _, _, _, _, _]) hS Tryd.zeroValue47 rfl rfl ?_
 clear hS; intro B3 W3 hS
 refine op_storeA (i := 0) (vs := [_, _, _, _, _, _]) (cs' := [_, _, _, _, _, _]) (O' := [_, _, _]) hS Tryd.sizeOf47 rfl rfl rfl rfl rfl rfl rfl ?_
 clear hS; intro W4 hS
 refine endF (XF.thenN ?_)
 refine seqF ?_
 refine seqF (regF ?_)
 refine op_field (o' := 0) fa_25_0 rfl rfl rfl ?_
 refine op_load Tryd.isAgg22 rfl (cell_own (hS.at_ 2 rfl) rfl) rfl ?_
 refine endF (XF.thenN ?_)
 refine blockF ?_
 refine seqF (regF ?_)
 refine op_eql rfl rfl rfl ?_
 refine op_assign rfl rfl ?_
 refine endF (XF.thenN ?_)
 refine condF rfl (fun hc => absurd (of_decide_eq_true hc) (by omega)) (fun hc => ?_)
 have hc := of_decide_eq_false hc
 refine seqF (regF ?_)
 refine op_eql rfl rfl rfl ?_
 refine op_assign rfl rfl ?_
 refine endF (XF.thenN ?_)
 refine condF rfl (fun hc => absurd (of_decide_eq_true hc) (by omega)) (fun hc => ?_)
 have hc := of_decide_eq_false hc
 refine seqF (regF ?_)
 refine op_eql rfl rfl rfl ?_
 refine op_assign rfl rfl ?_
 refine endF (XF.thenN ?_)
 refine condF rfl (fun hc => ?_) (fun hc => absurd (of_decide_eq_false hc) (by omega))
 have hc := of_decide_eq_true hc
 have hsz := hS.below.size
 have k1 := CellsAt.agree hS.agree (Nat.zero_le _) hs1.cells
 have k2 := CellsAt.agree hS.agree (Nat.zero_le _) hs2.cells
 have ih1 := fun (W2 : World) (_ : Below W4.heap.size W4 W2) => ih10 W2
 have ih2 := fun (W2 : World) (_ : Below W4.heap.size W4 W2) => ih20 W2
 refine regBK followsM 12 hS rfl rfl (by kernel_rfl) (by kernel_rfl) (by kernel_rfl) (fun d hd => by cases hd) ?_
 refine bl_cons 1 rfl (isV _) (stab_isV _) (rgV (li := [(1, _)]) rfl (w_free rfl) ⟨g_fr (by kernel_rfl) rfl, trivial⟩ (fun w hw => rn_field (o' := 2) fa_25_2 rfl rfl) (at_top rfl)) ?_
 refine bl_cons 2 rfl (isV _) (stab_isV _) (rgV (li := [(35, _)]) rfl (w_free rfl) ⟨g_dep 0 (by kernel_rfl) (at_dep rfl rfl rfl), trivial⟩ (fun w hw => rn_load Tryd.isAgg23 rfl ((below_agree hw 0).cell (Nat.zero_le _) (cell_own (hS.at_ 2 rfl) rfl))) (at_top rfl)) ?_
 refine bl_cons 3 rfl (isV _) (stab_isV _) (rgV (li := [(36, _)]) rfl (w_free rfl) ⟨g_dep 1 (by kernel_rfl) (at_dep rfl rfl rfl), trivial⟩ (fun w hw => rn_indexA (j := 0) Tryd.underlying23 Tryd.sizeOf25 rfl rfl rfl (by omega) (Nat.add_zero _)) (at_top rfl)) ?_
 refine bl_cons 4 rfl (isV _) (stab_isV _) (rgV (li := [(37, _)]) rfl (w_free rfl) ⟨g_dep 2 (by kernel_rfl) (at_dep rfl rfl rfl), trivial⟩ (fun w hw => rn_loadA (vs := [_, _, _]) Tryd.isAgg25 Tryd.sizeOf25 rfl (CellsAt.agree (below_agree hw 0) (Nat.zero_le _) (by assumption))) (at_top rfl)) ?_
 refine bl_cons 5 rfl (isNew W4.heap.size (.one t n) (.one (oneP t n))) (stab_isNew) (rg_call [isV _] rfl goes_33 (w_free rfl) ⟨p_tmp (g_dep 3 (by kernel_rfl) (at_dep rfl rfl rfl)), trivial⟩ (fun vs w' hb hh => by have e := holds_isV (us := [_]) hh; subst e; exact wret_gives hb.size (ih1 _ hb)) (at_top rfl)) ?_
 refine bl_cons 6 rfl (isV _) (stab_isV _) (rgV (li := [(1, _)]) rfl (w_free rfl) ⟨g_fr (by kernel_rfl) rfl, trivial⟩ (fun w hw => rn_field (o' := 2) fa_25_2 rfl rfl) (at_top rfl)) ?_
 refine bl_cons 7 rfl (isV _) (stab_isV _) (rgV (li := [(40, _)]) rfl (w_free rfl) ⟨g_dep 5 (by kernel_rfl) (at_dep rfl rfl rfl), trivial⟩ (fun w hw => rn_load Tryd.isAgg23 rfl ((below_agree hw 0).cell (Nat.zero_le _) (cell_own (hS.at_ 2 rfl) rfl))) (at_top rfl)) ?_
 refine bl_cons 8 rfl (isV _) (stab_isV _) (rgV (li := [(41, _)]) rfl (w_free rfl) ⟨g_dep 6 (by kernel_rfl) (at_dep rfl rfl rfl), trivial⟩ (fun w hw => rn_indexA (j := 1) Tryd.underlying23 Tryd.sizeOf25 rfl rfl rfl (by omega) rfl) (at_top rfl)) ?_
 refine bl_cons 9 rfl (isV _) (stab_isV _) (rgV (li := [(42, _)]) rfl (w_free rfl) ⟨g_dep 7 (by kernel_rfl) (at_dep rfl rfl rfl), trivial⟩ (fun w hw => rn_loadA (vs := [_, _, _]) Tryd.isAgg25 Tryd.sizeOf25 rfl (CellsAt.agree (below_agree hw 0) (Nat.zero_le _) (by assumption))) (at_top rfl)) ?_
 refine bl_cons 10 rfl (isNew W4.heap.size (.one u m) (.one (oneP u m))) (stab_isNew) (rg_call [isV _] rfl goes_33 (w_free rfl) ⟨p_tmp (g_dep 8 (by kernel_rfl) (at_dep rfl rfl rfl)), trivial⟩ (fun vs w' hb hh => by have e := holds_isV (us := [_]) hh; subst e; exact wret_gives hb.size (ih2 _ hb)) (at_top rfl)) ?_
 refine bl_cons 11 rfl (isPairRow W4.heap.size (.two t n u m) (.two (oneP t n) (oneP u m))) (stab_isPairRow) (rg_pairRow rfl (w_free rfl) ⟨p_tmp (g_dep 4 (by kernel_rfl) (at_dep rfl rfl rfl)), p_tmp (g_dep 9 (by kernel_rfl) (at_dep rfl rfl rfl)), trivial⟩ (at_top rfl)) ?_
 refine bl_cons 12 rfl (isV _) (stab_isV _) (rgV (li := [(3, _)]) rfl (w_free rfl) ⟨g_fr (by kernel_rfl) rfl, trivial⟩ (fun w hw => rn_field (o' := 5) fa_47_4 rfl rfl) (at_top rfl)) ?_
 refine bl_nil ?_
 intro W5 hbR hS'
 clear hS; have hS := hS'; clear hS'
 refine fin_v ?_
 refine fin_v ?_
 refine fin_v ?_
 refine fin_v ?_
 refine fin_p ?_; rintro _ ⟨v1, rfl, hn1⟩
 refine fin_v ?_
 refine fin_v ?_
 refine fin_v ?_
 refine fin_v ?_
 refine fin_p ?_; rintro _ ⟨v2, rfl, hn2⟩
 refine fin_p ?_; rintro _ ⟨b9, rfl, hn9⟩
 refine fin_v ?_
 refine fin_nil ?_
 refine op_store (i := 0) (cs' := [_, _, _, _, _, _]) (O' := [_, _, _]) hS Tryd.sizeOf45 rfl rfl rfl rfl rfl rfl rfl ?_
 clear hS; intro W6 hS
 refine endF ?_
 refine XF.blkN ?_
 refine XF.thenN ?_
 refine seqF (regF ?_)
 refine op_loadA (vs := [_, _, _, _, _, _]) Tryd.isAgg47 Tryd.sizeOf47 rfl (CellsAt.own (j := 0) (m := 6) (hS.at_ 0 rfl) rfl) rfl ?_
 refine op_storeA (i := 1) (vs := [_, _, _, _, _, _]) (cs' := [_, _, _, _, _, _]) (O' := [_, _, _]) hS Tryd.sizeOf47 rfl rfl rfl rfl rfl rfl rfl ?_
 clear hS; intro W7 hS
 refine endF (XF.thenN ?_)
 refine retF ?_
 refine XF.res (resC1 (vs := [_, _, _, _, _, _]) Tryd.results33 Tryd.isAgg47 Tryd.sizeOf47 rfl (CellsAt.own (j := 0) (m := 6) (hS.at_ 1 rfl) rfl)) ?_
 exact ⟨pairF b9, rfl, (hn9.agree (hS.since 0 rfl)).mono hsz, hS.below⟩
end Go.Proofs.YtfkbkekgnoanaaaDoor
namespace Go.Proofs.YtfkbkekgnoanaaaDoor
open Go Go.RowKit
theorem oneR_4 (m : Nat) (sa : Option Addr) (sc : Nat) (w : World) (hm : m ≤ 64) :
  Calls Tryd.prog 33 #[.agg #[.int .i64 4, .int .i64 (m : Int), .slice sa 0 sc]] w (WRet (.one 4 m) (.one (oneP 4 m)) w) := by
 refine enterF (args := [.agg #[.int .i64 4, .int .i64 (m : Int), .slice sa 0 sc]]) Tryd.func33 rfl Tryd.ntmps33 rfl ?_
 have hS := St.start w
 refine seqF (regF ?_)
 refine op_box (cs := [_, _, _]) hS rfl rfl rfl ?_
 clear hS; intro B1 W1 hS
 refine op_alloc (cs := [_, _, _, _, _, _]) hS Tryd.zeroValue47 rfl rfl ?_
 clear hS; intro B2 W2 hS
 refine endF (XF.thenN ?_)
 refine seqF (regF ?_)
 refine op_build (us := []) rfl (bld_47) rfl ?_
 refine op_alloc (cs := [_, _, _, _, _, _]) hS Tryd.zeroValue47 rfl rfl ?_
 clear hS; intro B3 W3 hS
 refine op_storeA (i := 0) (vs := [_, _, _, _, _, _]) (cs' := [_, _, _, _, _, _]) (O' := [_, _, _]) hS Tryd.sizeOf47 rfl rfl rfl rfl rfl rfl rfl ?_
 clear hS; intro W4 hS
 refine endF (XF.thenN ?_)
 refine seqF ?_
 refine seqF (regF ?_)
 refine op_field (o' := 0) fa_25_0 rfl rfl rfl ?_
 refine op_load Tryd.isAgg22 rfl (cell_own (hS.at_ 2 rfl) rfl) rfl ?_
 refine endF (XF.thenN ?_)
 refine blockF ?_
 refine seqF (regF ?_)
 refine op_eql rfl rfl rfl ?_
 refine op_assign rfl rfl ?_
 refine endF (XF.thenN ?_)
 refine condF rfl (fun hc => absurd (of_decide_eq_true hc) (by omega)) (fun hc => ?_)
 have hc := of_decide_eq_false hc
 refine seqF (regF ?_)
 refine op_eql rfl rfl rfl ?_
 refine op_assign rfl rfl ?_
 refine endF (XF.thenN ?_)
 refine condF rfl (fun hc => ?_) (fun hc => absurd (of_decide_eq_false hc) (by omega))
 have hc := of_decide_eq_true hc
 refine seqF (regF ?_)
 refine op_assign rfl rfl ?_
 refine endF (XF.thenN ?_)
 refine blockF ?_
 refine loopF (fun q l W => ∃ (k : Nat) (v : Value), k ≤ m ∧ q = m - k ∧ l = [(1, .pointer (some ⟨B1, 0, none⟩)), (2, .pointer (some ⟨B2, 0, none⟩)), (3, .pointer (some ⟨B3, 0, none⟩)), (4, .int .i64 (k : Int))] ∧ St w [(B3, [.bool false, .int .i64 0, .int .u64 0, .slice none 0 0, v, .slice none 0 0], 47), (B2, [.bool false, .int .i64 0, .int .u64 0, .slice none 0 0, .slice none 0 0, .slice none 0 0], 47), (B1, [.int .i64 4, .int .i64 (m : Int), .slice sa 0 sc], 25)] [⟨v, k, flat ((unitC m).take k), 89, 3⟩] [] W) (m - 0) ([(1, _), (2, _), (3, _), (4, _)]) ⟨rfl, rfl, rfl, rfl, trivial⟩ (⟨0, .slice none 0 0, Nat.zero_le _, rfl, rfl, hS.clear.newG _ _⟩) ?_
 clear hS
 rintro q l W ⟨k, v, hkm, rfl, rfl, hS⟩
 refine seqF ?_
 refine seqF (regF ?_)
 refine op_move rfl rfl ?_
 refine op_field (o' := 1) fa_25_1 rfl rfl rfl ?_
 refine op_load Tryd.isAgg3 rfl (cell_own (hS.at_ 2 rfl) rfl) rfl ?_
 refine op_lss rfl rfl rfl ?_
 refine endF (XF.thenN ?_)
 refine condF rfl (fun hc => ?_) (fun hc => ?_)
 ·have hc22 := of_decide_eq_true hc; clear hc
  have hk : k < m := by omega
  refine skipF ?_
  refine XF.thenN ?_
  refine seqF ?_
  refine blockF ?_
  refine regBP (p := 6) (k := 8) (gi := 0) (m := 1) followsM hS rfl rfl (by kernel_rfl) (by kernel_rfl) (by kernel_rfl) (fun d hd => by cases hd) rfl rfl Tryd.underlying44 inf_89 rfl rfl (by show 0 < 3; decide) rfl rfl rfl (by dsimp only; simp only [maxLen]; omega) (by dsimp only; show _ * 24 ≤ _; omega) ?_
  refine blp_v 1 rfl rfl (by kernel_rfl) (rgV (li := [(3, _)]) rfl (w_free rfl) ⟨g_fr (by kernel_rfl) rfl, trivial⟩ (fun w hw => rn_field (o' := 4) fa_47_3 rfl rfl) (at_top rfl)) ?_
  refine blp_v 2 rfl rfl (by kernel_rfl) (rgV (li := [(25, _)]) rfl (w_free rfl) ⟨g_dep 0 (by kernel_rfl) (at_dep rfl rfl rfl), trivial⟩ (fun w hw => rn_load Tryd.isAgg44 rfl ((below_agree hw 0).cell (Nat.zero_le _) (cell_own (hS.at_ 0 rfl) rfl))) (at_top rfl)) ?_
  refine blp_v 3 rfl rfl (by kernel_rfl) (rgV (li := [(4, _)]) rfl (w_free rfl) ⟨g_fr (by kernel_rfl) rfl, trivial⟩ (fun w hw => rn_move rfl) (at_top rfl)) ?_
  refine blp_v 4 rfl rfl (by kernel_rfl) (rg_call [isV _] rfl goes_47 (w_free rfl) ⟨p_tmp (g_dep 2 (by kernel_rfl) (at_dep rfl rfl rfl)), trivial⟩ (fun vs w' hb hh => by have e := holds_isV (us := [_]) hh; subst e; exact (worth_at (k : Int) k (2 ^ k) (by omega) rfl (by omega) _).mono fun e w2 h => ⟨_, h.1, rfl, h.2 ▸ Below.refl _ _⟩) (at_top rfl)) ?_
  refine blp_v 5 rfl rfl (by kernel_rfl) (rgV (li := [(28, _)]) rfl (w_free rfl) ⟨g_dep 3 (by kernel_rfl) (at_dep rfl rfl rfl), trivial⟩ (fun w hw => rn_build (us := [(0, .int .u64 _)]) rfl (bld_89_0 _)) (at_top rfl)) ?_
  refine blp_q 6 rfl rfl (by kernel_rfl) (isRow W.heap.size 1 89 _) (stab_isRow) (rg_rowV (us := [.agg (List.toArray [_, _, _])]) rfl (w_free rfl) Tryd.underlying44 Tryd.sizeOf89 Tryd.zeroValue89 rfl rfl ⟨p_tmp (g_dep 4 (by kernel_rfl) (at_dep rfl rfl rfl)), trivial⟩ (bs_44_1 _ _ _) (at_top rfl)) ?_
  refine blp_app 7 rfl rfl ?_
  refine blp_late 8 rfl rfl (rgV (li := [(3, _)]) rfl (w_free rfl) ⟨g_fr (by kernel_rfl) rfl, trivial⟩ (fun w hw => rn_field (o' := 4) fa_47_3 rfl rfl) (at_top rfl)) (lgV (li := [(3, _)]) rfl (w_free rfl) ⟨g_fr (by kernel_rfl) rfl, trivial⟩ (fun w => rn_field (o' := 4) fa_47_3 rfl rfl) (at_top rfl) rfl) ?_
  refine blp_nil ⟨_, _, g_dep 1 (by kernel_rfl) (at_dep rfl rfl rfl), g_dep 5 (by kernel_rfl) (at_dep rfl rfl rfl), rowOf_isRow rfl rfl, ?_⟩
  intro A5 v5 news5 W5 hbR hqA5 hS'
  clear hS; have hS := hS'; clear hS'
  cases hqA5
  refine fin_v ?_
  refine fin_v ?_
  refine fin_v ?_
  refine fin_v ?_
  refine fin_v ?_
  refine fin_p ?_; intro _ _
  refine fin_v ?_
  refine fin_v ?_
  obtain ⟨g9, c9, e9, _, _⟩ := (hS.row 0 rfl).form (by show 0 < k + 1; omega)
  dsimp only at e9
  subst e9
  refine fin_nil ?_
  refine op_store (i := 0) (cs' := [_, _, _, _, _, _]) (O' := [_, _, _]) hS Tryd.sizeOf44 rfl rfl rfl rfl rfl rfl rfl ?_
  clear hS; intro W6 hS
  refine endF ?_
  refine XF.blkN ?_
  refine XF.thenN ?_
  refine regF ?_
  refine op_move rfl rfl ?_
  refine op_add rfl rfl (IntWalk.i64_in _ (by omega)) rfl ?_
  refine op_assign rfl rfl ?_
  refine endF ?_
  exact XF.round (m - (k + 1)) [(1, _), (2, _), (3, _), (4, _)] (by omega) ⟨rfl, rfl, rfl, rfl, trivial⟩ ⟨k + 1, _, by omega, rfl, rfl, by rw [unit_snoc hk, flat_snoc]; exact hS.clear⟩
 ·have hc22 := of_decide_eq_false hc; clear hc
  refine exitF ?_
  refine XF.thenX ?_
  refine XF.thenX ?_
  refine XF.blkX ?_
  refine XF.blkN ?_
  refine XF.thenN ?_
  refine seqF ?_
  obtain rfl : k = m := by omega
  have hrow := hS.row 0 rfl
  have ht : (unitC k).take k = unitC k := List.take_of_length_le (by rw [unit_length]; exact Nat.le_refl _)
  simp only [ht] at hrow
  obtain ⟨hn, a9, c9, rfl, _, _⟩ := crow_of_own hrow
  clear hrow
  refine regF ?_
  refine op_loadA (vs := [_, _, _, _, _, _]) Tryd.isAgg47 Tryd.sizeOf47 rfl (CellsAt.own (j := 0) (m := 6) (hS.at_ 0 rfl) rfl) rfl ?_
  refine op_storeA (i := 1) (vs := [_, _, _, _, _, _]) (cs' := [_, _, _, _, _, _]) (O' := [_, _, _]) hS Tryd.sizeOf47 rfl rfl rfl rfl rfl rfl rfl ?_
  clear hS; intro W7 hS
  refine endF (XF.thenN ?_)
  refine retF ?_
  refine XF.res (resC1 (vs := [_, _, _, _, _, _]) Tryd.results33 Tryd.isAgg47 Tryd.sizeOf47 rfl (CellsAt.own (j := 0) (m := 6) (hS.at_ 1 rfl) rfl)) ?_
  have hrow := hS.row 0 rfl
  simp only [ht] at hrow
  obtain ⟨_, a8, c8, e8, hr9, hf9⟩ := crow_of_own hrow
  cases e8
  have e9 : (unitC k).length = k := unit_length k
  refine ⟨cellsF a9 c9 (unitC k), ?_, one_f4 hm hr9 (fun ad e => (hf9 ad e).1), hS.below⟩
  show _ = Ending.returned (Value.agg #[.bool false, .int .i64 0, .int .u64 ((0 : Nat) : Int), .slice none 0 0, .slice a9 (unitC k).length c9, .slice none 0 0])
  rw [e9]
  rfl
theorem oneR_plain (t n : Int) (sa : Option Addr) (sc : Nat) (w : World) (hp : plainB t n 0 = true) : Calls Tryd.prog 33 #[.agg #[.int .i64 t, .int .i64 n, .slice sa 0 sc]] w (WRet (.one t n) (.one (oneP t n)) w) := by
 by_cases h4 : t = 4
 ·subst h4
  obtain ⟨m, rfl, hm⟩ := dim3 hp (.inr rfl)
  exact oneR_4 m sa sc w hm
 ·exact oneR_not4 t n sa sc w hp h4
theorem oneR_ok {S : PS} {sf : SF} {w : World} (hs : SIs w S sf) (hok : S.ok) : Calls Tryd.prog 33 #[sf.val] w (WRet S (oneX S) w) := by
 cases S with
 | one t n =>
  obtain ⟨a, c, rfl⟩ := hs
  exact oneR_plain _ _ _ _ _ hok
 | two t n u m =>
  obtain ⟨b, off, c, a1, c1, a2, c2, rfl, h1, h2⟩ := hs
  exact oneR_pair _ _ _ _ _ _ _ _ _ _ _ _ h1 h2 hok.1 hok.2 (fun W => oneR_plain _ _ _ _ _ hok.1) (fun W => oneR_plain _ _ _ _ _ hok.2)
end Go.Proofs.YtfkbkekgnoanaaaDoor
namespace Go.Proofs.YtfkbkekgnoanaaaDoor
open Go.RowKit
set_option maxHeartbeats 1000000 in
theorem jn_00 (f f2 : Int) (w : World) : Calls Tryd.prog 68 #[.agg #[.int .u64 f, .int .i64 0, .int .i64 0], .agg #[.int .u64 f2, .int .i64 0, .int .i64 0]] w fun e w' => e = .returned (.agg #[.int .u64 (bits .or .u64 f f2), .int .i64 0, .int .i64 0]) ∧ Below w.heap.size w w' := by
 go_enter Tryd.func68, Tryd.ntmps68
 go_wp2
 all_goals (try go_region)
 all_goals go_wp2
 all_goals refine bodyPost_ret (v := .agg #[.int .u64 (bits .or .u64 f f2), .int .i64 0, .int .i64 0]) (by simp [results, Tryd.results68, go_sem]) rfl ⟨rfl, ?_⟩
 all_goals repeat (first | exact Below.refl _ _ | refine Below.drew ?_ | (refine Below.setCell ?_ (by simp) _) | (refine Below.alloc ?_ (by simp; try omega) _))
set_option maxHeartbeats 1000000 in
theorem jn_01 (f f2 : Int) (v2 : Int) (w : World) : Calls Tryd.prog 68 #[.agg #[.int .u64 f, .int .i64 0, .int .i64 0], .agg #[.int .u64 f2, .int .i64 1, .int .i64 v2]] w fun e w' => e = .returned (.agg #[.int .u64 (bits .or .u64 f f2), .int .i64 1, .int .i64 v2]) ∧ Below w.heap.size w w' := by
 go_enter Tryd.func68, Tryd.ntmps68
 go_wp2
 all_goals (try go_region)
 all_goals go_wp2
 all_goals refine bodyPost_ret (v := .agg #[.int .u64 (bits .or .u64 f f2), .int .i64 1, .int .i64 v2]) (by simp [results, Tryd.results68, go_sem]) rfl ⟨rfl, ?_⟩
 all_goals repeat (first | exact Below.refl _ _ | refine Below.drew ?_ | (refine Below.setCell ?_ (by simp) _) | (refine Below.alloc ?_ (by simp; try omega) _))
set_option maxHeartbeats 1000000 in
theorem jn_02 (f f2 : Int) (w : World) : Calls Tryd.prog 68 #[.agg #[.int .u64 f, .int .i64 0, .int .i64 0], .agg #[.int .u64 f2, .int .i64 2, .int .i64 0]] w fun e w' => e = .returned (.agg #[.int .u64 0, .int .i64 2, .int .i64 0]) ∧ Below w.heap.size w w' := by
 go_enter Tryd.func68, Tryd.ntmps68
 go_wp2
 all_goals (try go_region)
 all_goals go_wp2
 all_goals refine bodyPost_ret (v := .agg #[.int .u64 0, .int .i64 2, .int .i64 0]) (by simp [results, Tryd.results68, go_sem]) rfl ⟨rfl, ?_⟩
 all_goals repeat (first | exact Below.refl _ _ | refine Below.drew ?_ | (refine Below.setCell ?_ (by simp) _) | (refine Below.alloc ?_ (by simp; try omega) _))
set_option maxHeartbeats 1000000 in
theorem jn_10 (f f2 : Int) (v : Int) (w : World) : Calls Tryd.prog 68 #[.agg #[.int .u64 f, .int .i64 1, .int .i64 v], .agg #[.int .u64 f2, .int .i64 0, .int .i64 0]] w fun e w' => e = .returned (.agg #[.int .u64 (bits .or .u64 f f2), .int .i64 1, .int .i64 v]) ∧ Below w.heap.size w w' := by
 go_enter Tryd.func68, Tryd.ntmps68
 go_wp2
 all_goals (try go_region)
 all_goals go_wp2
 all_goals refine bodyPost_ret (v := .agg #[.int .u64 (bits .or .u64 f f2), .int .i64 1, .int .i64 v]) (by simp [results, Tryd.results68, go_sem]) rfl ⟨rfl, ?_⟩
 all_goals repeat (first | exact Below.refl _ _ | refine Below.drew ?_ | (refine Below.setCell ?_ (by simp) _) | (refine Below.alloc ?_ (by simp; try omega) _))
set_option maxHeartbeats 1000000 in
theorem jn_11 (f f2 : Int) (v : Int) (w : World) : Calls Tryd.prog 68 #[.agg #[.int .u64 f, .int .i64 1, .int .i64 v], .agg #[.int .u64 f2, .int .i64 1, .int .i64 v]] w fun e w' => e = .returned (.agg #[.int .u64 (bits .or .u64 f f2), .int .i64 1, .int .i64 v]) ∧ Below w.heap.size w w' := by
 go_enter Tryd.func68, Tryd.ntmps68
 go_wp2
 all_goals (try go_region)
 all_goals go_wp2
 all_goals refine bodyPost_ret (v := .agg #[.int .u64 (bits .or .u64 f f2), .int .i64 1, .int .i64 v]) (by simp [results, Tryd.results68, go_sem]) rfl ⟨rfl, ?_⟩
 all_goals repeat (first | exact Below.refl _ _ | refine Below.drew ?_ | (refine Below.setCell ?_ (by simp) _) | (refine Below.alloc ?_ (by simp; try omega) _))
set_option maxHeartbeats 1000000 in
theorem jn_1x (f f2 : Int) (v v2 : Int) (hv : (v == v2) = false) (w : World) : Calls Tryd.prog 68 #[.agg #[.int .u64 f, .int .i64 1, .int .i64 v], .agg #[.int .u64 f2, .int .i64 1, .int .i64 v2]] w fun e w' => e = .returned (.agg #[.int .u64 0, .int .i64 2, .int .i64 0]) ∧ Below w.heap.size w w' := by
 go_enter Tryd.func68, Tryd.ntmps68
 go_wp2
 all_goals (try go_region)
 all_goals go_wp2
 all_goals refine bodyPost_ret (v := .agg #[.int .u64 0, .int .i64 2, .int .i64 0]) (by simp [results, Tryd.results68, go_sem]) rfl ⟨rfl, ?_⟩
 all_goals repeat (first | exact Below.refl _ _ | refine Below.drew ?_ | (refine Below.setCell ?_ (by simp) _) | (refine Below.alloc ?_ (by simp; try omega) _))
set_option maxHeartbeats 1000000 in
theorem jn_12 (f f2 : Int) (v : Int) (w : World) : Calls Tryd.prog 68 #[.agg #[.int .u64 f, .int .i64 1, .int .i64 v], .agg #[.int .u64 f2, .int .i64 2, .int .i64 0]] w fun e w' => e = .returned (.agg #[.int .u64 0, .int .i64 2, .int .i64 0]) ∧ Below w.heap.size w w' := by
 go_enter Tryd.func68, Tryd.ntmps68
 go_wp2
 all_goals (try go_region)
 all_goals go_wp2
 all_goals refine bodyPost_ret (v := .agg #[.int .u64 0, .int .i64 2, .int .i64 0]) (by simp [results, Tryd.results68, go_sem]) rfl ⟨rfl, ?_⟩
 all_goals repeat (first | exact Below.refl _ _ | refine Below.drew ?_ | (refine Below.setCell ?_ (by simp) _) | (refine Below.alloc ?_ (by simp; try omega) _))
set_option maxHeartbeats 1000000 in
theorem jn_20 (f f2 : Int) (w : World) : Calls Tryd.prog 68 #[.agg #[.int .u64 f, .int .i64 2, .int .i64 0], .agg #[.int .u64 f2, .int .i64 0, .int .i64 0]] w fun e w' => e = .returned (.agg #[.int .u64 0, .int .i64 2, .int .i64 0]) ∧ Below w.heap.size w w' := by
 go_enter Tryd.func68, Tryd.ntmps68
 go_wp2
 all_goals (try go_region)
 all_goals go_wp2
 all_goals refine bodyPost_ret (v := .agg #[.int .u64 0, .int .i64 2, .int .i64 0]) (by simp [results, Tryd.results68, go_sem]) rfl ⟨rfl, ?_⟩
 all_goals repeat (first | exact Below.refl _ _ | refine Below.drew ?_ | (refine Below.setCell ?_ (by simp) _) | (refine Below.alloc ?_ (by simp; try omega) _))
set_option maxHeartbeats 1000000 in
theorem jn_21 (f f2 : Int) (v2 : Int) (w : World) : Calls Tryd.prog 68 #[.agg #[.int .u64 f, .int .i64 2, .int .i64 0], .agg #[.int .u64 f2, .int .i64 1, .int .i64 v2]] w fun e w' => e = .returned (.agg #[.int .u64 0, .int .i64 2, .int .i64 0]) ∧ Below w.heap.size w w' := by
 go_enter Tryd.func68, Tryd.ntmps68
 go_wp2
 all_goals (try go_region)
 all_goals go_wp2
 all_goals refine bodyPost_ret (v := .agg #[.int .u64 0, .int .i64 2, .int .i64 0]) (by simp [results, Tryd.results68, go_sem]) rfl ⟨rfl, ?_⟩
 all_goals repeat (first | exact Below.refl _ _ | refine Below.drew ?_ | (refine Below.setCell ?_ (by simp) _) | (refine Below.alloc ?_ (by simp; try omega) _))
set_option maxHeartbeats 1000000 in
theorem jn_22 (f f2 : Int) (w : World) : Calls Tryd.prog 68 #[.agg #[.int .u64 f, .int .i64 2, .int .i64 0], .agg #[.int .u64 f2, .int .i64 2, .int .i64 0]] w fun e w' => e = .returned (.agg #[.int .u64 0, .int .i64 2, .int .i64 0]) ∧ Below w.heap.size w w' := by
 go_enter Tryd.func68, Tryd.ntmps68
 go_wp2
 all_goals (try go_region)
 all_goals go_wp2
 all_goals refine bodyPost_ret (v := .agg #[.int .u64 0, .int .i64 2, .int .i64 0]) (by simp [results, Tryd.results68, go_sem]) rfl ⟨rfl, ?_⟩
 all_goals repeat (first | exact Below.refl _ _ | refine Below.drew ?_ | (refine Below.setCell ?_ (by simp) _) | (refine Below.alloc ?_ (by simp; try omega) _))
theorem jn_any (a b : Cl) (ha : a.ok) (hb : b.ok) (w : World) : Calls Tryd.prog 68 #[a.val, b.val] w (JoinPost a b w) := by
 obtain ⟨f, k, v⟩ := a
 obtain ⟨f2, k2, v2⟩ := b
 obtain ⟨hf, hk⟩ := ha
 obtain ⟨hf2, hk2⟩ := hb
 simp only at hf hk hf2 hk2
 have ho := or_cast f f2 hf hf2
 rcases kind_cases hk with ⟨rfl, rfl⟩ | rfl | ⟨rfl, rfl⟩ <;> rcases kind_cases hk2 with ⟨rfl, rfl⟩ | rfl | ⟨rfl, rfl⟩
 ·exact (jn_00 f f2 w).mono (to_post (by simp [joinK, ho]) (by simp [joinK]) (by simp [joinV]))
 ·exact (jn_01 f f2 v2 w).mono (to_post (by simp [joinK, ho]) (by simp [joinK]) (by simp [joinV]))
 ·exact (jn_02 f f2 w).mono (to_post (by simp [joinK]) (by simp [joinK]) (by simp [joinV]))
 ·exact (jn_10 f f2 v w).mono (to_post (by simp [joinK, ho]) (by simp [joinK]) (by simp [joinV]))
 ·by_cases hv : v = v2
  ·subst hv
   exact (jn_11 f f2 v w).mono (to_post (by simp [joinK, ho]) (by simp [joinK]) (by simp [joinV]))
  ·exact (jn_1x f f2 v v2 (by simp [hv]) w).mono (to_post (by simp [joinK, hv]) (by simp [joinK, hv]) (by simp [joinV, hv]))
 ·exact (jn_12 f f2 v w).mono (to_post (by simp [joinK]) (by simp [joinK]) (by simp [joinV]))
 ·exact (jn_20 f f2 w).mono (to_post (by simp [joinK]) (by simp [joinK]) (by simp [joinV]))
 ·exact (jn_21 f f2 v2 w).mono (to_post (by simp [joinK]) (by simp [joinK]) (by simp [joinV]))
 ·exact (jn_22 f f2 w).mono (to_post (by simp [joinK]) (by simp [joinK]) (by simp [joinV]))
end Go.Proofs.YtfkbkekgnoanaaaDoor
namespace Go.Proofs.YtfkbkekgnoanaaaDoor
open Go Go.RowKit
section
variable {P : Program} {n : Nat} {Q : Exit → Act → World → Prop} {l : Fr} {W : World} {ops : Array Oper} {os : List Oper} {d : Nat} {ty : TypeId} {pos : String} {aft : Array Edge} {x y : Operand} {k : IntKind} {a b : Int} {ts : Array TypeId}
theorem rn_min (hx : evL l x = some (.int k a)) (hy : evL l y = some (.int k b)) : Runs P l ⟨some d, .call { callee := .builtin .min, args := #[x, y], argTypes := ts }, ty, pos, aft, none⟩ W (.int k (min a b)) W := fun ev he => by
 have e : (if b < a then b else a) = min a b := by omega
 unfold execOp
 simp only [resolve, invoke, builtin, Sem.run_bind, Sem.run_pure, Result.andThen_ok, List.map_toArray, List.map_cons, List.map_nil, he x _ hx, he y _ hy, run_min_int2, e]
theorem op_min (hx : evL l x = some (.int k a)) (hy : evL l y = some (.int k b)) (hd : Nat.blt d n = true) (h : OpsF P n ops Q os ((d, .int k (min a b)) :: l) W) : OpsF P n ops Q (⟨some d, .call { callee := .builtin .min, args := #[x, y], argTypes := ts }, ty, pos, aft, none⟩ :: os) l W := opV (rn_min hx hy) hd h
end
end Go.Proofs.YtfkbkekgnoanaaaDoor
namespace Go.Proofs.YtfkbkekgnoanaaaDoor
open Go Go.RowKit
theorem has_bit {f k : Nat} (hk : k < 64) : hasB f (k : Int) = f.testBit k := by
 unfold hasB
 rw [decide_eq_true (by omega), decide_eq_true (by omega), Int.toNat_natCast]
 rfl
theorem flat_step {xs : List Cl} {k : Nat} {c : Cl} (h : xs[k]? = some c) : flat (xs.take (k + 1)) = flat (xs.take k) ++ vals c := by
 rw [List.take_add_one, h]; exact flat_snoc _ _
theorem behindR_is (a : Option Addr) (cap len : Nat) (row : List Cl) (c : Cl) (w : World) (hlen : row.length = len) (hm : len ≤ 64) (hra : CRow w a row) (hok : ∀ (i : Nat) x, row[i]? = some x → x.ok) (hc : c.ok) :
  Calls Tryd.prog 49 #[.slice a len cap, c.val] w (fun e w' => e = .returned (ofC row c).val ∧ Below w.heap.size w w') := by
 refine enterF (args := [.slice a len cap, c.val]) Tryd.func49 rfl Tryd.ntmps49 rfl ?_
 have hS := St.start w
 refine seqF (regF ?_)
 refine op_box (cs := [_, _, _]) hS rfl rfl rfl ?_
 clear hS; intro B1 W1 hS
 refine op_alloc (cs := [_, _, _]) hS Tryd.zeroValue89 rfl rfl ?_
 clear hS; intro B2 W2 hS
 refine endF (XF.thenN ?_)
 refine seqF (regF ?_)
 refine op_field (o' := 1) fa_89_1 rfl rfl rfl ?_
 refine op_load Tryd.isAgg87 rfl (cell_own (hS.at_ 1 rfl) rfl) rfl ?_
 refine op_field (o' := 2) fa_89_2 rfl rfl rfl ?_
 refine op_load Tryd.isAgg2 rfl (cell_own (hS.at_ 1 rfl) rfl) rfl ?_
 refine op_build (us := [(1, .int .i64 _), (2, .int .i64 _)]) rfl (bld_89_1_2 _ _) rfl ?_
 refine op_alloc (cs := [_, _, _]) hS Tryd.zeroValue89 rfl rfl ?_
 clear hS; intro B3 W3 hS
 refine op_storeA (i := 0) (vs := [_, _, _]) (cs' := [_, _, _]) (O' := [_, _, _]) hS Tryd.sizeOf89 rfl rfl rfl rfl rfl rfl rfl ?_
 clear hS; intro W4 hS
 refine endF (XF.thenN ?_)
 refine seqF ?_
 refine seqF (regF ?_)
 refine op_assign rfl rfl ?_
 refine endF (XF.thenN ?_)
 refine blockF ?_
 refine loopF (fun q l W => ∃ k : Nat, k ≤ len ∧ q = len - k ∧ l = [(0, .slice a len cap), (3, .pointer (some ⟨B1, 0, none⟩)), (4, .pointer (some ⟨B2, 0, none⟩)), (5, .pointer (some ⟨B3, 0, none⟩)), (6, .int .i64 (k : Int))] ∧ St w [(B3, [.int .u64 ((ofTo row c k).f : Int), .int .i64 (ofTo row c k).k, .int .i64 (ofTo row c k).v], 89), (B2, [.int .u64 0, .int .i64 0, .int .i64 0], 89), (B1, [.int .u64 (c.f : Int), .int .i64 c.k, .int .i64 c.v], 89)] [] [] W) (len - 0) ([(0, _), (3, _), (4, _), (5, _), (6, _)]) ⟨rfl, rfl, rfl, rfl, rfl, trivial⟩ (⟨0, Nat.zero_le _, rfl, rfl, hS.clear⟩) ?_
 clear hS
 rintro q l W ⟨k, hkm, rfl, rfl, hS⟩
 refine seqF ?_
 refine seqF (regF ?_)
 refine op_move rfl rfl ?_
 refine op_move rfl rfl ?_
 refine op_len Tryd.underlying44 rfl rfl ?_
 refine op_lss rfl rfl rfl ?_
 refine endF (XF.thenN ?_)
 refine condF rfl (fun hc => ?_) (fun hc => ?_)
 ·have hc15 := of_decide_eq_true hc; clear hc
  have hk : k < len := by omega
  obtain ⟨ba, offa, x, rfl, hx, hba, a0, a1, a2⟩ := (hra.below hS.below).at_ (k := k) (by omega)
  have k1 : CellsAt W ba (offa + k * 3) [.int .u64 (x.f : Int), .int .i64 x.k, .int .i64 x.v] := ⟨a0, a1, a2, trivial⟩
  refine skipF ?_
  refine XF.thenN ?_
  refine seqF ?_
  refine blockF ?_
  refine seqF (regF ?_)
  refine op_field (o' := 0) fa_89_0 rfl rfl rfl ?_
  refine op_load Tryd.isAgg40 rfl (cell_own (hS.at_ 2 rfl) rfl) rfl ?_
  refine op_move rfl rfl ?_
  refine op_call (vs := [_, _]) hS goes_67 rfl (hasR_is c.f (k : Int) (c.f.testBit k) (has_bit (by omega)) hc.1 _) rfl ?_
  rintro e W5 ⟨rfl, rfl⟩
  refine ⟨_, rfl, Below.refl _ _, fun hS' => ?_⟩
  clear hS; have hS := hS'; clear hS'
  refine endF (XF.thenN ?_)
  refine condF rfl (fun hc => ?_) (fun hc => ?_)
  ·have hc21 := hc; clear hc
   refine regBK followsM 6 hS rfl rfl (by kernel_rfl) (by kernel_rfl) (by kernel_rfl) (fun d hd => by cases hd) ?_
   refine bl_cons 1 rfl (isV _) (stab_isV _) (rgV (li := [(5, _)]) rfl (w_free rfl) ⟨g_fr (by kernel_rfl) rfl, trivial⟩ (fun w hw => rn_loadA (vs := [_, _, _]) Tryd.isAgg89 Tryd.sizeOf89 rfl (CellsAt.agree (below_agree hw 0) (Nat.zero_le _) (CellsAt.own (j := 0) (m := 3) (hS.at_ 0 rfl) rfl))) (at_top rfl)) ?_
   refine bl_cons 2 rfl (isV _) (stab_isV _) (rgV (li := [(0, _)]) rfl (w_free rfl) ⟨g_fr (by kernel_rfl) rfl, trivial⟩ (fun w hw => rn_move rfl) (at_top rfl)) ?_
   refine bl_cons 3 rfl (isV _) (stab_isV _) (rgV (li := [(6, _)]) rfl (w_free rfl) ⟨g_fr (by kernel_rfl) rfl, trivial⟩ (fun w hw => rn_move rfl) (at_top rfl)) ?_
   refine bl_cons 4 rfl (isV _) (stab_isV _) (rgV (li := [(23, _), (24, _)]) rfl (w_free rfl) ⟨g_dep 1 (by kernel_rfl) (at_dep rfl rfl rfl), g_dep 2 (by kernel_rfl) (at_dep rfl rfl rfl), trivial⟩ (fun w hw => rn_indexA  Tryd.underlying44 Tryd.sizeOf89 rfl rfl rfl (by omega) rfl) (at_top rfl)) ?_
   refine bl_cons 5 rfl (isV _) (stab_isV _) (rgV (li := [(25, _)]) rfl (w_free rfl) ⟨g_dep 3 (by kernel_rfl) (at_dep rfl rfl rfl), trivial⟩ (fun w hw => rn_loadA (vs := [_, _, _]) Tryd.isAgg89 Tryd.sizeOf89 rfl (CellsAt.agree (below_agree hw 0) (Nat.zero_le _) (by assumption))) (at_top rfl)) ?_
   refine bl_cons 6 rfl (isV (join (ofTo row c k) x).val) (stab_isV _) (rg_call [isV _, isV _] rfl goes_68 (w_free rfl) ⟨p_tmp (g_dep 0 (by kernel_rfl) (at_dep rfl rfl rfl)), p_tmp (g_dep 4 (by kernel_rfl) (at_dep rfl rfl rfl)), trivial⟩ (fun vs w' hb hh => by have e := holds_isV (us := [_, _]) hh; subst e; exact (jn_any (ofTo row c k) x (ofTo_ok hc hok k) (hok k x hx) _).mono fun e w2 h => ⟨_, h.1, rfl, h.2⟩) (at_top rfl)) ?_
   refine bl_nil ?_
   intro W6 hbR hS'
   clear hS; have hS := hS'; clear hS'
   refine fin_v ?_
   refine fin_v ?_
   refine fin_v ?_
   refine fin_v ?_
   refine fin_v ?_
   refine fin_v ?_
   refine fin_nil ?_
   refine op_storeA (i := 0) (vs := [_, _, _]) (cs' := [_, _, _]) (O' := [_, _, _]) hS Tryd.sizeOf89 rfl rfl rfl rfl rfl rfl rfl ?_
   clear hS; intro W7 hS
   refine endF ?_
   refine XF.blkN ?_
   refine XF.thenN ?_
   refine regF ?_
   refine op_move rfl rfl ?_
   refine op_add rfl rfl (IntWalk.i64_in _ (by omega)) rfl ?_
   refine op_assign rfl rfl ?_
   refine endF ?_
   exact XF.round (len - (k + 1)) [(0, _), (3, _), (4, _), (5, _), (6, _)] (by omega) ⟨rfl, rfl, rfl, rfl, rfl, trivial⟩ ⟨k + 1, by omega, rfl, rfl, by rw [ofTo_yes hc21 hx]; exact hS.clear⟩
  ·have hc21 := hc; clear hc
   refine skipF ?_
   refine XF.blkN ?_
   refine XF.thenN ?_
   refine regF ?_
   refine op_move rfl rfl ?_
   refine op_add rfl rfl (IntWalk.i64_in _ (by omega)) rfl ?_
   refine op_assign rfl rfl ?_
   refine endF ?_
   exact XF.round (len - (k + 1)) [(0, _), (3, _), (4, _), (5, _), (6, _)] (by omega) ⟨rfl, rfl, rfl, rfl, rfl, trivial⟩ ⟨k + 1, by omega, rfl, rfl, by rw [ofTo_no hc21]; exact hS.clear⟩
 ·have hc15 := of_decide_eq_false hc; clear hc
  refine exitF ?_
  refine XF.thenX ?_
  refine XF.thenX ?_
  refine XF.blkX ?_
  refine XF.thenN ?_
  refine seqF (regF ?_)
  refine op_loadA (vs := [_, _, _]) Tryd.isAgg89 Tryd.sizeOf89 rfl (CellsAt.own (j := 0) (m := 3) (hS.at_ 0 rfl) rfl) rfl ?_
  refine op_storeA (i := 1) (vs := [_, _, _]) (cs' := [_, _, _]) (O' := [_, _, _]) hS Tryd.sizeOf89 rfl rfl rfl rfl rfl rfl rfl ?_
  clear hS; intro W8 hS
  refine endF (XF.thenN ?_)
  refine retF ?_
  refine XF.res (resC1 (vs := [_, _, _]) Tryd.results49 Tryd.isAgg89 Tryd.sizeOf89 rfl (CellsAt.own (j := 0) (m := 3) (hS.at_ 1 rfl) rfl)) ?_
  have e1 : row.length = k := by omega
  exact ⟨by unfold ofC; rw [e1], hS.below⟩
end Go.Proofs.YtfkbkekgnoanaaaDoor
namespace Go.Proofs.YtfkbkekgnoanaaaDoor
open Go Go.RowKit
section
variable {w W : World} {k : Nat} {n : Int} {f g : WF} {x y : PF}
theorem ext_f2R (hx : PIs w 2 n f x) (hy : PIs w 2 n g y) (hf : f.z = false) (hg : g.z = false) (p0 : 0 ≤ f.c) (p1 : f.c ≤ n) (q0 : 0 ≤ g.c) (q1 : g.c ≤ n) : PNew k W 2 n (costF (min (f.c + g.c) n)) (extP 2 n x y) := by
 obtain ⟨rfl, _, _⟩ := hx.k2 hf
 obtain ⟨rfl, _, _⟩ := hy.k2 hg
 rw [ext_2]
 exact new_cost (.cost _ rfl (by omega) (by omega))
theorem ext_f4C {m : Nat} {a : Option Addr} {cap : Nat} (hx : PIs w 4 m f x) (hy : PIs w 4 m g y) (hf : f.z = false) (hg : g.z = false) (hv : CRow W a (thenC f.cells g.cells)) (hl : ∀ ad, a = some ad → k ≤ ad.block) : PNew k W 4 m (cellsF a cap (thenC f.cells g.cells)) (extP 4 m x y) := by
 obtain ⟨hx', h0⟩ := hx.k4 hf
 obtain ⟨hy', h1⟩ := hy.k4 hg
 have hv2 := val_then h0 h1
 rw [hx', hy', ext_4]
 exact new_cells (.cells m _ rfl rfl hv2) hv2.bits (by have := hv2.le; have := hv2.len; unfold maxLen; omega) hv hl
end
theorem thenR_plain (t n : Int) (sa : Option Addr) (sc : Nat) (f g : WF) (x y : PF) (w : World) (hp : plainB t n 0 = true) (hx : PIs w t n f x) (hy : PIs w t n g y) :
  Calls Tryd.prog 34 #[.agg #[.int .i64 t, .int .i64 n, .slice sa 0 sc], f.val, g.val] w (WRet (.one t n) (.one (extP t n x y)) w) := by
 refine enterF (args := [.agg #[.int .i64 t, .int .i64 n, .slice sa 0 sc], f.val, g.val]) Tryd.func34 rfl Tryd.ntmps34 rfl ?_
 have hS := St.start w
 refine seqF (regF ?_)
 refine op_box (cs := [_, _, _]) hS rfl rfl rfl ?_
 clear hS; intro B1 W1 hS
 refine op_box (cs := [_, _, _, _, _, _]) hS rfl rfl rfl ?_
 clear hS; intro B2 W2 hS
 refine op_box (cs := [_, _, _, _, _, _]) hS rfl rfl rfl ?_
 clear hS; intro B3 W3 hS
 refine op_alloc (cs := [_, _, _, _, _, _]) hS Tryd.zeroValue47 rfl rfl ?_
 clear hS; intro B4 W4 hS
 refine endF (XF.thenN ?_)
 refine seqF ?_
 refine seqF (regF ?_)
 refine op_field (o' := 0) fa_47_0 rfl rfl rfl ?_
 refine op_load Tryd.isAgg4 rfl (cell_own (hS.at_ 2 rfl) rfl) rfl ?_
 refine op_move rfl rfl ?_
 refine op_cases (d := 11) rfl (fun hc => ?_) (fun hc => ?_)
 ·have hg11 := hc; clear hc
  have hz := hg11
  refine op_notF (d := 11) rfl rfl rfl rfl ?_
  refine op_notF (d := 11) rfl rfl rfl rfl ?_
  refine op_pickT rfl rfl rfl ?_
  refine endF (XF.thenN ?_)
  refine condT rfl ?_
  refine seqF (regF ?_)
  refine op_build (us := [(0, .bool _)]) rfl (bld_47_0 _) rfl ?_
  refine op_storeA (i := 0) (vs := [_, _, _, _, _, _]) (cs' := [_, _, _, _, _, _]) (O' := [_, _, _, _]) hS Tryd.sizeOf47 rfl rfl rfl rfl rfl rfl rfl ?_
  clear hS; intro W5 hS
  refine endF (XF.thenN ?_)
  refine retF ?_
  refine XF.thenR ?_
  refine XF.res (resC1 (vs := [_, _, _, _, _, _]) Tryd.results34 Tryd.isAgg47 Tryd.sizeOf47 rfl (CellsAt.own (j := 0) (m := 6) (hS.at_ 0 rfl) rfl)) ?_
  exact ext_zL hx hz hS.below
 ·have hg11 := hc; clear hc
  have hf := hg11
  refine op_wantedF (d := 11) rfl rfl ?_
  refine op_field (o' := 0) fa_47_0 rfl rfl rfl ?_
  refine op_wantedF (d := 11) rfl rfl ?_
  refine op_load Tryd.isAgg4 rfl (cell_own (hS.at_ 1 rfl) rfl) rfl ?_
  refine op_pickF rfl rfl rfl ?_
  refine endF (XF.thenN ?_)
  refine condF rfl (fun hc => ?_) (fun hc => ?_)
  ·have hc14 := hc; clear hc
   refine seqF (regF ?_)
   refine op_build (us := [(0, .bool _)]) rfl (bld_47_0 _) rfl ?_
   refine op_storeA (i := 0) (vs := [_, _, _, _, _, _]) (cs' := [_, _, _, _, _, _]) (O' := [_, _, _, _]) hS Tryd.sizeOf47 rfl rfl rfl rfl rfl rfl rfl ?_
   clear hS; intro W6 hS
   refine endF (XF.thenN ?_)
   refine retF ?_
   refine XF.thenR ?_
   refine XF.res (resC1 (vs := [_, _, _, _, _, _]) Tryd.results34 Tryd.isAgg47 Tryd.sizeOf47 rfl (CellsAt.own (j := 0) (m := 6) (hS.at_ 0 rfl) rfl)) ?_
   exact ext_zR hy hc14 hS.below
  ·have hc14 := hc; clear hc
   have hg := hc14
   refine skipF ?_
   refine XF.thenN ?_
   refine seqF (regF ?_)
   refine op_build (us := []) rfl (bld_47) rfl ?_
   refine op_alloc (cs := [_, _, _, _, _, _]) hS Tryd.zeroValue47 rfl rfl ?_
   clear hS; intro B7 W7 hS
   refine op_storeA (i := 0) (vs := [_, _, _, _, _, _]) (cs' := [_, _, _, _, _, _]) (O' := [_, _, _, _, _]) hS Tryd.sizeOf47 rfl rfl rfl rfl rfl rfl rfl ?_
   clear hS; intro W8 hS
   refine endF (XF.thenN ?_)
   refine seqF ?_
   refine seqF (regF ?_)
   refine op_field (o' := 0) fa_25_0 rfl rfl rfl ?_
   refine op_load Tryd.isAgg22 rfl (cell_own (hS.at_ 4 rfl) rfl) rfl ?_
   refine endF (XF.thenN ?_)
   refine blockF ?_
   refine seqF (regF ?_)
   refine op_eql rfl rfl rfl ?_
   refine op_assign rfl rfl ?_
   refine endF (XF.thenN ?_)
   refine condF rfl (fun hc => ?_) (fun hc => ?_)
   ·have hc19 := of_decide_eq_true hc; clear hc
    have e2 : t = 2 := hc19
    subst e2
    obtain ⟨_, p0, p1⟩ := hx.k2 hf
    obtain ⟨_, q0, q1⟩ := hy.k2 hg
    obtain ⟨d0, d1, _⟩ := plainB_dim hp
    refine regF ?_
    refine op_field (o' := 1) fa_47_1 rfl rfl rfl ?_
    refine op_load Tryd.isAgg3 rfl (cell_own (hS.at_ 3 rfl) rfl) rfl ?_
    refine op_field (o' := 1) fa_47_1 rfl rfl rfl ?_
    refine op_load Tryd.isAgg3 rfl (cell_own (hS.at_ 2 rfl) rfl) rfl ?_
    refine op_add rfl rfl (IntWalk.i64_in _ (by omega)) rfl ?_
    refine op_field (o' := 1) fa_25_1 rfl rfl rfl ?_
    refine op_load Tryd.isAgg3 rfl (cell_own (hS.at_ 4 rfl) rfl) rfl ?_
    refine op_min rfl rfl rfl ?_
    refine op_field (o' := 1) fa_47_1 rfl rfl rfl ?_
    refine op_store (i := 0) (cs' := [_, _, _, _, _, _]) (O' := [_, _, _, _, _]) hS Tryd.sizeOf3 rfl rfl rfl rfl rfl rfl rfl ?_
    clear hS; intro W9 hS
    refine endF ?_
    refine XF.blkN ?_
    refine XF.thenN ?_
    refine seqF (regF ?_)
    refine op_loadA (vs := [_, _, _, _, _, _]) Tryd.isAgg47 Tryd.sizeOf47 rfl (CellsAt.own (j := 0) (m := 6) (hS.at_ 0 rfl) rfl) rfl ?_
    refine op_storeA (i := 1) (vs := [_, _, _, _, _, _]) (cs' := [_, _, _, _, _, _]) (O' := [_, _, _, _, _]) hS Tryd.sizeOf47 rfl rfl rfl rfl rfl rfl rfl ?_
    clear hS; intro W10 hS
    refine endF (XF.thenN ?_)
    refine retF ?_
    refine XF.res (resC1 (vs := [_, _, _, _, _, _]) Tryd.results34 Tryd.isAgg47 Tryd.sizeOf47 rfl (CellsAt.own (j := 0) (m := 6) (hS.at_ 1 rfl) rfl)) ?_
    exact wret_one (ext_f2R hx hy hf hg p0 p1 q0 q1) hS.below
   ·have hc19 := of_decide_eq_false hc; clear hc
    refine seqF (regF ?_)
    refine op_eql rfl rfl rfl ?_
    refine op_assign rfl rfl ?_
    refine endF (XF.thenN ?_)
    refine condF rfl (fun hc => ?_) (fun hc => ?_)
    ·have hc30 := of_decide_eq_true hc; clear hc
     have e3 : t = 3 := hc30
     subst e3
     obtain ⟨m, rfl, hm⟩ := dim3 hp (.inl rfl)
     refine regF ?_
     refine op_field (o' := 1) fa_25_1 rfl rfl rfl ?_
     refine op_load Tryd.isAgg3 rfl (cell_own (hS.at_ 4 rfl) rfl) rfl ?_
     refine op_field (o' := 2) fa_47_2 rfl rfl rfl ?_
     refine op_loadA (vs := [_, _]) Tryd.isAgg43 Tryd.sizeOf43 rfl (CellsAt.own (j := 2) (m := 2) (hS.at_ 3 rfl) rfl) rfl ?_
     refine op_field (o' := 2) fa_47_2 rfl rfl rfl ?_
     refine op_loadA (vs := [_, _]) Tryd.isAgg43 Tryd.sizeOf43 rfl (CellsAt.own (j := 2) (m := 2) (hS.at_ 2 rfl) rfl) rfl ?_
     have hsz := hS.below.size
     refine op_call (vs := [_, _, _]) hS goes_48 rfl (extR_is _ _ _ _ _ _ _ _ _ _ (hx.at_.fat (by have := hx.rows64 (l := 0); omega) |>.below hS.below) (hy.at_.fat (by have := hy.rows64 (l := 0); omega) |>.below hS.below) _ rfl _ rfl _ rfl _ _ hx.at_.rl hy.at_.rl) rfl ?_
     rintro e W11 ⟨a1, c1, rfl, hv, hl, hb⟩
     refine ⟨_, rfl, hb, fun hS' => ?_⟩
     clear hS; have hS := hS'; clear hS'
     refine op_move rfl rfl ?_
     refine op_extract rfl rfl rfl ?_
     refine op_extract rfl rfl rfl ?_
     refine op_field (o' := 2) fa_47_2 rfl rfl rfl ?_
     refine op_storeA (i := 0) (vs := [_, _]) (cs' := [_, _, _, _, _, _]) (O' := [_, _, _, _, _]) hS Tryd.sizeOf43 rfl rfl rfl rfl rfl rfl rfl ?_
     clear hS; intro W12 hS
     refine endF ?_
     refine XF.blkN ?_
     refine XF.thenN ?_
     refine seqF (regF ?_)
     refine op_loadA (vs := [_, _, _, _, _, _]) Tryd.isAgg47 Tryd.sizeOf47 rfl (CellsAt.own (j := 0) (m := 6) (hS.at_ 0 rfl) rfl) rfl ?_
     refine op_storeA (i := 1) (vs := [_, _, _, _, _, _]) (cs' := [_, _, _, _, _, _]) (O' := [_, _, _, _, _]) hS Tryd.sizeOf47 rfl rfl rfl rfl rfl rfl rfl ?_
     clear hS; intro W13 hS
     refine endF (XF.thenN ?_)
     refine retF ?_
     refine XF.res (resC1 (vs := [_, _, _, _, _, _]) Tryd.results34 Tryd.isAgg47 Tryd.sizeOf47 rfl (CellsAt.own (j := 0) (m := 6) (hS.at_ 1 rfl) rfl)) ?_
     exact wret_one (ext_f3 hx hy hf hg (hv.agree (fun ad e => (hl ad e).1) (hS.since 0 rfl)) (fun ad e => Nat.le_trans hsz (hl ad e).1)) hS.below
    ·have hc30 := of_decide_eq_false hc; clear hc
     refine seqF (regF ?_)
     refine op_eql rfl rfl rfl ?_
     refine op_assign rfl rfl ?_
     refine endF (XF.thenN ?_)
     refine condF rfl (fun hc => ?_) (fun hc => ?_)
     ·have hc43 := of_decide_eq_true hc; clear hc
      have e4 : t = 4 := hc43
      subst e4
      obtain ⟨m, rfl, hm⟩ := dim3 hp (.inr rfl)
      obtain ⟨hpx, vx⟩ := hx.k4 hf
      obtain ⟨hpy, vy⟩ := hy.k4 hg
      refine seqF (regF ?_)
      refine op_assign rfl rfl ?_
      refine endF (XF.thenN ?_)
      refine blockF ?_
      refine loopF (fun q l W => ∃ (k : Nat) (v : Value), k ≤ m ∧ q = m - k ∧ l = [(3, .pointer (some ⟨B1, 0, none⟩)), (4, .pointer (some ⟨B2, 0, none⟩)), (5, .pointer (some ⟨B3, 0, none⟩)), (6, .pointer (some ⟨B4, 0, none⟩)), (7, .pointer (some ⟨B7, 0, none⟩)), (8, .int .i64 (k : Int))] ∧ St w [(B7, [.bool false, .int .i64 0, .int .u64 0, .slice none 0 0, v, .slice none 0 0], 47), (B4, [.bool false, .int .i64 0, .int .u64 0, .slice none 0 0, .slice none 0 0, .slice none 0 0], 47), (B3, [.bool g.z, .int .i64 g.c, .int .u64 (g.g : Int), .slice g.ra g.rl g.rc, .slice g.ca g.cl g.cc, .slice g.pa g.pl g.pc], 47), (B2, [.bool f.z, .int .i64 f.c, .int .u64 (f.g : Int), .slice f.ra f.rl f.rc, .slice f.ca f.cl f.cc, .slice f.pa f.pl f.pc], 47), (B1, [.int .i64 4, .int .i64 (m : Int), .slice sa 0 sc], 25)] [⟨v, k, flat ((thenC f.cells g.cells).take k), 89, 3⟩] [] W) (m - 0) ([(3, _), (4, _), (5, _), (6, _), (7, _), (8, _)]) ⟨rfl, rfl, rfl, rfl, rfl, rfl, trivial⟩ (⟨0, .slice none 0 0, Nat.zero_le _, rfl, rfl, hS.clear.newG _ _⟩) ?_
      clear hS
      rintro q l W ⟨k, v, hkm, rfl, rfl, hS⟩
      refine seqF ?_
      refine seqF (regF ?_)
      refine op_move rfl rfl ?_
      refine op_field (o' := 1) fa_25_1 rfl rfl rfl ?_
      refine op_load Tryd.isAgg3 rfl (cell_own (hS.at_ 4 rfl) rfl) rfl ?_
      refine op_lss rfl rfl rfl ?_
      refine endF (XF.thenN ?_)
      refine condF rfl (fun hc => ?_) (fun hc => ?_)
      ·have hc48 := of_decide_eq_true hc; clear hc
       have hk : k < m := by omega
       have hlx := vx.len
       have hly := vy.len
       obtain ⟨ba, offa, y1, eca, hy1, hba, a0, a1, a2⟩ := (hy.at_.cells.below hS.below).at_ (k := k) (by omega)
       have k1 : CellsAt W ba (offa + k * 3) [.int .u64 (y1.f : Int), .int .i64 y1.k, .int .i64 y1.v] := ⟨a0, a1, a2, trivial⟩
       have h1 : (thenC f.cells g.cells)[k]? = some (ofC f.cells y1) := by unfold thenC; rw [List.getElem?_map, hy1]; rfl
       have hcl := hx.at_.cl
       have hclg := hy.at_.cl
       simp only [eca] at hS
       refine skipF ?_
       refine XF.thenN ?_
       refine seqF ?_
       refine blockF ?_
       refine regBP (p := 11) (k := 13) (gi := 0) (m := 1) followsM hS rfl rfl (by kernel_rfl) (by kernel_rfl) (by kernel_rfl) (fun d hd => by cases hd) rfl rfl Tryd.underlying44 inf_89 rfl rfl (by show 0 < 3; decide) rfl rfl rfl (by dsimp only; simp only [maxLen]; omega) (by dsimp only; show _ * 24 ≤ _; omega) ?_
       refine blp_v 1 rfl rfl (by kernel_rfl) (rgV (li := [(7, _)]) rfl (w_free rfl) ⟨g_fr (by kernel_rfl) rfl, trivial⟩ (fun w hw => rn_field (o' := 4) fa_47_3 rfl rfl) (at_top rfl)) ?_
       refine blp_v 2 rfl rfl (by kernel_rfl) (rgV (li := [(51, _)]) rfl (w_free rfl) ⟨g_dep 0 (by kernel_rfl) (at_dep rfl rfl rfl), trivial⟩ (fun w hw => rn_load Tryd.isAgg44 rfl ((below_agree hw 0).cell (Nat.zero_le _) (cell_own (hS.at_ 0 rfl) rfl))) (at_top rfl)) ?_
       refine blp_v 3 rfl rfl (by kernel_rfl) (rgV (li := [(4, _)]) rfl (w_free rfl) ⟨g_fr (by kernel_rfl) rfl, trivial⟩ (fun w hw => rn_field (o' := 4) fa_47_3 rfl rfl) (at_top rfl)) ?_
       refine blp_v 4 rfl rfl (by kernel_rfl) (rgV (li := [(53, _)]) rfl (w_free rfl) ⟨g_dep 2 (by kernel_rfl) (at_dep rfl rfl rfl), trivial⟩ (fun w hw => rn_load Tryd.isAgg44 rfl ((below_agree hw 0).cell (Nat.zero_le _) (cell_own (hS.at_ 3 rfl) rfl))) (at_top rfl)) ?_
       refine blp_v 5 rfl rfl (by kernel_rfl) (rgV (li := [(5, _)]) rfl (w_free rfl) ⟨g_fr (by kernel_rfl) rfl, trivial⟩ (fun w hw => rn_field (o' := 4) fa_47_3 rfl rfl) (at_top rfl)) ?_
       refine blp_v 6 rfl rfl (by kernel_rfl) (rgV (li := [(55, _)]) rfl (w_free rfl) ⟨g_dep 4 (by kernel_rfl) (at_dep rfl rfl rfl), trivial⟩ (fun w hw => rn_load Tryd.isAgg44 rfl ((below_agree hw 0).cell (Nat.zero_le _) (cell_own (hS.at_ 2 rfl) rfl))) (at_top rfl)) ?_
       refine blp_v 7 rfl rfl (by kernel_rfl) (rgV (li := [(8, _)]) rfl (w_free rfl) ⟨g_fr (by kernel_rfl) rfl, trivial⟩ (fun w hw => rn_move rfl) (at_top rfl)) ?_
       refine blp_v 8 rfl rfl (by kernel_rfl) (rgV (li := [(56, _), (57, _)]) rfl (w_free rfl) ⟨g_dep 5 (by kernel_rfl) (at_dep rfl rfl rfl), g_dep 6 (by kernel_rfl) (at_dep rfl rfl rfl), trivial⟩ (fun w hw => rn_indexA  Tryd.underlying44 Tryd.sizeOf89 rfl rfl rfl (by omega) rfl) (at_top rfl)) ?_
       refine blp_v 9 rfl rfl (by kernel_rfl) (rgV (li := [(58, _)]) rfl (w_free rfl) ⟨g_dep 7 (by kernel_rfl) (at_dep rfl rfl rfl), trivial⟩ (fun w hw => rn_loadA (vs := [_, _, _]) Tryd.isAgg89 Tryd.sizeOf89 rfl (CellsAt.agree (below_agree hw 0) (Nat.zero_le _) (by assumption))) (at_top rfl)) ?_
       refine blp_v 10 rfl rfl (by kernel_rfl) (rg_call [isV _, isV _] rfl goes_49 (w_free rfl) ⟨p_tmp (g_dep 3 (by kernel_rfl) (at_dep rfl rfl rfl)), p_tmp (g_dep 8 (by kernel_rfl) (at_dep rfl rfl rfl)), trivial⟩ (fun vs w' hb hh => by have e := holds_isV (us := [_, _]) hh; subst e; exact (behindR_is f.ca f.cc f.cl f.cells y1 _ hx.at_.cl (by omega) ((hx.at_.cells.below hS.below).below hb) vx.oks (vy.oks k y1 hy1)).mono fun e w2 h => ⟨_, h.1, rfl, h.2⟩) (at_top rfl)) ?_
       refine blp_q 11 rfl rfl (by kernel_rfl) (isRow W.heap.size 1 89 _) (stab_isRow) (rg_rowV (us := [.agg (List.toArray [_, _, _])]) rfl (w_free rfl) Tryd.underlying44 Tryd.sizeOf89 Tryd.zeroValue89 rfl rfl ⟨p_tmp (g_dep 9 (by kernel_rfl) (at_dep rfl rfl rfl)), trivial⟩ (bs_44_1 _ _ _) (at_top rfl)) ?_
       refine blp_app 12 rfl rfl ?_
       refine blp_late 13 rfl rfl (rgV (li := [(7, _)]) rfl (w_free rfl) ⟨g_fr (by kernel_rfl) rfl, trivial⟩ (fun w hw => rn_field (o' := 4) fa_47_3 rfl rfl) (at_top rfl)) (lgV (li := [(7, _)]) rfl (w_free rfl) ⟨g_fr (by kernel_rfl) rfl, trivial⟩ (fun w => rn_field (o' := 4) fa_47_3 rfl rfl) (at_top rfl) rfl) ?_
       refine blp_nil ⟨_, _, g_dep 1 (by kernel_rfl) (at_dep rfl rfl rfl), g_dep 10 (by kernel_rfl) (at_dep rfl rfl rfl), rowOf_isRow rfl rfl, ?_⟩
       intro A14 v14 news14 W14 hbR hqA14 hS'
       clear hS; have hS := hS'; clear hS'
       cases hqA14
       refine fin_v ?_
       refine fin_v ?_
       refine fin_v ?_
       refine fin_v ?_
       refine fin_v ?_
       refine fin_v ?_
       refine fin_v ?_
       refine fin_v ?_
       refine fin_v ?_
       refine fin_v ?_
       refine fin_p ?_; intro _ _
       refine fin_v ?_
       refine fin_v ?_
       obtain ⟨g9, c9, e9, _, _⟩ := (hS.row 0 rfl).form (by show 0 < k + 1; omega)
       dsimp only at e9
       subst e9
       refine fin_nil ?_
       refine op_store (i := 0) (cs' := [_, _, _, _, _, _]) (O' := [_, _, _, _, _]) hS Tryd.sizeOf44 rfl rfl rfl rfl rfl rfl rfl ?_
       clear hS; intro W15 hS
       refine endF ?_
       refine XF.blkN ?_
       refine XF.thenN ?_
       refine regF ?_
       refine op_move rfl rfl ?_
       refine op_add rfl rfl (IntWalk.i64_in _ (by omega)) rfl ?_
       refine op_assign rfl rfl ?_
       refine endF ?_
       simp only [← eca] at hS
       exact XF.round (m - (k + 1)) [(3, _), (4, _), (5, _), (6, _), (7, _), (8, _)] (by omega) ⟨rfl, rfl, rfl, rfl, rfl, rfl, trivial⟩ ⟨k + 1, _, by omega, rfl, rfl, by rw [flat_step h1]; exact hS.clear⟩
      ·have hc48 := of_decide_eq_false hc; clear hc
       refine exitF ?_
       refine XF.thenX ?_
       refine XF.thenX ?_
       refine XF.blkX ?_
       refine XF.blkN ?_
       refine XF.thenN ?_
       refine seqF ?_
       obtain rfl : k = m := by omega
       have hrow := hS.row 0 rfl
       have hln : (thenC f.cells g.cells).length = k := by unfold thenC; rw [List.length_map]; exact vy.len
       have ht0 : (thenC f.cells g.cells).take k = thenC f.cells g.cells := List.take_of_length_le (by rw [hln]; exact Nat.le_refl _)
       simp only [ht0] at hrow
       obtain ⟨hn, a9, c9, rfl, _, _⟩ := crow_of_own hrow
       clear hrow
       refine regF ?_
       refine op_loadA (vs := [_, _, _, _, _, _]) Tryd.isAgg47 Tryd.sizeOf47 rfl (CellsAt.own (j := 0) (m := 6) (hS.at_ 0 rfl) rfl) rfl ?_
       refine op_storeA (i := 1) (vs := [_, _, _, _, _, _]) (cs' := [_, _, _, _, _, _]) (O' := [_, _, _, _, _]) hS Tryd.sizeOf47 rfl rfl rfl rfl rfl rfl rfl ?_
       clear hS; intro W16 hS
       refine endF (XF.thenN ?_)
       refine retF ?_
       refine XF.res (resC1 (vs := [_, _, _, _, _, _]) Tryd.results34 Tryd.isAgg47 Tryd.sizeOf47 rfl (CellsAt.own (j := 0) (m := 6) (hS.at_ 1 rfl) rfl)) ?_
       have hrow := hS.row 0 rfl
       simp only [ht0] at hrow
       obtain ⟨_, a8, c8, e8, hr9, hf9⟩ := crow_of_own hrow
       cases e8
       refine ⟨cellsF a9 c9 (thenC f.cells g.cells), ?_, ext_f4C hx hy hf hg hr9 (fun ad e => (hf9 ad e).1), hS.below⟩
       show _ = Ending.returned (Value.agg #[.bool false, .int .i64 0, .int .u64 ((0 : Nat) : Int), .slice none 0 0, .slice a9 (thenC f.cells g.cells).length c9, .slice none 0 0])
       rw [hln]
       rfl
     ·have hc43 := of_decide_eq_false hc; clear hc
      refine seqF (regF ?_)
      refine op_eql rfl rfl rfl ?_
      refine op_assign rfl rfl ?_
      refine endF (XF.thenN ?_)
      refine condF rfl (fun hc => absurd (of_decide_eq_true hc) (by exact plain_ne5 hp)) (fun hc => ?_)
      have hc := of_decide_eq_false hc
      refine skipF ?_
      refine XF.blkN ?_
      refine XF.thenN ?_
      refine seqF (regF ?_)
      refine op_loadA (vs := [_, _, _, _, _, _]) Tryd.isAgg47 Tryd.sizeOf47 rfl (CellsAt.own (j := 0) (m := 6) (hS.at_ 0 rfl) rfl) rfl ?_
      refine op_storeA (i := 1) (vs := [_, _, _, _, _, _]) (cs' := [_, _, _, _, _, _]) (O' := [_, _, _, _, _]) hS Tryd.sizeOf47 rfl rfl rfl rfl rfl rfl rfl ?_
      clear hS; intro W17 hS
      refine endF (XF.thenN ?_)
      refine retF ?_
      refine XF.res (resC1 (vs := [_, _, _, _, _, _]) Tryd.results34 Tryd.isAgg47 Tryd.sizeOf47 rfl (CellsAt.own (j := 0) (m := 6) (hS.at_ 1 rfl) rfl)) ?_
      have e1 : t = 1 := by
       have := (plainB_tag hp).2
       omega
      subst e1
      exact wret_one (ext_f1 hx hy hf hg) hS.below
theorem thenR_pair (t n u m : Int) (a1 a2 : Option Addr) (c1 c2 b off sc : Nat) (w : World) (hs1 : S3 w b off ⟨t, n, a1, 0, c1⟩) (hs2 : S3 w b (off + 3) ⟨u, m, a2, 0, c2⟩) (hp1 : plainB t n 0 = true) (hp2 : plainB u m 0 = true)(fra fca : Option Addr) (frc fcc fpc fb fo : Nat) (f1 f2 : WF) (x1 x2 : PF) (hf6 : W6 w fb fo f1) (hf7 : W6 w fb (fo + 6) f2) (hx1 : PIs w t n f1 x1) (hx2 : PIs w u m f2 x2)(gra gca : Option Addr) (grc gcc gpc gb go : Nat) (g1 g2 : WF) (y1 y2 : PF) (hg6 : W6 w gb go g1) (hg7 : W6 w gb (go + 6) g2) (hy1 : PIs w t n g1 y1) (hy2 : PIs w u m g2 y2) :
  Calls Tryd.prog 34 #[.agg #[.int .i64 5, .int .i64 0, .slice (some ⟨b, off, none⟩) 2 sc], .agg #[.bool false, .int .i64 0, .int .u64 0, .slice fra 0 frc, .slice fca 0 fcc, .slice (some ⟨fb, fo, none⟩) 2 fpc], .agg #[.bool false, .int .i64 0, .int .u64 0, .slice gra 0 grc, .slice gca 0 gcc, .slice (some ⟨gb, go, none⟩) 2 gpc]] w (WRet (.two t n u m) (.two (extP t n x1 y1) (extP u m x2 y2)) w) := by
 refine enterF (args := [.agg #[.int .i64 5, .int .i64 0, .slice (some ⟨b, off, none⟩) 2 sc], .agg #[.bool false, .int .i64 0, .int .u64 0, .slice fra 0 frc, .slice fca 0 fcc, .slice (some ⟨fb, fo, none⟩) 2 fpc], .agg #[.bool false, .int .i64 0, .int .u64 0, .slice gra 0 grc, .slice gca 0 gcc, .slice (some ⟨gb, go, none⟩) 2 gpc]]) Tryd.func34 rfl Tryd.ntmps34 rfl ?_
 have hS := St.start w
 refine seqF (regF ?_)
 refine op_box (cs := [_, _, _]) hS rfl rfl rfl ?_
 clear hS; intro B1 W1 hS
 refine op_box (cs := [_, _, _, _, _, _]) hS rfl rfl rfl ?_
 clear hS; intro B2 W2 hS
 refine op_box (cs := [_, _, _, _, _, _]) hS rfl rfl rfl ?_
 clear hS; intro B3 W3 hS
 refine op_alloc (cs := [_, _, _, _, _, _]) hS Tryd.zeroValue47 rfl rfl ?_
 clear hS; intro B4 W4 hS
 refine endF (XF.thenN ?_)
 refine seqF ?_
 refine seqF (regF ?_)
 refine op_field (o' := 0) fa_47_0 rfl rfl rfl ?_
 refine op_load Tryd.isAgg4 rfl (cell_own (hS.at_ 2 rfl) rfl) rfl ?_
 refine op_move rfl rfl ?_
 refine op_cases (d := 11) rfl (fun hc => absurd hc (by decide)) (fun hc => ?_)
 skip
 refine op_wantedF (d := 11) rfl rfl ?_
 refine op_field (o' := 0) fa_47_0 rfl rfl rfl ?_
 refine op_wantedF (d := 11) rfl rfl ?_
 refine op_load Tryd.isAgg4 rfl (cell_own (hS.at_ 1 rfl) rfl) rfl ?_
 refine op_pickF rfl rfl rfl ?_
 refine endF (XF.thenN ?_)
 refine condF rfl (fun hc => absurd hc (by decide)) (fun hc => ?_)
 skip
 refine skipF ?_
 refine XF.thenN ?_
 refine seqF (regF ?_)
 refine op_build (us := []) rfl (bld_47) rfl ?_
 refine op_alloc (cs := [_, _, _, _, _, _]) hS Tryd.zeroValue47 rfl rfl ?_
 clear hS; intro B5 W5 hS
 refine op_storeA (i := 0) (vs := [_, _, _, _, _, _]) (cs' := [_, _, _, _, _, _]) (O' := [_, _, _, _, _]) hS Tryd.sizeOf47 rfl rfl rfl rfl rfl rfl rfl ?_
 clear hS; intro W6 hS
 refine endF (XF.thenN ?_)
 refine seqF ?_
 refine seqF (regF ?_)
 refine op_field (o' := 0) fa_25_0 rfl rfl rfl ?_
 refine op_load Tryd.isAgg22 rfl (cell_own (hS.at_ 4 rfl) rfl) rfl ?_
 refine endF (XF.thenN ?_)
 refine blockF ?_
 refine seqF (regF ?_)
 refine op_eql rfl rfl rfl ?_
 refine op_assign rfl rfl ?_
 refine endF (XF.thenN ?_)
 refine condF rfl (fun hc => absurd (of_decide_eq_true hc) (by omega)) (fun hc => ?_)
 have hc := of_decide_eq_false hc
 refine seqF (regF ?_)
 refine op_eql rfl rfl rfl ?_
 refine op_assign rfl rfl ?_
 refine endF (XF.thenN ?_)
 refine condF rfl (fun hc => absurd (of_decide_eq_true hc) (by omega)) (fun hc => ?_)
 have hc := of_decide_eq_false hc
 refine seqF (regF ?_)
 refine op_eql rfl rfl rfl ?_
 refine op_assign rfl rfl ?_
 refine endF (XF.thenN ?_)
 refine condF rfl (fun hc => absurd (of_decide_eq_true hc) (by omega)) (fun hc => ?_)
 have hc := of_decide_eq_false hc
 refine seqF (regF ?_)
 refine op_eql rfl rfl rfl ?_
 refine op_assign rfl rfl ?_
 refine endF (XF.thenN ?_)
 refine condF rfl (fun hc => ?_) (fun hc => absurd (of_decide_eq_false hc) (by omega))
 have hc := of_decide_eq_true hc
 have hsz := hS.below.size
 have k1 := CellsAt.agree hS.agree (Nat.zero_le _) hs1.cells
 have k2 := CellsAt.agree hS.agree (Nat.zero_le _) hs2.cells
 have kf1 := CellsAt.agree hS.agree (Nat.zero_le _) hf6.cells
 have kf2 := CellsAt.agree hS.agree (Nat.zero_le _) hf7.cells
 have kg1 := CellsAt.agree hS.agree (Nat.zero_le _) hg6.cells
 have kg2 := CellsAt.agree hS.agree (Nat.zero_le _) hg7.cells
 refine regBK followsM 28 hS rfl rfl (by kernel_rfl) (by kernel_rfl) (by kernel_rfl) (fun d hd => by cases hd) ?_
 refine bl_cons 1 rfl (isV _) (stab_isV _) (rgV (li := [(3, _)]) rfl (w_free rfl) ⟨g_fr (by kernel_rfl) rfl, trivial⟩ (fun w hw => rn_field (o' := 2) fa_25_2 rfl rfl) (at_top rfl)) ?_
 refine bl_cons 2 rfl (isV _) (stab_isV _) (rgV (li := [(66, _)]) rfl (w_free rfl) ⟨g_dep 0 (by kernel_rfl) (at_dep rfl rfl rfl), trivial⟩ (fun w hw => rn_load Tryd.isAgg23 rfl ((below_agree hw 0).cell (Nat.zero_le _) (cell_own (hS.at_ 4 rfl) rfl))) (at_top rfl)) ?_
 refine bl_cons 3 rfl (isV _) (stab_isV _) (rgV (li := [(67, _)]) rfl (w_free rfl) ⟨g_dep 1 (by kernel_rfl) (at_dep rfl rfl rfl), trivial⟩ (fun w hw => rn_indexA (j := 0) Tryd.underlying23 Tryd.sizeOf25 rfl rfl rfl (by omega) (Nat.add_zero _)) (at_top rfl)) ?_
 refine bl_cons 4 rfl (isV _) (stab_isV _) (rgV (li := [(68, _)]) rfl (w_free rfl) ⟨g_dep 2 (by kernel_rfl) (at_dep rfl rfl rfl), trivial⟩ (fun w hw => rn_loadA (vs := [_, _, _]) Tryd.isAgg25 Tryd.sizeOf25 rfl (CellsAt.agree (below_agree hw 0) (Nat.zero_le _) (by assumption))) (at_top rfl)) ?_
 refine bl_cons 5 rfl (isV _) (stab_isV _) (rgV (li := [(4, _)]) rfl (w_free rfl) ⟨g_fr (by kernel_rfl) rfl, trivial⟩ (fun w hw => rn_field (o' := 5) fa_47_4 rfl rfl) (at_top rfl)) ?_
 refine bl_cons 6 rfl (isV _) (stab_isV _) (rgV (li := [(70, _)]) rfl (w_free rfl) ⟨g_dep 4 (by kernel_rfl) (at_dep rfl rfl rfl), trivial⟩ (fun w hw => rn_load Tryd.isAgg45 rfl ((below_agree hw 0).cell (Nat.zero_le _) (cell_own (hS.at_ 3 rfl) rfl))) (at_top rfl)) ?_
 refine bl_cons 7 rfl (isV _) (stab_isV _) (rgV (li := [(71, _)]) rfl (w_free rfl) ⟨g_dep 5 (by kernel_rfl) (at_dep rfl rfl rfl), trivial⟩ (fun w hw => rn_indexA (j := 0) Tryd.underlying45 Tryd.sizeOf47 rfl rfl rfl (by omega) (Nat.add_zero _)) (at_top rfl)) ?_
 refine bl_cons 8 rfl (isV _) (stab_isV _) (rgV (li := [(72, _)]) rfl (w_free rfl) ⟨g_dep 6 (by kernel_rfl) (at_dep rfl rfl rfl), trivial⟩ (fun w hw => rn_loadA (vs := [_, _, _, _, _, _]) Tryd.isAgg47 Tryd.sizeOf47 rfl (CellsAt.agree (below_agree hw 0) (Nat.zero_le _) (by assumption))) (at_top rfl)) ?_
 refine bl_cons 9 rfl (isV _) (stab_isV _) (rgV (li := [(5, _)]) rfl (w_free rfl) ⟨g_fr (by kernel_rfl) rfl, trivial⟩ (fun w hw => rn_field (o' := 5) fa_47_4 rfl rfl) (at_top rfl)) ?_
 refine bl_cons 10 rfl (isV _) (stab_isV _) (rgV (li := [(74, _)]) rfl (w_free rfl) ⟨g_dep 8 (by kernel_rfl) (at_dep rfl rfl rfl), trivial⟩ (fun w hw => rn_load Tryd.isAgg45 rfl ((below_agree hw 0).cell (Nat.zero_le _) (cell_own (hS.at_ 2 rfl) rfl))) (at_top rfl)) ?_
 refine bl_cons 11 rfl (isV _) (stab_isV _) (rgV (li := [(75, _)]) rfl (w_free rfl) ⟨g_dep 9 (by kernel_rfl) (at_dep rfl rfl rfl), trivial⟩ (fun w hw => rn_indexA (j := 0) Tryd.underlying45 Tryd.sizeOf47 rfl rfl rfl (by omega) (Nat.add_zero _)) (at_top rfl)) ?_
 refine bl_cons 12 rfl (isV _) (stab_isV _) (rgV (li := [(76, _)]) rfl (w_free rfl) ⟨g_dep 10 (by kernel_rfl) (at_dep rfl rfl rfl), trivial⟩ (fun w hw => rn_loadA (vs := [_, _, _, _, _, _]) Tryd.isAgg47 Tryd.sizeOf47 rfl (CellsAt.agree (below_agree hw 0) (Nat.zero_le _) (by assumption))) (at_top rfl)) ?_
 refine bl_cons 13 rfl (isNew W6.heap.size (.one t n) (.one (extP t n x1 y1))) (stab_isNew) (rg_call [isV _, isV _, isV _] rfl goes_34 (w_free rfl) ⟨p_tmp (g_dep 3 (by kernel_rfl) (at_dep rfl rfl rfl)), p_tmp (g_dep 7 (by kernel_rfl) (at_dep rfl rfl rfl)), p_tmp (g_dep 11 (by kernel_rfl) (at_dep rfl rfl rfl)), trivial⟩ (fun vs w' hb hh => by have e := holds_isV (us := [_, _, _]) hh; subst e; exact wret_gives hb.size (thenR_plain _ _ _ _ _ _ _ _ _ hp1 (hx1.below (hS.below.trans (hb.mono hS.below.size))) (hy1.below (hS.below.trans (hb.mono hS.below.size))))) (at_top rfl)) ?_
 refine bl_cons 14 rfl (isV _) (stab_isV _) (rgV (li := [(3, _)]) rfl (w_free rfl) ⟨g_fr (by kernel_rfl) rfl, trivial⟩ (fun w hw => rn_field (o' := 2) fa_25_2 rfl rfl) (at_top rfl)) ?_
 refine bl_cons 15 rfl (isV _) (stab_isV _) (rgV (li := [(79, _)]) rfl (w_free rfl) ⟨g_dep 13 (by kernel_rfl) (at_dep rfl rfl rfl), trivial⟩ (fun w hw => rn_load Tryd.isAgg23 rfl ((below_agree hw 0).cell (Nat.zero_le _) (cell_own (hS.at_ 4 rfl) rfl))) (at_top rfl)) ?_
 refine bl_cons 16 rfl (isV _) (stab_isV _) (rgV (li := [(80, _)]) rfl (w_free rfl) ⟨g_dep 14 (by kernel_rfl) (at_dep rfl rfl rfl), trivial⟩ (fun w hw => rn_indexA (j := 1) Tryd.underlying23 Tryd.sizeOf25 rfl rfl rfl (by omega) rfl) (at_top rfl)) ?_
 refine bl_cons 17 rfl (isV _) (stab_isV _) (rgV (li := [(81, _)]) rfl (w_free rfl) ⟨g_dep 15 (by kernel_rfl) (at_dep rfl rfl rfl), trivial⟩ (fun w hw => rn_loadA (vs := [_, _, _]) Tryd.isAgg25 Tryd.sizeOf25 rfl (CellsAt.agree (below_agree hw 0) (Nat.zero_le _) (by assumption))) (at_top rfl)) ?_
 refine bl_cons 18 rfl (isV _) (stab_isV _) (rgV (li := [(4, _)]) rfl (w_free rfl) ⟨g_fr (by kernel_rfl) rfl, trivial⟩ (fun w hw => rn_field (o' := 5) fa_47_4 rfl rfl) (at_top rfl)) ?_
 refine bl_cons 19 rfl (isV _) (stab_isV _) (rgV (li := [(83, _)]) rfl (w_free rfl) ⟨g_dep 17 (by kernel_rfl) (at_dep rfl rfl rfl), trivial⟩ (fun w hw => rn_load Tryd.isAgg45 rfl ((below_agree hw 0).cell (Nat.zero_le _) (cell_own (hS.at_ 3 rfl) rfl))) (at_top rfl)) ?_
 refine bl_cons 20 rfl (isV _) (stab_isV _) (rgV (li := [(84, _)]) rfl (w_free rfl) ⟨g_dep 18 (by kernel_rfl) (at_dep rfl rfl rfl), trivial⟩ (fun w hw => rn_indexA (j := 1) Tryd.underlying45 Tryd.sizeOf47 rfl rfl rfl (by omega) rfl) (at_top rfl)) ?_
 refine bl_cons 21 rfl (isV _) (stab_isV _) (rgV (li := [(85, _)]) rfl (w_free rfl) ⟨g_dep 19 (by kernel_rfl) (at_dep rfl rfl rfl), trivial⟩ (fun w hw => rn_loadA (vs := [_, _, _, _, _, _]) Tryd.isAgg47 Tryd.sizeOf47 rfl (CellsAt.agree (below_agree hw 0) (Nat.zero_le _) (by assumption))) (at_top rfl)) ?_
 refine bl_cons 22 rfl (isV _) (stab_isV _) (rgV (li := [(5, _)]) rfl (w_free rfl) ⟨g_fr (by kernel_rfl) rfl, trivial⟩ (fun w hw => rn_field (o' := 5) fa_47_4 rfl rfl) (at_top rfl)) ?_
 refine bl_cons 23 rfl (isV _) (stab_isV _) (rgV (li := [(87, _)]) rfl (w_free rfl) ⟨g_dep 21 (by kernel_rfl) (at_dep rfl rfl rfl), trivial⟩ (fun w hw => rn_load Tryd.isAgg45 rfl ((below_agree hw 0).cell (Nat.zero_le _) (cell_own (hS.at_ 2 rfl) rfl))) (at_top rfl)) ?_
 refine bl_cons 24 rfl (isV _) (stab_isV _) (rgV (li := [(88, _)]) rfl (w_free rfl) ⟨g_dep 22 (by kernel_rfl) (at_dep rfl rfl rfl), trivial⟩ (fun w hw => rn_indexA (j := 1) Tryd.underlying45 Tryd.sizeOf47 rfl rfl rfl (by omega) rfl) (at_top rfl)) ?_
 refine bl_cons 25 rfl (isV _) (stab_isV _) (rgV (li := [(89, _)]) rfl (w_free rfl) ⟨g_dep 23 (by kernel_rfl) (at_dep rfl rfl rfl), trivial⟩ (fun w hw => rn_loadA (vs := [_, _, _, _, _, _]) Tryd.isAgg47 Tryd.sizeOf47 rfl (CellsAt.agree (below_agree hw 0) (Nat.zero_le _) (by assumption))) (at_top rfl)) ?_
 refine bl_cons 26 rfl (isNew W6.heap.size (.one u m) (.one (extP u m x2 y2))) (stab_isNew) (rg_call [isV _, isV _, isV _] rfl goes_34 (w_free rfl) ⟨p_tmp (g_dep 16 (by kernel_rfl) (at_dep rfl rfl rfl)), p_tmp (g_dep 20 (by kernel_rfl) (at_dep rfl rfl rfl)), p_tmp (g_dep 24 (by kernel_rfl) (at_dep rfl rfl rfl)), trivial⟩ (fun vs w' hb hh => by have e := holds_isV (us := [_, _, _]) hh; subst e; exact wret_gives hb.size (thenR_plain _ _ _ _ _ _ _ _ _ hp2 (hx2.below (hS.below.trans (hb.mono hS.below.size))) (hy2.below (hS.below.trans (hb.mono hS.below.size))))) (at_top rfl)) ?_
 refine bl_cons 27 rfl (isPairRow W6.heap.size (.two t n u m) (.two (extP t n x1 y1) (extP u m x2 y2))) (stab_isPairRow) (rg_pairRow rfl (w_free rfl) ⟨p_tmp (g_dep 12 (by kernel_rfl) (at_dep rfl rfl rfl)), p_tmp (g_dep 25 (by kernel_rfl) (at_dep rfl rfl rfl)), trivial⟩ (at_top rfl)) ?_
 refine bl_cons 28 rfl (isV _) (stab_isV _) (rgV (li := [(7, _)]) rfl (w_free rfl) ⟨g_fr (by kernel_rfl) rfl, trivial⟩ (fun w hw => rn_field (o' := 5) fa_47_4 rfl rfl) (at_top rfl)) ?_
 refine bl_nil ?_
 intro W7 hbR hS'
 clear hS; have hS := hS'; clear hS'
 refine fin_v ?_
 refine fin_v ?_
 refine fin_v ?_
 refine fin_v ?_
 refine fin_v ?_
 refine fin_v ?_
 refine fin_v ?_
 refine fin_v ?_
 refine fin_v ?_
 refine fin_v ?_
 refine fin_v ?_
 refine fin_v ?_
 refine fin_p ?_; rintro _ ⟨v1, rfl, hn1⟩
 refine fin_v ?_
 refine fin_v ?_
 refine fin_v ?_
 refine fin_v ?_
 refine fin_v ?_
 refine fin_v ?_
 refine fin_v ?_
 refine fin_v ?_
 refine fin_v ?_
 refine fin_v ?_
 refine fin_v ?_
 refine fin_v ?_
 refine fin_p ?_; rintro _ ⟨v2, rfl, hn2⟩
 refine fin_p ?_; rintro _ ⟨b9, rfl, hn9⟩
 refine fin_v ?_
 refine fin_nil ?_
 refine op_store (i := 0) (cs' := [_, _, _, _, _, _]) (O' := [_, _, _, _, _]) hS Tryd.sizeOf45 rfl rfl rfl rfl rfl rfl rfl ?_
 clear hS; intro W8 hS
 refine endF ?_
 refine XF.blkN ?_
 refine XF.thenN ?_
 refine seqF (regF ?_)
 refine op_loadA (vs := [_, _, _, _, _, _]) Tryd.isAgg47 Tryd.sizeOf47 rfl (CellsAt.own (j := 0) (m := 6) (hS.at_ 0 rfl) rfl) rfl ?_
 refine op_storeA (i := 1) (vs := [_, _, _, _, _, _]) (cs' := [_, _, _, _, _, _]) (O' := [_, _, _, _, _]) hS Tryd.sizeOf47 rfl rfl rfl rfl rfl rfl rfl ?_
 clear hS; intro W9 hS
 refine endF (XF.thenN ?_)
 refine retF ?_
 refine XF.res (resC1 (vs := [_, _, _, _, _, _]) Tryd.results34 Tryd.isAgg47 Tryd.sizeOf47 rfl (CellsAt.own (j := 0) (m := 6) (hS.at_ 1 rfl) rfl)) ?_
 exact ⟨pairF b9, rfl, (hn9.agree (hS.since 0 rfl)).mono hsz, hS.below⟩
theorem thenR_ok {S : PS} {sf : SF} {f g : WF} {x y : PX} {w : World} (hs : SIs w S sf) (hok : S.ok) (hx : XIs w S f x) (hy : XIs w S g y) : Calls Tryd.prog 34 #[sf.val, f.val, g.val] w (WRet S (extX S x y) w) := by
 cases S <;> cases x <;> cases y <;> first | exact hx.elim | exact hy.elim | skip
 ·obtain ⟨a, c, rfl⟩ := hs
  exact thenR_plain _ _ _ _ _ _ _ _ _ hok hx hy
 ·obtain ⟨b, off, c, a1, c1, a2, c2, rfl, h1, h2⟩ := hs
  obtain ⟨ra, ca, rc, cc, pc, fb, fo, f1, f2, rfl, h6, h7, h8, h9⟩ := hx.two
  obtain ⟨ra', ca', rc', cc', pc', gb, go, g1, g2, rfl, h6', h7', h8', h9'⟩ := hy.two
  exact thenR_pair _ _ _ _ _ _ _ _ _ _ _ _ h1 h2 hok.1 hok.2 _ _ _ _ _ _ _ _ _ _ _ h6 h7 h8 h9 _ _ _ _ _ _ _ _ _ _ _ h6' h7' h8' h9'
end Go.Proofs.YtfkbkekgnoanaaaDoor
namespace Go.Proofs.YtfkbkekgnoanaaaDoor
open Go Go.RowKit
theorem St.regrow {w0 W W' : World} {v v' : Value} {n n' : Nat} {xs xs' : List Value} {e : TypeId} {size : Nat} (h : St w0 [] [⟨v, n, xs, e, size⟩] [] W) (hb : Below w0.heap.size W W') (hr : W'.ownsRow w0.heap.size e size v' n' xs') : St w0 [] [⟨v', n', xs', e, size⟩] [] W' :=
 ⟨h.below.trans hb, (fun p hp => by cases hp), List.Pairwise.nil, (fun q hq => by cases hq), (fun g hg => by
  rcases List.mem_cons.1 hg with rfl | hg
  ·exact ⟨hr, fun b hb => ⟨fun p hp => (by cases hp), fun q hq => (by cases hq)⟩⟩
  ·cases hg), List.pairwise_singleton _ _⟩
section
variable {P : Program} {n : Nat} {ops : Array Oper} {Q : Exit → Act → World → Prop} {l : Fr} {w0 W : World} {O : Own} {G : Grows} {K : List (Nat × World)} {os : List Oper} {d : Nat} {ty : TypeId} {pos : String} {aft : Array Edge}
theorem op_convB {src dst e : TypeId} {x : Operand} {base : Nat} {v : Value} {bs : List UInt8} (hs : P.underlying src = some (.slice e)) (he : P.underlying e = some (.int .u8)) (hdst : P.underlying dst = some .string) (hx : evL l x = some v) (hr : W.ownsRow base e 1 v bs.length (Lib.byteCells bs)) (h0 : 0 < bs.length) (hd : Nat.blt d n = true)
  (h : OpsF P n ops Q os ((d, .string ⟨bs.toArray⟩) :: l) W) : OpsF P n ops Q (⟨some d, .convert src dst x, ty, pos, aft, none⟩ :: os) l W :=
 opV (v := .string ⟨bs.toArray⟩) (fun ev hev => by
  obtain ⟨b, c, rfl, _⟩ := ownsRow_at hr h0
  have hc : ∀ j (hj : j < bs.length), W.cell? (Addr.add ⟨b, 0, none⟩ j) = some (.int .u8 (bs[j].toNat : Int)) := fun j hj => by
   rcases ownsRow_cells hr with ⟨h1, _⟩ | ⟨b', h1, _, h2⟩
   ·cases h1
   ·cases h1
    rw [Addr.add_lit, Nat.zero_add]
    exact h2 j _ (by simp [Lib.byteCells, hj])
  have hr := run_convert_bytes_back (P := P) W src dst e ⟨b, 0, none⟩ c bs hs he hdst hc
  unfold execOp; simp only []; rw [hev x _ hx]
  simp [hr]) hd h
theorem rn_sliceTo {T e : TypeId} {x y : Operand} {kk : IntKind} {a : Option Addr} {m c k s : Nat} {j : Int} (hU : P.underlying T = some (.slice e)) (hs : ∀ w, (sizeOf e).run P w = .ok s w) (hx : evL l x = some (.slice a m c)) (hy : evL l y = some (.int kk j)) (hj : j = (k : Int)) (hk : k ≤ c) (h0 : c ≠ 0) (ha : ∀ p, a = some p → ∃ b o, p = ⟨b, o, none⟩) :
  Runs P l ⟨some d, .slice T x none (some y) none, ty, pos, aft, none⟩ W (.slice a k c) W := fun ev he => by
 subst hj
 have h1 : (0 : Int) ≤ (k : Int) := by omega
 have h2 : (k : Int) ≤ (c : Int) := by omega
 have hm : a.map (·.add 0) = a := by
  cases a with
  | none => rfl
  | some p => obtain ⟨b, o, rfl⟩ := ha p rfl; rfl
 unfold execOp; simp only [Option.map_some, Option.map_none]; rw [he x _ hx, he y _ hy]
 simp [Instr.sliceAt, Instr.slice, Instr.sliceBounds, Instr.sliceBound, run_underlying hU, asIntOf, hk, hs, h0]
 exact hm
theorem op_sliceTo {T e : TypeId} {x y : Operand} {kk : IntKind} {a : Option Addr} {m c k s : Nat} {j : Int} (hU : P.underlying T = some (.slice e)) (hs : ∀ w, (sizeOf e).run P w = .ok s w) (hx : evL l x = some (.slice a m c)) (hy : evL l y = some (.int kk j)) (hj : j = (k : Int)) (hk : k ≤ c) (h0 : c ≠ 0) (ha : ∀ p, a = some p → ∃ b o, p = ⟨b, o, none⟩) (hd : Nat.blt d n = true)
  (h : OpsF P n ops Q os ((d, .slice a k c) :: l) W) : OpsF P n ops Q (⟨some d, .slice T x none (some y) none, ty, pos, aft, none⟩ :: os) l W := opV (rn_sliceTo hU hs hx hy hj hk h0 ha) hd h
end
end Go.Proofs.YtfkbkekgnoanaaaDoor
namespace Go.Proofs.YtfkbkekgnoanaaaDoor
open Go Go.RowKit
def confT (p : Int) (ws : List Int) : List UInt8 := Lib.itoa p ++ ws.flatMap (fun g => 32 :: Lib.itoa g)
theorem confT_take {p : Int} {ws : List Int} {i : Nat} {y : Int} (h : ws[i]? = some y) : confT p (ws.take (i + 1)) = confT p (ws.take i) ++ 32 :: Lib.itoa y := by
 unfold confT
 rw [List.take_add_one, h]
 simp [List.flatMap_append]
theorem confT_len {p : Int} {ws : List Int} (hp : -9223372036854775808 ≤ p ∧ p ≤ 9223372036854775807) (hw : ∀ y ∈ ws, -9223372036854775808 ≤ y ∧ y ≤ 9223372036854775807) : (confT p ws).length ≤ 21 + 22 * ws.length := by
 unfold confT
 rw [List.length_append]
 have h1 := Lib.itoa_length_le p hp.1 hp.2
 have h2 : (ws.flatMap (fun g => 32 :: Lib.itoa g)).length ≤ 22 * ws.length := by
  induction ws with
  | nil => simp
  | cons y t ih =>
   have h3 := hw y List.mem_cons_self
   have h4 := Lib.itoa_length_le y h3.1 h3.2
   have h5 := ih (fun z hz => hw z (List.mem_cons_of_mem _ hz))
   simp only [List.flatMap_cons, List.length_append, List.length_cons]
   omega
 omega
theorem text_c (p : Int) (wa : Option Addr) (wl wc : Nat) (ws : List Int) (w : World) (hrow : Row w wa ws) (hlen : ws.length = wl) (hm : wl ≤ 4096) (hp : -9223372036854775808 ≤ p ∧ p ≤ 9223372036854775807) (hwr : ∀ y ∈ ws, -9223372036854775808 ≤ y ∧ y ≤ 9223372036854775807) (hne : 0 < (confT p ws).length) (ht : Tabs w) :
  Calls Tryd.prog 18 #[.agg #[.int .i64 p, .slice wa wl wc]] w (fun e w' => e = .returned (.string ⟨(confT p ws).toArray⟩) ∧ Below w.heap.size w w') := by
 refine enterF (args := [.agg #[.int .i64 p, .slice wa wl wc]]) Tryd.func18 rfl Tryd.ntmps18 rfl ?_
 have hS := St.start w
 refine seqF (regF ?_)
 refine op_box (cs := [_, _]) hS rfl rfl rfl ?_
 clear hS; intro B1 W1 hS
 refine op_assign rfl rfl ?_
 refine endF (XF.thenN ?_)
 refine seqF ?_
 have hRoot := hS.below
 have c0 : W1.cell? ⟨B1, 0, none⟩ = some (.int .i64 p) := cell_own (hS.at_ 0 rfl) rfl
 have c1 : W1.cell? ⟨B1, 1, none⟩ = some (.slice wa wl wc) := cell_own (hS.at_ 0 rfl) rfl
 have hT : Lib.TabBelow Tryd.prog W1.heap.size W1 "internal/strconv.uint64pow10" .u64 Lib.pow10Tab := fun w2 hb2 => (ht.below (hRoot.trans (hb2.mono hRoot.size))).pow
 have hRoot0 := hRoot
 clear hS; have hS := St.start W1
 refine regF ?_
 refine op_field fa_31_0 rfl (Nat.add_zero _) rfl ?_
 refine op_load Tryd.isAgg3 rfl (by first | assumption | exact hS.old (by assumption)) rfl ?_
 refine op_callG (vs := [_, _, _]) (xs := [] ++ Lib.byteCells (Lib.itoa p)) (e1 := 5) (size := 1) (m := 0 + (Lib.itoa p).length) hS goes_37 rfl (Tryd.strconv_AppendInt_10 W1.heap.size 0 p hp.1 hp.2 _ [] _ (World.ownsRow_nil _ _ _ _) (Nat.le_refl _) (by decide) hT) rfl (fun e W2 ⟨v, h1, h2, h3, _⟩ => ⟨v, h1, h3, h2⟩) ?_
 clear hS; intro v2 W2 hS
 refine op_assign rfl rfl ?_
 refine endF (XF.thenN ?_)
 refine seqF ?_
 refine seqF (regF ?_)
 refine op_field fa_31_1 rfl rfl rfl ?_
 refine op_load Tryd.isAgg29 rfl (by first | assumption | exact hS.old (by assumption)) rfl ?_
 refine op_len Tryd.underlying29 rfl rfl ?_
 refine op_move rfl rfl ?_
 refine endF (XF.thenN ?_)
 refine blockF ?_
 refine loopF (fun m l W => ∃ (i : Nat) (v : Value), i ≤ wl ∧ m = wl - i ∧ l = [(3, v), (10, .slice wa wl wc), (11, .int .i64 (wl : Int)), (12, .int .i64 (i : Int))] ∧ St W1 [] [⟨v, (confT p (ws.take i)).length, Lib.byteCells (confT p (ws.take i)), 5, 1⟩] [] W) (wl - 0) ([(3, _), (10, _), (11, _), (12, _)]) ⟨rfl, rfl, rfl, rfl, trivial⟩ (⟨0, _, Nat.zero_le _, rfl, rfl, hS.castG (by simp [confT])⟩) ?_
 clear hS
 rintro m l W ⟨i, v, hi, rfl, rfl, hS⟩
 refine seqF (regF ?_)
 refine op_lss rfl rfl rfl ?_
 refine endF (XF.thenN ?_)
 refine seqF ?_
 refine condF rfl (fun hc => ?_) (fun hc => ?_)
 ·have hc13 := of_decide_eq_true hc; clear hc
  have hk : i < wl := by omega
  obtain ⟨b, off, y, rfl, hy, hyc⟩ := hrow.at1 (show i < ws.length by omega)
  have k1 := hS.old (cell_old hyc hRoot0)
  have hyr := hwr y (List.mem_of_getElem? hy)
  have hTl := confT_len (ws := ws.take i) hp (fun z hz => hwr z (List.mem_of_mem_take hz))
  have hTl2 : (ws.take i).length ≤ 4096 := by rw [List.length_take]; omega
  refine skipF ?_
  refine XF.thenN ?_
  refine seqF ?_
  refine blockF ?_
  refine seqF (regF ?_)
  refine op_indexA  Tryd.underlying29 Tryd.sizeOf3 rfl rfl rfl (by omega) rfl rfl ?_
  refine op_load Tryd.isAgg3 rfl (by first | assumption | exact hS.old (by assumption)) rfl ?_
  refine op_assign rfl rfl ?_
  refine endF (XF.thenN ?_)
  refine seqF (regF ?_)
  refine op_move rfl rfl ?_
  refine op_buildSlice (us := [(0, .int .u8 _)]) hS Tryd.underlying96 Tryd.sizeOf5 Tryd.zeroValue5 rfl rfl rfl (bs_96_1 _) rfl ?_
  clear hS; intro B3 W3 hS
  refine op_append (i := 0) (news := [_]) hS Tryd.underlying96 inf_5 rfl rfl (by show 0 < 1; decide) rfl rfl rfl rfl rfl (CellsAt.own (j := 0) (m := 1) (hS.at_ 0 rfl) rfl) rfl rfl (by simp only [maxLen]; omega) (by show ((confT p (ws.take i)).length + 1) * 1 ≤ _; omega) rfl ?_
  clear hS; intro v4 W4 hS
  refine op_assign rfl rfl ?_
  refine endF (XF.thenN ?_)
  refine regF ?_
  refine op_move rfl rfl ?_
  refine op_move rfl rfl ?_
  refine op_callX (vs := [_, _, _]) goes_37 rfl (Tryd.strconv_AppendInt_10 W1.heap.size ((confT p (ws.take i)).length + 1) y hyr.1 hyr.2 _ _ _ (hS.row 0 rfl) hS.below.size (by omega) (fun w2 hb2 => hT w2 (hS.below.trans hb2))) rfl ?_
  rintro e W90 ⟨v90, rfl, hown90, hb90, _⟩
  refine ⟨_, rfl, ?_⟩
  have hS := (hS.tail.clear).regrow hb90 hown90
  refine op_assign rfl rfl ?_
  refine endF ?_
  refine XF.blkN ?_
  refine XF.thenN ?_
  refine regF ?_
  refine op_add rfl rfl (IntWalk.i64_in _ (by omega)) rfl ?_
  refine op_move rfl rfl ?_
  refine endF ?_
  exact XF.round (wl - (i + 1)) [(3, _), (10, _), (11, _), (12, _)] (by omega) ⟨rfl, rfl, rfl, rfl, trivial⟩ ⟨i + 1, v90, by omega, rfl, rfl, hS.castG (by rw [confT_take hy]; simp [Lib.byteCells, Nat.add_assoc, Nat.add_comm 1])⟩
 ·have hc13 := of_decide_eq_false hc; clear hc
  rw [List.take_of_length_le (by omega)] at hS
  refine exitF ?_
  refine XF.thenX ?_
  refine XF.thenX ?_
  refine XF.blkX ?_
  refine XF.thenN ?_
  refine seqF (regF ?_)
  refine op_move rfl rfl ?_
  refine op_convB Tryd.underlying96 Tryd.underlying5 Tryd.underlying9 rfl (hS.row 0 rfl) hne rfl ?_
  refine op_assign rfl rfl ?_
  refine endF (XF.thenN ?_)
  refine retF ?_
  refine XF.res (res1 Tryd.results18 rfl) ?_
  exact ⟨rfl, hRoot0.trans (hS.below.mono hRoot0.size)⟩
end Go.Proofs.YtfkbkekgnoanaaaDoor
namespace Go.Proofs.YtfkbkekgnoanaaaDoor
open Go Go.RowKit
theorem runA_bad (ds d : Nat) (p : PV) (c : CV) (la : Option Addr) (ll lc : Nat) (w : World) (hp : PvIn w ds d p) (hcf : CIn w c) (hne : stepE p c ≠ 0) :
  Calls Tryd.prog 11 #[p.val, c.val, .slice la ll lc] w (fun e w' => e = .returned (.tuple #[.agg #[.int .i64 0, .slice none 0 0], .agg #[.bool false, .int .i64 0, .int .u64 0, .slice none 0 0, .slice none 0 0, .slice none 0 0], .int .i64 0, .int .i64 (stepE p c)]) ∧ Below w.heap.size w w') := by
 refine enterF (args := [p.val, c.val, .slice la ll lc]) Tryd.func11 rfl Tryd.ntmps11 rfl ?_
 have hS := St.start w
 refine seqF (regF ?_)
 refine op_box (cs := [_, _, _, _, _, _]) hS rfl rfl rfl ?_
 clear hS; intro B1 W1 hS
 refine op_box (cs := [_, _]) hS rfl rfl rfl ?_
 clear hS; intro B2 W2 hS
 refine op_alloc (cs := [_, _]) hS Tryd.zeroValue31 rfl rfl ?_
 clear hS; intro B3 W3 hS
 refine op_alloc (cs := [_, _, _, _, _, _]) hS Tryd.zeroValue47 rfl rfl ?_
 clear hS; intro B4 W4 hS
 refine op_assign rfl rfl ?_
 refine op_assign rfl rfl ?_
 refine endF (XF.thenN ?_)
 refine seqF ?_
 refine seqF (regF ?_)
 refine op_loadA (vs := [_, _, _, _, _, _]) Tryd.isAgg28 Tryd.sizeOf28 rfl (CellsAt.own (j := 0) (m := 6) (hS.at_ 3 rfl) rfl) rfl ?_
 refine op_loadA (vs := [_, _]) Tryd.isAgg31 Tryd.sizeOf31 rfl (CellsAt.own (j := 0) (m := 2) (hS.at_ 2 rfl) rfl) rfl ?_
 refine op_call (vs := [_, _]) hS goes_19 rfl (stepA_is ds d p c _ (hp.below hS.below) (hcf.below hS.below)) rfl ?_
 rintro e W5 ⟨rfl, hb⟩
 refine ⟨_, rfl, hb, fun hS' => ?_⟩
 clear hS; have hS := hS'; clear hS' hb
 refine op_assign rfl rfl ?_
 refine endF (XF.thenN ?_)
 refine seqF (regF ?_)
 refine op_move rfl rfl ?_
 refine op_neq rfl rfl rfl ?_
 refine endF (XF.thenN ?_)
 refine condF rfl (fun hc => ?_) (fun hc => absurd (of_decide_eq_false hc) (by exact fun h => h hne))
 have hc := of_decide_eq_true hc
 refine seqF (regF ?_)
 refine op_build (us := []) rfl (bld_31) rfl ?_
 refine op_build (us := []) rfl (bld_47) rfl ?_
 refine op_move rfl rfl ?_
 refine op_storeA (i := 1) (vs := [_, _]) (cs' := [_, _]) (O' := [_, _, _, _]) hS Tryd.sizeOf31 rfl rfl rfl rfl rfl rfl rfl ?_
 clear hS; intro W6 hS
 refine op_storeA (i := 0) (vs := [_, _, _, _, _, _]) (cs' := [_, _, _, _, _, _]) (O' := [_, _, _, _]) hS Tryd.sizeOf47 rfl rfl rfl rfl rfl rfl rfl ?_
 clear hS; intro W7 hS
 refine op_assign rfl rfl ?_
 refine op_assign rfl rfl ?_
 refine endF (XF.thenN ?_)
 refine retF ?_
 refine XF.thenR ?_
 refine XF.res (resCCTT (vs := [_, _]) (us := [_, _, _, _, _, _]) Tryd.results11 Tryd.isAgg31 Tryd.sizeOf31 rfl (CellsAt.own (j := 0) (m := 2) (hS.at_ 1 rfl) rfl) Tryd.isAgg47 Tryd.sizeOf47 rfl (CellsAt.own (j := 0) (m := 6) (hS.at_ 0 rfl) rfl) rfl rfl) ?_
 exact ⟨rfl, hS.below⟩
structure Ready (w : World) (S : PS) (px : RV → PX) (p : PV) (c : CV) : Prop where
 chk : stepE p c = 0
 ok : S.ok
 si : SIs w S p.s.f
 w4 : ∀ r ∈ p.rs, r.wl ≤ 4096
 c4 : c.wl ≤ 4096
 x : ∀ r ∈ p.rs, XIs w S r.x.f (px r)
theorem ready {w : World} {ds d : Nat} {p : PV} {c : CV} (hp : PvIn w ds d p) (h : stepE p c = 0) : ∃ S px, Ready w S px p c := by
 classical
 have h1 : pdsE p = 0 ∧ confB p c = true := by
  unfold stepE at h
  split at h
  ·rename_i hn; exact absurd h hn
  ·rename_i hn
   split at h
   ·rename_i hc; exact ⟨Decidable.of_not_not hn, hc⟩
   ·cases h
 obtain ⟨hd, hc⟩ := h1
 have h2 : spaceE p.s = 0 ∧ p.rs.all (ruleB p.st p.sy) = true ∧ wtE p.s p.rs = 0 := by
  unfold pdsE at hd
  split at hd
  ·rename_i hn; exact absurd hd hn
  ·rename_i hn
   split at hd
   ·cases hd
   ·split at hd
    ·cases hd
    ·split at hd
     ·rename_i ha; exact ⟨Decidable.of_not_not hn, ha, hd⟩
     ·cases hd
 obtain ⟨hs, hr, hw⟩ := h2
 obtain ⟨S, hok, hsi, hx⟩ := space_of hp.s hs
 have hall : ∀ r ∈ p.rs, chkW p.s r.x = 0 := by
  have key : ∀ rs : List RV, wtE p.s rs = 0 → ∀ r ∈ rs, chkW p.s r.x = 0 := by
   intro rs
   induction rs with
   | nil => intro _ r hr; cases hr
   | cons a rs ih =>
    intro hz r hr
    unfold wtE at hz
    split at hz
    ·rename_i h0
     rcases List.mem_cons.1 hr with rfl | hr
     ·exact h0
     ·exact ih hz r hr
    ·rename_i h0; exact absurd hz h0
  exact key _ hw
 have hex : ∀ r, ∃ x, r ∈ p.rs → XIs w S r.x.f x := fun r => by
  by_cases hm : r ∈ p.rs
  ·have h0 := hall r hm
   have hokw : okW p.s r.x = true := by
    unfold chkW at h0
    rw [if_pos hs] at h0
    split at h0
    ·assumption
    ·cases h0
   obtain ⟨x, hxx⟩ := hx r.x d (hp.rin r hm).x hokw
   exact ⟨x, fun _ => hxx⟩
  ·exact ⟨zeroX S, fun h => absurd h hm⟩
 refine ⟨S, fun r => Classical.choose (hex r), h, hok, hsi, fun r hm => ?_, ?_, fun r hm => Classical.choose_spec (hex r) hm⟩
 ·have := List.all_eq_true.1 hr r hm
  unfold ruleB at this
  simp only [Bool.and_eq_true, decide_eq_true_eq] at this
  exact this.2.2.2.1
 ·unfold confB at hc
  simp only [Bool.and_eq_true, decide_eq_true_eq] at hc
  exact hc.2.1
section
variable {w : World} {ds d : Nat} {S : PS} {px : RV → PX} {p : PV} {c : CV} {la : Option Addr} {ll lc : Nat} {is : List Int} {R : Option StT × Int × Int}
theorem runA_is (hp : PvIn w ds d p) (hcf : CIn w c) (hcc : c.wl ≤ c.wc) (hrla : Row w la is) (hll : is.length = ll) (hlm : ll ≤ 9223372036854775807) (hr : Ready w S px p c) (ht : Tabs w) (hR : runF S px p.rs is 0 (c.p, c.ws, oneX S) = R) : Calls Tryd.prog 11 #[p.val, c.val, .slice la ll lc] w (RunRet S R w) := by
 subst hR
 exact runA_c ds d S px p.s p.st p.sy p.ra p.rl p.rc p.rs c.p c.wa c.wl c.wc c.ws la ll lc is w hp.s hp.row hp.len hp.rin hcf.row hcf.len hcc hrla hll hlm hr.si hr.ok hr.chk hr.w4 hr.c4 hr.x ht
theorem Ready.below {w' : World} (h : Ready w S px p c) (hb : Below w.heap.size w w') : Ready w' S px p c := ⟨h.chk, h.ok, h.si.below hb, h.w4, h.c4, fun r hm => (h.x r hm).below hb⟩
end
end Go.Proofs.YtfkbkekgnoanaaaDoor
namespace Go.Proofs.YtfkbkekgnoanaaaDoor
open Go Go.RowKit
section
variable {S : PS} {px : RV → PX} {rs : List RV}
theorem runStep_err (i : Int) (q : Int) (us : List Int) (y y2 : PX) (c : Int) (h : runStep S px rs i (q, us, y) = .error c) : runStep S px rs i (q, us, y2) = .error c := by
 unfold runStep at h ⊢
 by_cases h0 : i < 0
 ·rw [if_pos h0] at h ⊢; exact h
 ·rw [if_neg h0] at h ⊢
  cases hr : rs[i.toNat]? with
  | none => rw [hr] at h; exact h
  | some r =>
   rw [hr] at h
   dsimp only at h ⊢
   by_cases h1 : appB r q us = false
   ·rw [if_pos h1] at h ⊢; exact h
   ·rw [if_neg h1] at h ⊢
    by_cases h2 : 4096 < r.wl + (us.length - 1)
    ·rw [if_pos h2] at h ⊢; exact h
    ·rw [if_neg h2] at h; cases h
theorem runStep_good {i : Int} {st st' : StT} (h : runStep S px rs i st = .ok st') : ∃ r ∈ rs, st' = (r.q, r.ws ++ st.2.1.tail, extX S st.2.2 (px r)) ∧ r.wl + (st.2.1.length - 1) ≤ 4096 ∧ ∀ y, runStep S px rs i (st.1, st.2.1, y) = .ok (r.q, r.ws ++ st.2.1.tail, extX S y (px r)) := by
 unfold runStep at h ⊢
 by_cases h0 : i < 0
 ·rw [if_pos h0] at h; cases h
 ·rw [if_neg h0] at h
  cases hr : rs[i.toNat]? with
  | none => rw [hr] at h; cases h
  | some r =>
   rw [hr] at h
   dsimp only at h
   by_cases h1 : appB r st.1 st.2.1 = false
   ·rw [if_pos h1] at h; cases h
   ·rw [if_neg h1] at h
    by_cases h2 : 4096 < r.wl + (st.2.1.length - 1)
    ·rw [if_pos h2] at h; cases h
    ·rw [if_neg h2] at h
     refine ⟨r, List.mem_of_getElem? hr, (Except.ok.inj h).symm, by omega, fun y => ?_⟩
     rw [if_neg h0]
     dsimp only
     rw [if_neg h1, if_neg h2]
theorem runF_none : ∀ {l : List Int} {k : Nat} {q : Int} {us : List Int} {y : PX} {n c : Int} (y2 : PX) (j : Nat), runF S px rs l k (q, us, y) = (none, n, c) → runF S px rs l (k + j) (q, us, y2) = (none, n + j, c)
 | [], k, q, us, y, n, c, y2, j, h => by simp [runF] at h
 | i :: l, k, q, us, y, n, c, y2, j, h => by
  cases hs : runStep S px rs i (q, us, y) with
  | error e =>
   rw [runF_err hs] at h
   rw [runF_err (runStep_err i q us y y2 e hs)]
   simp only [Prod.mk.injEq, true_and] at h ⊢
   obtain ⟨h1, h2⟩ := h
   exact ⟨by omega, h2⟩
  | ok st' =>
   obtain ⟨r, hm, e, _, hy⟩ := runStep_good hs
   subst e
   rw [runF_ok hs] at h
   rw [runF_ok (hy y2), show k + j + 1 = k + 1 + j by omega]
   exact runF_none _ j h
theorem runF_some : ∀ {l : List Int} {k : Nat} {q : Int} {us : List Int} {y : PX} {q2 : Int} {us2 : List Int} {z : PX} {n c : Int} (x : PX) (k2 : Nat), S.ok → OkX S x → OkX S y → (∀ r ∈ rs, OkX S (px r)) → runF S px rs l k (q, us, y) = (some (q2, us2, z), n, c) → runF S px rs l k2 (q, us, extX S x y) = (some (q2, us2, extX S x z), 0, 0) ∧ OkX S z
 | [], k, q, us, y, q2, us2, z, n, c, x, k2, hS, hx, hy, hr, h => by
  simp only [runF, Prod.mk.injEq, Option.some.injEq] at h
  obtain ⟨⟨rfl, rfl, rfl⟩, _⟩ := h
  exact ⟨rfl, hy⟩
 | i :: l, k, q, us, y, q2, us2, z, n, c, x, k2, hS, hx, hy, hr, h => by
  cases hs : runStep S px rs i (q, us, y) with
  | error e => rw [runF_err hs] at h; cases h
  | ok st' =>
   obtain ⟨r, hm, e, _, hy2⟩ := runStep_good hs
   subst e
   rw [runF_ok hs] at h
   have h3 := runF_some x (k2 + 1) hS hx (ext_okX hS hy (hr r hm)) hr h
   rw [runF_ok (hy2 (extX S x y))]
   rw [extX_assoc hS hx hy (hr r hm)]
   exact h3
theorem runF_app_none : ∀ {l m : List Int} {k : Nat} {st : StT} {n c : Int}, runF S px rs l k st = (none, n, c) → runF S px rs (l ++ m) k st = (none, n, c)
 | [], m, k, st, n, c, h => by simp [runF] at h
 | i :: l, m, k, st, n, c, h => by
  rw [List.cons_append]
  cases hs : runStep S px rs i st with
  | error e => rw [runF_err hs] at h ⊢; exact h
  | ok st' => rw [runF_ok hs] at h ⊢; exact runF_app_none h
theorem runF_app_some : ∀ {l m : List Int} {k : Nat} {st st1 : StT} {n c : Int}, runF S px rs l k st = (some st1, n, c) → runF S px rs (l ++ m) k st = runF S px rs m (k + l.length) st1
 | [], m, k, st, st1, n, c, h => by
  simp only [runF, Prod.mk.injEq, Option.some.injEq] at h
  rw [h.1]; rfl
 | i :: l, m, k, st, st1, n, c, h => by
  rw [List.cons_append]
  cases hs : runStep S px rs i st with
  | error e => rw [runF_err hs] at h; cases h
  | ok st' => rw [runF_ok hs] at h ⊢; rw [runF_app_some h, List.length_cons, show k + 1 + l.length = k + (l.length + 1) by omega]
def okSt (p : PV) (q : Int) (us : List Int) : Prop := inQ q p.st = true ∧ us.length ≤ 4096 ∧ us.all (fun y => inQ y p.sy) = true
theorem runF_okSt {p : PV} (hr : ∀ r ∈ p.rs, ruleB p.st p.sy r = true ∧ r.ws.length = r.wl) : ∀ {l : List Int} {k : Nat} {q : Int} {us : List Int} {y : PX} {q2 : Int} {us2 : List Int} {z : PX} {n c : Int}, okSt p q us → runF S px p.rs l k (q, us, y) = (some (q2, us2, z), n, c) → okSt p q2 us2
 | [], k, q, us, y, q2, us2, z, n, c, hk, h => by
  simp only [runF, Prod.mk.injEq, Option.some.injEq] at h
  obtain ⟨⟨rfl, rfl, rfl⟩, _⟩ := h
  exact hk
 | i :: l, k, q, us, y, q2, us2, z, n, c, hk, h => by
  cases hs : runStep S px p.rs i (q, us, y) with
  | error e => rw [runF_err hs] at h; cases h
  | ok st' =>
   obtain ⟨r, hm, e, hle, _⟩ := runStep_good hs
   subst e
   rw [runF_ok hs] at h
   refine runF_okSt hr ?_ h
   obtain ⟨h1, h2⟩ := hr r hm
   simp only [ruleB, Bool.and_eq_true, decide_eq_true_eq] at h1
   refine ⟨h1.2.1, ?_, ?_⟩
   ·have hle2 : r.wl + (us.length - 1) ≤ 4096 := hle
    rw [List.length_append, List.length_tail]; show r.ws.length + (us.length - 1) ≤ 4096; omega
   ·rw [List.all_append, Bool.and_eq_true]
    refine ⟨h1.2.2.2.2, ?_⟩
    rw [List.all_eq_true]
    intro y hy
    exact List.all_eq_true.1 hk.2.2 y (List.mem_of_mem_tail hy)
theorem runF_code : ∀ {l : List Int} {k : Nat} {st : StT} {n c : Int}, runF S px rs l k st = (none, n, c) → c ≠ 0 ∧ (k : Int) ≤ n ∧ n ≤ (k : Int) + l.length
 | [], k, st, n, c, h => by simp [runF] at h
 | i :: l, k, st, n, c, h => by
  cases hs : runStep S px rs i st with
  | error e =>
   rw [runF_err hs] at h
   simp only [Prod.mk.injEq, true_and] at h
   obtain ⟨h1, h2⟩ := h
   have he : e ≠ 0 := by
    unfold runStep at hs
    split at hs
    ·cases hs; decide
    ·split at hs
     ·cases hs; decide
     ·split at hs
      ·cases hs; decide
      ·split at hs
       ·cases hs; decide
       ·cases hs
   rw [List.length_cons]
   exact ⟨by rw [← h2]; exact he, by omega, by omega⟩
  | ok st' =>
   rw [runF_ok hs] at h
   obtain ⟨h1, h2, h3⟩ := runF_code h
   rw [List.length_cons]
   exact ⟨h1, by omega, by omega⟩
theorem runF_zero : ∀ {l : List Int} {k : Nat} {st st1 : StT} {n c : Int}, runF S px rs l k st = (some st1, n, c) → runF S px rs l k st = (some st1, 0, 0)
 | [], k, st, st1, n, c, h => by simp only [runF, Prod.mk.injEq, Option.some.injEq] at h; rw [← h.1]; rfl
 | i :: l, k, st, st1, n, c, h => by
  cases hs : runStep S px rs i st with
  | error e => rw [runF_err hs] at h; cases h
  | ok st' => rw [runF_ok hs] at h ⊢; exact runF_zero h
end
theorem pdsE_parts {p : PV} (hd : pdsE p = 0) : p.rs.all (ruleB p.st p.sy) = true := by
 unfold pdsE at hd
 split at hd
 ·rename_i hn; exact absurd hd hn
 ·split at hd
  ·cases hd
  ·split at hd
   ·cases hd
   ·split at hd
    ·rename_i ha; exact ha
    ·cases hd
theorem stepE_parts {p : PV} {c : CV} (h : stepE p c = 0) : pdsE p = 0 ∧ confB p c = true := by
 unfold stepE at h
 split at h
 ·rename_i hn; exact absurd h hn
 ·rename_i hn
  split at h
  ·rename_i hc; exact ⟨Decidable.of_not_not hn, hc⟩
  ·cases h
theorem parts_cases {w : World} {ds d : Nat} {p : PV} {c : CV} (is js : List Int) (hp : PvIn w ds d p) (hcf : CIn w c) : stepE p c ≠ 0 ∨
  (∃ S px n e, Ready w S px p c ∧ e ≠ 0 ∧ runF S px p.rs is 0 (c.p, c.ws, oneX S) = (none, n, e) ∧ runF S px p.rs (is ++ js) 0 (c.p, c.ws, oneX S) = (none, n, e)) ∨
  (∃ S px q us x, ∃ n e : Int, Ready w S px p c ∧ e ≠ 0 ∧ 0 ≤ n ∧ n ≤ js.length ∧ us.length ≤ 4096 ∧ (∀ a wc, stepE p ⟨q, a, us.length, wc, us⟩ = 0) ∧ runF S px p.rs is 0 (c.p, c.ws, oneX S) = (some (q, us, x), 0, 0) ∧ runF S px p.rs js 0 (q, us, oneX S) = (none, n, e) ∧ runF S px p.rs (is ++ js) 0 (c.p, c.ws, oneX S) = (none, n + (is.length : Int), e)) ∨
  ∃ S px q us x q2 us2 z, Ready w S px p c ∧ us.length ≤ 4096 ∧ (∀ a wc, stepE p ⟨q, a, us.length, wc, us⟩ = 0) ∧ runF S px p.rs is 0 (c.p, c.ws, oneX S) = (some (q, us, x), 0, 0) ∧ runF S px p.rs js 0 (q, us, oneX S) = (some (q2, us2, z), 0, 0) ∧ OkX S x ∧ OkX S z ∧ runF S px p.rs (is ++ js) 0 (c.p, c.ws, oneX S) = (some (q2, us2, extX S x z), 0, 0) := by
 by_cases h : stepE p c = 0
 ·obtain ⟨S, px, hr⟩ := ready hp h
  obtain ⟨hd, hc⟩ := stepE_parts h
  have hall := pdsE_parts hd
  have hpx : ∀ r ∈ p.rs, OkX S (px r) := fun r hm => (hr.x r hm).ok
  cases hR : runF S px p.rs is 0 (c.p, c.ws, oneX S) with
  | mk o q =>
   obtain ⟨n, e⟩ := q
   cases o with
   | none => exact .inr (.inl ⟨S, px, n, e, hr, (runF_code hR).1, hR, runF_app_none hR⟩)
   | some st =>
    obtain ⟨q, us, x⟩ := st
    have hR0 := runF_zero hR
    have happ := runF_app_some (m := js) hR0
    have hok : okSt p q us := runF_okSt (S := S) (px := px) (p := p) (fun r hm => ⟨List.all_eq_true.1 hall r hm, (hp.rin r hm).len⟩) (l := is) (k := 0) (q := c.p) (us := c.ws) (y := oneX S) (by
     unfold confB at hc
     simp only [Bool.and_eq_true, decide_eq_true_eq] at hc
     exact ⟨hc.1, by rw [hcf.len]; exact hc.2.1, hc.2.2⟩) hR0
    have hx : OkX S x := by
     have h9 := runF_some (S := S) (px := px) (rs := p.rs) (oneX S) 0 hr.ok (one_okX hr.ok) (one_okX hr.ok) hpx hR0
     exact h9.2
    have hst : ∀ a wc, stepE p ⟨q, a, us.length, wc, us⟩ = 0 := fun a wc => by
     unfold stepE
     rw [if_neg (by rw [hd]; simp), if_pos (by unfold confB; simp only [Bool.and_eq_true, decide_eq_true_eq]; exact hok)]
    cases hR2 : runF S px p.rs js 0 (q, us, oneX S) with
    | mk o2 q2 =>
     obtain ⟨n2, e2⟩ := q2
     cases o2 with
     | none =>
      obtain ⟨c1, c2, c3⟩ := runF_code hR2
      refine .inr (.inr (.inl ⟨S, px, q, us, x, n2, e2, hr, c1, by simpa using c2, by simpa using c3, hok.2.1, hst, hR0, hR2, ?_⟩))
      rw [happ]
      have := runF_none x is.length hR2
      rw [Nat.zero_add] at this ⊢
      exact this
     | some st2 =>
      obtain ⟨q2, us2, z⟩ := st2
      have hR20 := runF_zero hR2
      have h9 := runF_some (S := S) (px := px) (rs := p.rs) x is.length hr.ok hx (one_okX hr.ok) hpx hR20
      refine .inr (.inr (.inr ⟨S, px, q, us, x, q2, us2, z, hr, hok.2.1, hst, hR0, hR20, hx, h9.2, ?_⟩))
      rw [happ, Nat.zero_add]
      have h10 := h9.1
      rw [extX_one hr.ok hx] at h10
      exact h10
 ·exact .inl h
end Go.Proofs.YtfkbkekgnoanaaaDoor
namespace Go.Proofs.YtfkbkekgnoanaaaDoor
open Go Go.RowKit
def exW : WV := .mk ⟨false, 1, 0, none, 0, 0, [], none, 0, 0, [], none, 0, 0⟩ []
def exP (b1 b2 : Nat) : PV := ⟨.mk ⟨2, 9, none, 0, 0⟩ [], 2, 3, some ⟨b2, 0, none⟩, 2, 2, [⟨0, 1, 0, some ⟨b1, 0, none⟩, 2, 2, [2, 1], exW⟩, ⟨0, 2, 1, none, 0, 0, [], exW⟩]⟩
theorem exW_in (w : World) : WIn w 1 exW := ⟨⟨.inl rfl, rfl, by decide, (fun r hr => by cases hr), .inl rfl, rfl, (fun c hc => by cases hc), by decide⟩, rfl, .inl rfl, fun p hp => by cases hp⟩
theorem row2 {w : World} {b : Nat} {x y : Int} {T : TypeId} (h : w.heap[b]? = some (.cells (List.toArray [.int .i64 x, .int .i64 y]) T (0, 0))) : Row w (some ⟨b, 0, none⟩) [x, y] := row_own h
theorem row1 {w : World} {b : Nat} {x : Int} {T : TypeId} (h : w.heap[b]? = some (.cells (List.toArray [.int .i64 x]) T (0, 0))) : Row w (some ⟨b, 0, none⟩) [x] := by
 refine .inr ⟨b, 0, rfl, fun i hi => ?_⟩
 have : i = 0 := by simp at hi; omega
 subst this
 simp [World.cell?, h]
theorem exP_in {w : World} {b1 b2 : Nat} {T1 T2 : TypeId} (h1 : w.heap[b1]? = some (.cells (List.toArray [.int .i64 2, .int .i64 1]) T1 (0, 0)))
  (h2 : w.heap[b2]? = some (.cells (List.toArray ((⟨0, 1, 0, some ⟨b1, 0, none⟩, 2, 2, [2, 1], exW⟩ : RV).ten ++ (⟨0, 2, 1, none, 0, 0, [], exW⟩ : RV).ten)) T2 (0, 0))) : PvIn w 1 1 (exP b1 b2) := by
 refine ⟨⟨rfl, .inl rfl, fun p hp => by cases hp⟩, .inr ⟨b2, 0, rfl, fun i r hi => ?_⟩, rfl, fun r hr => ?_⟩
 ·match i, hi with
  | 0, hi =>
   cases hi
   exact CellsAt.own (j := 0) (m := 10) h2 rfl
  | 1, hi =>
   cases hi
   exact CellsAt.own (j := 10) (m := 10) h2 rfl
  | i + 2, hi => exact absurd hi (by simp [exP])
 ·rcases List.mem_cons.1 hr with rfl | hr
  ·exact ⟨row2 h1, rfl, exW_in w⟩
  ·rcases List.mem_cons.1 hr with rfl | hr
   ·exact ⟨.inl rfl, rfl, exW_in w⟩
   ·cases hr
theorem example_is (w : World) :
  Calls Tryd.prog 17 #[] w (fun e w' => ∃ b1 b2, e = .returned (exP b1 b2).val ∧ (∀ w2, Agree w.heap.size w' w2 → PvIn w2 1 1 (exP b1 b2)) ∧ Below w.heap.size w w') := by
 refine enterF (args := []) Tryd.func17 rfl Tryd.ntmps17 rfl ?_
 have hS := St.start w
 refine seqF (regF ?_)
 refine op_alloc (cs := [_, _, _, _, _, _]) hS Tryd.zeroValue28 rfl rfl ?_
 clear hS; intro B1 W1 hS
 refine endF (XF.thenN ?_)
 refine seqF (regF ?_)
 refine op_build (us := [(1, .int .i64 _)]) rfl (bld_47_1 _) rfl ?_
 refine op_alloc (cs := [_, _, _, _, _, _]) hS Tryd.zeroValue47 rfl rfl ?_
 clear hS; intro B2 W2 hS
 refine op_storeA (i := 0) (vs := [_, _, _, _, _, _]) (cs' := [_, _, _, _, _, _]) (O' := [_, _]) hS Tryd.sizeOf47 rfl rfl rfl rfl rfl rfl rfl ?_
 clear hS; intro W3 hS
 refine endF (XF.thenN ?_)
 refine seqF (regF ?_)
 refine op_build (us := [(0, .int .i64 _), (1, .int .i64 _)]) rfl (bld_25_0_1 _ _) rfl ?_
 refine op_buildSlice (us := [(0, .int .i64 _), (1, .int .i64 _)]) hS Tryd.underlying29 Tryd.sizeOf3 Tryd.zeroValue3 rfl rfl rfl (bs_29_2 _ _) rfl ?_
 clear hS; intro B4 W4 hS
 refine op_loadA (vs := [_, _, _, _, _, _]) Tryd.isAgg47 Tryd.sizeOf47 rfl (CellsAt.own (j := 0) (m := 6) (hS.at_ 1 rfl) rfl) rfl ?_
 refine op_build (us := [(1, .int .i64 _), (3, .slice _ _ _), (4, .agg (List.toArray [_, _, _, _, _, _]))]) rfl (bld_69_1_3_4 _ _ _ _ _ _ _ _ _ _) rfl ?_
 refine op_loadA (vs := [_, _, _, _, _, _]) Tryd.isAgg47 Tryd.sizeOf47 rfl (CellsAt.own (j := 0) (m := 6) (hS.at_ 1 rfl) rfl) rfl ?_
 refine op_build (us := [(1, .int .i64 _), (2, .int .i64 _), (4, .agg (List.toArray [_, _, _, _, _, _]))]) rfl (bld_69_1_2_4 _ _ _ _ _ _ _ _) rfl ?_
 refine op_buildSlice (us := [(0, .agg (List.toArray [_, _, _, _, _, _, _, _, _, _])), (1, .agg (List.toArray [_, _, _, _, _, _, _, _, _, _]))]) hS Tryd.underlying26 Tryd.sizeOf69 Tryd.zeroValue69 rfl rfl rfl (bs_26_2 _ _ _ _ _ _ _ _ _ _ _ _ _ _ _ _ _ _ _ _) rfl ?_
 clear hS; intro B5 W5 hS
 refine op_build (us := [(0, .agg (List.toArray [_, _, _])), (1, .int .i64 _), (2, .int .i64 _), (3, .slice _ _ _)]) rfl (bld_28_0_1_2_3 _ _ _ _ _ _ _ _) rfl ?_
 refine op_storeA (i := 3) (vs := [_, _, _, _, _, _]) (cs' := [_, _, _, _, _, _]) (O' := [_, _, _, _]) hS Tryd.sizeOf28 rfl rfl rfl rfl rfl rfl rfl ?_
 clear hS; intro W6 hS
 refine endF (XF.thenN ?_)
 refine retF ?_
 refine XF.res (resC1 (vs := [_, _, _, _, _, _]) Tryd.results17 Tryd.isAgg28 Tryd.sizeOf28 rfl (CellsAt.own (j := 0) (m := 6) (hS.at_ 3 rfl) rfl)) ?_
 exact ⟨B4, B5, rfl, fun w2 hg => exP_in ((hg.2 _ (hS.ge 1 rfl) (lt_of_heap (hS.at_ 1 rfl))).trans (hS.at_ 1 rfl)) ((hg.2 _ (hS.ge 0 rfl) (lt_of_heap (hS.at_ 0 rfl))).trans (hS.at_ 0 rfl)), hS.below⟩
theorem ex_ready {w : World} {b1 b2 b3 : Nat} (S : PS) (hS : S = .one 2 9) : Ready w S (fun _ => .one (pC 1)) (exP b1 b2) ⟨0, some ⟨b3, 0, none⟩, 1, 1, [1]⟩ := by
 subst hS
 have hx : XIs w (.one 2 9) exW.f (.one (pC 1)) := PIs.of (by decide) (exW_in w).1 (by decide)
 refine ⟨?_, by show plainB 2 9 0 = true; decide, ⟨none, 0, rfl⟩, fun r hr => ?_, by show 1 ≤ 4096; decide, fun r hr => ?_⟩
 ·have e1 : spaceE (exP b1 b2).s = 0 := by show spaceE (.mk ⟨2, 9, none, 0, 0⟩ []) = 0; decide
  have e2 : (exP b1 b2).rs.all (ruleB 2 3) = true := by simp [exP, ruleB, inQ]
  have e3 : chkW (exP b1 b2).s exW = 0 := by show chkW (.mk ⟨2, 9, none, 0, 0⟩ []) exW = 0; decide
  have e4 : wtE (exP b1 b2).s (exP b1 b2).rs = 0 := wtE_all (by simp [exP]; exact decide_eq_true e3)
  have e5 : pdsE (exP b1 b2) = 0 := by
   unfold pdsE
   rw [if_neg (by rw [e1]; simp), if_neg (by simp [exP]), if_neg (by simp [exP]), if_pos (show (exP b1 b2).rs.all (ruleB (exP b1 b2).st (exP b1 b2).sy) = true from e2), e4]
  unfold stepE
  rw [if_neg (by rw [e5]; simp), if_pos (by simp [confB, exP, inQ])]
 ·rcases List.mem_cons.1 hr with rfl | hr
  ·show 2 ≤ 4096; decide
  ·rcases List.mem_cons.1 hr with rfl | hr
   ·show 0 ≤ 4096; decide
   ·cases hr
 ·rcases List.mem_cons.1 hr with rfl | hr
  ·exact hx
  ·rcases List.mem_cons.1 hr with rfl | hr
   ·exact hx
   ·cases hr
theorem ex_run {b1 b2 : Nat} : runF (.one 2 9) (fun _ => .one (pC 1)) (exP b1 b2).rs [0, 1] 0 (0, [1], oneX (.one 2 9)) = (some (1, [1], .one (pC 2)), 0, 0) := by rfl
theorem conf11 : confT 1 [1] = [49, 32, 49] := by
 have h : Lib.itoa 1 = [49] := by simp [Lib.itoa, Lib.decDigits]
 simp [confT, h]
theorem exRun {w : World} {b1 b2 b3 b4 : Nat} (hp : PvIn w 1 1 (exP b1 b2)) (h3 : Row w (some ⟨b3, 0, none⟩) [1]) (h4 : Row w (some ⟨b4, 0, none⟩) [0, 1]) (ht : Tabs w) : Calls Tryd.prog 11 #[(exP b1 b2).val, .agg #[.int .i64 0, .slice (some ⟨b3, 0, none⟩) 1 1], .slice (some ⟨b4, 0, none⟩) 2 2] w fun e w' => ∃ a c f, e = .returned (.tuple #[.agg #[.int .i64 1, .slice a 1 c], WF.val f, .int .i64 0, .int .i64 0]) ∧ RowN w.heap.size w' a c [1] ∧ f.c = 2 ∧ Below w.heap.size w w' := by
 have hr := ex_ready (w := w) (b1 := b1) (b2 := b2) (b3 := b3) _ rfl
 refine (runA_is (c := ⟨0, some ⟨b3, 0, none⟩, 1, 1, [1]⟩) (is := [0, 1]) hp ⟨h3, rfl⟩ (by show 1 ≤ 1; decide) h4 rfl (by decide) hr ht ex_run).mono ?_
 rintro e w' ⟨hb, a, c, f, rfl, hn, hx⟩
 exact ⟨a, c, f, rfl, hn, (pf_inj (hx.is).pf).2.1, hb⟩
end Go.Proofs.YtfkbkekgnoanaaaDoor
namespace Go.Proofs.YtfkbkekgnoanaaaDoor
open Go Go.RowKit
theorem text11 {w : World} {a : Option Addr} {c : Nat} (hr : Row w a [1]) (ht : Tabs w) : Calls Tryd.prog 18 #[.agg #[.int .i64 1, .slice a 1 c]] w fun e w' => e = .returned (.string ⟨#[49, 32, 49]⟩) ∧ Below w.heap.size w w' := by
 have h := text_c 1 a 1 c [1] w hr rfl (by decide) (by decide) (by decide) (by rw [conf11]; decide) ht
 rw [conf11] at h
 exact h
theorem awakeS_is (w : World) (ht : Tabs w) :
  Calls Tryd.prog 6 #[] w (fun e w' => e = .returned (.bool (true)) ∧ Below w.heap.size w w') := by
 refine enterF (args := []) Tryd.func6 rfl Tryd.ntmps6 rfl ?_
 have hS := St.start w
 refine seqF (regF ?_)
 refine op_assign rfl rfl ?_
 refine endF (XF.thenN ?_)
 refine seqF (regF ?_)
 refine op_call (vs := []) hS goes_17 rfl (example_is _) rfl ?_
 rintro e W1 ⟨b1, b2, rfl, hex, hb⟩
 refine ⟨_, rfl, hb, fun hS' => ?_⟩
 clear hS; have hS := hS'; clear hS'
 refine op_buildSlice (us := [(0, .int .i64 _)]) hS Tryd.underlying29 Tryd.sizeOf3 Tryd.zeroValue3 rfl rfl rfl (bs_29_1 _) rfl ?_
 clear hS; intro B2 W2 hS
 refine op_build (us := [(1, .slice _ _ _)]) rfl (bld_31_1 _ _ _) rfl ?_
 refine op_buildSlice (us := [(0, .int .i64 _), (1, .int .i64 _)]) hS Tryd.underlying29 Tryd.sizeOf3 Tryd.zeroValue3 rfl rfl rfl (bs_29_2 _ _) rfl ?_
 clear hS; intro B3 W3 hS
 have hsz := hS.below.size
 refine op_call (vs := [_, _, _]) hS goes_11 rfl (exRun (hex _ (hS.since 0 rfl)) (row1 (hS.at_ 1 rfl)) (row2 (hS.at_ 0 rfl)) (ht.below hS.below)) rfl ?_
 rintro e W4 ⟨a5, c5, f5, rfl, hrn, hfc, hb⟩
 refine ⟨_, rfl, hb, fun hS' => ?_⟩
 clear hS; have hS := hS'; clear hS'
 refine op_move rfl rfl ?_
 refine op_extract rfl rfl rfl ?_
 refine op_extract rfl rfl rfl ?_
 refine op_extract rfl rfl rfl ?_
 refine op_extract rfl rfl rfl ?_
 refine op_alloc (cs := [_, _]) hS Tryd.zeroValue31 rfl rfl ?_
 clear hS; intro B5 W5 hS
 refine op_alloc (cs := [_, _, _, _, _, _]) hS Tryd.zeroValue47 rfl rfl ?_
 clear hS; intro B6 W6 hS
 refine op_storeA (i := 1) (vs := [_, _]) (cs' := [_, _]) (O' := [_, _, _, _]) hS Tryd.sizeOf31 rfl rfl rfl rfl rfl rfl rfl ?_
 clear hS; intro W7 hS
 refine op_storeA (i := 0) (vs := [_, _, _, _, _, _]) (cs' := [_, _, _, _, _, _]) (O' := [_, _, _, _]) hS Tryd.sizeOf47 rfl rfl rfl rfl rfl rfl rfl ?_
 clear hS; intro W8 hS
 refine op_assign rfl rfl ?_
 refine op_assign rfl rfl ?_
 refine endF (XF.thenN ?_)
 refine seqF (regF ?_)
 refine op_move rfl rfl ?_
 refine op_eql rfl rfl rfl ?_
 refine op_move rfl rfl ?_
 refine op_cases (d := 17) rfl (fun hc => ?_) (fun hc => absurd (of_decide_eq_false hc) (by omega))
 have hc := of_decide_eq_true hc
 refine op_wantedF (d := 17) rfl rfl ?_
 refine op_loadA (vs := [_, _]) Tryd.isAgg31 Tryd.sizeOf31 rfl (CellsAt.own (j := 0) (m := 2) (hS.at_ 1 rfl) rfl) rfl ?_
 refine op_wantedF (d := 17) rfl rfl ?_
 refine op_call (vs := [_]) hS goes_18 rfl (text11 (hrn.agree (hS.since 0 rfl)).row (ht.below hS.below)) rfl ?_
 rintro e W9 ⟨rfl, hb⟩
 refine ⟨_, rfl, hb, fun hS' => ?_⟩
 clear hS; have hS := hS'; clear hS' hb
 refine op_wantedF (d := 17) rfl rfl ?_
 refine op_binG rfl rfl rfl (run_eqlS_same _ _ _) rfl ?_
 refine op_pickT rfl rfl rfl ?_
 refine op_move rfl rfl ?_
 refine op_wantedF (d := 22) rfl rfl ?_
 refine op_field (o' := 1) fa_47_1 rfl rfl rfl ?_
 refine op_wantedF (d := 22) rfl rfl ?_
 refine op_load Tryd.isAgg3 rfl (cell_own (hS.at_ 0 rfl) rfl) rfl ?_
 refine op_wantedF (d := 22) rfl rfl ?_
 refine op_eql rfl rfl rfl ?_
 refine op_pickT rfl rfl rfl ?_
 refine op_assign rfl rfl ?_
 refine endF (XF.thenN ?_)
 refine retF ?_
 refine XF.res (res1 Tryd.results6 rfl) ?_
 exact ⟨rbool (decide_eq_true hfc), hS.below⟩
end Go.Proofs.YtfkbkekgnoanaaaDoor
namespace Go.Proofs.YtfkbkekgnoanaaaDoor
open Go.RowKit Go.ChangeShapes Go.WideShapes Go.Deep
section
variable {H : Type} {enc : TypeId × Value → H} {w : World} {base : Nat} {spare : Nat → Bool} {held : Bool}
theorem three_len {cs : List Value} (h : cs.length = 3) : ∃ a b c, cs = [a, b, c] := by
 match cs, h with
 | [a, b, c], _ => exact ⟨a, b, c, rfl⟩
theorem cell_open {n : Nat} {cs : List Value} {x : DataW H × List MemPlace} (hl : cs.length = 3) (h : DataW.trod enc Tryd.prog w base spare held n 89 cs = some x) :
  ∃ c : Cl, c.f < 18446744073709551616 ∧ cs = [.int .u64 (c.f : Int), .int .i64 c.k, .int .i64 c.v] := by
 obtain ⟨xs, n', _, hx, _, hlen, hg⟩ := DataW.trod_struct Tryd.underlying89 h
 obtain ⟨a, b, c, rfl⟩ := three_len hl
 ·skip
  have hlen3 : xs.length = 3 := hlen
  have g0 := hg 0 _ rfl
  have g1 := hg 1 _ rfl
  have g2 := hg 2 _ rfl
  rw [show Tryd.prog.cellsOf _ = 1 by kernel_rfl, List.getElem?_eq_getElem (by omega)] at g0 g1 g2
  obtain ⟨z0, e0, _, w0⟩ := DataW.trod_int Tryd.underlying40 g0
  obtain ⟨z1, e1, _, w1⟩ := DataW.trod_int (k := .i64) (by kernel_rfl) g1
  obtain ⟨z2, e2, _, w2⟩ := DataW.trod_int (k := .i64) (by kernel_rfl) g2
  simp at e0 e1 e2
  subst e0 e1 e2
  have hw : 0 ≤ z0 ∧ z0 ≤ 18446744073709551615 := by simpa [Lit.wf, IntKind.signed, IntKind.bits, IntKind.min, IntKind.max] using w0
  exact ⟨⟨z0.toNat, z1, z2⟩, by show z0.toNat < _; omega, by simp; omega⟩
theorem list_of : ∀ (n : Nat) (p : Nat → Cl → Prop), (∀ i, i < n → ∃ c, p i c) → ∃ xs : List Cl, xs.length = n ∧ ∀ i c, xs[i]? = some c → p i c
 | 0, p, h => ⟨[], rfl, fun i c hi => by simp at hi⟩
 | n + 1, p, h => by
  obtain ⟨xs, hl, hp⟩ := list_of n p (fun i hi => h i (by omega))
  obtain ⟨c, hc⟩ := h n (by omega)
  refine ⟨xs ++ [c], by simp [hl], fun i d hi => ?_⟩
  rcases Nat.lt_or_ge i n with h1 | h1
  ·rw [List.getElem?_append_left (by omega)] at hi
   exact hp i d hi
  ·obtain ⟨h2, _⟩ := List.getElem?_eq_some_iff.1 hi
   simp [hl] at h2
   obtain rfl : i = n := by omega
   rw [List.getElem?_append_right (by omega), hl, Nat.sub_self] at hi
   simp at hi
   subst hi
   exact hc
theorem cells_open {n : Nat} {a : Option Addr} {len cap : Nat} {x : DataW H × List MemPlace} (h : DataW.trod enc Tryd.prog w base spare held n 44 [.slice a len cap] = some x) :
  ∃ xs, IsCells w a len cap xs := by
 rcases open_slice Tryd.underlying44 h with ⟨hcs, _⟩ | ⟨ad, len', cap', m, n', D, Pl, hcs, hb, hl, hm, hmm, hx, hi⟩
 ·simp at hcs
  obtain ⟨rfl, rfl, rfl⟩ := hcs
  exact ⟨[], rfl, by simp, .inl rfl, fun c hc => by simp at hc⟩
 ·simp at hcs
  obtain ⟨rfl, rfl, rfl⟩ := hcs
  rw [show Tryd.prog.cellsOf 89 = 3 by kernel_rfl] at hi
  obtain ⟨xs, hxl, hxs⟩ := list_of len (fun i c => c.f < 18446744073709551616 ∧ w.cell? (ad.add (i * 3)) = some (.int .u64 (c.f : Int)) ∧ w.cell? (ad.add (i * 3 + 1)) = some (.int .i64 c.k) ∧ w.cell? (ad.add (i * 3 + 2)) = some (.int .i64 c.v)) (fun i hil => by
   obtain ⟨cs', hc, ht⟩ := hi i (by rw [hmm]; split <;> omega)
   obtain ⟨_, hcl, hat⟩ := World.cells?_some hc
   obtain ⟨c, hf, rfl⟩ := cell_open hcl ht
   have e0 := hat 0 (by omega)
   have e1 := hat 1 (by omega)
   have e2 := hat 2 (by omega)
   rw [add_add] at e0 e1 e2
   exact ⟨c, hf, e0, e1, e2⟩)
  refine ⟨xs, hxl.symm, by omega, ?_, fun c hc => ?_⟩
  ·rcases Nat.eq_zero_or_pos len with h0 | h0
   ·exact .inl (List.length_eq_zero_iff.1 (by omega))
   ·obtain ⟨b, off, spot⟩ := ad
    obtain ⟨_, h1, _, _⟩ := hxs 0 (xs[0]'(by omega)) (List.getElem?_eq_getElem (by omega))
    have hspot : spot = none := by simpa [Addr.add] using World.cell?_spot h1
    subst hspot
    refine .inr ⟨b, off, rfl, fun i c hic => ?_⟩
    have e : ∀ k, ({ block := b, off := off } : Addr).add k = ⟨b, off + k, none⟩ := fun k => by simp [Addr.add]
    have h3 := (hxs i c hic).2
    rw [e, e, e, ← Nat.add_assoc, ← Nat.add_assoc] at h3
    exact h3
  ·obtain ⟨i, hi', hic⟩ := List.mem_iff_getElem.1 hc
   exact (hxs i c (by rw [← hic]; exact List.getElem?_eq_getElem hi')).1
end
end Go.Proofs.YtfkbkekgnoanaaaDoor
namespace Go.Proofs.YtfkbkekgnoanaaaDoor
open Go.RowKit Go.ChangeShapes Go.WideShapes Go.Deep
section
variable {H : Type} {enc : TypeId × Value → H} {w : World} {base : Nat} {spare : Nat → Bool} {held : Bool}
theorem slice_form {n : Nat} {cs : List Value} {x : DataW H × List MemPlace} (h : DataW.trod enc Tryd.prog w base spare held n 44 cs = some x) : ∃ a len cap, cs = [.slice a len cap] := by
 rcases open_slice Tryd.underlying44 h with ⟨hcs, _⟩ | ⟨ad, len', cap', m, n', D, Pl, hcs, _⟩
 ·exact ⟨_, _, _, hcs⟩
 ·exact ⟨_, _, _, hcs⟩
end
end Go.Proofs.YtfkbkekgnoanaaaDoor
