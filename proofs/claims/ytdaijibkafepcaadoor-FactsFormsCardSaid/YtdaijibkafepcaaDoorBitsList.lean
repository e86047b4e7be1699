/-
  THE BITS LAYER: List, of the program and of the reference.
-/
import Derived.Test.YtdaijibkafepcaaDoorBitsMem
import Derived.Maps.AppendAt
import Derived.Deep.AppendLies
namespace Go.Proofs.YtdaijibkafepcaaDoor
open Go.RowKit Go.Shelf
set_option linter.unusedVariables false

def ints (l : List Nat) : List Value := l.map fun i : Nat => Value.int .i64 (i : Int)
theorem ints_snoc (l : List Nat) (x : Nat) : ints (l ++ [x]) = ints l ++ [Value.int .i64 (x : Int)] := by simp [ints]
theorem ints_length (l : List Nat) : (ints l).length = l.length := by simp [ints]
theorem infoI : (Tryd.prog.info? 3).map (fun i => (i.zero, i.size, i.bytes)) = some (some (.int .i64 0), 1, 8) := by kernel_rfl

theorem abide_holds {n₀ B C : Nat} {t e : TypeId} {k : List Nat → Nat} {f : List Nat → List Value} {w : World} (hBC : B ≠ C) (hBn : w.heap.size ≤ B) {tB : TypeId} (hte : tB ≠ e) :
    Abide B (fun pre W => (∃ vB, Boxed W B tB vB) ∧ (∃ v, Boxed W C t v ∧ W.ownsRow n₀ e 1 v (k pre) (f pre)) ∧ Below w.heap.size w W) where
  cell := by
    rintro pre X u ⟨⟨vB, hB⟩, ⟨v, hv, hr⟩, hb⟩
    exact ⟨⟨u, hB.set u⟩, ⟨v, hv.other hBC.symm _, hr.kept (grownBy_setCell' X B u) (.inr (hB.not_row hte hr).symm)⟩, hb.setCell (p := ⟨B, 0, none⟩) hBn _⟩
  drew := by
    rintro pre X m ⟨⟨vB, hB⟩, ⟨v, hv, hr⟩, hb⟩
    exact ⟨⟨vB, hB⟩, ⟨v, hv, hr⟩, below_drewN hb m⟩
theorem own_holds {n₀ B C : Nat} {t tB e : TypeId} {k : List Nat → Nat} {f : List Nat → List Value} {w : World} {D : Nat} (hD : w.heap.size ≤ D) :
    OwnFrom D (fun pre W => (∃ vB, Boxed W B tB vB) ∧ (∃ v, Boxed W C t v ∧ W.ownsRow n₀ e 1 v (k pre) (f pre)) ∧ Below w.heap.size w W) := by
  rintro s X Y row ⟨⟨vB, hB⟩, ⟨v, hv, hr⟩, hb⟩ hg hrow
  have ne : ∀ (b : Nat) (tt : TypeId) (u : Value), Boxed X b tt u → some b ≠ row := fun b tt u hbx e' => by
    obtain ⟨_, o, ho, hc⟩ := hrow b e'.symm
    rw [show X.heap[b]? = _ from hbx] at ho; cases ho; cases hc
  refine ⟨⟨vB, hB.kept hg (ne _ _ _ hB)⟩, ⟨v, hv.kept hg (ne _ _ _ hv), hr.kept hg ?_⟩, hb.grown hg hb.size fun k e' => Nat.le_trans hD (hrow k e').1⟩
  rcases hr.2 with ⟨rfl, _⟩ | ⟨g, cap, cur, rfl, _, hgb, _⟩
  · exact .inl rfl
  · refine .inr fun e' => ?_
    obtain ⟨_, o, ho, hc⟩ := hrow g (by simpa [Value.ownBlock] using e'.symm)
    rw [hgb] at ho; cases ho; cases hc

section listA
attribute [local go_sem] Oper.semAt_some
set_option maxRecDepth 100000 in
set_option maxHeartbeats 2000000 in
theorem listA_in (s : Nat) (hs : s < 18446744073709551616) (w : World) (ht : Tabs w) :
    CallsIn Fence.wide 5 Tryd.prog 19 #[.int .u64 s] w fun e W' => ∃ v, e = .returned v ∧ W'.ownsRow w.heap.size 3 1 v (mem s).length (ints (mem s)) ∧ Below w.heap.size w W' := by
  obtain ⟨i0, hi, hz0, hz1, hz2⟩ := info_parts infoI
  refine callsIn_of_wp_marks Tryd.func19 rfl trivial ?_ rfl
  simp only [Tryd.ntmps19, List.size_toArray, List.length_cons, List.length_nil, Nat.reduceAdd, Nat.reduceSub, Array.replicate_succ, Array.replicate_zero, List.push_toArray, List.append_toArray, List.nil_append, List.cons_append]
  gi_wp2_with (refine ⟨trivial, ?_⟩; gi_at_call 63; refine (callsIn_wide.2 (members_any 3 s _)).mono ?_; rintro e w' ⟨rfl, rfl⟩)
  have bO := Boxed.new w 22 (.slice none 0 0)
  have bN := Boxed.new (w.alloc (.cells #[.slice none 0 0] 22)) 23 (.int .u64 s)
  rw [World.size_alloc] at bN
  have hB0 : Below w.heap.size w ((w.alloc (.cells #[.slice none 0 0] 22)).alloc (.cells #[.int .u64 s] 23)) := ((Below.refl _ w).alloc (Nat.le_refl _) _).alloc (by simp) _
  refine range_cell (F := Fence.wide) (n := 5) rfl (by omega) (gf := 83) (lb := #[.pointer (some ⟨w.heap.size + 1, 0, none⟩)]) (by simp [go_sem]) trivial (enters_of Tryd.func83 (by kernel_rfl) rfl)
    (B := w.heap.size + 1) (Kw := Tabs) (by simp) (members_seq 4 (by omega) (w.heap.size + 1) s hs _ bN) (fun _ => rfl)
    (fun pre W => (∃ vB, Boxed W (w.heap.size + 1) 23 vB) ∧ (∃ v, Boxed W w.heap.size 22 v ∧ W.ownsRow w.heap.size 3 1 v pre.length (ints pre)) ∧ Below w.heap.size w W)
    (own_holds (by simp; omega)) (abide_holds (by omega) (by omega) (by decide)) (fun pre X h => ht.below h.2.2) ⟨⟨_, bN⟩, ⟨_, bO.alloc _, World.ownsRow_nil _ _ _ _⟩, hB0⟩
    (fun x => { tmps := #[.int .u64 s, undef, .slice none 0 0, .pointer (some ⟨w.heap.size, 0, none⟩), .int .i64 x, .int .u64 s, .func (.func 83) #[] #[.pointer (some ⟨w.heap.size + 1, 0, none⟩)], .int .i64 x, undef, undef, undef, undef, undef], defers := [] }) ?assign ?body ?done
  case assign =>
    intro l x W K hK
    gi_wp2
    exact hK
  case body =>
    rintro l pre x rest W hx ⟨⟨vB, hvB⟩, ⟨v, hv, hrow⟩, hB⟩
    have hc := hv.cell
    have hlen : pre.length < 64 := by
      have := mem_length s
      rw [hx] at this
      simp at this; omega
    gi_wp2_with (gi_at_builtin; refine wpListIn_append_own _ rfl _ _ 22 rfl w.heap.size 3 i0 (.int .i64 0) 1 8 Tryd.underlying22 hi hz0 hz1 hz2 rfl (by decide) _ _ _ rfl (hrow.alloc _) ⟨W.heap.size, 0, none⟩ 1 1 [.int .i64 x] rfl rfl (cell_one_new _ _ _) (by simp [Value.oneCell']) (by unfold maxLen; omega) (by omega) (by have := hB.size; simp; omega) ?_; intro v' w1 hown' hgrow _; obtain ⟨g', cap', rfl⟩ := ownsRow_succ hown'; obtain ⟨hv1, hv2, hr2, hk2, hb2⟩ := hv.appended (by decide) hrow hB.size (Nat.le_refl _) hown' hgrow; have hvB1 := ((hvB.alloc _).kept hgrow (hvB.not_row (by decide) hrow)).other (B' := w.heap.size) (by omega) (.slice (some ⟨g', 0, none⟩) (pre.length + 1) cap'); have hc1 := hv1.cell; have hf1 := hv1.frozen)
    refine ⟨hk2.from _, ?_, ⟨_, hvB1⟩, ⟨_, hv2, ?_⟩, hB.trans hb2⟩
    · exact hvB1.trans hvB.symm
    · rw [ints_snoc]; simpa using hr2
  case done =>
    rintro D W hD ⟨⟨vB, hvB⟩, ⟨v, hv, hrow⟩, hB⟩ hK
    have hc := hv.cell
    gi_wp2
    refine ⟨by simp, .inl ⟨_, _, rfl, run_takeDeferred hK, ?_⟩⟩
    exact ⟨_, results_tmp rfl _ _ _, v, rfl, ownsRow_putObj hrow _ hK rfl, hB.trans (belowK_b (w := w) (Nat.le_refl _) W D _ _ (by simp at hD; omega) hK rfl rfl)⟩
end listA
theorem listA_any (s : Nat) (hs : s < 18446744073709551616) (w : World) (ht : Tabs w) :
    Calls Tryd.prog 19 #[.int .u64 s] w fun e W' => ∃ v, e = .returned v ∧ W'.ownsRow w.heap.size 3 1 v (mem s).length (ints (mem s)) ∧ Below w.heap.size w W' :=
  callsIn_wide.1 (listA_in s hs w ht)
end Go.Proofs.YtdaijibkafepcaaDoor
