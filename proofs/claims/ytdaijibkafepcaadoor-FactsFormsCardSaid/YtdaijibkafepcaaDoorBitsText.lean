/-
  THE BITS LAYER: the text of a set: of the program and of the reference.
-/
import Derived.Test.YtdaijibkafepcaaDoorBitsListR
import Derived.Test.YtdaijibkafepcaaDoorShelf
import Derived.Lib.OthersKept
import Derived.Laws.IdiomStrings
namespace Go.Proofs.YtdaijibkafepcaaDoor
open Go.RowKit Go.Shelf
set_option linter.unusedVariables false

def sepT (acc : List UInt8) : List UInt8 := if acc.isEmpty = true then [] else [44]
def stepT (acc : List UInt8) (x : Nat) : List UInt8 := acc ++ (sepT acc ++ Lib.itoa (x : Int))
def bodyT (l : List Nat) : List UInt8 := l.foldl stepT []
theorem bodyT_snoc (l : List Nat) (x : Nat) : bodyT (l ++ [x]) = bodyT l ++ (sepT (bodyT l) ++ Lib.itoa (x : Int)) := by
  unfold bodyT; rw [List.foldl_append]; rfl
theorem sepT_nil : sepT [] = [] := rfl
theorem sepT_cons {acc : List UInt8} (h : 0 < acc.length) : sepT acc = [44] := by
  cases acc with
  | nil => simp at h
  | cons a l => rfl
theorem sepT_len (acc : List UInt8) : (sepT acc).length ≤ 1 := by unfold sepT; split <;> simp
theorem itoa_small : ∀ x : Fin 64, 1 ≤ (Lib.itoa ((x.1 : Nat) : Int)).length ∧ (Lib.itoa ((x.1 : Nat) : Int)).length ≤ 2 := by decide +kernel
theorem itoa_len {x : Nat} (h : x < 64) : 1 ≤ (Lib.itoa (x : Int)).length ∧ (Lib.itoa (x : Int)).length ≤ 2 := itoa_small ⟨x, h⟩
def textL (s : Nat) : List UInt8 := 123 :: (bodyT (mem s) ++ [125])
def textB (s : Nat) : ByteArray := ⟨(textL s).toArray⟩
theorem foldT_len : ∀ (l : List Nat) (acc : List UInt8), (∀ x ∈ l, x < 64) → (l.foldl stepT acc).length ≤ acc.length + 3 * l.length ∧ acc.length + l.length ≤ (l.foldl stepT acc).length
  | [], acc, _ => by simp
  | x :: l, acc, h => by
    have ih := foldT_len l (stepT acc x) (fun y hy => h y (by simp [hy]))
    obtain ⟨a, b⟩ := itoa_len (h x (by simp))
    have hs : (stepT acc x).length = acc.length + ((sepT acc).length + (Lib.itoa (x : Int)).length) := by simp [stepT]
    have := sepT_len acc
    simp only [List.foldl_cons, List.length_cons]
    omega
theorem bodyT_len (l : List Nat) (h : ∀ x ∈ l, x < 64) : (bodyT l).length ≤ 3 * l.length ∧ l.length ≤ (bodyT l).length := by
  have := foldT_len l [] h
  simpa [bodyT] using this
theorem infoB : (Tryd.prog.info? 5).map (fun i => (i.zero, i.size, i.bytes)) = some (some (.int .u8 0), 1, 1) := by kernel_rfl
theorem owns_first (w : World) (base : Nat) (h : base ≤ w.heap.size) (b : UInt8) : (w.alloc (.cells #[.int .u8 (b.toNat : Int)] 5)).ownsRow base 5 1 (.slice (some ⟨w.heap.size, 0, none⟩) 1 1) 1 (Lib.byteCells [b]) :=
  ⟨rfl, .inr ⟨w.heap.size, 1, _, rfl, h, heapV_new w _, Nat.le_refl _, by unfold maxLen; omega, rfl, rfl⟩⟩
theorem keeps_others {w w' : World} (hsz : w.heap.size ≤ w'.heap.size) (h : Lib.OthersKept 5 none w w') : KeepsOthers w w' :=
  ⟨hsz, fun k o hk ho => h k o hk (by simp) (fun c fz e => by rw [e] at ho; cases ho)⟩
theorem boxed_others {w w' : World} {b : Nat} {t : TypeId} {v : Value} (hb : Boxed w b t v) (ht : t ≠ 5) (h : Lib.OthersKept 5 none w w') : Boxed w' b t v :=
  h b _ hb (by simp) (fun c fz e => by cases e; exact ht rfl)

theorem addr_add (g j : Nat) : (⟨g, 0, none⟩ : Addr).add j = ⟨g, j, none⟩ := by simp only [Addr.add]; split <;> simp_all
section textA
attribute [local go_sem] Oper.semAt_some
set_option maxRecDepth 100000 in
set_option maxHeartbeats 4000000 in
theorem textA_in (s : Nat) (hs : s < 18446744073709551616) (w : World) (ht : Tabs w) :
    CallsIn Fence.wide 5 Tryd.prog 34 #[.int .u64 s] w fun e W' => e = .returned (.string (textB s)) ∧ Below w.heap.size w W' := by
  obtain ⟨i0, hi, hz0, hz1, hz2⟩ := info_parts infoB
  have hTB : Lib.TabBelow Tryd.prog w.heap.size w "internal/strconv.uint64pow10" .u64 Lib.pow10Tab := Lib.tabBelow_of_tabIs ht.pow
  refine callsIn_of_wp_marks Tryd.func34 rfl trivial ?_ rfl
  simp only [Tryd.ntmps34, List.size_toArray, List.length_cons, List.length_nil, Nat.reduceAdd, Nat.reduceSub, Array.replicate_succ, Array.replicate_zero, List.push_toArray, List.append_toArray, List.nil_append, List.cons_append]
  gi_wp2_with (refine ⟨trivial, ?_⟩; gi_at_call 63; refine (callsIn_wide.2 (members_any 3 s _)).mono ?_; rintro e w' ⟨rfl, rfl⟩)
  have bO := Boxed.new (w.alloc (.cells #[.int .u8 123] 5)) 92 (.slice (some ⟨w.heap.size, 0, none⟩) 1 1)
  have bN := Boxed.new ((w.alloc (.cells #[.int .u8 123] 5)).alloc (.cells #[.slice (some ⟨w.heap.size, 0, none⟩) 1 1] 92)) 23 (.int .u64 s)
  have o0 := ((owns_first w w.heap.size (Nat.le_refl _) 123).alloc (.cells #[.slice (some ⟨w.heap.size, 0, none⟩) 1 1] 92)).alloc (.cells #[.int .u64 s] 23)
  rw [World.size_alloc] at bO
  rw [World.size_alloc, World.size_alloc] at bN
  have hB0 : Below w.heap.size w (((w.alloc (.cells #[.int .u8 123] 5)).alloc (.cells #[.slice (some ⟨w.heap.size, 0, none⟩) 1 1] 92)).alloc (.cells #[.int .u64 s] 23)) := (((Below.refl _ w).alloc (Nat.le_refl _) _).alloc (by simp) _).alloc (by simp; omega) _
  refine range_cell (F := Fence.wide) (n := 5) rfl (by omega) (gf := 83) (lb := #[.pointer (some ⟨w.heap.size + 1 + 1, 0, none⟩)]) (by simp [go_sem]) trivial (enters_of Tryd.func83 (by kernel_rfl) rfl)
    (B := w.heap.size + 1 + 1) (Kw := Tabs) (by simp) (members_seq 4 (by omega) (w.heap.size + 1 + 1) s hs _ bN) (fun _ => rfl)
    (fun pre W => (∃ vB, Boxed W (w.heap.size + 1 + 1) 23 vB) ∧ (∃ v, Boxed W (w.heap.size + 1) 92 v ∧ W.ownsRow w.heap.size 5 1 v (1 + (bodyT pre).length) (Lib.byteCells (123 :: bodyT pre))) ∧ Below w.heap.size w W)
    (own_holds (by simp; omega)) (abide_holds (by omega) (by omega) (by decide)) (fun pre X h => ht.below h.2.2) ⟨⟨_, bN⟩, ⟨_, bO.alloc _, o0⟩, hB0⟩
    (fun x => { tmps := #[.int .u64 s, undef, .string ⟨#[]⟩, .pointer (some ⟨w.heap.size + 1, 0, none⟩), .int .i64 x, .slice (some ⟨w.heap.size, 0, none⟩) 1 1, .int .u64 s, .func (.func 83) #[] #[.pointer (some ⟨w.heap.size + 1 + 1, 0, none⟩)], .int .i64 x, undef, undef, undef, undef, undef, undef, undef, undef, undef, undef, undef, undef, undef], defers := [] }) ?assign ?body ?done
  case assign =>
    intro l x W K hK
    gi_wp2
    exact hK
  case body =>
    rintro l pre x rest W hx ⟨⟨vB, hvB⟩, ⟨v, hv, hrow⟩, hB⟩
    have hx64 : x < 64 := mem_lt (s := s) (by rw [hx]; simp)
    have hpl : (bodyT pre).length ≤ 192 := by
      have h1 := (bodyT_len pre (fun y hy => mem_lt (s := s) (by rw [hx]; simp [hy]))).1
      have h2 := mem_length s
      rw [hx] at h2
      simp at h2; omega
    obtain ⟨p, hp⟩ : ∃ p, (bodyT pre).length = p := ⟨_, rfl⟩
    rw [hp] at hrow hpl
    obtain ⟨n, hn⟩ : ∃ n, 1 + p = n := ⟨_, rfl⟩
    rw [hn] at hrow
    obtain ⟨g, cap, hvv, hvg, hvl⟩ := hrow.form (by omega)
    subst hvv
    have hc := hv.cell
    have hf := hv.frozen
    have hi64 : (Lib.itoa (x : Int)).length ≤ 2 := (itoa_len hx64).2
    have hi1 : 1 ≤ (Lib.itoa (x : Int)).length := (itoa_len hx64).1
    have HX : Hid ((123 : UInt8) :: bodyT (pre ++ [x]) = (123 :: bodyT pre) ++ (sepT (bodyT pre) ++ Lib.itoa (x : Int))) := by show _ = _; rw [bodyT_snoc]; rfl
    have HXL : Hid (1 + (bodyT (pre ++ [x])).length = n + ((sepT (bodyT pre)).length + (Lib.itoa (x : Int)).length)) := by show _ = _; rw [bodyT_snoc]; simp [hp]; omega
    have hx1 : -9223372036854775808 ≤ (x : Int) := by omega
    have hx2 : (x : Int) ≤ 9223372036854775807 := by omega
    by_cases hp0 : p = 0
    · subst hp0
      have hs0 : Hid (sepT (bodyT pre) = []) := by show _ = _; rw [List.length_eq_zero_iff.1 hp]; rfl
      obtain rfl : n = 1 := by omega
      gi_wp2_with (refine ⟨trivial, ?_⟩; gi_at_call 69; go_loud (refine (CallsIn.inRound l (callsIn_wide.2 (Tryd.strconv_AppendInt_10 w.heap.size 1 (x : Int) hx1 hx2 _ _ _ hrow hB.size (by omega) (hTB.on hB)))).mono ?_; rintro e W2 ⟨v2, rfl, hown2, hb2, hk2⟩; obtain ⟨g2, cap2, hv2, _, _⟩ := hown2.form (by omega); subst hv2; have hvC := boxed_others hv (by decide) hk2; have hc2 := hvC.cell; have hf2 := hvC.frozen))
      have hvB2 := (boxed_others hvB (by decide) hk2).other (B' := w.heap.size + 1) (by omega) (.slice (some ⟨g2, 0, none⟩) (1 + (Lib.itoa (x : Int)).length) cap2)
      refine ⟨((keeps_others hb2.size hk2).trans (KeepsOthers.setCell _ _ _)).from _, hvB2.trans hvB.symm, ⟨_, hvB2⟩, ⟨_, hvC.set _, ?_⟩, (hB.trans hb2).setCell (p := ⟨w.heap.size + 1, 0, none⟩) (by simp) _⟩
      rw [HX.out, HXL.out, hs0.out]
      have := hown2.kept (grownBy_setCell' W2 (w.heap.size + 1) (.slice (some ⟨g2, 0, none⟩) (1 + (Lib.itoa (x : Int)).length) cap2)) (.inr (hvC.not_row (by decide) hown2).symm)
      simpa [Lib.byteCells] using this
    · have hs1 : Hid (sepT (bodyT pre) = [44]) := sepT_cons (by omega)
      have hn1 : (1 : Int) < (n : Int) := by omega
      gi_wp2_with (first | (gi_at_builtin; refine wpListIn_append_own _ rfl _ _ 92 rfl w.heap.size 5 i0 (.int .u8 0) 1 1 Tryd.underlying92 hi hz0 hz1 hz2 rfl (by decide) _ _ _ rfl (hrow.alloc _) ⟨W.heap.size, 0, none⟩ 1 1 [.int .u8 44] rfl rfl (cell_one_new _ _ _) (by simp [Value.oneCell']) (by unfold maxLen; omega) (by omega) (by have := hB.size; simp; omega) ?_; intro v' w1 hown' hgrow _; obtain ⟨g', cap', rfl⟩ := ownsRow_succ hown'; obtain ⟨hv1, hv2, hr2, hk1, hb1⟩ := hv.appended (by decide) hrow hB.size (Nat.le_succ _) hown' hgrow; have hvB1 := ((hvB.alloc _).kept hgrow (hvB.not_row (by decide) hrow)).other (B' := w.heap.size + 1) (by omega) (.slice (some ⟨g', 0, none⟩) (n + 1) cap'); have hc1 := hv1.cell; have hf1 := hv1.frozen) | (refine ⟨trivial, ?_⟩; gi_at_call 69; go_loud (refine (CallsIn.inRound l (callsIn_wide.2 (Tryd.strconv_AppendInt_10 w.heap.size (n + 1) (x : Int) hx1 hx2 _ _ _ hr2 (hB.trans hb1).size (by omega) (hTB.on (hB.trans hb1))))).mono ?_; rintro e W2 ⟨v2, rfl, hown2, hb2, hk2⟩; obtain ⟨g2, cap2, hv9, _, _⟩ := hown2.form (by omega); subst hv9; have hvC := boxed_others hv2 (by decide) hk2; have hc2 := hvC.cell; have hf2 := hvC.frozen)))
      have hvB2 := (boxed_others hvB1 (by decide) hk2).other (B' := w.heap.size + 1) (by omega) (.slice (some ⟨g2, 0, none⟩) (n + 1 + (Lib.itoa (x : Int)).length) cap2)
      refine ⟨((hk1.trans (keeps_others hb2.size hk2)).trans (KeepsOthers.setCell _ _ _)).from _, hvB2.trans hvB.symm, ⟨_, hvB2⟩, ⟨_, hvC.set _, ?_⟩, ((hB.trans hb1).trans hb2).setCell (p := ⟨w.heap.size + 1, 0, none⟩) (by simp) _⟩
      rw [HX.out, HXL.out, hs1.out]
      have := hown2.kept (grownBy_setCell' W2 (w.heap.size + 1) (.slice (some ⟨g2, 0, none⟩) (n + 1 + (Lib.itoa (x : Int)).length) cap2)) (.inr (hvC.not_row (by decide) hown2).symm)
      simpa [Lib.byteCells, Nat.add_assoc] using this
  case done =>
    rintro D W hD ⟨⟨vB, hvB⟩, ⟨v, hv, hrow⟩, hB⟩ hK
    have hpl : (bodyT (mem s)).length ≤ 192 := by
      have h1 := (bodyT_len (mem s) (fun y hy => mem_lt hy)).1
      have h2 := mem_length s
      omega
    obtain ⟨n, hn⟩ : ∃ n, 1 + (bodyT (mem s)).length = n := ⟨_, rfl⟩
    have hrow' := hrow
    rw [hn] at hrow
    obtain ⟨g, cap, hvv, hvg, hvl⟩ := hrow.form (by omega)
    subst hvv
    have hc := hv.cell
    have hlen : n + 1 = (textL s).length := by simp [textL]; omega
    have hcells : Lib.byteCells (123 :: bodyT (mem s)) ++ [.int .u8 125] = Lib.byteCells (textL s) := by simp [Lib.byteCells, textL]
    have HLEN := Lib.hid hlen; have HCELLS := Lib.hid hcells
    clear hlen hcells
    gi_wp2_with (gi_at_builtin; go_loud (refine wpListIn_append_own _ rfl _ _ 92 rfl w.heap.size 5 i0 (.int .u8 0) 1 1 Tryd.underlying92 hi hz0 hz1 hz2 rfl (by decide) _ _ _ rfl (hrow.alloc _) ⟨W.heap.size, 0, none⟩ 1 1 [.int .u8 125] rfl rfl (cell_one_new _ _ _) (by simp [Value.oneCell']) (by unfold maxLen; omega) (by omega) (by have := hB.size; simp; omega) ?_; intro v' w1 hown' hgrow _; obtain ⟨g', cap', rfl⟩ := ownsRow_succ hown'; have hconv := run_convert_bytes_back (P := Tryd.prog) w1 92 9 5 ⟨g', 0, none⟩ cap' (textL s) Tryd.underlying92 Tryd.underlying5 Tryd.underlying9 (fun j hj => by have h9 := hown'.cellAt j (by rw [← HLEN.out] at hj; omega); rw [HCELLS.out] at h9; rw [addr_add, h9]; simp [Lib.byteCells, hj])); rw [← HLEN.out] at hconv)
    have hk1 : KeepsOthers W w1 := (KeepsOthers.alloc W _).trans (KeepsOthers.of_grownBy hgrow fun j o ej hj => by
      have ej2 : (Value.slice (some ⟨g, 0, none⟩) n cap).ownBlock = some j := ej
      rcases (hrow.alloc (.cells #[.int .u8 125] 5)).2 with ⟨h9, _⟩ | ⟨g9, cap9, cur9, h9, _, hgb9, _⟩
      · cases h9
      · rw [h9] at ej2
        obtain rfl : g9 = j := by simpa [Value.ownBlock] using ej2
        rw [hgb9] at hj; cases hj; rfl)
    have hB1 : Below w.heap.size w w1 := (hB.alloc hB.size _).grown hgrow (by have := hB.size; simp; omega) (fun j e => (hrow.lt j e).1)
    have hK1 := hk1.same D _ hK rfl
    refine ⟨by simp, .inl ⟨_, _, rfl, run_takeDeferred hK1, ?_⟩⟩
    exact ⟨_, results_tmp rfl _ _ _, rfl, hB1.trans (belowK_b (w := w) (Nat.le_refl _) w1 D _ _ (by simp at hD; omega) hK1 rfl rfl)⟩
end textA
theorem textA_any (s : Nat) (hs : s < 18446744073709551616) (w : World) (ht : Tabs w) :
    Calls Tryd.prog 34 #[.int .u64 s] w fun e W' => e = .returned (.string (textB s)) ∧ Below w.heap.size w W' :=
  callsIn_wide.1 (textA_in s hs w ht)
end Go.Proofs.YtdaijibkafepcaaDoor
