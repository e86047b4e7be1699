/-
  THE FACTS LAYER: made of both.
-/
import Derived.Test.YtdaijibkafepcaaDoorFactsMem
namespace Go.Proofs.YtdaijibkafepcaaDoor
open Go.RowKit Go.Shelf
set_option linter.unusedVariables false

theorem abide_made {B C D : Nat} {t : TypeId} {f : List Nat → Value} {o : Obj} {w : World} (hBC : B ≠ C) (hBD : B ≠ D) (hBn : w.heap.size ≤ B) {tB : TypeId} {vB : Value} :
    Abide B (fun (pre : List Nat) W => (∃ v, Boxed W B tB v) ∧ W.heap[D]? = some o ∧ Boxed W C t (f pre) ∧ Below w.heap.size w W) where
  cell := by
    rintro pre X u ⟨⟨v, hB⟩, hD, hC, hb⟩
    exact ⟨⟨u, hB.set u⟩, (Below.heap_setCell _ _ _ _ hBD.symm).trans hD, hC.other hBC.symm _, hb.setCell (p := ⟨B, 0, none⟩) hBn _⟩
  drew := by
    rintro pre X m ⟨hB, hD, hC, hb⟩
    exact ⟨hB, hD, hC, below_drewN hb m⟩
theorem own_made {B C D E : Nat} {t tB T : TypeId} {f : List Nat → Value} {cs : Array Value} {w : World} (hE : w.heap.size ≤ E) :
    OwnFrom E (fun (pre : List Nat) W => (∃ v, Boxed W B tB v) ∧ W.heap[D]? = some (.cells cs T (0, 0)) ∧ Boxed W C t (f pre) ∧ Below w.heap.size w W) := by
  rintro s X Y row ⟨⟨vB, hB⟩, hD, hC, hb⟩ hg hrow
  have ne : ∀ (b : Nat) (tt : TypeId) (u : Array Value), X.heap[b]? = some (.cells u tt (0, 0)) → some b ≠ row := fun b tt u hbx e' => by
    obtain ⟨_, o, ho, hc⟩ := hrow b e'.symm
    rw [hbx] at ho; cases ho; cases hc
  exact ⟨⟨vB, hB.kept hg (ne _ _ _ hB)⟩, (hg.block D (Array.getElem?_eq_some_iff.1 hD).1 (ne _ _ _ hD)).trans hD, hC.kept hg (ne _ _ _ hC), hb.grown hg hb.size fun k e' => Nat.le_trans hE (hrow k e').1⟩

section madeA
attribute [local go_sem] Oper.semAt_some
set_option maxRecDepth 100000 in
set_option maxHeartbeats 2000000 in
theorem madeA_in (a : Option Addr) (cap gen : Nat) (rows : List Nat) (s : Nat) (hs : s < 18446744073709551616) (w : World) (hf : FAt w a gen rows) (hin : ∀ i ∈ mem s, i < rows.length) (ht : TabC w) (r : Nat) (hr : madeF gen rows s = r) (len : Nat) (hl : rows.length = len) :
    CallsIn Fence.wide 5 Tryd.prog 81 #[fval gen a len cap, .int .u64 s] w fun e W' => e = .returned (.int .u64 r) ∧ Below w.heap.size w W' := by
  unfold fval
  have HF := Lib.hid hf; have HIN := Lib.hid hin; have HR := Lib.hid hr; have HL := Lib.hid hl; have HT := Lib.hid ht
  have hgen := hf.gen
  have HALL := Lib.hid hf.all
  have hlen : len ≤ 100 := by rw [← hl]; exact hf.len
  clear hin hr hl
  refine callsIn_of_wp_marks Tryd.func81 rfl trivial ?_ rfl
  simp only [Tryd.ntmps81, List.size_toArray, List.length_cons, List.length_nil, Nat.reduceAdd, Nat.reduceSub, Array.replicate_succ, Array.replicate_zero, List.push_toArray, List.append_toArray, List.nil_append, List.cons_append]
  gi_wp2_with (refine ⟨trivial, ?_⟩; gi_at_call 88; refine (callsIn_wide.2 (fmembers_any s _)).mono ?_; rintro e w' ⟨rfl, rfl⟩)
  have b0 := heapV_new w (.cells #[.int .u64 (gen : Int), .slice a len cap] 55)
  have bO := Boxed.new (w.alloc (.cells #[.int .u64 (gen : Int), .slice a len cap] 55)) 23 (.int .u64 (gen : Int))
  have bN := Boxed.new ((w.alloc (.cells #[.int .u64 (gen : Int), .slice a len cap] 55)).alloc (.cells #[.int .u64 (gen : Int)] 23)) 23 (.int .u64 s)
  rw [World.size_alloc] at bO
  rw [World.size_alloc, World.size_alloc] at bN
  have hB0 : Below w.heap.size w (((w.alloc (.cells #[.int .u64 (gen : Int), .slice a len cap] 55)).alloc (.cells #[.int .u64 (gen : Int)] 23)).alloc (.cells #[.int .u64 s] 23)) := (((Below.refl _ w).alloc (Nat.le_refl _) _).alloc (by simp) _).alloc (by simp; omega) _
  refine range_cell (F := Fence.wide) (n := 5) rfl (by omega) (gf := 93) (lb := #[.pointer (some ⟨w.heap.size + 1 + 1, 0, none⟩)]) (by simp [go_sem]) trivial (enters_of Tryd.func93 (by kernel_rfl) rfl)
    (B := w.heap.size + 1 + 1) (Kw := TabC) (by simp) (fmembers_seq 4 (by omega) (w.heap.size + 1 + 1) s hs _ bN) (fun _ => rfl)
    (fun pre W => (∃ v, Boxed W (w.heap.size + 1 + 1) 23 v) ∧ W.heap[w.heap.size]? = some (.cells #[.int .u64 (gen : Int), .slice a len cap] 55 (0, 0)) ∧ Boxed W (w.heap.size + 1) 23 (.int .u64 (accF rows gen pre : Nat)) ∧ Below w.heap.size w W)
    (own_made (by simp; omega)) (abide_made (by omega) (by omega) (by omega) (vB := undef)) (fun pre X h => HT.out.below h.2.2.2) ⟨⟨_, bN⟩, heap_allocd (heap_allocd b0 _) _, bO.alloc _, hB0⟩
    (fun x => { tmps := #[.agg #[.int .u64 (gen : Int), .slice a len cap], .int .u64 s, .pointer (some ⟨w.heap.size, 0, none⟩), undef, .int .u64 0, .pointer (some ⟨w.heap.size + 1, 0, none⟩), .int .i64 x, .pointer (some ⟨w.heap.size, 0, none⟩), .int .u64 (gen : Int), .int .u64 s, .func (.func 93) #[] #[.pointer (some ⟨w.heap.size + 1 + 1, 0, none⟩)], .int .i64 x, undef, undef, undef, undef, undef, undef, undef, undef], defers := [] }) ?assign ?body ?done
  case assign =>
    intro l x W K hK
    gi_wp2
    exact hK
  case body =>
    rintro l pre x rest W hx ⟨⟨vB, hvB⟩, h0, hv, hB⟩
    have hc := hv.cell
    have hfr := hv.frozen
    obtain ⟨c0, c1, _⟩ := two_cells h0
    have hxm : x ∈ mem s := by rw [hx]; simp
    have hxl : x < len := by rw [← HL.out]; exact HIN.out x hxm
    obtain ⟨ba, offa, z, rfl, hz, hz64, hba, a0⟩ := (HF.out.below hB).at_ (i := x) (by rw [HL.out]; exact hxl)
    have g0 : (0 : Int) ≤ (x : Int) := by omega
    have g1 : (x : Int) < (len : Int) := by omega
    have hacc := accF_lt HALL.out pre gen hgen
    have hor := u64_or_nat (accF rows gen pre) z hacc hz64
    have HS : Hid (accF rows gen (pre ++ [x]) = accF rows gen pre ||| z) := by
      show _ = _
      rw [accF_snoc, List.getD_eq_getElem?_getD, hz]; rfl
    obtain ⟨u, hu⟩ : ∃ u, accF rows gen pre = u := ⟨_, rfl⟩
    rw [hu] at hor hc HS hv
    obtain ⟨q, hq⟩ : ∃ q, u ||| z = q := ⟨_, rfl⟩
    rw [hq] at hor HS
    have HV := Lib.hid hv; have H0 := Lib.hid h0; have HVB := Lib.hid hvB
    clear hz hu hq hx hacc hv h0 hvB
    have hmix : Tryd.prog.follows .mixedOrders = true := by kernel_rfl
    gi_wp2_with fail
    gi_region_with_o (fail)
    all_goals
      refine ⟨((KeepsOthers.setCell _ _ _).trans (KeepsOthers.drew _)).from _, Below.heap_setCell _ _ _ _ (show w.heap.size + 1 + 1 ≠ w.heap.size + 1 by omega), ⟨vB, HVB.out.other (by omega) _⟩, heap_other H0.out (by omega), ?_, (hB.setCell (p := ⟨w.heap.size + 1, 0, none⟩) (by simp) _).drew⟩
      rw [HS.out]
      exact HV.out.set _
  case done =>
    rintro D W hD ⟨⟨vB, hvB⟩, h0, hv, hB⟩ hK
    have hc := hv.cell
    have HQ : Hid (accF rows gen (mem s) = r) := HR.out
    gi_wp2
    refine ⟨by simp, .inl ⟨_, _, rfl, run_takeDeferred hK, ?_⟩⟩
    exact ⟨_, results_tmp rfl _ _ _, by rw [← HQ.out]; rfl, hB.trans (belowK_b (w := w) (Nat.le_refl _) W D _ _ (by simp at hD; omega) hK rfl rfl)⟩
end madeA
theorem madeA_is (a : Option Addr) (cap gen : Nat) (rows : List Nat) (s : Nat) (hs : s < 18446744073709551616) (w : World) (hf : FAt w a gen rows) (hin : ∀ i ∈ mem s, i < rows.length) (ht : TabC w) (r : Nat) (hr : madeF gen rows s = r) (len : Nat) (hl : rows.length = len) :
    Calls Tryd.prog 81 #[fval gen a len cap, .int .u64 s] w fun e W' => e = .returned (.int .u64 r) ∧ Below w.heap.size w W' :=
  callsIn_wide.1 (madeA_in a cap gen rows s hs w hf hin ht r hr len hl)

theorem memK_mem {s m : Nat} (hs : s < 2 ^ m) (hm : m ≤ 64) : memK s m = mem s := by
  unfold memK mem
  obtain ⟨d, hd⟩ : ∃ d, 64 = m + d := ⟨64 - m, by omega⟩
  rw [hd, List.range_add, List.filter_append]
  have : ((List.range d).map (m + ·)).filter s.testBit = [] := by
    rw [List.filter_eq_nil_iff]
    intro x hx
    rw [List.mem_map] at hx
    obtain ⟨y, _, rfl⟩ := hx
    rw [Nat.testBit_lt_two_pow (Nat.lt_of_lt_of_le hs (Nat.pow_le_pow_right (by omega) (by omega)))]
    simp
  rw [this, List.append_nil]
set_option maxRecDepth 100000 in
set_option maxHeartbeats 1000000 in
theorem madeR_is (a : Option Addr) (cap gen : Nat) (rows : List Nat) (s : Nat) (hs : s < 2 ^ rows.length) (hl64 : rows.length ≤ 64) (w : World) (hf : FAt w a gen rows) (r : Nat) (hr : madeF gen rows s = r) (len : Nat) (hl : rows.length = len) :
    Calls Tryd.prog 82 #[fval gen a len cap, .int .u64 s] w fun e W' => e = .returned (.int .u64 r) ∧ Below w.heap.size w W' := by
  unfold fval
  have hs64 : s < 18446744073709551616 := Nat.lt_of_lt_of_le hs (pow_le64 hl64)
  have hB0 : Below w.heap.size w (w.alloc (.cells #[.int .u64 (gen : Int), .slice a len cap] 55)) := (Below.refl _ _).alloc (Nat.le_refl _) _
  have HF1 : Hid (FAt (w.alloc (.cells #[.int .u64 (gen : Int), .slice a len cap] 55)) a gen rows) := hf.below hB0
  have hgen := hf.gen
  have HALL := Lib.hid hf.all
  have HL := Lib.hid hl
  rw [hl] at hl64 hs
  have HR : Hid (accF rows gen (memK s len) = r) := by show _ = _; rw [memK_mem hs hl64]; exact hr
  clear hf hr hl hs
  go_enter Tryd.func82, Tryd.ntmps82
  go_wp2_with fail
  go_loopw [5, 6] (fun o i wr => ∃ (k u : Nat), k ≤ len ∧ i = .int .i64 k ∧ o = .int .u64 u ∧ u < 18446744073709551616 ∧ Hid (accF rows gen (memK s k) = u) ∧ (w.alloc (.cells #[.int .u64 (gen : Int), .slice a len cap] 55)) = wr) (fun _ i _ => len - (intOf i).toNat)
  case atStart => exact ⟨0, gen, Nat.zero_le _, rfl, rfl, hgen, rfl, rfl⟩
  case round =>
    obtain ⟨k, u, hk, rfl, rfl, hu, HU, rfl⟩ := hrel
    by_cases hlt : k < len
    · cases hbit : s.testBit k
      · have HN : Hid (accF rows gen (memK s (k + 1)) = u) := by show _ = _; rw [memK_no hbit]; exact HU.out
        have HH := Lib.hid (show hasB s k = false by simp [hasB, hbit])
        clear hbit
        go_wp2_with fail
        refine (hasR_is s k false HH.out hs64 _).mono ?_
        rintro e w1 ⟨rfl, rfl⟩
        go_wp2
        go_roundw
        case rel => exact ⟨k + 1, u, by omega, by go_num, rfl, hu, HN, by trivial⟩
        case measure => simp [intOf]; omega
      · obtain ⟨ba, offa, z, rfl, hz, hz64, hba, a0⟩ := HF1.out.at_ (i := k) (by rw [HL.out]; exact hlt)
        obtain ⟨q, hq⟩ : ∃ q, u ||| z = q := ⟨_, rfl⟩
        have hq64 : q < 18446744073709551616 := by rw [← hq]; exact or64 hu hz64
        have HN : Hid (accF rows gen (memK s (k + 1)) = q) := by
          show _ = _
          rw [memK_yes hbit, accF_snoc, HU.out, List.getD_eq_getElem?_getD, hz, ← hq]; rfl
        have HH := Lib.hid (show hasB s k = true by simp [hasB, hbit]; omega)
        have HQ := Lib.hid hq
        have g0 : (0 : Int) ≤ (k : Int) := by omega
        have g1 : (k : Int) < (len : Int) := by omega
        clear hbit hz hq
        go_wp2_with fail
        refine (hasR_is s k true HH.out hs64 _).mono ?_
        rintro e w1 ⟨rfl, rfl⟩
        go_wp2_with fail
        refine (or_is u z q hu hz64 HQ.out _).mono ?_
        rintro e w1 ⟨rfl, rfl⟩
        go_wp2
        go_roundw
        case rel => exact ⟨k + 1, q, by omega, by go_num, rfl, hq64, HN, by trivial⟩
        case measure => simp [intOf]; omega
    · have HE : Hid ((u : Int) = (r : Int)) := by
        show _ = _
        rw [← HU.out, ← HR.out, show k = len by omega]
      go_wp2
      go_ret
      exact ⟨rint HE.out, hB0⟩
end Go.Proofs.YtdaijibkafepcaaDoor
