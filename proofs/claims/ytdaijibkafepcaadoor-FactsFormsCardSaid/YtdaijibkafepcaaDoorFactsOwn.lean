/-
  THE FACTS LAYER: slices.Clone, canonical; Canon of both.
-/
import Derived.Test.YtdaijibkafepcaaDoorFactsCheck
import Derived.Lib.SliceRun
namespace Go.Proofs.YtdaijibkafepcaaDoor
open Go.RowKit
set_option linter.unusedVariables false

def mixL (ys xs : List Nat) (k : Nat) : List Nat := ys.take k ++ xs.drop k
theorem mixL_set {ys xs : List Nat} {k x y : Nat} (hy : ys[k]? = some y) (hx : xs[k]? = some x) : (mixL ys xs k).set k y = mixL ys xs (k + 1) := by
  obtain ⟨hk, ex⟩ := List.getElem?_eq_some_iff.1 hx
  obtain ⟨hk2, ey⟩ := List.getElem?_eq_some_iff.1 hy
  unfold mixL
  have hl : (ys.take k).length = k := by rw [List.length_take]; omega
  rw [List.set_append_right _ _ (by omega), hl, Nat.sub_self, List.drop_eq_getElem_cons hk, List.set_cons_zero, List.take_succ_eq_append_getElem hk2, ey, List.append_assoc]
  rfl
theorem mixL_at {ys xs : List Nat} {k x : Nat} (hl : ys.length = xs.length) (hx : xs[k]? = some x) : (mixL ys xs k)[k]? = some x := by
  obtain ⟨hk, ex⟩ := List.getElem?_eq_some_iff.1 hx
  unfold mixL
  have h2 : (ys.take k).length = k := by rw [List.length_take]; omega
  rw [List.getElem?_append_right (by omega), h2, Nat.sub_self, List.getElem?_drop, Nat.add_zero, hx]
theorem mixL_len {ys xs : List Nat} {k : Nat} (hl : ys.length = xs.length) (hk : k ≤ xs.length) : (mixL ys xs k).length = xs.length := by
  unfold mixL
  rw [List.length_append, List.length_take, List.length_drop]; omega
theorem mixL_zero (ys xs : List Nat) : mixL ys xs 0 = xs := by simp [mixL]
theorem mixL_all {ys xs : List Nat} (hl : ys.length = xs.length) : mixL ys xs xs.length = ys := by
  unfold mixL
  rw [List.take_of_length_le (by omega), List.drop_of_length_le (Nat.le_refl _), List.append_nil]
theorem u64s_set (l : List Nat) (k y : Nat) : (u64s l).set k (.int .u64 (y : Int)) = u64s (l.set k y) := by
  unfold u64s; rw [List.map_set]
theorem u64s_get {l : List Nat} {k x : Nat} (h : l[k]? = some x) : (u64s l)[k]? = some (.int .u64 (x : Int)) := by
  unfold u64s; rw [List.getElem?_map, h]; rfl

theorem news_of_vrow {w : World} {ad : Addr} {vs : List Value} (h : VRow w (some ad) vs) : ∀ j u, vs[j]? = some u → w.cell? (ad.add j) = some u := by
  intro j u hj
  rcases h with h | ⟨b, off, ha, hc⟩
  · subst h; simp at hj
  · cases ha
    have := hc j u hj
    rw [← this]
    simp only [Addr.add]; split <;> simp_all
theorem u64s_one (l : List Nat) : ∀ u ∈ u64s l, u.oneCell' = true := by
  intro u hu
  unfold u64s at hu
  rw [List.mem_map] at hu
  obtain ⟨r, _, rfl⟩ := hu
  rfl
set_option maxRecDepth 100000 in
set_option maxHeartbeats 1000000 in
theorem clone_is (a : Option Addr) (cap : Nat) (xs : List Nat) (w : World) (hx : xs.length ≤ 100) (hra : URow w a xs) (n : Nat) (hn : xs.length = n) :
    Calls Tryd.prog 73 #[.slice a n cap] w fun e w' => ∃ v, e = .returned v ∧ w'.ownsRow w.heap.size 23 1 v n (u64s xs) ∧ Below w.heap.size w w' := by
  obtain ⟨i0, hi, hz0, hz1, hz2⟩ := info_parts infoU
  have q22 : ∀ (w : World) (a : Option Addr) (n c n' c' : Nat), (binOp .eql 53 (.slice a n c) (.slice none n' c')).run Tryd.prog w = .ok (.bool a.isNone) w := fun w a n c n' c' => Lib.run_eql_slice_nil w _ _ a n c n' c' Tryd.underlying53
  have HN := Lib.hid hn
  rw [hn] at hx
  cases a with
  | none =>
    have hcs : u64s xs = [] := by
      rcases hra with h | ⟨b, off, e, _⟩
      · exact h
      · cases e
    have hx0 : xs = [] := List.length_eq_zero_iff.1 (by rw [← u64s_length, hcs]; rfl)
    subst hx0
    obtain rfl : 0 = n := HN.out
    clear hra
    go_enter Tryd.func73, Tryd.ntmps73
    go_wp2
    go_ret
    exact ⟨_, rfl, World.ownsRow_nil _ _ _ _, Below.refl _ _⟩
  | some ad =>
    have HNW := Lib.hid (fun (o : Obj) => news_of_vrow (VRow.below hra ((Below.refl _ w).alloc (Nat.le_refl _) o)))
    have hown : (w.alloc (.cells #[] 23)).ownsRow w.heap.size 23 1 (.slice (some ⟨w.heap.size, 0, none⟩) 0 0) 0 [] := World.ownsRow_lit w #[] 0 (Nat.le_refl _) (by simp) rfl
    have HO := Lib.hid hown
    have hul : Hid ((u64s xs).length = n * 1) := by show _ = _; rw [u64s_length, hn, Nat.mul_one]
    clear hra hown hn
    go_enter Tryd.func73, Tryd.ntmps73
    go_wp2_with (at_builtin; go_loud (refine wpList_append_own _ rfl (.tmp 5) (.tmp 6) 53 rfl w.heap.size 23 i0 _ 1 8 Tryd.underlying53 hi hz0 hz1 hz2 rfl (by decide) _ _ _ rfl HO.out ad n cap (u64s xs) rfl hul.out (HNW.out _) (u64s_one xs) (by unfold maxLen; omega) (by omega) (by simp) ?_; intro v' w2 hown2 hgrow hnil))
    go_ret
    refine ⟨v', rfl, by simpa using hown2, ?_⟩
    exact ((Below.refl _ _).alloc (Nat.le_refl _) _).grown hgrow (by simp) (fun j e => by cases e; exact Nat.le_refl _)

/-- What a function leaves that writes into the row v alone and makes blocks. -/
structure OwnPost (w w' : World) (base n : Nat) (v : Value) (xs : List Nat) : Prop where
  own : w'.ownsRow base 23 1 v n (u64s xs)
  below : Below base w w'
  rest : ∀ j, j < w.heap.size → some j ≠ v.ownBlock → w'.heap[j]? = w.heap[j]?
set_option maxRecDepth 100000 in
set_option maxHeartbeats 1000000 in
theorem canonical_is (gen : Nat) (base n : Nat) (v : Value) (xs ys : List Nat) (w : World) (hgen : gen < 18446744073709551616) (hall : ∀ r ∈ xs, r < 18446744073709551616) (hx : xs.length ≤ 100) (hn : xs.length = n) (hb0 : base ≤ w.heap.size) (hown : w.ownsRow base 23 1 v n (u64s xs)) (hys : canonL gen xs = ys) :
    Calls Tryd.prog 72 #[.int .u64 gen, v] w fun e w' => e = .returned (.agg #[.int .u64 (gen : Int), v]) ∧ OwnPost w w' base n v ys := by
  have HALL := Lib.hid hall; have HN := Lib.hid hn
  have HYL : Hid (ys.length = xs.length) := by show _ = _; rw [← hys, canonL_length]
  have HYS := Lib.hid hys
  obtain ⟨a, cap, hv⟩ : ∃ a cap, v = .slice a n cap := by
    rcases hown.2 with ⟨h, h0⟩ | ⟨g, cap, cur, h, _⟩
    · exact ⟨none, 0, by rw [h, h0]⟩
    · exact ⟨_, _, h⟩
  subst hv
  have HO0 := Lib.hid hown
  rw [hn] at hx
  clear hown hys hall hn
  go_enter Tryd.func72, Tryd.ntmps72
  go_wp2_with fail
  go_loopw [8] (fun i wr => ∃ k : Nat, k ≤ n ∧ i = .int .i64 k ∧ Hid (wr.ownsRow base 23 1 (.slice a n cap) n (u64s (mixL ys xs k))) ∧ Hid (wr.heap[w.heap.size]? = some (.cells #[.int .u64 0, .slice none 0 0] 55 (0, 0))) ∧ Below base w wr ∧ Hid (∀ j, j < w.heap.size → some j ≠ (Value.slice a n cap).ownBlock → wr.heap[j]? = w.heap[j]?)) (fun i _ => n - (intOf i).toNat)
  case atStart =>
    refine ⟨0, Nat.zero_le _, rfl, ?_, heapV_new _ _, (Below.refl _ _).alloc hb0 _, fun j hj _ => Below.heap_alloc _ _ _ hj⟩
    rw [mixL_zero]
    exact HO0.out.alloc _
  case round =>
    obtain ⟨k, hk, rfl, HO, HR, hb, HX⟩ := hrel
    by_cases hlt : k < n
    · obtain ⟨x, hx1⟩ : ∃ x, xs[k]? = some x := ⟨xs[k]'(by rw [HN.out]; exact hlt), by simp [HN.out, hlt]⟩
      have hx64 := HALL.out x (List.mem_of_getElem? hx1)
      have hag := andn_go x gen hx64 hgen
      obtain ⟨y, hy⟩ : ∃ y, andn x gen = y := ⟨_, rfl⟩
      rw [hy] at hag
      have hy1 : ys[k]? = some y := by rw [← HYS.out, canonL, List.getElem?_map, hx1, ← hy]; rfl
      have HM := Lib.hid (mixL_set hy1 hx1)
      obtain ⟨g, capg, hv, hbg, hgl⟩ := HO.out.form (show 0 < n by omega)
      have hv2 : a = some ⟨g, 0, none⟩ ∧ capg = cap := by cases hv; exact ⟨rfl, rfl⟩
      obtain ⟨rfl, rfl⟩ := hv2
      have d0 := (HO.out.cellAt k (by omega)).trans (u64s_get (mixL_at HYL.out hx1))
      have q0 := HO.out.frozenAt k
      have g0 : (0 : Int) ≤ (k : Int) := by omega
      have g3 : (k : Int) < (n : Int) := by omega
      have HO2 : Hid ((wr.setCell ⟨g, k, none⟩ (.int .u64 (y : Int))).ownsRow base 23 1 (.slice (some ⟨g, 0, none⟩) n capg) n (u64s (mixL ys xs (k + 1)))) := by
        rw [← HM.out, ← u64s_set]
        exact (HO.out.stored k _).1
      have hgr : g ≠ w.heap.size := by
        intro e
        have h1 := not_row HR.out (by decide) HO.out
        apply h1
        show some _ = some g
        rw [e]
      have HR2 := Lib.hid (heap_other (j := k) (c := .int .u64 (y : Int)) HR.out (fun e => hgr e.symm))
      have HX2 : Hid (∀ j, j < w.heap.size → some j ≠ (Value.slice (some ⟨g, 0, none⟩) n capg).ownBlock → (wr.setCell ⟨g, k, none⟩ (.int .u64 (y : Int))).heap[j]? = w.heap[j]?) := fun j h1 h2 => by
        rw [Below.heap_setCell _ _ _ _ (show j ≠ g by intro e; apply h2; rw [e]; rfl)]
        exact HX.out j h1 h2
      have hb2 := hb.setCell (p := ⟨g, k, none⟩) hbg (.int .u64 (y : Int))
      clear hx1 hy hy1 hv hgr
      go_wp2
      go_roundw
      case rel => exact ⟨k + 1, by omega, by go_num, HO2, HR2, hb2, HX2⟩
      case measure => simp [intOf]; omega
    · obtain rfl : k = n := by omega
      have HO2 : Hid (wr.ownsRow base 23 1 (.slice a k cap) k (u64s ys)) := by
        have := HO.out
        rw [← HN.out] at this ⊢
        rwa [mixL_all HYL.out] at this
      obtain ⟨r0, r1, rf⟩ := two_cells HR.out
      have rf0 := rf 0; have rf1 := rf 1
      have N1 := Lib.hid (two_set1 (c := .slice a k cap) (two_set0 (c := .int .u64 (gen : Int)) HR.out))
      obtain ⟨s0, s1, _⟩ := two_cells N1.out
      have HNB := Lib.hid (not_row HR.out (by decide) HO.out)
      clear rf
      go_wp2
      refine bodyPost_ret (v := .agg #[.int .u64 (gen : Int), .slice a k cap]) ?_ rfl ⟨rfl, ?_, (hb.setCell (p := ⟨w.heap.size, 0, none⟩) hb0 _).setCell (p := ⟨w.heap.size, 1, none⟩) hb0 _, ?_⟩
      · simp [results, Tryd.results72, go_sem, s0, s1]
      · exact (HO2.out.kept (grownBy_set _ _ _ _) (.inr HNB.out.symm)).kept (grownBy_set _ _ _ _) (.inr HNB.out.symm)
      · intro j h1 h2
        rw [Below.heap_setCell _ _ _ _ (show j ≠ w.heap.size by omega), Below.heap_setCell _ _ _ _ (show j ≠ w.heap.size by omega)]
        exact HX.out j h1 h2
end Go.Proofs.YtdaijibkafepcaaDoor
