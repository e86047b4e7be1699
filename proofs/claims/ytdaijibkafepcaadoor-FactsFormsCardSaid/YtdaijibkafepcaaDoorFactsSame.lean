/-
  THE FACTS LAYER: Same of both, slices.Equal, slices.Clone.
-/
import Derived.Test.YtdaijibkafepcaaDoorFactsCanon
namespace Go.Proofs.YtdaijibkafepcaaDoor
open Go.RowKit
set_option linter.unusedVariables false

def URow (w : World) (a : Option Addr) (xs : List Nat) : Prop := VRow w a (u64s xs)
theorem URow.at_ {w : World} {a : Option Addr} {xs : List Nat} (h : URow w a xs) {i : Nat} (hi : i < xs.length) :
    ∃ b off r, a = some ⟨b, off, none⟩ ∧ xs[i]? = some r ∧ b < w.heap.size ∧ w.cell? ⟨b, off + i, none⟩ = some (.int .u64 (r : Int)) := by
  obtain ⟨b, off, v, ha, hv, hb, hc⟩ := VRow.at_ h (i := i) (by rw [u64s_length]; exact hi)
  obtain ⟨r, hr, rfl⟩ := u64s_at hv
  exact ⟨b, off, r, ha, hr, hb, hc⟩
theorem list_eq_of {xs ys : List Nat} (hl : xs.length = ys.length) (h : ∀ (i x y : Nat), xs[i]? = some x → ys[i]? = some y → x = y) : xs = ys := by
  apply List.ext_getElem hl
  intro i h1 h2
  exact h i _ _ (List.getElem?_eq_getElem h1) (List.getElem?_eq_getElem h2)
set_option maxRecDepth 100000 in
set_option maxHeartbeats 1000000 in
theorem equal_is (a b : Option Addr) (capa capb : Nat) (xs ys : List Nat) (w : World) (hx : xs.length ≤ 100) (hy : ys.length ≤ 100) (hra : URow w a xs) (hrb : URow w b ys) (r : Bool) (hr : (xs == ys) = r) (n m : Nat) (hn : xs.length = n) (hm : ys.length = m) :
    Calls Tryd.prog 78 #[.slice a n capa, .slice b m capb] w fun e w' => e = .returned (.bool r) ∧ Below w.heap.size w w' := by
  have HA := Lib.hid hra; have HB := Lib.hid hrb; have HR := Lib.hid hr; have HN := Lib.hid hn; have HM := Lib.hid hm
  rw [hn] at hx; rw [hm] at hy
  clear hra hrb hr hn hm
  by_cases hnm : n = m
  · subst hnm
    go_enter Tryd.func78, Tryd.ntmps78
    go_wp2_with fail
    go_loopw [13] (fun i wr => ∃ k : Nat, k ≤ n ∧ i = .int .i64 k ∧ Hid (∀ i x y, i < k → xs[i]? = some x → ys[i]? = some y → x = y) ∧ Below w.heap.size w wr) (fun i _ => n - (intOf i).toNat)
    case atStart => exact ⟨0, Nat.zero_le _, rfl, fun i x y h => by omega, Below.refl _ _⟩
    case round =>
      obtain ⟨k, hk, rfl, HK, hb⟩ := hrel
      by_cases hlt : k < n
      · obtain ⟨ba, offa, x, rfl, hx1, hba, a0⟩ := URow.at_ (VRow.below HA.out hb) (i := k) (by rw [HN.out]; exact hlt)
        obtain ⟨bb, offb, y, rfl, hy1, hbb, b0⟩ := URow.at_ (VRow.below HB.out hb) (i := k) (by rw [HM.out]; exact hlt)
        have g0 : (0 : Int) ≤ (k : Int) := by omega
        have g1 : (k : Int) < (n : Int) := by omega
        by_cases hxy : x = y
        · subst hxy
          have HNX : Hid (∀ i x y, i < k + 1 → xs[i]? = some x → ys[i]? = some y → x = y) := fun i u v hi hu hv => by
            by_cases e : i = k
            · subst e; rw [hx1] at hu; rw [hy1] at hv; cases hu; cases hv; rfl
            · exact HK.out i u v (by omega) hu hv
          clear hx1 hy1
          go_wp2_with fail
          go_quiet (fail)
          go_wp2
          go_roundw
          case rel => exact ⟨k + 1, by omega, by go_num, HNX, below_drewN hb _⟩
          case measure => simp [intOf]; omega
        · have hne : ((x : Int) != (y : Int)) = true := by simp; omega
          have HX : Hid (false = r) := by
            show _ = _
            rw [← HR.out]
            symm
            rw [beq_eq_false_iff_ne]
            rintro rfl
            rw [hx1] at hy1; cases hy1; exact hxy rfl
          clear hx1 hy1 hxy
          go_wp2_with fail
          go_quiet (fail)
          go_wp2
          go_ret
          exact ⟨rbool HX.out, below_drewN hb _⟩
      · have HX : Hid (true = r) := by
          show _ = _
          rw [← HR.out]
          symm
          rw [beq_iff_eq]
          refine list_eq_of (by rw [HN.out, HM.out]) fun i x y hi hj => ?_
          have := (List.getElem?_eq_some_iff.1 hi).1
          rw [HN.out] at this
          exact HK.out i x y (by omega) hi hj
        go_wp2
        go_ret
        exact ⟨rbool HX.out, hb⟩
  · have HX : Hid (false = r) := by
      show _ = _
      rw [← HR.out]
      symm
      rw [beq_eq_false_iff_ne]
      rintro rfl
      exact hnm (HN.out.symm.trans HM.out)
    have hne : ((n : Int) != (m : Int)) = true := by simp; omega
    clear hnm
    go_enter Tryd.func78, Tryd.ntmps78
    go_wp2
    go_ret
    exact ⟨rbool HX.out, Below.refl _ _⟩
def sameB (ga : Nat) (xs : List Nat) (gb : Nat) (ys : List Nat) : Bool := ga == gb && xs == ys
theorem two_boxes (w : World) (a b : Array Value) (T : TypeId) : ((w.alloc (.cells a T)).alloc (.cells b T)).heap[w.heap.size]? = some (.cells a T (0, 0)) ∧ ((w.alloc (.cells a T)).alloc (.cells b T)).heap[w.heap.size + 1]? = some (.cells b T (0, 0)) := by
  refine ⟨heap_allocd (heapV_new _ _) _, ?_⟩
  have := heapV_new (w.alloc (.cells a T)) (.cells b T)
  rwa [World.size_alloc] at this
set_option maxRecDepth 100000 in
set_option maxHeartbeats 1000000 in
theorem sameA_is (a b : Option Addr) (capa capb ga gb : Nat) (xs ys : List Nat) (w : World) (hx : xs.length ≤ 100) (hy : ys.length ≤ 100) (hra : URow w a xs) (hrb : URow w b ys) (r : Bool) (hr : sameB ga xs gb ys = r) (n m : Nat) (hn : xs.length = n) (hm : ys.length = m) :
    Calls Tryd.prog 46 #[fval ga a n capa, fval gb b m capb] w fun e w' => e = .returned (.bool r) ∧ Below w.heap.size w w' := by
  unfold fval
  have hB0 : Below w.heap.size w ((w.alloc (.cells #[.int .u64 (ga : Int), .slice a n capa] 55)).alloc (.cells #[.int .u64 (gb : Int), .slice b m capb] 55)) := ((Below.refl _ _).alloc (Nat.le_refl _) _).alloc (by simp) _
  have HA := Lib.hid (VRow.below hra hB0); have HB := Lib.hid (VRow.below hrb hB0); have HN := Lib.hid hn; have HM := Lib.hid hm
  have HX := Lib.hid hx; have HY := Lib.hid hy
  by_cases hg : ga = gb
  · subst hg
    have HR : Hid ((xs == ys) = r) := by show _ = _; rw [← hr, sameB]; simp
    clear hra hrb hr hn hm hx hy
    go_enter Tryd.func46, Tryd.ntmps46
    go_wp2_with fail
    refine (equal_is a b capa capb xs ys _ HX.out HY.out HA.out HB.out r HR.out n m HN.out HM.out).mono ?_
    rintro e w1 ⟨rfl, hb1⟩
    go_wp2
    go_ret
    exact ⟨by simp, hB0.trans (hb1.mono hB0.size)⟩
  · have HR : Hid (false = r) := by show _ = _; rw [← hr, sameB, beq_eq_false_iff_ne.2 hg]; rfl
    have hne : ((ga : Int) == (gb : Int)) = false := by simp; omega
    clear hra hrb hr hn hm hx hy hg
    go_enter Tryd.func46, Tryd.ntmps46
    go_wp2
    go_ret
    exact ⟨rbool HR.out, hB0⟩
set_option maxRecDepth 100000 in
set_option maxHeartbeats 1000000 in
theorem sameR_is (a b : Option Addr) (capa capb ga gb : Nat) (xs ys : List Nat) (w : World) (hx : xs.length ≤ 100) (hy : ys.length ≤ 100) (hra : URow w a xs) (hrb : URow w b ys) (r : Bool) (hr : sameB ga xs gb ys = r) (n m : Nat) (hn : xs.length = n) (hm : ys.length = m) :
    Calls Tryd.prog 45 #[fval ga a n capa, fval gb b m capb] w fun e w' => e = .returned (.bool r) ∧ Below w.heap.size w w' := by
  unfold fval
  have hB0 : Below w.heap.size w ((w.alloc (.cells #[.int .u64 (ga : Int), .slice a n capa] 55)).alloc (.cells #[.int .u64 (gb : Int), .slice b m capb] 55)) := ((Below.refl _ _).alloc (Nat.le_refl _) _).alloc (by simp) _
  have HA := Lib.hid hra; have HB := Lib.hid hrb; have HN := Lib.hid hn; have HM := Lib.hid hm
  obtain ⟨t0, t1⟩ := two_boxes w #[.int .u64 (ga : Int), .slice a n capa] #[.int .u64 (gb : Int), .slice b m capb] 55
  have T0 := Lib.hid t0; have T1 := Lib.hid t1
  rw [hn] at hx; rw [hm] at hy
  by_cases hg : ga = gb
  · subst hg
    have HR : Hid ((xs == ys) = r) := by show _ = _; rw [← hr, sameB]; simp
    clear hra hrb hr hn hm t0 t1
    by_cases hnm : n = m
    · subst hnm
      go_enter Tryd.func45, Tryd.ntmps45
      go_wp2_with fail
      go_loopw [5] (fun i wr => ∃ k : Nat, k ≤ n ∧ i = .int .i64 k ∧ Hid (∀ i x y, i < k → xs[i]? = some x → ys[i]? = some y → x = y) ∧ Hid (wr.heap[w.heap.size]? = some (.cells #[.int .u64 (ga : Int), .slice a n capa] 55 (0, 0))) ∧ Hid (wr.heap[w.heap.size + 1]? = some (.cells #[.int .u64 (ga : Int), .slice b n capb] 55 (0, 0))) ∧ Below w.heap.size w wr) (fun i _ => n - (intOf i).toNat)
      case atStart => exact ⟨0, Nat.zero_le _, rfl, fun i x y h => by omega, T0, T1, hB0⟩
      case round =>
        obtain ⟨k, hk, rfl, HK, B0, B1, hb⟩ := hrel
        obtain ⟨c0, c1, _⟩ := two_cells B0.out
        obtain ⟨d0, d1, _⟩ := two_cells B1.out
        by_cases hlt : k < n
        · obtain ⟨ba, offa, x, rfl, hx1, hba, a0⟩ := URow.at_ (VRow.below HA.out hb) (i := k) (by rw [HN.out]; exact hlt)
          obtain ⟨bb, offb, y, rfl, hy1, hbb, b0⟩ := URow.at_ (VRow.below HB.out hb) (i := k) (by rw [HM.out]; exact hlt)
          have g0 : (0 : Int) ≤ (k : Int) := by omega
          have g1 : (k : Int) < (n : Int) := by omega
          by_cases hxy : x = y
          · subst hxy
            have HNX : Hid (∀ i x y, i < k + 1 → xs[i]? = some x → ys[i]? = some y → x = y) := fun i u v hi hu hv => by
              by_cases e : i = k
              · subst e; rw [hx1] at hu; rw [hy1] at hv; cases hu; cases hv; rfl
              · exact HK.out i u v (by omega) hu hv
            clear hx1 hy1
            go_wp2_with fail
            go_quiet (fail)
            go_wp2
            go_roundw
            case rel => exact ⟨k + 1, by omega, by go_num, HNX, B0, B1, below_drewN hb _⟩
            case measure => simp [intOf]; omega
          · have hne : ((x : Int) != (y : Int)) = true := by simp; omega
            have HX : Hid (false = r) := by
              show _ = _
              rw [← HR.out]
              symm
              rw [beq_eq_false_iff_ne]
              rintro rfl
              rw [hx1] at hy1; cases hy1; exact hxy rfl
            clear hx1 hy1 hxy
            go_wp2_with fail
            go_quiet (fail)
            go_wp2
            go_ret
            exact ⟨rbool HX.out, below_drewN hb _⟩
        · have HX : Hid (true = r) := by
            show _ = _
            rw [← HR.out]
            symm
            rw [beq_iff_eq]
            refine list_eq_of (by rw [HN.out, HM.out]) fun i x y hi hj => ?_
            have := (List.getElem?_eq_some_iff.1 hi).1
            rw [HN.out] at this
            exact HK.out i x y (by omega) hi hj
          go_wp2
          go_ret
          exact ⟨rbool HX.out, hb⟩
    · have HX : Hid (false = r) := by
        show _ = _
        rw [← HR.out]
        symm
        rw [beq_eq_false_iff_ne]
        rintro rfl
        exact hnm (HN.out.symm.trans HM.out)
      have hne : ((n : Int) != (m : Int)) = true := by simp; omega
      clear hnm
      go_enter Tryd.func45, Tryd.ntmps45
      go_wp2
      go_ret
      exact ⟨rbool HX.out, hB0⟩
  · have HR : Hid (false = r) := by show _ = _; rw [← hr, sameB, beq_eq_false_iff_ne.2 hg]; rfl
    have hne : ((ga : Int) != (gb : Int)) = true := by simp; omega
    clear hra hrb hr hn hm hg t0 t1
    go_enter Tryd.func45, Tryd.ntmps45
    go_wp2
    go_ret
    exact ⟨rbool HR.out, hB0⟩
end Go.Proofs.YtdaijibkafepcaaDoor
