/-
  THE COST LAYER: AtMost, Height and the reference's; two; and the statements CostLeasts, CostChecks, CostSemiring, CostOrder as walks.
-/
import Derived.Test.YtccmgbbpihaapabDoorCostSmall
namespace Go.Proofs.YtccmgbbpihaapabDoor
open Go.RowKit
set_option linter.unusedVariables false

theorem rbi {b d : Bool} {k : IntKind} {a c : Int} (h : b = d) (h2 : a = c) : Ending.returned (.tuple #[.bool b, .int k a]) = .returned (.tuple #[.bool d, .int k c]) := by rw [h, h2]

theorem ckA (limit a b : Int) (n : Nat) (W : World) (T : Nat) (h : n = W.heap.size) (c : Int) (hc : chk limit [a, b] = c) :
    Calls Tryd.prog 9 #[.int .i64 limit, .slice (some ⟨n, 0, none⟩) 2 2] (W.alloc (.cells #[.int .i64 a, .int .i64 b] T)) fun e w' => e = .returned (.int .i64 c) ∧ (W.alloc (.cells #[.int .i64 a, .int .i64 b] T)) = w' := by
  subst hc
  exact checkAll_any limit _ 2 [a, b] _ (by simp [maxLen]) (row_two _ _ _ _ _ h)
theorem chk_nil_zero {limit : Int} (h : chk limit [] = 0) : 0 ≤ limit ∧ limit ≤ 1048576 := ⟨(chk_zero h).1, (chk_zero h).2.1⟩

def IsNums (w : World) (a : Option Addr) (len cap : Nat) (zs : List Int) : Prop := len ≤ cap ∧ cap ≤ maxLen ∧ zs.length = len ∧ Row w a zs
theorem isNums_nil (w : World) : ∃ zs, IsNums w none 0 0 zs := ⟨[], Nat.le_refl _, by simp [maxLen], rfl, .inl rfl⟩
theorem isNums_of {w : World} {x : Addr} {len cap : Nat} {zs : List Int} (hl : len ≤ cap) (hm : cap ≤ maxLen) (hz : zs.length = cap) (hc : ∀ i, i < zs.length → w.cell? (x.add i) = some (.int .i64 (zs.getD i 0))) : ∃ ys, IsNums w (some x) len cap ys := by
  refine ⟨zs.take len, hl, hm, by rw [List.length_take]; omega, ?_⟩
  by_cases h0 : len = 0
  · exact .inl (by simp [h0])
  · obtain ⟨b, off, spot⟩ := x
    have hspot : spot = none := by simpa [Addr.add] using World.cell?_spot (hc 0 (by omega))
    subst hspot
    refine .inr ⟨b, off, rfl, fun i hi => ?_⟩
    simp only [List.length_take] at hi
    have := hc i (by omega)
    have e : (zs.take len).getD i 0 = zs.getD i 0 := by simp [List.getD, show i < len by omega]
    rw [e, ← this]; simp only [Addr.add]; split <;> simp_all
theorem Row.take {w : World} {a : Option Addr} {zs : List Int} (h : Row w a zs) (n : Nat) : Row w a (zs.take n) := by
  rcases h with h | ⟨b, off, rfl, hc⟩
  · exact .inl (by simp [h])
  · refine .inr ⟨b, off, rfl, fun i hi => ?_⟩
    simp only [List.length_take] at hi
    have := hc i (by omega)
    rw [this]
    simp [List.getD, show i < n by omega]

end Go.Proofs.YtccmgbbpihaapabDoor
