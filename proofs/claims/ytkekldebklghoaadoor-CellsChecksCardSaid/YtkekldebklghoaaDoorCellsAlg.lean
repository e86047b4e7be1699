/-
  THE CELLS LAYER: the algebra of cells and of rows of cells (plain functions).
-/
import Derived.Test.YtkekldebklghoaaDoorCellsLaws
namespace Go.Proofs.YtkekldebklghoaaDoor
open Go.RowKit
set_option linter.unusedVariables false
set_option linter.unusedSimpArgs false

def manyC : Cl := ⟨0, 2, 0⟩
theorem ok_cases {c : Cl} (h : c.ok) : (∃ f, c = ⟨f, 0, 0⟩) ∨ (∃ f v, c = ⟨f, 1, v⟩) ∨ c = manyC := by
  obtain ⟨f, k, v⟩ := c
  obtain ⟨_, h⟩ := h
  simp only at h
  unfold kindOk at h
  split at h
  · rename_i h2; left; simp at h; subst h; subst h2; exact ⟨f, rfl⟩
  · split at h
    · rename_i h2; right; left; subst h2; exact ⟨f, v, rfl⟩
    · split at h
      · rename_i h2; right; right; subst h2; simp at h; obtain ⟨rfl, rfl⟩ := h; rfl
      · cases h
theorem join_comm {a b : Cl} (ha : a.ok) (hb : b.ok) : join a b = join b a := by
  rcases ok_cases ha with ⟨f, rfl⟩ | ⟨f, v, rfl⟩ | rfl <;> rcases ok_cases hb with ⟨f2, rfl⟩ | ⟨f2, v2, rfl⟩ | rfl
  all_goals (try (simp [join, joinK, joinV, manyC, Nat.or_comm]; done))
  by_cases hv : v = v2
  · subst hv; simp [join, joinK, joinV, Nat.or_comm]
  · have hv2 : ¬ v2 = v := fun h => hv h.symm
    simp [join, joinK, joinV, hv, hv2]
theorem join_self {a : Cl} (ha : a.ok) : join a a = a := by
  rcases ok_cases ha with ⟨f, rfl⟩ | ⟨f, v, rfl⟩ | rfl <;> simp [join, joinK, joinV, manyC]
theorem join_many {a : Cl} (ha : a.ok) : join manyC a = manyC := by
  rcases ok_cases ha with ⟨f, rfl⟩ | ⟨f, v, rfl⟩ | rfl <;> simp [join, joinK, joinV, manyC]
theorem join_assoc {a b c : Cl} (ha : a.ok) (hb : b.ok) (hc : c.ok) : join (join a b) c = join a (join b c) := by
  rcases ok_cases ha with ⟨f, rfl⟩ | ⟨f, v, rfl⟩ | rfl <;> rcases ok_cases hb with ⟨f2, rfl⟩ | ⟨f2, v2, rfl⟩ | rfl <;> rcases ok_cases hc with ⟨f3, rfl⟩ | ⟨f3, v3, rfl⟩ | rfl
  all_goals (try (simp [join, joinK, joinV, manyC, Nat.or_assoc]; done))
  all_goals (try (by_cases h1 : v = v2 <;> simp [join, joinK, joinV, manyC, Nat.or_assoc, h1]; done))
  all_goals (try (by_cases h1 : v = v3 <;> simp [join, joinK, joinV, manyC, Nat.or_assoc, h1]; done))
  all_goals (try (by_cases h1 : v2 = v3 <;> simp [join, joinK, joinV, manyC, Nat.or_assoc, h1]; done))
  by_cases h1 : v = v2
  · subst h1
    by_cases h2 : v = v3 <;> simp [join, joinK, joinV, manyC, Nat.or_assoc, h2]
  · by_cases h2 : v2 = v3
    · subst h2; simp [join, joinK, joinV, h1]
    · simp [join, joinK, joinV, h1, h2]
theorem join_mid {x a y b : Cl} (hx : x.ok) (ha : a.ok) (hy : y.ok) (hb : b.ok) : join (join x a) (join y b) = join (join x y) (join a b) := by
  rw [join_assoc hx ha (join_ok hy hb), ← join_assoc ha hy hb, join_comm ha hy, join_assoc hy ha hb, ← join_assoc hx hy (join_ok ha hb)]

def Oks (xs : List Cl) : Prop := ∀ (i : Nat) x, xs[i]? = some x → x.ok
theorem base_ok {c : Cl} (h : c.ok) : (⟨0, c.k, c.v⟩ : Cl).ok := ⟨by simp, kindOk_zero h.2⟩

/-- Of takes both to both. -/
theorem ofTo_join {row : List Cl} (hr : Oks row) {x y : Cl} (hx : x.ok) (hy : y.ok) : ∀ n, ofTo row (join x y) n = join (ofTo row x n) (ofTo row y n)
  | 0 => by
    show (⟨0, (join x y).k, (join x y).v⟩ : Cl) = join ⟨0, x.k, x.v⟩ ⟨0, y.k, y.v⟩
    simp [join]
  | n + 1 => by
    have ih := ofTo_join hr hx hy n
    have ox := ofTo_ok hx hr n
    have oy := ofTo_ok hy hr n
    have ob := ofTo_ok (join_ok hx hy) hr n
    rcases hrow : row[n]? with _ | A
    · simp only [ofTo_succ, ofStep, hrow]
      split <;> split <;> split <;> exact ih
    · have oA := hr n A hrow
      by_cases hm : joinK x.k x.v y.k y.v = 2
      · have hz : join x y = manyC := by
          rcases ok_cases (join_ok hx hy) with ⟨f, e⟩ | ⟨f, v, e⟩ | e
          · have := congrArg Cl.k e; simp [join, hm] at this
          · have := congrArg Cl.k e; simp [join, hm] at this
          · exact e
        have hall : ∀ m, ofTo row (join x y) m = manyC := by
          intro m
          rw [hz, ofTo_skip (Nat.zero_le m) (fun i _ _ => by simp [manyC])]
          rfl
        have e1 : join (ofTo row x n) (ofTo row y n) = manyC := by rw [← ih, hall n]
        rw [hall]
        simp only [ofTo_succ, ofStep, hrow]
        split <;> split
        · rw [join_mid ox oA oy oA, e1, join_many (join_ok oA oA)]
        · rw [join_comm ox oA, join_assoc oA ox oy, e1, join_comm oA (by rw [← e1]; exact join_ok ox oy), join_many oA]
        · rw [← join_assoc ox oy oA, e1, join_many oA]
        · exact e1.symm
      · have hf : (join x y).f = x.f ||| y.f := by simp [join, hm]
        simp only [ofTo_succ, ofStep, hrow, hf, Nat.testBit_or]
        rw [ih]
        cases hbx : x.f.testBit n <;> cases hby : y.f.testBit n <;> simp
        · rw [join_assoc ox oy oA]
        · rw [join_assoc ox oy oA, join_comm oy oA, ← join_assoc ox oA oy]
        · rw [join_mid ox oA oy oA, join_self oA]
theorem ofC_join {row : List Cl} (hr : Oks row) {x y : Cl} (hx : x.ok) (hy : y.ok) : ofC row (join x y) = join (ofC row x) (ofC row y) := ofTo_join hr hx hy _
theorem ofC_ok {row : List Cl} (hr : Oks row) {x : Cl} (hx : x.ok) : (ofC row x).ok := ofTo_ok hx hr _
theorem ofC_base (row : List Cl) (c : Cl) : ofC row ⟨0, c.k, c.v⟩ = ⟨0, c.k, c.v⟩ := by
  unfold ofC
  rw [ofTo_skip (Nat.zero_le _) (fun i _ _ => by simp)]
  rfl
theorem map_ok {xs ys : List Cl} (hx : Oks xs) (hy : Oks ys) : Oks (ys.map (ofC xs)) := by
  intro i x h
  simp at h
  obtain ⟨y, h1, rfl⟩ := h
  exact ofC_ok hx (hy i y h1)
/-- Of one row behind another one. -/
theorem ofTo_then {xs ys : List Cl} (hx : Oks xs) (hy : Oks ys) {c : Cl} (hc : c.ok) : ∀ n, ofTo (ys.map (ofC xs)) c n = ofC xs (ofTo ys c n)
  | 0 => (ofC_base xs c).symm
  | n + 1 => by
    have ih := ofTo_then hx hy hc n
    rcases hrow : ys[n]? with _ | A
    · have h2 : (ys.map (ofC xs))[n]? = none := by simp [hrow]
      simp only [ofTo_succ, ofStep, hrow, h2]
      split <;> exact ih
    · have h2 : (ys.map (ofC xs))[n]? = some (ofC xs A) := by simp [hrow]
      simp only [ofTo_succ, ofStep, hrow, h2]
      split
      · rw [ih, ofC_join hx (ofTo_ok hc hy n) (hy n A hrow)]
      · exact ih
theorem then_assoc {xs ys zs : List Cl} (hx : Oks xs) (hy : Oks ys) (hz : Oks zs) : thenC (thenC xs ys) zs = thenC xs (thenC ys zs) := by
  unfold thenC
  rw [List.map_map]
  apply List.map_congr_left
  intro c hc
  obtain ⟨i, hi, e⟩ := List.mem_iff_getElem.1 hc
  have h := ofTo_then hx hy (hz i c (by rw [← e]; exact List.getElem?_eq_getElem hi)) ys.length
  show ofTo (ys.map (ofC xs)) c (ys.map (ofC xs)).length = ofC xs (ofTo ys c ys.length)
  rw [List.length_map, h]
/-- Of both of two rows. -/
theorem ofTo_both {xs ys : List Cl} (hl : ys.length = xs.length) (hx : Oks xs) (hy : Oks ys) {c : Cl} (hc : c.ok) : ∀ n, ofTo (bothC xs ys) c n = join (ofTo xs c n) (ofTo ys c n)
  | 0 => (join_self (base_ok hc)).symm
  | n + 1 => by
    have ih := ofTo_both hl hx hy hc n
    have o1 := ofTo_ok hc hx n
    have o2 := ofTo_ok hc hy n
    by_cases hn : n < xs.length
    · have e1 : xs[n]? = some xs[n] := List.getElem?_eq_getElem hn
      have e2 : ys[n]? = some (ys[n]'(by omega)) := List.getElem?_eq_getElem (by omega)
      have e3 : (bothC xs ys)[n]? = some (join xs[n] (ys[n]'(by omega))) := by simp [bothC, List.getElem?_zipWith, e1, e2]
      simp only [ofTo_succ, ofStep, e1, e2, e3]
      split
      · rw [ih, join_mid o1 (hx n _ e1) o2 (hy n _ e2)]
      · exact ih
    · have e1 : xs[n]? = none := List.getElem?_eq_none (by omega)
      have e2 : ys[n]? = none := List.getElem?_eq_none (by omega)
      have e3 : (bothC xs ys)[n]? = none := List.getElem?_eq_none (by simp [bothC]; omega)
      simp only [ofTo_succ, ofStep, e1, e2, e3]
      split <;> exact ih
end Go.Proofs.YtkekldebklghoaaDoor
