/-
  THE CELLS LAYER: how long a row upwards is at most (plain functions).
-/
import Derived.Test.YtkekldebklghoaaDoorCellsHelp
namespace Go.Proofs.YtkekldebklghoaaDoor
open Go.RowKit
set_option linter.unusedVariables false
set_option linter.unusedSimpArgs false

/-- How many bits below n are set. -/
def pc : Nat → Nat → Nat
  | 0, _ => 0
  | n + 1, f => pc n f + (if f.testBit n then 1 else 0)
theorem pc_le : ∀ n f, pc n f ≤ n
  | 0, _ => Nat.le_refl _
  | n + 1, f => by
    have := pc_le n f
    unfold pc
    split <;> omega
theorem pc_mono : ∀ {n a b : Nat}, (∀ i, i < n → a.testBit i = true → b.testBit i = true) → pc n a ≤ pc n b
  | 0, _, _, _ => Nat.le_refl _
  | n + 1, a, b, h => by
    have ih := pc_mono (n := n) (a := a) (b := b) (fun i hi => h i (by omega))
    unfold pc
    cases ha : a.testBit n
    · simp; omega
    · rw [h n (by omega) ha]; simp; omega
theorem pc_lt : ∀ {n a b : Nat}, (∀ i, i < n → a.testBit i = true → b.testBit i = true) → (∃ i, i < n ∧ a.testBit i = false ∧ b.testBit i = true) → pc n a < pc n b
  | 0, _, _, _, h => by obtain ⟨i, hi, _⟩ := h; omega
  | n + 1, a, b, h, hx => by
    obtain ⟨i, hi, ha, hb⟩ := hx
    rcases Nat.lt_or_ge i n with h1 | h1
    · have ih := pc_lt (n := n) (a := a) (b := b) (fun i hi => h i (by omega)) ⟨i, h1, ha, hb⟩
      unfold pc
      cases ha2 : a.testBit n
      · simp; omega
      · rw [h n (by omega) ha2]; simp; omega
    · obtain rfl : i = n := by omega
      have ih := pc_mono (n := i) (a := a) (b := b) (fun j hj => h j (by omega))
      unfold pc
      rw [ha, hb]; simp; omega
def rank (n : Nat) (c : Cl) : Nat := if c.k = 2 then n + 2 else pc n c.f + (if c.k = 1 then 1 else 0)
def rankR (n : Nat) : List Cl → Nat
  | [] => 0
  | c :: r => rank n c + rankR n r
theorem rank_le (n : Nat) (c : Cl) : rank n c ≤ n + 2 := by
  have := pc_le n c.f
  unfold rank
  split
  · exact Nat.le_refl _
  · split <;> omega
theorem rankR_le (n : Nat) : ∀ xs : List Cl, rankR n xs ≤ xs.length * (n + 2)
  | [] => by simp [rankR]
  | c :: r => by
    have h1 := rankR_le n r
    have h2 := rank_le n c
    simp [rankR, Nat.add_mul]; omega
theorem rank_up {n : Nat} {a b : Cl} (hn : n ≤ 64) (ha : okAt n a = true) (hb : okAt n b = true) (h : join a b = b) : a = b ∨ rank n a < rank n b := by
  obtain ⟨fa, ka⟩ := okAt_iff.1 ha
  obtain ⟨fb, kb⟩ := okAt_iff.1 hb
  have oa : a.ok := ⟨pow_le64 hn fa, ka⟩
  have ob : b.ok := ⟨pow_le64 hn fb, kb⟩
  have fbit : ∀ {f g : Nat}, f < 2 ^ n → g < 2 ^ n → f ||| g = g → f = g ∨ pc n f < pc n g := by
    intro f g hf hg hor
    by_cases e : f = g
    · exact .inl e
    · right
      have hsub : ∀ i, f.testBit i = true → g.testBit i = true := fun i hi => by rw [← hor, Nat.testBit_or, hi]; rfl
      refine pc_lt (fun i _ => hsub i) ?_
      apply Classical.byContradiction
      intro hno
      apply e
      apply Nat.eq_of_testBit_eq
      intro i
      cases h1 : f.testBit i
      · cases h2 : g.testBit i
        · rfl
        · exfalso
          apply hno
          refine ⟨i, ?_, h1, h2⟩
          rcases Nat.lt_or_ge i n with h3 | h3
          · exact h3
          · rw [Nat.testBit_lt_two_pow (Nat.lt_of_lt_of_le hg (Nat.pow_le_pow_right (by decide) h3))] at h2
            cases h2
      · exact (hsub i h1).symm
  have hp := pc_le n a.f
  rcases ok_cases oa with ⟨f, rfl⟩ | ⟨f, v, rfl⟩ | rfl <;> rcases ok_cases ob with ⟨f2, rfl⟩ | ⟨f2, v2, rfl⟩ | rfl
  · simp [join, joinK, joinV] at h
    rcases fbit fa fb h with rfl | h2
    · exact .inl rfl
    · right; simpa [rank] using h2
  · simp [join, joinK, joinV] at h
    rcases fbit fa fb h with rfl | h2
    · right; simp [rank]
    · right; simp [rank]; simp at h2; omega
  · right; simp [rank, manyC]; simp at hp; omega
  · simp [join, joinK, joinV] at h
  · simp only [join, joinK, joinV, Cl.mk.injEq] at h
    by_cases hv : v = v2
    · subst hv
      simp at h
      rcases fbit fa fb h with rfl | h2
      · exact .inl rfl
      · right; simpa [rank] using h2
    · simp [hv] at h
  · right; simp [rank, manyC]; simp at hp; omega
  · simp [join, joinK, joinV, manyC] at h
  · simp [join, joinK, joinV, manyC] at h
  · exact .inl rfl
theorem rankR_up {n : Nat} (hn : n ≤ 64) : ∀ {xs ys : List Cl}, xs.length = ys.length → (∀ c ∈ xs, okAt n c = true) → (∀ c ∈ ys, okAt n c = true) → bothC xs ys = ys → xs = ys ∨ rankR n xs < rankR n ys
  | [], [], _, _, _, _ => .inl rfl
  | [], _ :: _, h, _, _, _ => by simp at h
  | _ :: _, [], h, _, _, _ => by simp at h
  | a :: r, b :: t, h, hx, hy, hb => by
    simp only [bothC, List.zipWith_cons_cons, List.cons.injEq] at hb
    have ih := rankR_up hn (xs := r) (ys := t) (by simpa using h) (fun c hc => hx c (List.mem_cons_of_mem _ hc)) (fun c hc => hy c (List.mem_cons_of_mem _ hc)) hb.2
    have h1 := rank_up hn (hx a List.mem_cons_self) (hy b List.mem_cons_self) hb.1
    rcases h1 with rfl | h1 <;> rcases ih with rfl | ih
    · exact .inl rfl
    · right; simp [rankR]; exact ih
    · right; simp [rankR]; exact h1
    · right; simp [rankR]; omega
theorem Val.all {n : Nat} {xs : List Cl} (h : Val n xs) : ∀ c ∈ xs, okAt n c = true := fun c hc => by
  obtain ⟨i, hi, e⟩ := List.mem_iff_getElem.1 hc
  exact h.ok i c (by rw [← e]; exact List.getElem?_eq_getElem hi)
theorem rank_step {n : Nat} {xs ys : List Cl} (hx : Val n xs) (hy : Val n ys) (h : belowR n xs ys = true) (hne : sameC ys xs = false) : rankR n xs < rankR n ys := by
  unfold belowR at h
  rw [if_pos (hx.chk2 hy), sameC_iff] at h
  rcases rankR_up hx.le (by rw [hx.len, hy.len]) hx.all hy.all h with e | h2
  · subst e; rw [same_refl] at hne; cases hne
  · exact h2
theorem rank_max {n : Nat} {xs : List Cl} (hx : Val n xs) : rankR n xs ≤ n * (n + 2) := by
  have := rankR_le n xs
  rw [hx.len] at this; exact this
end Go.Proofs.YtkekldebklghoaaDoor
