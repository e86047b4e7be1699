/-
  HOW MANY BITS A NUMBER HAS, as math/bits reckons it: sums of neighbours under masks, byte by byte. (Plain arithmetic: no program.)
-/
import Derived.Lib.TrailingZeros
namespace Go.Proofs.YtdaijibkafepcaaDoor

def pop : Nat → Nat → Nat
  | 0, _ => 0
  | k + 1, x => x % 2 + pop k (x / 2)
theorem pop_filter : ∀ (k x : Nat), ((List.range k).filter x.testBit).length = pop k x
  | 0, _ => rfl
  | k + 1, x => by
    have ih := pop_filter k (x / 2)
    rw [List.range_succ_eq_map, List.filter_cons, List.filter_map, pop, ← ih]
    have e : (x.testBit ∘ Nat.succ) = (x / 2).testBit := by funext i; simp [Nat.testBit_succ]
    rw [e]
    rcases Nat.mod_two_eq_zero_or_one x with h | h
    · simp [Nat.testBit_zero, h]
    · simp [Nat.testBit_zero, h]; omega
theorem pop_add : ∀ (j k a b : Nat), b < 2 ^ j → pop (j + k) (2 ^ j * a + b) = pop j b + pop k a
  | 0, k, a, b, h => by simp at h; subst h; simp [pop]
  | j + 1, k, a, b, h => by
    have e1 : (2 ^ (j + 1) * a + b) / 2 = 2 ^ j * a + b / 2 := by rw [Nat.pow_succ, Nat.mul_comm (2 ^ j) 2, Nat.mul_assoc]; omega
    have e2 : (2 ^ (j + 1) * a + b) % 2 = b % 2 := by rw [Nat.pow_succ, Nat.mul_comm (2 ^ j) 2, Nat.mul_assoc]; omega
    have ih := pop_add j k a (b / 2) (by rw [Nat.pow_succ] at h; omega)
    rw [show j + 1 + k = (j + k) + 1 by omega, pop, pop, e1, e2, ih]; omega

theorem and_lane (a b m c : Nat) (hb : b < 256) (hc : c < 256) : (256 * a + b) &&& (256 * m + c) = 256 * (a &&& m) + (b &&& c) := by
  have h1 : b &&& c < 2 ^ 8 := Nat.lt_of_le_of_lt Nat.and_le_left hb
  apply Nat.eq_of_testBit_eq
  intro i
  have e : (256 : Nat) = 2 ^ 8 := rfl
  rw [Nat.testBit_and, e, Nat.testBit_two_pow_mul_add _ (by simpa using hb), Nat.testBit_two_pow_mul_add _ (by simpa using hc), Nat.testBit_two_pow_mul_add _ h1]
  by_cases h : i < 8
  · simp [h]
  · simp [h]

def lanes (c : Nat) : Nat → Nat
  | 0 => 0
  | m + 1 => 256 * lanes c m + c
def py (m x : Nat) : Nat := (x / 2 &&& lanes 85 m) + (x &&& lanes 85 m)
def pz (m x : Nat) : Nat := (py m x / 4 &&& lanes 51 m) + (py m x &&& lanes 51 m)
def pv (m x : Nat) : Nat := (pz m x / 16 + pz m x) &&& lanes 15 m

theorem y_low : ∀ (p : Fin 2) (b : Fin 256), (128 * p.1 + b.1 / 2) &&& 85 = (b.1 / 2) &&& 85 := by decide +kernel
theorem y_lt : ∀ b : Fin 256, ((b.1 / 2) &&& 85) + (b.1 &&& 85) < 256 := by decide +kernel
theorem z_low : ∀ (p : Fin 4) (b : Fin 256), (64 * p.1 + b.1 / 4) &&& 51 = (b.1 / 4) &&& 51 := by decide +kernel
theorem z_small : ∀ b : Fin 256, ((b.1 / 4) &&& 51) + (b.1 &&& 51) ≤ 102 := by decide +kernel
theorem z_bits : ∀ b : Fin 256, (((((b.1 / 2) &&& 85) + (b.1 &&& 85)) / 4 &&& 51) + ((((b.1 / 2) &&& 85) + (b.1 &&& 85)) &&& 51)) % 16 ≤ 4 ∧ (((((b.1 / 2) &&& 85) + (b.1 &&& 85)) / 4 &&& 51) + ((((b.1 / 2) &&& 85) + (b.1 &&& 85)) &&& 51)) ≤ 68 := by decide +kernel
theorem v_low : ∀ (p : Fin 5) (b : Fin 69), (16 * p.1 + b.1 / 16 + b.1) &&& 15 = (b.1 / 16 + b.1) &&& 15 := by decide +kernel
def y1 (b : Nat) : Nat := ((b / 2) &&& 85) + (b &&& 85)
def z1 (b : Nat) : Nat := (y1 b / 4 &&& 51) + (y1 b &&& 51)
def v1 (b : Nat) : Nat := (z1 b / 16 + z1 b) &&& 15
theorem v1_pop : ∀ b : Fin 256, v1 b.1 = pop 8 b.1 := by decide +kernel
theorem v1_le : ∀ b : Fin 256, v1 b.1 ≤ 8 := by decide +kernel

theorem py_step (m a b : Nat) (hb : b < 256) : py (m + 1) (256 * a + b) = 256 * py m a + y1 b := by
  unfold py y1
  rw [show lanes 85 (m + 1) = 256 * lanes 85 m + 85 from rfl, show (256 * a + b) / 2 = 256 * (a / 2) + (128 * (a % 2) + b / 2) by omega,
    and_lane _ _ _ _ (by omega) (by omega), and_lane _ _ _ _ hb (by omega)]
  have := y_low ⟨a % 2, by omega⟩ ⟨b, hb⟩
  simp only at this
  rw [this]; omega
theorem pz_step (m a b : Nat) (hb : b < 256) : pz (m + 1) (256 * a + b) = 256 * pz m a + z1 b := by
  unfold pz z1
  rw [py_step m a b hb]
  have hy : y1 b < 256 := y_lt ⟨b, hb⟩
  generalize y1 b = c at hy
  generalize py m a = d
  rw [show lanes 51 (m + 1) = 256 * lanes 51 m + 51 from rfl, show (256 * d + c) / 4 = 256 * (d / 4) + (64 * (d % 4) + c / 4) by omega,
    and_lane _ _ _ _ (by omega) (by omega), and_lane _ _ _ _ hy (by omega)]
  have := z_low ⟨d % 4, by omega⟩ ⟨c, hy⟩
  simp only at this
  rw [this]; omega
theorem z1_bits (b : Nat) (hb : b < 256) : z1 b % 16 ≤ 4 ∧ z1 b ≤ 68 := z_bits ⟨b, hb⟩
theorem pz_low : ∀ (m a : Nat), pz m a % 16 ≤ 4
  | 0, a => by simp [pz, lanes]
  | m + 1, a => by
    have h := pz_step m (a / 256) (a % 256) (by omega)
    rw [show 256 * (a / 256) + a % 256 = a by omega] at h
    rw [h]
    have := (z1_bits (a % 256) (by omega)).1
    omega
theorem pv_step (m a b : Nat) (hb : b < 256) : pv (m + 1) (256 * a + b) = 256 * pv m a + v1 b := by
  unfold pv v1
  rw [pz_step m a b hb]
  have hl := pz_low m a
  obtain ⟨_, hz⟩ := z1_bits b hb
  generalize z1 b = c at hz
  generalize pz m a = d at hl
  rw [show lanes 15 (m + 1) = 256 * lanes 15 m + 15 from rfl, show (256 * d + c) / 16 + (256 * d + c) = 256 * (d / 16 + d) + (16 * (d % 16) + c / 16 + c) by omega,
    and_lane _ _ _ _ (by omega) (by omega)]
  have := v_low ⟨d % 16, by omega⟩ ⟨c, by omega⟩
  simp only at this
  rw [this]
theorem pv_next (m x : Nat) : pv (m + 1) x = 256 * pv m (x / 256) + v1 (x % 256) := by
  have h := pv_step m (x / 256) (x % 256) (by omega)
  rwa [show 256 * (x / 256) + x % 256 = x by omega] at h
theorem pop_next (k x : Nat) : pop (8 + k) x = v1 (x % 256) + pop k (x / 256) := by
  have h := pop_add 8 k (x / 256) (x % 256) (by omega)
  rw [show 2 ^ 8 * (x / 256) + x % 256 = x by omega] at h
  rw [h, ← v1_pop ⟨x % 256, by omega⟩]

def by8 (a b c d e f g h : Nat) : Nat := 256 * (256 * (256 * (256 * (256 * (256 * (256 * (256 * 0 + h) + g) + f) + e) + d) + c) + b) + a
theorem by8_add (a b c d e f g h a' b' c' d' e' f' g' h' : Nat) : by8 a b c d e f g h + by8 a' b' c' d' e' f' g' h' = by8 (a + a') (b + b') (c + c') (d + d') (e + e') (f + f') (g + g') (h + h') := by unfold by8; omega
theorem by8_lt (a b c d e f g h : Nat) (ha : a < 256) (hb : b < 256) (hc : c < 256) (hd : d < 256) (he : e < 256) (hf : f < 256) (hg : g < 256) (hh : h < 256) : by8 a b c d e f g h % 18446744073709551616 = by8 a b c d e f g h := by unfold by8; omega
theorem by8_1 (a b c d e f g h : Nat) (ha : a < 256) : by8 a b c d e f g h / 256 = by8 b c d e f g h 0 := by unfold by8; omega
theorem by8_2 (a b c d e f g h : Nat) (ha : a < 256) (hb : b < 256) : by8 a b c d e f g h / 65536 = by8 c d e f g h 0 0 := by
  rw [show (65536 : Nat) = 256 * 256 from rfl, ← Nat.div_div_eq_div_mul, by8_1 _ _ _ _ _ _ _ _ ha, by8_1 _ _ _ _ _ _ _ _ hb]
theorem by8_4 (a b c d e f g h : Nat) (ha : a < 256) (hb : b < 256) (hc : c < 256) (hd : d < 256) : by8 a b c d e f g h / 4294967296 = by8 e f g h 0 0 0 0 := by
  rw [show (4294967296 : Nat) = 65536 * 65536 from rfl, ← Nat.div_div_eq_div_mul, by8_2 _ _ _ _ _ _ _ _ ha hb, by8_2 _ _ _ _ _ _ _ _ hc hd]
def low7 (v : Nat) : Nat :=
  let a := (v + v / 256) % 18446744073709551616
  let b := (a + a / 65536) % 18446744073709551616
  let c := (b + b / 4294967296) % 18446744073709551616
  c % 128
theorem sum_bytes (a b c d e f g h : Nat) (ha : a ≤ 8) (hb : b ≤ 8) (hc : c ≤ 8) (hd : d ≤ 8) (he : e ≤ 8) (hf : f ≤ 8) (hg : g ≤ 8) (hh : h ≤ 8) : low7 (by8 a b c d e f g h) = a + b + c + d + e + f + g + h := by
  unfold low7
  simp only
  rw [by8_1 _ _ _ _ _ _ _ _ (by omega), by8_add, by8_lt _ _ _ _ _ _ _ _ (by omega) (by omega) (by omega) (by omega) (by omega) (by omega) (by omega) (by omega)]
  rw [by8_2 _ _ _ _ _ _ _ _ (by omega) (by omega), by8_add, by8_lt _ _ _ _ _ _ _ _ (by omega) (by omega) (by omega) (by omega) (by omega) (by omega) (by omega) (by omega)]
  rw [by8_4 _ _ _ _ _ _ _ _ (by omega) (by omega) (by omega) (by omega), by8_add, by8_lt _ _ _ _ _ _ _ _ (by omega) (by omega) (by omega) (by omega) (by omega) (by omega) (by omega) (by omega)]
  unfold by8
  omega

/-- What math/bits makes of x. -/
def ones (x : Nat) : Nat := low7 (pv 8 x)
theorem ones_pop (x : Nat) : ones x = pop 64 x := by
  unfold ones
  have hv := pv_next
  have hp : pop 64 x = _ := pop_next 56 x
  rw [hp, show (56 : Nat) = 8 + 48 from rfl, pop_next, show (48 : Nat) = 8 + 40 from rfl, pop_next, show (40 : Nat) = 8 + 32 from rfl, pop_next, show (32 : Nat) = 8 + 24 from rfl, pop_next, show (24 : Nat) = 8 + 16 from rfl, pop_next, show (16 : Nat) = 8 + 8 from rfl, pop_next, show (8 : Nat) = 8 + 0 from rfl, pop_next]
  simp only [pv_next, show pop 0 _ = 0 from rfl]
  have z : ∀ y, pv 0 y = 0 := fun y => by simp [pv, lanes]
  rw [z]
  have l : ∀ y, v1 (y % 256) ≤ 8 := fun y => v1_le ⟨y % 256, by omega⟩
  have l0 := l x
  have l1 := l (x / 256)
  have l2 := l (x / 256 / 256)
  have l3 := l (x / 256 / 256 / 256)
  have l4 := l (x / 256 / 256 / 256 / 256)
  have l5 := l (x / 256 / 256 / 256 / 256 / 256)
  have l6 := l (x / 256 / 256 / 256 / 256 / 256 / 256)
  have l7 := l (x / 256 / 256 / 256 / 256 / 256 / 256 / 256)
  generalize v1 (x % 256) = q0 at *
  generalize v1 (x / 256 % 256) = q1 at *
  generalize v1 (x / 256 / 256 % 256) = q2 at *
  generalize v1 (x / 256 / 256 / 256 % 256) = q3 at *
  generalize v1 (x / 256 / 256 / 256 / 256 % 256) = q4 at *
  generalize v1 (x / 256 / 256 / 256 / 256 / 256 % 256) = q5 at *
  generalize v1 (x / 256 / 256 / 256 / 256 / 256 / 256 % 256) = q6 at *
  generalize v1 (x / 256 / 256 / 256 / 256 / 256 / 256 / 256 % 256) = q7 at *
  clear hv hp z l
  exact (sum_bytes q0 q1 q2 q3 q4 q5 q6 q7 l0 l1 l2 l3 l4 l5 l6 l7).trans (by omega)
end Go.Proofs.YtdaijibkafepcaaDoor
