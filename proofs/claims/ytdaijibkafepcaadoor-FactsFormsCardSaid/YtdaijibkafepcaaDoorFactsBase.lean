/-
  THE FACTS LAYER: rows of sets in memory; dim, Inside, or, shaped, shape.
-/
import Derived.Test.YtdaijibkafepcaaDoorBitsTextR
namespace Go.Proofs.YtdaijibkafepcaaDoor
open Go.RowKit
set_option linter.unusedVariables false

def u64s (l : List Nat) : List Value := l.map fun r : Nat => Value.int .u64 (r : Int)
theorem u64s_length (l : List Nat) : (u64s l).length = l.length := by simp [u64s]
theorem u64s_snoc (l : List Nat) (x : Nat) : u64s (l ++ [x]) = u64s l ++ [Value.int .u64 (x : Int)] := by simp [u64s]
theorem u64s_at {l : List Nat} {i : Nat} {v : Value} (h : (u64s l)[i]? = some v) : ∃ r, l[i]? = some r ∧ v = .int .u64 (r : Int) := by
  unfold u64s at h
  rw [List.getElem?_map] at h
  cases hr : l[i]? with
  | none => rw [hr] at h; cases h
  | some r => rw [hr] at h; exact ⟨r, rfl, (Option.some.inj h).symm⟩
/-- A transformer's rows lie in memory. -/
structure FAt (w : World) (a : Option Addr) (gen : Nat) (rows : List Nat) : Prop where
  row : VRow w a (u64s rows)
  gen : gen < 18446744073709551616
  all : ∀ r ∈ rows, r < 18446744073709551616
  len : rows.length ≤ 100
theorem FAt.below {w w' : World} {a : Option Addr} {gen : Nat} {rows : List Nat} (h : FAt w a gen rows) (hb : Below w.heap.size w w') : FAt w' a gen rows := ⟨h.row.below hb, h.gen, h.all, h.len⟩
theorem FAt.at_ {w : World} {a : Option Addr} {gen : Nat} {rows : List Nat} (h : FAt w a gen rows) {i : Nat} (hi : i < rows.length) :
    ∃ b off r, a = some ⟨b, off, none⟩ ∧ rows[i]? = some r ∧ r < 18446744073709551616 ∧ b < w.heap.size ∧ w.cell? ⟨b, off + i, none⟩ = some (.int .u64 (r : Int)) := by
  obtain ⟨b, off, v, ha, hv, hb, hc⟩ := h.row.at_ (i := i) (by rw [u64s_length]; exact hi)
  obtain ⟨r, hr, rfl⟩ := u64s_at hv
  exact ⟨b, off, r, ha, hr, h.all r (List.mem_of_getElem? hr), hb, hc⟩
def fval (gen : Nat) (a : Option Addr) (len cap : Nat) : Value := .agg #[.int .u64 (gen : Int), .slice a len cap]

def dimB (n : Int) : Bool := decide (0 ≤ n) && decide (n ≤ 64)
theorem dim_is (n : Int) (r : Bool) (hr : dimB n = r) (w : World) : Calls Tryd.prog 74 #[.int .i64 n] w fun e w' => e = .returned (.bool r) ∧ w = w' := by
  subst hr
  by_cases h1 : 0 ≤ n
  · by_cases h2 : n ≤ 64
    · have H : Hid (dimB n = true) := by show _ = _; simp [dimB, h1, h2]
      rw [H.out]
      go_enter Tryd.func74, Tryd.ntmps74
      go_wp2
      go_ret
      exact ⟨rfl, rfl⟩
    · have H : Hid (dimB n = false) := by show _ = _; simp [dimB, h2]
      rw [H.out]
      go_enter Tryd.func74, Tryd.ntmps74
      go_wp2
      go_ret
      exact ⟨rfl, rfl⟩
  · have H : Hid (dimB n = false) := by show _ = _; simp [dimB, h1]
    rw [H.out]
    go_enter Tryd.func74, Tryd.ntmps74
    go_wp2
    go_ret
    exact ⟨rfl, rfl⟩
theorem or_is (a b r : Nat) (ha : a < 18446744073709551616) (hb : b < 18446744073709551616) (hr : a ||| b = r) (w : World) : Calls Tryd.prog 77 #[.int .u64 a, .int .u64 b] w fun e w' => e = .returned (.int .u64 r) ∧ w = w' := by
  have H : Hid (bits .or .u64 (a : Int) (b : Int) = (r : Int)) := by show _ = _; rw [u64_or_nat a b ha hb, hr]
  go_enter Tryd.func77, Tryd.ntmps77
  go_wp2
  go_ret
  exact ⟨rint H.out, rfl⟩
def insN (m s : Nat) : Bool := restN s m == 0
theorem insN_iff {m s : Nat} (hm : m ≤ 64) (hs : s < 18446744073709551616) : insN m s = true ↔ s < 2 ^ m := by
  unfold insN
  rw [beq_iff_eq]
  constructor
  · intro h
    apply Nat.lt_pow_two_of_testBit
    intro i hi
    have := restN_bit s m hm hs i
    rw [h, Nat.zero_testBit] at this
    cases hb : s.testBit i
    · rfl
    · rw [hb] at this; simp at this; omega
  · intro h
    apply Nat.eq_of_testBit_eq
    intro i
    rw [restN_bit s m hm hs, Nat.zero_testBit]
    by_cases hi : m ≤ i
    · rw [Nat.testBit_lt_two_pow (Nat.lt_of_lt_of_le h (Nat.pow_le_pow_right (by omega) hi))]; rfl
    · simp [hi]
/-- Over a number of facts that may not be, Full is empty. -/
def insI (n : Int) (s : Nat) : Bool := if dimB n = true then insN n.toNat s else s == 0
theorem dim_full {n : Int} (h : dimB n = true) : fullV n = ((2 ^ n.toNat - 1 : Nat) : Int) ∧ fullE n = 0 := by
  simp only [dimB, Bool.and_eq_true, decide_eq_true_eq] at h
  exact ⟨by rw [fullV, if_pos h], by rw [fullE, if_pos h]⟩
theorem dim_full_no {n : Int} (h : dimB n = false) : fullV n = 0 ∧ fullE n = 10 := by
  have : ¬ (0 ≤ n ∧ n ≤ 64) := by intro x; simp [dimB, x.1, x.2] at h
  exact ⟨by rw [fullV, if_neg this], by rw [fullE, if_neg this]⟩
theorem andNot_mask (s m : Nat) (hs : s < 18446744073709551616) (hm : m ≤ 64) : bits BinOp.andNot IntKind.u64 (s : Int) ((2 ^ m - 1 : Nat) : Int) = ((restN s m : Nat) : Int) := u64_andNot_nat s _ hs (mask_lt hm)
theorem dim_nat {n : Int} (h : dimB n = true) : ∃ m : Nat, n = m ∧ m ≤ 64 := by
  simp only [dimB, Bool.and_eq_true, decide_eq_true_eq] at h
  exact ⟨n.toNat, by omega, by omega⟩
theorem andNot_zero (s : Nat) (hs : s < 18446744073709551616) : bits BinOp.andNot IntKind.u64 (s : Int) 0 = (s : Int) := by
  have h := u64_andNot_nat s 0 hs (by decide)
  have e : s &&& (18446744073709551615 - 0) = s := by
    apply Nat.eq_of_testBit_eq
    intro i
    rw [Nat.testBit_and, not_bit 0 i (by decide), Nat.zero_testBit]
    cases hb : s.testBit i
    · rfl
    · simp [bit_lt hs hb]
  rw [e] at h
  exact h
theorem inside_is (n : Int) (s : Nat) (hs : s < 18446744073709551616) (r : Bool) (hr : insI n s = r) (w : World) : Calls Tryd.prog 59 #[.int .i64 n, .int .u64 s] w fun e w' => e = .returned (.bool r) ∧ w = w' := by
  cases hd : dimB n
  · obtain ⟨f1, f2⟩ := dim_full_no hd
    have F1 := Lib.hid f1; have F2 := Lib.hid f2
    have HA := andNot_zero s hs
    have HR : Hid (((s : Int) == 0) = r) := by
      show _ = _
      rw [← hr, insI, hd]
      simp only [Bool.false_eq_true, if_false]
      rw [Bool.eq_iff_iff]; simp
    clear hd f1 f2 hr hs
    go_enter Tryd.func59, Tryd.ntmps59
    go_wp2_with fail
    refine (fullR_is n 0 10 F1.out F2.out _).mono ?_
    rintro e w1 ⟨rfl, rfl⟩
    go_wp2
    go_ret
    exact ⟨rbool HR.out, rfl⟩
  · obtain ⟨m, rfl, hm⟩ := dim_nat hd
    obtain ⟨f1, f2⟩ := dim_full hd
    have F1 := Lib.hid f1; have F2 := Lib.hid f2
    have HA := andNot_mask s m hs hm
    have HR : Hid ((((restN s m : Nat) : Int) == 0) = r) := by
      show _ = _
      rw [← hr, insI, hd, if_pos rfl]
      unfold insN
      rw [Int.toNat_natCast, Bool.eq_iff_iff]; simp
    obtain ⟨q, hq⟩ : ∃ q, restN s m = q := ⟨_, rfl⟩
    rw [hq] at HA HR
    obtain ⟨p, hp⟩ : ∃ p : Nat, 2 ^ m - 1 = p := ⟨_, rfl⟩
    rw [Int.toNat_natCast, hp] at F1
    rw [hp] at HA
    clear hd f1 f2 hr hs hq hp
    go_enter Tryd.func59, Tryd.ntmps59
    go_wp2_with fail
    refine (fullR_is m p 0 F1.out F2.out _).mono ?_
    rintro e w1 ⟨rfl, rfl⟩
    go_wp2
    go_ret
    exact ⟨rbool HR.out, rfl⟩

def shapeB (m gen : Nat) (rows : List Nat) : Bool := decide (rows.length = m) && (insN m gen && rows.all (insN m))
def shapedE (n : Int) (gen : Nat) (rows : List Nat) : Int := if dimB n = true then (if shapeB n.toNat gen rows = true then 0 else 30) else 31
theorem all_drop {l : List Nat} {p : Nat → Bool} {k : Nat} (h : ∀ i r, i < k → l[i]? = some r → p r = true) (hk : l.length ≤ k) : l.all p = true := by
  rw [List.all_eq_true]
  intro x hx
  obtain ⟨i, hi⟩ := List.getElem?_of_mem hx
  exact h i x (by have := (List.getElem?_eq_some_iff.1 hi).1; omega) hi
theorem all_bad {l : List Nat} {p : Nat → Bool} {i r : Nat} (h : l[i]? = some r) (hp : p r = false) : l.all p = false := by
  rw [List.all_eq_false]
  exact ⟨r, List.mem_of_getElem? h, by rw [hp]; simp⟩
set_option maxRecDepth 100000 in
set_option maxHeartbeats 1000000 in
theorem shaped_is (n : Int) (a : Option Addr) (cap gen : Nat) (rows : List Nat) (w : World) (hf : FAt w a gen rows) (r : Int) (hr : shapedE n gen rows = r) :
    Calls Tryd.prog 71 #[.int .i64 n, fval gen a rows.length cap] w fun e w' => e = .returned (.int .i64 r) ∧ Below w.heap.size w w' := by
  have HF := Lib.hid hf
  have hgen := hf.gen
  have hlen := hf.len
  have hB0 : Below w.heap.size w (w.alloc (.cells #[.int .u64 (gen : Int), .slice a rows.length cap] 55)) := (Below.refl _ _).alloc (Nat.le_refl _) _
  have HF1 : Hid (FAt (w.alloc (.cells #[.int .u64 (gen : Int), .slice a rows.length cap] 55)) a gen rows) := hf.below hB0
  obtain ⟨len, hl⟩ : ∃ len, rows.length = len := ⟨_, rfl⟩
  have HL := Lib.hid hl
  rw [hl] at hB0 HF1 hlen ⊢
  unfold fval
  clear hf hl
  cases hd : dimB n
  · obtain ⟨f1, f2⟩ := dim_full_no hd
    have F1 := Lib.hid f1; have F2 := Lib.hid f2
    have HR : Hid (31 = r) := by show _ = _; rw [← hr, shapedE, hd]; rfl
    clear hd f1 f2 hr
    go_enter Tryd.func71, Tryd.ntmps71
    go_wp2_with fail
    refine (fullA_is n 0 10 F1.out F2.out _).mono ?_
    rintro e w1 ⟨rfl, rfl⟩
    go_wp2
    go_ret
    exact ⟨rint HR.out, hB0⟩
  · obtain ⟨m, rfl, hm⟩ := dim_nat hd
    obtain ⟨f1, f2⟩ := dim_full hd
    have F1 := Lib.hid f1; have F2 := Lib.hid f2
    have HA := andNot_mask gen m hgen hm
    have HRR : Hid ((if shapeB m gen rows = true then (0 : Int) else 30) = r) := by show _ = _; rw [← hr, shapedE, hd, if_pos rfl, Int.toNat_natCast]
    have HAR : Hid (∀ r : Nat, r < 18446744073709551616 → bits BinOp.andNot IntKind.u64 (r : Int) ((2 ^ m - 1 : Nat) : Int) = ((restN r m : Nat) : Int)) := fun r hr => andNot_mask r m hr hm
    obtain ⟨p, hp⟩ : ∃ p : Nat, 2 ^ m - 1 = p := ⟨_, rfl⟩
    rw [Int.toNat_natCast, hp] at F1
    rw [hp] at HA HAR
    clear hd f1 f2 hr hp
    by_cases hlm : len = m
    · subst hlm
      cases hig : insN len gen
      · have HR : Hid (30 = r) := by show _ = _; rw [← HRR.out, shapeB, hig]; simp
        have hq0 : (((restN gen len : Nat) : Int) != 0) = true := by
          unfold insN at hig
          have : restN gen len ≠ 0 := by simpa using hig
          simp; omega
        obtain ⟨q, hq⟩ : ∃ q, restN gen len = q := ⟨_, rfl⟩
        rw [hq] at HA hq0
        clear hig hq
        go_enter Tryd.func71, Tryd.ntmps71
        go_wp2_with fail
        refine (fullA_is len p 0 F1.out F2.out _).mono ?_
        rintro e w1 ⟨rfl, rfl⟩
        go_wp2
        go_ret
        exact ⟨rint HR.out, hB0⟩
      · have HIG := Lib.hid hig
        have hq0 : restN gen len = 0 := by unfold insN at hig; simpa using hig
        rw [hq0] at HA
        clear hig hq0
        go_enter Tryd.func71, Tryd.ntmps71
        go_wp2_with fail
        refine (fullA_is len p 0 F1.out F2.out _).mono ?_
        rintro e w1 ⟨rfl, rfl⟩
        go_wp2_with fail
        go_loopw [31] (fun i wr => ∃ k : Nat, k ≤ len ∧ i = .int .i64 k ∧ Hid (∀ (i : Nat) x, i < k → rows[i]? = some x → insN len x = true) ∧ (w.alloc (.cells #[.int .u64 (gen : Int), .slice a len cap] 55)) = wr) (fun i _ => len - (intOf i).toNat)
        case atStart => exact ⟨0, Nat.zero_le _, rfl, fun i x h => by omega, rfl⟩
        case round =>
          obtain ⟨k, hk, rfl, HK, rfl⟩ := hrel
          by_cases hlt : k < len
          · obtain ⟨ba, offa, x, rfl, hx, hx64, hba, a0⟩ := HF1.out.at_ (by rw [HL.out]; exact hlt)
            have g0 : (0 : Int) ≤ (k : Int) := by omega
            have g1 : (k : Int) < (len : Int) := by omega
            have hax := HAR.out x hx64
            cases hin : insN len x
            · have HR : Hid (30 = r) := by show _ = _; rw [← HRR.out, shapeB, all_bad hx hin]; simp
              have hq0 : (((restN x len : Nat) : Int) != 0) = true := by
                unfold insN at hin
                have : restN x len ≠ 0 := by simpa using hin
                simp; omega
              obtain ⟨q, hq⟩ : ∃ q, restN x len = q := ⟨_, rfl⟩
              rw [hq] at hax hq0
              clear hin hq hx
              go_wp2
              go_ret
              exact ⟨rint HR.out, hB0⟩
            · have HN : Hid (∀ (i : Nat) y, i < k + 1 → rows[i]? = some y → insN len y = true) := fun i y hi hy => by
                by_cases e : i = k
                · subst e; rw [hx] at hy; cases hy; exact hin
                · exact HK.out i y (by omega) hy
              have hq0 : restN x len = 0 := by unfold insN at hin; simpa using hin
              rw [hq0] at hax
              clear hin hx hq0
              go_wp2
              go_roundw
              case rel => exact ⟨k + 1, by omega, by go_num, HN, by trivial⟩
              case measure => simp [intOf]; omega
          · have HR : Hid (0 = r) := by
              show _ = _
              have e1 : shapeB len gen rows = true := by
                unfold shapeB
                rw [HIG.out, all_drop HK.out (by rw [HL.out]; omega)]
                simp [HL.out]
              rw [← HRR.out, e1]; rfl
            go_wp2
            go_ret
            exact ⟨rint HR.out, hB0⟩
    · have HR : Hid (30 = r) := by
        show _ = _
        rw [← HRR.out, shapeB, decide_eq_false (by rw [HL.out]; exact hlm)]; rfl
      have hne : ((len : Int) != (m : Int)) = true := by simp; omega
      clear hlm
      go_enter Tryd.func71, Tryd.ntmps71
      go_wp2_with fail
      refine (fullA_is m p 0 F1.out F2.out _).mono ?_
      rintro e w1 ⟨rfl, rfl⟩
      go_wp2
      go_ret
      exact ⟨rint HR.out, hB0⟩
end Go.Proofs.YtdaijibkafepcaaDoor
