/-
  THE FACTS LAYER: Check of both, checkBoth, two.
-/
import Derived.Test.YtdaijibkafepcaaDoorFactsSame
namespace Go.Proofs.YtdaijibkafepcaaDoor
open Go.RowKit
set_option linter.unusedVariables false

def clearB (gen : Nat) (rows : List Nat) : Bool := rows.all fun r => r &&& gen == 0
def checkE (n : Int) (gen : Nat) (rows : List Nat) : Int := if dimB n = true then (if (shapeB n.toNat gen rows && clearB gen rows) = true then 0 else 30) else 31
theorem check_shaped {n : Int} {gen : Nat} {rows : List Nat} {e : Int} (h : shapedE n gen rows = e) (he : e ≠ 0) : checkE n gen rows = e := by
  unfold shapedE at h
  unfold checkE
  split at h
  · rename_i hd
    rw [if_pos hd]
    split at h
    · exact absurd h.symm he
    · rename_i hs
      rw [if_neg (by intro x; rw [Bool.and_eq_true] at x; exact hs x.1)]
      exact h
  · rename_i hd
    rw [if_neg hd]; exact h
theorem check_clear {n : Int} {gen : Nat} {rows : List Nat} (h : shapedE n gen rows = 0) : checkE n gen rows = if clearB gen rows = true then 0 else 30 := by
  unfold shapedE at h
  unfold checkE
  split at h
  · rename_i hd
    rw [if_pos hd]
    split at h
    · rename_i hs
      rw [hs, Bool.true_and]
    · cases h
  · cases h
set_option maxRecDepth 100000 in
set_option maxHeartbeats 1000000 in
theorem checkA_is (n : Int) (a : Option Addr) (cap gen : Nat) (rows : List Nat) (w : World) (hf : FAt w a gen rows) (r : Int) (hr : checkE n gen rows = r) (len : Nat) (hl : rows.length = len) :
    Calls Tryd.prog 43 #[.int .i64 n, fval gen a len cap] w fun e w' => e = .returned (.int .i64 r) ∧ Below w.heap.size w w' := by
  have HF := Lib.hid hf
  have hgen := hf.gen
  have hlen := hf.len
  have hB0 : Below w.heap.size w (w.alloc (.cells #[.int .u64 (gen : Int), .slice a len cap] 55)) := (Below.refl _ _).alloc (Nat.le_refl _) _
  have HF1 : Hid (FAt (w.alloc (.cells #[.int .u64 (gen : Int), .slice a len cap] 55)) a gen rows) := hf.below hB0
  have T0 := Lib.hid (heapV_new w (.cells #[.int .u64 (gen : Int), .slice a len cap] 55))
  have HL := Lib.hid hl
  rw [hl] at hlen
  obtain ⟨s, hs⟩ : ∃ s, shapedE n gen rows = s := ⟨_, rfl⟩
  have HS := Lib.hid hs
  unfold fval
  clear hf hl
  have call : ∀ W, FAt W a gen rows → Calls Tryd.prog 71 #[.int .i64 n, fval gen a len cap] W fun e w' => e = .returned (.int .i64 s) ∧ Below W.heap.size W w' := fun W hW => by
    have := shaped_is n a cap gen rows W hW s HS.out
    rwa [HL.out] at this
  unfold fval at call
  have HCALL := Lib.hid call
  clear call
  by_cases h0 : s = 0
  · subst h0
    have HRR : Hid ((if clearB gen rows = true then (0 : Int) else 30) = r) := by show _ = _; rw [← hr, check_clear hs]
    clear hr hs
    go_enter Tryd.func43, Tryd.ntmps43
    go_wp2_with fail
    refine (HCALL.out _ HF1.out).mono ?_
    rintro e w1 ⟨rfl, hb1⟩
    have hB1 := hB0.trans (hb1.mono hB0.size)
    have T1 := Lib.hid (heap_old T0.out hb1)
    obtain ⟨c0, c1, _⟩ := two_cells T1.out
    have HF2 := Lib.hid (HF1.out.below hb1)
    go_wp2_with fail
    go_loopw [17] (fun i wr => ∃ k : Nat, k ≤ len ∧ i = .int .i64 k ∧ Hid (∀ (i : Nat) x, i < k → rows[i]? = some x → (x &&& gen == 0) = true) ∧ w1 = wr) (fun i _ => len - (intOf i).toNat)
    case atStart => exact ⟨0, Nat.zero_le _, rfl, fun i x h => by omega, rfl⟩
    case round =>
      obtain ⟨k, hk, rfl, HK, rfl⟩ := hrel
      by_cases hlt : k < len
      · obtain ⟨ba, offa, x, rfl, hx, hx64, hba, a0⟩ := HF2.out.at_ (by rw [HL.out]; exact hlt)
        have g0 : (0 : Int) ≤ (k : Int) := by omega
        have g1 : (k : Int) < (len : Int) := by omega
        have hax := u64_and_nat x gen hx64 hgen
        obtain ⟨q, hq⟩ : ∃ q, x &&& gen = q := ⟨_, rfl⟩
        rw [hq] at hax
        by_cases hq0 : q = 0
        · have HN : Hid (∀ (i : Nat) y, i < k + 1 → rows[i]? = some y → (y &&& gen == 0) = true) := fun i y hi hy => by
            by_cases e : i = k
            · subst e; rw [hx] at hy; cases hy; rw [hq, hq0]; rfl
            · exact HK.out i y (by omega) hy
          subst hq0
          clear hx hq
          go_wp2
          go_roundw
          case rel => exact ⟨k + 1, by omega, by go_num, HN, by trivial⟩
          case measure => simp [intOf]; omega
        · have HR : Hid (30 = r) := by
            show _ = _
            have : clearB gen rows = false := all_bad (p := fun r => r &&& gen == 0) hx (by simp only [hq]; simpa using hq0)
            rw [← HRR.out, this]; rfl
          have hne : ((q : Int) != 0) = true := by simp; omega
          clear hx hq hq0
          go_wp2
          go_ret
          exact ⟨rint HR.out, hB1⟩
      · have HR : Hid (0 = r) := by
          show _ = _
          have : clearB gen rows = true := all_drop (p := fun r => r &&& gen == 0) HK.out (by rw [HL.out]; omega)
          rw [← HRR.out, this]; rfl
        go_wp2
        go_ret
        exact ⟨rint HR.out, hB1⟩
  · have HR : Hid (s = r) := by show _ = _; rw [← hr, check_shaped hs h0]
    have hne : (s != 0) = true := by simpa using h0
    clear hr hs h0
    go_enter Tryd.func43, Tryd.ntmps43
    go_wp2_with fail
    refine (HCALL.out _ HF1.out).mono ?_
    rintro e w1 ⟨rfl, hb1⟩
    go_wp2
    go_ret
    exact ⟨rint HR.out, hB0.trans (hb1.mono hB0.size)⟩

theorem andn_same {r gen : Nat} (hr : r < 18446744073709551616) (hg : gen < 18446744073709551616) : (andn r gen = r) ↔ (r &&& gen = 0) := by
  constructor
  · intro h
    apply Nat.eq_of_testBit_eq
    intro j
    have := congrArg (fun z => Nat.testBit z j) h
    simp only [andn_bit hr hg] at this
    rw [Nat.testBit_and, Nat.zero_testBit]
    cases h1 : r.testBit j
    · rfl
    · rw [h1] at this; simp at this; rw [this]; rfl
  · intro h
    apply Nat.eq_of_testBit_eq
    intro j
    rw [andn_bit hr hg]
    have := congrArg (fun z => Nat.testBit z j) h
    simp only [Nat.testBit_and, Nat.zero_testBit] at this
    cases h1 : r.testBit j
    · rfl
    · rw [h1] at this; simp at this; rw [this]; rfl
theorem canonL_same {gen : Nat} {rows : List Nat} (hg : gen < 18446744073709551616) (ha : ∀ r ∈ rows, r < 18446744073709551616) : (canonL gen rows == rows) = clearB gen rows := by
  rw [Bool.eq_iff_iff, beq_iff_eq]
  unfold clearB canonL
  rw [List.all_eq_true]
  constructor
  · intro h x hx
    obtain ⟨i, hi⟩ := List.getElem?_of_mem hx
    have : (rows.map fun r => andn r gen)[i]? = some x := by rw [h]; exact hi
    rw [List.getElem?_map, hi] at this
    have h2 : andn x gen = x := Option.some.inj this
    rw [(andn_same (ha x hx) hg).1 h2]; rfl
  · intro h
    have : ∀ r ∈ rows, andn r gen = r := fun r hr => (andn_same (ha r hr) hg).2 (by have := h r hr; simpa using this)
    conv => rhs; rw [← List.map_id rows]
    exact List.map_congr_left this
set_option maxRecDepth 100000 in
set_option maxHeartbeats 2000000 in
theorem checkR_is (n : Int) (a : Option Addr) (cap gen : Nat) (rows : List Nat) (w : World) (hf : FAt w a gen rows) (r : Int) (hr : checkE n gen rows = r) (len : Nat) (hl : rows.length = len) :
    Calls Tryd.prog 44 #[.int .i64 n, fval gen a len cap] w fun e w' => e = .returned (.int .i64 r) ∧ Below w.heap.size w w' := by
  have HF := Lib.hid hf
  have hgen := hf.gen
  have hlen := hf.len
  have hB0 : Below w.heap.size w (w.alloc (.cells #[.int .u64 (gen : Int), .slice a len cap] 55)) := (Below.refl _ _).alloc (Nat.le_refl _) _
  have HF1 : Hid (FAt (w.alloc (.cells #[.int .u64 (gen : Int), .slice a len cap] 55)) a gen rows) := hf.below hB0
  have T0 := Lib.hid (heapV_new w (.cells #[.int .u64 (gen : Int), .slice a len cap] 55))
  have HL := Lib.hid hl
  unfold fval
  cases hd : dimB n
  · have HR : Hid (31 = r) := by show _ = _; rw [← hr, checkE, hd]; rfl
    have HD := Lib.hid hd
    clear hr hd hf hl
    go_enter Tryd.func44, Tryd.ntmps44
    go_wp2_with fail
    refine (dim_is n false HD.out _).mono ?_
    rintro e w1 ⟨rfl, rfl⟩
    go_wp2
    go_ret
    exact ⟨rint HR.out, hB0⟩
  · have HD := Lib.hid hd
    obtain ⟨m, rfl, hm⟩ := dim_nat hd
    have HRR : Hid ((if (shapeB m gen rows && clearB gen rows) = true then (0 : Int) else 30) = r) := by show _ = _; rw [← hr, checkE, hd, if_pos rfl, Int.toNat_natCast]
    have hcs := canonL_same hf.gen hf.all
    have HCS := Lib.hid hcs
    have hcl := canonL_length gen rows
    obtain ⟨ys, hys⟩ : ∃ ys, canonL gen rows = ys := ⟨_, rfl⟩
    rw [hys] at HCS hcl
    have HYS := Lib.hid hys
    have HYL : Hid (ys.length = len) := hcl.trans hl
    have shp : ∀ (W : World) (b : Bool), shapeB m gen rows = b → FAt W a gen rows → Calls Tryd.prog 75 #[.int .i64 m, .agg #[.int .u64 (gen : Int), .slice a len cap]] W fun e w' => e = .returned (.bool b) ∧ Below W.heap.size W w' := fun W b hb hW => by
      have := shape_is m hm a cap gen rows W hW b hb
      rwa [hl] at this
    have can : ∀ (W : World), FAt W a gen rows → Calls Tryd.prog 76 #[.agg #[.int .u64 (gen : Int), .slice a len cap]] W (FOne gen ys W) := fun W hW => by
      have := canonR_is a cap gen rows W hW ys hys
      rwa [hl] at this
    have HSHP := Lib.hid shp; have HCAN := Lib.hid can
    rw [hl] at hlen
    have hylen : Hid (ys.length ≤ 100) := by show _ ≤ _; rw [HYL.out]; exact hlen
    have hrlen : Hid (rows.length ≤ 100) := by show _ ≤ _; rw [HL.out]; exact hlen
    clear hr hd hf hl hcs hcl hys shp can
    cases hsh : shapeB m gen rows
    · have HR : Hid (30 = r) := by show _ = _; rw [← HRR.out, hsh]; rfl
      have HSH := Lib.hid hsh
      obtain ⟨c0, c1, _⟩ := two_cells T0.out
      clear hsh
      go_enter Tryd.func44, Tryd.ntmps44
      go_wp2_with fail
      refine (dim_is m true HD.out _).mono ?_
      rintro e w1 ⟨rfl, rfl⟩
      go_wp2_with fail
      go_region_with (go_at_call 75; refine (HSHP.out _ false HSH.out (HF1.out.below (by first | exact Below.refl _ _ | exact (Below.refl _ _).drew))).mono ?_; rintro e w3 ⟨rfl, hb3⟩; have hB3 : Below w.heap.size w w3 := hB0.trans (Below.mono (by first | exact hb3 | exact Below.trans ((Below.refl _ _).drew) hb3) hB0.size))
      all_goals
        go_wp2
        go_ret
        exact ⟨rint HR.out, hB3⟩
    · have HSH := Lib.hid hsh
      obtain ⟨b, hb⟩ : ∃ b, clearB gen rows = b := ⟨_, rfl⟩
      have HSM : Hid (sameB gen ys gen rows = b) := by show _ = _; rw [sameB, HCS.out, hb]; simp
      have HR : Hid ((if b = true then (0 : Int) else 30) = r) := by show _ = _; rw [← HRR.out, hsh, hb]; rfl
      obtain ⟨c0, c1, _⟩ := two_cells T0.out
      clear hsh hb
      go_enter Tryd.func44, Tryd.ntmps44
      go_wp2_with fail
      refine (dim_is m true HD.out _).mono ?_
      rintro e w1 ⟨rfl, rfl⟩
      go_wp2_with fail
      go_region_with (first | (go_at_call 75; refine (HSHP.out _ true HSH.out (HF1.out.below (by first | exact Below.refl _ _ | exact (Below.refl _ _).drew))).mono ?_; rintro e w3 ⟨rfl, hb3⟩; have hB3 : Below w.heap.size w w3 := hB0.trans (Below.mono (by first | exact hb3 | exact Below.trans ((Below.refl _ _).drew) hb3) hB0.size); have HF3 := Lib.hid (HF.out.below hB3); obtain ⟨d0, d1, _⟩ := two_cells (heap_old T0.out (show Below _ _ w3 from (by first | exact hb3 | exact Below.trans ((Below.refl _ _).drew) hb3)))) | (go_at_call 76; refine (HCAN.out _ HF3.out).mono ?_; rintro e w4 ⟨a4, cap4, rfl, hr4, hf4, hb4⟩; have hB4 := hB3.trans (hb4.mono hB3.size); have HF4 := Lib.hid (HF3.out.below hb4); have HR4 := Lib.hid hr4; have k0 := (hb4.cell (p := ⟨w.heap.size, 0, none⟩) (cell_lt d0)).trans d0; have k1 := (hb4.cell (p := ⟨w.heap.size, 1, none⟩) (cell_lt d1)).trans d1) | (go_at_call 45; refine (sameR_is a4 a cap4 cap gen gen ys rows _ hylen.out hrlen.out HR4.out HF4.out.row b HSM.out _ len rfl HL.out).mono ?_; rintro e w5 ⟨rfl, hb5⟩; have hB5 := hB4.trans (hb5.mono hB4.size)))
      all_goals
        cases b
        · go_wp2
          go_ret
          exact ⟨rint HR.out, hB5⟩
        · go_wp2
          go_ret
          exact ⟨rint HR.out, hB5⟩
end Go.Proofs.YtdaijibkafepcaaDoor
