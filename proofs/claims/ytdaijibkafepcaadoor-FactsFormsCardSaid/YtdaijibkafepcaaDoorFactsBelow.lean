/-
  THE FACTS LAYER: Below, of the program and of the reference.
-/
import Derived.Test.YtdaijibkafepcaaDoorFactsExtR
namespace Go.Proofs.YtdaijibkafepcaaDoor
open Go.RowKit
set_option linter.unusedVariables false

def BelowP (ga : Nat) (xs : List Nat) (gb : Nat) (ys : List Nat) : Prop := andn ga gb = 0 ∧ ∀ (i x y : Nat), xs[i]? = some x → ys[i]? = some y → andn x (gb ||| y) = 0
set_option maxRecDepth 100000 in
set_option maxHeartbeats 4000000 in
theorem belowA_is (n : Int) (a b : Option Addr) (capa capb ga gb : Nat) (xs ys : List Nat) (w : World) (hfa : FAt w a ga xs) (hfb : FAt w b gb ys) (e0 : Int) (he : bothE n ga xs gb ys = e0) (r : Bool) (hr : r = true ↔ e0 = 0 ∧ BelowP ga xs gb ys) (la lb : Nat) (hla : xs.length = la) (hlb : ys.length = lb) :
    Calls Tryd.prog 54 #[.int .i64 n, fval ga a la capa, fval gb b lb capb] w fun e w' => e = .returned (.tuple #[.bool r, .int .i64 e0]) ∧ Below w.heap.size w w' := by
  unfold fval
  have hB0 : Below w.heap.size w ((w.alloc (.cells #[.int .u64 (ga : Int), .slice a la capa] 55)).alloc (.cells #[.int .u64 (gb : Int), .slice b lb capb] 55)) := ((Below.refl _ _).alloc (Nat.le_refl _) _).alloc (by simp) _
  have HA := Lib.hid (hfa.below hB0); have HB := Lib.hid (hfb.below hB0); have HLA := Lib.hid hla; have HLB := Lib.hid hlb
  have HA0 := Lib.hid hfa; have HBB0 := Lib.hid hfb
  obtain ⟨t0, t1⟩ := two_boxes w #[.int .u64 (ga : Int), .slice a la capa] #[.int .u64 (gb : Int), .slice b lb capb] 55
  have T0 := Lib.hid t0; have T1 := Lib.hid t1
  have hga := hfa.gen; have hgb := hfb.gen
  have HE := Lib.hid he; have HR := Lib.hid hr
  by_cases h0 : e0 = 0
  · subst h0
    obtain ⟨m, rfl, hm, hxm, hym⟩ := bothE_len he
    obtain rfl : m = la := by omega
    obtain rfl : m = lb := by omega
    have hag := andn_go ga gb hga hgb
    obtain ⟨q, hq⟩ : ∃ q, andn ga gb = q := ⟨_, rfl⟩
    have HQ := Lib.hid hq
    rw [hq] at hag
    clear hfa hfb he hr hla hlb t0 t1 hxm hym hq
    by_cases hq0 : q = 0
    · subst hq0
      go_enter Tryd.func54, Tryd.ntmps54
      go_wp2_with fail
      refine (bothA_is m a b capa capb ga gb xs ys _ HA.out HB.out 0 HE.out m m HLA.out HLB.out).mono ?_
      rintro e w1 ⟨rfl, hb1⟩
      have hB1 := hB0.trans (hb1.mono hB0.size)
      have U0 := Lib.hid (heap_old T0.out hb1); have U1 := Lib.hid (heap_old T1.out hb1)
      obtain ⟨c0, c1, _⟩ := two_cells U0.out
      obtain ⟨k0, k1, _⟩ := two_cells U1.out
      go_wp2_with fail
      go_loopw [27] (fun i wr => ∃ k : Nat, k ≤ m ∧ i = .int .i64 k ∧ Hid (∀ (i x y : Nat), i < k → xs[i]? = some x → ys[i]? = some y → andn x (gb ||| y) = 0) ∧ Hid (wr.heap[w.heap.size]? = some (.cells #[.int .u64 (ga : Int), .slice a m capa] 55 (0, 0))) ∧ Hid (wr.heap[w.heap.size + 1]? = some (.cells #[.int .u64 (gb : Int), .slice b m capb] 55 (0, 0))) ∧ Below w.heap.size w wr) (fun i _ => m - (intOf i).toNat)
      case atStart => exact ⟨0, Nat.zero_le _, rfl, fun i x y h => by omega, U0, U1, hB1⟩
      case round =>
        obtain ⟨k, hk, rfl, HK, B0, B1, hb⟩ := hrel
        obtain ⟨d0, d1, _⟩ := two_cells B1.out
        by_cases hlt : k < m
        · obtain ⟨ba, offa, x, rfl, hx, hx64, hba, a0⟩ := (HA0.out.below hb).at_ (i := k) (by rw [HLA.out]; exact hlt)
          obtain ⟨bb, offb, y, rfl, hy, hy64, hbb, b0⟩ := (HBB0.out.below hb).at_ (i := k) (by rw [HLB.out]; exact hlt)
          have hor := u64_or_nat gb y hgb hy64
          obtain ⟨z, hz⟩ : ∃ z, gb ||| y = z := ⟨_, rfl⟩
          have hz64 : z < 18446744073709551616 := by rw [← hz]; exact or64 hgb hy64
          rw [hz] at hor
          have han := andn_go x z hx64 hz64
          obtain ⟨u, hu⟩ : ∃ u, andn x z = u := ⟨_, rfl⟩
          rw [hu] at han
          have g0 : (0 : Int) ≤ (k : Int) := by omega
          have g1 : (k : Int) < (m : Int) := by omega
          by_cases hu0 : u = 0
          · subst hu0
            have HNX : Hid (∀ (i x y : Nat), i < k + 1 → xs[i]? = some x → ys[i]? = some y → andn x (gb ||| y) = 0) := fun i p r hi hp hr' => by
              by_cases e : i = k
              · subst e; rw [hx] at hp; rw [hy] at hr'; cases hp; cases hr'; rw [hz, hu]
              · exact HK.out i p r (by omega) hp hr'
            clear hx hy hz hu
            go_wp2_with fail
            go_quiet (fail)
            go_wp2
            go_roundw
            case rel => exact ⟨k + 1, by omega, by go_num, HNX, B0, B1, below_drewN hb _⟩
            case measure => simp [intOf]; omega
          · have hne : ((u : Int) != 0) = true := by simp; omega
            have HX : Hid (r = false) := by
              show _ = _
              cases hrr : r
              · rfl
              · exfalso
                have := (HR.out.1 hrr).2.2 k x y hx hy
                rw [hz, hu] at this
                exact hu0 this
            clear hx hy hz hu hu0
            go_wp2_with fail
            go_quiet (fail)
            go_wp2
            have hx9 := HX.out
            subst hx9
            go_ret2
            exact ⟨rfl, below_drewN hb _⟩
        · have HX : Hid (r = true) := HR.out.2 ⟨by simp, HQ.out, fun i x y hi hj => by
            have := (List.getElem?_eq_some_iff.1 hi).1
            rw [HLA.out] at this
            exact HK.out i x y (by omega) hi hj⟩
          go_wp2
          have hx9 := HX.out
          subst hx9
          go_ret2
          exact ⟨rfl, hb⟩
    · have hne : ((q : Int) != 0) = true := by simp; omega
      have HX : Hid (r = false) := by
        show _ = _
        cases hrr : r
        · rfl
        · exfalso
          have := (HR.out.1 hrr).2.1
          rw [HQ.out] at this
          exact hq0 this
      go_enter Tryd.func54, Tryd.ntmps54
      go_wp2_with fail
      refine (bothA_is m a b capa capb ga gb xs ys _ HA.out HB.out 0 HE.out m m HLA.out HLB.out).mono ?_
      rintro e w1 ⟨rfl, hb1⟩
      have hB1 := hB0.trans (hb1.mono hB0.size)
      have U0 := Lib.hid (heap_old T0.out hb1); have U1 := Lib.hid (heap_old T1.out hb1)
      obtain ⟨c0, c1, _⟩ := two_cells U0.out
      obtain ⟨k0, k1, _⟩ := two_cells U1.out
      go_wp2
      have hx9 := HX.out
      subst hx9
      go_ret2
      exact ⟨rfl, hB1⟩
  · have hne : (e0 != 0) = true := by simpa using h0
    have HX : Hid (r = false) := by
      show _ = _
      cases hrr : r
      · rfl
      · exact absurd (HR.out.1 hrr).1 h0
    clear hfa hfb he hr hla hlb t0 t1 h0
    go_enter Tryd.func54, Tryd.ntmps54
    go_wp2_with fail
    refine (bothA_is n a b capa capb ga gb xs ys _ HA.out HB.out e0 HE.out la lb HLA.out HLB.out).mono ?_
    rintro e w1 ⟨rfl, hb1⟩
    go_wp2
    have hx9 := HX.out
    subst hx9
    go_ret2
    exact ⟨rfl, hB0.trans (hb1.mono hB0.size)⟩

theorem combV_len {n : Int} {ga gb : Nat} {xs ys : List Nat} (h : xs.length ≤ 100) : (combV n ga xs gb ys).length ≤ 100 := by
  unfold combV
  split
  · simp only [canonL_length, orL, List.length_zipWith]; omega
  · simp
set_option maxRecDepth 100000 in
set_option maxHeartbeats 4000000 in
theorem belowR_is (n : Int) (a b : Option Addr) (capa capb ga gb : Nat) (xs ys : List Nat) (w : World) (hfa : FAt w a ga xs) (hfb : FAt w b gb ys) (e0 : Int) (he : bothE n ga xs gb ys = e0) (r : Bool) (hr : r = true ↔ e0 = 0 ∧ sameB (combG n ga xs gb ys) (combV n ga xs gb ys) gb ys = true) (la lb : Nat) (hla : xs.length = la) (hlb : ys.length = lb) :
    Calls Tryd.prog 55 #[.int .i64 n, fval ga a la capa, fval gb b lb capb] w fun e w' => e = .returned (.tuple #[.bool r, .int .i64 e0]) ∧ Below w.heap.size w w' := by
  unfold fval
  have hB0 : Below w.heap.size w ((w.alloc (.cells #[.int .u64 (ga : Int), .slice a la capa] 55)).alloc (.cells #[.int .u64 (gb : Int), .slice b lb capb] 55)) := ((Below.refl _ _).alloc (Nat.le_refl _) _).alloc (by simp) _
  have HA := Lib.hid (hfa.below hB0); have HB := Lib.hid (hfb.below hB0); have HLA := Lib.hid hla; have HLB := Lib.hid hlb
  have HBB0 := Lib.hid hfb
  obtain ⟨t0, t1⟩ := two_boxes w #[.int .u64 (ga : Int), .slice a la capa] #[.int .u64 (gb : Int), .slice b lb capb] 55
  have T0 := Lib.hid t0; have T1 := Lib.hid t1
  have hyl := hfb.len
  have HC := Lib.hid (combV_len (n := n) (ga := ga) (gb := gb) (ys := ys) hfa.len)
  have HE := Lib.hid he; have HR := Lib.hid hr
  obtain ⟨cg, hcg⟩ : ∃ cg, combG n ga xs gb ys = cg := ⟨_, rfl⟩
  obtain ⟨cv, hcv⟩ : ∃ cv, combV n ga xs gb ys = cv := ⟨_, rfl⟩
  obtain ⟨lc, hlc⟩ : ∃ lc, cv.length = lc := ⟨_, rfl⟩
  have HCG := Lib.hid hcg; have HCV := Lib.hid hcv; have HLC := Lib.hid hlc
  rw [hcg, hcv] at HR; rw [hcv] at HC
  by_cases h0 : e0 = 0
  · subst h0
    obtain ⟨sb, hsb⟩ : ∃ sb, sameB cg cv gb ys = sb := ⟨_, rfl⟩
    have HSB := Lib.hid hsb
    have HX : Hid (sb = r) := by
      show _ = _
      have := HR.out
      rw [hsb] at this
      rw [Bool.eq_iff_iff, this]
      exact ⟨fun h => ⟨rfl, h⟩, fun h => h.2⟩
    clear hfa hfb he hr hla hlb t0 t1 hcg hcv hlc hsb
    go_enter Tryd.func55, Tryd.ntmps55
    go_wp2_with fail
    refine (combR_is n a b capa capb ga gb xs ys _ HA.out HB.out 0 HE.out cg HCG.out cv HCV.out la lb HLA.out HLB.out).mono ?_
    rintro e w1 ⟨a1, cap1, rfl, hr1, hf1, hb1⟩
    rw [HLC.out]
    have HR1 := Lib.hid hr1
    have hB1 := hB0.trans (hb1.mono hB0.size)
    have U1 := Lib.hid (heap_old T1.out hb1)
    obtain ⟨k0, k1, _⟩ := two_cells (heap_allocd U1.out (.cells #[.int .u64 (cg : Int), .slice a1 lc cap1] 55))
    have hBB : Below w1.heap.size w1 (w1.alloc (.cells #[.int .u64 (cg : Int), .slice a1 lc cap1] 55)) := (Below.refl _ _).alloc (Nat.le_refl _) _
    have hB2 := hB1.trans (hBB.mono hB1.size)
    clear hr1 hf1
    go_wp2_with fail
    refine (sameR_is a1 b cap1 capb cg gb cv ys _ HC.out hyl (VRow.below HR1.out hBB) (HBB0.out.below hB2).row sb HSB.out lc lb HLC.out HLB.out).mono ?_
    rintro e w3 ⟨rfl, hb3⟩
    go_wp2
    have hx9 := HX.out
    subst hx9
    go_ret2
    exact ⟨rfl, hB2.trans (hb3.mono hB2.size)⟩
  · have hne : (e0 == 0) = false := by simpa using h0
    have HX : Hid (r = false) := by
      show _ = _
      cases hrr : r
      · rfl
      · exact absurd (HR.out.1 hrr).1 h0
    clear hfa hfb he hr hla hlb t0 t1 hcg hcv hlc h0
    go_enter Tryd.func55, Tryd.ntmps55
    go_wp2_with fail
    refine (combR_is n a b capa capb ga gb xs ys _ HA.out HB.out e0 HE.out cg HCG.out cv HCV.out la lb HLA.out HLB.out).mono ?_
    rintro e w1 ⟨a1, cap1, rfl, hr1, hf1, hb1⟩
    rw [HLC.out]
    have hB1 := hB0.trans (hb1.mono hB0.size)
    clear hr1 hf1
    go_wp2
    have hx9 := HX.out
    subst hx9
    go_ret2
    exact ⟨rfl, hB1.alloc hB1.size _⟩
end Go.Proofs.YtdaijibkafepcaaDoor
