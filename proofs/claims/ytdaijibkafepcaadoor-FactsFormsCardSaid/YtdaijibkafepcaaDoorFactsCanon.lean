/-
  THE FACTS LAYER: shape, canon, Same of the reference.
-/
import Derived.Test.YtdaijibkafepcaaDoorFactsBase
import Derived.StillTailTactics
import Derived.Deep.RegionLaw
namespace Go.Proofs.YtdaijibkafepcaaDoor
open Go.RowKit
set_option linter.unusedVariables false

set_option maxRecDepth 100000 in
set_option maxHeartbeats 1000000 in
theorem shape_is (m : Nat) (hm : m ≤ 64) (a : Option Addr) (cap gen : Nat) (rows : List Nat) (w : World) (hf : FAt w a gen rows) (r : Bool) (hr : shapeB m gen rows = r) :
    Calls Tryd.prog 75 #[.int .i64 m, fval gen a rows.length cap] w fun e w' => e = .returned (.bool r) ∧ Below w.heap.size w w' := by
  have HF := Lib.hid hf
  have hgen := hf.gen
  have hlen := hf.len
  have HR := Lib.hid hr
  have hB0 : Below w.heap.size w (w.alloc (.cells #[.int .u64 (gen : Int), .slice a rows.length cap] 55)) := (Below.refl _ _).alloc (Nat.le_refl _) _
  have HF1 : Hid (FAt (w.alloc (.cells #[.int .u64 (gen : Int), .slice a rows.length cap] 55)) a gen rows) := hf.below hB0
  have HI : Hid (∀ s : Nat, insI (m : Int) s = insN m s) := fun s => by
    have : dimB (m : Int) = true := by simp [dimB]; omega
    rw [insI, this]; rfl
  obtain ⟨len, hl⟩ : ∃ len, rows.length = len := ⟨_, rfl⟩
  have HL := Lib.hid hl
  rw [hl] at hB0 HF1 hlen ⊢
  unfold fval
  clear hf hl hr
  by_cases hlm : len = m
  · subst hlm
    cases hig : insN len gen
    · have HX : Hid (false = r) := by show _ = _; rw [← HR.out, shapeB, hig]; simp
      have HG := Lib.hid hig
      clear hig
      go_enter Tryd.func75, Tryd.ntmps75
      go_wp2_with fail
      refine (inside_is len gen hgen false (by rw [HI.out]; exact HG.out) _).mono ?_
      rintro e w1 ⟨rfl, rfl⟩
      go_wp2
      go_ret
      exact ⟨rbool HX.out, hB0⟩
    · have HG := Lib.hid hig
      clear hig
      go_enter Tryd.func75, Tryd.ntmps75
      go_wp2_with fail
      refine (inside_is len gen hgen true (by rw [HI.out]; exact HG.out) _).mono ?_
      rintro e w1 ⟨rfl, rfl⟩
      go_wp2_with fail
      go_loopw [5] (fun i wr => ∃ k : Nat, k ≤ len ∧ i = .int .i64 k ∧ Hid (∀ (i : Nat) x, i < k → rows[i]? = some x → insN len x = true) ∧ (w.alloc (.cells #[.int .u64 (gen : Int), .slice a len cap] 55)) = wr) (fun i _ => len - (intOf i).toNat)
      case atStart => exact ⟨0, Nat.zero_le _, rfl, fun i x h => by omega, rfl⟩
      case round =>
        obtain ⟨k, hk, rfl, HK, rfl⟩ := hrel
        by_cases hlt : k < len
        · obtain ⟨ba, offa, x, rfl, hx, hx64, hba, a0⟩ := HF1.out.at_ (by rw [HL.out]; exact hlt)
          have g0 : (0 : Int) ≤ (k : Int) := by omega
          have g1 : (k : Int) < (len : Int) := by omega
          cases hin : insN len x
          · have HX : Hid (false = r) := by show _ = _; rw [← HR.out, shapeB, all_bad hx hin]; simp
            have HIN := Lib.hid hin
            clear hin hx
            go_wp2_with fail
            refine (inside_is len x hx64 false (by rw [HI.out]; exact HIN.out) _).mono ?_
            rintro e w1 ⟨rfl, rfl⟩
            go_wp2
            go_ret
            exact ⟨rbool HX.out, hB0⟩
          · have HN : Hid (∀ (i : Nat) y, i < k + 1 → rows[i]? = some y → insN len y = true) := fun i y hi hy => by
              by_cases e : i = k
              · subst e; rw [hx] at hy; cases hy; exact hin
              · exact HK.out i y (by omega) hy
            have HIN := Lib.hid hin
            clear hin hx
            go_wp2_with fail
            refine (inside_is len x hx64 true (by rw [HI.out]; exact HIN.out) _).mono ?_
            rintro e w1 ⟨rfl, rfl⟩
            go_wp2
            go_roundw
            case rel => exact ⟨k + 1, by omega, by go_num, HN, by trivial⟩
            case measure => simp [intOf]; omega
        · have HX : Hid (true = r) := by
            show _ = _
            have e1 : shapeB len gen rows = true := by
              unfold shapeB
              rw [HG.out, all_drop HK.out (by rw [HL.out]; omega)]
              simp [HL.out]
            rw [← HR.out, e1]
          go_wp2
          go_ret
          exact ⟨rbool HX.out, hB0⟩
  · have HX : Hid (false = r) := by
      show _ = _
      rw [← HR.out, shapeB, decide_eq_false (by rw [HL.out]; exact hlm)]; rfl
    have hne : ((len : Int) != (m : Int)) = true := by simp; omega
    clear hlm
    go_enter Tryd.func75, Tryd.ntmps75
    go_wp2
    go_ret
    exact ⟨rbool HX.out, hB0⟩

def andn (a b : Nat) : Nat := a &&& (18446744073709551615 - b)
theorem andn_lt {a b : Nat} (ha : a < 18446744073709551616) : andn a b < 18446744073709551616 := Nat.lt_of_le_of_lt Nat.and_le_left ha
theorem andn_bit {a b : Nat} (ha : a < 18446744073709551616) (hb : b < 18446744073709551616) (j : Nat) : (andn a b).testBit j = (a.testBit j && !b.testBit j) := by
  unfold andn
  rw [Nat.testBit_and, not_bit _ _ hb]
  cases h : a.testBit j
  · rfl
  · simp [bit_lt ha h]
theorem andn_go (a b : Nat) (ha : a < 18446744073709551616) (hb : b < 18446744073709551616) : bits BinOp.andNot IntKind.u64 (a : Int) (b : Int) = ((andn a b : Nat) : Int) := u64_andNot_nat a b ha hb
def canonL (gen : Nat) (rows : List Nat) : List Nat := rows.map fun r => andn r gen
theorem canonL_length (gen : Nat) (rows : List Nat) : (canonL gen rows).length = rows.length := by simp [canonL]
theorem canonL_take {gen : Nat} {rows : List Nat} {k x : Nat} (h : rows[k]? = some x) : (canonL gen rows).take (k + 1) = (canonL gen rows).take k ++ [andn x gen] := by
  have h2 : (canonL gen rows)[k]? = some (andn x gen) := by simp [canonL, h]
  obtain ⟨hk, e⟩ := List.getElem?_eq_some_iff.1 h2
  rw [List.take_succ_eq_append_getElem hk, e]
theorem infoU : (Tryd.prog.info? 23).map (fun i => (i.zero, i.size, i.bytes)) = some (some (.int .u64 0), 1, 8) := by kernel_rfl

theorem two_cells {w : World} {B : Nat} {a b : Value} {T : TypeId} (h : w.heap[B]? = some (.cells #[a, b] T (0, 0))) :
    w.cell? ⟨B, 0, none⟩ = some a ∧ w.cell? ⟨B, 1, none⟩ = some b ∧ (∀ j, w.frozen? ⟨B, j, none⟩ = false) :=
  ⟨by simp [World.cell?, h], by simp [World.cell?, h], fun j => by simp [World.frozen?, h]⟩
theorem two_set1 {w : World} {B : Nat} {a b c : Value} {T : TypeId} (h : w.heap[B]? = some (.cells #[a, b] T (0, 0))) : (w.setCell ⟨B, 1, none⟩ c).heap[B]? = some (.cells #[a, c] T (0, 0)) := heap_setCell_same w B 1 _ _ _ h
theorem two_set0 {w : World} {B : Nat} {a b c : Value} {T : TypeId} (h : w.heap[B]? = some (.cells #[a, b] T (0, 0))) : (w.setCell ⟨B, 0, none⟩ c).heap[B]? = some (.cells #[c, b] T (0, 0)) := heap_setCell_same w B 0 _ _ _ h
theorem heap_other {w : World} {B C j : Nat} {c : Value} {o : Obj} (h : w.heap[C]? = some o) (hne : C ≠ B) : (w.setCell ⟨B, j, none⟩ c).heap[C]? = some o := (Below.heap_setCell _ _ _ _ hne).trans h
theorem heap_old {w w' : World} {C : Nat} {o : Obj} (h : w.heap[C]? = some o) (hb : Below w.heap.size w w') : w'.heap[C]? = some o := (hb.block C (Array.getElem?_eq_some_iff.1 h).1).trans h
theorem heap_allocd {w : World} {C : Nat} {o : Obj} (h : w.heap[C]? = some o) (o' : Obj) : (w.alloc o').heap[C]? = some o := (Below.heap_alloc _ _ _ (Array.getElem?_eq_some_iff.1 h).1).trans h
/-- A struct's block is no row of another type. -/
theorem not_row {w : World} {B : Nat} {cs : Array Value} {T E : TypeId} (h : w.heap[B]? = some (.cells cs T (0, 0))) (hTE : T ≠ E) {base size k : Nat} {v : Value} {xs : List Value} (hr : w.ownsRow base E size v k xs) : some B ≠ v.ownBlock := by
  rcases hr.2 with ⟨rfl, _⟩ | ⟨g, cap, cur, rfl, _, hgb, _⟩
  · simp [Value.ownBlock]
  · intro e'
    obtain rfl : B = g := by simpa [Value.ownBlock] using e'
    have := h.symm.trans hgb
    simp at this
    exact hTE this.2
theorem heap_grown {w w' : World} {B : Nat} {cs : Array Value} {T E : TypeId} (h : w.heap[B]? = some (.cells cs T (0, 0))) (hTE : T ≠ E) {base size k : Nat} {v : Value} {xs : List Value} (hr : w.ownsRow base E size v k xs) (hg : w.grownBy w' v.ownBlock) : w'.heap[B]? = some (.cells cs T (0, 0)) :=
  (hg.block B (Array.getElem?_eq_some_iff.1 h).1 (fun e => not_row h hTE hr e)).trans h
theorem grownBy_set (W : World) (b j : Nat) (v : Value) : W.grownBy (W.setCell ⟨b, j, none⟩ v) (some b) :=
  ⟨rfl, rfl, rfl, (KeepsWalks.setCell W _ v).size, fun k _ hk => Below.heap_setCell _ _ _ k (fun e => hk (by rw [e]))⟩
theorem vrow_set {w : World} {a : Option Addr} {vs : List Value} (h : VRow w a vs) {B j : Nat} {v : Value} (hne : ∀ ad, a = some ad → ad.block ≠ B) : VRow (w.setCell ⟨B, j, none⟩ v) a vs := by
  rcases h with h | ⟨b, off, ha, hc⟩
  · exact .inl h
  · refine .inr ⟨b, off, ha, fun i x hi => ?_⟩
    rw [← hc i x hi]
    unfold World.cell?
    rw [Below.heap_setCell _ _ _ _ (hne _ ha)]
/-- What a function hands back that makes a transformer. -/
def FOne (gen : Nat) (rows : List Nat) (w : World) (e : Ending) (w' : World) : Prop :=
  ∃ a cap, e = .returned (fval gen a rows.length cap) ∧ VRow w' a (u64s rows) ∧ (∀ ad, a = some ad → w.heap.size ≤ ad.block ∧ ad.block < w'.heap.size) ∧ Below w.heap.size w w'
set_option maxRecDepth 100000 in
set_option maxHeartbeats 2000000 in
theorem canonR_is (a : Option Addr) (cap gen : Nat) (rows : List Nat) (w : World) (hf : FAt w a gen rows) (ys : List Nat) (hys : canonL gen rows = ys) :
    Calls Tryd.prog 76 #[fval gen a rows.length cap] w (FOne gen ys w) := by
  have HF := Lib.hid hf
  have hgen := hf.gen
  have hlen := hf.len
  have HY := Lib.hid hys
  obtain ⟨i0, hi, hz0, hz1, hz2⟩ := info_parts infoU
  obtain ⟨len, hl⟩ : ∃ len, rows.length = len := ⟨_, rfl⟩
  have HL := Lib.hid hl
  rw [hl] at hlen ⊢
  unfold fval
  clear hf hl hys
  go_enter Tryd.func76, Tryd.ntmps76
  go_wp2_with fail
  go_loopw [4] (fun i wr => ∃ (k : Nat) (v : Value), k ≤ len ∧ i = .int .i64 k ∧ Hid (wr.heap[w.heap.size]? = some (.cells #[.int .u64 (gen : Int), .slice a len cap] 55 (0, 0))) ∧ Hid (wr.heap[w.heap.size + 1]? = some (.cells #[.int .u64 0, .slice none 0 0] 55 (0, 0))) ∧ Hid (wr.heap[w.heap.size + 1 + 1]? = some (.cells #[.int .u64 (gen : Int), v] 55 (0, 0))) ∧ Hid (wr.ownsRow w.heap.size 23 1 v k (u64s (ys.take k))) ∧ Below w.heap.size w wr) (fun i _ => len - (intOf i).toNat)
  case atStart =>
    refine ⟨0, .slice none 0 0, Nat.zero_le _, rfl, ?_, ?_, ?_, World.ownsRow_nil _ _ _ _, (((Below.refl _ _).alloc (Nat.le_refl _) _).alloc (by simp) _).alloc (by simp; omega) _⟩
    · show _ = _
      exact heap_allocd (heap_allocd (heapV_new _ _) _) _
    · show _ = _
      have := heap_allocd (heapV_new (w.alloc (.cells #[.int .u64 (gen : Int), .slice a len cap] 55)) (.cells #[.int .u64 0, .slice none 0 0] 55)) (.cells #[.int .u64 (gen : Int), .slice none 0 0] 55)
      rwa [World.size_alloc] at this
    · show _ = _
      have := heapV_new ((w.alloc (.cells #[.int .u64 (gen : Int), .slice a len cap] 55)).alloc (.cells #[.int .u64 0, .slice none 0 0] 55)) (.cells #[.int .u64 (gen : Int), .slice none 0 0] 55)
      rwa [World.size_alloc, World.size_alloc] at this
  case round =>
    obtain ⟨k, v, hk, rfl, B0, B1, B2, HO, hb⟩ := hrel
    obtain ⟨c0, c1, cf⟩ := two_cells B0.out
    obtain ⟨e0, e1, ef⟩ := two_cells B2.out
    have ef1 := ef 1
    by_cases hlt : k < len
    · obtain ⟨ba, offa, x, rfl, hx, hx64, hba, a0⟩ := (HF.out.below hb).at_ (by rw [HL.out]; exact hlt)
      have g0 : (0 : Int) ≤ (k : Int) := by omega
      have g1 : (k : Int) < (len : Int) := by omega
      have hag := andn_go x gen hx64 hgen
      obtain ⟨y, hy⟩ : ∃ y, andn x gen = y := ⟨_, rfl⟩
      rw [hy] at hag
      have HT : Hid (ys.take (k + 1) = ys.take k ++ [y]) := by show _ = _; rw [← HY.out, canonL_take hx, hy]
      clear hx hy cf ef
      go_wp2_with fail
      have q1 : (wr.alloc (.cells #[.int .u64 (y : Int)] 23)).cell? ⟨w.heap.size + 1 + 1, 1, none⟩ = some v := (two_cells (heap_allocd B2.out _)).2.1
      go_region_law (first | (refine step_append_lies (wr.drew.alloc (.cells #[.int .u64 (y : Int)] 23)) ?_ (.tmp 16) (.tmp 25) 53 ?_ w.heap.size 23 i0 _ 1 8 Tryd.underlying53 hi hz0 hz1 hz2 ?_ ?_ v k (u64s (ys.take k)) ?_ ?_ ⟨wr.heap.size, 0, none⟩ 1 1 [.int .u64 (y : Int)] ?_ ?_ ?_ ?_ ?_ ?_ ?_ ?_ (wr.heap.size + 1) ?_ ?_; rfl; rfl; rfl; omega; rfl; exact (HO.out : (wr.drew).ownsRow _ _ _ _ _ _).alloc _; rfl; rfl; exact (World.news_of_block (cs := #[.int .u64 (y : Int)]) (t := 23) (fr := (0, 0)) (heapV_new wr.drew _)); simp [Value.oneCell']; omega; (unfold maxLen; omega); omega; (have := hb.size; simp; omega); simp; intro gg cp w5 hown1 hgrow hat hlt5; have hB4 : Below w.heap.size w w5 := (hb.drew.alloc hb.size _).grown hgrow (by have := hb.size; simp; omega) (fun j e => (HO.out.lt j e).1); have D0 := Lib.hid (heap_grown (heap_allocd (w := wr.drew) B0.out (.cells #[.int .u64 (y : Int)] 23)) (by decide) ((HO.out : (wr.drew).ownsRow _ _ _ _ _ _).alloc _) hgrow); have D1 := Lib.hid (heap_grown (heap_allocd (w := wr.drew) B1.out (.cells #[.int .u64 (y : Int)] 23)) (by decide) ((HO.out : (wr.drew).ownsRow _ _ _ _ _ _).alloc _) hgrow); have D2 := Lib.hid (heap_grown (heap_allocd (w := wr.drew) B2.out (.cells #[.int .u64 (y : Int)] 23)) (by decide) ((HO.out : (wr.drew).ownsRow _ _ _ _ _ _).alloc _) hgrow); obtain ⟨_, d1, df⟩ := two_cells D2.out; have df1 := df 1; clear df) | fail)
      all_goals
        have HO5 := Lib.hid (show (w5.setCell ⟨w.heap.size + 1 + 1, 1, none⟩ (.slice (some ⟨gg, 0, none⟩) (k + 1) cp)).ownsRow w.heap.size 23 1 (.slice (some ⟨gg, 0, none⟩) (k + 1) cp) (k + 1) (u64s (ys.take (k + 1))) by
          rw [HT.out, u64s_snoc]; exact hown1.kept (grownBy_set w5 _ _ _) (.inr (not_row D2.out (by decide) hown1).symm))
        have N0 := Lib.hid (heap_other (B := w.heap.size + 1 + 1) (j := 1) (c := .slice (some ⟨gg, 0, none⟩) (k + 1) cp) D0.out (by omega))
        have N1 := Lib.hid (heap_other (B := w.heap.size + 1 + 1) (j := 1) (c := .slice (some ⟨gg, 0, none⟩) (k + 1) cp) D1.out (by omega))
        have N2 := Lib.hid (two_set1 (c := .slice (some ⟨gg, 0, none⟩) (k + 1) cp) D2.out)
        have NB := Lib.hid (hB4.setCell (p := ⟨w.heap.size + 1 + 1, 1, none⟩) (by simp; omega) (.slice (some ⟨gg, 0, none⟩) (k + 1) cp))
        clear hown1 hgrow hat d1 df1 q1 c0 c1 e0 e1 ef1
        go_wp2
        go_roundw
        case rel => exact ⟨k + 1, _, by omega, by go_num, N0, N1, N2, HO5, NB.out⟩
        case measure => simp [intOf]; omega
    · obtain rfl : k = len := by omega
      obtain ⟨r0, r1, rf⟩ := two_cells B1.out
      have rf0 := rf 0; have rf1 := rf 1
      have HYL : Hid (ys.length = k) := by show _ = _; rw [← HY.out, canonL_length, HL.out]
      have HO2 : Hid (wr.ownsRow w.heap.size 23 1 v k (u64s ys)) := by
        have := HO.out
        rwa [List.take_of_length_le (by rw [HYL.out]; exact Nat.le_refl _)] at this
      obtain ⟨hvn, a3, cap3, hv3, hr3, hf3⟩ := VRow.of_own HO2.out
      subst hv3
      have HR3 := Lib.hid hr3; have HF3 := Lib.hid hf3
      have N1 := Lib.hid (two_set1 (c := .slice a3 (u64s ys).length cap3) (two_set0 (c := .int .u64 (gen : Int)) B1.out))
      have NR := Lib.hid (vrow_set (vrow_set HR3.out (B := w.heap.size + 1) (j := 0) (v := .int .u64 (gen : Int)) (fun ad e x => not_row B1.out (by decide) HO2.out (by rw [e]; show _ = some _; rw [x]))) (B := w.heap.size + 1) (j := 1) (v := .slice a3 (u64s ys).length cap3) (fun ad e x => not_row B1.out (by decide) HO2.out (by rw [e]; show _ = some _; rw [x])))
      have NB := Lib.hid ((hb.setCell (p := ⟨w.heap.size + 1, 0, none⟩) (by simp) (.int .u64 (gen : Int))).setCell (p := ⟨w.heap.size + 1, 1, none⟩) (by simp) (.slice a3 (u64s ys).length cap3))
      obtain ⟨s0, s1, _⟩ := two_cells N1.out
      clear cf ef hvn hr3 hf3
      go_wp2
      refine bodyPost_ret (v := .agg #[.int .u64 (gen : Int), .slice a3 (u64s ys).length cap3]) ?_ rfl ⟨a3, cap3, by rw [fval, u64s_length], NR.out, fun ad e => ⟨(HF3.out ad e).1, by simpa [World.setCell] using (HF3.out ad e).2⟩, NB.out⟩
      simp [results, Tryd.results76, go_sem, s0, s1]
end Go.Proofs.YtdaijibkafepcaaDoor
