/-
  THE FACTS LAYER: the laws' helper good.
-/
import Derived.Test.YtdaijibkafepcaaDoorFactsAlg
namespace Go.Proofs.YtdaijibkafepcaaDoor
open Go.RowKit
set_option linter.unusedVariables false

structure FItem where
  g : Nat
  a : Option Addr
  len : Nat
  cap : Nat
  rows : List Nat
def FItems (w : World) (b off : Nat) (fs : List FItem) : Prop := ∀ (i : Nat) f, fs[i]? = some f → w.cell? ⟨b, off + i * 2, none⟩ = some (.int .u64 (f.g : Int)) ∧ w.cell? ⟨b, off + i * 2 + 1, none⟩ = some (.slice f.a f.len f.cap) ∧ FAt w f.a f.g f.rows ∧ f.rows.length = f.len
set_option maxRecDepth 100000 in
set_option maxHeartbeats 2000000 in
theorem good_is (n : Int) (b off k cap : Nat) (fs : List FItem) (hl : fs.length = k) (hk64 : k ≤ 100) (w : World) (h : FItems w b off fs) (r : Bool) (hr : (fs.all fun f => decide (checkE n f.g f.rows = 0)) = r) :
    Calls Tryd.prog 56 #[.int .i64 n, .slice (some ⟨b, off, none⟩) k cap] w fun e w' => e = .returned (.bool r) ∧ Below w.heap.size w w' := by
  have HI := Lib.hid h; have HL := Lib.hid hl; have HR := Lib.hid hr
  clear h hl hr
  go_enter Tryd.func56, Tryd.ntmps56
  go_wp2_with fail
  go_loopw [5] (fun i wr => ∃ j : Nat, j ≤ k ∧ i = .int .i64 j ∧ Hid (∀ (i : Nat) f, i < j → fs[i]? = some f → checkE n f.g f.rows = 0) ∧ Below w.heap.size w wr) (fun i _ => k - (intOf i).toNat)
  case atStart => exact ⟨0, Nat.zero_le _, rfl, fun i f hi => by omega, Below.refl _ _⟩
  case round =>
    obtain ⟨j, hj, rfl, HK, hb⟩ := hrel
    by_cases hlt : j < k
    · obtain ⟨f, hf⟩ : ∃ f, fs[j]? = some f := ⟨fs[j]'(by rw [HL.out]; exact hlt), List.getElem?_eq_getElem _⟩
      have HF := Lib.hid hf
      obtain ⟨h1, h2, h3, h4⟩ := HI.out j f hf
      obtain ⟨g, a, len, cp, rows⟩ := f
      have c0 := (hb.cell (cell_lt h1)).trans h1
      have c1 := (hb.cell (cell_lt h2)).trans h2
      have H3 := Lib.hid (h3.below hb); have H4 := Lib.hid h4
      obtain ⟨c, hc⟩ : ∃ c, checkE n g rows = c := ⟨_, rfl⟩
      have HC := Lib.hid hc
      have g0 : (0 : Int) ≤ (j : Int) := by omega
      have g1 : (j : Int) < (k : Int) := by omega
      dsimp only at c0 c1
      by_cases hz : c = 0
      · subst hz
        have HNX : Hid (∀ (i : Nat) f, i < j + 1 → fs[i]? = some f → checkE n f.g f.rows = 0) := fun i f hi hp => by
          by_cases e : i = j
          · subst e; rw [hf] at hp; cases hp; exact hc
          · exact HK.out i f (by omega) hp
        clear hf h1 h2 h3 h4 hc
        go_wp2_with fail
        refine (checkR_is n a cp g rows _ H3.out 0 HC.out len H4.out).mono ?_
        rintro e w1 ⟨rfl, hb1⟩
        have hb' := hb.trans (hb1.mono hb.size)
        go_wp2
        go_roundw
        case rel => exact ⟨j + 1, by omega, by go_num, HNX, hb'⟩
        case measure => simp [intOf]; omega
      · have hne : (c != 0) = true := by simpa using hz
        have HX : Hid (r = false) := by
          show _ = _
          rw [← HR.out, List.all_eq_false]
          exact ⟨_, List.mem_of_getElem? hf, by simp [hc, hz]⟩
        clear hf h1 h2 h3 h4 hc
        go_wp2_with fail
        refine (checkR_is n a cp g rows _ H3.out c HC.out len H4.out).mono ?_
        rintro e w1 ⟨rfl, hb1⟩
        go_wp2
        have hx9 := HX.out
        subst hx9
        go_ret
        exact ⟨rfl, hb.trans (hb1.mono hb.size)⟩
    · have HX : Hid (r = true) := by
        show _ = _
        rw [← HR.out, List.all_eq_true]
        intro f hf
        obtain ⟨i, hi⟩ := List.getElem?_of_mem hf
        have := (List.getElem?_eq_some_iff.1 hi).1
        rw [HL.out] at this
        simpa using HK.out i f (by omega) hi
      have g1 : (k : Int) ≤ (j : Int) := by omega
      go_wp2
      have hx9 := HX.out
      subst hx9
      go_ret
      exact ⟨rfl, hb⟩
theorem items2 {w : World} {b : Nat} {f0 f1 : FItem} {T : TypeId} (h : w.heap[b]? = some (.cells #[.int .u64 (f0.g : Int), .slice f0.a f0.len f0.cap, .int .u64 (f1.g : Int), .slice f1.a f1.len f1.cap] T (0, 0)))
    (h0 : FAt w f0.a f0.g f0.rows ∧ f0.rows.length = f0.len) (h1 : FAt w f1.a f1.g f1.rows ∧ f1.rows.length = f1.len) : FItems w b 0 [f0, f1] := by
  have hc : ∀ (j : Nat) v, (#[Value.int .u64 (f0.g : Int), .slice f0.a f0.len f0.cap, .int .u64 (f1.g : Int), .slice f1.a f1.len f1.cap] : Array Value)[j]? = some v → w.cell? ⟨b, j, none⟩ = some v := fun j v hv => by
    unfold World.cell?; simp only [h]; exact hv
  intro i f hi
  match i, hi with
  | 0, hi => obtain rfl : f0 = f := by simpa using hi
             exact ⟨hc 0 _ rfl, hc 1 _ rfl, h0.1, h0.2⟩
  | 1, hi => obtain rfl : f1 = f := by simpa using hi
             exact ⟨hc 2 _ rfl, hc 3 _ rfl, h1.1, h1.2⟩
  | k + 2, hi => simp at hi
end Go.Proofs.YtdaijibkafepcaaDoor
