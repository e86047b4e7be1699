/-
  THE FACTS LAYER: what a law's walk keeps; Below of both is one.
-/
import Derived.Test.YtdaijibkafepcaaDoorFactsLaws
import Derived.Test.YtdaijibkafepcaaDoorBitsLaws
namespace Go.Proofs.YtdaijibkafepcaaDoor
open Go.RowKit
set_option linter.unusedVariables false

/-- A variable of type Facts: its block and its row. -/
structure Got (wr : World) (P : Nat) (g : Nat) (a : Option Addr) (l cap : Nat) (rows : List Nat) : Prop where
  box : wr.heap[P]? = some (.cells #[.int .u64 (g : Int), .slice a l cap] 55 (0, 0))
  row : VRow wr a (u64s rows)
theorem Got.call {wr w' : World} {P g : Nat} {a : Option Addr} {l cap : Nat} {rows : List Nat} (h : Got wr P g a l cap rows) (hb : Below wr.heap.size wr w') : Got w' P g a l cap rows := ⟨heap_old h.box hb, VRow.below h.row hb⟩
theorem Got.new {wr : World} {g : Nat} {a : Option Addr} {l cap : Nat} {rows : List Nat} (hr : VRow wr a (u64s rows)) : Got (wr.alloc (.cells #[.int .u64 (g : Int), .slice a l cap] 55)) wr.heap.size g a l cap rows := ⟨heapV_new _ _, VRow.below hr (box_new _)⟩
theorem KeepK.fat {w wr : World} {A B : Nat} {ca cb : Array Value} (h : KeepK w wr A B ca cb) {a : Option Addr} {g : Nat} {rows : List Nat} (hf : FAt w a g rows) : FAt wr a g rows := hf.below h.below
theorem KeepK.tabs {w wr : World} {A B : Nat} {ca cb : Array Value} (h : KeepK w wr A B ca cb) (ht : TabC w) : TabC wr := ht.below h.below
theorem KeepK.grow {w wr w' : World} {A B : Nat} {ca cb : Array Value} (h : KeepK w wr A B ca cb) (hb : Below wr.heap.size wr w') (o : Obj) : KeepK w (w'.alloc o) A B ca cb := (h.call hb).alloc o

theorem cut_both {w wB : World} {ga gb la la0 lb lb0 capa capb : Nat} {a b : Option Addr} (h : KeepK w wB w.heap.size (w.heap.size + 1) #[.int .u64 (ga : Int), .slice a la0 capa] #[.int .u64 (gb : Int), .slice b lb0 capb]) :
    KeepK w ((((wB.setCell ⟨w.heap.size, 0, none⟩ (.int .u64 (ga : Int))).setCell ⟨w.heap.size, 1, none⟩ (.slice a la capa)).setCell ⟨w.heap.size + 1, 0, none⟩ (.int .u64 (gb : Int))).setCell ⟨w.heap.size + 1, 1, none⟩ (.slice b lb capb)) w.heap.size (w.heap.size + 1) #[.int .u64 (ga : Int), .slice a la capa] #[.int .u64 (gb : Int), .slice b lb capb] where
  hA := heap_other (heap_other (two_set1 (two_set0 h.hA)) (by omega)) (by omega)
  hB := two_set1 (two_set0 (heap_other (heap_other h.hB (by omega)) (by omega)))
  below := (((h.below.setCell (p := ⟨w.heap.size, 0, none⟩) (by simp) _).setCell (p := ⟨w.heap.size, 1, none⟩) (by simp) _).setCell (p := ⟨w.heap.size + 1, 0, none⟩) (by simp) _).setCell (p := ⟨w.heap.size + 1, 1, none⟩) (by simp) _
theorem extV_len {n : Int} {ga gb : Nat} {xs ys : List Nat} (h : xs.length ≤ 100) : (extV n ga xs gb ys).length ≤ 100 := by
  unfold extV
  split
  · simp only [canonL_length, List.length_map]; omega
  · simp
theorem same_self (g : Nat) (zs : List Nat) : sameB g zs g zs = true := by simp [sameB]
theorem or_below {a b : Nat} (ha : a < 18446744073709551616) (hb : b < 18446744073709551616) : a ||| b = b ↔ andn a b = 0 := by
  constructor
  · intro h
    apply Nat.eq_of_testBit_eq
    intro j
    rw [andn_bit ha hb, Nat.zero_testBit]
    have := congrArg (fun n => n.testBit j) h
    simp only [Nat.testBit_or] at this
    cases h1 : a.testBit j <;> cases h2 : b.testBit j <;> simp_all
  · intro h
    apply Nat.eq_of_testBit_eq
    intro j
    have := congrArg (fun n => n.testBit j) h
    simp only [andn_bit ha hb, Nat.zero_testBit] at this
    rw [Nat.testBit_or]
    cases h1 : a.testBit j <;> cases h2 : b.testBit j <;> simp_all
theorem row_below {x y g : Nat} (hx : x < 18446744073709551616) (hy : y < 18446744073709551616) (hg : g < 18446744073709551616) (hc : y &&& g = 0) : andn (x ||| y) g = y ↔ andn x (g ||| y) = 0 := by
  have hxy := or64 hx hy
  have hgy := or64 hg hy
  constructor
  · intro h
    apply Nat.eq_of_testBit_eq
    intro j
    have h1 := congrArg (fun n => n.testBit j) h
    simp only [andn_bit hxy hg, Nat.testBit_or] at h1
    rw [andn_bit hx hgy, Nat.testBit_or, Nat.zero_testBit]
    cases e1 : x.testBit j <;> cases e2 : y.testBit j <;> cases e3 : g.testBit j <;> simp_all
  · intro h
    apply Nat.eq_of_testBit_eq
    intro j
    have h1 := congrArg (fun n => n.testBit j) h
    simp only [andn_bit hx hgy, Nat.testBit_or, Nat.zero_testBit] at h1
    have h2 := congrArg (fun n => n.testBit j) hc
    simp only [Nat.testBit_and, Nat.zero_testBit] at h2
    rw [andn_bit hxy hg, Nat.testBit_or]
    cases e1 : x.testBit j <;> cases e2 : y.testBit j <;> cases e3 : g.testBit j <;> simp_all
theorem below_iff {n : Int} {ga gb : Nat} {xs ys : List Nat} (hga : ga < 18446744073709551616) (hgb : gb < 18446744073709551616) (hx : ∀ r ∈ xs, r < 18446744073709551616) (hy : ∀ r ∈ ys, r < 18446744073709551616) (h : bothE n ga xs gb ys = 0) :
    BelowP ga xs gb ys ↔ sameB (combG n ga xs gb ys) (combV n ga xs gb ys) gb ys = true := by
  obtain ⟨m, _, _, hxm, hym⟩ := bothE_len h
  obtain ⟨_, hc2⟩ := bothE_ok h
  obtain ⟨_, _, hcl⟩ := checkE_ok hc2
  unfold clearB at hcl
  rw [List.all_eq_true] at hcl
  rw [combG, if_pos h, combV, if_pos h, sameB, Bool.and_eq_true, beq_iff_eq, beq_iff_eq]
  constructor
  · rintro ⟨h1, h2⟩
    have e := (or_below hga hgb).2 h1
    refine ⟨e, ?_⟩
    rw [e]
    refine list_eq_of (by rw [canonL_length, orL_len (by omega)]; omega) fun i u y hu hyi => ?_
    obtain ⟨x, hxi⟩ : ∃ x, xs[i]? = some x := by
      have := (List.getElem?_eq_some_iff.1 hyi).1
      exact ⟨xs[i]'(by omega), List.getElem?_eq_getElem (by omega)⟩
    have h3 := orL_at hxi hyi
    have h4 : (canonL gb (orL xs ys))[i]? = some (andn (x ||| y) gb) := by simp [canonL, h3]
    rw [h4] at hu
    cases hu
    have hcy := hcl y (List.mem_of_getElem? hyi)
    exact (row_below (hx x (List.mem_of_getElem? hxi)) (hy y (List.mem_of_getElem? hyi)) hgb (by simpa using hcy)).2 (h2 i x y hxi hyi)
  · rintro ⟨e, h2⟩
    refine ⟨(or_below hga hgb).1 e, fun i x y hxi hyi => ?_⟩
    rw [e] at h2
    have h3 := orL_at hxi hyi
    have h4 : (canonL gb (orL xs ys))[i]? = some (andn (x ||| y) gb) := by simp [canonL, h3]
    rw [h2, hyi] at h4
    have h5 : y = andn (x ||| y) gb := by simpa using h4
    have hcy := hcl y (List.mem_of_getElem? hyi)
    exact (row_below (hx x (List.mem_of_getElem? hxi)) (hy y (List.mem_of_getElem? hyi)) hgb (by simpa using hcy)).1 h5.symm
end Go.Proofs.YtdaijibkafepcaaDoor
