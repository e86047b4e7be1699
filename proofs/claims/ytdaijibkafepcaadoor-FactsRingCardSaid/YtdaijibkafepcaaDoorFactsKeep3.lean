/-
  THE FACTS LAYER: three boxes that stay (for the law FactsRing).
-/
import Derived.Test.YtdaijibkafepcaaDoorFactsRingM
namespace Go.Proofs.YtdaijibkafepcaaDoor
open Go.RowKit
set_option linter.unusedVariables false

structure Keep3 (w wr : World) (A B C : Nat) (ca cb cc : Array Value) : Prop where
  hA : wr.heap[A]? = some (.cells ca 55 (0, 0))
  hB : wr.heap[B]? = some (.cells cb 55 (0, 0))
  hC : wr.heap[C]? = some (.cells cc 55 (0, 0))
  below : Below w.heap.size w wr
section
variable {w wr w' : World} {A B C : Nat} {ca cb cc : Array Value}
theorem Keep3.drew (h : Keep3 w wr A B C ca cb cc) : Keep3 w wr.drew A B C ca cb cc := ⟨h.hA, h.hB, h.hC, h.below.drew⟩
theorem Keep3.alloc (h : Keep3 w wr A B C ca cb cc) (o : Obj) : Keep3 w (wr.alloc o) A B C ca cb cc := ⟨heap_allocd h.hA o, heap_allocd h.hB o, heap_allocd h.hC o, h.below.alloc h.below.size o⟩
theorem Keep3.call (h : Keep3 w wr A B C ca cb cc) (hb : Below wr.heap.size wr w') : Keep3 w w' A B C ca cb cc := ⟨heap_old h.hA hb, heap_old h.hB hb, heap_old h.hC hb, h.below.trans (hb.mono h.below.size)⟩
theorem Keep3.fat (h : Keep3 w wr A B C ca cb cc) {a : Option Addr} {g : Nat} {rows : List Nat} (hf : FAt w a g rows) : FAt wr a g rows := hf.below h.below
theorem Keep3.tabs (h : Keep3 w wr A B C ca cb cc) (ht : TabC w) : TabC wr := ht.below h.below
theorem Keep3.grow (h : Keep3 w wr A B C ca cb cc) (hb : Below wr.heap.size wr w') (o : Obj) : Keep3 w (w'.alloc o) A B C ca cb cc := (h.call hb).alloc o
end
theorem cut_three {w wB : World} {ga gb gc la la0 lb lb0 lc lc0 capa capb capc : Nat} {a b c : Option Addr} (h : Keep3 w wB w.heap.size (w.heap.size + 1) (w.heap.size + 1 + 1) #[.int .u64 (ga : Int), .slice a la0 capa] #[.int .u64 (gb : Int), .slice b lb0 capb] #[.int .u64 (gc : Int), .slice c lc0 capc]) :
    Keep3 w ((((((wB.setCell ⟨w.heap.size, 0, none⟩ (.int .u64 (ga : Int))).setCell ⟨w.heap.size, 1, none⟩ (.slice a la capa)).setCell ⟨w.heap.size + 1, 0, none⟩ (.int .u64 (gb : Int))).setCell ⟨w.heap.size + 1, 1, none⟩ (.slice b lb capb)).setCell ⟨w.heap.size + 1 + 1, 0, none⟩ (.int .u64 (gc : Int))).setCell ⟨w.heap.size + 1 + 1, 1, none⟩ (.slice c lc capc)) w.heap.size (w.heap.size + 1) (w.heap.size + 1 + 1) #[.int .u64 (ga : Int), .slice a la capa] #[.int .u64 (gb : Int), .slice b lb capb] #[.int .u64 (gc : Int), .slice c lc capc] where
  hA := heap_other (heap_other (heap_other (heap_other (two_set1 (two_set0 h.hA)) (by omega)) (by omega)) (by omega)) (by omega)
  hB := heap_other (heap_other (two_set1 (two_set0 (heap_other (heap_other h.hB (by omega)) (by omega)))) (by omega)) (by omega)
  hC := two_set1 (two_set0 (heap_other (heap_other (heap_other (heap_other h.hC (by omega)) (by omega)) (by omega)) (by omega)))
  below := (((((h.below.setCell (p := ⟨w.heap.size, 0, none⟩) (by simp) _).setCell (p := ⟨w.heap.size, 1, none⟩) (by simp) _).setCell (p := ⟨w.heap.size + 1, 0, none⟩) (by simp) _).setCell (p := ⟨w.heap.size + 1, 1, none⟩) (by simp) _).setCell (p := ⟨w.heap.size + 1 + 1, 0, none⟩) (by simp; omega) _).setCell (p := ⟨w.heap.size + 1 + 1, 1, none⟩) (by simp; omega) _
/-- A row in memory that a call has made, seen later. -/
theorem row_later {w w' : World} {a : Option Addr} {rows : List Nat} (h : VRow w a (u64s rows)) (hb : Below w.heap.size w w') : VRow w' a (u64s rows) := VRow.below h hb
end Go.Proofs.YtdaijibkafepcaaDoor
