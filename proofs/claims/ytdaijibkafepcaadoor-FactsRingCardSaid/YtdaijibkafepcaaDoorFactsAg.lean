/-
  THE FACTS LAYER: the contracts of combine, extend, Same in the form in which the law FactsRing's regions meet them.
-/
import Derived.Test.YtdaijibkafepcaaDoorFactsKeep3
namespace Go.Proofs.YtdaijibkafepcaaDoor
open Go.RowKit
set_option linter.unusedVariables false

theorem good_fat {m g : Nat} {rows : List Nat} {w : World} {a : Option Addr} (h : Good m g rows) (hr : VRow w a (u64s rows)) : FAt w a g rows := ⟨hr, h.g64, h.r64, by rw [h.hl]; have := h.hm; omega⟩
theorem combine_ag (n : Int) (a b : Option Addr) (capa capb ga gb : Nat) (xs ys : List Nat) (w : World) (hfa : FAt w a ga xs) (hfb : FAt w b gb ys) (g : Nat) (hg : combG n ga xs gb ys = g) (zs : List Nat) (hz : combV n ga xs gb ys = zs) (la lb lz : Nat) (hla : xs.length = la) (hlb : ys.length = lb) (hlz : zs.length = lz) :
    Calls Tryd.prog 57 #[.int .i64 n, .agg #[.int .u64 (ga : Int), .slice a la capa], .agg #[.int .u64 (gb : Int), .slice b lb capb]] w fun e w' => ∃ a' c', e = .returned (.agg #[.int .u64 (g : Int), .slice a' lz c']) ∧ VRow w' a' (u64s zs) ∧ Below w.heap.size w w' :=
  (combine_is n a b capa capb ga gb xs ys w hfa hfb g hg zs hz la lb hla hlb).mono fun e w' ⟨a', c', he, hr, _, hb⟩ => ⟨a', c', by rw [he, fval, hlz], hr, hb⟩
theorem extend_ag (n : Int) (a b : Option Addr) (capa capb ga gb : Nat) (xs ys : List Nat) (w : World) (hfa : FAt w a ga xs) (hfb : FAt w b gb ys) (ht : TabC w) (g : Nat) (hg : extG n ga xs gb ys = g) (zs : List Nat) (hz : extV n ga xs gb ys = zs) (la lb lz : Nat) (hla : xs.length = la) (hlb : ys.length = lb) (hlz : zs.length = lz) :
    Calls Tryd.prog 58 #[.int .i64 n, .agg #[.int .u64 (ga : Int), .slice a la capa], .agg #[.int .u64 (gb : Int), .slice b lb capb]] w fun e w' => ∃ a' c', e = .returned (.agg #[.int .u64 (g : Int), .slice a' lz c']) ∧ VRow w' a' (u64s zs) ∧ Below w.heap.size w w' :=
  (extend_is n a b capa capb ga gb xs ys w hfa hfb ht g hg zs hz la lb hla hlb).mono fun e w' ⟨a', c', he, hr, _, hb⟩ => ⟨a', c', by rw [he, fval, hlz], hr, hb⟩
theorem same_ag (a b : Option Addr) (capa capb g l : Nat) (xs : List Nat) (w : World) (hx : xs.length ≤ 100) (hra : VRow w a (u64s xs)) (hrb : VRow w b (u64s xs)) (hl : xs.length = l) :
    Calls Tryd.prog 45 #[.agg #[.int .u64 (g : Int), .slice a l capa], .agg #[.int .u64 (g : Int), .slice b l capb]] w fun e w' => e = .returned (.bool true) ∧ Below w.heap.size w w' :=
  sameR_is a b capa capb g g xs xs w hx hx hra hrb true (same_self _ _) l l hl hl
end Go.Proofs.YtdaijibkafepcaaDoor
