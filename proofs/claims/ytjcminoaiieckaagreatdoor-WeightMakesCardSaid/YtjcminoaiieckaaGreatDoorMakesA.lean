import Derived.IntWalk
import Derived.Laws.Tables
import Derived.Laws.Concat
import Derived.Laws.MakeOwn
import Derived.Test.YtjcminoaiieckaaGreatDoorProg
import Derived.Laws.OwnMore
import Derived.OwnWalk
import Derived.Lib.TrailingZeros
import Derived.Laws.BitsAllLaws
import Derived.Laws.Bits64
import Derived.WalkKit
import Derived.WalkSmall
import Derived.Lib.Hide
import Derived.Deep.QuietTactic
import Derived.BigQuiet
import Derived.RegionTactic
import Derived.BigRegion
import Derived.Deep.RegionHeld3
import Derived.ChangeAlike
import Derived.Deep.AppendLies
import Derived.Test.YtjcminoaiieckaaGreatDoorRingA
import Derived.Test.YtjcminoaiieckaaGreatDoorRingB
import Derived.Test.YtjcminoaiieckaaGreatDoorRingC
set_option linter.unusedVariables false
set_option linter.unusedSimpArgs false
set_option linter.unusedSectionVars false
set_option linter.unnecessarySimpa false
namespace Go.Proofs.YtjcminoaiieckaaGreatDoor
open Go Go.RowKit
set_option linter.unusedVariables false
theorem Agree.mono {lo lo' : Nat} {A W : World} (h : Agree lo A W) (hl : lo ≤ lo') : Agree lo' A W := ⟨h.1, fun b h1 h2 => h.2 b (Nat.le_trans hl h1) h2⟩
theorem Agree.trans {lo : Nat} {A B C : World} (h : Agree lo A B) (k : Agree lo B C) : Agree lo A C :=
  ⟨Nat.le_trans h.1 k.1, fun b h1 h2 => (k.2 b h1 (Nat.lt_of_lt_of_le h2 h.1)).trans (h.2 b h1 h2)⟩
section
variable {w0 W : World} {O : Own} {G : Grows} {K : List (Nat × World)}
end
section
variable {P : Program} {n : Nat} {Q : Exit → Act → World → Prop} {l : Fr} {w0 W : World} {ops : Array Oper} {os : List Oper} {O : Own} {G : Grows} {K : List (Nat × World)}
variable {d : Nat} {ty : TypeId} {pos : String} {aft : Array Edge} {v : Value}
end
end Go.Proofs.YtjcminoaiieckaaGreatDoor
namespace Go.Proofs.YtjcminoaiieckaaGreatDoor
open Go Go.RowKit
set_option linter.unusedVariables false
section
variable {P : Program} {n : Nat} {Q : Exit → Act → World → Prop} {l : Fr} {w0 W : World} {ops : Array Oper} {os : List Oper} {O : Own} {G : Grows} {K : List (Nat × World)}
variable {d : Nat} {ty : TypeId} {pos : String} {aft : Array Edge} {v : Value} {t u : TypeId} {x y : Operand} {k : IntKind} {a b : Int}
theorem rn_eqlB {p q : Bool} (hB : P.underlying t = some .bool) (hx : evL l x = some (.bool p)) (hy : evL l y = some (.bool q)) : Runs P l ⟨some d, .binOp .eql t x y u, ty, pos, aft, none⟩ W (.bool (p == q)) W := fun ev he => binop_run (he x _ hx) (he y _ hy) rfl (run_eql_bool W t p q hB)
theorem op_eqlB {p q : Bool} (hB : P.underlying t = some .bool) (hx : evL l x = some (.bool p)) (hy : evL l y = some (.bool q)) (hd : Nat.blt d n = true) (h : OpsF P n ops Q os ((d, .bool (p == q)) :: l) W) : OpsF P n ops Q (⟨some d, .binOp .eql t x y u, ty, pos, aft, none⟩ :: os) l W := opV (rn_eqlB hB hx hy) hd h
theorem rn_sub {c : Int} (hx : evL l x = some (.int k a)) (hy : evL l y = some (.int k b)) (hw : k.wrap (a - b) = c) : Runs P l ⟨some d, .binOp .sub t x y u, ty, pos, aft, none⟩ W (.int k c) W := fun ev he => by subst hw; exact binop_run (he x _ hx) (he y _ hy) guard_int (by simp [binOp, Op.intArith])
end
end Go.Proofs.YtjcminoaiieckaaGreatDoor
namespace Go.Proofs.YtjcminoaiieckaaGreatDoor
open Go Go.RowKit
set_option linter.unusedVariables false
section
variable {P : Program} {n : Nat} {Q : Exit → Act → World → Prop} {l : Fr} {w0 W : World} {ops : Array Oper} {os : List Oper} {O : Own} {G : Grows} {K : List (Nat × World)} {L : List Asr} {i : Nat}
variable {d : Nat} {op : Op} {ty : TypeId} {pos : String} {aft : Array Edge} {v : Value} {gd : Option (Nat × Bool)}
def isRow (lo m : Nat) (e : TypeId) (cs : List Value) : Asr := fun v w => ∃ B, v = .slice (some ⟨B, 0, none⟩) m m ∧ lo ≤ B ∧ w.heap[B]? = some (.cells cs.toArray e (0, 0))
theorem stab_isRow {lo m : Nat} {e : TypeId} {cs : List Value} : Stab (isRow lo m e cs) := fun v w w' ⟨B, h1, h2, h3⟩ hb => ⟨B, h1, h2, (hb.block B (lt_of_heap h3)).trans h3⟩
theorem rg_rowV {T e : TypeId} {m s : Nat} {xs : List (Nat × Operand)} {us : List Value} {z : Value} {cs : List Value} (hi : ops[i]? = some ⟨some d, .buildSlice T m xs.toArray, ty, pos, aft, gd⟩) (hw : Wants ops L i ⟨some d, .buildSlice T m xs.toArray, ty, pos, aft, gd⟩)
    (hU : P.underlying T = some (.slice e)) (hs : ∀ w, (sizeOf e).run P w = .ok s w) (hz : ∀ w, (zeroValue e).run P w = .ok z w) (hm : Nat.ble (m * s) 16777216 = true) (hm0 : Nat.beq (m * s) 0 = false) (hp : AllP n ops l L i (xs.map (·.2)) (us.map isV))
    (hf : Instr.fill (fun i => some (i * s, s)) ((Array.range (m * s)).map (z.cells[· % z.cells.size]!)) ((xs.map (·.1)).zip us) = some cs.toArray) (hI : atI L i = isRow W.heap.size m e cs) : RG P n ops Q l W L i :=
  rg_row (us.map isV) hi hw hU hs hz hm hm0 hp fun vs w hb hh => by
    rw [holds_isV hh]
    exact ⟨cs, hf, fun B w' hB h1 h2 => by rw [hI]; exact ⟨B, rfl, by rw [← hB]; exact hb.size, h1⟩⟩
variable {Goal : List Asr → Prop}
end
end Go.Proofs.YtjcminoaiieckaaGreatDoor
namespace Go.Proofs.YtjcminoaiieckaaGreatDoor
open Go Go.RowKit
theorem bld_33 : Tryz.prog.built 33 [] = some #[.bool false, .int .i64 0, .int .u64 0, .slice none 0 0, .slice none 0 0, .slice none 0 0] := by kernel_rfl
theorem bld_33_4 (v4a : Option Addr) (v4l : Nat) (v4c : Nat) : Tryz.prog.built 33 [(4, .slice v4a v4l v4c)] = some #[.bool false, .int .i64 0, .int .u64 0, .slice none 0 0, .slice none 0 0, .slice v4a v4l v4c] := by kernel_rfl
theorem goes_23 : goesIn Tryz.prog 23 = true := by kernel_rfl
theorem goes_40 : goesIn Tryz.prog 40 = true := by kernel_rfl
theorem goes_42 : goesIn Tryz.prog 42 = true := by kernel_rfl
theorem goes_48 : goesIn Tryz.prog 48 = true := by kernel_rfl
theorem goes_49 : goesIn Tryz.prog 49 = true := by kernel_rfl
theorem goes_50 : goesIn Tryz.prog 50 = true := by kernel_rfl
theorem goes_68 : goesIn Tryz.prog 68 = true := by kernel_rfl
theorem goes_76 : goesIn Tryz.prog 76 = true := by kernel_rfl
end Go.Proofs.YtjcminoaiieckaaGreatDoor
namespace Go.Proofs.YtjcminoaiieckaaGreatDoor
open Go Go.RowKit
theorem bld_73_0 (v0 : Int) : Tryz.prog.built 73 [(0, .int .u64 v0)] = some #[.int .u64 v0, .int .i64 0, .int .i64 0] := by kernel_rfl
theorem goes_69 : goesIn Tryz.prog 69 = true := by kernel_rfl
theorem inf_73 : Tryz.prog.info? 73 = some Tryz.t73 := by kernel_rfl
end Go.Proofs.YtjcminoaiieckaaGreatDoor
namespace Go.Proofs.YtjcminoaiieckaaGreatDoor
open Go Go.RowKit
theorem bld_73_1_2 (v1 : Int) (v2 : Int) : Tryz.prog.built 73 [(1, .int .i64 v1), (2, .int .i64 v2)] = some #[.int .u64 0, .int .i64 v1, .int .i64 v2] := by kernel_rfl
theorem goes_123 : goesIn Tryz.prog 123 = true := by kernel_rfl
theorem goes_26 : goesIn Tryz.prog 26 = true := by kernel_rfl
theorem goes_28 : goesIn Tryz.prog 28 = true := by kernel_rfl
theorem goes_30 : goesIn Tryz.prog 30 = true := by kernel_rfl
theorem goes_31 : goesIn Tryz.prog 31 = true := by kernel_rfl
theorem goes_32 : goesIn Tryz.prog 32 = true := by kernel_rfl
theorem goes_53 : goesIn Tryz.prog 53 = true := by kernel_rfl
theorem goes_54 : goesIn Tryz.prog 54 = true := by kernel_rfl
theorem goes_57 : goesIn Tryz.prog 57 = true := by kernel_rfl
theorem goes_80 : goesIn Tryz.prog 80 = true := by kernel_rfl
theorem goes_81 : goesIn Tryz.prog 81 = true := by kernel_rfl
theorem goes_87 : goesIn Tryz.prog 87 = true := by kernel_rfl
theorem goes_88 : goesIn Tryz.prog 88 = true := by kernel_rfl
end Go.Proofs.YtjcminoaiieckaaGreatDoor
namespace Go.Proofs.YtjcminoaiieckaaGreatDoor
open Go.RowKit
set_option linter.unusedVariables false
set_option maxHeartbeats 1000000 in
theorem jn_00 (f f2 : Int) (w : World) : Calls Tryz.prog 81 #[.agg #[.int .u64 f, .int .i64 0, .int .i64 0], .agg #[.int .u64 f2, .int .i64 0, .int .i64 0]] w fun e w' => e = .returned (.agg #[.int .u64 (bits .or .u64 f f2), .int .i64 0, .int .i64 0]) ∧ Below w.heap.size w w' := by
  go_enter Tryz.func81, Tryz.ntmps81
  go_wp2
  all_goals (try go_region)
  all_goals go_wp2
  all_goals refine bodyPost_ret (v := .agg #[.int .u64 (bits .or .u64 f f2), .int .i64 0, .int .i64 0]) (by simp [results, Tryz.results81, go_sem]) rfl ⟨rfl, ?_⟩
  all_goals repeat (first | exact Below.refl _ _ | refine Below.drew ?_ | (refine Below.setCell ?_ (by simp) _) | (refine Below.alloc ?_ (by simp; try omega) _))

set_option maxHeartbeats 1000000 in
theorem jn_01 (f f2 : Int) (v2 : Int) (w : World) : Calls Tryz.prog 81 #[.agg #[.int .u64 f, .int .i64 0, .int .i64 0], .agg #[.int .u64 f2, .int .i64 1, .int .i64 v2]] w fun e w' => e = .returned (.agg #[.int .u64 (bits .or .u64 f f2), .int .i64 1, .int .i64 v2]) ∧ Below w.heap.size w w' := by
  go_enter Tryz.func81, Tryz.ntmps81
  go_wp2
  all_goals (try go_region)
  all_goals go_wp2
  all_goals refine bodyPost_ret (v := .agg #[.int .u64 (bits .or .u64 f f2), .int .i64 1, .int .i64 v2]) (by simp [results, Tryz.results81, go_sem]) rfl ⟨rfl, ?_⟩
  all_goals repeat (first | exact Below.refl _ _ | refine Below.drew ?_ | (refine Below.setCell ?_ (by simp) _) | (refine Below.alloc ?_ (by simp; try omega) _))

set_option maxHeartbeats 1000000 in
theorem jn_02 (f f2 : Int) (w : World) : Calls Tryz.prog 81 #[.agg #[.int .u64 f, .int .i64 0, .int .i64 0], .agg #[.int .u64 f2, .int .i64 2, .int .i64 0]] w fun e w' => e = .returned (.agg #[.int .u64 0, .int .i64 2, .int .i64 0]) ∧ Below w.heap.size w w' := by
  go_enter Tryz.func81, Tryz.ntmps81
  go_wp2
  all_goals (try go_region)
  all_goals go_wp2
  all_goals refine bodyPost_ret (v := .agg #[.int .u64 0, .int .i64 2, .int .i64 0]) (by simp [results, Tryz.results81, go_sem]) rfl ⟨rfl, ?_⟩
  all_goals repeat (first | exact Below.refl _ _ | refine Below.drew ?_ | (refine Below.setCell ?_ (by simp) _) | (refine Below.alloc ?_ (by simp; try omega) _))

set_option maxHeartbeats 1000000 in
theorem jn_10 (f f2 : Int) (v : Int) (w : World) : Calls Tryz.prog 81 #[.agg #[.int .u64 f, .int .i64 1, .int .i64 v], .agg #[.int .u64 f2, .int .i64 0, .int .i64 0]] w fun e w' => e = .returned (.agg #[.int .u64 (bits .or .u64 f f2), .int .i64 1, .int .i64 v]) ∧ Below w.heap.size w w' := by
  go_enter Tryz.func81, Tryz.ntmps81
  go_wp2
  all_goals (try go_region)
  all_goals go_wp2
  all_goals refine bodyPost_ret (v := .agg #[.int .u64 (bits .or .u64 f f2), .int .i64 1, .int .i64 v]) (by simp [results, Tryz.results81, go_sem]) rfl ⟨rfl, ?_⟩
  all_goals repeat (first | exact Below.refl _ _ | refine Below.drew ?_ | (refine Below.setCell ?_ (by simp) _) | (refine Below.alloc ?_ (by simp; try omega) _))

set_option maxHeartbeats 1000000 in
theorem jn_11 (f f2 : Int) (v : Int) (w : World) : Calls Tryz.prog 81 #[.agg #[.int .u64 f, .int .i64 1, .int .i64 v], .agg #[.int .u64 f2, .int .i64 1, .int .i64 v]] w fun e w' => e = .returned (.agg #[.int .u64 (bits .or .u64 f f2), .int .i64 1, .int .i64 v]) ∧ Below w.heap.size w w' := by
  go_enter Tryz.func81, Tryz.ntmps81
  go_wp2
  all_goals (try go_region)
  all_goals go_wp2
  all_goals refine bodyPost_ret (v := .agg #[.int .u64 (bits .or .u64 f f2), .int .i64 1, .int .i64 v]) (by simp [results, Tryz.results81, go_sem]) rfl ⟨rfl, ?_⟩
  all_goals repeat (first | exact Below.refl _ _ | refine Below.drew ?_ | (refine Below.setCell ?_ (by simp) _) | (refine Below.alloc ?_ (by simp; try omega) _))

set_option maxHeartbeats 1000000 in
theorem jn_1x (f f2 : Int) (v v2 : Int) (hv : (v == v2) = false) (w : World) : Calls Tryz.prog 81 #[.agg #[.int .u64 f, .int .i64 1, .int .i64 v], .agg #[.int .u64 f2, .int .i64 1, .int .i64 v2]] w fun e w' => e = .returned (.agg #[.int .u64 0, .int .i64 2, .int .i64 0]) ∧ Below w.heap.size w w' := by
  go_enter Tryz.func81, Tryz.ntmps81
  go_wp2
  all_goals (try go_region)
  all_goals go_wp2
  all_goals refine bodyPost_ret (v := .agg #[.int .u64 0, .int .i64 2, .int .i64 0]) (by simp [results, Tryz.results81, go_sem]) rfl ⟨rfl, ?_⟩
  all_goals repeat (first | exact Below.refl _ _ | refine Below.drew ?_ | (refine Below.setCell ?_ (by simp) _) | (refine Below.alloc ?_ (by simp; try omega) _))

set_option maxHeartbeats 1000000 in
theorem jn_12 (f f2 : Int) (v : Int) (w : World) : Calls Tryz.prog 81 #[.agg #[.int .u64 f, .int .i64 1, .int .i64 v], .agg #[.int .u64 f2, .int .i64 2, .int .i64 0]] w fun e w' => e = .returned (.agg #[.int .u64 0, .int .i64 2, .int .i64 0]) ∧ Below w.heap.size w w' := by
  go_enter Tryz.func81, Tryz.ntmps81
  go_wp2
  all_goals (try go_region)
  all_goals go_wp2
  all_goals refine bodyPost_ret (v := .agg #[.int .u64 0, .int .i64 2, .int .i64 0]) (by simp [results, Tryz.results81, go_sem]) rfl ⟨rfl, ?_⟩
  all_goals repeat (first | exact Below.refl _ _ | refine Below.drew ?_ | (refine Below.setCell ?_ (by simp) _) | (refine Below.alloc ?_ (by simp; try omega) _))

set_option maxHeartbeats 1000000 in
theorem jn_20 (f f2 : Int) (w : World) : Calls Tryz.prog 81 #[.agg #[.int .u64 f, .int .i64 2, .int .i64 0], .agg #[.int .u64 f2, .int .i64 0, .int .i64 0]] w fun e w' => e = .returned (.agg #[.int .u64 0, .int .i64 2, .int .i64 0]) ∧ Below w.heap.size w w' := by
  go_enter Tryz.func81, Tryz.ntmps81
  go_wp2
  all_goals (try go_region)
  all_goals go_wp2
  all_goals refine bodyPost_ret (v := .agg #[.int .u64 0, .int .i64 2, .int .i64 0]) (by simp [results, Tryz.results81, go_sem]) rfl ⟨rfl, ?_⟩
  all_goals repeat (first | exact Below.refl _ _ | refine Below.drew ?_ | (refine Below.setCell ?_ (by simp) _) | (refine Below.alloc ?_ (by simp; try omega) _))

set_option maxHeartbeats 1000000 in
theorem jn_21 (f f2 : Int) (v2 : Int) (w : World) : Calls Tryz.prog 81 #[.agg #[.int .u64 f, .int .i64 2, .int .i64 0], .agg #[.int .u64 f2, .int .i64 1, .int .i64 v2]] w fun e w' => e = .returned (.agg #[.int .u64 0, .int .i64 2, .int .i64 0]) ∧ Below w.heap.size w w' := by
  go_enter Tryz.func81, Tryz.ntmps81
  go_wp2
  all_goals (try go_region)
  all_goals go_wp2
  all_goals refine bodyPost_ret (v := .agg #[.int .u64 0, .int .i64 2, .int .i64 0]) (by simp [results, Tryz.results81, go_sem]) rfl ⟨rfl, ?_⟩
  all_goals repeat (first | exact Below.refl _ _ | refine Below.drew ?_ | (refine Below.setCell ?_ (by simp) _) | (refine Below.alloc ?_ (by simp; try omega) _))

set_option maxHeartbeats 1000000 in
theorem jn_22 (f f2 : Int) (w : World) : Calls Tryz.prog 81 #[.agg #[.int .u64 f, .int .i64 2, .int .i64 0], .agg #[.int .u64 f2, .int .i64 2, .int .i64 0]] w fun e w' => e = .returned (.agg #[.int .u64 0, .int .i64 2, .int .i64 0]) ∧ Below w.heap.size w w' := by
  go_enter Tryz.func81, Tryz.ntmps81
  go_wp2
  all_goals (try go_region)
  all_goals go_wp2
  all_goals refine bodyPost_ret (v := .agg #[.int .u64 0, .int .i64 2, .int .i64 0]) (by simp [results, Tryz.results81, go_sem]) rfl ⟨rfl, ?_⟩
  all_goals repeat (first | exact Below.refl _ _ | refine Below.drew ?_ | (refine Below.setCell ?_ (by simp) _) | (refine Below.alloc ?_ (by simp; try omega) _))
theorem jn_any (a b : Cl) (ha : a.ok) (hb : b.ok) (w : World) : Calls Tryz.prog 81 #[a.val, b.val] w (JoinPost a b w) := by
  obtain ⟨f, k, v⟩ := a
  obtain ⟨f2, k2, v2⟩ := b
  obtain ⟨hf, hk⟩ := ha
  obtain ⟨hf2, hk2⟩ := hb
  simp only at hf hk hf2 hk2
  have ho := or_cast f f2 hf hf2
  rcases kind_cases hk with ⟨rfl, rfl⟩ | rfl | ⟨rfl, rfl⟩ <;> rcases kind_cases hk2 with ⟨rfl, rfl⟩ | rfl | ⟨rfl, rfl⟩
  · exact (jn_00 f f2 w).mono (to_post (by simp [joinK, ho]) (by simp [joinK]) (by simp [joinV]))
  · exact (jn_01 f f2 v2 w).mono (to_post (by simp [joinK, ho]) (by simp [joinK]) (by simp [joinV]))
  · exact (jn_02 f f2 w).mono (to_post (by simp [joinK]) (by simp [joinK]) (by simp [joinV]))
  · exact (jn_10 f f2 v w).mono (to_post (by simp [joinK, ho]) (by simp [joinK]) (by simp [joinV]))
  · by_cases hv : v = v2
    · subst hv
      exact (jn_11 f f2 v w).mono (to_post (by simp [joinK, ho]) (by simp [joinK]) (by simp [joinV]))
    · exact (jn_1x f f2 v v2 (by simp [hv]) w).mono (to_post (by simp [joinK, hv]) (by simp [joinK, hv]) (by simp [joinV, hv]))
  · exact (jn_12 f f2 v w).mono (to_post (by simp [joinK]) (by simp [joinK]) (by simp [joinV]))
  · exact (jn_20 f f2 w).mono (to_post (by simp [joinK]) (by simp [joinK]) (by simp [joinV]))
  · exact (jn_21 f f2 v2 w).mono (to_post (by simp [joinK]) (by simp [joinK]) (by simp [joinV]))
  · exact (jn_22 f f2 w).mono (to_post (by simp [joinK]) (by simp [joinK]) (by simp [joinV]))

end Go.Proofs.YtjcminoaiieckaaGreatDoor
namespace Go.Proofs.YtjcminoaiieckaaGreatDoor
open Go.RowKit
set_option linter.unusedVariables false
theorem flat_snoc (cs : List Cl) (c : Cl) : flat (cs ++ [c]) = flat cs ++ vals c := by simp [flat]
end Go.Proofs.YtjcminoaiieckaaGreatDoor
namespace Go.Proofs.YtjcminoaiieckaaGreatDoor
open Go.RowKit
set_option linter.unusedVariables false
theorem sameCl_eq {x y : Cl} : sameCl x y = true ↔ x = y := by
  obtain ⟨f, k, v⟩ := x; obtain ⟨f2, k2, v2⟩ := y
  simp [sameCl, and_assoc]
def sameC (xs ys : List Cl) : Bool := if xs.length = ys.length then (List.range xs.length).all fun i => match xs[i]?, ys[i]? with | some x, some y => sameCl x y | _, _ => true else false
theorem sameC_iff {xs ys : List Cl} : sameC xs ys = true ↔ xs = ys := by
  unfold sameC
  split
  · rename_i hl
    rw [List.all_eq_true]
    constructor
    · intro h
      apply List.ext_getElem? 
      intro i
      by_cases hi : i < xs.length
      · have := h i (List.mem_range.2 hi)
        rw [List.getElem?_eq_getElem hi, List.getElem?_eq_getElem (hl ▸ hi)] at this ⊢
        simp only at this
        rw [sameCl_eq.1 this]
      · rw [List.getElem?_eq_none (by omega), List.getElem?_eq_none (by omega)]
    · rintro rfl i hi
      have hi := List.mem_range.1 hi
      rw [List.getElem?_eq_getElem hi]
      exact sameCl_eq.2 rfl
  · rename_i hl
    simp
    intro e; exact hl (by rw [e])
theorem sameC_take {xs ys : List Cl} {k : Nat} {x y : Cl} (hl : xs.length = ys.length) (hk : k < xs.length) (hx : xs[k]? = some x) (hy : ys[k]? = some y) (h : sameCl x y = false) : sameC xs ys = false := by
  cases hs : sameC xs ys
  · rfl
  · rw [sameC_iff] at hs
    subst hs
    rw [hx] at hy
    cases hy
    rw [sameCl_eq.2 rfl] at h; cases h
end Go.Proofs.YtjcminoaiieckaaGreatDoor
namespace Go.Proofs.YtjcminoaiieckaaGreatDoor
open Go.RowKit
set_option linter.unusedVariables false
set_option maxRecDepth 100000 in
set_option maxHeartbeats 2000000 in
theorem equal_any (a b : Option Addr) (capa capb : Nat) (xs ys : List Cl) (w : World) (hm : xs.length ≤ maxLen) (hmb : ys.length ≤ maxLen) (hra : CRow w a xs) (hrb : CRow w b ys) (s : Bool) (hs : sameC xs ys = s) :
    Calls Tryz.prog 76 #[.slice a xs.length capa, .slice b ys.length capb] w fun e w' => e = .returned (.bool s) ∧ Below w.heap.size w w' := by
  unfold maxLen at hm hmb
  have HRA := Lib.hid hra; have HRB := Lib.hid hrb; have HS := Lib.hid hs
  clear hra hrb hs
  by_cases hl : xs.length = ys.length
  · have g1 : xs.length ≤ ys.length := by omega
    have g2 : ys.length ≤ xs.length := by omega
    have hne : ((xs.length : Int) != (ys.length : Int)) = false := by simp; omega
    have HL := Lib.hid hl
    clear hl
    go_enter Tryz.func76, Tryz.ntmps76
    go_wp2
    go_loopw [13] (fun i wr => ∃ k : Nat, k ≤ xs.length ∧ i = .int .i64 k ∧ Hid (∀ (j : Nat) x y, j < k → xs[j]? = some x → ys[j]? = some y → x = y) ∧ Below w.heap.size w wr) (fun i _ => xs.length - (intOf i).toNat)
    case atStart => exact ⟨0, Nat.zero_le _, rfl, (fun j x y h => by omega), Below.refl _ _⟩
    case round =>
      obtain ⟨k, hk, rfl, HE, hb⟩ := hrel
      by_cases hlt : k < xs.length
      · obtain ⟨ba, offa, x, rfl, hx, hba, a0, a1, a2⟩ := (HRA.out.below hb).at_ hlt
        obtain ⟨bb, offb, y, rfl, hy, hbb, b0, b1, b2⟩ := (HRB.out.below hb).at_ (show k < ys.length by omega)
        have g0 : (0 : Int) ≤ (k : Int) := by omega
        have g3 : (k : Int) < (xs.length : Int) := by omega
        have g4 : (k : Int) < (ys.length : Int) := by omega
        cases hxy : sameCl x y
        · have hq : ∀ W, (binOp .neq 73 (.agg #[.int .u64 (x.f : Int), .int .i64 x.k, .int .i64 x.v]) (.agg #[.int .u64 (y.f : Int), .int .i64 y.k, .int .i64 y.v])).run Tryz.prog W = .ok (.bool true) W := fun W => neq_is x y false hxy W
          have HT : Hid (s = false) := HS.out.symm.trans (sameC_take HL.out hlt hx hy hxy)
          clear hx hy hxy
          go_wp2
          go_quiet (fail)
          go_wp2
          go_ret
          exact ⟨ce_rbool HT.out.symm, below_drewN hb _⟩
        · have hq : ∀ W, (binOp .neq 73 (.agg #[.int .u64 (x.f : Int), .int .i64 x.k, .int .i64 x.v]) (.agg #[.int .u64 (y.f : Int), .int .i64 y.k, .int .i64 y.v])).run Tryz.prog W = .ok (.bool false) W := fun W => neq_is x y true hxy W
          have HE2 : Hid (∀ (j : Nat) x y, j < k + 1 → xs[j]? = some x → ys[j]? = some y → x = y) := by
            intro j x' y' hj h1 h2
            by_cases e : j = k
            · subst e
              rw [hx] at h1; rw [hy] at h2
              cases h1; cases h2
              exact sameCl_eq.1 hxy
            · exact HE.out j x' y' (by omega) h1 h2
          clear hx hy hxy
          go_wp2
          go_quiet (fail)
          go_wp2
          go_roundw
          case rel => exact ⟨k + 1, by omega, by go_num, HE2, below_drewN hb _⟩
          case measure => simp [intOf]; omega
      · have HT : Hid (s = true) := by
          show s = true
          rw [← HS.out, sameC_iff]
          apply List.ext_getElem?
          intro i
          by_cases hi : i < xs.length
          · have h1 := List.getElem?_eq_getElem hi
            have h2 := List.getElem?_eq_getElem (show i < ys.length by omega)
            rw [h1, h2, HE.out i _ _ (by omega) h1 h2]
          · rw [List.getElem?_eq_none (by omega), List.getElem?_eq_none (by omega)]
        go_wp2
        go_ret
        exact ⟨ce_rbool HT.out.symm, hb⟩
  · have HT : Hid (s = false) := by
      show s = false
      rw [← HS.out]; simp [sameC, hl]
    have hne : ((xs.length : Int) != (ys.length : Int)) = true := by simp; omega
    clear hl
    go_enter Tryz.func76, Tryz.ntmps76
    go_wp2
    go_ret
    exact ⟨ce_rbool HT.out.symm, Below.refl _ _⟩
end Go.Proofs.YtjcminoaiieckaaGreatDoor
namespace Go.Proofs.YtjcminoaiieckaaGreatDoor
def lanes (c : Nat) : Nat → Nat
  | 0 => 0
  | m + 1 => 256 * lanes c m + c
def py (m x : Nat) : Nat := (x / 2 &&& lanes 85 m) + (x &&& lanes 85 m)
end Go.Proofs.YtjcminoaiieckaaGreatDoor
namespace Go.Proofs.YtjcminoaiieckaaGreatDoor
open Go.RowKit
set_option linter.unusedVariables false
def hasB (f : Nat) (i : Int) : Bool := decide (0 ≤ i) && (decide (i < 64) && f.testBit i.toNat)
theorem hasR_num (f k : Nat) (hf : f < 18446744073709551616) : ((IntKind.u64.wrap ((f : Int) / ((2 ^ k : Nat) : Int))).tmod 2 == 1) = f.testBit k := by
  have h1 : f / 2 ^ k < 18446744073709551616 := Nat.lt_of_le_of_lt (Nat.div_le_self _ _) hf
  rw [← Int.natCast_ediv, Nat.testBit_eq_decide_div_mod_eq, IntKind.wrap_u64, tmod_of_emod]
  generalize f / 2 ^ k = q at *
  rw [Bool.eq_iff_iff, beq_iff_eq, decide_eq_true_iff]; omega
theorem hasR_is (f : Nat) (i : Int) (r : Bool) (hr : hasB f i = r) (hf : f < 18446744073709551616) (w : World) : Calls Tryz.prog 123 #[.int .u64 f, .int .i64 i] w fun e w' => e = .returned (.bool r) ∧ w = w' := by
  by_cases h0 : 0 ≤ i
  · by_cases h1 : i < 64
    · have hp : 0 < 2 ^ i.toNat := Nat.two_pow_pos _
      have hp2 : 2 ^ i.toNat ≤ 9223372036854775808 := pow_lt64 (by omega)
      have H : Hid (((IntKind.u64.wrap ((f : Int) / ((2 ^ i.toNat : Nat) : Int))).tmod 2 == 1) = r) := by
        show _ = _
        rw [hasR_num f _ hf, ← hr]; simp [hasB, h0, h1]
      have hq : f / 2 ^ i.toNat < 18446744073709551616 := Nat.lt_of_le_of_lt (Nat.div_le_self _ _) hf
      clear hr
      revert hp hp2 H hq
      obtain ⟨p, hpp⟩ : ∃ p : Nat, 2 ^ i.toNat = p := ⟨_, rfl⟩
      have HPP := Lib.hid hpp
      rw [hpp]
      intro hp hp2 H hq
      clear hpp
      have hd0 : ((p : Int) == 0) = false := by simp; omega
      go_enter Tryz.func123, Tryz.ntmps123
      go_wp2_with fail
      refine (worth_any i (by omega) _).mono ?_
      rintro e w1 ⟨rfl, rfl⟩
      rw [HPP.out]
      go_wp2
      go_ret
      exact ⟨rbool (by first | exact H.out | (have := H.out; simpa using this)), rfl⟩
    · have H : Hid (false = r) := by show _ = _; rw [← hr]; simp [hasB, h1]
      clear hr
      go_enter Tryz.func123, Tryz.ntmps123
      go_wp2
      go_ret
      exact ⟨rbool H.out, rfl⟩
  · have H : Hid (false = r) := by show _ = _; rw [← hr]; simp [hasB, h0]
    clear hr
    go_enter Tryz.func123, Tryz.ntmps123
    go_wp2
    go_ret
    exact ⟨rbool H.out, rfl⟩
end Go.Proofs.YtjcminoaiieckaaGreatDoor
namespace Go.Proofs.YtjcminoaiieckaaGreatDoor
open Go.RowKit
set_option linter.unusedVariables false
def memK (s k : Nat) : List Nat := (List.range k).filter s.testBit
theorem memK_yes {s k : Nat} (h : s.testBit k = true) : memK s (k + 1) = memK s k ++ [k] := by simp [memK, List.range_succ, List.filter_append, h]
theorem memK_no {s k : Nat} (h : s.testBit k = false) : memK s (k + 1) = memK s k := by simp [memK, List.range_succ, List.filter_append, h]
end Go.Proofs.YtjcminoaiieckaaGreatDoor
namespace Go.Proofs.YtjcminoaiieckaaGreatDoor
open Go.RowKit
set_option linter.unusedVariables false
theorem worth_at (i : Int) (j v : Nat) (hj : i.toNat = j) (hv : 2 ^ j = v) (hi : i ≤ 63) (w : World) : Calls Tryz.prog 69 #[.int .i64 i] w fun e w' => e = .returned (.int .u64 v) ∧ w = w' := by
  subst hv hj; exact worth_any i hi w
end Go.Proofs.YtjcminoaiieckaaGreatDoor
namespace Go.Proofs.YtjcminoaiieckaaGreatDoor
open Go.RowKit
set_option linter.unusedVariables false
theorem or_is (a b r : Nat) (ha : a < 18446744073709551616) (hb : b < 18446744073709551616) (hr : a ||| b = r) (w : World) : Calls Tryz.prog 118 #[.int .u64 a, .int .u64 b] w fun e w' => e = .returned (.int .u64 r) ∧ w = w' := by
  have H : Hid (bits .or .u64 (a : Int) (b : Int) = (r : Int)) := by show _ = _; rw [u64_or_nat a b ha hb, hr]
  go_enter Tryz.func118, Tryz.ntmps118
  go_wp2
  go_ret
  exact ⟨rint H.out, rfl⟩
end Go.Proofs.YtjcminoaiieckaaGreatDoor
namespace Go.Proofs.YtjcminoaiieckaaGreatDoor
open Go.RowKit
set_option linter.unusedVariables false
set_option maxRecDepth 100000 in
set_option maxHeartbeats 1000000 in
theorem twoR_is (n : Int) (a b : Option Addr) (capa capb ga gb : Nat) (xs ys : List Nat) (w : World) (hfa : FAt w a ga xs) (hfb : FAt w b gb ys) (r : Int) (hr : bothE n ga xs gb ys = r) (la lb : Nat) (hla : xs.length = la) (hlb : ys.length = lb) :
    Calls Tryz.prog 117 #[.int .i64 n, fval ga a la capa, fval gb b lb capb] w fun e w' => e = .returned (.int .i64 r) ∧ Below w.heap.size w w' := by
  unfold fval
  have hB0 : Below w.heap.size w ((w.alloc (.cells #[.int .u64 (ga : Int), .slice a la capa] 29)).alloc (.cells #[.int .u64 (gb : Int), .slice b lb capb] 29)) := ((Below.refl _ _).alloc (Nat.le_refl _) _).alloc (by simp) _
  have HA := Lib.hid (hfa.below hB0); have HB := Lib.hid (hfb.below hB0); have HLA := Lib.hid hla; have HLB := Lib.hid hlb
  obtain ⟨t0, t1⟩ := two_boxes w #[.int .u64 (ga : Int), .slice a la capa] #[.int .u64 (gb : Int), .slice b lb capb] 29
  have T1 := Lib.hid t1
  obtain ⟨s, hs⟩ : ∃ s, checkE n ga xs = s := ⟨_, rfl⟩
  have HS := Lib.hid hs
  by_cases h0 : s = 0
  · subst h0
    have HR : Hid (checkE n gb ys = r) := by show _ = _; rw [← hr, bothE, if_pos hs]
    clear hfa hfb hr hla hlb t0 t1 hs
    go_enter Tryz.func117, Tryz.ntmps117
    go_wp2_with fail
    refine (checkR_is n a capa ga xs _ HA.out 0 HS.out la HLA.out).mono ?_
    rintro e w1 ⟨rfl, hb1⟩
    have hB1 := hB0.trans (hb1.mono hB0.size)
    obtain ⟨d0, d1, _⟩ := two_cells (heap_old T1.out hb1)
    go_wp2_with fail
    refine (checkR_is n b capb gb ys _ (HB.out.below hb1) r HR.out lb HLB.out).mono ?_
    rintro e w2 ⟨rfl, hb2⟩
    go_wp2
    go_ret
    exact ⟨rfl, hB1.trans (hb2.mono hB1.size)⟩
  · have HR : Hid (s = r) := by show _ = _; rw [← hr, bothE, hs, if_neg h0]
    have hne : (s != 0) = true := by simpa using h0
    clear hfa hfb hr hla hlb t0 t1 hs h0
    go_enter Tryz.func117, Tryz.ntmps117
    go_wp2_with fail
    refine (checkR_is n a capa ga xs _ HA.out s HS.out la HLA.out).mono ?_
    rintro e w1 ⟨rfl, hb1⟩
    go_wp2
    go_ret
    exact ⟨rint HR.out, hB0.trans (hb1.mono hB0.size)⟩

end Go.Proofs.YtjcminoaiieckaaGreatDoor
namespace Go.Proofs.YtjcminoaiieckaaGreatDoor
open Go.RowKit Go.Shelf
set_option linter.unusedVariables false
section madeA
attribute [local go_sem] Oper.semAt_some
end madeA
theorem memK_mem {s m : Nat} (hs : s < 2 ^ m) (hm : m ≤ 64) : memK s m = mem s := by
  unfold memK mem
  obtain ⟨d, hd⟩ : ∃ d, 64 = m + d := ⟨64 - m, by omega⟩
  rw [hd, List.range_add, List.filter_append]
  have : ((List.range d).map (m + ·)).filter s.testBit = [] := by
    rw [List.filter_eq_nil_iff]
    intro x hx
    rw [List.mem_map] at hx
    obtain ⟨y, _, rfl⟩ := hx
    rw [Nat.testBit_lt_two_pow (Nat.lt_of_lt_of_le hs (Nat.pow_le_pow_right (by omega) (by omega)))]
    simp
  rw [this, List.append_nil]
set_option maxRecDepth 100000 in
set_option maxHeartbeats 1000000 in
theorem madeR_is (a : Option Addr) (cap gen : Nat) (rows : List Nat) (s : Nat) (hs : s < 2 ^ rows.length) (hl64 : rows.length ≤ 64) (w : World) (hf : FAt w a gen rows) (r : Nat) (hr : madeF gen rows s = r) (len : Nat) (hl : rows.length = len) :
    Calls Tryz.prog 122 #[fval gen a len cap, .int .u64 s] w fun e W' => e = .returned (.int .u64 r) ∧ Below w.heap.size w W' := by
  unfold fval
  have hs64 : s < 18446744073709551616 := Nat.lt_of_lt_of_le hs (pow_le64 hl64)
  have hB0 : Below w.heap.size w (w.alloc (.cells #[.int .u64 (gen : Int), .slice a len cap] 29)) := (Below.refl _ _).alloc (Nat.le_refl _) _
  have HF1 : Hid (FAt (w.alloc (.cells #[.int .u64 (gen : Int), .slice a len cap] 29)) a gen rows) := hf.below hB0
  have hgen := hf.gen
  have HALL := Lib.hid hf.all
  have HL := Lib.hid hl
  rw [hl] at hl64 hs
  have HR : Hid (accF rows gen (memK s len) = r) := by show _ = _; rw [memK_mem hs hl64]; exact hr
  clear hf hr hl hs
  go_enter Tryz.func122, Tryz.ntmps122
  go_wp2_with fail
  go_loopw [5, 6] (fun o i wr => ∃ (k u : Nat), k ≤ len ∧ i = .int .i64 k ∧ o = .int .u64 u ∧ u < 18446744073709551616 ∧ Hid (accF rows gen (memK s k) = u) ∧ (w.alloc (.cells #[.int .u64 (gen : Int), .slice a len cap] 29)) = wr) (fun _ i _ => len - (intOf i).toNat)
  case atStart => exact ⟨0, gen, Nat.zero_le _, rfl, rfl, hgen, rfl, rfl⟩
  case round =>
    obtain ⟨k, u, hk, rfl, rfl, hu, HU, rfl⟩ := hrel
    by_cases hlt : k < len
    · cases hbit : s.testBit k
      · have HN : Hid (accF rows gen (memK s (k + 1)) = u) := by show _ = _; rw [memK_no hbit]; exact HU.out
        have HH := Lib.hid (show hasB s k = false by simp [hasB, hbit])
        clear hbit
        go_wp2_with fail
        refine (hasR_is s k false HH.out hs64 _).mono ?_
        rintro e w1 ⟨rfl, rfl⟩
        go_wp2
        go_roundw
        case rel => exact ⟨k + 1, u, by omega, by go_num, rfl, hu, HN, by trivial⟩
        case measure => simp [intOf]; omega
      · obtain ⟨ba, offa, z, rfl, hz, hz64, hba, a0⟩ := HF1.out.at_ (i := k) (by rw [HL.out]; exact hlt)
        obtain ⟨q, hq⟩ : ∃ q, u ||| z = q := ⟨_, rfl⟩
        have hq64 : q < 18446744073709551616 := by rw [← hq]; exact or64 hu hz64
        have HN : Hid (accF rows gen (memK s (k + 1)) = q) := by
          show _ = _
          rw [memK_yes hbit, accF_snoc, HU.out, List.getD_eq_getElem?_getD, hz, ← hq]; rfl
        have HH := Lib.hid (show hasB s k = true by simp [hasB, hbit]; omega)
        have HQ := Lib.hid hq
        have g0 : (0 : Int) ≤ (k : Int) := by omega
        have g1 : (k : Int) < (len : Int) := by omega
        clear hbit hz hq
        go_wp2_with fail
        refine (hasR_is s k true HH.out hs64 _).mono ?_
        rintro e w1 ⟨rfl, rfl⟩
        go_wp2_with fail
        refine (or_is u z q hu hz64 HQ.out _).mono ?_
        rintro e w1 ⟨rfl, rfl⟩
        go_wp2
        go_roundw
        case rel => exact ⟨k + 1, q, by omega, by go_num, rfl, hq64, HN, by trivial⟩
        case measure => simp [intOf]; omega
    · have HE : Hid ((u : Int) = (r : Int)) := by
        show _ = _
        rw [← HU.out, ← HR.out, show k = len by omega]
      go_wp2
      go_ret
      exact ⟨rint HE.out, hB0⟩
end Go.Proofs.YtjcminoaiieckaaGreatDoor
namespace Go.Proofs.YtjcminoaiieckaaGreatDoor
open Go.RowKit
set_option linter.unusedVariables false
structure KeepK (w wr : World) (A B : Nat) (ca cb : Array Value) : Prop where
  hA : wr.heap[A]? = some (.cells ca 29 (0, 0))
  hB : wr.heap[B]? = some (.cells cb 29 (0, 0))
  below : Below w.heap.size w wr
theorem KeepK.drew {w wr : World} {A B : Nat} {ca cb : Array Value} (h : KeepK w wr A B ca cb) : KeepK w wr.drew A B ca cb := ⟨h.hA, h.hB, h.below.drew⟩
theorem KeepK.alloc {w wr : World} {A B : Nat} {ca cb : Array Value} (h : KeepK w wr A B ca cb) (o : Obj) : KeepK w (wr.alloc o) A B ca cb := ⟨heap_allocd h.hA o, heap_allocd h.hB o, h.below.alloc h.below.size o⟩
theorem KeepK.call {w wr w' : World} {A B : Nat} {ca cb : Array Value} (h : KeepK w wr A B ca cb) (hb : Below wr.heap.size wr w') : KeepK w w' A B ca cb := ⟨heap_old h.hA hb, heap_old h.hB hb, h.below.trans (hb.mono h.below.size)⟩
theorem KeepK.set {w wr : World} {A B F j : Nat} {ca cb : Array Value} (h : KeepK w wr A B ca cb) (h1 : A ≠ F) (h2 : B ≠ F) (h3 : w.heap.size ≤ F) (v : Value) : KeepK w (wr.setCell ⟨F, j, none⟩ v) A B ca cb := ⟨heap_other h.hA h1, heap_other h.hB h2, h.below.setCell (p := ⟨F, j, none⟩) h3 v⟩
theorem KeepK.grown {w wr w' : World} {A B base n : Nat} {ca cb : Array Value} {v : Value} {xs : List Value} (h : KeepK w wr A B ca cb) (hr : wr.ownsRow base 26 1 v n xs) (hb : w.heap.size ≤ base) (hg : wr.grownBy w' v.ownBlock) : KeepK w w' A B ca cb :=
  ⟨heap_grown h.hA (by decide) hr hg, heap_grown h.hB (by decide) hr hg, h.below.grown hg h.below.size (fun j e => Nat.le_trans hb (hr.lt j e).1)⟩
theorem KeepK.cells {w wr : World} {A B : Nat} {u1 u2 v1 v2 : Value} (h : KeepK w wr A B #[u1, u2] #[v1, v2]) {p q : Addr} {x y : Value} (hp : w.cell? p = some x) (hq : w.cell? q = some y) :
    wr.cell? ⟨A, 1, none⟩ = some u2 ∧ wr.cell? p = some x ∧ wr.cell? ⟨B, 1, none⟩ = some v2 ∧ wr.cell? q = some y :=
  ⟨(two_cells h.hA).2.1, (h.below.cell (cell_lt hp)).trans hp, (two_cells h.hB).2.1, (h.below.cell (cell_lt hq)).trans hq⟩
theorem orL_take {xs ys : List Nat} {k x y q : Nat} (hx : xs[k]? = some x) (hy : ys[k]? = some y) (hq : x ||| y = q) : (orL xs ys).take (k + 1) = (orL xs ys).take k ++ [q] := by
  have h2 := orL_at hx hy
  rw [hq] at h2
  obtain ⟨hk, e⟩ := List.getElem?_eq_some_iff.1 h2
  rw [List.take_succ_eq_append_getElem hk, e]
set_option maxRecDepth 100000 in
set_option maxHeartbeats 20000000 in
theorem combR_is (n : Int) (a b : Option Addr) (capa capb ga gb : Nat) (xs ys : List Nat) (w : World) (hfa : FAt w a ga xs) (hfb : FAt w b gb ys) (e0 : Int) (he : bothE n ga xs gb ys = e0) (g : Nat) (hg : combG n ga xs gb ys = g) (zs : List Nat) (hz : combV n ga xs gb ys = zs) (la lb : Nat) (hla : xs.length = la) (hlb : ys.length = lb) :
    Calls Tryz.prog 80 #[.int .i64 n, fval ga a la capa, fval gb b lb capb] w (FRet g zs e0 w) := by
  unfold fval
  have hB0 : Below w.heap.size w (((w.alloc (.cells #[.int .u64 (ga : Int), .slice a la capa] 29)).alloc (.cells #[.int .u64 (gb : Int), .slice b lb capb] 29)).alloc (.cells #[.int .u64 0, .slice none 0 0] 29)) := (((Below.refl _ _).alloc (Nat.le_refl _) _).alloc (by simp) _).alloc (by simp; omega) _
  have HA0 := Lib.hid hfa; have HBB0 := Lib.hid hfb
  have HA := Lib.hid (hfa.below hB0); have HB := Lib.hid (hfb.below hB0); have HLA := Lib.hid hla; have HLB := Lib.hid hlb
  obtain ⟨t0, t1, t2⟩ := three_boxes w #[.int .u64 (ga : Int), .slice a la capa] #[.int .u64 (gb : Int), .slice b lb capb] #[.int .u64 0, .slice none 0 0] 29
  have T0 := Lib.hid t0; have T1 := Lib.hid t1; have T2 := Lib.hid t2
  have hga := hfa.gen; have hgb := hfb.gen
  have HXA := Lib.hid hfa.all; have HYA := Lib.hid hfb.all
  have HXL := Lib.hid hfa.len
  have HE := Lib.hid he
  by_cases h0 : e0 = 0
  · subst h0
    obtain ⟨m, rfl, hm, hxm, hym⟩ := bothE_len he
    obtain rfl : m = la := by omega
    obtain rfl : m = lb := by omega
    obtain rfl : ga ||| gb = g := by rw [← hg, combG, if_pos he]
    have HZ : Hid (canonL (ga ||| gb) (orL xs ys) = zs) := by show _ = _; rw [← hz, combV, if_pos he]
    have HOL : Hid ((orL xs ys).length = m) := by show _ = _; rw [orL_len (by omega)]; exact hla
    have hgg := or64 hga hgb
    obtain ⟨gg, hggq⟩ : ∃ gg, ga ||| gb = gg := ⟨_, rfl⟩
    have HGQ := Lib.hid hggq
    rw [hggq] at hgg HZ ⊢
    obtain ⟨i0, hi, hz0, hz1, hz2⟩ := info_parts infoU
    clear hfa hfb he hg hz hla hlb t0 t1 t2 hxm hym hggq
    go_enter Tryz.func80, Tryz.ntmps80
    go_wp2_with fail
    refine (twoR_is m a b capa capb ga gb xs ys _ HA.out HB.out 0 HE.out m m HLA.out HLB.out).mono ?_
    rintro e w1 ⟨rfl, hb1⟩
    have hB1 := hB0.trans (hb1.mono hB0.size)
    have U0 := Lib.hid (heap_old T0.out hb1); have U1 := Lib.hid (heap_old T1.out hb1); have U2 := Lib.hid (heap_old T2.out hb1)
    obtain ⟨c0, c1, _⟩ := two_cells U0.out
    obtain ⟨k0, k1, _⟩ := two_cells U1.out
    go_wp2_with fail
    refine (or_is ga gb gg hga hgb HGQ.out _).mono ?_
    rintro e w2 ⟨rfl, rfl⟩
    have hw1 : w.heap.size + 1 + 1 < w1.heap.size := (Array.getElem?_eq_some_iff.1 U2.out).1
    have UF := Lib.hid (heapV_new w1 (.cells #[.int .u64 (gg : Int), .slice none 0 0] 29))
    have K0 : Hid (KeepK w (w1.alloc (.cells #[.int .u64 (gg : Int), .slice none 0 0] 29)) w.heap.size (w.heap.size + 1) #[.int .u64 (ga : Int), .slice a m capa] #[.int .u64 (gb : Int), .slice b m capb]) := KeepK.alloc ⟨U0.out, U1.out, hB1⟩ _
    have S0 := Lib.hid (heap_allocd U2.out (.cells #[.int .u64 (gg : Int), .slice none 0 0] 29))
    obtain ⟨F, hF⟩ : ∃ F, w1.heap.size = F := ⟨_, rfl⟩
    have HFL : Hid ((w1.alloc (.cells #[.int .u64 (gg : Int), .slice none 0 0] 29)).heap.size = F + 1) := by show _ = _; rw [World.size_alloc, hF]
    rw [hF] at UF hw1
    clear c0 c1 k0 k1
    go_wp2_with fail
    go_loopw [10] (fun i wr => ∃ (k : Nat) (v : Value), k ≤ m ∧ i = .int .i64 k ∧ Hid (KeepK w wr w.heap.size (w.heap.size + 1) #[.int .u64 (ga : Int), .slice a m capa] #[.int .u64 (gb : Int), .slice b m capb]) ∧ Hid (wr.heap[w.heap.size + 1 + 1]? = some (.cells #[.int .u64 0, .slice none 0 0] 29 (0, 0))) ∧ Hid (wr.heap[F]? = some (.cells #[.int .u64 (gg : Int), v] 29 (0, 0))) ∧ Hid (wr.ownsRow F 26 1 v k (u64s ((orL xs ys).take k))) ∧ F ≤ wr.heap.size) (fun i _ => m - (intOf i).toNat)
    case atStart => exact ⟨0, .slice none 0 0, Nat.zero_le _, rfl, K0, S0, UF, World.ownsRow_nil _ _ _ _, by have := HFL.out; omega⟩
    case round =>
      obtain ⟨k, v, hk, rfl, K, R2, RF, HO, hFw⟩ := hrel
      obtain ⟨f0, f1, ff⟩ := two_cells RF.out
      have ff1 := ff 1
      by_cases hlt : k < m
      · obtain ⟨ba, offa, x, rfl, hx, hx64, hba, a0⟩ := HA0.out.at_ (i := k) (by rw [HLA.out]; exact hlt)
        obtain ⟨bb, offb, y, rfl, hy, hy64, hbb, b0⟩ := HBB0.out.at_ (i := k) (by rw [HLB.out]; exact hlt)
        obtain ⟨q, hq⟩ : ∃ q, x ||| y = q := ⟨_, rfl⟩
        have HQ := Lib.hid hq
        have HT := Lib.hid (orL_take hx hy hq)
        have A0 := Lib.hid a0; have B0 := Lib.hid b0
        have g0 : (0 : Int) ≤ (k : Int) := by omega
        have g1 : (k : Int) < (m : Int) := by omega
        have q1 : (wr.alloc (.cells #[.int .u64 (q : Int)] 26)).cell? ⟨F, 1, none⟩ = some v := (two_cells (heap_allocd RF.out _)).2.1
        have KA := Lib.hid (K.out.drew.alloc (.cells #[.int .u64 (q : Int)] 26))
        obtain ⟨s1, s2, s3, s4⟩ := K.out.cells a0 b0
        clear hx hy hq ff a0 b0
        go_wp2_with fail
        go_region_law (first | (refine step_append_lies (wr.drew.alloc (.cells #[.int .u64 (q : Int)] 26)) ?_ (.tmp 31) (.tmp 43) 27 ?_ F 26 i0 _ 1 8 Tryz.underlying27 hi hz0 hz1 hz2 ?_ ?_ v k (u64s ((orL xs ys).take k)) ?_ ?_ ⟨wr.heap.size, 0, none⟩ 1 1 [.int .u64 (q : Int)] ?_ ?_ ?_ ?_ ?_ ?_ ?_ ?_ (wr.heap.size + 1) ?_ ?_; rfl; rfl; rfl; omega; rfl; exact (HO.out : (wr.drew).ownsRow _ _ _ _ _ _).alloc _; rfl; rfl; exact (World.news_of_block (cs := #[.int .u64 (q : Int)]) (t := 26) (fr := (0, 0)) (heapV_new wr.drew _)); simp [Value.oneCell']; omega; (unfold maxLen; omega); omega; (simp; omega); simp; intro gg9 cp w5 hown1 hgrow hat hlt5; have HOA := Lib.hid ((HO.out : (wr.drew).ownsRow _ _ _ _ _ _).alloc (.cells #[.int .u64 (q : Int)] 26)); have K5 := Lib.hid (KA.out.grown HOA.out (by omega) hgrow); have D2 := Lib.hid (heap_grown (heap_allocd (w := wr.drew) R2.out (.cells #[.int .u64 (q : Int)] 26)) (by decide) HOA.out hgrow); have DF := Lib.hid (heap_grown (heap_allocd (w := wr.drew) RF.out (.cells #[.int .u64 (q : Int)] 26)) (by decide) HOA.out hgrow); have hs5 := hgrow.size; obtain ⟨_, d1, df⟩ := two_cells DF.out; have df1 := df 1; clear df) | (go_simp; go_at_call 118; refine (or_is x y q hx64 hy64 HQ.out _).mono ?_; rintro e w3 ⟨rfl, rfl⟩) | fail)
        all_goals
          have hsl : Hid (F ≤ w5.heap.size) := by show _ ≤ _; simp at hs5; omega
          have HO5 := Lib.hid (show (w5.setCell ⟨F, 1, none⟩ (.slice (some ⟨gg9, 0, none⟩) (k + 1) cp)).ownsRow F 26 1 (.slice (some ⟨gg9, 0, none⟩) (k + 1) cp) (k + 1) (u64s ((orL xs ys).take (k + 1))) by
            rw [HT.out, u64s_snoc]; exact hown1.kept (grownBy_set w5 _ _ _) (.inr (not_row DF.out (by decide) hown1).symm))
          have N2 := Lib.hid (heap_other (B := F) (j := 1) (c := .slice (some ⟨gg9, 0, none⟩) (k + 1) cp) D2.out (by omega))
          have NF := Lib.hid (two_set1 (c := .slice (some ⟨gg9, 0, none⟩) (k + 1) cp) DF.out)
          have NK := Lib.hid (K5.out.set (F := F) (j := 1) (by omega) (by omega) (by omega) (.slice (some ⟨gg9, 0, none⟩) (k + 1) cp))
          clear hown1 hgrow hat d1 df1 q1 s1 s2 s3 s4 f0 f1 ff1 hs5
          go_wp2
          go_roundw
          case rel => exact ⟨k + 1, _, by omega, by go_num, NK, N2, NF, HO5, by have := hsl.out; simpa [World.setCell] using this⟩
          case measure => simp [intOf]; omega
      · obtain rfl : k = m := by omega
        have HO2 : Hid (wr.ownsRow F 26 1 v k (u64s (orL xs ys))) := by
          have := HO.out
          rwa [List.take_of_length_le (by rw [HOL.out]; exact Nat.le_refl _)] at this
        obtain ⟨hvn, a3, cap3, hv3, hr3, hf3⟩ := VRow.of_own HO2.out
        have hol : (u64s (orL xs ys)).length = k := hvn.symm
        rw [hol] at hv3
        subst hv3
        have holn : (orL xs ys).length = k := by rw [← hol, u64s_length]
        have hfat : FAt wr a3 gg (orL xs ys) := ⟨hr3, hgg, orL_lt HXA.out HYA.out, by rw [holn, ← HLA.out]; exact HXL.out⟩
        have can : ∀ (W : World), FAt W a3 gg (orL xs ys) → Calls Tryz.prog 110 #[.agg #[.int .u64 (gg : Int), .slice a3 k cap3]] W (FOne gg zs W) := fun W hW => by
          have := canonR_is a3 cap3 gg (orL xs ys) W hW zs HZ.out
          rwa [holn] at this
        have HCAN := Lib.hid can; have HFAT := Lib.hid hfat
        have hrel := K.out.below
        have hsz : w.heap.size ≤ wr.heap.size := hrel.size
        have R3 := R2
        clear hvn hr3 hf3 hol holn hfat can ff ff1
        go_wp2_with fail
        refine (HCAN.out _ HFAT.out).mono ?_
        rintro e w4 ⟨a4, cap4, rfl, hr4, hf4, hb4⟩
        unfold fval
        have hB4 := hrel.trans (hb4.mono hrel.size)
        have U4 := Lib.hid (heap_old R3.out hb4)
        obtain ⟨k0, k1, df⟩ := two_cells U4.out
        have y0 := df 0; have y1 := df 1
        have N1 := Lib.hid (two_set1 (c := .slice a4 zs.length cap4) (two_set0 (c := .int .u64 (gg : Int)) U4.out))
        obtain ⟨s0, s1, _⟩ := two_cells N1.out
        have hne : ∀ ad, a4 = some ad → ad.block ≠ w.heap.size + 1 + 1 := fun ad e => by
          have h1 := (hf4 ad e).1
          omega
        have NR := Lib.hid (vrow_set (vrow_set hr4 (B := w.heap.size + 1 + 1) (j := 0) (v := .int .u64 (gg : Int)) hne) (B := w.heap.size + 1 + 1) (j := 1) (v := .slice a4 zs.length cap4) hne)
        have HF4 := Lib.hid hf4
        clear df hr4 hf4 hne
        go_wp2
        refine bodyPost_ret (v := .tuple #[.agg #[.int .u64 (gg : Int), .slice a4 zs.length cap4], .int .i64 0]) ?_ rfl ⟨a4, cap4, rfl, NR.out, fun ad e => ⟨Nat.le_trans hsz (HF4.out ad e).1, by simpa [World.setCell] using (HF4.out ad e).2⟩, (hB4.setCell (p := ⟨w.heap.size + 1 + 1, 0, none⟩) (by simp; omega) _).setCell (p := ⟨w.heap.size + 1 + 1, 1, none⟩) (by simp; omega) _⟩
        simp [results, Tryz.results80, go_sem, s0, s1]
  · obtain rfl : 0 = g := by rw [← hg, combG, he, if_neg h0]
    obtain rfl : [] = zs := by rw [← hz, combV, he, if_neg h0]
    have hne : (e0 != 0) = true := by simpa using h0
    clear hfa hfb he hg hz hla hlb t0 t1 t2 h0
    go_enter Tryz.func80, Tryz.ntmps80
    go_wp2_with fail
    refine (twoR_is n a b capa capb ga gb xs ys _ HA.out HB.out e0 HE.out la lb HLA.out HLB.out).mono ?_
    rintro e w1 ⟨rfl, hb1⟩
    have hB1 := hB0.trans (hb1.mono hB0.size)
    have U2 := Lib.hid (heap_old T2.out hb1)
    obtain ⟨d0, d1, df⟩ := two_cells U2.out
    have f0 := df 0; have f1 := df 1
    have N1 := Lib.hid (two_set1 (c := .slice none 0 0) (two_set0 (c := .int .u64 0) U2.out))
    obtain ⟨s0, s1, _⟩ := two_cells N1.out
    clear df
    go_wp2
    refine bodyPost_ret (v := .tuple #[.agg #[.int .u64 0, .slice none 0 0], .int .i64 e0]) ?_ rfl (fret_nil e0 ((hB1.setCell (p := ⟨w.heap.size + 1 + 1, 0, none⟩) (by simp; omega) _).setCell (p := ⟨w.heap.size + 1 + 1, 1, none⟩) (by simp; omega) _))
    simp [results, Tryz.results80, go_sem, s0, s1]
end Go.Proofs.YtjcminoaiieckaaGreatDoor
namespace Go.Proofs.YtjcminoaiieckaaGreatDoor
open Go.RowKit
set_option linter.unusedVariables false
theorem KeepK.cells4 {w wr : World} {A B : Nat} {u1 u2 v1 v2 : Value} (h : KeepK w wr A B #[u1, u2] #[v1, v2]) {p : Addr} {x : Value} (hp : w.cell? p = some x) :
    wr.cell? ⟨A, 1, none⟩ = some u2 ∧ wr.cell? p = some x ∧ wr.cell? ⟨B, 0, none⟩ = some v1 ∧ wr.cell? ⟨B, 1, none⟩ = some v2 :=
  ⟨(two_cells h.hA).2.1, (h.below.cell (cell_lt hp)).trans hp, (two_cells h.hB).1, (two_cells h.hB).2.1⟩
theorem map_take {f : Nat → Nat} {xs : List Nat} {k x q : Nat} (hx : xs[k]? = some x) (hq : f x = q) : (xs.map f).take (k + 1) = (xs.map f).take k ++ [q] := by
  have h2 : (xs.map f)[k]? = some q := by rw [List.getElem?_map, hx, ← hq]; rfl
  obtain ⟨hk, e⟩ := List.getElem?_eq_some_iff.1 h2
  rw [List.take_succ_eq_append_getElem hk, e]
set_option maxRecDepth 100000 in
set_option maxHeartbeats 20000000 in
theorem extR_is (n : Int) (a b : Option Addr) (capa capb ga gb : Nat) (xs ys : List Nat) (w : World) (hfa : FAt w a ga xs) (hfb : FAt w b gb ys) (e0 : Int) (he : bothE n ga xs gb ys = e0) (g : Nat) (hg : extG n ga xs gb ys = g) (zs : List Nat) (hz : extV n ga xs gb ys = zs) (la lb : Nat) (hla : xs.length = la) (hlb : ys.length = lb) :
    Calls Tryz.prog 87 #[.int .i64 n, fval ga a la capa, fval gb b lb capb] w (FRet g zs e0 w) := by
  unfold fval
  have hB0 : Below w.heap.size w (((w.alloc (.cells #[.int .u64 (ga : Int), .slice a la capa] 29)).alloc (.cells #[.int .u64 (gb : Int), .slice b lb capb] 29)).alloc (.cells #[.int .u64 0, .slice none 0 0] 29)) := (((Below.refl _ _).alloc (Nat.le_refl _) _).alloc (by simp) _).alloc (by simp; omega) _
  have HA0 := Lib.hid hfa; have HBB0 := Lib.hid hfb
  have HA := Lib.hid (hfa.below hB0); have HB := Lib.hid (hfb.below hB0); have HLA := Lib.hid hla; have HLB := Lib.hid hlb
  obtain ⟨t0, t1, t2⟩ := three_boxes w #[.int .u64 (ga : Int), .slice a la capa] #[.int .u64 (gb : Int), .slice b lb capb] #[.int .u64 0, .slice none 0 0] 29
  have T0 := Lib.hid t0; have T1 := Lib.hid t1; have T2 := Lib.hid t2
  have hga := hfa.gen; have hgb := hfb.gen
  have HXA := Lib.hid hfa.all; have HYA := Lib.hid hfb.all
  have HXL := Lib.hid hfa.len
  have HE := Lib.hid he
  by_cases h0 : e0 = 0
  · subst h0
    obtain ⟨m, rfl, hm, hxm, hym⟩ := bothE_len he
    obtain rfl : m = la := by omega
    obtain rfl : m = lb := by omega
    obtain rfl : madeF gb ys ga = g := by rw [← hg, extG, if_pos he]
    have HZ : Hid (canonL (madeF gb ys ga) (xs.map (madeF gb ys)) = zs) := by show _ = _; rw [← hz, extV, if_pos he]
    have HOL : Hid ((xs.map (madeF gb ys)).length = m) := by show _ = _; rw [List.length_map]; exact hla
    obtain ⟨hc1, hc2⟩ := bothE_ok he
    obtain ⟨_, sh1, _⟩ := checkE_ok hc1
    rw [Int.toNat_natCast] at sh1
    obtain ⟨_, ig, ir⟩ := shapeB_len sh1
    have HINg : Hid (ga < 2 ^ ys.length) := by show _ < _; rw [hym]; exact (insN_iff hm hga).1 ig
    have HINr : Hid (∀ x ∈ xs, x < 2 ^ ys.length) := fun x hx => by rw [hym]; exact (insN_iff hm (hfa.all x hx)).1 (ir x hx)
    have HY64 : Hid (ys.length ≤ 64) := by show _ ≤ _; omega
    have hgg : madeF gb ys ga < 18446744073709551616 := madeF_lt hfb.all hgb
    obtain ⟨gg, hggq⟩ : ∃ gg, madeF gb ys ga = gg := ⟨_, rfl⟩
    have HGQ := Lib.hid hggq
    rw [hggq] at hgg HZ ⊢
    obtain ⟨i0, hi, hz0, hz1, hz2⟩ := info_parts infoU
    clear hfa hfb he hg hz hla hlb t0 t1 t2 hxm hym hggq hc1 hc2 sh1 ig ir
    go_enter Tryz.func87, Tryz.ntmps87
    go_wp2_with fail
    refine (twoR_is m a b capa capb ga gb xs ys _ HA.out HB.out 0 HE.out m m HLA.out HLB.out).mono ?_
    rintro e w1 ⟨rfl, hb1⟩
    have hB1 := hB0.trans (hb1.mono hB0.size)
    have U0 := Lib.hid (heap_old T0.out hb1); have U1 := Lib.hid (heap_old T1.out hb1); have U2 := Lib.hid (heap_old T2.out hb1)
    obtain ⟨c0, c1, _⟩ := two_cells U0.out
    obtain ⟨k0, k1, _⟩ := two_cells U1.out
    go_wp2_with fail
    refine (madeR_is b capb gb ys ga HINg.out HY64.out _ (HB.out.below hb1) gg HGQ.out m HLB.out).mono ?_
    rintro e w2 ⟨rfl, hb2⟩
    have U0 := Lib.hid (heap_old U0.out hb2); have U1 := Lib.hid (heap_old U1.out hb2); have U2 := Lib.hid (heap_old U2.out hb2)
    have hB1 := hB1.trans (hb2.mono hB1.size)
    have hw1 : w.heap.size + 1 + 1 < w2.heap.size := (Array.getElem?_eq_some_iff.1 U2.out).1
    have UF := Lib.hid (heapV_new w2 (.cells #[.int .u64 (gg : Int), .slice none 0 0] 29))
    have K0 : Hid (KeepK w (w2.alloc (.cells #[.int .u64 (gg : Int), .slice none 0 0] 29)) w.heap.size (w.heap.size + 1) #[.int .u64 (ga : Int), .slice a m capa] #[.int .u64 (gb : Int), .slice b m capb]) := KeepK.alloc ⟨U0.out, U1.out, hB1⟩ _
    have S0 := Lib.hid (heap_allocd U2.out (.cells #[.int .u64 (gg : Int), .slice none 0 0] 29))
    obtain ⟨F, hF⟩ : ∃ F, w2.heap.size = F := ⟨_, rfl⟩
    have HFL : Hid ((w2.alloc (.cells #[.int .u64 (gg : Int), .slice none 0 0] 29)).heap.size = F + 1) := by show _ = _; rw [World.size_alloc, hF]
    rw [hF] at UF hw1
    clear c0 c1 k0 k1
    go_wp2_with fail
    go_loopw [10] (fun i wr => ∃ (k : Nat) (v : Value), k ≤ m ∧ i = .int .i64 k ∧ Hid (KeepK w wr w.heap.size (w.heap.size + 1) #[.int .u64 (ga : Int), .slice a m capa] #[.int .u64 (gb : Int), .slice b m capb]) ∧ Hid (wr.heap[w.heap.size + 1 + 1]? = some (.cells #[.int .u64 0, .slice none 0 0] 29 (0, 0))) ∧ Hid (wr.heap[F]? = some (.cells #[.int .u64 (gg : Int), v] 29 (0, 0))) ∧ Hid (wr.ownsRow F 26 1 v k (u64s ((xs.map (madeF gb ys)).take k))) ∧ F ≤ wr.heap.size) (fun i _ => m - (intOf i).toNat)
    case atStart => exact ⟨0, .slice none 0 0, Nat.zero_le _, rfl, K0, S0, UF, World.ownsRow_nil _ _ _ _, by have := HFL.out; omega⟩
    case round =>
      obtain ⟨k, v, hk, rfl, K, R2, RF, HO, hFw⟩ := hrel
      obtain ⟨f0, f1, ff⟩ := two_cells RF.out
      have ff1 := ff 1
      by_cases hlt : k < m
      · obtain ⟨ba, offa, x, rfl, hx, hx64, hba, a0⟩ := HA0.out.at_ (i := k) (by rw [HLA.out]; exact hlt)
        obtain ⟨q, hq⟩ : ∃ q, madeF gb ys x = q := ⟨_, rfl⟩
        have HQ := Lib.hid hq
        have HT := Lib.hid (map_take hx hq)
        have HX2 := Lib.hid (HINr.out x (List.mem_of_getElem? hx))
        have A0 := Lib.hid a0
        have g0 : (0 : Int) ≤ (k : Int) := by omega
        have g1 : (k : Int) < (m : Int) := by omega
        obtain ⟨s1, s2, s3, s4⟩ := K.out.cells4 a0
        clear hx hq ff a0
        go_wp2_with fail
        go_region_law (first | (refine step_append_lies (w3.alloc (.cells #[.int .u64 (q : Int)] 26)) ?_ (.tmp 30) (.tmp 38) 27 ?_ F 26 i0 _ 1 8 Tryz.underlying27 hi hz0 hz1 hz2 ?_ ?_ v k (u64s ((xs.map (madeF gb ys)).take k)) ?_ ?_ ⟨w3.heap.size, 0, none⟩ 1 1 [.int .u64 (q : Int)] ?_ ?_ ?_ ?_ ?_ ?_ ?_ ?_ (w3.heap.size + 1) ?_ ?_; rfl; rfl; rfl; omega; rfl; exact HO3.out.alloc _; rfl; rfl; exact (World.news_of_block (cs := #[.int .u64 (q : Int)]) (t := 26) (fr := (0, 0)) (heapV_new w3 _)); simp [Value.oneCell']; omega; (unfold maxLen; omega); omega; (simp; omega); simp; intro gg9 cp w5 hown1 hgrow hat hlt5; have HOA := Lib.hid (HO3.out.alloc (.cells #[.int .u64 (q : Int)] 26)); have K5 := Lib.hid (KA.out.grown HOA.out (by omega) hgrow); have D2 := Lib.hid (heap_grown (heap_allocd R23.out (.cells #[.int .u64 (q : Int)] 26)) (by decide) HOA.out hgrow); have DF := Lib.hid (heap_grown (heap_allocd RF3.out (.cells #[.int .u64 (q : Int)] 26)) (by decide) HOA.out hgrow); have hs5 := hgrow.size; obtain ⟨_, d1, df⟩ := two_cells DF.out; have df1 := df 1; clear df) | (go_simp; go_at_call 122; refine (madeR_is b capb gb ys x HX2.out HY64.out _ (by first | exact HBB0.out.below K.out.drew.below | exact HBB0.out.below K.out.below) q HQ.out m HLB.out).mono ?_; rintro e w3 ⟨rfl, hb3⟩; have K3 := Lib.hid (K.out.drew.call hb3); have R23 := Lib.hid (heap_old (w := wr.drew) R2.out hb3); have RF3 := Lib.hid (heap_old (w := wr.drew) RF.out hb3); have HO3 := Lib.hid (ownV_below (w := wr.drew) HO.out hb3); have hFw3 : F ≤ w3.heap.size := Nat.le_trans hFw hb3.size; have x1 := (two_cells RF3.out).2.1; have q1 := (two_cells (heap_allocd RF3.out (.cells #[.int .u64 (q : Int)] 26))).2.1; have KA := Lib.hid (K3.out.alloc (.cells #[.int .u64 (q : Int)] 26))) | fail)
        all_goals
          have hsl : Hid (F ≤ w5.heap.size) := by show _ ≤ _; simp at hs5; omega
          have HO5 := Lib.hid (show (w5.setCell ⟨F, 1, none⟩ (.slice (some ⟨gg9, 0, none⟩) (k + 1) cp)).ownsRow F 26 1 (.slice (some ⟨gg9, 0, none⟩) (k + 1) cp) (k + 1) (u64s ((xs.map (madeF gb ys)).take (k + 1))) by
            rw [HT.out, u64s_snoc]; exact hown1.kept (grownBy_set w5 _ _ _) (.inr (not_row DF.out (by decide) hown1).symm))
          have N2 := Lib.hid (heap_other (B := F) (j := 1) (c := .slice (some ⟨gg9, 0, none⟩) (k + 1) cp) D2.out (by omega))
          have NF := Lib.hid (two_set1 (c := .slice (some ⟨gg9, 0, none⟩) (k + 1) cp) DF.out)
          have NK := Lib.hid (K5.out.set (F := F) (j := 1) (by omega) (by omega) (by omega) (.slice (some ⟨gg9, 0, none⟩) (k + 1) cp))
          clear hown1 hgrow hat d1 df1 q1 x1 s1 s2 s3 s4 f0 f1 ff1 hs5 hb3
          go_wp2
          go_roundw
          case rel => exact ⟨k + 1, _, by omega, by go_num, NK, N2, NF, HO5, by have := hsl.out; simpa [World.setCell] using this⟩
          case measure => simp [intOf]; omega
      · obtain rfl : k = m := by omega
        have HO2 : Hid (wr.ownsRow F 26 1 v k (u64s (xs.map (madeF gb ys)))) := by
          have := HO.out
          rwa [List.take_of_length_le (by rw [HOL.out]; exact Nat.le_refl _)] at this
        obtain ⟨hvn, a3, cap3, hv3, hr3, hf3⟩ := VRow.of_own HO2.out
        have hol : (u64s (xs.map (madeF gb ys))).length = k := hvn.symm
        rw [hol] at hv3
        subst hv3
        have HMLT : Hid (∀ r ∈ xs.map (madeF gb ys), r < 18446744073709551616) := fun r hr => by obtain ⟨x, _, e⟩ := List.mem_map.1 hr; rw [← e]; exact madeF_lt HYA.out hgb
        have holn : (xs.map (madeF gb ys)).length = k := by rw [← hol, u64s_length]
        have hfat : FAt wr a3 gg (xs.map (madeF gb ys)) := ⟨hr3, hgg, HMLT.out, by rw [holn, ← HLA.out]; exact HXL.out⟩
        have can : ∀ (W : World), FAt W a3 gg (xs.map (madeF gb ys)) → Calls Tryz.prog 110 #[.agg #[.int .u64 (gg : Int), .slice a3 k cap3]] W (FOne gg zs W) := fun W hW => by
          have := canonR_is a3 cap3 gg (xs.map (madeF gb ys)) W hW zs HZ.out
          rwa [holn] at this
        have HCAN := Lib.hid can; have HFAT := Lib.hid hfat
        have hrel := K.out.below
        have hsz : w.heap.size ≤ wr.heap.size := hrel.size
        have R3 := R2
        clear hvn hr3 hf3 hol holn hfat can ff ff1
        go_wp2_with fail
        refine (HCAN.out _ HFAT.out).mono ?_
        rintro e w4 ⟨a4, cap4, rfl, hr4, hf4, hb4⟩
        unfold fval
        have hB4 := hrel.trans (hb4.mono hrel.size)
        have U4 := Lib.hid (heap_old R3.out hb4)
        obtain ⟨k0, k1, df⟩ := two_cells U4.out
        have y0 := df 0; have y1 := df 1
        have N1 := Lib.hid (two_set1 (c := .slice a4 zs.length cap4) (two_set0 (c := .int .u64 (gg : Int)) U4.out))
        obtain ⟨s0, s1, _⟩ := two_cells N1.out
        have hne : ∀ ad, a4 = some ad → ad.block ≠ w.heap.size + 1 + 1 := fun ad e => by
          have h1 := (hf4 ad e).1
          omega
        have NR := Lib.hid (vrow_set (vrow_set hr4 (B := w.heap.size + 1 + 1) (j := 0) (v := .int .u64 (gg : Int)) hne) (B := w.heap.size + 1 + 1) (j := 1) (v := .slice a4 zs.length cap4) hne)
        have HF4 := Lib.hid hf4
        clear df hr4 hf4 hne
        go_wp2
        refine bodyPost_ret (v := .tuple #[.agg #[.int .u64 (gg : Int), .slice a4 zs.length cap4], .int .i64 0]) ?_ rfl ⟨a4, cap4, rfl, NR.out, fun ad e => ⟨Nat.le_trans hsz (HF4.out ad e).1, by simpa [World.setCell] using (HF4.out ad e).2⟩, (hB4.setCell (p := ⟨w.heap.size + 1 + 1, 0, none⟩) (by simp; omega) _).setCell (p := ⟨w.heap.size + 1 + 1, 1, none⟩) (by simp; omega) _⟩
        simp [results, Tryz.results87, go_sem, s0, s1]
  · obtain rfl : 0 = g := by rw [← hg, extG, he, if_neg h0]
    obtain rfl : [] = zs := by rw [← hz, extV, he, if_neg h0]
    have hne : (e0 != 0) = true := by simpa using h0
    clear hfa hfb he hg hz hla hlb t0 t1 t2 h0
    go_enter Tryz.func87, Tryz.ntmps87
    go_wp2_with fail
    refine (twoR_is n a b capa capb ga gb xs ys _ HA.out HB.out e0 HE.out la lb HLA.out HLB.out).mono ?_
    rintro e w1 ⟨rfl, hb1⟩
    have hB1 := hB0.trans (hb1.mono hB0.size)
    have U2 := Lib.hid (heap_old T2.out hb1)
    obtain ⟨d0, d1, df⟩ := two_cells U2.out
    have f0 := df 0; have f1 := df 1
    have N1 := Lib.hid (two_set1 (c := .slice none 0 0) (two_set0 (c := .int .u64 0) U2.out))
    obtain ⟨s0, s1, _⟩ := two_cells N1.out
    clear df
    go_wp2
    refine bodyPost_ret (v := .tuple #[.agg #[.int .u64 0, .slice none 0 0], .int .i64 e0]) ?_ rfl (fret_nil e0 ((hB1.setCell (p := ⟨w.heap.size + 1 + 1, 0, none⟩) (by simp; omega) _).setCell (p := ⟨w.heap.size + 1 + 1, 1, none⟩) (by simp; omega) _))
    simp [results, Tryz.results87, go_sem, s0, s1]
end Go.Proofs.YtjcminoaiieckaaGreatDoor
namespace Go.Proofs.YtjcminoaiieckaaGreatDoor
open Go.RowKit
set_option linter.unusedVariables false
set_option maxRecDepth 100000 in
set_option maxHeartbeats 4000000 in
theorem oneR_is (n : Int) (w : World) (e0 : Int) (he : oneE n = e0) (ys : List Nat) (hys : oneV n = ys) :
    Calls Tryz.prog 68 #[.int .i64 n] w (FOwn 0 ys e0 w) := by
  have hB0 : Below w.heap.size w (w.alloc (.cells #[.int .u64 0, .slice none 0 0] 29)) := (Below.refl _ _).alloc (Nat.le_refl _) _
  have T0 := Lib.hid (heapV_new w (.cells #[.int .u64 0, .slice none 0 0] 29))
  obtain ⟨i0, hi, hz0, hz1, hz2⟩ := info_parts infoU
  cases hd : dimB n
  · obtain rfl : 31 = e0 := by rw [← he, oneE, hd]; rfl
    obtain rfl : [] = ys := by rw [← hys, oneV, hd]; rfl
    have HD := Lib.hid hd
    obtain ⟨d0, d1, df⟩ := two_cells T0.out
    have f0 := df 0; have f1 := df 1
    clear df hd he hys
    go_enter Tryz.func68, Tryz.ntmps68
    go_wp2_with fail
    refine (dim_is n false HD.out _).mono ?_
    rintro e w1 ⟨rfl, rfl⟩
    go_wp2
    refine bodyPost_ret (v := .tuple #[.agg #[.int .u64 0, .slice none 0 0], .int .i64 31]) ?_ rfl (fown_nil 31 hB0)
    simp [results, Tryz.results68, go_sem, d0, d1]
  · have HD := Lib.hid hd
    obtain ⟨m, rfl, hm⟩ := dim_nat hd
    obtain rfl : 0 = e0 := by rw [← he, oneE, hd]; rfl
    have HY : Hid (onesL m = ys) := by show _ = _; rw [← hys, oneV, hd, if_pos rfl, Int.toNat_natCast]
    have HYL : Hid (ys.length = m) := by show _ = _; rw [← HY.out, onesL_length]
    clear hd he hys
    obtain ⟨t0, t1⟩ := two_boxes w #[.int .u64 0, .slice none 0 0] #[.int .u64 0, .slice none 0 0] 29
    have A0 := Lib.hid t0; have A1 := Lib.hid t1
    clear t0 t1
    go_enter Tryz.func68, Tryz.ntmps68
    go_wp2_with fail
    refine (dim_is m true HD.out _).mono ?_
    rintro e w1 ⟨rfl, rfl⟩
    go_wp2_with fail
    go_loopw [5] (fun i wr => ∃ (k : Nat) (v : Value), k ≤ m ∧ i = .int .i64 k ∧ Hid (wr.heap[w.heap.size]? = some (.cells #[.int .u64 0, .slice none 0 0] 29 (0, 0))) ∧ Hid (wr.heap[w.heap.size + 1]? = some (.cells #[.int .u64 0, v] 29 (0, 0))) ∧ Hid (wr.ownsRow w.heap.size 26 1 v k (u64s (ys.take k))) ∧ Below w.heap.size w wr) (fun i _ => m - (intOf i).toNat)
    case atStart => exact ⟨0, .slice none 0 0, Nat.zero_le _, rfl, A0, A1, World.ownsRow_nil _ _ _ _, hB0.alloc (by simp) _⟩
    case round =>
      obtain ⟨k, v, hk, rfl, B1, B2, HO, hb⟩ := hrel
      obtain ⟨e0, e1, ef⟩ := two_cells B2.out
      have ef1 := ef 1
      by_cases hlt : k < m
      · obtain ⟨y, hy⟩ : ∃ y : Nat, 2 ^ k = y := ⟨_, rfl⟩
        have HYK := Lib.hid hy
        have HT : Hid (ys.take (k + 1) = ys.take k ++ [y]) := by
          show _ = _
          have h2 : ys[k]? = some y := by rw [← HY.out, onesL_at hlt, hy]
          obtain ⟨hk2, e⟩ := List.getElem?_eq_some_iff.1 h2
          rw [List.take_succ_eq_append_getElem hk2, e]
        have q1 : (wr.alloc (.cells #[.int .u64 (y : Int)] 26)).cell? ⟨w.heap.size + 1, 1, none⟩ = some v := (two_cells (heap_allocd B2.out _)).2.1
        clear hy ef
        go_wp2_with fail
        go_region_law (first | (refine step_append_lies (wr.drew.alloc (.cells #[.int .u64 (y : Int)] 26)) ?_ (.tmp 17) (.tmp 20) 27 ?_ w.heap.size 26 i0 _ 1 8 Tryz.underlying27 hi hz0 hz1 hz2 ?_ ?_ v k (u64s (ys.take k)) ?_ ?_ ⟨wr.heap.size, 0, none⟩ 1 1 [.int .u64 (y : Int)] ?_ ?_ ?_ ?_ ?_ ?_ ?_ ?_ (wr.heap.size + 1) ?_ ?_; rfl; rfl; rfl; omega; rfl; exact (HO.out : (wr.drew).ownsRow _ _ _ _ _ _).alloc _; rfl; rfl; exact (World.news_of_block (cs := #[.int .u64 (y : Int)]) (t := 26) (fr := (0, 0)) (heapV_new wr.drew _)); simp [Value.oneCell']; omega; (unfold maxLen; omega); omega; (have := hb.size; simp; omega); simp; intro gg cp w5 hown1 hgrow hat hlt5; have hB4 : Below w.heap.size w w5 := (hb.drew.alloc hb.size _).grown hgrow (by have := hb.size; simp; omega) (fun j e => (HO.out.lt j e).1); have D1 := Lib.hid (heap_grown (heap_allocd (w := wr.drew) B1.out (.cells #[.int .u64 (y : Int)] 26)) (by decide) ((HO.out : (wr.drew).ownsRow _ _ _ _ _ _).alloc _) hgrow); have D2 := Lib.hid (heap_grown (heap_allocd (w := wr.drew) B2.out (.cells #[.int .u64 (y : Int)] 26)) (by decide) ((HO.out : (wr.drew).ownsRow _ _ _ _ _ _).alloc _) hgrow); obtain ⟨_, d1, df⟩ := two_cells D2.out; have df1 := df 1; clear df) | (go_simp; go_at_call 69; refine (worth_at k k y rfl HYK.out (by omega) _).mono ?_; rintro e w3 ⟨rfl, rfl⟩) | fail)
        all_goals
          have HO5 := Lib.hid (show (w5.setCell ⟨w.heap.size + 1, 1, none⟩ (.slice (some ⟨gg, 0, none⟩) (k + 1) cp)).ownsRow w.heap.size 26 1 (.slice (some ⟨gg, 0, none⟩) (k + 1) cp) (k + 1) (u64s (ys.take (k + 1))) by
            rw [HT.out, u64s_snoc]; exact hown1.kept (grownBy_set w5 _ _ _) (.inr (not_row D2.out (by decide) hown1).symm))
          have N1 := Lib.hid (heap_other (B := w.heap.size + 1) (j := 1) (c := .slice (some ⟨gg, 0, none⟩) (k + 1) cp) D1.out (by omega))
          have N2 := Lib.hid (two_set1 (c := .slice (some ⟨gg, 0, none⟩) (k + 1) cp) D2.out)
          have NB := Lib.hid (hB4.setCell (p := ⟨w.heap.size + 1, 1, none⟩) (by simp) (.slice (some ⟨gg, 0, none⟩) (k + 1) cp))
          clear hown1 hgrow hat d1 df1 q1 e0 e1 ef1
          go_wp2
          go_roundw
          case rel => exact ⟨k + 1, _, by omega, by go_num, N1, N2, HO5, NB.out⟩
          case measure => simp [intOf]; omega
      · obtain rfl : k = m := by omega
        obtain ⟨r0, r1, rf⟩ := two_cells B1.out
        have rf0 := rf 0; have rf1 := rf 1
        have HO2 : Hid (wr.ownsRow w.heap.size 26 1 v k (u64s ys)) := by
          have := HO.out
          rwa [List.take_of_length_le (by rw [HYL.out]; exact Nat.le_refl _)] at this
        obtain ⟨a3, cap3, hv3⟩ := own_slice HO2.out
        subst hv3
        have N1 := Lib.hid (two_set1 (c := .slice a3 k cap3) (two_set0 (c := .int .u64 0) B1.out))
        obtain ⟨s0, s1, _⟩ := two_cells N1.out
        have HO5 := Lib.hid ((HO2.out.kept (grownBy_set _ _ 0 (.int .u64 0)) (.inr (not_row B1.out (by decide) HO2.out).symm)).kept (grownBy_set _ w.heap.size 1 (.slice a3 k cap3)) (.inr (not_row B1.out (by decide) HO2.out).symm))
        have HB5 := Lib.hid ((hb.setCell (p := ⟨w.heap.size, 0, none⟩) (Nat.le_refl _) (.int .u64 0)).setCell (p := ⟨w.heap.size, 1, none⟩) (Nat.le_refl _) (.slice a3 k cap3))
        clear rf ef
        go_wp2
        refine bodyPost_ret (v := .tuple #[.agg #[.int .u64 0, .slice a3 k cap3], .int .i64 0]) ?_ rfl (fown_own (gen := 0) HO5.out HB5.out 0)
        simp [results, Tryz.results68, go_sem, s0, s1]
end Go.Proofs.YtjcminoaiieckaaGreatDoor
namespace Go.Proofs.YtjcminoaiieckaaGreatDoor
open Go.RowKit
set_option linter.unusedVariables false
theorem unit_snoc {n k : Nat} (hk : k < n) : (unitC n).take (k + 1) = (unitC n).take k ++ [oneAt k] := by
  obtain ⟨h, e⟩ := List.getElem?_eq_some_iff.1 (unit_at hk)
  rw [List.take_succ_eq_append_getElem h, e]
end Go.Proofs.YtjcminoaiieckaaGreatDoor
namespace Go.Proofs.YtjcminoaiieckaaGreatDoor
open Go Go.RowKit
set_option linter.unusedVariables false
theorem own_two {w : World} {base : Nat} {v : Value} {g h : WF} (hr : w.ownsRow base 33 6 v 2 (g.six ++ h.six)) : ∃ b c, v = .slice (some ⟨b, 0, none⟩) 2 c ∧ base ≤ b ∧ W6 w b 0 g ∧ W6 w b 6 h := by
  rcases hr.2 with ⟨_, h2⟩ | ⟨b, cap, cur, rfl, hb, hh, h1, h2, h3, h4⟩
  · cases h2
  · have key : ∀ i v, (g.six ++ h.six)[i]? = some v → w.cell? ⟨b, i, none⟩ = some v := fun i v hi => by
      rw [← h4, List.getElem?_take] at hi
      split at hi
      · unfold World.cell?; simp only [hh]; simpa using hi
      · cases hi
    exact ⟨b, cap, rfl, hb, ⟨key 0 _ rfl, key 1 _ rfl, key 2 _ rfl, key 3 _ rfl, key 4 _ rfl, key 5 _ rfl⟩, ⟨key 6 _ rfl, key 7 _ rfl, key 8 _ rfl, key 9 _ rfl, key 10 _ rfl, key 11 _ rfl⟩⟩
theorem copied_fin {w W : World} {t n u m : Int} {ra ca : Option Addr} {rc cc lo1 lo2 : Nat} {v : Value} {g h : WF} {x y : PF} (hb : Below w.heap.size w W) (hr : W.ownsRow w.heap.size 33 6 v 2 (g.six ++ h.six)) (h1 : w.heap.size ≤ lo1) (k1 : PNew lo1 W t n g x) (h2 : w.heap.size ≤ lo2) (k2 : PNew lo2 W u m h y) :
    WRet (.two t n u m) (.two x y) w (.returned (.agg (List.toArray [.bool false, .int .i64 0, .int .u64 0, .slice ra 0 rc, .slice ca 0 cc, v]))) W := by
  obtain ⟨b, c, rfl, hb0, h6, h7⟩ := own_two hr
  exact ⟨⟨false, 0, 0, ra, 0, rc, [], ca, 0, cc, [], some ⟨b, 0, none⟩, 2, c⟩, rfl, ⟨rfl, rfl, rfl, rfl, b, g, h, rfl, hb0, h6, h7, k1.mono h1, k2.mono h2⟩, hb⟩

set_option maxRecDepth 100000 in
set_option maxHeartbeats 4000000 in
theorem copied_pair (t n u m0 : Int) (w : World) (fra fca : Option Addr) (frc fcc fpc fb fo : Nat) (f1 f2 : WF) (x1 x2 : PF) (hf6 : W6 w fb fo f1) (hf7 : W6 w fb (fo + 6) f2) (hx1 : PIs w t n f1 x1) (hx2 : PIs w u m0 f2 x2) :
    Calls Tryz.prog 55 #[.agg #[.bool false, .int .i64 0, .int .u64 0, .slice fra 0 frc, .slice fca 0 fcc, .slice (some ⟨fb, fo, none⟩) 2 fpc]] w (WRet (.two t n u m0) (.two x1 x2) w) := by
  refine enterF (args := [.agg #[.bool false, .int .i64 0, .int .u64 0, .slice fra 0 frc, .slice fca 0 fcc, .slice (some ⟨fb, fo, none⟩) 2 fpc]]) Tryz.func55 rfl Tryz.ntmps55 rfl ?_
  have hS := St.start w
  refine seqF ?_
  refine regF ?_
  refine op_box (cs := [_, _, _, _, _, _]) hS rfl rfl rfl ?_
  clear hS; intro B1 W1 hS
  refine op_alloc (cs := [_, _, _, _, _, _]) hS Tryz.zeroValue33 rfl rfl ?_
  clear hS; intro B2 W2 hS
  refine endF ?_
  refine XF.thenN ?_
  refine seqF ?_
  refine regF ?_
  refine op_field (o' := 2) fa_33_2 rfl rfl rfl ?_
  refine op_field (o' := 3) fa_29_1 rfl rfl rfl ?_
  refine op_load Tryz.isAgg27 rfl (cell_own (hS.at_ 1 rfl) rfl) rfl ?_
  refine op_call (vs := [_]) hS goes_82 rfl (clone_is _ _ [] _ (by simp) (.inl rfl) 0 rfl) rfl ?_
  rintro e W3 ⟨v, rfl, hown, hb⟩
  refine ⟨_, rfl, hb, fun hS' => ?_⟩
  clear hS; have hS := hS'; clear hS' hb
  obtain ⟨ra1, rc1, rfl, _, _⟩ := (urow_of_own (rows := []) hown).2
  clear hown
  refine op_field (o' := 2) fa_33_2 rfl rfl rfl ?_
  refine op_field (o' := 3) fa_29_1 rfl rfl rfl ?_
  refine op_store (i := 1) (cs' := [_, _, _, _, _, _]) (O' := [_, _]) hS Tryz.sizeOf27 rfl rfl rfl rfl rfl rfl rfl ?_
  clear hS; intro W4 hS
  refine endF ?_
  refine XF.thenN ?_
  refine seqF ?_
  refine regF ?_
  refine op_field (o' := 4) fa_33_3 rfl rfl rfl ?_
  refine op_load Tryz.isAgg30 rfl (cell_own (hS.at_ 1 rfl) rfl) rfl ?_
  refine op_call (vs := [_]) hS goes_83 rfl (cclone_is _ _ [] _ (by simp) (.inl rfl) 0 rfl) rfl ?_
  rintro e W5 ⟨ca1, cc1, rfl, _, _, hb⟩
  refine ⟨_, rfl, hb, fun hS' => ?_⟩
  clear hS; have hS := hS'; clear hS' hb
  refine op_field (o' := 4) fa_33_3 rfl rfl rfl ?_
  refine op_store (i := 1) (cs' := [_, _, _, _, _, _]) (O' := [_, _]) hS Tryz.sizeOf30 rfl rfl rfl rfl rfl rfl rfl ?_
  clear hS; intro W6 hS
  refine endF ?_
  refine XF.thenN ?_
  refine seqF ?_
  refine regF ?_
  refine op_assign rfl rfl ?_
  refine endF ?_
  refine XF.thenN ?_
  refine seqF ?_
  refine seqF ?_
  have hS := (hS.newG 33 6).clear
  refine regF ?_
  refine op_field (o' := 5) fa_33_4 rfl rfl rfl ?_
  refine op_load Tryz.isAgg31 rfl (cell_own (hS.at_ 1 rfl) rfl) rfl ?_
  refine op_len Tryz.underlying31 rfl rfl ?_
  refine op_move rfl rfl ?_
  refine endF ?_
  refine XF.thenN ?_
  refine blockF ?_
  refine loopF (fun m l W => (m = 2 ∧ l = [(1, .pointer (some ⟨B1, 0, none⟩)), (2, .pointer (some ⟨B2, 0, none⟩)), (3, .slice none 0 0), (17, .slice (some ⟨fb, fo, none⟩) 2 fpc), (18, .int .i64 2), (19, .int .i64 0)] ∧ St w [(B2, [.bool false, .int .i64 0, .int .u64 0, .slice none 0 0, .slice none 0 0, .slice none 0 0], 33), (B1, [.bool false, .int .i64 0, .int .u64 0, .slice ra1 0 rc1, .slice ca1 0 cc1, .slice (some ⟨fb, fo, none⟩) 2 fpc], 33)] [⟨.slice none 0 0, 0, [], 33, 6⟩] [] W) ∨ (∃ v1 lo1 A1 h1, m = 1 ∧ l = [(1, .pointer (some ⟨B1, 0, none⟩)), (2, .pointer (some ⟨B2, 0, none⟩)), (3, v1), (17, .slice (some ⟨fb, fo, none⟩) 2 fpc), (18, .int .i64 2), (19, .int .i64 1)] ∧ w.heap.size ≤ lo1 ∧ PNew lo1 A1 t n h1 x1 ∧ St w [(B2, [.bool false, .int .i64 0, .int .u64 0, .slice none 0 0, .slice none 0 0, .slice none 0 0], 33), (B1, [.bool false, .int .i64 0, .int .u64 0, .slice ra1 0 rc1, .slice ca1 0 cc1, .slice (some ⟨fb, fo, none⟩) 2 fpc], 33)] [⟨v1, 1, h1.six, 33, 6⟩] [(lo1, A1)] W) ∨ (∃ v2 lo1 A1 h1 lo2 A2 h2, m = 0 ∧ l = [(1, .pointer (some ⟨B1, 0, none⟩)), (2, .pointer (some ⟨B2, 0, none⟩)), (3, v2), (17, .slice (some ⟨fb, fo, none⟩) 2 fpc), (18, .int .i64 2), (19, .int .i64 2)] ∧ w.heap.size ≤ lo1 ∧ PNew lo1 A1 t n h1 x1 ∧ w.heap.size ≤ lo2 ∧ PNew lo2 A2 u m0 h2 x2 ∧ St w [(B2, [.bool false, .int .i64 0, .int .u64 0, .slice none 0 0, .slice none 0 0, .slice none 0 0], 33), (B1, [.bool false, .int .i64 0, .int .u64 0, .slice ra1 0 rc1, .slice ca1 0 cc1, .slice (some ⟨fb, fo, none⟩) 2 fpc], 33)] [⟨v2, 2, h1.six ++ h2.six, 33, 6⟩] [(lo2, A2), (lo1, A1)] W)) (2) ([(1, _), (2, _), (3, _), (17, _), (18, _), (19, _)]) ⟨rfl, rfl, rfl, rfl, rfl, rfl, trivial⟩ (.inl ⟨rfl, rfl, hS⟩) ?_
  clear hS
  rintro m l W (⟨rfl, rfl, hS⟩ | ⟨v1, lo1, A1, h1, rfl, rfl, hlo1, hn1, hS⟩ | ⟨v2, lo1, A1, h1, lo2, A2, h2, rfl, rfl, hlo1, hn1, hlo2, hn2, hS⟩)
  · have k1 := CellsAt.agree hS.agree (Nat.zero_le _) hf6.cells
    refine seqF ?_
    refine regF ?_
    refine op_lss rfl rfl rfl ?_
    refine endF ?_
    refine XF.thenN ?_
    refine seqF ?_
    refine condF rfl (fun hc => ?_) (fun hc => absurd (of_decide_eq_false hc) (by omega))
    have hc := of_decide_eq_true hc
    refine skipF ?_
    refine XF.thenN ?_
    refine seqF ?_
    refine blockF ?_
    refine seqF ?_
    refine regF ?_
    refine op_indexA (j := 0) Tryz.underlying31 Tryz.sizeOf33 rfl rfl rfl (by omega) (Nat.add_zero _) rfl ?_
    refine op_loadA (vs := [_, _, _, _, _, _]) Tryz.isAgg33 Tryz.sizeOf33 rfl (by assumption) rfl ?_
    refine op_alloc (cs := [_, _, _, _, _, _]) hS Tryz.zeroValue33 rfl rfl ?_
    clear hS; intro B7 W7 hS
    refine op_storeA (i := 0) (vs := [_, _, _, _, _, _]) (cs' := [_, _, _, _, _, _]) (O' := [_, _, _]) hS Tryz.sizeOf33 rfl rfl rfl rfl rfl rfl rfl ?_
    clear hS; intro W8 hS
    refine endF ?_
    refine XF.thenN ?_
    refine regF ?_
    refine op_move rfl rfl ?_
    refine op_loadA (vs := [_, _, _, _, _, _]) Tryz.isAgg33 Tryz.sizeOf33 rfl (CellsAt.own (j := 0) (m := 6) (hS.at_ 0 rfl) rfl) rfl ?_
    have hsz := hS.below.size
    refine op_call (vs := [_]) hS goes_55 rfl (copied_plain t n f1 _ _ (hx1.below hS.below)) rfl ?_
    rintro e W9 ⟨h1, rfl, hn, hb⟩
    refine ⟨_, rfl, hb, fun hS' => ?_⟩
    clear hS; have hS := hS'; clear hS'
    refine op_buildSlice (us := [(0, .agg (List.toArray [_, _, _, _, _, _]))]) hS Tryz.underlying31 Tryz.sizeOf33 Tryz.zeroValue33 rfl rfl rfl (bs_31_1 _ _ _ _ _ _) rfl ?_
    clear hS; intro B10 W10 hS
    refine op_append (i := 0) (news := [_, _, _, _, _, _]) hS Tryz.underlying31 inf_33 rfl rfl (by show 0 < 6; decide) rfl rfl rfl rfl rfl (CellsAt.own (j := 0) (m := 6) (hS.at_ 0 rfl) rfl) rfl rfl (by dsimp only; simp only [maxLen]; omega) (by dsimp only; show _ * 96 ≤ _; omega) rfl ?_
    clear hS; intro v11 W11 hS
    refine op_assign rfl rfl ?_
    refine endF ?_
    refine XF.blkN ?_
    refine XF.thenN ?_
    refine regF ?_
    refine op_add rfl rfl (IntWalk.i64_in _ (by omega)) rfl ?_
    refine op_move rfl rfl ?_
    refine endF ?_
    exact XF.round 1 [(1, _), (2, _), (3, _), (17, _), (18, _), (19, _)] (by omega) ⟨rfl, rfl, rfl, rfl, rfl, rfl, trivial⟩ (.inr (.inl ⟨_, _, _, h1, rfl, rfl, hsz, hn, hS.tail.tail⟩))
  · have k1 := CellsAt.agree hS.agree (Nat.zero_le _) hf7.cells
    refine seqF ?_
    refine regF ?_
    refine op_lss rfl rfl rfl ?_
    refine endF ?_
    refine XF.thenN ?_
    refine seqF ?_
    refine condF rfl (fun hc => ?_) (fun hc => absurd (of_decide_eq_false hc) (by omega))
    have hc := of_decide_eq_true hc
    refine skipF ?_
    refine XF.thenN ?_
    refine seqF ?_
    refine blockF ?_
    refine seqF ?_
    refine regF ?_
    refine op_indexA (j := 1) Tryz.underlying31 Tryz.sizeOf33 rfl rfl rfl (by omega) rfl rfl ?_
    refine op_loadA (vs := [_, _, _, _, _, _]) Tryz.isAgg33 Tryz.sizeOf33 rfl (by assumption) rfl ?_
    refine op_alloc (cs := [_, _, _, _, _, _]) hS Tryz.zeroValue33 rfl rfl ?_
    clear hS; intro B12 W12 hS
    refine op_storeA (i := 0) (vs := [_, _, _, _, _, _]) (cs' := [_, _, _, _, _, _]) (O' := [_, _, _]) hS Tryz.sizeOf33 rfl rfl rfl rfl rfl rfl rfl ?_
    clear hS; intro W13 hS
    refine endF ?_
    refine XF.thenN ?_
    refine regF ?_
    refine op_move rfl rfl ?_
    refine op_loadA (vs := [_, _, _, _, _, _]) Tryz.isAgg33 Tryz.sizeOf33 rfl (CellsAt.own (j := 0) (m := 6) (hS.at_ 0 rfl) rfl) rfl ?_
    have hsz := hS.below.size
    refine op_call (vs := [_]) hS goes_55 rfl (copied_plain u m0 f2 _ _ (hx2.below hS.below)) rfl ?_
    rintro e W14 ⟨h2, rfl, hn, hb⟩
    refine ⟨_, rfl, hb, fun hS' => ?_⟩
    clear hS; have hS := hS'; clear hS'
    refine op_buildSlice (us := [(0, .agg (List.toArray [_, _, _, _, _, _]))]) hS Tryz.underlying31 Tryz.sizeOf33 Tryz.zeroValue33 rfl rfl rfl (bs_31_1 _ _ _ _ _ _) rfl ?_
    clear hS; intro B15 W15 hS
    refine op_append (i := 0) (news := [_, _, _, _, _, _]) hS Tryz.underlying31 inf_33 rfl rfl (by show 0 < 6; decide) rfl rfl rfl rfl rfl (CellsAt.own (j := 0) (m := 6) (hS.at_ 0 rfl) rfl) rfl rfl (by dsimp only; simp only [maxLen]; omega) (by dsimp only; show _ * 96 ≤ _; omega) rfl ?_
    clear hS; intro v16 W16 hS
    refine op_assign rfl rfl ?_
    refine endF ?_
    refine XF.blkN ?_
    refine XF.thenN ?_
    refine regF ?_
    refine op_add rfl rfl (IntWalk.i64_in _ (by omega)) rfl ?_
    refine op_move rfl rfl ?_
    refine endF ?_
    exact XF.round 0 [(1, _), (2, _), (3, _), (17, _), (18, _), (19, _)] (by omega) ⟨rfl, rfl, rfl, rfl, rfl, rfl, trivial⟩ (.inr (.inr ⟨_, _, _, h1, _, _, h2, rfl, rfl, hlo1, hn1, hsz, hn, hS.tail.tail⟩))
  · skip
    refine seqF ?_
    refine regF ?_
    refine op_lss rfl rfl rfl ?_
    refine endF ?_
    refine XF.thenN ?_
    refine seqF ?_
    refine condF rfl (fun hc => absurd (of_decide_eq_true hc) (by omega)) (fun hc => ?_)
    have hc := of_decide_eq_false hc
    refine exitF ?_
    refine XF.thenX ?_
    refine XF.thenX ?_
    refine XF.blkX ?_
    refine XF.thenN ?_
    refine seqF ?_
    obtain ⟨gb, gc, rfl, hgb, hg6, hg7⟩ := own_two (hS.row 0 rfl)
    clear hgb hg6 hg7
    refine regF ?_
    refine op_move rfl rfl ?_
    refine op_field (o' := 5) fa_33_4 rfl rfl rfl ?_
    refine op_store (i := 1) (cs' := [_, _, _, _, _, _]) (O' := [_, _]) hS Tryz.sizeOf31 rfl rfl rfl rfl rfl rfl rfl ?_
    clear hS; intro W17 hS
    refine endF ?_
    refine XF.thenN ?_
    refine seqF ?_
    refine regF ?_
    refine op_loadA (vs := [_, _, _, _, _, _]) Tryz.isAgg33 Tryz.sizeOf33 rfl (CellsAt.own (j := 0) (m := 6) (hS.at_ 1 rfl) rfl) rfl ?_
    refine op_storeA (i := 0) (vs := [_, _, _, _, _, _]) (cs' := [_, _, _, _, _, _]) (O' := [_, _]) hS Tryz.sizeOf33 rfl rfl rfl rfl rfl rfl rfl ?_
    clear hS; intro W18 hS
    refine endF ?_
    refine XF.thenN ?_
    refine retF ?_
    refine XF.res (resC1 (vs := [_, _, _, _, _, _]) Tryz.results55 Tryz.isAgg33 Tryz.sizeOf33 rfl (CellsAt.own (j := 0) (m := 6) (hS.at_ 0 rfl) rfl)) ?_
    exact copied_fin hS.below (hS.row 0 rfl) hlo1 (hn1.agree (hS.since 1 rfl)) hlo2 (hn2.agree (hS.since 0 rfl))
end Go.Proofs.YtjcminoaiieckaaGreatDoor
namespace Go.Proofs.YtjcminoaiieckaaGreatDoor
open Go Go.RowKit
set_option linter.unusedVariables false
section
variable {w : World} {S : PS} {sf : SF} {f g : WF} {x y : PX}
theorem copied_ok (hx : XIs w S f x) : Calls Tryz.prog 55 #[f.val] w (WRet S x w) := by
  cases S <;> cases x <;> first | exact hx.elim | skip
  · exact copied_plain _ _ _ _ _ hx
  · obtain ⟨ra, ca, rc, cc, pc, fb, fo, f1, f2, rfl, h6, h7, h8, h9⟩ := hx.two
    exact copied_pair _ _ _ _ _ _ _ _ _ _ _ _ _ _ _ _ h6 h7 h8 h9
theorem wComb_is (hs : SIs w S sf) (hok : S.ok) (hx : XIs w S f x) (hy : XIs w S g y) (ht : Tabs w) : Calls Tryz.prog 52 #[sf.val, f.val, g.val] w (WRet S (combX S x y) w) := by
  cases S <;> cases x <;> cases y <;> first | exact hx.elim | exact hy.elim | skip
  · obtain ⟨a, c, rfl⟩ := hs
    exact combA_plain _ _ _ _ _ _ _ _ _ hok hx hy ht
  · obtain ⟨b, off, c, a1, c1, a2, c2, rfl, h1, h2⟩ := hs
    obtain ⟨ra, ca, rc, cc, pc, fb, fo, f1, f2, rfl, h6, h7, h8, h9⟩ := hx.two
    obtain ⟨ra', ca', rc', cc', pc', gb, go, g1, g2, rfl, h6', h7', h8', h9'⟩ := hy.two
    exact combA_pair _ _ _ _ _ _ _ _ _ _ _ _ h1 h2 hok.1 hok.2 _ _ _ _ _ _ _ _ _ _ _ h6 h7 h8 h9 _ _ _ _ _ _ _ _ _ _ _ h6' h7' h8' h9' ht
end
def FRow (w : World) (a : Option Addr) (fs : List WF) : Prop := fs = [] ∨ ∃ b off, a = some ⟨b, off, none⟩ ∧ ∀ (i : Nat) f, fs[i]? = some f → W6 w b (off + i * 6) f
theorem FRow.at_ {w : World} {a : Option Addr} {fs : List WF} (h : FRow w a fs) {i : Nat} {f : WF} (hi : fs[i]? = some f) : ∃ b off, a = some ⟨b, off, none⟩ ∧ W6 w b (off + i * 6) f := by
  rcases h with rfl | ⟨b, off, ha, hc⟩
  · simp at hi
  · exact ⟨b, off, ha, hc i f hi⟩
def XL (w : World) (S : PS) (fs : List WF) (xs : List PX) : Prop := fs.length = xs.length ∧ ∀ (i : Nat) f x, fs[i]? = some f → xs[i]? = some x → XIs w S f x
theorem XL.at_ {w : World} {S : PS} {fs : List WF} {xs : List PX} (h : XL w S fs xs) {k : Nat} (hk : k < fs.length) : ∃ f x, fs[k]? = some f ∧ xs[k]? = some x ∧ XIs w S f x :=
  ⟨fs[k], xs[k]'(by have := h.1; omega), by simp [hk], by have := h.1; simp [show k < xs.length by omega], h.2 k _ _ (by simp [hk]) (by have := h.1; simp [show k < xs.length by omega])⟩
def WRet2 (S : PS) (x : PX) (e0 : Int) (w : World) (e : Ending) (w' : World) : Prop := ∃ f : WF, e = .returned (.tuple #[f.val, .int .i64 e0]) ∧ XNew w.heap.size w' S f x ∧ Below w.heap.size w w'
theorem take_fold {α β : Type} {f : β → α → β} {b : β} {xs : List α} {k : Nat} {x : α} (h : xs[k]? = some x) : (xs.take (k + 1)).foldl f b = f ((xs.take k).foldl f b) x := by
  rw [List.take_add_one, h]; simp [List.foldl_append]
theorem FRow.below {w w' : World} {a : Option Addr} {fs : List WF} (h : FRow w a fs) (hb : Below w.heap.size w w') : FRow w' a fs := by
  rcases h with h | ⟨b, off, rfl, hc⟩
  · exact .inl h
  · exact .inr ⟨b, off, rfl, fun i f hi => (hc i f hi).below hb⟩
theorem XL.below {w w' : World} {S : PS} {fs : List WF} {xs : List PX} (h : XL w S fs xs) (hb : Below w.heap.size w w') : XL w' S fs xs := ⟨h.1, fun i f x hf hx => (h.2 i f x hf hx).below hb⟩

set_option maxRecDepth 100000 in
set_option maxHeartbeats 4000000 in
theorem checkAllW_ok (S : PS) (sf : SF) (w : World) (hs : SIs w S sf) (hok : S.ok) (a : Option Addr) (c m : Nat) (fs : List WF) (xs : List PX) (hr : FRow w a fs) (hx : XL w S fs xs) (hm : fs.length = m) (hmx : m ≤ 9223372036854775807) :
    Calls Tryz.prog 45 #[sf.val, .slice a m c] w (fun e w' => e = .returned (.int .i64 0) ∧ Below w.heap.size w w') := by
  refine enterF (args := [sf.val, .slice a m c]) Tryz.func45 rfl Tryz.ntmps45 rfl ?_
  have hS := St.start w
  refine seqF ?_
  refine regF ?_
  refine op_box (cs := [_, _, _]) hS rfl rfl rfl ?_
  clear hS; intro B1 W1 hS
  refine op_assign rfl rfl ?_
  refine endF ?_
  refine XF.thenN ?_
  refine seqF ?_
  refine seqF ?_
  refine regF ?_
  refine op_loadA (vs := [_, _, _]) Tryz.isAgg25 Tryz.sizeOf25 rfl (CellsAt.own (j := 0) (m := 3) (hS.at_ 0 rfl) rfl) rfl ?_
  refine op_call (vs := [_]) hS goes_18 rfl (spaceA_ok (hs.below hS.below) hok) rfl ?_
  rintro e W2 ⟨rfl, hb⟩
  refine ⟨_, rfl, hb, fun hS' => ?_⟩
  clear hS; have hS := hS'; clear hS' hb
  refine op_assign rfl rfl ?_
  refine endF ?_
  refine XF.thenN ?_
  refine seqF ?_
  refine regF ?_
  refine op_move rfl rfl ?_
  refine op_neq rfl rfl rfl ?_
  refine endF ?_
  refine XF.thenN ?_
  refine condF rfl (fun hc => absurd (of_decide_eq_true hc) (by omega)) (fun hc => ?_)
  have hc := of_decide_eq_false hc
  refine skipF ?_
  refine XF.thenN ?_
  refine seqF ?_
  refine seqF ?_
  refine regF ?_
  refine op_move rfl rfl ?_
  refine op_len Tryz.underlying31 rfl rfl ?_
  refine op_move rfl rfl ?_
  refine endF ?_
  refine XF.thenN ?_
  refine blockF ?_
  refine loopF (fun q l W => ∃ k : Nat, k ≤ m ∧ q = m - k ∧ l = [(2, .pointer (some ⟨B1, 0, none⟩)), (13, .slice a m c), (14, .int .i64 (m : Int)), (15, .int .i64 (k : Int))] ∧ St w [(B1, [.int .i64 sf.tag, .int .i64 sf.dim, .slice sf.a sf.len sf.cap], 25)] [] [] W) (m - 0) ([(2, _), (13, _), (14, _), (15, _)]) ⟨rfl, rfl, rfl, rfl, trivial⟩ (⟨0, Nat.zero_le _, rfl, rfl, hS.clear⟩) ?_
  clear hS
  rintro q l W ⟨k, hkm, rfl, rfl, hS⟩
  refine seqF ?_
  refine regF ?_
  refine op_lss rfl rfl rfl ?_
  refine endF ?_
  refine XF.thenN ?_
  refine seqF ?_
  refine condF rfl (fun hc => ?_) (fun hc => ?_)
  · have hc16 := of_decide_eq_true hc; clear hc
    have hk : k < m := by omega
    obtain ⟨f, x, hf, hxk, hxx⟩ := hx.at_ (k := k) (by omega)
    obtain ⟨b, off, rfl, h6⟩ := hr.at_ hf
    have k1 := CellsAt.agree hS.agree (Nat.zero_le _) h6.cells
    refine skipF ?_
    refine XF.thenN ?_
    refine seqF ?_
    refine blockF ?_
    refine seqF ?_
    refine regF ?_
    refine op_indexA  Tryz.underlying31 Tryz.sizeOf33 rfl rfl rfl (by omega) rfl rfl ?_
    refine op_loadA (vs := [_, _, _, _, _, _]) Tryz.isAgg33 Tryz.sizeOf33 rfl (by assumption) rfl ?_
    refine op_alloc (cs := [_, _, _, _, _, _]) hS Tryz.zeroValue33 rfl rfl ?_
    clear hS; intro B3 W3 hS
    refine op_storeA (i := 0) (vs := [_, _, _, _, _, _]) (cs' := [_, _, _, _, _, _]) (O' := [_, _]) hS Tryz.sizeOf33 rfl rfl rfl rfl rfl rfl rfl ?_
    clear hS; intro W4 hS
    refine endF ?_
    refine XF.thenN ?_
    refine seqF ?_
    refine regF ?_
    refine op_loadA (vs := [_, _, _]) Tryz.isAgg25 Tryz.sizeOf25 rfl (CellsAt.own (j := 0) (m := 3) (hS.at_ 1 rfl) rfl) rfl ?_
    refine op_loadA (vs := [_, _, _, _, _, _]) Tryz.isAgg33 Tryz.sizeOf33 rfl (CellsAt.own (j := 0) (m := 6) (hS.at_ 0 rfl) rfl) rfl ?_
    refine op_call (vs := [_, _]) hS goes_63 rfl (isA_ok (hs.below hS.below) hok (hxx.below hS.below)) rfl ?_
    rintro e W5 ⟨rfl, hb⟩
    refine ⟨_, rfl, hb, fun hS' => ?_⟩
    clear hS; have hS := hS'; clear hS' hb
    refine op_not rfl rfl ?_
    refine endF ?_
    refine XF.thenN ?_
    refine condN rfl ?_
    refine skipF ?_
    refine XF.blkN ?_
    refine XF.thenN ?_
    refine regF ?_
    refine op_add rfl rfl (IntWalk.i64_in _ (by omega)) rfl ?_
    refine op_move rfl rfl ?_
    refine endF ?_
    exact XF.round (m - (k + 1)) [(2, _), (13, _), (14, _), (15, _)] (by omega) ⟨rfl, rfl, rfl, rfl, trivial⟩ ⟨k + 1, by omega, rfl, rfl, hS.tail.clear⟩
  · have hc16 := of_decide_eq_false hc; clear hc
    refine exitF ?_
    refine XF.thenX ?_
    refine XF.thenX ?_
    refine XF.blkX ?_
    refine XF.thenN ?_
    refine seqF ?_
    refine regF ?_
    refine op_assign rfl rfl ?_
    refine endF ?_
    refine XF.thenN ?_
    refine retF ?_
    refine XF.res (res1 Tryz.results45 rfl) ?_
    exact ⟨rfl, hS.below⟩

set_option maxRecDepth 100000 in
set_option maxHeartbeats 4000000 in
theorem CombineW_ok (S : PS) (sf : SF) (w : World) (hs : SIs w S sf) (hok : S.ok) (a : Option Addr) (c m : Nat) (fs : List WF) (xs : List PX) (hr : FRow w a fs) (hx : XL w S fs xs) (hm : fs.length = m) (hmx : m ≤ 9223372036854775807) (ht : Tabs w) :
    Calls Tryz.prog 27 #[sf.val, .slice a m c] w (WRet2 S (xs.foldl (combX S) (zeroX S)) 0 w) := by
  refine enterF (args := [sf.val, .slice a m c]) Tryz.func27 rfl Tryz.ntmps27 rfl ?_
  have hS := St.start w
  refine seqF ?_
  refine regF ?_
  refine op_box (cs := [_, _, _]) hS rfl rfl rfl ?_
  clear hS; intro B1 W1 hS
  refine op_alloc (cs := [_, _, _, _, _, _]) hS Tryz.zeroValue33 rfl rfl ?_
  clear hS; intro B2 W2 hS
  refine op_assign rfl rfl ?_
  refine endF ?_
  refine XF.thenN ?_
  refine seqF ?_
  refine seqF ?_
  refine regF ?_
  refine op_loadA (vs := [_, _, _]) Tryz.isAgg25 Tryz.sizeOf25 rfl (CellsAt.own (j := 0) (m := 3) (hS.at_ 1 rfl) rfl) rfl ?_
  refine op_move rfl rfl ?_
  refine op_call (vs := [_, _]) hS goes_45 rfl (checkAllW_ok S sf _ (hs.below hS.below) hok a c m fs xs (hr.below hS.below) (hx.below hS.below) hm hmx) rfl ?_
  rintro e W3 ⟨rfl, hb⟩
  refine ⟨_, rfl, hb, fun hS' => ?_⟩
  clear hS; have hS := hS'; clear hS' hb
  refine op_assign rfl rfl ?_
  refine endF ?_
  refine XF.thenN ?_
  refine seqF ?_
  refine regF ?_
  refine op_move rfl rfl ?_
  refine op_neq rfl rfl rfl ?_
  refine endF ?_
  refine XF.thenN ?_
  refine condF rfl (fun hc => absurd (of_decide_eq_true hc) (by omega)) (fun hc => ?_)
  have hc := of_decide_eq_false hc
  refine skipF ?_
  refine XF.thenN ?_
  refine seqF ?_
  refine regF ?_
  refine op_loadA (vs := [_, _, _]) Tryz.isAgg25 Tryz.sizeOf25 rfl (CellsAt.own (j := 0) (m := 3) (hS.at_ 1 rfl) rfl) rfl ?_
  have hsz := hS.below.size
  refine op_call (vs := [_]) hS goes_41 rfl (zeroA_ok (hs.below hS.below) hok) rfl ?_
  rintro e W4 ⟨f0, rfl, hn, hb⟩
  refine ⟨_, rfl, hb, fun hS' => ?_⟩
  clear hS; have hS := hS'; clear hS'
  refine op_alloc (cs := [_, _, _, _, _, _]) hS Tryz.zeroValue33 rfl rfl ?_
  clear hS; intro B5 W5 hS
  refine op_storeA (i := 0) (vs := [_, _, _, _, _, _]) (cs' := [_, _, _, _, _, _]) (O' := [_, _, _]) hS Tryz.sizeOf33 rfl rfl rfl rfl rfl rfl rfl ?_
  clear hS; intro W6 hS
  refine endF ?_
  refine XF.thenN ?_
  refine seqF ?_
  refine seqF ?_
  refine regF ?_
  refine op_move rfl rfl ?_
  refine op_len Tryz.underlying31 rfl rfl ?_
  refine op_move rfl rfl ?_
  refine endF ?_
  refine XF.thenN ?_
  refine blockF ?_
  refine loopF (fun q l W => ∃ (k : Nat) (f0 : WF) (lo : Nat) (A : World), k ≤ m ∧ q = m - k ∧ l = [(2, .pointer (some ⟨B1, 0, none⟩)), (4, .pointer (some ⟨B2, 0, none⟩)), (7, .pointer (some ⟨B5, 0, none⟩)), (19, .slice a m c), (20, .int .i64 (m : Int)), (21, .int .i64 (k : Int))] ∧ w.heap.size ≤ lo ∧ XNew lo A S f0 ((xs.take k).foldl (combX S) (zeroX S)) ∧ St w [(B5, f0.six, 33), (B2, [.bool false, .int .i64 0, .int .u64 0, .slice none 0 0, .slice none 0 0, .slice none 0 0], 33), (B1, [.int .i64 sf.tag, .int .i64 sf.dim, .slice sf.a sf.len sf.cap], 25)] [] [(lo, A)] W) (m - 0) ([(2, _), (4, _), (7, _), (19, _), (20, _), (21, _)]) ⟨rfl, rfl, rfl, rfl, rfl, rfl, trivial⟩ (⟨0, f0, _, _, Nat.zero_le _, rfl, rfl, hsz, hn, hS.keep [_] (fun q hq => by simp at hq; subst hq; exact List.mem_cons_self)⟩) ?_
  clear hS
  rintro q l W ⟨k, f0, lo, A, hkm, rfl, rfl, hlo, hn0, hS⟩
  refine seqF ?_
  refine regF ?_
  refine op_lss rfl rfl rfl ?_
  refine endF ?_
  refine XF.thenN ?_
  refine seqF ?_
  refine condF rfl (fun hc => ?_) (fun hc => ?_)
  · have hc22 := of_decide_eq_true hc; clear hc
    have hk : k < m := by omega
    obtain ⟨f, x, hf, hxk, hxx⟩ := hx.at_ (k := k) (by omega)
    obtain ⟨b, off, rfl, h6⟩ := hr.at_ hf
    have k1 := CellsAt.agree hS.agree (Nat.zero_le _) h6.cells
    refine skipF ?_
    refine XF.thenN ?_
    refine seqF ?_
    refine blockF ?_
    refine seqF ?_
    refine regF ?_
    refine op_indexA  Tryz.underlying31 Tryz.sizeOf33 rfl rfl rfl (by omega) rfl rfl ?_
    refine op_loadA (vs := [_, _, _, _, _, _]) Tryz.isAgg33 Tryz.sizeOf33 rfl (by assumption) rfl ?_
    refine op_alloc (cs := [_, _, _, _, _, _]) hS Tryz.zeroValue33 rfl rfl ?_
    clear hS; intro B7 W7 hS
    refine op_storeA (i := 0) (vs := [_, _, _, _, _, _]) (cs' := [_, _, _, _, _, _]) (O' := [_, _, _, _]) hS Tryz.sizeOf33 rfl rfl rfl rfl rfl rfl rfl ?_
    clear hS; intro W8 hS
    refine endF ?_
    refine XF.thenN ?_
    refine regF ?_
    refine op_loadA (vs := [_, _, _]) Tryz.isAgg25 Tryz.sizeOf25 rfl (CellsAt.own (j := 0) (m := 3) (hS.at_ 3 rfl) rfl) rfl ?_
    refine op_loadA (vs := [_, _, _, _, _, _]) Tryz.isAgg33 Tryz.sizeOf33 rfl (CellsAt.own (j := 0) (m := 6) (hS.at_ 1 rfl) rfl) rfl ?_
    refine op_loadA (vs := [_, _, _, _, _, _]) Tryz.isAgg33 Tryz.sizeOf33 rfl (CellsAt.own (j := 0) (m := 6) (hS.at_ 0 rfl) rfl) rfl ?_
    have hsz2 := hS.below.size
    have hb0 := hS.below
    refine op_call (vs := [_, _, _]) hS goes_52 rfl (wComb_is (hs.below hS.below) hok ((hn0.agree (hS.since 0 rfl)).is) (hxx.below hS.below) (ht.below hS.below)) rfl ?_
    rintro e W9 ⟨f2, rfl, hn2, hb⟩
    refine ⟨_, rfl, hb, fun hS' => ?_⟩
    clear hS; have hS := hS'; clear hS'
    refine op_storeA (i := 1) (vs := [_, _, _, _, _, _]) (cs' := [_, _, _, _, _, _]) (O' := [_, _, _, _]) hS Tryz.sizeOf33 rfl rfl rfl rfl rfl rfl rfl ?_
    clear hS; intro W10 hS
    refine endF ?_
    refine XF.blkN ?_
    refine XF.thenN ?_
    refine regF ?_
    refine op_add rfl rfl (IntWalk.i64_in _ (by omega)) rfl ?_
    refine op_move rfl rfl ?_
    refine endF ?_
    exact XF.round (m - (k + 1)) [(2, _), (4, _), (7, _), (19, _), (20, _), (21, _)] (by omega) ⟨rfl, rfl, rfl, rfl, rfl, rfl, trivial⟩ ⟨k + 1, f2, _, _, by omega, rfl, rfl, hsz2, by rw [take_fold hxk]; exact hn2, hS.tail.keep [_] (fun q hq => by simp at hq; subst hq; exact List.mem_cons_self)⟩
  · have hc22 := of_decide_eq_false hc; clear hc
    refine exitF ?_
    refine XF.thenX ?_
    refine XF.thenX ?_
    refine XF.blkX ?_
    refine XF.thenN ?_
    refine seqF ?_
    refine regF ?_
    refine op_loadA (vs := [_, _, _, _, _, _]) Tryz.isAgg33 Tryz.sizeOf33 rfl (CellsAt.own (j := 0) (m := 6) (hS.at_ 0 rfl) rfl) rfl ?_
    refine op_storeA (i := 1) (vs := [_, _, _, _, _, _]) (cs' := [_, _, _, _, _, _]) (O' := [_, _, _]) hS Tryz.sizeOf33 rfl rfl rfl rfl rfl rfl rfl ?_
    clear hS; intro W11 hS
    refine op_assign rfl rfl ?_
    refine endF ?_
    refine XF.thenN ?_
    refine retF ?_
    refine XF.res (resCT (vs := [_, _, _, _, _, _]) Tryz.results27 Tryz.isAgg33 Tryz.sizeOf33 rfl (CellsAt.own (j := 0) (m := 6) (hS.at_ 1 rfl) rfl) rfl) ?_
    have e1 : xs.take k = xs := List.take_of_length_le (by have := hx.1; omega)
    rw [e1] at hn0
    exact ⟨f0, rfl, (hn0.agree (hS.since 0 rfl)).mono hlo, hS.below⟩
end Go.Proofs.YtjcminoaiieckaaGreatDoor
namespace Go.Proofs.YtjcminoaiieckaaGreatDoor
open Go Go.RowKit
set_option linter.unusedVariables false
theorem XL.tail {w : World} {S : PS} {f : WF} {fs : List WF} {x : PX} {xs : List PX} (h : XL w S (f :: fs) (x :: xs)) : XL w S fs xs :=
  ⟨by have := h.1; simpa using this, fun i g y hg hy => h.2 (i + 1) g y (by simpa using hg) (by simpa using hy)⟩
theorem FRow.tail {w : World} {a a' : Option Addr} {f : WF} {fs : List WF} {m c : Nat} (h : FRow w a (f :: fs)) (hm : fs.length + 1 = m) (hmc : m ≤ c) (h1 : c = 1 → a' = a) (h2 : c ≠ 1 → a' = a.map (·.add (1 * 6))) : FRow w a' fs := by
  by_cases hc : c = 1
  · exact .inl (List.eq_nil_of_length_eq_zero (by omega))
  · rcases h with h | ⟨b, off, rfl, hh⟩
    · cases h
    · refine .inr ⟨b, off + 6, by rw [h2 hc, Option.map_some, Addr.add_lit], fun i g hg => ?_⟩
      have := hh (i + 1) g (by simpa using hg)
      rwa [show off + (i + 1) * 6 = off + 6 + i * 6 by omega] at this

set_option maxRecDepth 100000 in
set_option maxHeartbeats 4000000 in
theorem ExtendW_ok (S : PS) (sf : SF) (w : World) (hs : SIs w S sf) (hok : S.ok) (a : Option Addr) (c m : Nat) (f0 : WF) (x0 : PX) (ft : List WF) (xt : List PX) (hr : FRow w a (f0 :: ft)) (hx : XL w S (f0 :: ft) (x0 :: xt)) (hm : ft.length + 1 = m) (hmc : m ≤ c) (hmx : m ≤ 9223372036854775807) (ht : Tabs w) :
    Calls Tryz.prog 29 #[sf.val, .slice a m c] w (WRet2 S (xt.foldl (extX S) x0) 0 w) := by
  refine enterF (args := [sf.val, .slice a m c]) Tryz.func29 rfl Tryz.ntmps29 rfl ?_
  have hS := St.start w
  refine seqF ?_
  refine regF ?_
  refine op_box (cs := [_, _, _]) hS rfl rfl rfl ?_
  clear hS; intro B1 W1 hS
  refine op_alloc (cs := [_, _, _, _, _, _]) hS Tryz.zeroValue33 rfl rfl ?_
  clear hS; intro B2 W2 hS
  refine op_assign rfl rfl ?_
  refine endF ?_
  refine XF.thenN ?_
  refine seqF ?_
  refine seqF ?_
  refine regF ?_
  refine op_loadA (vs := [_, _, _]) Tryz.isAgg25 Tryz.sizeOf25 rfl (CellsAt.own (j := 0) (m := 3) (hS.at_ 1 rfl) rfl) rfl ?_
  refine op_move rfl rfl ?_
  refine op_call (vs := [_, _]) hS goes_45 rfl (checkAllW_ok S sf _ (hs.below hS.below) hok a c m _ _ (hr.below hS.below) (hx.below hS.below) (by simpa using hm) hmx) rfl ?_
  rintro e W3 ⟨rfl, hb⟩
  refine ⟨_, rfl, hb, fun hS' => ?_⟩
  clear hS; have hS := hS'; clear hS' hb
  refine op_assign rfl rfl ?_
  refine endF ?_
  refine XF.thenN ?_
  refine seqF ?_
  refine regF ?_
  refine op_move rfl rfl ?_
  refine op_neq rfl rfl rfl ?_
  refine endF ?_
  refine XF.thenN ?_
  refine condF rfl (fun hc => absurd (of_decide_eq_true hc) (by omega)) (fun hc => ?_)
  have hc := of_decide_eq_false hc
  refine skipF ?_
  refine XF.thenN ?_
  refine seqF ?_
  refine seqF ?_
  refine regF ?_
  refine op_move rfl rfl ?_
  refine op_len Tryz.underlying31 rfl rfl ?_
  refine op_eql rfl rfl rfl ?_
  refine endF ?_
  refine XF.thenN ?_
  refine condF rfl (fun hc => absurd (of_decide_eq_true hc) (by omega)) (fun hc => ?_)
  have hc := of_decide_eq_false hc
  refine skipF ?_
  refine XF.thenN ?_
  refine seqF ?_
  obtain ⟨b, off, rfl, h6⟩ := hr.at_ (i := 0) rfl
  have k0 : CellsAt W3 b off f0.six := CellsAt.agree hS.agree (Nat.zero_le _) (show W6 w b off f0 by simpa using h6).cells
  have hsz := hS.below.size
  refine regF ?_
  refine op_move rfl rfl ?_
  refine op_indexA (j := 0) Tryz.underlying31 Tryz.sizeOf33 rfl rfl rfl (by omega) (Nat.add_zero _) rfl ?_
  refine op_loadA (vs := [_, _, _, _, _, _]) Tryz.isAgg33 Tryz.sizeOf33 rfl (by assumption) rfl ?_
  refine op_call (vs := [_]) hS goes_55 rfl (copied_ok ((hx.2 0 f0 x0 rfl rfl).below hS.below)) rfl ?_
  rintro e W4 ⟨f1, rfl, hn, hb⟩
  refine ⟨_, rfl, hb, fun hS' => ?_⟩
  clear hS; have hS := hS'; clear hS'
  refine op_alloc (cs := [_, _, _, _, _, _]) hS Tryz.zeroValue33 rfl rfl ?_
  clear hS; intro B5 W5 hS
  refine op_storeA (i := 0) (vs := [_, _, _, _, _, _]) (cs' := [_, _, _, _, _, _]) (O' := [_, _, _]) hS Tryz.sizeOf33 rfl rfl rfl rfl rfl rfl rfl ?_
  clear hS; intro W6 hS
  refine endF ?_
  refine XF.thenN ?_
  refine seqF ?_
  refine seqF ?_
  refine regF ?_
  refine op_move rfl rfl ?_
  refine op_sliceFrom (j := 1) Tryz.underlying31 Tryz.sizeOf33 rfl rfl rfl (by omega) rfl ?_
  intro ad7 hadE7 hadN7
  have hrt := FRow.tail hr hm hmc hadE7 hadN7
  have hxt := XL.tail hx
  clear hadE7 hadN7
  refine op_len Tryz.underlying31 rfl rfl ?_
  refine op_move rfl rfl ?_
  refine endF ?_
  refine XF.thenN ?_
  refine blockF ?_
  refine loopF (fun q l W => ∃ (k : Nat) (g : WF) (lo : Nat) (A : World), k ≤ m - 1 ∧ q = m - 1 - k ∧ l = [(2, .pointer (some ⟨B1, 0, none⟩)), (4, .pointer (some ⟨B2, 0, none⟩)), (7, .pointer (some ⟨B5, 0, none⟩)), (27, .slice ad7 (m - 1) (c - 1)), (28, .int .i64 ((m - 1 : Nat) : Int)), (29, .int .i64 (k : Int))] ∧ w.heap.size ≤ lo ∧ XNew lo A S g ((xt.take k).foldl (extX S) x0) ∧ St w [(B5, g.six, 33), (B2, [.bool false, .int .i64 0, .int .u64 0, .slice none 0 0, .slice none 0 0, .slice none 0 0], 33), (B1, [.int .i64 sf.tag, .int .i64 sf.dim, .slice sf.a sf.len sf.cap], 25)] [] [(lo, A)] W) (m - 1 - 0) ([(2, _), (4, _), (7, _), (27, _), (28, _), (29, _)]) ⟨rfl, rfl, rfl, rfl, rfl, rfl, trivial⟩ (⟨0, f1, _, _, Nat.zero_le _, rfl, rfl, hsz, hn, hS.keep [_] (fun q hq => by simp at hq; subst hq; exact List.mem_cons_self)⟩) ?_
  clear hS
  rintro q l W ⟨k, g, lo, A, hkm, rfl, rfl, hlo, hn0, hS⟩
  refine seqF ?_
  refine regF ?_
  refine op_lss rfl rfl rfl ?_
  refine endF ?_
  refine XF.thenN ?_
  refine seqF ?_
  refine condF rfl (fun hc => ?_) (fun hc => ?_)
  · have hc30 := of_decide_eq_true hc; clear hc
    have hk : k < m - 1 := by omega
    obtain ⟨f, x, hf, hxk, hxx⟩ := hxt.at_ (k := k) (by omega)
    obtain ⟨b2, off2, rfl, h62⟩ := hrt.at_ hf
    have k1 := CellsAt.agree hS.agree (Nat.zero_le _) h62.cells
    refine skipF ?_
    refine XF.thenN ?_
    refine seqF ?_
    refine blockF ?_
    refine seqF ?_
    refine regF ?_
    refine op_indexA  Tryz.underlying31 Tryz.sizeOf33 rfl rfl rfl (by omega) rfl rfl ?_
    refine op_loadA (vs := [_, _, _, _, _, _]) Tryz.isAgg33 Tryz.sizeOf33 rfl (by assumption) rfl ?_
    refine op_alloc (cs := [_, _, _, _, _, _]) hS Tryz.zeroValue33 rfl rfl ?_
    clear hS; intro B8 W8 hS
    refine op_storeA (i := 0) (vs := [_, _, _, _, _, _]) (cs' := [_, _, _, _, _, _]) (O' := [_, _, _, _]) hS Tryz.sizeOf33 rfl rfl rfl rfl rfl rfl rfl ?_
    clear hS; intro W9 hS
    refine endF ?_
    refine XF.thenN ?_
    refine regF ?_
    refine op_loadA (vs := [_, _, _]) Tryz.isAgg25 Tryz.sizeOf25 rfl (CellsAt.own (j := 0) (m := 3) (hS.at_ 3 rfl) rfl) rfl ?_
    refine op_loadA (vs := [_, _, _, _, _, _]) Tryz.isAgg33 Tryz.sizeOf33 rfl (CellsAt.own (j := 0) (m := 6) (hS.at_ 1 rfl) rfl) rfl ?_
    refine op_loadA (vs := [_, _, _, _, _, _]) Tryz.isAgg33 Tryz.sizeOf33 rfl (CellsAt.own (j := 0) (m := 6) (hS.at_ 0 rfl) rfl) rfl ?_
    have hsz2 := hS.below.size
    refine op_call (vs := [_, _, _]) hS goes_56 rfl (wExt_is (hs.below hS.below) hok ((hn0.agree (hS.since 0 rfl)).is) (hxx.below hS.below) (ht.below hS.below)) rfl ?_
    rintro e W10 ⟨f2, rfl, hn2, hb⟩
    refine ⟨_, rfl, hb, fun hS' => ?_⟩
    clear hS; have hS := hS'; clear hS'
    refine op_storeA (i := 1) (vs := [_, _, _, _, _, _]) (cs' := [_, _, _, _, _, _]) (O' := [_, _, _, _]) hS Tryz.sizeOf33 rfl rfl rfl rfl rfl rfl rfl ?_
    clear hS; intro W11 hS
    refine endF ?_
    refine XF.blkN ?_
    refine XF.thenN ?_
    refine regF ?_
    refine op_add rfl rfl (IntWalk.i64_in _ (by omega)) rfl ?_
    refine op_move rfl rfl ?_
    refine endF ?_
    exact XF.round (m - 1 - (k + 1)) [(2, _), (4, _), (7, _), (27, _), (28, _), (29, _)] (by omega) ⟨rfl, rfl, rfl, rfl, rfl, rfl, trivial⟩ ⟨k + 1, f2, _, _, by omega, rfl, rfl, hsz2, by rw [take_fold hxk]; exact hn2, hS.tail.keep [_] (fun q hq => by simp at hq; subst hq; exact List.mem_cons_self)⟩
  · have hc30 := of_decide_eq_false hc; clear hc
    refine exitF ?_
    refine XF.thenX ?_
    refine XF.thenX ?_
    refine XF.blkX ?_
    refine XF.thenN ?_
    refine seqF ?_
    refine regF ?_
    refine op_loadA (vs := [_, _, _, _, _, _]) Tryz.isAgg33 Tryz.sizeOf33 rfl (CellsAt.own (j := 0) (m := 6) (hS.at_ 0 rfl) rfl) rfl ?_
    refine op_storeA (i := 1) (vs := [_, _, _, _, _, _]) (cs' := [_, _, _, _, _, _]) (O' := [_, _, _]) hS Tryz.sizeOf33 rfl rfl rfl rfl rfl rfl rfl ?_
    clear hS; intro W12 hS
    refine op_assign rfl rfl ?_
    refine endF ?_
    refine XF.thenN ?_
    refine retF ?_
    refine XF.res (resCT (vs := [_, _, _, _, _, _]) Tryz.results29 Tryz.isAgg33 Tryz.sizeOf33 rfl (CellsAt.own (j := 0) (m := 6) (hS.at_ 1 rfl) rfl) rfl) ?_
    have e1 : xt.take k = xt := List.take_of_length_le (by have := hxt.1; omega)
    rw [e1] at hn0
    exact ⟨g, rfl, (hn0.agree (hS.since 0 rfl)).mono hlo, hS.below⟩

end Go.Proofs.YtjcminoaiieckaaGreatDoor
namespace Go.Proofs.YtjcminoaiieckaaGreatDoor
open Go Go.RowKit
set_option linter.unusedVariables false
def smN : Nat → WV → Bool
  | 0, _ => false
  | k + 1, .mk f ps => decide (f.rl ≤ 70) && (decide (f.cl ≤ 70) && (decide (f.pl ≤ 3) && ps.all (smN k)))
def smS : Nat → SV → Bool
  | 0, _ => false
  | k + 1, .mk f ps => decide (f.len ≤ 3) && ps.all (smS k)
theorem all_false_at {α : Type} {l : List α} {q : α → Bool} {i : Nat} {x : α} (h : l[i]? = some x) (hq : q x = false) : l.all q = false := by
  rw [List.all_eq_false]; exact ⟨x, List.mem_of_getElem? h, by rw [hq]; decide⟩
theorem all_take_at {α : Type} {l : List α} {q : α → Bool} {i : Nat} {x : α} (h : l[i]? = some x) (ha : (l.take i).all q = true) (hq : q x = true) : (l.take (i + 1)).all q = true := by
  rw [List.take_add_one, h]; simp [ha, hq]
def okW (s : SV) (x : WV) : Bool := if plainB s.f.tag s.f.dim s.f.len = true then pwOk s.f.tag s.f.dim x.f else match s.ps with | [p, q] => pairOk p q x.f x.ps | _ => false
theorem isR_gen {w : World} {ds da : Nat} {s : SV} {x : WV} (hs : SIn w ds s) (hse : spaceE s = 0) (hx : WIn w da x) (h100 : x.f.rl ≤ 100) (h101 : ∀ p ∈ x.ps, p.f.rl ≤ 100) :
    Calls Tryz.prog 46 #[s.f.val, x.f.val] w fun e w' => e = .returned (.bool (okW s x)) ∧ Below w.heap.size w w' := by
  match ds, da, s, x, hs, hx with
  | ds + 1, da + 1, .mk f ps, .mk g qs, hs, hx =>
    by_cases hp : plainB f.tag f.dim f.len = true
    · refine isR_plain f.tag f.dim f.a f.len f.cap g hp h100 w hx.1 _ ?_
      unfold okW; exact (if_pos hp).symm
    · have hse' : (if plainB f.tag f.dim f.len = true then (0 : Int) else if f.tag = 5 ∧ f.dim = 0 ∧ ps.length = 2 ∧ ps.all SV.pl = true then 0 else 50) = 0 := hse
      rw [if_neg hp] at hse'
      split at hse'
      · rename_i hq
        obtain ⟨h5, h0, h2, hall⟩ := hq
        obtain ⟨t, n, a, l, c⟩ := f
        dsimp only at h5 h0 hp
        subst h5; subst h0
        obtain ⟨p, q, rfl⟩ := two_of h2
        have hl : 2 = l := hs.1
        subst hl
        simp only [List.all_cons, List.all_nil, Bool.and_true, Bool.and_eq_true] at hall
        refine isR_pair ds a c p q g qs w hs hall.1 hall.2 da hx h101 _ ?_
        unfold okW; exact (if_neg hp).symm
      · cases hse'

set_option maxRecDepth 100000 in
set_option maxHeartbeats 4000000 in
theorem small_step (deep k e0 : Nat) (z : Bool) (c : Int) (g : Nat) (ra : Option Addr) (rl rc : Nat) (rows : List Nat) (ca : Option Addr) (cl cc : Nat) (cells : List Cl) (pa : Option Addr) (pl pc : Nat) (ps : List WV) (w : World) (hd : deep ≤ 3) (hps : ps.length = pl) (hrow : PRow w pa ps) (hin : ∀ p ∈ ps, WIn w e0 p) (ih : ∀ (p : WV) (W : World), WIn W e0 p → Calls Tryz.prog 10 #[p.f.val, .int .i64 ((deep + 1 : Nat) : Int)] W fun e w' => e = .returned (.bool (smN k p)) ∧ Below W.heap.size W w') :
    Calls Tryz.prog 10 #[.agg #[.bool z, .int .i64 c, .int .u64 (g : Int), .slice ra rl rc, .slice ca cl cc, .slice pa pl pc], .int .i64 (deep : Int)] w (fun e w' => e = .returned (.bool (smN (k + 1) (.mk ⟨z, c, g, ra, rl, rc, rows, ca, cl, cc, cells, pa, pl, pc⟩ ps))) ∧ Below w.heap.size w w') := by
  refine enterF (args := [.agg #[.bool z, .int .i64 c, .int .u64 (g : Int), .slice ra rl rc, .slice ca cl cc, .slice pa pl pc], .int .i64 (deep : Int)]) Tryz.func10 rfl Tryz.ntmps10 rfl ?_
  have hS := St.start w
  refine seqF ?_
  refine regF ?_
  refine op_box (cs := [_, _, _, _, _, _]) hS rfl rfl rfl ?_
  clear hS; intro B1 W1 hS
  refine op_assign rfl rfl ?_
  refine endF ?_
  refine XF.thenN ?_
  refine seqF ?_
  refine seqF ?_
  refine regF ?_
  refine op_field (o' := 2) fa_33_2 rfl rfl rfl ?_
  refine op_field (o' := 3) fa_29_1 rfl rfl rfl ?_
  refine op_load Tryz.isAgg27 rfl (cell_own (hS.at_ 0 rfl) rfl) rfl ?_
  refine op_len Tryz.underlying27 rfl rfl ?_
  refine op_gtr rfl rfl rfl ?_
  refine op_move rfl rfl ?_
  refine op_cases (d := 11) rfl (fun hc => ?_) (fun hc => ?_)
  · have hg11 := of_decide_eq_true hc; clear hc
    refine op_notF (d := 11) rfl rfl rfl rfl ?_
    refine op_notF (d := 11) rfl rfl rfl rfl ?_
    refine op_notF (d := 11) rfl rfl rfl rfl ?_
    refine op_notF (d := 11) rfl rfl rfl rfl ?_
    refine op_pickT rfl rfl rfl ?_
    refine op_move rfl rfl ?_
    refine op_notF (d := 17) rfl rfl rfl rfl ?_
    refine op_notF (d := 17) rfl rfl rfl rfl ?_
    refine op_notF (d := 17) rfl rfl rfl rfl ?_
    refine op_notF (d := 17) rfl rfl rfl rfl ?_
    refine op_pickT rfl rfl rfl ?_
    refine op_move rfl rfl ?_
    refine op_notF (d := 23) rfl rfl rfl rfl ?_
    refine op_notF (d := 23) rfl rfl rfl rfl ?_
    refine op_pickT rfl rfl rfl ?_
    refine endF ?_
    refine XF.thenN ?_
    refine condT rfl ?_
    refine seqF ?_
    refine regF ?_
    refine op_assign rfl rfl ?_
    refine endF ?_
    refine XF.thenN ?_
    refine retF ?_
    refine XF.thenR ?_
    refine XF.res (res1 Tryz.results10 rfl) ?_
    exact ⟨rbool (by simp only [smN]; rw [decide_eq_false (show ¬ rl ≤ 70 by omega)]; rfl), hS.below⟩
  · have hg11 := of_decide_eq_false hc; clear hc
    refine op_wantedF (d := 11) rfl rfl ?_
    refine op_field (o' := 4) fa_33_3 rfl rfl rfl ?_
    refine op_wantedF (d := 11) rfl rfl ?_
    refine op_load Tryz.isAgg30 rfl (cell_own (hS.at_ 0 rfl) rfl) rfl ?_
    refine op_wantedF (d := 11) rfl rfl ?_
    refine op_len Tryz.underlying30 rfl rfl ?_
    refine op_wantedF (d := 11) rfl rfl ?_
    refine op_gtr rfl rfl rfl ?_
    refine op_pickF rfl rfl rfl ?_
    refine op_move rfl rfl ?_
    refine op_cases (d := 17) rfl (fun hc => ?_) (fun hc => ?_)
    · have hg17 := of_decide_eq_true hc; clear hc
      refine op_notF (d := 17) rfl rfl rfl rfl ?_
      refine op_notF (d := 17) rfl rfl rfl rfl ?_
      refine op_notF (d := 17) rfl rfl rfl rfl ?_
      refine op_notF (d := 17) rfl rfl rfl rfl ?_
      refine op_pickT rfl rfl rfl ?_
      refine op_move rfl rfl ?_
      refine op_notF (d := 23) rfl rfl rfl rfl ?_
      refine op_notF (d := 23) rfl rfl rfl rfl ?_
      refine op_pickT rfl rfl rfl ?_
      refine endF ?_
      refine XF.thenN ?_
      refine condT rfl ?_
      refine seqF ?_
      refine regF ?_
      refine op_assign rfl rfl ?_
      refine endF ?_
      refine XF.thenN ?_
      refine retF ?_
      refine XF.thenR ?_
      refine XF.res (res1 Tryz.results10 rfl) ?_
      exact ⟨rbool (by simp only [smN]; rw [decide_eq_false (show ¬ cl ≤ 70 by omega)]; simp), hS.below⟩
    · have hg17 := of_decide_eq_false hc; clear hc
      refine op_wantedF (d := 17) rfl rfl ?_
      refine op_field (o' := 5) fa_33_4 rfl rfl rfl ?_
      refine op_wantedF (d := 17) rfl rfl ?_
      refine op_load Tryz.isAgg31 rfl (cell_own (hS.at_ 0 rfl) rfl) rfl ?_
      refine op_wantedF (d := 17) rfl rfl ?_
      refine op_len Tryz.underlying31 rfl rfl ?_
      refine op_wantedF (d := 17) rfl rfl ?_
      refine op_gtr rfl rfl rfl ?_
      refine op_pickF rfl rfl rfl ?_
      refine op_move rfl rfl ?_
      refine op_cases (d := 23) rfl (fun hc => ?_) (fun hc => ?_)
      · have hg23 := of_decide_eq_true hc; clear hc
        refine op_notF (d := 23) rfl rfl rfl rfl ?_
        refine op_notF (d := 23) rfl rfl rfl rfl ?_
        refine op_pickT rfl rfl rfl ?_
        refine endF ?_
        refine XF.thenN ?_
        refine condT rfl ?_
        refine seqF ?_
        refine regF ?_
        refine op_assign rfl rfl ?_
        refine endF ?_
        refine XF.thenN ?_
        refine retF ?_
        refine XF.thenR ?_
        refine XF.res (res1 Tryz.results10 rfl) ?_
        exact ⟨rbool (by simp only [smN]; rw [decide_eq_false (show ¬ pl ≤ 3 by omega)]; simp), hS.below⟩
      · have hg23 := of_decide_eq_false hc; clear hc
        refine op_wantedF (d := 23) rfl rfl ?_
        refine op_move rfl rfl ?_
        refine op_wantedF (d := 23) rfl rfl ?_
        refine op_gtr rfl rfl rfl ?_
        refine op_pickF rfl rfl rfl ?_
        refine endF ?_
        refine XF.thenN ?_
        refine condF rfl (fun hc => absurd (of_decide_eq_true hc) (by omega)) (fun hc => ?_)
        have hc := of_decide_eq_false hc
        refine skipF ?_
        refine XF.thenN ?_
        refine seqF ?_
        refine seqF ?_
        refine regF ?_
        refine op_assign rfl rfl ?_
        refine endF ?_
        refine XF.thenN ?_
        refine blockF ?_
        refine loopF (fun q l W => ∃ i : Nat, i ≤ pl ∧ q = pl - i ∧ l = [(1, .int .i64 (deep : Int)), (2, .pointer (some ⟨B1, 0, none⟩)), (5, .int .i64 (i : Int))] ∧ (ps.take i).all (smN k) = true ∧ St w [(B1, [.bool z, .int .i64 c, .int .u64 (g : Int), .slice ra rl rc, .slice ca cl cc, .slice pa pl pc], 33)] [] [] W) (pl - 0) ([(1, _), (2, _), (5, _)]) ⟨rfl, rfl, rfl, trivial⟩ (⟨0, Nat.zero_le _, rfl, rfl, rfl, hS.clear⟩) ?_
        clear hS
        rintro q l W ⟨i, hi, rfl, rfl, hall, hS⟩
        refine seqF ?_
        refine seqF ?_
        refine regF ?_
        refine op_move rfl rfl ?_
        refine op_field (o' := 5) fa_33_4 rfl rfl rfl ?_
        refine op_load Tryz.isAgg31 rfl (cell_own (hS.at_ 0 rfl) rfl) rfl ?_
        refine op_len Tryz.underlying31 rfl rfl ?_
        refine op_lss rfl rfl rfl ?_
        refine endF ?_
        refine XF.thenN ?_
        refine condF rfl (fun hc => ?_) (fun hc => ?_)
        · have hc31 := of_decide_eq_true hc; clear hc
          have hk : i < pl := by omega
          obtain ⟨p, hp⟩ : ∃ p, ps[i]? = some p := ⟨ps[i]'(by omega), by simp [show i < ps.length by omega]⟩
          obtain ⟨b, off, hpa, hb, h6⟩ := hrow.at_ hp
          subst hpa
          have k1 := CellsAt.agree hS.agree (Nat.zero_le _) h6.cells
          refine skipF ?_
          refine XF.thenN ?_
          refine seqF ?_
          refine blockF ?_
          refine seqF ?_
          refine regF ?_
          refine op_field (o' := 5) fa_33_4 rfl rfl rfl ?_
          refine op_load Tryz.isAgg31 rfl (cell_own (hS.at_ 0 rfl) rfl) rfl ?_
          refine op_move rfl rfl ?_
          refine op_indexA  Tryz.underlying31 Tryz.sizeOf33 rfl rfl rfl (by omega) rfl rfl ?_
          refine op_loadA (vs := [_, _, _, _, _, _]) Tryz.isAgg33 Tryz.sizeOf33 rfl (by assumption) rfl ?_
          refine op_move rfl rfl ?_
          refine op_add rfl rfl (IntWalk.i64_in _ (by omega)) rfl ?_
          refine op_call (vs := [_, _]) hS goes_10 rfl (ih p _ (WIn.below hS.below (hin p (List.mem_of_getElem? hp)))) rfl ?_
          rintro e W2 ⟨rfl, hb⟩
          refine ⟨_, rfl, hb, fun hS' => ?_⟩
          clear hS; have hS := hS'; clear hS' hb
          refine op_not rfl rfl ?_
          refine endF ?_
          refine XF.thenN ?_
          refine condF rfl (fun hc => ?_) (fun hc => ?_)
          · have hc42 := hc; clear hc
            refine seqF ?_
            refine regF ?_
            refine op_assign rfl rfl ?_
            refine endF ?_
            refine XF.thenN ?_
            refine retF ?_
            refine XF.blkR ?_
            refine XF.thenR ?_
            refine XF.thenR ?_
            refine XF.blkR ?_
            refine XF.thenR ?_
            refine XF.res (res1 Tryz.results10 rfl) ?_
            exact ⟨rbool (by simp only [smN]; rw [all_false_at hp (by simpa using hc42)]; simp), hS.below⟩
          · have hc42 := hc; clear hc
            refine skipF ?_
            refine XF.blkN ?_
            refine XF.thenN ?_
            refine regF ?_
            refine op_move rfl rfl ?_
            refine op_add rfl rfl (IntWalk.i64_in _ (by omega)) rfl ?_
            refine op_assign rfl rfl ?_
            refine endF ?_
            exact XF.round (pl - (i + 1)) [(1, _), (2, _), (5, _)] (by omega) ⟨rfl, rfl, rfl, trivial⟩ ⟨i + 1, by omega, rfl, rfl, all_take_at hp hall (by simpa using hc42), hS.clear⟩
        · have hc31 := of_decide_eq_false hc; clear hc
          refine exitF ?_
          refine XF.thenX ?_
          refine XF.thenX ?_
          refine XF.blkX ?_
          refine XF.thenN ?_
          refine seqF ?_
          refine regF ?_
          refine op_assign rfl rfl ?_
          refine endF ?_
          refine XF.thenN ?_
          refine retF ?_
          refine XF.res (res1 Tryz.results10 rfl) ?_
          rw [List.take_of_length_le (by omega)] at hall
          exact ⟨rbool (by simp only [smN]; rw [hall, decide_eq_true (show rl ≤ 70 by omega), decide_eq_true (show cl ≤ 70 by omega), decide_eq_true (show pl ≤ 3 by omega)]; rfl), hS.below⟩

set_option maxRecDepth 100000 in
set_option maxHeartbeats 4000000 in
theorem smallSpace_step (deep k e0 : Nat) (t n : Int) (pa : Option Addr) (pl pc : Nat) (ps : List SV) (w : World) (hd : deep ≤ 3) (hps : ps.length = pl) (hrow : SRow w pa ps) (hin : ∀ p ∈ ps, SIn w e0 p) (ih : ∀ (p : SV) (W : World), SIn W e0 p → Calls Tryz.prog 9 #[p.f.val, .int .i64 ((deep + 1 : Nat) : Int)] W fun e w' => e = .returned (.bool (smS k p)) ∧ Below W.heap.size W w') :
    Calls Tryz.prog 9 #[.agg #[.int .i64 t, .int .i64 n, .slice pa pl pc], .int .i64 (deep : Int)] w (fun e w' => e = .returned (.bool (smS (k + 1) (.mk ⟨t, n, pa, pl, pc⟩ ps))) ∧ Below w.heap.size w w') := by
  refine enterF (args := [.agg #[.int .i64 t, .int .i64 n, .slice pa pl pc], .int .i64 (deep : Int)]) Tryz.func9 rfl Tryz.ntmps9 rfl ?_
  have hS := St.start w
  refine seqF ?_
  refine regF ?_
  refine op_box (cs := [_, _, _]) hS rfl rfl rfl ?_
  clear hS; intro B1 W1 hS
  refine op_assign rfl rfl ?_
  refine endF ?_
  refine XF.thenN ?_
  refine seqF ?_
  refine seqF ?_
  refine regF ?_
  refine op_field (o' := 2) fa_25_2 rfl rfl rfl ?_
  refine op_load Tryz.isAgg23 rfl (cell_own (hS.at_ 0 rfl) rfl) rfl ?_
  refine op_len Tryz.underlying23 rfl rfl ?_
  refine op_gtr rfl rfl rfl ?_
  refine op_move rfl rfl ?_
  refine op_cases (d := 10) rfl (fun hc => ?_) (fun hc => ?_)
  · have hg10 := of_decide_eq_true hc; clear hc
    refine op_notF (d := 10) rfl rfl rfl rfl ?_
    refine op_notF (d := 10) rfl rfl rfl rfl ?_
    refine op_pickT rfl rfl rfl ?_
    refine endF ?_
    refine XF.thenN ?_
    refine condT rfl ?_
    refine seqF ?_
    refine regF ?_
    refine op_assign rfl rfl ?_
    refine endF ?_
    refine XF.thenN ?_
    refine retF ?_
    refine XF.thenR ?_
    refine XF.res (res1 Tryz.results9 rfl) ?_
    exact ⟨rbool (by simp only [smS]; rw [decide_eq_false (show ¬ pl ≤ 3 by omega)]; rfl), hS.below⟩
  · have hg10 := of_decide_eq_false hc; clear hc
    refine op_wantedF (d := 10) rfl rfl ?_
    refine op_move rfl rfl ?_
    refine op_wantedF (d := 10) rfl rfl ?_
    refine op_gtr rfl rfl rfl ?_
    refine op_pickF rfl rfl rfl ?_
    refine endF ?_
    refine XF.thenN ?_
    refine condF rfl (fun hc => absurd (of_decide_eq_true hc) (by omega)) (fun hc => ?_)
    have hc := of_decide_eq_false hc
    refine skipF ?_
    refine XF.thenN ?_
    refine seqF ?_
    refine seqF ?_
    refine regF ?_
    refine op_assign rfl rfl ?_
    refine endF ?_
    refine XF.thenN ?_
    refine blockF ?_
    refine loopF (fun q l W => ∃ i : Nat, i ≤ pl ∧ q = pl - i ∧ l = [(1, .int .i64 (deep : Int)), (2, .pointer (some ⟨B1, 0, none⟩)), (5, .int .i64 (i : Int))] ∧ (ps.take i).all (smS k) = true ∧ St w [(B1, [.int .i64 t, .int .i64 n, .slice pa pl pc], 25)] [] [] W) (pl - 0) ([(1, _), (2, _), (5, _)]) ⟨rfl, rfl, rfl, trivial⟩ (⟨0, Nat.zero_le _, rfl, rfl, rfl, hS.clear⟩) ?_
    clear hS
    rintro q l W ⟨i, hi, rfl, rfl, hall, hS⟩
    refine seqF ?_
    refine seqF ?_
    refine regF ?_
    refine op_move rfl rfl ?_
    refine op_field (o' := 2) fa_25_2 rfl rfl rfl ?_
    refine op_load Tryz.isAgg23 rfl (cell_own (hS.at_ 0 rfl) rfl) rfl ?_
    refine op_len Tryz.underlying23 rfl rfl ?_
    refine op_lss rfl rfl rfl ?_
    refine endF ?_
    refine XF.thenN ?_
    refine condF rfl (fun hc => ?_) (fun hc => ?_)
    · have hc18 := of_decide_eq_true hc; clear hc
      have hk : i < pl := by omega
      obtain ⟨p, hp⟩ : ∃ p, ps[i]? = some p := ⟨ps[i]'(by omega), by simp [show i < ps.length by omega]⟩
      obtain ⟨b, off, hpa, hb, h6⟩ := hrow.at_ hp
      subst hpa
      have k1 := CellsAt.agree hS.agree (Nat.zero_le _) h6.cells
      refine skipF ?_
      refine XF.thenN ?_
      refine seqF ?_
      refine blockF ?_
      refine seqF ?_
      refine regF ?_
      refine op_field (o' := 2) fa_25_2 rfl rfl rfl ?_
      refine op_load Tryz.isAgg23 rfl (cell_own (hS.at_ 0 rfl) rfl) rfl ?_
      refine op_move rfl rfl ?_
      refine op_indexA  Tryz.underlying23 Tryz.sizeOf25 rfl rfl rfl (by omega) rfl rfl ?_
      refine op_loadA (vs := [_, _, _]) Tryz.isAgg25 Tryz.sizeOf25 rfl (by assumption) rfl ?_
      refine op_move rfl rfl ?_
      refine op_add rfl rfl (IntWalk.i64_in _ (by omega)) rfl ?_
      refine op_call (vs := [_, _]) hS goes_9 rfl (ih p _ (SIn.below hS.below (hin p (List.mem_of_getElem? hp)))) rfl ?_
      rintro e W2 ⟨rfl, hb⟩
      refine ⟨_, rfl, hb, fun hS' => ?_⟩
      clear hS; have hS := hS'; clear hS' hb
      refine op_not rfl rfl ?_
      refine endF ?_
      refine XF.thenN ?_
      refine condF rfl (fun hc => ?_) (fun hc => ?_)
      · have hc29 := hc; clear hc
        refine seqF ?_
        refine regF ?_
        refine op_assign rfl rfl ?_
        refine endF ?_
        refine XF.thenN ?_
        refine retF ?_
        refine XF.blkR ?_
        refine XF.thenR ?_
        refine XF.thenR ?_
        refine XF.blkR ?_
        refine XF.thenR ?_
        refine XF.res (res1 Tryz.results9 rfl) ?_
        exact ⟨rbool (by simp only [smS]; rw [all_false_at hp (by simpa using hc29)]; simp), hS.below⟩
      · have hc29 := hc; clear hc
        refine skipF ?_
        refine XF.blkN ?_
        refine XF.thenN ?_
        refine regF ?_
        refine op_move rfl rfl ?_
        refine op_add rfl rfl (IntWalk.i64_in _ (by omega)) rfl ?_
        refine op_assign rfl rfl ?_
        refine endF ?_
        exact XF.round (pl - (i + 1)) [(1, _), (2, _), (5, _)] (by omega) ⟨rfl, rfl, rfl, trivial⟩ ⟨i + 1, by omega, rfl, rfl, all_take_at hp hall (by simpa using hc29), hS.clear⟩
    · have hc18 := of_decide_eq_false hc; clear hc
      refine exitF ?_
      refine XF.thenX ?_
      refine XF.thenX ?_
      refine XF.blkX ?_
      refine XF.thenN ?_
      refine seqF ?_
      refine regF ?_
      refine op_assign rfl rfl ?_
      refine endF ?_
      refine XF.thenN ?_
      refine retF ?_
      refine XF.res (res1 Tryz.results9 rfl) ?_
      rw [List.take_of_length_le (by omega)] at hall
      exact ⟨rbool (by simp only [smS]; rw [hall, decide_eq_true (show pl ≤ 3 by omega)]; rfl), hS.below⟩

set_option maxRecDepth 100000 in
set_option maxHeartbeats 4000000 in
theorem small_deep (deep : Nat) (x : WV) (w : World) (hd : deep = 4) :
    Calls Tryz.prog 10 #[x.f.val, .int .i64 (deep : Int)] w (fun e w' => e = .returned (.bool (smN 0 x)) ∧ Below w.heap.size w w') := by
  refine enterF (args := [x.f.val, .int .i64 (deep : Int)]) Tryz.func10 rfl Tryz.ntmps10 rfl ?_
  have hS := St.start w
  refine seqF ?_
  refine regF ?_
  refine op_box (cs := [_, _, _, _, _, _]) hS rfl rfl rfl ?_
  clear hS; intro B1 W1 hS
  refine op_assign rfl rfl ?_
  refine endF ?_
  refine XF.thenN ?_
  refine seqF ?_
  refine seqF ?_
  refine regF ?_
  refine op_field (o' := 2) fa_33_2 rfl rfl rfl ?_
  refine op_field (o' := 3) fa_29_1 rfl rfl rfl ?_
  refine op_load Tryz.isAgg27 rfl (cell_own (hS.at_ 0 rfl) rfl) rfl ?_
  refine op_len Tryz.underlying27 rfl rfl ?_
  refine op_gtr rfl rfl rfl ?_
  refine op_move rfl rfl ?_
  refine op_cases (d := 11) rfl (fun hc => ?_) (fun hc => ?_)
  · have hg11 := of_decide_eq_true hc; clear hc
    refine op_notF (d := 11) rfl rfl rfl rfl ?_
    refine op_notF (d := 11) rfl rfl rfl rfl ?_
    refine op_notF (d := 11) rfl rfl rfl rfl ?_
    refine op_notF (d := 11) rfl rfl rfl rfl ?_
    refine op_pickT rfl rfl rfl ?_
    refine op_move rfl rfl ?_
    refine op_notF (d := 17) rfl rfl rfl rfl ?_
    refine op_notF (d := 17) rfl rfl rfl rfl ?_
    refine op_notF (d := 17) rfl rfl rfl rfl ?_
    refine op_notF (d := 17) rfl rfl rfl rfl ?_
    refine op_pickT rfl rfl rfl ?_
    refine op_move rfl rfl ?_
    refine op_notF (d := 23) rfl rfl rfl rfl ?_
    refine op_notF (d := 23) rfl rfl rfl rfl ?_
    refine op_pickT rfl rfl rfl ?_
    refine endF ?_
    refine XF.thenN ?_
    refine condT rfl ?_
    refine seqF ?_
    refine regF ?_
    refine op_assign rfl rfl ?_
    refine endF ?_
    refine XF.thenN ?_
    refine retF ?_
    refine XF.thenR ?_
    refine XF.res (res1 Tryz.results10 rfl) ?_
    exact ⟨rfl, hS.below⟩
  · have hg11 := of_decide_eq_false hc; clear hc
    refine op_wantedF (d := 11) rfl rfl ?_
    refine op_field (o' := 4) fa_33_3 rfl rfl rfl ?_
    refine op_wantedF (d := 11) rfl rfl ?_
    refine op_load Tryz.isAgg30 rfl (cell_own (hS.at_ 0 rfl) rfl) rfl ?_
    refine op_wantedF (d := 11) rfl rfl ?_
    refine op_len Tryz.underlying30 rfl rfl ?_
    refine op_wantedF (d := 11) rfl rfl ?_
    refine op_gtr rfl rfl rfl ?_
    refine op_pickF rfl rfl rfl ?_
    refine op_move rfl rfl ?_
    refine op_cases (d := 17) rfl (fun hc => ?_) (fun hc => ?_)
    · have hg17 := of_decide_eq_true hc; clear hc
      refine op_notF (d := 17) rfl rfl rfl rfl ?_
      refine op_notF (d := 17) rfl rfl rfl rfl ?_
      refine op_notF (d := 17) rfl rfl rfl rfl ?_
      refine op_notF (d := 17) rfl rfl rfl rfl ?_
      refine op_pickT rfl rfl rfl ?_
      refine op_move rfl rfl ?_
      refine op_notF (d := 23) rfl rfl rfl rfl ?_
      refine op_notF (d := 23) rfl rfl rfl rfl ?_
      refine op_pickT rfl rfl rfl ?_
      refine endF ?_
      refine XF.thenN ?_
      refine condT rfl ?_
      refine seqF ?_
      refine regF ?_
      refine op_assign rfl rfl ?_
      refine endF ?_
      refine XF.thenN ?_
      refine retF ?_
      refine XF.thenR ?_
      refine XF.res (res1 Tryz.results10 rfl) ?_
      exact ⟨rfl, hS.below⟩
    · have hg17 := of_decide_eq_false hc; clear hc
      refine op_wantedF (d := 17) rfl rfl ?_
      refine op_field (o' := 5) fa_33_4 rfl rfl rfl ?_
      refine op_wantedF (d := 17) rfl rfl ?_
      refine op_load Tryz.isAgg31 rfl (cell_own (hS.at_ 0 rfl) rfl) rfl ?_
      refine op_wantedF (d := 17) rfl rfl ?_
      refine op_len Tryz.underlying31 rfl rfl ?_
      refine op_wantedF (d := 17) rfl rfl ?_
      refine op_gtr rfl rfl rfl ?_
      refine op_pickF rfl rfl rfl ?_
      refine op_move rfl rfl ?_
      refine op_cases (d := 23) rfl (fun hc => ?_) (fun hc => ?_)
      · have hg23 := of_decide_eq_true hc; clear hc
        refine op_notF (d := 23) rfl rfl rfl rfl ?_
        refine op_notF (d := 23) rfl rfl rfl rfl ?_
        refine op_pickT rfl rfl rfl ?_
        refine endF ?_
        refine XF.thenN ?_
        refine condT rfl ?_
        refine seqF ?_
        refine regF ?_
        refine op_assign rfl rfl ?_
        refine endF ?_
        refine XF.thenN ?_
        refine retF ?_
        refine XF.thenR ?_
        refine XF.res (res1 Tryz.results10 rfl) ?_
        exact ⟨rfl, hS.below⟩
      · have hg23 := of_decide_eq_false hc; clear hc
        refine op_wantedF (d := 23) rfl rfl ?_
        refine op_move rfl rfl ?_
        refine op_wantedF (d := 23) rfl rfl ?_
        refine op_gtr rfl rfl rfl ?_
        refine op_pickF rfl rfl rfl ?_
        refine endF ?_
        refine XF.thenN ?_
        refine condF rfl (fun hc => ?_) (fun hc => absurd (of_decide_eq_false hc) (by omega))
        have hc := of_decide_eq_true hc
        refine seqF ?_
        refine regF ?_
        refine op_assign rfl rfl ?_
        refine endF ?_
        refine XF.thenN ?_
        refine retF ?_
        refine XF.thenR ?_
        refine XF.res (res1 Tryz.results10 rfl) ?_
        exact ⟨rfl, hS.below⟩

set_option maxRecDepth 100000 in
set_option maxHeartbeats 4000000 in
theorem smallSpace_deep (deep : Nat) (x : SV) (w : World) (hd : deep = 4) :
    Calls Tryz.prog 9 #[x.f.val, .int .i64 (deep : Int)] w (fun e w' => e = .returned (.bool (smS 0 x)) ∧ Below w.heap.size w w') := by
  refine enterF (args := [x.f.val, .int .i64 (deep : Int)]) Tryz.func9 rfl Tryz.ntmps9 rfl ?_
  have hS := St.start w
  refine seqF ?_
  refine regF ?_
  refine op_box (cs := [_, _, _]) hS rfl rfl rfl ?_
  clear hS; intro B1 W1 hS
  refine op_assign rfl rfl ?_
  refine endF ?_
  refine XF.thenN ?_
  refine seqF ?_
  refine seqF ?_
  refine regF ?_
  refine op_field (o' := 2) fa_25_2 rfl rfl rfl ?_
  refine op_load Tryz.isAgg23 rfl (cell_own (hS.at_ 0 rfl) rfl) rfl ?_
  refine op_len Tryz.underlying23 rfl rfl ?_
  refine op_gtr rfl rfl rfl ?_
  refine op_move rfl rfl ?_
  refine op_cases (d := 10) rfl (fun hc => ?_) (fun hc => ?_)
  · have hg10 := of_decide_eq_true hc; clear hc
    refine op_notF (d := 10) rfl rfl rfl rfl ?_
    refine op_notF (d := 10) rfl rfl rfl rfl ?_
    refine op_pickT rfl rfl rfl ?_
    refine endF ?_
    refine XF.thenN ?_
    refine condT rfl ?_
    refine seqF ?_
    refine regF ?_
    refine op_assign rfl rfl ?_
    refine endF ?_
    refine XF.thenN ?_
    refine retF ?_
    refine XF.thenR ?_
    refine XF.res (res1 Tryz.results9 rfl) ?_
    exact ⟨rfl, hS.below⟩
  · have hg10 := of_decide_eq_false hc; clear hc
    refine op_wantedF (d := 10) rfl rfl ?_
    refine op_move rfl rfl ?_
    refine op_wantedF (d := 10) rfl rfl ?_
    refine op_gtr rfl rfl rfl ?_
    refine op_pickF rfl rfl rfl ?_
    refine endF ?_
    refine XF.thenN ?_
    refine condF rfl (fun hc => ?_) (fun hc => absurd (of_decide_eq_false hc) (by omega))
    have hc := of_decide_eq_true hc
    refine seqF ?_
    refine regF ?_
    refine op_assign rfl rfl ?_
    refine endF ?_
    refine XF.thenN ?_
    refine retF ?_
    refine XF.thenR ?_
    refine XF.res (res1 Tryz.results9 rfl) ?_
    exact ⟨rfl, hS.below⟩

theorem small_is : ∀ (k deep e0 : Nat) (x : WV) (w : World), deep + k = 4 → WIn w e0 x → Calls Tryz.prog 10 #[x.f.val, .int .i64 (deep : Int)] w fun e w' => e = .returned (.bool (smN k x)) ∧ Below w.heap.size w w'
  | 0, deep, e0, x, w, hd, hx => small_deep deep x w (by omega)
  | k + 1, deep, e0 + 1, .mk f ps, w, hd, hx => by
    obtain ⟨z, c, g, ra, rl, rc, rows, ca, cl, cc, cells, pa, pl, pc⟩ := f
    exact small_step deep k e0 z c g ra rl rc rows ca cl cc cells pa pl pc ps w (by omega) hx.2.1 hx.2.2.1 hx.2.2.2 (fun p W hp => small_is k (deep + 1) e0 p W (by omega) hp)
theorem smallSpace_is : ∀ (k deep e0 : Nat) (x : SV) (w : World), deep + k = 4 → SIn w e0 x → Calls Tryz.prog 9 #[x.f.val, .int .i64 (deep : Int)] w fun e w' => e = .returned (.bool (smS k x)) ∧ Below w.heap.size w w'
  | 0, deep, e0, x, w, hd, hx => smallSpace_deep deep x w (by omega)
  | k + 1, deep, e0 + 1, .mk f ps, w, hd, hx => by
    obtain ⟨t, n, a, l, c⟩ := f
    exact smallSpace_step deep k e0 t n a l c ps w (by omega) hx.1 hx.2.1 hx.2.2 (fun p W hp => smallSpace_is k (deep + 1) e0 p W (by omega) hp)
end Go.Proofs.YtjcminoaiieckaaGreatDoor
namespace Go.Proofs.YtjcminoaiieckaaGreatDoor
open Go Go.RowKit
set_option linter.unusedVariables false
theorem r_false {r : Bool} {C : Prop} (hr : r = true ↔ C) (h : ¬ C) : false = r := by
  cases r
  · rfl
  · exact absurd (hr.1 rfl) h
theorem r_true {r : Bool} {C : Prop} (hr : r = true ↔ C) (h : C) : true = r := (hr.2 h).symm

set_option maxRecDepth 100000 in
set_option maxHeartbeats 4000000 in
theorem sameW_one (az : Bool) (ac : Int) (ag : Nat) (ara : Option Addr) (arl arc : Nat) (arows : List Nat) (aca : Option Addr) (acl acc : Nat) (acells : List Cl) (apa : Option Addr) (apc : Nat)(bz : Bool) (bc : Int) (bg : Nat) (bra : Option Addr) (brl brc : Nat) (brows : List Nat) (bca : Option Addr) (bcl bcc : Nat) (bcells : List Cl) (bpa : Option Addr) (bpc : Nat)(w : World) (hra : VRow w ara (u64s arows)) (hla : arows.length = arl) (hma : arl ≤ 100) (hca : CRow w aca acells) (hka : acells.length = acl) (hna : acl ≤ 100)(hrb : VRow w bra (u64s brows)) (hlb : brows.length = brl) (hmb : brl ≤ 100) (hcb : CRow w bca bcells) (hkb : bcells.length = bcl) (hnb : bcl ≤ 100)(r : Bool) (hr : r = true ↔ (az = bz ∧ ac = bc ∧ ag = bg ∧ arows = brows ∧ acells = bcells)) :
    Calls Tryz.prog 22 #[.agg #[.bool az, .int .i64 ac, .int .u64 (ag : Int), .slice ara arl arc, .slice aca acl acc, .slice apa 0 apc], .agg #[.bool bz, .int .i64 bc, .int .u64 (bg : Int), .slice bra brl brc, .slice bca bcl bcc, .slice bpa 0 bpc]] w (fun e w' => e = .returned (.bool r) ∧ Below w.heap.size w w') := by
  refine enterF (args := [.agg #[.bool az, .int .i64 ac, .int .u64 (ag : Int), .slice ara arl arc, .slice aca acl acc, .slice apa 0 apc], .agg #[.bool bz, .int .i64 bc, .int .u64 (bg : Int), .slice bra brl brc, .slice bca bcl bcc, .slice bpa 0 bpc]]) Tryz.func22 rfl Tryz.ntmps22 rfl ?_
  have hS := St.start w
  refine seqF ?_
  refine regF ?_
  refine op_box (cs := [_, _, _, _, _, _]) hS rfl rfl rfl ?_
  clear hS; intro B1 W1 hS
  refine op_box (cs := [_, _, _, _, _, _]) hS rfl rfl rfl ?_
  clear hS; intro B2 W2 hS
  refine op_assign rfl rfl ?_
  refine endF ?_
  refine XF.thenN ?_
  refine seqF ?_
  refine seqF ?_
  refine regF ?_
  refine op_field (o' := 0) fa_33_0 rfl rfl rfl ?_
  refine op_load Tryz.isAgg4 rfl (cell_own (hS.at_ 1 rfl) rfl) rfl ?_
  refine op_field (o' := 0) fa_33_0 rfl rfl rfl ?_
  refine op_load Tryz.isAgg4 rfl (cell_own (hS.at_ 0 rfl) rfl) rfl ?_
  refine op_neqB Tryz.underlying4 rfl rfl rfl ?_
  refine op_move rfl rfl ?_
  refine op_cases (d := 12) rfl (fun hc => ?_) (fun hc => ?_)
  · have hg12 := hc; clear hc
    refine op_notF (d := 12) rfl rfl rfl rfl ?_
    refine op_notF (d := 12) rfl rfl rfl rfl ?_
    refine op_notF (d := 12) rfl rfl rfl rfl ?_
    refine op_notF (d := 12) rfl rfl rfl rfl ?_
    refine op_notF (d := 12) rfl rfl rfl rfl ?_
    refine op_pickT rfl rfl rfl ?_
    refine op_move rfl rfl ?_
    refine op_notF (d := 19) rfl rfl rfl rfl ?_
    refine op_notF (d := 19) rfl rfl rfl rfl ?_
    refine op_notF (d := 19) rfl rfl rfl rfl ?_
    refine op_notF (d := 19) rfl rfl rfl rfl ?_
    refine op_notF (d := 19) rfl rfl rfl rfl ?_
    refine op_notF (d := 19) rfl rfl rfl rfl ?_
    refine op_pickT rfl rfl rfl ?_
    refine op_move rfl rfl ?_
    refine op_notF (d := 27) rfl rfl rfl rfl ?_
    refine op_notF (d := 27) rfl rfl rfl rfl ?_
    refine op_notF (d := 27) rfl rfl rfl rfl ?_
    refine op_notF (d := 27) rfl rfl rfl rfl ?_
    refine op_notF (d := 27) rfl rfl rfl rfl ?_
    refine op_notF (d := 27) rfl rfl rfl rfl ?_
    refine op_notF (d := 27) rfl rfl rfl rfl ?_
    refine op_pickT rfl rfl rfl ?_
    refine op_move rfl rfl ?_
    refine op_notF (d := 36) rfl rfl rfl rfl ?_
    refine op_notF (d := 36) rfl rfl rfl rfl ?_
    refine op_notF (d := 36) rfl rfl rfl rfl ?_
    refine op_notF (d := 36) rfl rfl rfl rfl ?_
    refine op_notF (d := 36) rfl rfl rfl rfl ?_
    refine op_notF (d := 36) rfl rfl rfl rfl ?_
    refine op_notF (d := 36) rfl rfl rfl rfl ?_
    refine op_pickT rfl rfl rfl ?_
    refine endF ?_
    refine XF.thenN ?_
    refine condT rfl ?_
    refine seqF ?_
    refine regF ?_
    refine op_assign rfl rfl ?_
    refine endF ?_
    refine XF.thenN ?_
    refine retF ?_
    refine XF.thenR ?_
    refine XF.res (res1 Tryz.results22 rfl) ?_
    exact ⟨rbool (r_false hr (fun h => by have h1 := h.1; subst h1; simp at hg12)), hS.below⟩
  · have hg12 := hc; clear hc
    refine op_wantedF (d := 12) rfl rfl ?_
    refine op_field (o' := 1) fa_33_1 rfl rfl rfl ?_
    refine op_wantedF (d := 12) rfl rfl ?_
    refine op_load Tryz.isAgg3 rfl (cell_own (hS.at_ 1 rfl) rfl) rfl ?_
    refine op_wantedF (d := 12) rfl rfl ?_
    refine op_field (o' := 1) fa_33_1 rfl rfl rfl ?_
    refine op_wantedF (d := 12) rfl rfl ?_
    refine op_load Tryz.isAgg3 rfl (cell_own (hS.at_ 0 rfl) rfl) rfl ?_
    refine op_wantedF (d := 12) rfl rfl ?_
    refine op_neq rfl rfl rfl ?_
    refine op_pickF rfl rfl rfl ?_
    refine op_move rfl rfl ?_
    refine op_cases (d := 19) rfl (fun hc => ?_) (fun hc => ?_)
    · have hg19 := of_decide_eq_true hc; clear hc
      refine op_notF (d := 19) rfl rfl rfl rfl ?_
      refine op_notF (d := 19) rfl rfl rfl rfl ?_
      refine op_notF (d := 19) rfl rfl rfl rfl ?_
      refine op_notF (d := 19) rfl rfl rfl rfl ?_
      refine op_notF (d := 19) rfl rfl rfl rfl ?_
      refine op_notF (d := 19) rfl rfl rfl rfl ?_
      refine op_pickT rfl rfl rfl ?_
      refine op_move rfl rfl ?_
      refine op_notF (d := 27) rfl rfl rfl rfl ?_
      refine op_notF (d := 27) rfl rfl rfl rfl ?_
      refine op_notF (d := 27) rfl rfl rfl rfl ?_
      refine op_notF (d := 27) rfl rfl rfl rfl ?_
      refine op_notF (d := 27) rfl rfl rfl rfl ?_
      refine op_notF (d := 27) rfl rfl rfl rfl ?_
      refine op_notF (d := 27) rfl rfl rfl rfl ?_
      refine op_pickT rfl rfl rfl ?_
      refine op_move rfl rfl ?_
      refine op_notF (d := 36) rfl rfl rfl rfl ?_
      refine op_notF (d := 36) rfl rfl rfl rfl ?_
      refine op_notF (d := 36) rfl rfl rfl rfl ?_
      refine op_notF (d := 36) rfl rfl rfl rfl ?_
      refine op_notF (d := 36) rfl rfl rfl rfl ?_
      refine op_notF (d := 36) rfl rfl rfl rfl ?_
      refine op_notF (d := 36) rfl rfl rfl rfl ?_
      refine op_pickT rfl rfl rfl ?_
      refine endF ?_
      refine XF.thenN ?_
      refine condT rfl ?_
      refine seqF ?_
      refine regF ?_
      refine op_assign rfl rfl ?_
      refine endF ?_
      refine XF.thenN ?_
      refine retF ?_
      refine XF.thenR ?_
      refine XF.res (res1 Tryz.results22 rfl) ?_
      exact ⟨rbool (r_false hr (fun h => hg19 h.2.1)), hS.below⟩
    · have hg19 := of_decide_eq_false hc; clear hc
      refine op_wantedF (d := 19) rfl rfl ?_
      refine op_field (o' := 2) fa_33_2 rfl rfl rfl ?_
      refine op_wantedF (d := 19) rfl rfl ?_
      refine op_loadA (vs := [_, _]) Tryz.isAgg29 Tryz.sizeOf29 rfl (CellsAt.own (j := 2) (m := 2) (hS.at_ 1 rfl) rfl) rfl ?_
      refine op_wantedF (d := 19) rfl rfl ?_
      refine op_field (o' := 2) fa_33_2 rfl rfl rfl ?_
      refine op_wantedF (d := 19) rfl rfl ?_
      refine op_loadA (vs := [_, _]) Tryz.isAgg29 Tryz.sizeOf29 rfl (CellsAt.own (j := 2) (m := 2) (hS.at_ 0 rfl) rfl) rfl ?_
      refine op_wantedF (d := 19) rfl rfl ?_
      refine op_call (vs := [_, _]) hS goes_47 rfl (sameR_is _ _ _ _ _ _ _ _ _ (by omega) (by omega) (VRow.below hra hS.below) (VRow.below hrb hS.below) _ rfl _ _ hla hlb) rfl ?_
      rintro e W3 ⟨rfl, hb⟩
      refine ⟨_, rfl, hb, fun hS' => ?_⟩
      clear hS; have hS := hS'; clear hS' hb
      refine op_wantedF (d := 19) rfl rfl ?_
      refine op_not rfl rfl ?_
      refine op_pickF rfl rfl rfl ?_
      refine op_move rfl rfl ?_
      refine op_cases (d := 27) rfl (fun hc => ?_) (fun hc => ?_)
      · have hg27 := hc; clear hc
        refine op_notF (d := 27) rfl rfl rfl rfl ?_
        refine op_notF (d := 27) rfl rfl rfl rfl ?_
        refine op_notF (d := 27) rfl rfl rfl rfl ?_
        refine op_notF (d := 27) rfl rfl rfl rfl ?_
        refine op_notF (d := 27) rfl rfl rfl rfl ?_
        refine op_notF (d := 27) rfl rfl rfl rfl ?_
        refine op_notF (d := 27) rfl rfl rfl rfl ?_
        refine op_pickT rfl rfl rfl ?_
        refine op_move rfl rfl ?_
        refine op_notF (d := 36) rfl rfl rfl rfl ?_
        refine op_notF (d := 36) rfl rfl rfl rfl ?_
        refine op_notF (d := 36) rfl rfl rfl rfl ?_
        refine op_notF (d := 36) rfl rfl rfl rfl ?_
        refine op_notF (d := 36) rfl rfl rfl rfl ?_
        refine op_notF (d := 36) rfl rfl rfl rfl ?_
        refine op_notF (d := 36) rfl rfl rfl rfl ?_
        refine op_pickT rfl rfl rfl ?_
        refine endF ?_
        refine XF.thenN ?_
        refine condT rfl ?_
        refine seqF ?_
        refine regF ?_
        refine op_assign rfl rfl ?_
        refine endF ?_
        refine XF.thenN ?_
        refine retF ?_
        refine XF.thenR ?_
        refine XF.res (res1 Tryz.results22 rfl) ?_
        exact ⟨rbool (r_false hr (fun h => by obtain ⟨_, _, h3, h4, _⟩ := h; subst h3; subst h4; rw [same_self] at hg27; cases hg27)), hS.below⟩
      · have hg27 := hc; clear hc
        refine op_wantedF (d := 27) rfl rfl ?_
        refine op_field (o' := 4) fa_33_3 rfl rfl rfl ?_
        refine op_wantedF (d := 27) rfl rfl ?_
        refine op_load Tryz.isAgg30 rfl (cell_own (hS.at_ 1 rfl) rfl) rfl ?_
        refine op_wantedF (d := 27) rfl rfl ?_
        refine op_len Tryz.underlying30 rfl rfl ?_
        refine op_wantedF (d := 27) rfl rfl ?_
        refine op_field (o' := 4) fa_33_3 rfl rfl rfl ?_
        refine op_wantedF (d := 27) rfl rfl ?_
        refine op_load Tryz.isAgg30 rfl (cell_own (hS.at_ 0 rfl) rfl) rfl ?_
        refine op_wantedF (d := 27) rfl rfl ?_
        refine op_len Tryz.underlying30 rfl rfl ?_
        refine op_wantedF (d := 27) rfl rfl ?_
        refine op_neq rfl rfl rfl ?_
        refine op_pickF rfl rfl rfl ?_
        refine op_move rfl rfl ?_
        refine op_cases (d := 36) rfl (fun hc => ?_) (fun hc => ?_)
        · have hg36 := of_decide_eq_true hc; clear hc
          refine op_notF (d := 36) rfl rfl rfl rfl ?_
          refine op_notF (d := 36) rfl rfl rfl rfl ?_
          refine op_notF (d := 36) rfl rfl rfl rfl ?_
          refine op_notF (d := 36) rfl rfl rfl rfl ?_
          refine op_notF (d := 36) rfl rfl rfl rfl ?_
          refine op_notF (d := 36) rfl rfl rfl rfl ?_
          refine op_notF (d := 36) rfl rfl rfl rfl ?_
          refine op_pickT rfl rfl rfl ?_
          refine endF ?_
          refine XF.thenN ?_
          refine condT rfl ?_
          refine seqF ?_
          refine regF ?_
          refine op_assign rfl rfl ?_
          refine endF ?_
          refine XF.thenN ?_
          refine retF ?_
          refine XF.thenR ?_
          refine XF.res (res1 Tryz.results22 rfl) ?_
          exact ⟨rbool (r_false hr (fun h => by have h5 := h.2.2.2.2; subst h5; omega)), hS.below⟩
        · have hg36 := of_decide_eq_false hc; clear hc
          have hz : az = bz := by simpa using hg12
          have hcc : ac = bc := by omega
          have hff : ag = bg ∧ arows = brows := by simpa [sameB] using hg27
          have hcl : acl = bcl := by omega
          refine op_wantedF (d := 36) rfl rfl ?_
          refine op_field (o' := 5) fa_33_4 rfl rfl rfl ?_
          refine op_wantedF (d := 36) rfl rfl ?_
          refine op_load Tryz.isAgg31 rfl (cell_own (hS.at_ 1 rfl) rfl) rfl ?_
          refine op_wantedF (d := 36) rfl rfl ?_
          refine op_len Tryz.underlying31 rfl rfl ?_
          refine op_wantedF (d := 36) rfl rfl ?_
          refine op_field (o' := 5) fa_33_4 rfl rfl rfl ?_
          refine op_wantedF (d := 36) rfl rfl ?_
          refine op_load Tryz.isAgg31 rfl (cell_own (hS.at_ 0 rfl) rfl) rfl ?_
          refine op_wantedF (d := 36) rfl rfl ?_
          refine op_len Tryz.underlying31 rfl rfl ?_
          refine op_wantedF (d := 36) rfl rfl ?_
          refine op_neq rfl rfl rfl ?_
          refine op_pickF rfl rfl rfl ?_
          refine endF ?_
          refine XF.thenN ?_
          refine condF rfl (fun hc => absurd (of_decide_eq_true hc) (by omega)) (fun hc => ?_)
          have hc := of_decide_eq_false hc
          refine skipF ?_
          refine XF.thenN ?_
          refine seqF ?_
          refine seqF ?_
          refine regF ?_
          refine op_assign rfl rfl ?_
          refine endF ?_
          refine XF.thenN ?_
          refine blockF ?_
          refine loopF (fun q l W => ∃ i : Nat, i ≤ acl ∧ q = acl - i ∧ l = [(2, .pointer (some ⟨B1, 0, none⟩)), (3, .pointer (some ⟨B2, 0, none⟩)), (5, .int .i64 (i : Int))] ∧ acells.take i = bcells.take i ∧ St w [(B2, [.bool bz, .int .i64 bc, .int .u64 (bg : Int), .slice bra brl brc, .slice bca bcl bcc, .slice bpa 0 bpc], 33), (B1, [.bool az, .int .i64 ac, .int .u64 (ag : Int), .slice ara arl arc, .slice aca acl acc, .slice apa 0 apc], 33)] [] [] W) (acl - 0) ([(2, _), (3, _), (5, _)]) ⟨rfl, rfl, rfl, trivial⟩ (⟨0, Nat.zero_le _, rfl, rfl, rfl, hS.clear⟩) ?_
          clear hS
          rintro q l W ⟨i, hi, rfl, rfl, hall, hS⟩
          refine seqF ?_
          refine seqF ?_
          refine regF ?_
          refine op_move rfl rfl ?_
          refine op_field (o' := 4) fa_33_3 rfl rfl rfl ?_
          refine op_load Tryz.isAgg30 rfl (cell_own (hS.at_ 1 rfl) rfl) rfl ?_
          refine op_len Tryz.underlying30 rfl rfl ?_
          refine op_lss rfl rfl rfl ?_
          refine endF ?_
          refine XF.thenN ?_
          refine condF rfl (fun hc => ?_) (fun hc => ?_)
          · have hc49 := of_decide_eq_true hc; clear hc
            have hk : i < acl := by omega
            obtain ⟨b1, o1, x, hx1, hx2, _, x0, x1, x2⟩ := hca.at_ (k := i) (by omega)
            obtain ⟨b2, o2, y, hy1, hy2, _, y0, y1, y2⟩ := hcb.at_ (k := i) (by omega)
            subst hx1; subst hy1
            have k1 : CellsAt W b1 (o1 + i * 3) [.int .u64 (x.f : Int), .int .i64 x.k, .int .i64 x.v] := CellsAt.agree hS.agree (Nat.zero_le _) ⟨x0, x1, x2, trivial⟩
            have k2 : CellsAt W b2 (o2 + i * 3) [.int .u64 (y.f : Int), .int .i64 y.k, .int .i64 y.v] := CellsAt.agree hS.agree (Nat.zero_le _) ⟨y0, y1, y2, trivial⟩
            refine skipF ?_
            refine XF.thenN ?_
            refine seqF ?_
            refine blockF ?_
            refine seqF ?_
            refine regB (m := 11) followsM hS (by kernel_rfl) (by kernel_rfl) rfl ?_
            refine bl_cons 1 rfl (isV _) (stab_isV _) (rgV (li := [(2, _)]) rfl (w_free rfl) ⟨g_fr (by kernel_rfl) rfl, trivial⟩ (fun w hw => rn_field (o' := 4) fa_33_3 rfl rfl) (at_top rfl)) ?_
            refine bl_cons 2 rfl (isV _) (stab_isV _) (rgV (li := [(52, _)]) rfl (w_free rfl) ⟨g_dep 0 (by kernel_rfl) (at_dep rfl rfl rfl), trivial⟩ (fun w hw => rn_load Tryz.isAgg30 rfl ((below_agree hw 0).cell (Nat.zero_le _) (cell_own (hS.at_ 1 rfl) rfl))) (at_top rfl)) ?_
            refine bl_cons 3 rfl (isV _) (stab_isV _) (rgV (li := [(5, _)]) rfl (w_free rfl) ⟨g_fr (by kernel_rfl) rfl, trivial⟩ (fun w hw => rn_move rfl) (at_top rfl)) ?_
            refine bl_cons 4 rfl (isV _) (stab_isV _) (rgV (li := [(53, _), (54, _)]) rfl (w_free rfl) ⟨g_dep 1 (by kernel_rfl) (at_dep rfl rfl rfl), g_dep 2 (by kernel_rfl) (at_dep rfl rfl rfl), trivial⟩ (fun w hw => rn_indexA  Tryz.underlying30 Tryz.sizeOf73 rfl rfl rfl (by omega) rfl) (at_top rfl)) ?_
            refine bl_cons 5 rfl (isV _) (stab_isV _) (rgV (li := [(55, _)]) rfl (w_free rfl) ⟨g_dep 3 (by kernel_rfl) (at_dep rfl rfl rfl), trivial⟩ (fun w hw => rn_loadA (vs := [_, _, _]) Tryz.isAgg73 Tryz.sizeOf73 rfl (CellsAt.agree (below_agree hw 0) (Nat.zero_le _) (by assumption))) (at_top rfl)) ?_
            refine bl_cons 6 rfl (isV _) (stab_isV _) (rgV (li := [(3, _)]) rfl (w_free rfl) ⟨g_fr (by kernel_rfl) rfl, trivial⟩ (fun w hw => rn_field (o' := 4) fa_33_3 rfl rfl) (at_top rfl)) ?_
            refine bl_cons 7 rfl (isV _) (stab_isV _) (rgV (li := [(57, _)]) rfl (w_free rfl) ⟨g_dep 5 (by kernel_rfl) (at_dep rfl rfl rfl), trivial⟩ (fun w hw => rn_load Tryz.isAgg30 rfl ((below_agree hw 0).cell (Nat.zero_le _) (cell_own (hS.at_ 0 rfl) rfl))) (at_top rfl)) ?_
            refine bl_cons 8 rfl (isV _) (stab_isV _) (rgV (li := [(5, _)]) rfl (w_free rfl) ⟨g_fr (by kernel_rfl) rfl, trivial⟩ (fun w hw => rn_move rfl) (at_top rfl)) ?_
            refine bl_cons 9 rfl (isV _) (stab_isV _) (rgV (li := [(58, _), (59, _)]) rfl (w_free rfl) ⟨g_dep 6 (by kernel_rfl) (at_dep rfl rfl rfl), g_dep 7 (by kernel_rfl) (at_dep rfl rfl rfl), trivial⟩ (fun w hw => rn_indexA  Tryz.underlying30 Tryz.sizeOf73 rfl rfl rfl (by omega) rfl) (at_top rfl)) ?_
            refine bl_cons 10 rfl (isV _) (stab_isV _) (rgV (li := [(60, _)]) rfl (w_free rfl) ⟨g_dep 8 (by kernel_rfl) (at_dep rfl rfl rfl), trivial⟩ (fun w hw => rn_loadA (vs := [_, _, _]) Tryz.isAgg73 Tryz.sizeOf73 rfl (CellsAt.agree (below_agree hw 0) (Nat.zero_le _) (by assumption))) (at_top rfl)) ?_
            refine bl_cons 11 rfl (isV _) (stab_isV _) (rgV (li := [(56, _), (61, _)]) rfl (w_free rfl) ⟨g_dep 4 (by kernel_rfl) (at_dep rfl rfl rfl), g_dep 9 (by kernel_rfl) (at_dep rfl rfl rfl), trivial⟩ (fun w hw => rn_binG rfl rfl (run_eqGuard_agg _ _ _ _ _ _ _ (by kernel_rfl)) (neq_is x y _ rfl w)) (at_top rfl)) ?_
            refine bl_nil ?_
            intro W4 hbR hS'
            clear hS; have hS := hS'; clear hS'
            refine fin_v ?_
            refine fin_v ?_
            refine fin_v ?_
            refine fin_v ?_
            refine fin_v ?_
            refine fin_v ?_
            refine fin_v ?_
            refine fin_v ?_
            refine fin_v ?_
            refine fin_v ?_
            refine fin_v ?_
            refine fin_nil ?_
            refine XF.thenN ?_
            refine condF rfl (fun hc => ?_) (fun hc => ?_)
            · have hc62 := hc; clear hc
              refine seqF ?_
              refine regF ?_
              refine op_assign rfl rfl ?_
              refine endF ?_
              refine XF.thenN ?_
              refine retF ?_
              refine XF.blkR ?_
              refine XF.thenR ?_
              refine XF.thenR ?_
              refine XF.blkR ?_
              refine XF.thenR ?_
              refine XF.res (res1 Tryz.results22 rfl) ?_
              exact ⟨rbool (r_false hr (fun h => by have h5 := h.2.2.2.2; subst h5; rw [hx2] at hy2; cases hy2; simp [sameCl] at hc62)), hS.below⟩
            · have hc62 := hc; clear hc
              have hxy : x = y := by
                obtain ⟨xf, xk, xv⟩ := x
                obtain ⟨yf, yk, yv⟩ := y
                simp [sameCl] at hc62
                simp [hc62]
              subst hxy
              refine skipF ?_
              refine XF.blkN ?_
              refine XF.thenN ?_
              refine regF ?_
              refine op_move rfl rfl ?_
              refine op_add rfl rfl (IntWalk.i64_in _ (by omega)) rfl ?_
              refine op_assign rfl rfl ?_
              refine endF ?_
              exact XF.round (acl - (i + 1)) [(2, _), (3, _), (5, _)] (by omega) ⟨rfl, rfl, rfl, trivial⟩ ⟨i + 1, by omega, rfl, rfl, by rw [List.take_add_one, List.take_add_one, hx2, hy2, hall], hS.clear⟩
          · have hc49 := of_decide_eq_false hc; clear hc
            have hce : acells = bcells := by
              rw [List.take_of_length_le (by omega), List.take_of_length_le (by omega)] at hall
              exact hall
            refine exitF ?_
            refine XF.thenX ?_
            refine XF.thenX ?_
            refine XF.blkX ?_
            refine XF.thenN ?_
            refine seqF ?_
            refine seqF ?_
            refine regF ?_
            refine op_assign rfl rfl ?_
            refine endF ?_
            refine XF.thenN ?_
            refine blockF ?_
            refine loopF (fun q l W => l = [(2, .pointer (some ⟨B1, 0, none⟩)), (3, .pointer (some ⟨B2, 0, none⟩)), (6, .int .i64 0)] ∧ St w [(B2, [.bool bz, .int .i64 bc, .int .u64 (bg : Int), .slice bra brl brc, .slice bca bcl bcc, .slice bpa 0 bpc], 33), (B1, [.bool az, .int .i64 ac, .int .u64 (ag : Int), .slice ara arl arc, .slice aca acl acc, .slice apa 0 apc], 33)] [] [] W) (0) ([(2, _), (3, _), (6, _)]) ⟨rfl, rfl, rfl, trivial⟩ (⟨rfl, hS⟩) ?_
            clear hS
            rintro q l W ⟨rfl, hS⟩
            refine seqF ?_
            refine seqF ?_
            refine regF ?_
            refine op_move rfl rfl ?_
            refine op_field (o' := 5) fa_33_4 rfl rfl rfl ?_
            refine op_load Tryz.isAgg31 rfl (cell_own (hS.at_ 1 rfl) rfl) rfl ?_
            refine op_len Tryz.underlying31 rfl rfl ?_
            refine op_lss rfl rfl rfl ?_
            refine endF ?_
            refine XF.thenN ?_
            refine condF rfl (fun hc => absurd (of_decide_eq_true hc) (by omega)) (fun hc => ?_)
            have hc := of_decide_eq_false hc
            refine exitF ?_
            refine XF.thenX ?_
            refine XF.thenX ?_
            refine XF.blkX ?_
            refine XF.thenN ?_
            refine seqF ?_
            refine regF ?_
            refine op_assign rfl rfl ?_
            refine endF ?_
            refine XF.thenN ?_
            refine retF ?_
            refine XF.res (res1 Tryz.results22 rfl) ?_
            exact ⟨rbool (r_true hr ⟨hz, hcc, hff.1, hff.2, hce⟩), hS.below⟩

theorem sameW_plain {w : World} {t n : Int} {f g : WF} {x y : PF} (hx : PIs w t n f x) (hy : PIs w t n g y) (r : Bool) (hr : r = true ↔ x = y) : Calls Tryz.prog 22 #[f.val, g.val] w fun e w' => e = .returned (.bool r) ∧ Below w.heap.size w w' := by
  have h1 := hx.rows64 (l := 0); have h2 := hy.rows64 (l := 0)
  have e1 := hx.pl; have e2 := hy.pl
  have a1 := hx.at_; have a2 := hy.at_
  obtain rfl := hx.pf
  obtain rfl := hy.pf
  obtain ⟨az, ac, ag, ara, arl, arc, arows, aca, acl, acc, acells, apa, apl, apc⟩ := f
  obtain ⟨bz, bc, bg, bra, brl, brc, brows, bca, bcl, bcc, bcells, bpa, bpl, bpc⟩ := g
  dsimp only at e1 e2 h1 h2
  subst e1; subst e2
  refine sameW_one _ _ _ _ _ _ _ _ _ _ _ _ _ _ _ _ _ _ _ _ _ _ _ _ _ _ w a1.rows a1.rl (by dsimp only; omega) a1.cells a1.cl (by dsimp only; omega) a2.rows a2.rl (by dsimp only; omega) a2.cells a2.cl (by dsimp only; omega) r ?_
  rw [hr]
  simp [WF.pf]

set_option maxRecDepth 100000 in
set_option maxHeartbeats 4000000 in
theorem sameW_two (t n u m : Int) (fra fca : Option Addr) (frc fcc fpc fb fo : Nat) (f1 f2 : WF)(gra gca : Option Addr) (grc gcc gpc gb go : Nat) (g1 g2 : WF)(x1 x2 y1 y2 : PF) (w : World) (hf6 : W6 w fb fo f1) (hf7 : W6 w fb (fo + 6) f2) (hg6 : W6 w gb go g1) (hg7 : W6 w gb (go + 6) g2) (hx1 : PIs w t n f1 x1) (hx2 : PIs w u m f2 x2) (hy1 : PIs w t n g1 y1) (hy2 : PIs w u m g2 y2) (r r1 r2 : Bool) (hr : r = true ↔ (x1 = y1 ∧ x2 = y2)) (hr1 : r1 = true ↔ x1 = y1) (hr2 : r2 = true ↔ x2 = y2) :
    Calls Tryz.prog 22 #[.agg #[.bool false, .int .i64 0, .int .u64 0, .slice fra 0 frc, .slice fca 0 fcc, .slice (some ⟨fb, fo, none⟩) 2 fpc], .agg #[.bool false, .int .i64 0, .int .u64 0, .slice gra 0 grc, .slice gca 0 gcc, .slice (some ⟨gb, go, none⟩) 2 gpc]] w (fun e w' => e = .returned (.bool r) ∧ Below w.heap.size w w') := by
  refine enterF (args := [.agg #[.bool false, .int .i64 0, .int .u64 0, .slice fra 0 frc, .slice fca 0 fcc, .slice (some ⟨fb, fo, none⟩) 2 fpc], .agg #[.bool false, .int .i64 0, .int .u64 0, .slice gra 0 grc, .slice gca 0 gcc, .slice (some ⟨gb, go, none⟩) 2 gpc]]) Tryz.func22 rfl Tryz.ntmps22 rfl ?_
  have hS := St.start w
  refine seqF ?_
  refine regF ?_
  refine op_box (cs := [_, _, _, _, _, _]) hS rfl rfl rfl ?_
  clear hS; intro B1 W1 hS
  refine op_box (cs := [_, _, _, _, _, _]) hS rfl rfl rfl ?_
  clear hS; intro B2 W2 hS
  refine op_assign rfl rfl ?_
  refine endF ?_
  refine XF.thenN ?_
  refine seqF ?_
  refine seqF ?_
  refine regF ?_
  refine op_field (o' := 0) fa_33_0 rfl rfl rfl ?_
  refine op_load Tryz.isAgg4 rfl (cell_own (hS.at_ 1 rfl) rfl) rfl ?_
  refine op_field (o' := 0) fa_33_0 rfl rfl rfl ?_
  refine op_load Tryz.isAgg4 rfl (cell_own (hS.at_ 0 rfl) rfl) rfl ?_
  refine op_neqB Tryz.underlying4 rfl rfl rfl ?_
  refine op_move rfl rfl ?_
  refine op_cases (d := 12) rfl (fun hc => absurd hc (by decide)) (fun hc => ?_)
  skip
  refine op_wantedF (d := 12) rfl rfl ?_
  refine op_field (o' := 1) fa_33_1 rfl rfl rfl ?_
  refine op_wantedF (d := 12) rfl rfl ?_
  refine op_load Tryz.isAgg3 rfl (cell_own (hS.at_ 1 rfl) rfl) rfl ?_
  refine op_wantedF (d := 12) rfl rfl ?_
  refine op_field (o' := 1) fa_33_1 rfl rfl rfl ?_
  refine op_wantedF (d := 12) rfl rfl ?_
  refine op_load Tryz.isAgg3 rfl (cell_own (hS.at_ 0 rfl) rfl) rfl ?_
  refine op_wantedF (d := 12) rfl rfl ?_
  refine op_neq rfl rfl rfl ?_
  refine op_pickF rfl rfl rfl ?_
  refine op_move rfl rfl ?_
  refine op_cases (d := 19) rfl (fun hc => absurd (of_decide_eq_true hc) (by omega)) (fun hc => ?_)
  have hc := of_decide_eq_false hc
  refine op_wantedF (d := 19) rfl rfl ?_
  refine op_field (o' := 2) fa_33_2 rfl rfl rfl ?_
  refine op_wantedF (d := 19) rfl rfl ?_
  refine op_loadA (vs := [_, _]) Tryz.isAgg29 Tryz.sizeOf29 rfl (CellsAt.own (j := 2) (m := 2) (hS.at_ 1 rfl) rfl) rfl ?_
  refine op_wantedF (d := 19) rfl rfl ?_
  refine op_field (o' := 2) fa_33_2 rfl rfl rfl ?_
  refine op_wantedF (d := 19) rfl rfl ?_
  refine op_loadA (vs := [_, _]) Tryz.isAgg29 Tryz.sizeOf29 rfl (CellsAt.own (j := 2) (m := 2) (hS.at_ 0 rfl) rfl) rfl ?_
  refine op_wantedF (d := 19) rfl rfl ?_
  refine op_call (vs := [_, _]) hS goes_47 rfl (sameR_is _ _ _ _ 0 0 [] [] _ (by simp) (by simp) (.inl rfl) (.inl rfl) true rfl _ _ rfl rfl) rfl ?_
  rintro e W3 ⟨rfl, hb⟩
  refine ⟨_, rfl, hb, fun hS' => ?_⟩
  clear hS; have hS := hS'; clear hS' hb
  refine op_wantedF (d := 19) rfl rfl ?_
  refine op_not rfl rfl ?_
  refine op_pickF rfl rfl rfl ?_
  refine op_move rfl rfl ?_
  refine op_cases (d := 27) rfl (fun hc => absurd hc (by decide)) (fun hc => ?_)
  skip
  refine op_wantedF (d := 27) rfl rfl ?_
  refine op_field (o' := 4) fa_33_3 rfl rfl rfl ?_
  refine op_wantedF (d := 27) rfl rfl ?_
  refine op_load Tryz.isAgg30 rfl (cell_own (hS.at_ 1 rfl) rfl) rfl ?_
  refine op_wantedF (d := 27) rfl rfl ?_
  refine op_len Tryz.underlying30 rfl rfl ?_
  refine op_wantedF (d := 27) rfl rfl ?_
  refine op_field (o' := 4) fa_33_3 rfl rfl rfl ?_
  refine op_wantedF (d := 27) rfl rfl ?_
  refine op_load Tryz.isAgg30 rfl (cell_own (hS.at_ 0 rfl) rfl) rfl ?_
  refine op_wantedF (d := 27) rfl rfl ?_
  refine op_len Tryz.underlying30 rfl rfl ?_
  refine op_wantedF (d := 27) rfl rfl ?_
  refine op_neq rfl rfl rfl ?_
  refine op_pickF rfl rfl rfl ?_
  refine op_move rfl rfl ?_
  refine op_cases (d := 36) rfl (fun hc => absurd (of_decide_eq_true hc) (by omega)) (fun hc => ?_)
  have hc := of_decide_eq_false hc
  refine op_wantedF (d := 36) rfl rfl ?_
  refine op_field (o' := 5) fa_33_4 rfl rfl rfl ?_
  refine op_wantedF (d := 36) rfl rfl ?_
  refine op_load Tryz.isAgg31 rfl (cell_own (hS.at_ 1 rfl) rfl) rfl ?_
  refine op_wantedF (d := 36) rfl rfl ?_
  refine op_len Tryz.underlying31 rfl rfl ?_
  refine op_wantedF (d := 36) rfl rfl ?_
  refine op_field (o' := 5) fa_33_4 rfl rfl rfl ?_
  refine op_wantedF (d := 36) rfl rfl ?_
  refine op_load Tryz.isAgg31 rfl (cell_own (hS.at_ 0 rfl) rfl) rfl ?_
  refine op_wantedF (d := 36) rfl rfl ?_
  refine op_len Tryz.underlying31 rfl rfl ?_
  refine op_wantedF (d := 36) rfl rfl ?_
  refine op_neq rfl rfl rfl ?_
  refine op_pickF rfl rfl rfl ?_
  refine endF ?_
  refine XF.thenN ?_
  refine condF rfl (fun hc => absurd (of_decide_eq_true hc) (by omega)) (fun hc => ?_)
  have hc := of_decide_eq_false hc
  refine skipF ?_
  refine XF.thenN ?_
  refine seqF ?_
  refine seqF ?_
  refine regF ?_
  refine op_assign rfl rfl ?_
  refine endF ?_
  refine XF.thenN ?_
  refine blockF ?_
  refine loopF (fun q l W => l = [(2, .pointer (some ⟨B1, 0, none⟩)), (3, .pointer (some ⟨B2, 0, none⟩)), (5, .int .i64 0)] ∧ St w [(B2, [.bool false, .int .i64 0, .int .u64 0, .slice gra 0 grc, .slice gca 0 gcc, .slice (some ⟨gb, go, none⟩) 2 gpc], 33), (B1, [.bool false, .int .i64 0, .int .u64 0, .slice fra 0 frc, .slice fca 0 fcc, .slice (some ⟨fb, fo, none⟩) 2 fpc], 33)] [] [] W) (0) ([(2, _), (3, _), (5, _)]) ⟨rfl, rfl, rfl, trivial⟩ (⟨rfl, hS.clear⟩) ?_
  clear hS
  rintro q l W ⟨rfl, hS⟩
  refine seqF ?_
  refine seqF ?_
  refine regF ?_
  refine op_move rfl rfl ?_
  refine op_field (o' := 4) fa_33_3 rfl rfl rfl ?_
  refine op_load Tryz.isAgg30 rfl (cell_own (hS.at_ 1 rfl) rfl) rfl ?_
  refine op_len Tryz.underlying30 rfl rfl ?_
  refine op_lss rfl rfl rfl ?_
  refine endF ?_
  refine XF.thenN ?_
  refine condF rfl (fun hc => absurd (of_decide_eq_true hc) (by omega)) (fun hc => ?_)
  have hc := of_decide_eq_false hc
  refine exitF ?_
  refine XF.thenX ?_
  refine XF.thenX ?_
  refine XF.blkX ?_
  refine XF.thenN ?_
  refine seqF ?_
  refine seqF ?_
  refine regF ?_
  refine op_assign rfl rfl ?_
  refine endF ?_
  refine XF.thenN ?_
  refine blockF ?_
  refine loopF (fun q l W => (q = 2 ∧ l = [(2, .pointer (some ⟨B1, 0, none⟩)), (3, .pointer (some ⟨B2, 0, none⟩)), (6, .int .i64 0)] ∧ St w [(B2, [.bool false, .int .i64 0, .int .u64 0, .slice gra 0 grc, .slice gca 0 gcc, .slice (some ⟨gb, go, none⟩) 2 gpc], 33), (B1, [.bool false, .int .i64 0, .int .u64 0, .slice fra 0 frc, .slice fca 0 fcc, .slice (some ⟨fb, fo, none⟩) 2 fpc], 33)] [] [] W) ∨ (q = 1 ∧ l = [(2, .pointer (some ⟨B1, 0, none⟩)), (3, .pointer (some ⟨B2, 0, none⟩)), (6, .int .i64 1)] ∧ r1 = true ∧ St w [(B2, [.bool false, .int .i64 0, .int .u64 0, .slice gra 0 grc, .slice gca 0 gcc, .slice (some ⟨gb, go, none⟩) 2 gpc], 33), (B1, [.bool false, .int .i64 0, .int .u64 0, .slice fra 0 frc, .slice fca 0 fcc, .slice (some ⟨fb, fo, none⟩) 2 fpc], 33)] [] [] W) ∨ (q = 0 ∧ l = [(2, .pointer (some ⟨B1, 0, none⟩)), (3, .pointer (some ⟨B2, 0, none⟩)), (6, .int .i64 2)] ∧ r1 = true ∧ r2 = true ∧ St w [(B2, [.bool false, .int .i64 0, .int .u64 0, .slice gra 0 grc, .slice gca 0 gcc, .slice (some ⟨gb, go, none⟩) 2 gpc], 33), (B1, [.bool false, .int .i64 0, .int .u64 0, .slice fra 0 frc, .slice fca 0 fcc, .slice (some ⟨fb, fo, none⟩) 2 fpc], 33)] [] [] W)) (2) ([(2, _), (3, _), (6, _)]) ⟨rfl, rfl, rfl, trivial⟩ (.inl ⟨rfl, rfl, hS⟩) ?_
  clear hS
  rintro q l W (⟨rfl, rfl, hS⟩ | ⟨rfl, rfl, hq1, hS⟩ | ⟨rfl, rfl, hq1, hq2, hS⟩)
  · have k1 := CellsAt.agree hS.agree (Nat.zero_le _) hf6.cells
    have k2 := CellsAt.agree hS.agree (Nat.zero_le _) hg6.cells
    refine seqF ?_
    refine seqF ?_
    refine regF ?_
    refine op_move rfl rfl ?_
    refine op_field (o' := 5) fa_33_4 rfl rfl rfl ?_
    refine op_load Tryz.isAgg31 rfl (cell_own (hS.at_ 1 rfl) rfl) rfl ?_
    refine op_len Tryz.underlying31 rfl rfl ?_
    refine op_lss rfl rfl rfl ?_
    refine endF ?_
    refine XF.thenN ?_
    refine condF rfl (fun hc => ?_) (fun hc => absurd (of_decide_eq_false hc) (by omega))
    have hc := of_decide_eq_true hc
    refine skipF ?_
    refine XF.thenN ?_
    refine seqF ?_
    refine blockF ?_
    refine seqF ?_
    refine regB (m := 12) followsM hS (by kernel_rfl) (by kernel_rfl) rfl ?_
    refine bl_cons 1 rfl (isV _) (stab_isV _) (rgV (li := [(2, _)]) rfl (w_free rfl) ⟨g_fr (by kernel_rfl) rfl, trivial⟩ (fun w hw => rn_field (o' := 5) fa_33_4 rfl rfl) (at_top rfl)) ?_
    refine bl_cons 2 rfl (isV _) (stab_isV _) (rgV (li := [(70, _)]) rfl (w_free rfl) ⟨g_dep 0 (by kernel_rfl) (at_dep rfl rfl rfl), trivial⟩ (fun w hw => rn_load Tryz.isAgg31 rfl ((below_agree hw 0).cell (Nat.zero_le _) (cell_own (hS.at_ 1 rfl) rfl))) (at_top rfl)) ?_
    refine bl_cons 3 rfl (isV _) (stab_isV _) (rgV (li := [(6, _)]) rfl (w_free rfl) ⟨g_fr (by kernel_rfl) rfl, trivial⟩ (fun w hw => rn_move rfl) (at_top rfl)) ?_
    refine bl_cons 4 rfl (isV _) (stab_isV _) (rgV (li := [(71, _), (72, _)]) rfl (w_free rfl) ⟨g_dep 1 (by kernel_rfl) (at_dep rfl rfl rfl), g_dep 2 (by kernel_rfl) (at_dep rfl rfl rfl), trivial⟩ (fun w hw => rn_indexA (j := 0) Tryz.underlying31 Tryz.sizeOf33 rfl rfl rfl (by omega) (Nat.add_zero _)) (at_top rfl)) ?_
    refine bl_cons 5 rfl (isV _) (stab_isV _) (rgV (li := [(73, _)]) rfl (w_free rfl) ⟨g_dep 3 (by kernel_rfl) (at_dep rfl rfl rfl), trivial⟩ (fun w hw => rn_loadA (vs := [_, _, _, _, _, _]) Tryz.isAgg33 Tryz.sizeOf33 rfl (CellsAt.agree (below_agree hw 0) (Nat.zero_le _) (by assumption))) (at_top rfl)) ?_
    refine bl_cons 6 rfl (isV _) (stab_isV _) (rgV (li := [(3, _)]) rfl (w_free rfl) ⟨g_fr (by kernel_rfl) rfl, trivial⟩ (fun w hw => rn_field (o' := 5) fa_33_4 rfl rfl) (at_top rfl)) ?_
    refine bl_cons 7 rfl (isV _) (stab_isV _) (rgV (li := [(75, _)]) rfl (w_free rfl) ⟨g_dep 5 (by kernel_rfl) (at_dep rfl rfl rfl), trivial⟩ (fun w hw => rn_load Tryz.isAgg31 rfl ((below_agree hw 0).cell (Nat.zero_le _) (cell_own (hS.at_ 0 rfl) rfl))) (at_top rfl)) ?_
    refine bl_cons 8 rfl (isV _) (stab_isV _) (rgV (li := [(6, _)]) rfl (w_free rfl) ⟨g_fr (by kernel_rfl) rfl, trivial⟩ (fun w hw => rn_move rfl) (at_top rfl)) ?_
    refine bl_cons 9 rfl (isV _) (stab_isV _) (rgV (li := [(76, _), (77, _)]) rfl (w_free rfl) ⟨g_dep 6 (by kernel_rfl) (at_dep rfl rfl rfl), g_dep 7 (by kernel_rfl) (at_dep rfl rfl rfl), trivial⟩ (fun w hw => rn_indexA (j := 0) Tryz.underlying31 Tryz.sizeOf33 rfl rfl rfl (by omega) (Nat.add_zero _)) (at_top rfl)) ?_
    refine bl_cons 10 rfl (isV _) (stab_isV _) (rgV (li := [(78, _)]) rfl (w_free rfl) ⟨g_dep 8 (by kernel_rfl) (at_dep rfl rfl rfl), trivial⟩ (fun w hw => rn_loadA (vs := [_, _, _, _, _, _]) Tryz.isAgg33 Tryz.sizeOf33 rfl (CellsAt.agree (below_agree hw 0) (Nat.zero_le _) (by assumption))) (at_top rfl)) ?_
    refine bl_cons 11 rfl (isV (.bool r1)) (stab_isV _) (rg_call [isV _, isV _] rfl goes_22 (w_free rfl) ⟨p_tmp (g_dep 4 (by kernel_rfl) (at_dep rfl rfl rfl)), p_tmp (g_dep 9 (by kernel_rfl) (at_dep rfl rfl rfl)), trivial⟩ (fun vs w' hb hh => by have e := holds_isV (us := [_, _]) hh; subst e; exact (sameW_plain (hx1.below (hS.below.trans (hb.mono hS.below.size))) (hy1.below (hS.below.trans (hb.mono hS.below.size))) r1 hr1).mono fun e w2 h => ⟨.bool r1, h.1, rfl, h.2⟩) (at_top rfl)) ?_
    refine bl_cons 12 rfl (isV _) (stab_isV _) (rgV (li := [(80, _)]) rfl (w_free rfl) ⟨g_dep 10 (by kernel_rfl) (at_dep rfl rfl rfl), trivial⟩ (fun w hw => rn_not rfl) (at_top rfl)) ?_
    refine bl_nil ?_
    intro W4 hbR hS'
    clear hS; have hS := hS'; clear hS'
    refine fin_v ?_
    refine fin_v ?_
    refine fin_v ?_
    refine fin_v ?_
    refine fin_v ?_
    refine fin_v ?_
    refine fin_v ?_
    refine fin_v ?_
    refine fin_v ?_
    refine fin_v ?_
    refine fin_v ?_
    refine fin_v ?_
    refine fin_nil ?_
    refine XF.thenN ?_
    refine condF rfl (fun hc => ?_) (fun hc => ?_)
    · have hc81 := hc; clear hc
      refine seqF ?_
      refine regF ?_
      refine op_assign rfl rfl ?_
      refine endF ?_
      refine XF.thenN ?_
      refine retF ?_
      refine XF.blkR ?_
      refine XF.thenR ?_
      refine XF.thenR ?_
      refine XF.blkR ?_
      refine XF.thenR ?_
      refine XF.res (res1 Tryz.results22 rfl) ?_
      exact ⟨rbool (r_false hr (fun h => by rw [hr1.2 h.1] at hc81; cases hc81)), hS.below⟩
    · have hc81 := hc; clear hc
      refine skipF ?_
      refine XF.blkN ?_
      refine XF.thenN ?_
      refine regF ?_
      refine op_move rfl rfl ?_
      refine op_add rfl rfl (IntWalk.i64_in _ (by omega)) rfl ?_
      refine op_assign rfl rfl ?_
      refine endF ?_
      exact XF.round 1 [(2, _), (3, _), (6, _)] (by omega) ⟨rfl, rfl, rfl, trivial⟩ (.inr (.inl ⟨rfl, rfl, by simpa using hc81, hS.clear⟩))
  · have k1 := CellsAt.agree hS.agree (Nat.zero_le _) hf7.cells
    have k2 := CellsAt.agree hS.agree (Nat.zero_le _) hg7.cells
    refine seqF ?_
    refine seqF ?_
    refine regF ?_
    refine op_move rfl rfl ?_
    refine op_field (o' := 5) fa_33_4 rfl rfl rfl ?_
    refine op_load Tryz.isAgg31 rfl (cell_own (hS.at_ 1 rfl) rfl) rfl ?_
    refine op_len Tryz.underlying31 rfl rfl ?_
    refine op_lss rfl rfl rfl ?_
    refine endF ?_
    refine XF.thenN ?_
    refine condF rfl (fun hc => ?_) (fun hc => absurd (of_decide_eq_false hc) (by omega))
    have hc := of_decide_eq_true hc
    refine skipF ?_
    refine XF.thenN ?_
    refine seqF ?_
    refine blockF ?_
    refine seqF ?_
    refine regB (m := 12) followsM hS (by kernel_rfl) (by kernel_rfl) rfl ?_
    refine bl_cons 1 rfl (isV _) (stab_isV _) (rgV (li := [(2, _)]) rfl (w_free rfl) ⟨g_fr (by kernel_rfl) rfl, trivial⟩ (fun w hw => rn_field (o' := 5) fa_33_4 rfl rfl) (at_top rfl)) ?_
    refine bl_cons 2 rfl (isV _) (stab_isV _) (rgV (li := [(70, _)]) rfl (w_free rfl) ⟨g_dep 0 (by kernel_rfl) (at_dep rfl rfl rfl), trivial⟩ (fun w hw => rn_load Tryz.isAgg31 rfl ((below_agree hw 0).cell (Nat.zero_le _) (cell_own (hS.at_ 1 rfl) rfl))) (at_top rfl)) ?_
    refine bl_cons 3 rfl (isV _) (stab_isV _) (rgV (li := [(6, _)]) rfl (w_free rfl) ⟨g_fr (by kernel_rfl) rfl, trivial⟩ (fun w hw => rn_move rfl) (at_top rfl)) ?_
    refine bl_cons 4 rfl (isV _) (stab_isV _) (rgV (li := [(71, _), (72, _)]) rfl (w_free rfl) ⟨g_dep 1 (by kernel_rfl) (at_dep rfl rfl rfl), g_dep 2 (by kernel_rfl) (at_dep rfl rfl rfl), trivial⟩ (fun w hw => rn_indexA (j := 1) Tryz.underlying31 Tryz.sizeOf33 rfl rfl rfl (by omega) rfl) (at_top rfl)) ?_
    refine bl_cons 5 rfl (isV _) (stab_isV _) (rgV (li := [(73, _)]) rfl (w_free rfl) ⟨g_dep 3 (by kernel_rfl) (at_dep rfl rfl rfl), trivial⟩ (fun w hw => rn_loadA (vs := [_, _, _, _, _, _]) Tryz.isAgg33 Tryz.sizeOf33 rfl (CellsAt.agree (below_agree hw 0) (Nat.zero_le _) (by assumption))) (at_top rfl)) ?_
    refine bl_cons 6 rfl (isV _) (stab_isV _) (rgV (li := [(3, _)]) rfl (w_free rfl) ⟨g_fr (by kernel_rfl) rfl, trivial⟩ (fun w hw => rn_field (o' := 5) fa_33_4 rfl rfl) (at_top rfl)) ?_
    refine bl_cons 7 rfl (isV _) (stab_isV _) (rgV (li := [(75, _)]) rfl (w_free rfl) ⟨g_dep 5 (by kernel_rfl) (at_dep rfl rfl rfl), trivial⟩ (fun w hw => rn_load Tryz.isAgg31 rfl ((below_agree hw 0).cell (Nat.zero_le _) (cell_own (hS.at_ 0 rfl) rfl))) (at_top rfl)) ?_
    refine bl_cons 8 rfl (isV _) (stab_isV _) (rgV (li := [(6, _)]) rfl (w_free rfl) ⟨g_fr (by kernel_rfl) rfl, trivial⟩ (fun w hw => rn_move rfl) (at_top rfl)) ?_
    refine bl_cons 9 rfl (isV _) (stab_isV _) (rgV (li := [(76, _), (77, _)]) rfl (w_free rfl) ⟨g_dep 6 (by kernel_rfl) (at_dep rfl rfl rfl), g_dep 7 (by kernel_rfl) (at_dep rfl rfl rfl), trivial⟩ (fun w hw => rn_indexA (j := 1) Tryz.underlying31 Tryz.sizeOf33 rfl rfl rfl (by omega) rfl) (at_top rfl)) ?_
    refine bl_cons 10 rfl (isV _) (stab_isV _) (rgV (li := [(78, _)]) rfl (w_free rfl) ⟨g_dep 8 (by kernel_rfl) (at_dep rfl rfl rfl), trivial⟩ (fun w hw => rn_loadA (vs := [_, _, _, _, _, _]) Tryz.isAgg33 Tryz.sizeOf33 rfl (CellsAt.agree (below_agree hw 0) (Nat.zero_le _) (by assumption))) (at_top rfl)) ?_
    refine bl_cons 11 rfl (isV (.bool r2)) (stab_isV _) (rg_call [isV _, isV _] rfl goes_22 (w_free rfl) ⟨p_tmp (g_dep 4 (by kernel_rfl) (at_dep rfl rfl rfl)), p_tmp (g_dep 9 (by kernel_rfl) (at_dep rfl rfl rfl)), trivial⟩ (fun vs w' hb hh => by have e := holds_isV (us := [_, _]) hh; subst e; exact (sameW_plain (hx2.below (hS.below.trans (hb.mono hS.below.size))) (hy2.below (hS.below.trans (hb.mono hS.below.size))) r2 hr2).mono fun e w2 h => ⟨.bool r2, h.1, rfl, h.2⟩) (at_top rfl)) ?_
    refine bl_cons 12 rfl (isV _) (stab_isV _) (rgV (li := [(80, _)]) rfl (w_free rfl) ⟨g_dep 10 (by kernel_rfl) (at_dep rfl rfl rfl), trivial⟩ (fun w hw => rn_not rfl) (at_top rfl)) ?_
    refine bl_nil ?_
    intro W5 hbR hS'
    clear hS; have hS := hS'; clear hS'
    refine fin_v ?_
    refine fin_v ?_
    refine fin_v ?_
    refine fin_v ?_
    refine fin_v ?_
    refine fin_v ?_
    refine fin_v ?_
    refine fin_v ?_
    refine fin_v ?_
    refine fin_v ?_
    refine fin_v ?_
    refine fin_v ?_
    refine fin_nil ?_
    refine XF.thenN ?_
    refine condF rfl (fun hc => ?_) (fun hc => ?_)
    · have hc81 := hc; clear hc
      refine seqF ?_
      refine regF ?_
      refine op_assign rfl rfl ?_
      refine endF ?_
      refine XF.thenN ?_
      refine retF ?_
      refine XF.blkR ?_
      refine XF.thenR ?_
      refine XF.thenR ?_
      refine XF.blkR ?_
      refine XF.thenR ?_
      refine XF.res (res1 Tryz.results22 rfl) ?_
      exact ⟨rbool (r_false hr (fun h => by rw [hr2.2 h.2] at hc81; cases hc81)), hS.below⟩
    · have hc81 := hc; clear hc
      refine skipF ?_
      refine XF.blkN ?_
      refine XF.thenN ?_
      refine regF ?_
      refine op_move rfl rfl ?_
      refine op_add rfl rfl (IntWalk.i64_in _ (by omega)) rfl ?_
      refine op_assign rfl rfl ?_
      refine endF ?_
      exact XF.round 0 [(2, _), (3, _), (6, _)] (by omega) ⟨rfl, rfl, rfl, trivial⟩ (.inr (.inr ⟨rfl, rfl, hq1, by simpa using hc81, hS.clear⟩))
  · skip
    refine seqF ?_
    refine seqF ?_
    refine regF ?_
    refine op_move rfl rfl ?_
    refine op_field (o' := 5) fa_33_4 rfl rfl rfl ?_
    refine op_load Tryz.isAgg31 rfl (cell_own (hS.at_ 1 rfl) rfl) rfl ?_
    refine op_len Tryz.underlying31 rfl rfl ?_
    refine op_lss rfl rfl rfl ?_
    refine endF ?_
    refine XF.thenN ?_
    refine condF rfl (fun hc => absurd (of_decide_eq_true hc) (by omega)) (fun hc => ?_)
    have hc := of_decide_eq_false hc
    refine exitF ?_
    refine XF.thenX ?_
    refine XF.thenX ?_
    refine XF.blkX ?_
    refine XF.thenN ?_
    refine seqF ?_
    refine regF ?_
    refine op_assign rfl rfl ?_
    refine endF ?_
    refine XF.thenN ?_
    refine retF ?_
    refine XF.res (res1 Tryz.results22 rfl) ?_
    exact ⟨rbool (r_true hr ⟨hr1.1 hq1, hr2.1 hq2⟩), hS.below⟩

theorem sameW_is {w : World} {S : PS} {f g : WF} {x y : PX} (hx : XIs w S f x) (hy : XIs w S g y) (r : Bool) (hr : r = true ↔ x = y) : Calls Tryz.prog 22 #[f.val, g.val] w fun e w' => e = .returned (.bool r) ∧ Below w.heap.size w w' := by
  classical
  cases S <;> cases x <;> cases y <;> first | exact hx.elim | exact hy.elim | skip
  · exact sameW_plain hx hy r (by rw [hr]; simp)
  · obtain ⟨ra, ca, rc, cc, pc, fb, fo, f1, f2, rfl, h6, h7, h8, h9⟩ := hx.two
    obtain ⟨ra', ca', rc', cc', pc', gb, go, g1, g2, rfl, h6', h7', h8', h9'⟩ := hy.two
    exact sameW_two _ _ _ _ _ _ _ _ _ _ _ _ _ _ _ _ _ _ _ _ _ _ _ _ _ _ w h6 h7 h6' h7' h8 h9 h8' h9' r (decide _) (decide _) (by rw [hr]; simp) decide_eq_true_iff decide_eq_true_iff
end Go.Proofs.YtjcminoaiieckaaGreatDoor
namespace Go.Proofs.YtjcminoaiieckaaGreatDoor
open Go Go.RowKit
set_option linter.unusedVariables false
def textFive : ByteArray := ⟨#[123, 48, 125, 43, 45, 53]⟩
theorem itoa5 : (⟨(Lib.itoa (-5)).toArray⟩ : ByteArray) = ⟨#[45, 53]⟩ := by kernel_rfl
theorem five_is : textB 1 ++ (⟨#[43]⟩ ++ (⟨#[45, 53]⟩ : ByteArray)) = textFive := by kernel_rfl
theorem five_size : (textB 1).size + ((⟨#[43]⟩ : ByteArray) ++ (⟨#[45, 53]⟩ : ByteArray)).size ≤ 9223372036854775807 := Nat.le_of_ble_eq_true (by kernel_rfl)
theorem join_five : (⟨(Lib.join ([textFive].map (·.data.toList)) (ByteArray.mk #[59]).data.toList).toArray⟩ : ByteArray) = textFive := by kernel_rfl
theorem join_cells {w0 W : World} {O : Own} {G : Grows} {K : List (Nat × World)} {B : Nat} (hS : St w0 ((B, [.string textFive], 9) :: O) G K W) {j : Nat} {x : ByteArray} (hj : [textFive][j]? = some x) : W.cell? ⟨B, 0 + j, none⟩ = some (.string x) := by
  match j, hj with
  | 0, hj => simp at hj; subst hj; exact cell_own (hS.at_ 0 rfl) rfl
theorem frow1 {W : World} {B : Nat} {T : TypeId} {f : WF} (h : W.heap[B]? = some (.cells (List.toArray f.six) T (0, 0))) : FRow W (some ⟨B, 0, none⟩) [f] :=
  .inr ⟨B, 0, rfl, fun i g hi => by
    match i, hi with
    | 0, hi => simp at hi; subst hi; exact W6.of_cells (CellsAt.own (j := 0) (m := 6) h rfl)⟩
theorem frow2 {W : World} {B : Nat} {T : TypeId} {f g : WF} (h : W.heap[B]? = some (.cells (List.toArray (f.six ++ g.six)) T (0, 0))) : FRow W (some ⟨B, 0, none⟩) [f, g] :=
  .inr ⟨B, 0, rfl, fun i k hi => by
    match i, hi with
    | 0, hi => simp at hi; subst hi; exact W6.of_cells (CellsAt.own (j := 0) (m := 6) h rfl)
    | 1, hi => simp at hi; subst hi; exact W6.of_cells (CellsAt.own (j := 6) (m := 6) h rfl)⟩
theorem xl_cons {w : World} {S : PS} {f : WF} {x : PX} {fs : List WF} {xs : List PX} (h : XIs w S f x) (hx : XL w S fs xs) : XL w S (f :: fs) (x :: xs) :=
  ⟨by simp [hx.1], fun i g y hg hy => by
    match i, hg, hy with
    | 0, hg, hy => simp at hg hy; subst hg; subst hy; exact h
    | i + 1, hg, hy => exact hx.2 i g y (by simpa using hg) (by simpa using hy)⟩
theorem xl_nil {w : World} {S : PS} : XL w S [] [] := ⟨rfl, fun i g y hg => by simp at hg⟩
theorem two_xl (w : World) : XL w (.one 2 5) [costF 2, costF 4] [.one (pC 2), .one (pC 4)] :=
  xl_cons (new_cost (n := 0) (.cost 2 rfl (by decide) (by decide))).is (xl_cons (new_cost (n := 0) (.cost 4 rfl (by decide) (by decide))).is xl_nil)
theorem five_val : Val 1 [⟨1, 1, -5⟩] := ⟨by decide, rfl, fun i c hi => by
  match i, hi with
  | 0, hi => simp at hi; subst hi; decide⟩
theorem five_xl {w : World} {b : Nat} (hc : CellsAt w b 0 [.int .u64 1, .int .i64 1, .int .i64 (-5)]) : XL w (.one 4 1) [cellsF (some ⟨b, 0, none⟩) 1 [⟨1, 1, -5⟩]] [.one (pX [⟨1, 1, -5⟩])] :=
  xl_cons (new_cells (n := 0) (.cells 1 _ rfl rfl five_val) five_val.bits (by decide) (.inr ⟨b, 0, rfl, fun i c hi => by
    match i, hi with
    | 0, hi => simp at hi; subst hi; exact ⟨hc.1, hc.2.1, hc.2.2.1⟩⟩) (fun ad e => Nat.zero_le _)).is xl_nil
theorem comb24 {w w' : World} {e : Ending} (h : WRet2 (.one 2 5) ([.one (pC 2), .one (pC 4)].foldl (combX (.one 2 5)) (zeroX (.one 2 5))) 0 w e w') : ∃ f : WF, e = .returned (.tuple #[f.val, .int .i64 0]) ∧ f.c = 2 ∧ Below w.heap.size w w' := by
  obtain ⟨f, he, hn, hb⟩ := h
  refine ⟨f, he, ?_, hb⟩
  have h1 : PNew w.heap.size w' 2 5 f (combP 2 5 (combP 2 5 zeroP (pC 2)) (pC 4)) := hn
  have := (pf_inj h1.is.pf).2.1
  rw [this]; decide
theorem ext24 {w w' : World} {e : Ending} (h : WRet2 (.one 2 5) ([.one (pC 4)].foldl (extX (.one 2 5)) (.one (pC 2))) 0 w e w') : ∃ f : WF, e = .returned (.tuple #[f.val, .int .i64 0]) ∧ f.c = 5 ∧ Below w.heap.size w w' := by
  obtain ⟨f, he, hn, hb⟩ := h
  refine ⟨f, he, ?_, hb⟩
  have h1 : PNew w.heap.size w' 2 5 f (extP 2 5 (pC 2) (pC 4)) := hn
  have := (pf_inj h1.is.pf).2.1
  rw [this]; decide

set_option maxRecDepth 100000 in
set_option maxHeartbeats 4000000 in
theorem cellText_five (w : World) (ht : Tabs w) :
    Calls Tryz.prog 127 #[.agg #[.int .u64 1, .int .i64 1, .int .i64 (-5)]] w (fun e w' => e = .returned (.string textFive) ∧ Below w.heap.size w w') := by
  refine enterF (args := [.agg #[.int .u64 1, .int .i64 1, .int .i64 (-5)]]) Tryz.func127 rfl Tryz.ntmps127 rfl ?_
  have hS := St.start w
  refine seqF ?_
  refine regF ?_
  refine op_box (cs := [_, _, _]) hS rfl rfl rfl ?_
  clear hS; intro B1 W1 hS
  refine op_assign rfl rfl ?_
  refine endF ?_
  refine XF.thenN ?_
  refine seqF ?_
  refine regF ?_
  refine op_field (o' := 0) fa_73_0 rfl rfl rfl ?_
  refine op_load Tryz.isAgg26 rfl (cell_own (hS.at_ 0 rfl) rfl) rfl ?_
  refine op_call (vs := [_]) hS goes_125 rfl (textA_any 1 (by omega) _ (ht.below hS.below)) rfl ?_
  rintro e W2 ⟨rfl, hb⟩
  refine ⟨_, rfl, hb, fun hS' => ?_⟩
  clear hS; have hS := hS'; clear hS' hb
  refine op_assign rfl rfl ?_
  refine endF ?_
  refine XF.thenN ?_
  refine seqF ?_
  refine seqF ?_
  refine regF ?_
  refine op_field (o' := 1) fa_73_1 rfl rfl rfl ?_
  refine op_load Tryz.isAgg71 rfl (cell_own (hS.at_ 0 rfl) rfl) rfl ?_
  refine endF ?_
  refine XF.thenN ?_
  refine blockF ?_
  refine seqF ?_
  refine regF ?_
  refine op_eql rfl rfl rfl ?_
  refine op_assign rfl rfl ?_
  refine endF ?_
  refine XF.thenN ?_
  refine condF rfl (fun hc => ?_) (fun hc => absurd (of_decide_eq_false hc) (by omega))
  have hc := of_decide_eq_true hc
  refine regF ?_
  refine op_move rfl rfl ?_
  refine op_field (o' := 2) fa_73_2 rfl rfl rfl ?_
  refine op_load Tryz.isAgg2 rfl (cell_own (hS.at_ 0 rfl) rfl) rfl ?_
  refine op_call (vs := [_, _]) hS goes_93 rfl (formatInt_calls (-5) (by omega) (by omega) _ (ht.below hS.below)) rfl ?_
  rintro e W3 ⟨rfl, hb⟩
  refine ⟨_, rfl, hb, fun hS' => ?_⟩
  clear hS; have hS := hS'; clear hS' hb
  refine op_addS rfl rfl (by rw [itoa5]; decide) rfl ?_
  refine op_addS rfl rfl (by rw [itoa5]; exact five_size) rfl ?_
  refine op_assign rfl rfl ?_
  refine endF ?_
  refine XF.blkN ?_
  refine XF.thenN ?_
  refine seqF ?_
  refine regF ?_
  refine op_move rfl rfl ?_
  refine op_assign rfl rfl ?_
  refine endF ?_
  refine XF.thenN ?_
  refine retF ?_
  refine XF.res (res1 Tryz.results127 rfl) ?_
  exact ⟨by rw [itoa5]; exact congrArg (fun z => Ending.returned (.string z)) five_is, hS.below⟩

set_option maxRecDepth 100000 in
set_option maxHeartbeats 4000000 in
theorem cellsText_five (b : Nat) (w : World) (hcl : CellsAt w b 0 [.int .u64 1, .int .i64 1, .int .i64 (-5)]) (ht : Tabs w) :
    Calls Tryz.prog 91 #[.slice (some ⟨b, 0, none⟩) 1 1] w (fun e w' => e = .returned (.string textFive) ∧ Below w.heap.size w w') := by
  refine enterF (args := [.slice (some ⟨b, 0, none⟩) 1 1]) Tryz.func91 rfl Tryz.ntmps91 rfl ?_
  have hS := St.start w
  refine seqF ?_
  refine regF ?_
  refine op_assign rfl rfl ?_
  refine endF ?_
  refine XF.thenN ?_
  refine seqF ?_
  refine seqF ?_
  refine regF ?_
  refine op_move rfl rfl ?_
  refine op_len Tryz.underlying30 rfl rfl ?_
  refine op_eql rfl rfl rfl ?_
  refine endF ?_
  refine XF.thenN ?_
  refine condF rfl (fun hc => absurd (of_decide_eq_true hc) (by omega)) (fun hc => ?_)
  have hc := of_decide_eq_false hc
  refine skipF ?_
  refine XF.thenN ?_
  refine seqF ?_
  refine regF ?_
  refine op_move rfl rfl ?_
  refine op_len Tryz.underlying30 rfl rfl ?_
  refine op_make (m := 1) (cs := [.string ⟨#[]⟩]) hS Tryz.underlying128 inf_9 rfl rfl rfl (rfl) (rfl) (by kernel_rfl) (by show (16 : Int) * _ ≤ _; omega) (by omega) rfl ?_
  clear hS; intro B1 W1 hS
  refine op_assign rfl rfl ?_
  refine endF ?_
  refine XF.thenN ?_
  refine seqF ?_
  refine seqF ?_
  refine regF ?_
  refine op_move rfl rfl ?_
  refine op_len Tryz.underlying30 rfl rfl ?_
  refine op_move rfl rfl ?_
  refine endF ?_
  refine XF.thenN ?_
  refine blockF ?_
  refine loopF (fun q l W => (q = 1 ∧ l = [(3, .slice (some ⟨B1, 0, none⟩) 1 1), (12, .slice (some ⟨b, 0, none⟩) 1 1), (13, .int .i64 1), (14, .int .i64 0)] ∧ St w [(B1, [.string ⟨#[]⟩], 9)] [] [] W) ∨ (q = 0 ∧ l = [(3, .slice (some ⟨B1, 0, none⟩) 1 1), (12, .slice (some ⟨b, 0, none⟩) 1 1), (13, .int .i64 1), (14, .int .i64 1)] ∧ St w [(B1, [.string textFive], 9)] [] [] W)) (1) ([(3, _), (12, _), (13, _), (14, _)]) ⟨rfl, rfl, rfl, rfl, trivial⟩ (.inl ⟨rfl, rfl, hS⟩) ?_
  clear hS
  rintro q l W (⟨rfl, rfl, hS⟩ | ⟨rfl, rfl, hS⟩)
  · have k1 := CellsAt.agree hS.agree (Nat.zero_le _) hcl
    refine seqF ?_
    refine regF ?_
    refine op_lss rfl rfl rfl ?_
    refine endF ?_
    refine XF.thenN ?_
    refine seqF ?_
    refine condF rfl (fun hc => ?_) (fun hc => absurd (of_decide_eq_false hc) (by omega))
    have hc := of_decide_eq_true hc
    refine skipF ?_
    refine XF.thenN ?_
    refine seqF ?_
    refine blockF ?_
    refine seqF ?_
    refine regF ?_
    refine op_move rfl rfl ?_
    refine op_indexA (j := 0) Tryz.underlying30 Tryz.sizeOf73 rfl rfl rfl (by omega) (Nat.add_zero _) rfl ?_
    refine op_loadA (vs := [_, _, _]) Tryz.isAgg73 Tryz.sizeOf73 rfl (by assumption) rfl ?_
    refine op_alloc (cs := [_, _, _]) hS Tryz.zeroValue73 rfl rfl ?_
    clear hS; intro B2 W2 hS
    refine op_assign rfl rfl ?_
    refine op_storeA (i := 0) (vs := [_, _, _]) (cs' := [_, _, _]) (O' := [_, _]) hS Tryz.sizeOf73 rfl rfl rfl rfl rfl rfl rfl ?_
    clear hS; intro W3 hS
    refine endF ?_
    refine XF.thenN ?_
    refine regF ?_
    refine op_move rfl rfl ?_
    refine op_move rfl rfl ?_
    refine op_loadA (vs := [_, _, _]) Tryz.isAgg73 Tryz.sizeOf73 rfl (CellsAt.own (j := 0) (m := 3) (hS.at_ 0 rfl) rfl) rfl ?_
    refine op_call (vs := [_]) hS goes_127 rfl (cellText_five _ (ht.below hS.below)) rfl ?_
    rintro e W4 ⟨rfl, hb⟩
    refine ⟨_, rfl, hb, fun hS' => ?_⟩
    clear hS; have hS := hS'; clear hS' hb
    refine op_indexA (j := 0) (o' := 0) Tryz.underlying128 Tryz.sizeOf9 rfl rfl rfl (by omega) rfl rfl ?_
    refine op_store (i := 1) (cs' := [_]) (O' := [_, _]) hS Tryz.sizeOf9 rfl rfl rfl rfl rfl rfl rfl ?_
    clear hS; intro W5 hS
    refine endF ?_
    refine XF.blkN ?_
    refine XF.thenN ?_
    refine regF ?_
    refine op_add rfl rfl (IntWalk.i64_in _ (by omega)) rfl ?_
    refine op_move rfl rfl ?_
    refine endF ?_
    exact XF.round 0 [(3, _), (12, _), (13, _), (14, _)] (by omega) ⟨rfl, rfl, rfl, rfl, trivial⟩ (.inr ⟨rfl, rfl, hS.tail.clear⟩)
  · skip
    refine seqF ?_
    refine regF ?_
    refine op_lss rfl rfl rfl ?_
    refine endF ?_
    refine XF.thenN ?_
    refine seqF ?_
    refine condF rfl (fun hc => absurd (of_decide_eq_true hc) (by omega)) (fun hc => ?_)
    have hc := of_decide_eq_false hc
    refine exitF ?_
    refine XF.thenX ?_
    refine XF.thenX ?_
    refine XF.blkX ?_
    refine XF.thenN ?_
    refine seqF ?_
    refine regF ?_
    refine op_move rfl rfl ?_
    refine op_call (vs := [_, _]) hS goes_126 rfl (Tryz.strings_Join _ 0 1 [textFive] ⟨#[59]⟩ _ (fun j x hj => join_cells hS hj) (lt_of_heap (hS.at_ 0 rfl)) (by decide) (by decide) (by decide)) rfl ?_
    rintro e W6 ⟨rfl, hb⟩
    refine ⟨_, rfl, hb, fun hS' => ?_⟩
    clear hS; have hS := hS'; clear hS' hb
    refine op_assign rfl rfl ?_
    refine endF ?_
    refine XF.thenN ?_
    refine retF ?_
    refine XF.res (res1 Tryz.results91 rfl) ?_
    exact ⟨by rw [join_five], hS.below⟩

set_option maxRecDepth 100000 in
set_option maxHeartbeats 4000000 in
theorem text_five (b : Nat) (w : World) (hcl : CellsAt w b 0 [.int .u64 1, .int .i64 1, .int .i64 (-5)]) (ht : Tabs w) :
    Calls Tryz.prog 58 #[.agg #[.int .i64 4, .int .i64 1, .slice none 0 0], .agg #[.bool false, .int .i64 0, .int .u64 0, .slice none 0 0, .slice (some ⟨b, 0, none⟩) 1 1, .slice none 0 0]] w (fun e w' => e = .returned (.string textFive) ∧ Below w.heap.size w w') := by
  refine enterF (args := [.agg #[.int .i64 4, .int .i64 1, .slice none 0 0], .agg #[.bool false, .int .i64 0, .int .u64 0, .slice none 0 0, .slice (some ⟨b, 0, none⟩) 1 1, .slice none 0 0]]) Tryz.func58 rfl Tryz.ntmps58 rfl ?_
  have hS := St.start w
  refine seqF ?_
  refine regF ?_
  refine op_box (cs := [_, _, _]) hS rfl rfl rfl ?_
  clear hS; intro B1 W1 hS
  refine op_box (cs := [_, _, _, _, _, _]) hS rfl rfl rfl ?_
  clear hS; intro B2 W2 hS
  refine op_assign rfl rfl ?_
  refine endF ?_
  refine XF.thenN ?_
  refine seqF ?_
  refine seqF ?_
  refine regF ?_
  refine op_field (o' := 0) fa_33_0 rfl rfl rfl ?_
  refine op_load Tryz.isAgg4 rfl (cell_own (hS.at_ 0 rfl) rfl) rfl ?_
  refine endF ?_
  refine XF.thenN ?_
  refine condF rfl (fun hc => absurd hc (by decide)) (fun hc => ?_)
  skip
  refine skipF ?_
  refine XF.thenN ?_
  refine seqF ?_
  refine seqF ?_
  refine regF ?_
  refine op_field (o' := 0) fa_25_0 rfl rfl rfl ?_
  refine op_load Tryz.isAgg22 rfl (cell_own (hS.at_ 1 rfl) rfl) rfl ?_
  refine endF ?_
  refine XF.thenN ?_
  refine blockF ?_
  refine seqF ?_
  refine regF ?_
  refine op_eql rfl rfl rfl ?_
  refine op_assign rfl rfl ?_
  refine endF ?_
  refine XF.thenN ?_
  refine condF rfl (fun hc => absurd (of_decide_eq_true hc) (by omega)) (fun hc => ?_)
  have hc := of_decide_eq_false hc
  refine seqF ?_
  refine regF ?_
  refine op_eql rfl rfl rfl ?_
  refine op_assign rfl rfl ?_
  refine endF ?_
  refine XF.thenN ?_
  refine condF rfl (fun hc => absurd (of_decide_eq_true hc) (by omega)) (fun hc => ?_)
  have hc := of_decide_eq_false hc
  refine seqF ?_
  refine regF ?_
  refine op_eql rfl rfl rfl ?_
  refine op_assign rfl rfl ?_
  refine endF ?_
  refine XF.thenN ?_
  refine condF rfl (fun hc => ?_) (fun hc => absurd (of_decide_eq_false hc) (by omega))
  have hc := of_decide_eq_true hc
  refine seqF ?_
  refine regF ?_
  refine op_field (o' := 4) fa_33_3 rfl rfl rfl ?_
  refine op_load Tryz.isAgg30 rfl (cell_own (hS.at_ 0 rfl) rfl) rfl ?_
  refine op_call (vs := [_]) hS goes_91 rfl (cellsText_five b _ (CellsAt.agree hS.agree (Nat.zero_le _) hcl) (ht.below hS.below)) rfl ?_
  rintro e W3 ⟨rfl, hb⟩
  refine ⟨_, rfl, hb, fun hS' => ?_⟩
  clear hS; have hS := hS'; clear hS' hb
  refine op_assign rfl rfl ?_
  refine endF ?_
  refine XF.thenN ?_
  refine retF ?_
  refine XF.blkR ?_
  refine XF.thenR ?_
  refine XF.res (res1 Tryz.results58 rfl) ?_
  exact ⟨rfl, hS.below⟩

set_option maxRecDepth 100000 in
set_option maxHeartbeats 4000000 in
theorem Text_five (b : Nat) (w : World) (hcl : CellsAt w b 0 [.int .u64 1, .int .i64 1, .int .i64 (-5)]) (ht : Tabs w) :
    Calls Tryz.prog 33 #[.agg #[.int .i64 4, .int .i64 1, .slice none 0 0], .agg #[.bool false, .int .i64 0, .int .u64 0, .slice none 0 0, .slice (some ⟨b, 0, none⟩) 1 1, .slice none 0 0]] w (fun e w' => e = .returned (.tuple #[.string textFive, .int .i64 0]) ∧ Below w.heap.size w w') := by
  refine enterF (args := [.agg #[.int .i64 4, .int .i64 1, .slice none 0 0], .agg #[.bool false, .int .i64 0, .int .u64 0, .slice none 0 0, .slice (some ⟨b, 0, none⟩) 1 1, .slice none 0 0]]) Tryz.func33 rfl Tryz.ntmps33 rfl ?_
  have hS := St.start w
  refine seqF ?_
  refine regF ?_
  refine op_box (cs := [_, _, _]) hS rfl rfl rfl ?_
  clear hS; intro B1 W1 hS
  refine op_box (cs := [_, _, _, _, _, _]) hS rfl rfl rfl ?_
  clear hS; intro B2 W2 hS
  refine op_assign rfl rfl ?_
  refine op_assign rfl rfl ?_
  refine endF ?_
  refine XF.thenN ?_
  refine seqF ?_
  refine seqF ?_
  refine regF ?_
  refine op_loadA (vs := [_, _, _]) Tryz.isAgg25 Tryz.sizeOf25 rfl (CellsAt.own (j := 0) (m := 3) (hS.at_ 1 rfl) rfl) rfl ?_
  refine op_loadA (vs := [_, _, _, _, _, _]) Tryz.isAgg33 Tryz.sizeOf33 rfl (CellsAt.own (j := 0) (m := 6) (hS.at_ 0 rfl) rfl) rfl ?_
  refine op_buildSlice (us := [(0, .agg (List.toArray [_, _, _, _, _, _]))]) hS Tryz.underlying31 Tryz.sizeOf33 Tryz.zeroValue33 rfl rfl rfl (bs_31_1 _ _ _ _ _ _) rfl ?_
  clear hS; intro B3 W3 hS
  refine op_call (vs := [_, _]) hS goes_45 rfl (checkAllW_ok (.one 4 1) ⟨4, 1, none, 0, 0⟩ _ ⟨_, _, rfl⟩ (by show plainB 4 1 0 = true; decide) _ 1 1 [cellsF (some ⟨b, 0, none⟩) 1 [⟨1, 1, -5⟩]] [.one (pX [⟨1, 1, -5⟩])] (frow1 (hS.at_ 0 rfl)) (five_xl (CellsAt.agree hS.agree (Nat.zero_le _) hcl)) rfl (by decide)) rfl ?_
  rintro e W4 ⟨rfl, hb⟩
  refine ⟨_, rfl, hb, fun hS' => ?_⟩
  clear hS; have hS := hS'; clear hS' hb
  refine op_assign rfl rfl ?_
  refine endF ?_
  refine XF.thenN ?_
  refine seqF ?_
  refine regF ?_
  refine op_move rfl rfl ?_
  refine op_neq rfl rfl rfl ?_
  refine endF ?_
  refine XF.thenN ?_
  refine condF rfl (fun hc => absurd (of_decide_eq_true hc) (by omega)) (fun hc => ?_)
  have hc := of_decide_eq_false hc
  refine skipF ?_
  refine XF.thenN ?_
  refine seqF ?_
  refine regF ?_
  refine op_loadA (vs := [_, _, _]) Tryz.isAgg25 Tryz.sizeOf25 rfl (CellsAt.own (j := 0) (m := 3) (hS.at_ 2 rfl) rfl) rfl ?_
  refine op_loadA (vs := [_, _, _, _, _, _]) Tryz.isAgg33 Tryz.sizeOf33 rfl (CellsAt.own (j := 0) (m := 6) (hS.at_ 1 rfl) rfl) rfl ?_
  refine op_call (vs := [_, _]) hS goes_58 rfl (text_five b _ (CellsAt.agree hS.agree (Nat.zero_le _) hcl) (ht.below hS.below)) rfl ?_
  rintro e W5 ⟨rfl, hb⟩
  refine ⟨_, rfl, hb, fun hS' => ?_⟩
  clear hS; have hS := hS'; clear hS' hb
  refine op_assign rfl rfl ?_
  refine op_assign rfl rfl ?_
  refine endF ?_
  refine XF.thenN ?_
  refine retF ?_
  refine XF.res (res2 Tryz.results33 rfl rfl) ?_
  exact ⟨rfl, hS.below⟩

set_option maxRecDepth 100000 in
set_option maxHeartbeats 4000000 in
theorem aliveW_is (w : World) (ht : Tabs w) :
    Calls Tryz.prog 11 #[] w (fun e w' => e = .returned (.bool true) ∧ Below w.heap.size w w') := by
  refine enterF (args := []) Tryz.func11 rfl Tryz.ntmps11 rfl ?_
  have hS := St.start w
  refine seqF ?_
  refine regF ?_
  refine op_assign rfl rfl ?_
  refine endF ?_
  refine XF.thenN ?_
  refine seqF ?_
  refine regF ?_
  refine op_build (us := [(0, .int .i64 _), (1, .int .i64 _)]) rfl (bld_25_0_1 _ _) rfl ?_
  refine op_alloc (cs := [_, _, _]) hS Tryz.zeroValue25 rfl rfl ?_
  clear hS; intro B1 W1 hS
  refine op_storeA (i := 0) (vs := [_, _, _]) (cs' := [_, _, _]) (O' := [_]) hS Tryz.sizeOf25 rfl rfl rfl rfl rfl rfl rfl ?_
  clear hS; intro W2 hS
  refine endF ?_
  refine XF.thenN ?_
  refine seqF ?_
  refine regF ?_
  refine op_loadA (vs := [_, _, _]) Tryz.isAgg25 Tryz.sizeOf25 rfl (CellsAt.own (j := 0) (m := 3) (hS.at_ 0 rfl) rfl) rfl ?_
  refine op_build (us := [(1, .int .i64 _)]) rfl (bld_33_1 _) rfl ?_
  refine op_build (us := [(1, .int .i64 _)]) rfl (bld_33_1 _) rfl ?_
  refine op_buildSlice (us := [(0, .agg (List.toArray [_, _, _, _, _, _])), (1, .agg (List.toArray [_, _, _, _, _, _]))]) hS Tryz.underlying31 Tryz.sizeOf33 Tryz.zeroValue33 rfl rfl rfl (bs_31_2 _ _ _ _ _ _ _ _ _ _ _ _) rfl ?_
  clear hS; intro B3 W3 hS
  refine op_call (vs := [_, _]) hS goes_27 rfl ((CombineW_ok (.one 2 5) ⟨2, 5, none, 0, 0⟩ _ ⟨_, _, rfl⟩ (by show plainB 2 5 0 = true; decide) _ 2 2 [costF 2, costF 4] [.one (pC 2), .one (pC 4)] (frow2 (hS.at_ 0 rfl)) (two_xl _) rfl (by decide) (ht.below hS.below)).mono fun e w2 h => comb24 h) rfl ?_
  rintro e W4 ⟨f, rfl, hfc, hb⟩
  refine ⟨_, rfl, hb, fun hS' => ?_⟩
  clear hS; have hS := hS'; clear hS' hb
  refine op_move rfl rfl ?_
  refine op_extract rfl rfl rfl ?_
  refine op_extract rfl rfl rfl ?_
  refine op_alloc (cs := [_, _, _, _, _, _]) hS Tryz.zeroValue33 rfl rfl ?_
  clear hS; intro B5 W5 hS
  refine op_storeA (i := 0) (vs := [_, _, _, _, _, _]) (cs' := [_, _, _, _, _, _]) (O' := [_, _, _]) hS Tryz.sizeOf33 rfl rfl rfl rfl rfl rfl rfl ?_
  clear hS; intro W6 hS
  refine op_assign rfl rfl ?_
  refine endF ?_
  refine XF.thenN ?_
  refine seqF ?_
  refine regF ?_
  refine op_loadA (vs := [_, _, _]) Tryz.isAgg25 Tryz.sizeOf25 rfl (CellsAt.own (j := 0) (m := 3) (hS.at_ 2 rfl) rfl) rfl ?_
  refine op_build (us := [(1, .int .i64 _)]) rfl (bld_33_1 _) rfl ?_
  refine op_build (us := [(1, .int .i64 _)]) rfl (bld_33_1 _) rfl ?_
  refine op_buildSlice (us := [(0, .agg (List.toArray [_, _, _, _, _, _])), (1, .agg (List.toArray [_, _, _, _, _, _]))]) hS Tryz.underlying31 Tryz.sizeOf33 Tryz.zeroValue33 rfl rfl rfl (bs_31_2 _ _ _ _ _ _ _ _ _ _ _ _) rfl ?_
  clear hS; intro B7 W7 hS
  refine op_call (vs := [_, _]) hS goes_29 rfl ((ExtendW_ok (.one 2 5) ⟨2, 5, none, 0, 0⟩ _ ⟨_, _, rfl⟩ (by show plainB 2 5 0 = true; decide) _ 2 2 (costF 2) (.one (pC 2)) [costF 4] [.one (pC 4)] (frow2 (hS.at_ 0 rfl)) (two_xl _) rfl (by decide) (by decide) (ht.below hS.below)).mono fun e w2 h => ext24 h) rfl ?_
  rintro e W8 ⟨f2, rfl, hf2c, hb⟩
  refine ⟨_, rfl, hb, fun hS' => ?_⟩
  clear hS; have hS := hS'; clear hS' hb
  refine op_move rfl rfl ?_
  refine op_extract rfl rfl rfl ?_
  refine op_extract rfl rfl rfl ?_
  refine op_alloc (cs := [_, _, _, _, _, _]) hS Tryz.zeroValue33 rfl rfl ?_
  clear hS; intro B9 W9 hS
  refine op_storeA (i := 0) (vs := [_, _, _, _, _, _]) (cs' := [_, _, _, _, _, _]) (O' := [_, _, _, _, _]) hS Tryz.sizeOf33 rfl rfl rfl rfl rfl rfl rfl ?_
  clear hS; intro W10 hS
  refine op_assign rfl rfl ?_
  refine endF ?_
  refine XF.thenN ?_
  refine seqF ?_
  refine regF ?_
  refine op_build (us := [(0, .int .i64 _), (1, .int .i64 _)]) rfl (bld_25_0_1 _ _) rfl ?_
  refine op_build (us := [(0, .int .u64 _), (1, .int .i64 _), (2, .int .i64 _)]) rfl (bld_73_0_1_2 _ _ _) rfl ?_
  refine op_buildSlice (us := [(0, .agg (List.toArray [_, _, _]))]) hS Tryz.underlying30 Tryz.sizeOf73 Tryz.zeroValue73 rfl rfl rfl (bs_30_1 _ _ _) rfl ?_
  clear hS; intro B11 W11 hS
  refine op_build (us := [(3, .slice _ _ _)]) rfl (bld_33_3 _ _ _) rfl ?_
  refine op_call (vs := [_, _]) hS goes_33 rfl (Text_five _ _ (CellsAt.own (j := 0) (m := 3) (hS.at_ 0 rfl) rfl) (ht.below hS.below)) rfl ?_
  rintro e W12 ⟨rfl, hb⟩
  refine ⟨_, rfl, hb, fun hS' => ?_⟩
  clear hS; have hS := hS'; clear hS' hb
  refine op_move rfl rfl ?_
  refine op_extract rfl rfl rfl ?_
  refine op_extract rfl rfl rfl ?_
  refine op_assign rfl rfl ?_
  refine op_assign rfl rfl ?_
  refine endF ?_
  refine XF.thenN ?_
  refine seqF ?_
  refine regF ?_
  refine op_move rfl rfl ?_
  refine op_eql rfl rfl rfl ?_
  refine op_move rfl rfl ?_
  refine op_cases (d := 35) rfl (fun hc => ?_) (fun hc => absurd (of_decide_eq_false hc) (by omega))
  have hc := of_decide_eq_true hc
  refine op_wantedF (d := 35) rfl rfl ?_
  refine op_move rfl rfl ?_
  refine op_wantedF (d := 35) rfl rfl ?_
  refine op_eql rfl rfl rfl ?_
  refine op_pickT rfl rfl rfl ?_
  refine op_move rfl rfl ?_
  refine op_cases (d := 39) rfl (fun hc => ?_) (fun hc => absurd (of_decide_eq_false hc) (by omega))
  have hc := of_decide_eq_true hc
  refine op_wantedF (d := 39) rfl rfl ?_
  refine op_move rfl rfl ?_
  refine op_wantedF (d := 39) rfl rfl ?_
  refine op_eql rfl rfl rfl ?_
  refine op_pickT rfl rfl rfl ?_
  refine op_move rfl rfl ?_
  refine op_cases (d := 43) rfl (fun hc => ?_) (fun hc => absurd (of_decide_eq_false hc) (by omega))
  have hc := of_decide_eq_true hc
  refine op_wantedF (d := 43) rfl rfl ?_
  refine op_field (o' := 1) fa_33_1 rfl rfl rfl ?_
  refine op_wantedF (d := 43) rfl rfl ?_
  refine op_load Tryz.isAgg3 rfl (cell_own (hS.at_ 3 rfl) rfl) rfl ?_
  refine op_wantedF (d := 43) rfl rfl ?_
  refine op_eql rfl rfl rfl ?_
  refine op_pickT rfl rfl rfl ?_
  refine op_move rfl rfl ?_
  refine op_cases (d := 48) rfl (fun hc => ?_) (fun hc => absurd (of_decide_eq_false hc) (by omega))
  have hc := of_decide_eq_true hc
  refine op_wantedF (d := 48) rfl rfl ?_
  refine op_field (o' := 1) fa_33_1 rfl rfl rfl ?_
  refine op_wantedF (d := 48) rfl rfl ?_
  refine op_load Tryz.isAgg3 rfl (cell_own (hS.at_ 1 rfl) rfl) rfl ?_
  refine op_wantedF (d := 48) rfl rfl ?_
  refine op_eql rfl rfl rfl ?_
  refine op_pickT rfl rfl rfl ?_
  refine op_move rfl rfl ?_
  refine op_cases (d := 53) rfl (fun hc => ?_) (fun hc => absurd (of_decide_eq_false hc) (by omega))
  have hc := of_decide_eq_true hc
  refine op_wantedF (d := 53) rfl rfl ?_
  refine op_move rfl rfl ?_
  refine op_wantedF (d := 53) rfl rfl ?_
  refine op_binG rfl rfl rfl (run_eqlS_same _ _ _) rfl ?_
  refine op_pickT rfl rfl rfl ?_
  refine op_assign rfl rfl ?_
  refine endF ?_
  refine XF.thenN ?_
  refine retF ?_
  refine XF.res (res1 Tryz.results11 rfl) ?_
  exact ⟨rfl, hS.below⟩
end Go.Proofs.YtjcminoaiieckaaGreatDoor
namespace Go.Proofs.YtjcminoaiieckaaGreatDoor
open Go.RowKit
set_option linter.unusedVariables false
set_option linter.unusedSimpArgs false
def pc : Nat → Nat → Nat
  | 0, _ => 0
  | n + 1, f => pc n f + (if f.testBit n then 1 else 0)
end Go.Proofs.YtjcminoaiieckaaGreatDoor
namespace Go.Proofs.YtjcminoaiieckaaGreatDoor
open Go Go.RowKit
set_option linter.unusedVariables false
theorem run_callV (P : Program) (ev : Operand → Value) (w : World) (x : Operand) (f : FuncId) (args : Array Operand) (ts : Array TypeId) (o : Oper) (h : o.op = .call { callee := .value x, args := args, argTypes := ts }) (hf : ev x = .func (.func f) #[] #[]) (hb : goesIn P f = true) : (execOp ev o).run P w = .ok (.enter f (args.map ev)) w := by
  unfold goesIn at hb
  cases hx : P.funcs[f]? with
  | none => rw [hx] at hb; cases hb
  | some fn =>
    rw [hx] at hb
    simp only [Bool.and_eq_true, Bool.not_eq_true', beq_eq_false_iff_ne, ne_eq] at hb
    obtain ⟨c, hc⟩ := Option.isSome_iff_exists.1 hb.1
    unfold execOp; simp only [h]; simp [go_sem, resolve, hf, callFunc, hx, hc, hb.2]
section
variable {P : Program} {n : Nat} {Q : Exit → Act → World → Prop} {l : Fr} {w0 W : World} {ops : Array Oper} {os : List Oper} {O : Own} {G : Grows} {K : List (Nat × World)} {d : Nat} {ty : TypeId} {pos : String} {aft : Array Edge}
theorem op_callV {x : Operand} {f : FuncId} {args : Array Operand} {ts : Array TypeId} {vs : List Value} {R : Ending → World → Prop} (hS : St w0 O G K W) (hx : evL l x = some (.func (.func f) #[] #[])) (hgo : goesIn P f = true) (ha : args.toList.map (evL l) = vs.map some) (hc : Calls P f vs.toArray W R)
    (hd : Nat.blt d n = true)
    (h : ∀ e W', R e W' → ∃ v, e = .returned v ∧ Below W.heap.size W W' ∧ (St w0 O G ((W.heap.size, W') :: K) W' → OpsF P n ops Q os ((d, v) :: l) W')) : OpsF P n ops Q (⟨some d, .call { callee := .value x, args := args, argTypes := ts }, ty, pos, aft, none⟩ :: os) l W := fun a hl => by
  refine wpList_plain rfl fun K' hK => ?_
  unfold Oper.wp
  rw [run_callV P a.eval W x f args ts _ rfl (hl.ev x _ hx) hgo, Oper.upon_enter]
  have hargs : args.map a.eval = vs.toArray := by
    have key : ∀ (xs : List Operand) (us : List Value), xs.map (evL l) = us.map some → xs.map a.eval = us := by
      intro xs
      induction xs with
      | nil => intro us h; cases us <;> simp at h ⊢
      | cons x xs ih =>
        intro us h
        cases us with
        | nil => simp at h
        | cons u us =>
          simp only [List.map_cons, List.cons.injEq] at h
          simp only [List.map_cons, hl.ev x u h.1, ih us h.2]
    apply Array.ext'
    rw [Array.toList_map, key _ _ ha]
  rw [hargs]
  refine hc.mono ?_
  intro e W' hRe
  obtain ⟨v, rfl, hb, hn⟩ := h e W' hRe
  exact hK _ _ (hn (hS.call hb) _ (hl.put hd))
end
end Go.Proofs.YtjcminoaiieckaaGreatDoor
namespace Go.Proofs.YtjcminoaiieckaaGreatDoor
open Go Go.RowKit
set_option linter.unusedVariables false
def eqW : Nat → WV → WV → Bool
  | 0, _, _ => false
  | k + 1, .mk f ps, .mk g qs => decide (f.z = g.z ∧ f.c = g.c ∧ f.g = g.g ∧ f.rows = g.rows) && (sameC f.cells g.cells && (decide (ps.length = qs.length) && (ps.zip qs).all fun x => eqW k x.1 x.2))
theorem r_same {r b : Bool} {p : Prop} (hr : r = true ↔ p) (h : p ↔ b = true) : b = r := by
  cases r <;> cases b <;> simp_all
theorem smN_succ {j : Nat} {f : WF} {ps : List WV} (h : smN (j + 1) (.mk f ps) = true) : f.rl ≤ 70 ∧ f.cl ≤ 70 ∧ f.pl ≤ 3 ∧ ∀ p ∈ ps, smN j p = true := by
  simp only [smN, Bool.and_eq_true, decide_eq_true_eq, List.all_eq_true] at h
  exact h

set_option maxRecDepth 100000 in
set_option maxHeartbeats 4000000 in
theorem sameWR_step (k j : Nat) (az : Bool) (ac : Int) (ag : Nat) (ara : Option Addr) (arl arc : Nat) (arows : List Nat) (aca : Option Addr) (acl acc : Nat) (acells : List Cl) (apa : Option Addr) (apl apc : Nat)(bz : Bool) (bc : Int) (bg : Nat) (bra : Option Addr) (brl brc : Nat) (brows : List Nat) (bca : Option Addr) (bcl bcc : Nat) (bcells : List Cl) (bpa : Option Addr) (bpl bpc : Nat)(ps qs : List WV) (w : World) (hra : VRow w ara (u64s arows)) (hla : arows.length = arl) (hma : arl ≤ 100) (hca : CRow w aca acells) (hka : acells.length = acl) (hna : acl ≤ 100)(hrb : VRow w bra (u64s brows)) (hlb : brows.length = brl) (hmb : brl ≤ 100) (hcb : CRow w bca bcells) (hkb : bcells.length = bcl) (hnb : bcl ≤ 100)(hps : ps.length = apl) (hqs : qs.length = bpl) (hrow : PRow w apa ps) (hrow2 : PRow w bpa qs) (hin : ∀ p ∈ ps, WIn w k p) (hin2 : ∀ p ∈ qs, WIn w k p) (hpl : apl ≤ 9223372036854775807) (hsm : ∀ p ∈ ps, smN j p = true) (hsm2 : ∀ p ∈ qs, smN j p = true) (ih : ∀ (p q : WV) (W : World), WIn W k p → WIn W k q → smN j p = true → smN j q = true → Calls Tryz.prog 22 #[p.f.val, q.f.val] W fun e w' => e = .returned (.bool (eqW k p q)) ∧ Below W.heap.size W w') (r : Bool) (hr : r = true ↔ (az = bz ∧ ac = bc ∧ ag = bg ∧ arows = brows ∧ acells = bcells ∧ (decide (ps.length = qs.length) && (ps.zip qs).all fun x => eqW k x.1 x.2) = true)) :
    Calls Tryz.prog 22 #[.agg #[.bool az, .int .i64 ac, .int .u64 (ag : Int), .slice ara arl arc, .slice aca acl acc, .slice apa apl apc], .agg #[.bool bz, .int .i64 bc, .int .u64 (bg : Int), .slice bra brl brc, .slice bca bcl bcc, .slice bpa bpl bpc]] w (fun e w' => e = .returned (.bool r) ∧ Below w.heap.size w w') := by
  refine enterF (args := [.agg #[.bool az, .int .i64 ac, .int .u64 (ag : Int), .slice ara arl arc, .slice aca acl acc, .slice apa apl apc], .agg #[.bool bz, .int .i64 bc, .int .u64 (bg : Int), .slice bra brl brc, .slice bca bcl bcc, .slice bpa bpl bpc]]) Tryz.func22 rfl Tryz.ntmps22 rfl ?_
  have hS := St.start w
  refine seqF ?_
  refine regF ?_
  refine op_box (cs := [_, _, _, _, _, _]) hS rfl rfl rfl ?_
  clear hS; intro B1 W1 hS
  refine op_box (cs := [_, _, _, _, _, _]) hS rfl rfl rfl ?_
  clear hS; intro B2 W2 hS
  refine op_assign rfl rfl ?_
  refine endF ?_
  refine XF.thenN ?_
  refine seqF ?_
  refine seqF ?_
  refine regF ?_
  refine op_field (o' := 0) fa_33_0 rfl rfl rfl ?_
  refine op_load Tryz.isAgg4 rfl (cell_own (hS.at_ 1 rfl) rfl) rfl ?_
  refine op_field (o' := 0) fa_33_0 rfl rfl rfl ?_
  refine op_load Tryz.isAgg4 rfl (cell_own (hS.at_ 0 rfl) rfl) rfl ?_
  refine op_neqB Tryz.underlying4 rfl rfl rfl ?_
  refine op_move rfl rfl ?_
  refine op_cases (d := 12) rfl (fun hc => ?_) (fun hc => ?_)
  · have hg12 := hc; clear hc
    refine op_notF (d := 12) rfl rfl rfl rfl ?_
    refine op_notF (d := 12) rfl rfl rfl rfl ?_
    refine op_notF (d := 12) rfl rfl rfl rfl ?_
    refine op_notF (d := 12) rfl rfl rfl rfl ?_
    refine op_notF (d := 12) rfl rfl rfl rfl ?_
    refine op_pickT rfl rfl rfl ?_
    refine op_move rfl rfl ?_
    refine op_notF (d := 19) rfl rfl rfl rfl ?_
    refine op_notF (d := 19) rfl rfl rfl rfl ?_
    refine op_notF (d := 19) rfl rfl rfl rfl ?_
    refine op_notF (d := 19) rfl rfl rfl rfl ?_
    refine op_notF (d := 19) rfl rfl rfl rfl ?_
    refine op_notF (d := 19) rfl rfl rfl rfl ?_
    refine op_pickT rfl rfl rfl ?_
    refine op_move rfl rfl ?_
    refine op_notF (d := 27) rfl rfl rfl rfl ?_
    refine op_notF (d := 27) rfl rfl rfl rfl ?_
    refine op_notF (d := 27) rfl rfl rfl rfl ?_
    refine op_notF (d := 27) rfl rfl rfl rfl ?_
    refine op_notF (d := 27) rfl rfl rfl rfl ?_
    refine op_notF (d := 27) rfl rfl rfl rfl ?_
    refine op_notF (d := 27) rfl rfl rfl rfl ?_
    refine op_pickT rfl rfl rfl ?_
    refine op_move rfl rfl ?_
    refine op_notF (d := 36) rfl rfl rfl rfl ?_
    refine op_notF (d := 36) rfl rfl rfl rfl ?_
    refine op_notF (d := 36) rfl rfl rfl rfl ?_
    refine op_notF (d := 36) rfl rfl rfl rfl ?_
    refine op_notF (d := 36) rfl rfl rfl rfl ?_
    refine op_notF (d := 36) rfl rfl rfl rfl ?_
    refine op_notF (d := 36) rfl rfl rfl rfl ?_
    refine op_pickT rfl rfl rfl ?_
    refine endF ?_
    refine XF.thenN ?_
    refine condT rfl ?_
    refine seqF ?_
    refine regF ?_
    refine op_assign rfl rfl ?_
    refine endF ?_
    refine XF.thenN ?_
    refine retF ?_
    refine XF.thenR ?_
    refine XF.res (res1 Tryz.results22 rfl) ?_
    exact ⟨rbool (r_false hr (fun h => by have h1 := h.1; subst h1; simp at hg12)), hS.below⟩
  · have hg12 := hc; clear hc
    refine op_wantedF (d := 12) rfl rfl ?_
    refine op_field (o' := 1) fa_33_1 rfl rfl rfl ?_
    refine op_wantedF (d := 12) rfl rfl ?_
    refine op_load Tryz.isAgg3 rfl (cell_own (hS.at_ 1 rfl) rfl) rfl ?_
    refine op_wantedF (d := 12) rfl rfl ?_
    refine op_field (o' := 1) fa_33_1 rfl rfl rfl ?_
    refine op_wantedF (d := 12) rfl rfl ?_
    refine op_load Tryz.isAgg3 rfl (cell_own (hS.at_ 0 rfl) rfl) rfl ?_
    refine op_wantedF (d := 12) rfl rfl ?_
    refine op_neq rfl rfl rfl ?_
    refine op_pickF rfl rfl rfl ?_
    refine op_move rfl rfl ?_
    refine op_cases (d := 19) rfl (fun hc => ?_) (fun hc => ?_)
    · have hg19 := of_decide_eq_true hc; clear hc
      refine op_notF (d := 19) rfl rfl rfl rfl ?_
      refine op_notF (d := 19) rfl rfl rfl rfl ?_
      refine op_notF (d := 19) rfl rfl rfl rfl ?_
      refine op_notF (d := 19) rfl rfl rfl rfl ?_
      refine op_notF (d := 19) rfl rfl rfl rfl ?_
      refine op_notF (d := 19) rfl rfl rfl rfl ?_
      refine op_pickT rfl rfl rfl ?_
      refine op_move rfl rfl ?_
      refine op_notF (d := 27) rfl rfl rfl rfl ?_
      refine op_notF (d := 27) rfl rfl rfl rfl ?_
      refine op_notF (d := 27) rfl rfl rfl rfl ?_
      refine op_notF (d := 27) rfl rfl rfl rfl ?_
      refine op_notF (d := 27) rfl rfl rfl rfl ?_
      refine op_notF (d := 27) rfl rfl rfl rfl ?_
      refine op_notF (d := 27) rfl rfl rfl rfl ?_
      refine op_pickT rfl rfl rfl ?_
      refine op_move rfl rfl ?_
      refine op_notF (d := 36) rfl rfl rfl rfl ?_
      refine op_notF (d := 36) rfl rfl rfl rfl ?_
      refine op_notF (d := 36) rfl rfl rfl rfl ?_
      refine op_notF (d := 36) rfl rfl rfl rfl ?_
      refine op_notF (d := 36) rfl rfl rfl rfl ?_
      refine op_notF (d := 36) rfl rfl rfl rfl ?_
      refine op_notF (d := 36) rfl rfl rfl rfl ?_
      refine op_pickT rfl rfl rfl ?_
      refine endF ?_
      refine XF.thenN ?_
      refine condT rfl ?_
      refine seqF ?_
      refine regF ?_
      refine op_assign rfl rfl ?_
      refine endF ?_
      refine XF.thenN ?_
      refine retF ?_
      refine XF.thenR ?_
      refine XF.res (res1 Tryz.results22 rfl) ?_
      exact ⟨rbool (r_false hr (fun h => hg19 h.2.1)), hS.below⟩
    · have hg19 := of_decide_eq_false hc; clear hc
      refine op_wantedF (d := 19) rfl rfl ?_
      refine op_field (o' := 2) fa_33_2 rfl rfl rfl ?_
      refine op_wantedF (d := 19) rfl rfl ?_
      refine op_loadA (vs := [_, _]) Tryz.isAgg29 Tryz.sizeOf29 rfl (CellsAt.own (j := 2) (m := 2) (hS.at_ 1 rfl) rfl) rfl ?_
      refine op_wantedF (d := 19) rfl rfl ?_
      refine op_field (o' := 2) fa_33_2 rfl rfl rfl ?_
      refine op_wantedF (d := 19) rfl rfl ?_
      refine op_loadA (vs := [_, _]) Tryz.isAgg29 Tryz.sizeOf29 rfl (CellsAt.own (j := 2) (m := 2) (hS.at_ 0 rfl) rfl) rfl ?_
      refine op_wantedF (d := 19) rfl rfl ?_
      refine op_call (vs := [_, _]) hS goes_47 rfl (sameR_is _ _ _ _ _ _ _ _ _ (by omega) (by omega) (VRow.below hra hS.below) (VRow.below hrb hS.below) _ rfl _ _ hla hlb) rfl ?_
      rintro e W3 ⟨rfl, hb⟩
      refine ⟨_, rfl, hb, fun hS' => ?_⟩
      clear hS; have hS := hS'; clear hS' hb
      refine op_wantedF (d := 19) rfl rfl ?_
      refine op_not rfl rfl ?_
      refine op_pickF rfl rfl rfl ?_
      refine op_move rfl rfl ?_
      refine op_cases (d := 27) rfl (fun hc => ?_) (fun hc => ?_)
      · have hg27 := hc; clear hc
        refine op_notF (d := 27) rfl rfl rfl rfl ?_
        refine op_notF (d := 27) rfl rfl rfl rfl ?_
        refine op_notF (d := 27) rfl rfl rfl rfl ?_
        refine op_notF (d := 27) rfl rfl rfl rfl ?_
        refine op_notF (d := 27) rfl rfl rfl rfl ?_
        refine op_notF (d := 27) rfl rfl rfl rfl ?_
        refine op_notF (d := 27) rfl rfl rfl rfl ?_
        refine op_pickT rfl rfl rfl ?_
        refine op_move rfl rfl ?_
        refine op_notF (d := 36) rfl rfl rfl rfl ?_
        refine op_notF (d := 36) rfl rfl rfl rfl ?_
        refine op_notF (d := 36) rfl rfl rfl rfl ?_
        refine op_notF (d := 36) rfl rfl rfl rfl ?_
        refine op_notF (d := 36) rfl rfl rfl rfl ?_
        refine op_notF (d := 36) rfl rfl rfl rfl ?_
        refine op_notF (d := 36) rfl rfl rfl rfl ?_
        refine op_pickT rfl rfl rfl ?_
        refine endF ?_
        refine XF.thenN ?_
        refine condT rfl ?_
        refine seqF ?_
        refine regF ?_
        refine op_assign rfl rfl ?_
        refine endF ?_
        refine XF.thenN ?_
        refine retF ?_
        refine XF.thenR ?_
        refine XF.res (res1 Tryz.results22 rfl) ?_
        exact ⟨rbool (r_false hr (fun h => by obtain ⟨_, _, h3, h4, _⟩ := h; subst h3; subst h4; rw [same_self] at hg27; cases hg27)), hS.below⟩
      · have hg27 := hc; clear hc
        refine op_wantedF (d := 27) rfl rfl ?_
        refine op_field (o' := 4) fa_33_3 rfl rfl rfl ?_
        refine op_wantedF (d := 27) rfl rfl ?_
        refine op_load Tryz.isAgg30 rfl (cell_own (hS.at_ 1 rfl) rfl) rfl ?_
        refine op_wantedF (d := 27) rfl rfl ?_
        refine op_len Tryz.underlying30 rfl rfl ?_
        refine op_wantedF (d := 27) rfl rfl ?_
        refine op_field (o' := 4) fa_33_3 rfl rfl rfl ?_
        refine op_wantedF (d := 27) rfl rfl ?_
        refine op_load Tryz.isAgg30 rfl (cell_own (hS.at_ 0 rfl) rfl) rfl ?_
        refine op_wantedF (d := 27) rfl rfl ?_
        refine op_len Tryz.underlying30 rfl rfl ?_
        refine op_wantedF (d := 27) rfl rfl ?_
        refine op_neq rfl rfl rfl ?_
        refine op_pickF rfl rfl rfl ?_
        refine op_move rfl rfl ?_
        refine op_cases (d := 36) rfl (fun hc => ?_) (fun hc => ?_)
        · have hg36 := of_decide_eq_true hc; clear hc
          refine op_notF (d := 36) rfl rfl rfl rfl ?_
          refine op_notF (d := 36) rfl rfl rfl rfl ?_
          refine op_notF (d := 36) rfl rfl rfl rfl ?_
          refine op_notF (d := 36) rfl rfl rfl rfl ?_
          refine op_notF (d := 36) rfl rfl rfl rfl ?_
          refine op_notF (d := 36) rfl rfl rfl rfl ?_
          refine op_notF (d := 36) rfl rfl rfl rfl ?_
          refine op_pickT rfl rfl rfl ?_
          refine endF ?_
          refine XF.thenN ?_
          refine condT rfl ?_
          refine seqF ?_
          refine regF ?_
          refine op_assign rfl rfl ?_
          refine endF ?_
          refine XF.thenN ?_
          refine retF ?_
          refine XF.thenR ?_
          refine XF.res (res1 Tryz.results22 rfl) ?_
          exact ⟨rbool (r_false hr (fun h => by have h5 := h.2.2.2.2.1; subst h5; omega)), hS.below⟩
        · have hg36 := of_decide_eq_false hc; clear hc
          have hz : az = bz := by simpa using hg12
          have hcc : ac = bc := by omega
          have hff : ag = bg ∧ arows = brows := by simpa [sameB] using hg27
          have hcl : acl = bcl := by omega
          refine op_wantedF (d := 36) rfl rfl ?_
          refine op_field (o' := 5) fa_33_4 rfl rfl rfl ?_
          refine op_wantedF (d := 36) rfl rfl ?_
          refine op_load Tryz.isAgg31 rfl (cell_own (hS.at_ 1 rfl) rfl) rfl ?_
          refine op_wantedF (d := 36) rfl rfl ?_
          refine op_len Tryz.underlying31 rfl rfl ?_
          refine op_wantedF (d := 36) rfl rfl ?_
          refine op_field (o' := 5) fa_33_4 rfl rfl rfl ?_
          refine op_wantedF (d := 36) rfl rfl ?_
          refine op_load Tryz.isAgg31 rfl (cell_own (hS.at_ 0 rfl) rfl) rfl ?_
          refine op_wantedF (d := 36) rfl rfl ?_
          refine op_len Tryz.underlying31 rfl rfl ?_
          refine op_wantedF (d := 36) rfl rfl ?_
          refine op_neq rfl rfl rfl ?_
          refine op_pickF rfl rfl rfl ?_
          refine endF ?_
          refine XF.thenN ?_
          refine condF rfl (fun hc => ?_) (fun hc => ?_)
          · have hc44 := of_decide_eq_true hc; clear hc
            refine seqF ?_
            refine regF ?_
            refine op_assign rfl rfl ?_
            refine endF ?_
            refine XF.thenN ?_
            refine retF ?_
            refine XF.thenR ?_
            refine XF.res (res1 Tryz.results22 rfl) ?_
            exact ⟨rbool (r_false hr (fun h => by have h6 := h.2.2.2.2.2; rw [decide_eq_false (show ¬ ps.length = qs.length by omega)] at h6; cases h6)), hS.below⟩
          · have hc44 := of_decide_eq_false hc; clear hc
            refine skipF ?_
            refine XF.thenN ?_
            refine seqF ?_
            refine seqF ?_
            refine regF ?_
            refine op_assign rfl rfl ?_
            refine endF ?_
            refine XF.thenN ?_
            refine blockF ?_
            refine loopF (fun q l W => ∃ i : Nat, i ≤ acl ∧ q = acl - i ∧ l = [(2, .pointer (some ⟨B1, 0, none⟩)), (3, .pointer (some ⟨B2, 0, none⟩)), (5, .int .i64 (i : Int))] ∧ acells.take i = bcells.take i ∧ St w [(B2, [.bool bz, .int .i64 bc, .int .u64 (bg : Int), .slice bra brl brc, .slice bca bcl bcc, .slice bpa bpl bpc], 33), (B1, [.bool az, .int .i64 ac, .int .u64 (ag : Int), .slice ara arl arc, .slice aca acl acc, .slice apa apl apc], 33)] [] [] W) (acl - 0) ([(2, _), (3, _), (5, _)]) ⟨rfl, rfl, rfl, trivial⟩ (⟨0, Nat.zero_le _, rfl, rfl, rfl, hS.clear⟩) ?_
            clear hS
            rintro q l W ⟨i, hi, rfl, rfl, hall, hS⟩
            refine seqF ?_
            refine seqF ?_
            refine regF ?_
            refine op_move rfl rfl ?_
            refine op_field (o' := 4) fa_33_3 rfl rfl rfl ?_
            refine op_load Tryz.isAgg30 rfl (cell_own (hS.at_ 1 rfl) rfl) rfl ?_
            refine op_len Tryz.underlying30 rfl rfl ?_
            refine op_lss rfl rfl rfl ?_
            refine endF ?_
            refine XF.thenN ?_
            refine condF rfl (fun hc => ?_) (fun hc => ?_)
            · have hc49 := of_decide_eq_true hc; clear hc
              have hk : i < acl := by omega
              obtain ⟨b1, o1, x, hx1, hx2, _, x0, x1, x2⟩ := hca.at_ (k := i) (by omega)
              obtain ⟨b2, o2, y, hy1, hy2, _, y0, y1, y2⟩ := hcb.at_ (k := i) (by omega)
              subst hx1; subst hy1
              have k1 : CellsAt W b1 (o1 + i * 3) [.int .u64 (x.f : Int), .int .i64 x.k, .int .i64 x.v] := CellsAt.agree hS.agree (Nat.zero_le _) ⟨x0, x1, x2, trivial⟩
              have k2 : CellsAt W b2 (o2 + i * 3) [.int .u64 (y.f : Int), .int .i64 y.k, .int .i64 y.v] := CellsAt.agree hS.agree (Nat.zero_le _) ⟨y0, y1, y2, trivial⟩
              refine skipF ?_
              refine XF.thenN ?_
              refine seqF ?_
              refine blockF ?_
              refine seqF ?_
              refine regB (m := 11) followsM hS (by kernel_rfl) (by kernel_rfl) rfl ?_
              refine bl_cons 1 rfl (isV _) (stab_isV _) (rgV (li := [(2, _)]) rfl (w_free rfl) ⟨g_fr (by kernel_rfl) rfl, trivial⟩ (fun w hw => rn_field (o' := 4) fa_33_3 rfl rfl) (at_top rfl)) ?_
              refine bl_cons 2 rfl (isV _) (stab_isV _) (rgV (li := [(52, _)]) rfl (w_free rfl) ⟨g_dep 0 (by kernel_rfl) (at_dep rfl rfl rfl), trivial⟩ (fun w hw => rn_load Tryz.isAgg30 rfl ((below_agree hw 0).cell (Nat.zero_le _) (cell_own (hS.at_ 1 rfl) rfl))) (at_top rfl)) ?_
              refine bl_cons 3 rfl (isV _) (stab_isV _) (rgV (li := [(5, _)]) rfl (w_free rfl) ⟨g_fr (by kernel_rfl) rfl, trivial⟩ (fun w hw => rn_move rfl) (at_top rfl)) ?_
              refine bl_cons 4 rfl (isV _) (stab_isV _) (rgV (li := [(53, _), (54, _)]) rfl (w_free rfl) ⟨g_dep 1 (by kernel_rfl) (at_dep rfl rfl rfl), g_dep 2 (by kernel_rfl) (at_dep rfl rfl rfl), trivial⟩ (fun w hw => rn_indexA  Tryz.underlying30 Tryz.sizeOf73 rfl rfl rfl (by omega) rfl) (at_top rfl)) ?_
              refine bl_cons 5 rfl (isV _) (stab_isV _) (rgV (li := [(55, _)]) rfl (w_free rfl) ⟨g_dep 3 (by kernel_rfl) (at_dep rfl rfl rfl), trivial⟩ (fun w hw => rn_loadA (vs := [_, _, _]) Tryz.isAgg73 Tryz.sizeOf73 rfl (CellsAt.agree (below_agree hw 0) (Nat.zero_le _) (by assumption))) (at_top rfl)) ?_
              refine bl_cons 6 rfl (isV _) (stab_isV _) (rgV (li := [(3, _)]) rfl (w_free rfl) ⟨g_fr (by kernel_rfl) rfl, trivial⟩ (fun w hw => rn_field (o' := 4) fa_33_3 rfl rfl) (at_top rfl)) ?_
              refine bl_cons 7 rfl (isV _) (stab_isV _) (rgV (li := [(57, _)]) rfl (w_free rfl) ⟨g_dep 5 (by kernel_rfl) (at_dep rfl rfl rfl), trivial⟩ (fun w hw => rn_load Tryz.isAgg30 rfl ((below_agree hw 0).cell (Nat.zero_le _) (cell_own (hS.at_ 0 rfl) rfl))) (at_top rfl)) ?_
              refine bl_cons 8 rfl (isV _) (stab_isV _) (rgV (li := [(5, _)]) rfl (w_free rfl) ⟨g_fr (by kernel_rfl) rfl, trivial⟩ (fun w hw => rn_move rfl) (at_top rfl)) ?_
              refine bl_cons 9 rfl (isV _) (stab_isV _) (rgV (li := [(58, _), (59, _)]) rfl (w_free rfl) ⟨g_dep 6 (by kernel_rfl) (at_dep rfl rfl rfl), g_dep 7 (by kernel_rfl) (at_dep rfl rfl rfl), trivial⟩ (fun w hw => rn_indexA  Tryz.underlying30 Tryz.sizeOf73 rfl rfl rfl (by omega) rfl) (at_top rfl)) ?_
              refine bl_cons 10 rfl (isV _) (stab_isV _) (rgV (li := [(60, _)]) rfl (w_free rfl) ⟨g_dep 8 (by kernel_rfl) (at_dep rfl rfl rfl), trivial⟩ (fun w hw => rn_loadA (vs := [_, _, _]) Tryz.isAgg73 Tryz.sizeOf73 rfl (CellsAt.agree (below_agree hw 0) (Nat.zero_le _) (by assumption))) (at_top rfl)) ?_
              refine bl_cons 11 rfl (isV _) (stab_isV _) (rgV (li := [(56, _), (61, _)]) rfl (w_free rfl) ⟨g_dep 4 (by kernel_rfl) (at_dep rfl rfl rfl), g_dep 9 (by kernel_rfl) (at_dep rfl rfl rfl), trivial⟩ (fun w hw => rn_binG rfl rfl (run_eqGuard_agg _ _ _ _ _ _ _ (by kernel_rfl)) (neq_is x y _ rfl w)) (at_top rfl)) ?_
              refine bl_nil ?_
              intro W4 hbR hS'
              clear hS; have hS := hS'; clear hS'
              refine fin_v ?_
              refine fin_v ?_
              refine fin_v ?_
              refine fin_v ?_
              refine fin_v ?_
              refine fin_v ?_
              refine fin_v ?_
              refine fin_v ?_
              refine fin_v ?_
              refine fin_v ?_
              refine fin_v ?_
              refine fin_nil ?_
              refine XF.thenN ?_
              refine condF rfl (fun hc => ?_) (fun hc => ?_)
              · have hc62 := hc; clear hc
                refine seqF ?_
                refine regF ?_
                refine op_assign rfl rfl ?_
                refine endF ?_
                refine XF.thenN ?_
                refine retF ?_
                refine XF.blkR ?_
                refine XF.thenR ?_
                refine XF.thenR ?_
                refine XF.blkR ?_
                refine XF.thenR ?_
                refine XF.res (res1 Tryz.results22 rfl) ?_
                exact ⟨rbool (r_false hr (fun h => by have h5 := h.2.2.2.2.1; subst h5; rw [hx2] at hy2; cases hy2; simp [sameCl] at hc62)), hS.below⟩
              · have hc62 := hc; clear hc
                have hxy : x = y := by
                  obtain ⟨xf, xk, xv⟩ := x
                  obtain ⟨yf, yk, yv⟩ := y
                  simp [sameCl] at hc62
                  simp [hc62]
                subst hxy
                refine skipF ?_
                refine XF.blkN ?_
                refine XF.thenN ?_
                refine regF ?_
                refine op_move rfl rfl ?_
                refine op_add rfl rfl (IntWalk.i64_in _ (by omega)) rfl ?_
                refine op_assign rfl rfl ?_
                refine endF ?_
                exact XF.round (acl - (i + 1)) [(2, _), (3, _), (5, _)] (by omega) ⟨rfl, rfl, rfl, trivial⟩ ⟨i + 1, by omega, rfl, rfl, by rw [List.take_add_one, List.take_add_one, hx2, hy2, hall], hS.clear⟩
            · have hc49 := of_decide_eq_false hc; clear hc
              have hce : acells = bcells := by
                rw [List.take_of_length_le (by omega), List.take_of_length_le (by omega)] at hall
                exact hall
              refine exitF ?_
              refine XF.thenX ?_
              refine XF.thenX ?_
              refine XF.blkX ?_
              refine XF.thenN ?_
              refine seqF ?_
              refine seqF ?_
              refine regF ?_
              refine op_assign rfl rfl ?_
              refine endF ?_
              refine XF.thenN ?_
              refine blockF ?_
              refine loopF (fun q l W => ∃ i : Nat, i ≤ apl ∧ q = apl - i ∧ l = [(2, .pointer (some ⟨B1, 0, none⟩)), (3, .pointer (some ⟨B2, 0, none⟩)), (6, .int .i64 (i : Int))] ∧ ((ps.zip qs).take i).all (fun x => eqW k x.1 x.2) = true ∧ St w [(B2, [.bool bz, .int .i64 bc, .int .u64 (bg : Int), .slice bra brl brc, .slice bca bcl bcc, .slice bpa bpl bpc], 33), (B1, [.bool az, .int .i64 ac, .int .u64 (ag : Int), .slice ara arl arc, .slice aca acl acc, .slice apa apl apc], 33)] [] [] W) (apl - 0) ([(2, _), (3, _), (6, _)]) ⟨rfl, rfl, rfl, trivial⟩ (⟨0, Nat.zero_le _, rfl, rfl, rfl, hS.clear⟩) ?_
              clear hS
              rintro q l W ⟨i, hi, rfl, rfl, hall2, hS⟩
              refine seqF ?_
              refine seqF ?_
              refine regF ?_
              refine op_move rfl rfl ?_
              refine op_field (o' := 5) fa_33_4 rfl rfl rfl ?_
              refine op_load Tryz.isAgg31 rfl (cell_own (hS.at_ 1 rfl) rfl) rfl ?_
              refine op_len Tryz.underlying31 rfl rfl ?_
              refine op_lss rfl rfl rfl ?_
              refine endF ?_
              refine XF.thenN ?_
              refine condF rfl (fun hc => ?_) (fun hc => ?_)
              · have hc67 := of_decide_eq_true hc; clear hc
                have hk : i < apl := by omega
                obtain ⟨p, hp⟩ : ∃ p, ps[i]? = some p := ⟨ps[i]'(by omega), List.getElem?_eq_getElem _⟩
                obtain ⟨q, hq⟩ : ∃ q, qs[i]? = some q := ⟨qs[i]'(by omega), List.getElem?_eq_getElem _⟩
                have hzp : (ps.zip qs)[i]? = some (p, q) := List.getElem?_zip_eq_some.2 ⟨hp, hq⟩
                obtain ⟨b, off, rfl, hb, h6⟩ := hrow.at_ hp
                obtain ⟨b2, off2, rfl, hb2, h7⟩ := hrow2.at_ hq
                have k1 := CellsAt.agree hS.agree (Nat.zero_le _) h6.cells
                have k2 := CellsAt.agree hS.agree (Nat.zero_le _) h7.cells
                refine skipF ?_
                refine XF.thenN ?_
                refine seqF ?_
                refine blockF ?_
                refine seqF ?_
                refine regB (m := 12) followsM hS (by kernel_rfl) (by kernel_rfl) rfl ?_
                refine bl_cons 1 rfl (isV _) (stab_isV _) (rgV (li := [(2, _)]) rfl (w_free rfl) ⟨g_fr (by kernel_rfl) rfl, trivial⟩ (fun w hw => rn_field (o' := 5) fa_33_4 rfl rfl) (at_top rfl)) ?_
                refine bl_cons 2 rfl (isV _) (stab_isV _) (rgV (li := [(70, _)]) rfl (w_free rfl) ⟨g_dep 0 (by kernel_rfl) (at_dep rfl rfl rfl), trivial⟩ (fun w hw => rn_load Tryz.isAgg31 rfl ((below_agree hw 0).cell (Nat.zero_le _) (cell_own (hS.at_ 1 rfl) rfl))) (at_top rfl)) ?_
                refine bl_cons 3 rfl (isV _) (stab_isV _) (rgV (li := [(6, _)]) rfl (w_free rfl) ⟨g_fr (by kernel_rfl) rfl, trivial⟩ (fun w hw => rn_move rfl) (at_top rfl)) ?_
                refine bl_cons 4 rfl (isV _) (stab_isV _) (rgV (li := [(71, _), (72, _)]) rfl (w_free rfl) ⟨g_dep 1 (by kernel_rfl) (at_dep rfl rfl rfl), g_dep 2 (by kernel_rfl) (at_dep rfl rfl rfl), trivial⟩ (fun w hw => rn_indexA  Tryz.underlying31 Tryz.sizeOf33 rfl rfl rfl (by omega) rfl) (at_top rfl)) ?_
                refine bl_cons 5 rfl (isV _) (stab_isV _) (rgV (li := [(73, _)]) rfl (w_free rfl) ⟨g_dep 3 (by kernel_rfl) (at_dep rfl rfl rfl), trivial⟩ (fun w hw => rn_loadA (vs := [_, _, _, _, _, _]) Tryz.isAgg33 Tryz.sizeOf33 rfl (CellsAt.agree (below_agree hw 0) (Nat.zero_le _) (by assumption))) (at_top rfl)) ?_
                refine bl_cons 6 rfl (isV _) (stab_isV _) (rgV (li := [(3, _)]) rfl (w_free rfl) ⟨g_fr (by kernel_rfl) rfl, trivial⟩ (fun w hw => rn_field (o' := 5) fa_33_4 rfl rfl) (at_top rfl)) ?_
                refine bl_cons 7 rfl (isV _) (stab_isV _) (rgV (li := [(75, _)]) rfl (w_free rfl) ⟨g_dep 5 (by kernel_rfl) (at_dep rfl rfl rfl), trivial⟩ (fun w hw => rn_load Tryz.isAgg31 rfl ((below_agree hw 0).cell (Nat.zero_le _) (cell_own (hS.at_ 0 rfl) rfl))) (at_top rfl)) ?_
                refine bl_cons 8 rfl (isV _) (stab_isV _) (rgV (li := [(6, _)]) rfl (w_free rfl) ⟨g_fr (by kernel_rfl) rfl, trivial⟩ (fun w hw => rn_move rfl) (at_top rfl)) ?_
                refine bl_cons 9 rfl (isV _) (stab_isV _) (rgV (li := [(76, _), (77, _)]) rfl (w_free rfl) ⟨g_dep 6 (by kernel_rfl) (at_dep rfl rfl rfl), g_dep 7 (by kernel_rfl) (at_dep rfl rfl rfl), trivial⟩ (fun w hw => rn_indexA  Tryz.underlying31 Tryz.sizeOf33 rfl rfl rfl (by omega) rfl) (at_top rfl)) ?_
                refine bl_cons 10 rfl (isV _) (stab_isV _) (rgV (li := [(78, _)]) rfl (w_free rfl) ⟨g_dep 8 (by kernel_rfl) (at_dep rfl rfl rfl), trivial⟩ (fun w hw => rn_loadA (vs := [_, _, _, _, _, _]) Tryz.isAgg33 Tryz.sizeOf33 rfl (CellsAt.agree (below_agree hw 0) (Nat.zero_le _) (by assumption))) (at_top rfl)) ?_
                refine bl_cons 11 rfl (isV (.bool (eqW k p q))) (stab_isV _) (rg_call [isV _, isV _] rfl goes_22 (w_free rfl) ⟨p_tmp (g_dep 4 (by kernel_rfl) (at_dep rfl rfl rfl)), p_tmp (g_dep 9 (by kernel_rfl) (at_dep rfl rfl rfl)), trivial⟩ (fun vs w' hb hh => by have e := holds_isV (us := [_, _]) hh; subst e; exact (ih p q _ (WIn.below (hS.below.trans (hb.mono hS.below.size)) (hin p (List.mem_of_getElem? hp))) (WIn.below (hS.below.trans (hb.mono hS.below.size)) (hin2 q (List.mem_of_getElem? hq))) (hsm p (List.mem_of_getElem? hp)) (hsm2 q (List.mem_of_getElem? hq))).mono fun e w2 h => ⟨_, h.1, rfl, h.2⟩) (at_top rfl)) ?_
                refine bl_cons 12 rfl (isV _) (stab_isV _) (rgV (li := [(80, _)]) rfl (w_free rfl) ⟨g_dep 10 (by kernel_rfl) (at_dep rfl rfl rfl), trivial⟩ (fun w hw => rn_not rfl) (at_top rfl)) ?_
                refine bl_nil ?_
                intro W5 hbR hS'
                clear hS; have hS := hS'; clear hS'
                refine fin_v ?_
                refine fin_v ?_
                refine fin_v ?_
                refine fin_v ?_
                refine fin_v ?_
                refine fin_v ?_
                refine fin_v ?_
                refine fin_v ?_
                refine fin_v ?_
                refine fin_v ?_
                refine fin_v ?_
                refine fin_v ?_
                refine fin_nil ?_
                refine XF.thenN ?_
                refine condF rfl (fun hc => ?_) (fun hc => ?_)
                · have hc81 := hc; clear hc
                  refine seqF ?_
                  refine regF ?_
                  refine op_assign rfl rfl ?_
                  refine endF ?_
                  refine XF.thenN ?_
                  refine retF ?_
                  refine XF.blkR ?_
                  refine XF.thenR ?_
                  refine XF.thenR ?_
                  refine XF.blkR ?_
                  refine XF.thenR ?_
                  refine XF.res (res1 Tryz.results22 rfl) ?_
                  exact ⟨rbool (r_false hr (fun h => by have h6 := h.2.2.2.2.2; rw [all_false_at hzp (by simpa using hc81)] at h6; simp at h6)), hS.below⟩
                · have hc81 := hc; clear hc
                  refine skipF ?_
                  refine XF.blkN ?_
                  refine XF.thenN ?_
                  refine regF ?_
                  refine op_move rfl rfl ?_
                  refine op_add rfl rfl (IntWalk.i64_in _ (by omega)) rfl ?_
                  refine op_assign rfl rfl ?_
                  refine endF ?_
                  exact XF.round (apl - (i + 1)) [(2, _), (3, _), (6, _)] (by omega) ⟨rfl, rfl, rfl, trivial⟩ ⟨i + 1, by omega, rfl, rfl, all_take_at hzp hall2 (by simpa using hc81), hS.clear⟩
              · have hc67 := of_decide_eq_false hc; clear hc
                refine exitF ?_
                refine XF.thenX ?_
                refine XF.thenX ?_
                refine XF.blkX ?_
                refine XF.thenN ?_
                refine seqF ?_
                refine regF ?_
                refine op_assign rfl rfl ?_
                refine endF ?_
                refine XF.thenN ?_
                refine retF ?_
                refine XF.res (res1 Tryz.results22 rfl) ?_
                rw [List.take_of_length_le (by rw [List.length_zip]; omega)] at hall2
                exact ⟨rbool (r_true hr ⟨hz, hcc, hff.1, hff.2, hce, by rw [hall2, decide_eq_true (show ps.length = qs.length by omega)]; rfl⟩), hS.below⟩

set_option maxRecDepth 100000 in
set_option maxHeartbeats 4000000 in
theorem equalW_is (k j : Nat) (apa bpa : Option Addr) (apl bpl apc bpc : Nat) (ps qs : List WV) (w : World) (hps : ps.length = apl) (hqs : qs.length = bpl) (hrow : PRow w apa ps) (hrow2 : PRow w bpa qs) (hin : ∀ p ∈ ps, WIn w k p) (hin2 : ∀ p ∈ qs, WIn w k p) (hpl : apl ≤ 9223372036854775807) (hsm : ∀ p ∈ ps, smN j p = true) (hsm2 : ∀ p ∈ qs, smN j p = true) (ih : ∀ (p q : WV) (W : World), WIn W k p → WIn W k q → smN j p = true → smN j q = true → Calls Tryz.prog 23 #[p.f.val, q.f.val] W fun e w' => e = .returned (.bool (eqW k p q)) ∧ Below W.heap.size W w') :
    Calls Tryz.prog 50 #[.slice apa apl apc, .slice bpa bpl bpc, .func (.func 23) #[] #[]] w (fun e w' => e = .returned (.bool (decide (ps.length = qs.length) && (ps.zip qs).all fun x => eqW k x.1 x.2)) ∧ Below w.heap.size w w') := by
  refine enterF (args := [.slice apa apl apc, .slice bpa bpl bpc, .func (.func 23) #[] #[]]) Tryz.func50 rfl Tryz.ntmps50 rfl ?_
  have hS := St.start w
  refine seqF ?_
  refine regF ?_
  refine op_assign rfl rfl ?_
  refine endF ?_
  refine XF.thenN ?_
  refine seqF ?_
  refine seqF ?_
  refine regF ?_
  refine op_move rfl rfl ?_
  refine op_len Tryz.underlying31 rfl rfl ?_
  refine op_move rfl rfl ?_
  refine op_len Tryz.underlying31 rfl rfl ?_
  refine op_neq rfl rfl rfl ?_
  refine endF ?_
  refine XF.thenN ?_
  refine condF rfl (fun hc => ?_) (fun hc => ?_)
  · have hc14 := of_decide_eq_true hc; clear hc
    refine seqF ?_
    refine regF ?_
    refine op_assign rfl rfl ?_
    refine endF ?_
    refine XF.thenN ?_
    refine retF ?_
    refine XF.thenR ?_
    refine XF.res (res1 Tryz.results50 rfl) ?_
    exact ⟨rbool (by rw [decide_eq_false (show ¬ ps.length = qs.length by omega)]; rfl), hS.below⟩
  · have hc14 := of_decide_eq_false hc; clear hc
    refine skipF ?_
    refine XF.thenN ?_
    refine seqF ?_
    refine seqF ?_
    refine regF ?_
    refine op_move rfl rfl ?_
    refine op_len Tryz.underlying31 rfl rfl ?_
    refine op_move rfl rfl ?_
    refine endF ?_
    refine XF.thenN ?_
    refine blockF ?_
    refine loopF (fun q l W => ∃ i : Nat, i ≤ apl ∧ q = apl - i ∧ l = [(1, .slice bpa bpl bpc), (2, .func (.func 23) #[] #[]), (15, .slice apa apl apc), (16, .int .i64 (apl : Int)), (17, .int .i64 (i : Int))] ∧ ((ps.zip qs).take i).all (fun x => eqW k x.1 x.2) = true ∧ St w [] [] [] W) (apl - 0) ([(1, _), (2, _), (15, _), (16, _), (17, _)]) ⟨rfl, rfl, rfl, rfl, rfl, trivial⟩ (⟨0, Nat.zero_le _, rfl, rfl, rfl, hS.clear⟩) ?_
    clear hS
    rintro q l W ⟨i, hi, rfl, rfl, hall, hS⟩
    refine seqF ?_
    refine regF ?_
    refine op_lss rfl rfl rfl ?_
    refine endF ?_
    refine XF.thenN ?_
    refine seqF ?_
    refine condF rfl (fun hc => ?_) (fun hc => ?_)
    · have hc18 := of_decide_eq_true hc; clear hc
      have hk : i < apl := by omega
      obtain ⟨p, hp⟩ : ∃ p, ps[i]? = some p := ⟨ps[i]'(by omega), List.getElem?_eq_getElem _⟩
      obtain ⟨q, hq⟩ : ∃ q, qs[i]? = some q := ⟨qs[i]'(by omega), List.getElem?_eq_getElem _⟩
      have hzp : (ps.zip qs)[i]? = some (p, q) := List.getElem?_zip_eq_some.2 ⟨hp, hq⟩
      obtain ⟨b, off, rfl, hb, h6⟩ := hrow.at_ hp
      obtain ⟨b2, off2, rfl, hb2, h7⟩ := hrow2.at_ hq
      have k1 := CellsAt.agree hS.agree (Nat.zero_le _) h6.cells
      have k2 := CellsAt.agree hS.agree (Nat.zero_le _) h7.cells
      refine skipF ?_
      refine XF.thenN ?_
      refine seqF ?_
      refine blockF ?_
      refine seqF ?_
      refine regF ?_
      refine op_move rfl rfl ?_
      refine op_indexA  Tryz.underlying31 Tryz.sizeOf33 rfl rfl rfl (by omega) rfl rfl ?_
      refine op_loadA (vs := [_, _, _, _, _, _]) Tryz.isAgg33 Tryz.sizeOf33 rfl (by assumption) rfl ?_
      refine op_alloc (cs := [_, _, _, _, _, _]) hS Tryz.zeroValue33 rfl rfl ?_
      clear hS; intro B1 W1 hS
      refine op_assign rfl rfl ?_
      refine op_storeA (i := 0) (vs := [_, _, _, _, _, _]) (cs' := [_, _, _, _, _, _]) (O' := [_]) hS Tryz.sizeOf33 rfl rfl rfl rfl rfl rfl rfl ?_
      clear hS; intro W2 hS
      refine endF ?_
      refine XF.thenN ?_
      refine seqF ?_
      clear k2
      have k2 := CellsAt.agree hS.agree (Nat.zero_le _) h7.cells
      refine regF ?_
      refine op_move rfl rfl ?_
      refine op_move rfl rfl ?_
      refine op_indexA  Tryz.underlying31 Tryz.sizeOf33 rfl rfl rfl (by omega) rfl rfl ?_
      refine op_loadA (vs := [_, _, _, _, _, _]) Tryz.isAgg33 Tryz.sizeOf33 rfl (by assumption) rfl ?_
      refine op_alloc (cs := [_, _, _, _, _, _]) hS Tryz.zeroValue33 rfl rfl ?_
      clear hS; intro B3 W3 hS
      refine op_storeA (i := 0) (vs := [_, _, _, _, _, _]) (cs' := [_, _, _, _, _, _]) (O' := [_, _]) hS Tryz.sizeOf33 rfl rfl rfl rfl rfl rfl rfl ?_
      clear hS; intro W4 hS
      refine endF ?_
      refine XF.thenN ?_
      refine seqF ?_
      refine regF ?_
      refine op_move rfl rfl ?_
      refine op_loadA (vs := [_, _, _, _, _, _]) Tryz.isAgg33 Tryz.sizeOf33 rfl (CellsAt.own (j := 0) (m := 6) (hS.at_ 1 rfl) rfl) rfl ?_
      refine op_loadA (vs := [_, _, _, _, _, _]) Tryz.isAgg33 Tryz.sizeOf33 rfl (CellsAt.own (j := 0) (m := 6) (hS.at_ 0 rfl) rfl) rfl ?_
      refine op_callV (vs := [_, _]) hS rfl goes_23 rfl (ih p q _ (WIn.below hS.below (hin p (List.mem_of_getElem? hp))) (WIn.below hS.below (hin2 q (List.mem_of_getElem? hq))) (hsm p (List.mem_of_getElem? hp)) (hsm2 q (List.mem_of_getElem? hq))) rfl ?_
      rintro e W5 ⟨rfl, hb⟩
      refine ⟨_, rfl, hb, fun hS' => ?_⟩
      clear hS; have hS := hS'; clear hS' hb
      refine op_not rfl rfl ?_
      refine endF ?_
      refine XF.thenN ?_
      refine condF rfl (fun hc => ?_) (fun hc => ?_)
      · have hc30 := hc; clear hc
        refine seqF ?_
        refine regF ?_
        refine op_assign rfl rfl ?_
        refine endF ?_
        refine XF.thenN ?_
        refine retF ?_
        refine XF.blkR ?_
        refine XF.thenR ?_
        refine XF.thenR ?_
        refine XF.blkR ?_
        refine XF.thenR ?_
        refine XF.res (res1 Tryz.results50 rfl) ?_
        exact ⟨rbool (by rw [all_false_at hzp (by simpa using hc30)]; simp), hS.below⟩
      · have hc30 := hc; clear hc
        refine skipF ?_
        refine XF.blkN ?_
        refine XF.thenN ?_
        refine regF ?_
        refine op_add rfl rfl (IntWalk.i64_in _ (by omega)) rfl ?_
        refine op_move rfl rfl ?_
        refine endF ?_
        exact XF.round (apl - (i + 1)) [(1, _), (2, _), (15, _), (16, _), (17, _)] (by omega) ⟨rfl, rfl, rfl, rfl, rfl, trivial⟩ ⟨i + 1, by omega, rfl, rfl, all_take_at hzp hall (by simpa using hc30), hS.tail.tail.clear⟩
    · have hc18 := of_decide_eq_false hc; clear hc
      refine exitF ?_
      refine XF.thenX ?_
      refine XF.thenX ?_
      refine XF.blkX ?_
      refine XF.thenN ?_
      refine seqF ?_
      refine regF ?_
      refine op_assign rfl rfl ?_
      refine endF ?_
      refine XF.thenN ?_
      refine retF ?_
      refine XF.res (res1 Tryz.results50 rfl) ?_
      rw [List.take_of_length_le (by rw [List.length_zip]; omega)] at hall
      exact ⟨rbool (by rw [hall, decide_eq_true (show ps.length = qs.length by omega)]; rfl), hS.below⟩

set_option maxRecDepth 100000 in
set_option maxHeartbeats 4000000 in
theorem cellsSameA_is (a b : Option Addr) (capa capb : Nat) (xs ys : List Cl) (w : World) (hm : xs.length ≤ maxLen) (hmb : ys.length ≤ maxLen) (hra : CRow w a xs) (hrb : CRow w b ys) (la lb : Nat) (hla : xs.length = la) (hlb : ys.length = lb) :
    Calls Tryz.prog 49 #[.slice a la capa, .slice b lb capb] w (fun e w' => e = .returned (.bool (sameC xs ys)) ∧ Below w.heap.size w w') := by
  refine enterF (args := [.slice a la capa, .slice b lb capb]) Tryz.func49 rfl Tryz.ntmps49 rfl ?_
  have hS := St.start w
  refine seqF ?_
  refine regF ?_
  refine op_assign rfl rfl ?_
  refine endF ?_
  refine XF.thenN ?_
  refine seqF ?_
  refine regF ?_
  refine op_move rfl rfl ?_
  refine op_move rfl rfl ?_
  refine op_call (vs := [_, _]) hS goes_76 rfl (by subst hla; subst hlb; exact equal_any a b capa capb xs ys _ hm hmb (CRow.below hra hS.below) (CRow.below hrb hS.below) _ rfl) rfl ?_
  rintro e W1 ⟨rfl, hb⟩
  refine ⟨_, rfl, hb, fun hS' => ?_⟩
  clear hS; have hS := hS'; clear hS' hb
  refine op_assign rfl rfl ?_
  refine endF ?_
  refine XF.thenN ?_
  refine retF ?_
  refine XF.res (res1 Tryz.results49 rfl) ?_
  exact ⟨rfl, hS.below⟩

set_option maxRecDepth 100000 in
set_option maxHeartbeats 4000000 in
theorem sameWA_step (k j : Nat) (az : Bool) (ac : Int) (ag : Nat) (ara : Option Addr) (arl arc : Nat) (arows : List Nat) (aca : Option Addr) (acl acc : Nat) (acells : List Cl) (apa : Option Addr) (apl apc : Nat)(bz : Bool) (bc : Int) (bg : Nat) (bra : Option Addr) (brl brc : Nat) (brows : List Nat) (bca : Option Addr) (bcl bcc : Nat) (bcells : List Cl) (bpa : Option Addr) (bpl bpc : Nat)(ps qs : List WV) (w : World) (hra : VRow w ara (u64s arows)) (hla : arows.length = arl) (hma : arl ≤ 100) (hca : CRow w aca acells) (hka : acells.length = acl) (hna : acl ≤ 100)(hrb : VRow w bra (u64s brows)) (hlb : brows.length = brl) (hmb : brl ≤ 100) (hcb : CRow w bca bcells) (hkb : bcells.length = bcl) (hnb : bcl ≤ 100)(hps : ps.length = apl) (hqs : qs.length = bpl) (hrow : PRow w apa ps) (hrow2 : PRow w bpa qs) (hin : ∀ p ∈ ps, WIn w k p) (hin2 : ∀ p ∈ qs, WIn w k p) (hpl : apl ≤ 9223372036854775807) (hsm : ∀ p ∈ ps, smN j p = true) (hsm2 : ∀ p ∈ qs, smN j p = true) (ih : ∀ (p q : WV) (W : World), WIn W k p → WIn W k q → smN j p = true → smN j q = true → Calls Tryz.prog 23 #[p.f.val, q.f.val] W fun e w' => e = .returned (.bool (eqW k p q)) ∧ Below W.heap.size W w') (r : Bool) (hr : r = true ↔ (az = bz ∧ ac = bc ∧ ag = bg ∧ arows = brows ∧ acells = bcells ∧ (decide (ps.length = qs.length) && (ps.zip qs).all fun x => eqW k x.1 x.2) = true)) :
    Calls Tryz.prog 23 #[.agg #[.bool az, .int .i64 ac, .int .u64 (ag : Int), .slice ara arl arc, .slice aca acl acc, .slice apa apl apc], .agg #[.bool bz, .int .i64 bc, .int .u64 (bg : Int), .slice bra brl brc, .slice bca bcl bcc, .slice bpa bpl bpc]] w (fun e w' => e = .returned (.bool r) ∧ Below w.heap.size w w') := by
  refine enterF (args := [.agg #[.bool az, .int .i64 ac, .int .u64 (ag : Int), .slice ara arl arc, .slice aca acl acc, .slice apa apl apc], .agg #[.bool bz, .int .i64 bc, .int .u64 (bg : Int), .slice bra brl brc, .slice bca bcl bcc, .slice bpa bpl bpc]]) Tryz.func23 rfl Tryz.ntmps23 rfl ?_
  have hS := St.start w
  refine seqF ?_
  refine regF ?_
  refine op_box (cs := [_, _, _, _, _, _]) hS rfl rfl rfl ?_
  clear hS; intro B1 W1 hS
  refine op_box (cs := [_, _, _, _, _, _]) hS rfl rfl rfl ?_
  clear hS; intro B2 W2 hS
  refine op_assign rfl rfl ?_
  refine endF ?_
  refine XF.thenN ?_
  refine seqF ?_
  refine regF ?_
  refine op_field (o' := 0) fa_33_0 rfl rfl rfl ?_
  refine op_load Tryz.isAgg4 rfl (cell_own (hS.at_ 1 rfl) rfl) rfl ?_
  refine op_field (o' := 0) fa_33_0 rfl rfl rfl ?_
  refine op_load Tryz.isAgg4 rfl (cell_own (hS.at_ 0 rfl) rfl) rfl ?_
  refine op_eqlB Tryz.underlying4 rfl rfl rfl ?_
  refine op_move rfl rfl ?_
  refine op_cases (d := 10) rfl (fun hc => ?_) (fun hc => ?_)
  · have hg10 := hc; clear hc
    refine op_wantedF (d := 10) rfl rfl ?_
    refine op_field (o' := 1) fa_33_1 rfl rfl rfl ?_
    refine op_wantedF (d := 10) rfl rfl ?_
    refine op_load Tryz.isAgg3 rfl (cell_own (hS.at_ 1 rfl) rfl) rfl ?_
    refine op_wantedF (d := 10) rfl rfl ?_
    refine op_field (o' := 1) fa_33_1 rfl rfl rfl ?_
    refine op_wantedF (d := 10) rfl rfl ?_
    refine op_load Tryz.isAgg3 rfl (cell_own (hS.at_ 0 rfl) rfl) rfl ?_
    refine op_wantedF (d := 10) rfl rfl ?_
    refine op_eql rfl rfl rfl ?_
    refine op_pickT rfl rfl rfl ?_
    refine op_move rfl rfl ?_
    refine op_cases (d := 17) rfl (fun hc => ?_) (fun hc => ?_)
    · have hg17 := of_decide_eq_true hc; clear hc
      refine op_wantedF (d := 17) rfl rfl ?_
      refine op_field (o' := 2) fa_33_2 rfl rfl rfl ?_
      refine op_wantedF (d := 17) rfl rfl ?_
      refine op_loadA (vs := [_, _]) Tryz.isAgg29 Tryz.sizeOf29 rfl (CellsAt.own (j := 2) (m := 2) (hS.at_ 1 rfl) rfl) rfl ?_
      refine op_wantedF (d := 17) rfl rfl ?_
      refine op_field (o' := 2) fa_33_2 rfl rfl rfl ?_
      refine op_wantedF (d := 17) rfl rfl ?_
      refine op_loadA (vs := [_, _]) Tryz.isAgg29 Tryz.sizeOf29 rfl (CellsAt.own (j := 2) (m := 2) (hS.at_ 0 rfl) rfl) rfl ?_
      refine op_wantedF (d := 17) rfl rfl ?_
      refine op_call (vs := [_, _]) hS goes_48 rfl (sameA_is _ _ _ _ _ _ _ _ _ (by omega) (by omega) (VRow.below hra hS.below) (VRow.below hrb hS.below) _ rfl _ _ hla hlb) rfl ?_
      rintro e W3 ⟨rfl, hb⟩
      refine ⟨_, rfl, hb, fun hS' => ?_⟩
      clear hS; have hS := hS'; clear hS' hb
      refine op_pickT rfl rfl rfl ?_
      refine op_move rfl rfl ?_
      refine op_cases (d := 24) rfl (fun hc => ?_) (fun hc => ?_)
      · have hg24 := hc; clear hc
        refine op_wantedF (d := 24) rfl rfl ?_
        refine op_field (o' := 4) fa_33_3 rfl rfl rfl ?_
        refine op_wantedF (d := 24) rfl rfl ?_
        refine op_load Tryz.isAgg30 rfl (cell_own (hS.at_ 1 rfl) rfl) rfl ?_
        refine op_wantedF (d := 24) rfl rfl ?_
        refine op_field (o' := 4) fa_33_3 rfl rfl rfl ?_
        refine op_wantedF (d := 24) rfl rfl ?_
        refine op_load Tryz.isAgg30 rfl (cell_own (hS.at_ 0 rfl) rfl) rfl ?_
        refine op_wantedF (d := 24) rfl rfl ?_
        refine op_call (vs := [_, _]) hS goes_49 rfl (cellsSameA_is _ _ _ _ acells bcells _ (by simp only [maxLen]; omega) (by simp only [maxLen]; omega) (CRow.below hca hS.below) (CRow.below hcb hS.below) _ _ hka hkb) rfl ?_
        rintro e W4 ⟨rfl, hb⟩
        refine ⟨_, rfl, hb, fun hS' => ?_⟩
        clear hS; have hS := hS'; clear hS' hb
        refine op_pickT rfl rfl rfl ?_
        refine op_move rfl rfl ?_
        refine op_cases (d := 31) rfl (fun hc => ?_) (fun hc => ?_)
        · have hg31 := hc; clear hc
          have hz : az = bz := by simpa using hg10
          have hff : ag = bg ∧ arows = brows := by simpa [sameB] using hg24
          have hce : acells = bcells := sameC_iff.1 hg31
          refine op_wantedF (d := 31) rfl rfl ?_
          refine op_field (o' := 5) fa_33_4 rfl rfl rfl ?_
          refine op_wantedF (d := 31) rfl rfl ?_
          refine op_load Tryz.isAgg31 rfl (cell_own (hS.at_ 1 rfl) rfl) rfl ?_
          refine op_wantedF (d := 31) rfl rfl ?_
          refine op_field (o' := 5) fa_33_4 rfl rfl rfl ?_
          refine op_wantedF (d := 31) rfl rfl ?_
          refine op_load Tryz.isAgg31 rfl (cell_own (hS.at_ 0 rfl) rfl) rfl ?_
          refine op_wantedF (d := 31) rfl rfl ?_
          refine op_call (vs := [_, _, _]) hS goes_50 rfl (equalW_is k j apa bpa apl bpl apc bpc ps qs _ hps hqs (hrow.below hS.below) (hrow2.below hS.below) (fun p hp => WIn.below hS.below (hin p hp)) (fun p hp => WIn.below hS.below (hin2 p hp)) hpl hsm hsm2 ih) rfl ?_
          rintro e W5 ⟨rfl, hb⟩
          refine ⟨_, rfl, hb, fun hS' => ?_⟩
          clear hS; have hS := hS'; clear hS' hb
          refine op_pickT rfl rfl rfl ?_
          refine op_assign rfl rfl ?_
          refine endF ?_
          refine XF.thenN ?_
          refine retF ?_
          refine XF.res (res1 Tryz.results23 rfl) ?_
          exact ⟨rbool (r_same hr ⟨fun h => h.2.2.2.2.2, fun h => ⟨hz, hg17, hff.1, hff.2, hce, h⟩⟩), hS.below⟩
        · have hg31 := hc; clear hc
          refine op_notF (d := 31) rfl rfl rfl rfl ?_
          refine op_notF (d := 31) rfl rfl rfl rfl ?_
          refine op_notF (d := 31) rfl rfl rfl rfl ?_
          refine op_notF (d := 31) rfl rfl rfl rfl ?_
          refine op_notF (d := 31) rfl rfl rfl rfl ?_
          refine op_pickF rfl rfl rfl ?_
          refine op_assign rfl rfl ?_
          refine endF ?_
          refine XF.thenN ?_
          refine retF ?_
          refine XF.res (res1 Tryz.results23 rfl) ?_
          exact ⟨rbool (r_false hr (fun h => by have h5 := sameC_iff.2 h.2.2.2.2.1; rw [h5] at hg31; cases hg31)), hS.below⟩
      · have hg24 := hc; clear hc
        refine op_notF (d := 24) rfl rfl rfl rfl ?_
        refine op_notF (d := 24) rfl rfl rfl rfl ?_
        refine op_notF (d := 24) rfl rfl rfl rfl ?_
        refine op_notF (d := 24) rfl rfl rfl rfl ?_
        refine op_notF (d := 24) rfl rfl rfl rfl ?_
        refine op_pickF rfl rfl rfl ?_
        refine op_move rfl rfl ?_
        refine op_notF (d := 31) rfl rfl rfl rfl ?_
        refine op_notF (d := 31) rfl rfl rfl rfl ?_
        refine op_notF (d := 31) rfl rfl rfl rfl ?_
        refine op_notF (d := 31) rfl rfl rfl rfl ?_
        refine op_notF (d := 31) rfl rfl rfl rfl ?_
        refine op_pickF rfl rfl rfl ?_
        refine op_assign rfl rfl ?_
        refine endF ?_
        refine XF.thenN ?_
        refine retF ?_
        refine XF.res (res1 Tryz.results23 rfl) ?_
        exact ⟨rbool (r_false hr (fun h => by obtain ⟨_, _, h3, h4, _⟩ := h; subst h3; subst h4; rw [same_self] at hg24; cases hg24)), hS.below⟩
    · have hg17 := of_decide_eq_false hc; clear hc
      refine op_notF (d := 17) rfl rfl rfl rfl ?_
      refine op_notF (d := 17) rfl rfl rfl rfl ?_
      refine op_notF (d := 17) rfl rfl rfl rfl ?_
      refine op_notF (d := 17) rfl rfl rfl rfl ?_
      refine op_notF (d := 17) rfl rfl rfl rfl ?_
      refine op_pickF rfl rfl rfl ?_
      refine op_move rfl rfl ?_
      refine op_notF (d := 24) rfl rfl rfl rfl ?_
      refine op_notF (d := 24) rfl rfl rfl rfl ?_
      refine op_notF (d := 24) rfl rfl rfl rfl ?_
      refine op_notF (d := 24) rfl rfl rfl rfl ?_
      refine op_notF (d := 24) rfl rfl rfl rfl ?_
      refine op_pickF rfl rfl rfl ?_
      refine op_move rfl rfl ?_
      refine op_notF (d := 31) rfl rfl rfl rfl ?_
      refine op_notF (d := 31) rfl rfl rfl rfl ?_
      refine op_notF (d := 31) rfl rfl rfl rfl ?_
      refine op_notF (d := 31) rfl rfl rfl rfl ?_
      refine op_notF (d := 31) rfl rfl rfl rfl ?_
      refine op_pickF rfl rfl rfl ?_
      refine op_assign rfl rfl ?_
      refine endF ?_
      refine XF.thenN ?_
      refine retF ?_
      refine XF.res (res1 Tryz.results23 rfl) ?_
      exact ⟨rbool (r_false hr (fun h => hg17 h.2.1)), hS.below⟩
  · have hg10 := hc; clear hc
    refine op_notF (d := 10) rfl rfl rfl rfl ?_
    refine op_notF (d := 10) rfl rfl rfl rfl ?_
    refine op_notF (d := 10) rfl rfl rfl rfl ?_
    refine op_notF (d := 10) rfl rfl rfl rfl ?_
    refine op_notF (d := 10) rfl rfl rfl rfl ?_
    refine op_pickF rfl rfl rfl ?_
    refine op_move rfl rfl ?_
    refine op_notF (d := 17) rfl rfl rfl rfl ?_
    refine op_notF (d := 17) rfl rfl rfl rfl ?_
    refine op_notF (d := 17) rfl rfl rfl rfl ?_
    refine op_notF (d := 17) rfl rfl rfl rfl ?_
    refine op_notF (d := 17) rfl rfl rfl rfl ?_
    refine op_pickF rfl rfl rfl ?_
    refine op_move rfl rfl ?_
    refine op_notF (d := 24) rfl rfl rfl rfl ?_
    refine op_notF (d := 24) rfl rfl rfl rfl ?_
    refine op_notF (d := 24) rfl rfl rfl rfl ?_
    refine op_notF (d := 24) rfl rfl rfl rfl ?_
    refine op_notF (d := 24) rfl rfl rfl rfl ?_
    refine op_pickF rfl rfl rfl ?_
    refine op_move rfl rfl ?_
    refine op_notF (d := 31) rfl rfl rfl rfl ?_
    refine op_notF (d := 31) rfl rfl rfl rfl ?_
    refine op_notF (d := 31) rfl rfl rfl rfl ?_
    refine op_notF (d := 31) rfl rfl rfl rfl ?_
    refine op_notF (d := 31) rfl rfl rfl rfl ?_
    refine op_pickF rfl rfl rfl ?_
    refine op_assign rfl rfl ?_
    refine endF ?_
    refine XF.thenN ?_
    refine retF ?_
    refine XF.res (res1 Tryz.results23 rfl) ?_
    exact ⟨rbool (r_false hr (fun h => by have h1 := h.1; subst h1; simp at hg10)), hS.below⟩

theorem eqW_iff {k : Nat} {f g : WF} {ps qs : List WV} : eqW (k + 1) (.mk f ps) (.mk g qs) = true ↔ (f.z = g.z ∧ f.c = g.c ∧ f.g = g.g ∧ f.rows = g.rows ∧ f.cells = g.cells ∧ (decide (ps.length = qs.length) && (ps.zip qs).all fun x => eqW k x.1 x.2) = true) := by
  simp only [eqW]
  rw [Bool.and_eq_true, decide_eq_true_eq, Bool.and_eq_true, sameC_iff]
  constructor
  · rintro ⟨⟨a, b, c, d⟩, e, h⟩; exact ⟨a, b, c, d, e, h⟩
  · rintro ⟨a, b, c, d, e, h⟩; exact ⟨⟨a, b, c, d⟩, e, h⟩
theorem sameWR_is : ∀ (k j : Nat) (x y : WV) (w : World), WIn w k x → WIn w k y → smN j x = true → smN j y = true → Calls Tryz.prog 22 #[x.f.val, y.f.val] w fun e w' => e = .returned (.bool (eqW k x y)) ∧ Below w.heap.size w w'
  | 0, _, x, y, w, hx, hy, _, _ => hx.elim
  | k + 1, 0, x, y, w, hx, hy, h, _ => by simp [smN] at h
  | k + 1, j + 1, .mk ⟨az, ac, ag, ara, arl, arc, arows, aca, acl, acc, acells, apa, apl, apc⟩ ps, .mk ⟨bz, bc, bg, bra, brl, brc, brows, bca, bcl, bcc, bcells, bpa, bpl, bpc⟩ qs, w, hx, hy, h, h2 => by
    obtain ⟨a1, a2, a3, a4⟩ := smN_succ h
    obtain ⟨b1, b2, b3, b4⟩ := smN_succ h2
    dsimp only at a1 a2 a3 b1 b2 b3
    exact sameWR_step k j az ac ag ara arl arc arows aca acl acc acells apa apl apc bz bc bg bra brl brc brows bca bcl bcc bcells bpa bpl bpc ps qs w hx.1.rows hx.1.rl (by omega) hx.1.cells hx.1.cl (by omega) hy.1.rows hy.1.rl (by omega) hy.1.cells hy.1.cl (by omega) hx.2.1 hy.2.1 hx.2.2.1 hy.2.2.1 hx.2.2.2 hy.2.2.2 (by omega) a4 b4 (sameWR_is k j) _ eqW_iff
theorem sameWA_is : ∀ (k j : Nat) (x y : WV) (w : World), WIn w k x → WIn w k y → smN j x = true → smN j y = true → Calls Tryz.prog 23 #[x.f.val, y.f.val] w fun e w' => e = .returned (.bool (eqW k x y)) ∧ Below w.heap.size w w'
  | 0, _, x, y, w, hx, hy, _, _ => hx.elim
  | k + 1, 0, x, y, w, hx, hy, h, _ => by simp [smN] at h
  | k + 1, j + 1, .mk ⟨az, ac, ag, ara, arl, arc, arows, aca, acl, acc, acells, apa, apl, apc⟩ ps, .mk ⟨bz, bc, bg, bra, brl, brc, brows, bca, bcl, bcc, bcells, bpa, bpl, bpc⟩ qs, w, hx, hy, h, h2 => by
    obtain ⟨a1, a2, a3, a4⟩ := smN_succ h
    obtain ⟨b1, b2, b3, b4⟩ := smN_succ h2
    dsimp only at a1 a2 a3 b1 b2 b3
    exact sameWA_step k j az ac ag ara arl arc arows aca acl acc acells apa apl apc bz bc bg bra brl brc brows bca bcl bcc bcells bpa bpl bpc ps qs w hx.1.rows hx.1.rl (by omega) hx.1.cells hx.1.cl (by omega) hy.1.rows hy.1.rl (by omega) hy.1.cells hy.1.cl (by omega) hx.2.1 hy.2.1 hx.2.2.1 hy.2.2.1 hx.2.2.2 hy.2.2.2 (by omega) a4 b4 (sameWA_is k j) _ eqW_iff
end Go.Proofs.YtjcminoaiieckaaGreatDoor
namespace Go.Proofs.YtjcminoaiieckaaGreatDoor
open Go Go.RowKit
set_option linter.unusedVariables false
theorem space_50 {s : SV} (h : spaceE s ≠ 0) : (50 : Int) = spaceE s := by
  obtain ⟨f, ps⟩ := s
  have e : spaceE (.mk f ps) = (if plainB f.tag f.dim f.len = true then (0 : Int) else if f.tag = 5 ∧ f.dim = 0 ∧ ps.length = 2 ∧ ps.all SV.pl = true then 0 else 50) := rfl
  rw [e] at h ⊢
  split
  · rename_i h1; rw [if_pos h1] at h; exact absurd rfl h
  · rename_i h1
    rw [if_neg h1] at h
    split
    · rename_i h2; rw [if_pos h2] at h; exact absurd rfl h
    · rfl
theorem spaceR_ok {S : PS} {sf : SF} {w : World} (hs : SIs w S sf) (hok : S.ok) : Calls Tryz.prog 19 #[sf.val] w fun e w' => e = .returned (.int .i64 0) ∧ Below w.heap.size w w' := by
  obtain ⟨s, rfl, h, he⟩ := SIs.sin hs hok
  exact spaceR_is 2 s 0 w h he
theorem isA_gen {w : World} {ds da : Nat} {s : SV} {x : WV} (hs : SIn w ds s) (hse : spaceE s = 0) (hx : WIn w da x) (h100 : x.f.rl ≤ 100) (h101 : ∀ p ∈ x.ps, p.f.rl ≤ 100) :
    Calls Tryz.prog 63 #[s.f.val, x.f.val] w fun e w' => e = .returned (.bool (okW s x)) ∧ Below w.heap.size w w' := by
  match ds, da, s, x, hs, hx with
  | ds + 1, da + 1, .mk f ps, .mk g qs, hs, hx =>
    by_cases hp : plainB f.tag f.dim f.len = true
    · refine isA_plain f.tag f.dim f.a f.len f.cap g hp h100 w hx.1 _ ?_
      unfold okW; exact (if_pos hp).symm
    · have hse' : (if plainB f.tag f.dim f.len = true then (0 : Int) else if f.tag = 5 ∧ f.dim = 0 ∧ ps.length = 2 ∧ ps.all SV.pl = true then 0 else 50) = 0 := hse
      rw [if_neg hp] at hse'
      split at hse'
      · rename_i hq
        obtain ⟨h5, h0, h2, hall⟩ := hq
        obtain ⟨t, n, a, l, c⟩ := f
        dsimp only at h5 h0 hp
        subst h5; subst h0
        obtain ⟨p, q, rfl⟩ := two_of h2
        have hl : 2 = l := hs.1
        subst hl
        simp only [List.all_cons, List.all_nil, Bool.and_true, Bool.and_eq_true] at hall
        refine isA_pair ds a c p q g qs w hs hall.1 hall.2 da hx h101 _ ?_
        unfold okW; exact (if_neg hp).symm
      · cases hse'

end Go.Proofs.YtjcminoaiieckaaGreatDoor
namespace Go.Proofs.YtjcminoaiieckaaGreatDoor
open Go Go.RowKit
set_option linter.unusedVariables false
def isPairRow (lo : Nat) (S : PS) (x : PX) : Asr := fun v w => ∃ b, v = .slice (some ⟨b, 0, none⟩) 2 2 ∧ XNew lo w S (pairF b) x
theorem stab_isPairRow {lo : Nat} {S : PS} {x : PX} : Stab (isPairRow lo S x) := fun v w w' ⟨b, h1, h2⟩ hb => ⟨b, h1, h2.below hb⟩
theorem has_one {b : Act} {v : Value} (h : b.eval (.tmp 16) = v) : ∀ x u, evL [(16, v)] x = some u → b.eval x = u := by
  intro x u hx
  cases x with
  | tmp t =>
    have hx' : look [(16, v)] t = some u := hx
    unfold look at hx'
    cases hb : Nat.beq 16 t with
    | true =>
      simp only [hb, cond_true, Option.some.injEq] at hx'
      rw [← Nat.eq_of_beq_eq_true hb, h, hx']
    | false =>
      simp only [hb, cond_false] at hx'
      cases hx'
  | const c => exact Option.some.inj hx
  | global g => exact Option.some.inj hx
  | func f => exact Option.some.inj hx
section
variable {n : Nat} {Q : Exit → Act → World → Prop} {l : Fr} {W : World} {ops : Array Oper} {L : List Asr} {i d : Nat} {ty : TypeId} {pos : String} {aft : Array Edge} {gd : Option (Nat × Bool)} {t k u m : Int} {x y : PF} {p q : Operand}
theorem rg_pairRow (hi : ops[i]? = some ⟨some d, .buildSlice 31 2 (List.toArray [(0, p), (1, q)]), ty, pos, aft, gd⟩) (hw : Wants ops L i ⟨some d, .buildSlice 31 2 (List.toArray [(0, p), (1, q)]), ty, pos, aft, gd⟩) (hp : AllP n ops l L i [p, q] [isNew W.heap.size (.one t k) (.one x), isNew W.heap.size (.one u m) (.one y)]) (hI : atI L i = isPairRow W.heap.size (.two t k u m) (.two x y)) : RG Tryz.prog n ops Q l W L i :=
  rg_row [isNew W.heap.size (.one t k) (.one x), isNew W.heap.size (.one u m) (.one y)] hi hw Tryz.underlying31 Tryz.sizeOf33 Tryz.zeroValue33 rfl rfl hp fun vs w hb hh => by
    obtain ⟨v1, v2, rfl, ⟨f, rfl, hf⟩, g, rfl, hg⟩ := holds2 hh
    refine ⟨f.six ++ g.six, bs_31_2 _ _ _ _ _ _ _ _ _ _ _ _, fun B w' hB h1 h2 => ?_⟩
    rw [hI]
    rcases frow2 h1 with h | ⟨b, off, e, h3⟩
    · cases h
    · cases e
      exact ⟨B, rfl, pair_new (h3 0 f rfl) (h3 1 g rfl) (by rw [← hB]; exact hb.size) (PNew.below hf h2) (PNew.below hg h2)⟩
theorem rg_pairBuild {lo : Nat} {S : PS} {z : PX} (hi : ops[i]? = some ⟨some d, .build 33 (List.toArray [(4, .tmp 16)]), ty, pos, aft, gd⟩) (hw : Wants ops L i ⟨some d, .build 33 (List.toArray [(4, .tmp 16)]), ty, pos, aft, gd⟩) (hp : OpG n ops l L i 16 (isPairRow lo S z)) (hI : atI L i = isNew lo S z) : RG Tryz.prog n ops Q l W L i := fun a ha => st_value hi hw fun b w hF hG hD => by
  obtain ⟨B, hv, hx⟩ := hp a ha b w hF hD
  refine ⟨(pairF B).val, w, ?_, by rw [hI]; exact ⟨pairF B, rfl, hx⟩, Below.refl _ _⟩
  rw [execOp_guard b.eval _ _ _ _ pos _ #[] _ none]
  exact rn_build (l := [(16, .slice (some ⟨B, 0, none⟩) 2 2)]) (us := [(4, .slice (some ⟨B, 0, none⟩) 2 2)]) rfl (bld_33_4 _ _ _) b.eval (has_one hv)
end
set_option maxRecDepth 100000 in
set_option maxHeartbeats 4000000 in
theorem zeroR_plain (t n : Int) (sa : Option Addr) (sc : Nat) (w : World) (hp : plainB t n 0 = true) :
    Calls Tryz.prog 42 #[.agg #[.int .i64 t, .int .i64 n, .slice sa 0 sc]] w (WRet (.one t n) (.one zeroP) w) := by
  refine enterF (args := [.agg #[.int .i64 t, .int .i64 n, .slice sa 0 sc]]) Tryz.func42 rfl Tryz.ntmps42 rfl ?_
  have hS := St.start w
  refine seqF ?_
  refine regF ?_
  refine op_box (cs := [_, _, _]) hS rfl rfl rfl ?_
  clear hS; intro B1 W1 hS
  refine op_alloc (cs := [_, _, _, _, _, _]) hS Tryz.zeroValue33 rfl rfl ?_
  clear hS; intro B2 W2 hS
  refine endF ?_
  refine XF.thenN ?_
  refine seqF ?_
  refine seqF ?_
  refine regF ?_
  refine op_field (o' := 0) fa_25_0 rfl rfl rfl ?_
  refine op_load Tryz.isAgg22 rfl (cell_own (hS.at_ 1 rfl) rfl) rfl ?_
  refine op_eql rfl rfl rfl ?_
  refine endF ?_
  refine XF.thenN ?_
  refine condF rfl (fun hc => absurd (of_decide_eq_true hc) (by exact plain_ne5 hp)) (fun hc => ?_)
  have hc := of_decide_eq_false hc
  refine skipF ?_
  refine XF.thenN ?_
  refine seqF ?_
  refine regF ?_
  refine op_build (us := [(0, .bool _)]) rfl (bld_33_0 _) rfl ?_
  refine op_storeA (i := 0) (vs := [_, _, _, _, _, _]) (cs' := [_, _, _, _, _, _]) (O' := [_, _]) hS Tryz.sizeOf33 rfl rfl rfl rfl rfl rfl rfl ?_
  clear hS; intro W3 hS
  refine endF ?_
  refine XF.thenN ?_
  refine retF ?_
  refine XF.res (resC1 (vs := [_, _, _, _, _, _]) Tryz.results42 Tryz.isAgg33 Tryz.sizeOf33 rfl (CellsAt.own (j := 0) (m := 6) (hS.at_ 0 rfl) rfl)) ?_
  exact ⟨zeroF, rfl, zero_new _ _ _ _, hS.below⟩

set_option maxRecDepth 100000 in
set_option maxHeartbeats 4000000 in
theorem zeroR_pair (t n u m : Int) (a1 a2 : Option Addr) (c1 c2 b off sc : Nat) (w : World) (hs1 : S3 w b off ⟨t, n, a1, 0, c1⟩) (hs2 : S3 w b (off + 3) ⟨u, m, a2, 0, c2⟩) (hp1 : plainB t n 0 = true) (hp2 : plainB u m 0 = true) :
    Calls Tryz.prog 42 #[.agg #[.int .i64 5, .int .i64 0, .slice (some ⟨b, off, none⟩) 2 sc]] w (WRet (.two t n u m) (.two zeroP zeroP) w) := by
  refine enterF (args := [.agg #[.int .i64 5, .int .i64 0, .slice (some ⟨b, off, none⟩) 2 sc]]) Tryz.func42 rfl Tryz.ntmps42 rfl ?_
  have hS := St.start w
  refine seqF ?_
  refine regF ?_
  refine op_box (cs := [_, _, _]) hS rfl rfl rfl ?_
  clear hS; intro B1 W1 hS
  refine op_alloc (cs := [_, _, _, _, _, _]) hS Tryz.zeroValue33 rfl rfl ?_
  clear hS; intro B2 W2 hS
  refine endF ?_
  refine XF.thenN ?_
  refine seqF ?_
  refine seqF ?_
  refine regF ?_
  refine op_field (o' := 0) fa_25_0 rfl rfl rfl ?_
  refine op_load Tryz.isAgg22 rfl (cell_own (hS.at_ 1 rfl) rfl) rfl ?_
  refine op_eql rfl rfl rfl ?_
  refine endF ?_
  refine XF.thenN ?_
  refine condF rfl (fun hc => ?_) (fun hc => absurd (of_decide_eq_false hc) (by omega))
  have hc := of_decide_eq_true hc
  refine seqF ?_
  have hsz := hS.below.size
  have k1 := CellsAt.agree hS.agree (Nat.zero_le _) hs1.cells
  have k2 := CellsAt.agree hS.agree (Nat.zero_le _) hs2.cells
  refine regBK followsM 12 hS rfl rfl (by kernel_rfl) (by kernel_rfl) (by kernel_rfl) (fun d hd => by cases hd) ?_
  refine bl_cons 1 rfl (isV _) (stab_isV _) (rgV (li := [(1, _)]) rfl (w_free rfl) ⟨g_fr (by kernel_rfl) rfl, trivial⟩ (fun w hw => rn_field (o' := 2) fa_25_2 rfl rfl) (at_top rfl)) ?_
  refine bl_cons 2 rfl (isV _) (stab_isV _) (rgV (li := [(6, _)]) rfl (w_free rfl) ⟨g_dep 0 (by kernel_rfl) (at_dep rfl rfl rfl), trivial⟩ (fun w hw => rn_load Tryz.isAgg23 rfl ((below_agree hw 0).cell (Nat.zero_le _) (cell_own (hS.at_ 1 rfl) rfl))) (at_top rfl)) ?_
  refine bl_cons 3 rfl (isV _) (stab_isV _) (rgV (li := [(7, _)]) rfl (w_free rfl) ⟨g_dep 1 (by kernel_rfl) (at_dep rfl rfl rfl), trivial⟩ (fun w hw => rn_indexA (j := 0) Tryz.underlying23 Tryz.sizeOf25 rfl rfl rfl (by omega) (Nat.add_zero _)) (at_top rfl)) ?_
  refine bl_cons 4 rfl (isV _) (stab_isV _) (rgV (li := [(8, _)]) rfl (w_free rfl) ⟨g_dep 2 (by kernel_rfl) (at_dep rfl rfl rfl), trivial⟩ (fun w hw => rn_loadA (vs := [_, _, _]) Tryz.isAgg25 Tryz.sizeOf25 rfl (CellsAt.agree (below_agree hw 0) (Nat.zero_le _) (by assumption))) (at_top rfl)) ?_
  refine bl_cons 5 rfl (isNew W2.heap.size (.one t n) (.one zeroP)) (stab_isNew) (rg_call [isV _] rfl goes_42 (w_free rfl) ⟨p_tmp (g_dep 3 (by kernel_rfl) (at_dep rfl rfl rfl)), trivial⟩ (fun vs w' hb hh => by have e := holds_isV (us := [_]) hh; subst e; exact wret_gives hb.size (zeroR_plain _ _ _ _ _ hp1)) (at_top rfl)) ?_
  refine bl_cons 6 rfl (isV _) (stab_isV _) (rgV (li := [(1, _)]) rfl (w_free rfl) ⟨g_fr (by kernel_rfl) rfl, trivial⟩ (fun w hw => rn_field (o' := 2) fa_25_2 rfl rfl) (at_top rfl)) ?_
  refine bl_cons 7 rfl (isV _) (stab_isV _) (rgV (li := [(11, _)]) rfl (w_free rfl) ⟨g_dep 5 (by kernel_rfl) (at_dep rfl rfl rfl), trivial⟩ (fun w hw => rn_load Tryz.isAgg23 rfl ((below_agree hw 0).cell (Nat.zero_le _) (cell_own (hS.at_ 1 rfl) rfl))) (at_top rfl)) ?_
  refine bl_cons 8 rfl (isV _) (stab_isV _) (rgV (li := [(12, _)]) rfl (w_free rfl) ⟨g_dep 6 (by kernel_rfl) (at_dep rfl rfl rfl), trivial⟩ (fun w hw => rn_indexA (j := 1) Tryz.underlying23 Tryz.sizeOf25 rfl rfl rfl (by omega) rfl) (at_top rfl)) ?_
  refine bl_cons 9 rfl (isV _) (stab_isV _) (rgV (li := [(13, _)]) rfl (w_free rfl) ⟨g_dep 7 (by kernel_rfl) (at_dep rfl rfl rfl), trivial⟩ (fun w hw => rn_loadA (vs := [_, _, _]) Tryz.isAgg25 Tryz.sizeOf25 rfl (CellsAt.agree (below_agree hw 0) (Nat.zero_le _) (by assumption))) (at_top rfl)) ?_
  refine bl_cons 10 rfl (isNew W2.heap.size (.one u m) (.one zeroP)) (stab_isNew) (rg_call [isV _] rfl goes_42 (w_free rfl) ⟨p_tmp (g_dep 8 (by kernel_rfl) (at_dep rfl rfl rfl)), trivial⟩ (fun vs w' hb hh => by have e := holds_isV (us := [_]) hh; subst e; exact wret_gives hb.size (zeroR_plain _ _ _ _ _ hp2)) (at_top rfl)) ?_
  refine bl_cons 11 rfl (isPairRow W2.heap.size (.two t n u m) (.two zeroP zeroP)) (stab_isPairRow) (rg_pairRow rfl (w_free rfl) ⟨p_tmp (g_dep 4 (by kernel_rfl) (at_dep rfl rfl rfl)), p_tmp (g_dep 9 (by kernel_rfl) (at_dep rfl rfl rfl)), trivial⟩ (at_top rfl)) ?_
  refine bl_cons 12 rfl (isNew W2.heap.size (.two t n u m) (.two zeroP zeroP)) (stab_isNew) (rg_pairBuild rfl (w_free rfl) (g_dep 10 (by kernel_rfl) (at_dep rfl rfl rfl)) (at_top rfl)) ?_
  refine bl_nil ?_
  intro W3 hbR hS'
  clear hS; have hS := hS'; clear hS'
  refine fin_v ?_
  refine fin_v ?_
  refine fin_v ?_
  refine fin_v ?_
  refine fin_p ?_; rintro _ ⟨v1, rfl, hn1⟩
  refine fin_v ?_
  refine fin_v ?_
  refine fin_v ?_
  refine fin_v ?_
  refine fin_p ?_; rintro _ ⟨v2, rfl, hn2⟩
  refine fin_p ?_; rintro _ _
  refine fin_p ?_; rintro _ ⟨v3, rfl, hn3⟩
  refine fin_nil ?_
  refine op_storeA (i := 0) (vs := [_, _, _, _, _, _]) (cs' := [_, _, _, _, _, _]) (O' := [_, _]) hS Tryz.sizeOf33 rfl rfl rfl rfl rfl rfl rfl ?_
  clear hS; intro W4 hS
  refine endF ?_
  refine XF.thenN ?_
  refine retF ?_
  refine XF.thenR ?_
  refine XF.res (resC1 (vs := [_, _, _, _, _, _]) Tryz.results42 Tryz.isAgg33 Tryz.sizeOf33 rfl (CellsAt.own (j := 0) (m := 6) (hS.at_ 0 rfl) rfl)) ?_
  exact ⟨v3, rfl, (hn3.agree (hS.since 0 rfl)).mono hsz, hS.below⟩

theorem zeroR_ok {S : PS} {sf : SF} {w : World} (hs : SIs w S sf) (hok : S.ok) : Calls Tryz.prog 42 #[sf.val] w (WRet S (zeroX S) w) := by
  cases S with
  | one t n =>
    obtain ⟨a, c, rfl⟩ := hs
    exact zeroR_plain _ _ _ _ _ hok
  | two t n u m =>
    obtain ⟨b, off, c, a1, c1, a2, c2, rfl, h1, h2⟩ := hs
    exact zeroR_pair _ _ _ _ _ _ _ _ _ _ _ _ h1 h2 hok.1 hok.2

end Go.Proofs.YtjcminoaiieckaaGreatDoor
