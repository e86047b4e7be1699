import Derived.Laws.Rows
import Derived.Laws.AppendOwn
import Derived.Laws.Strings
import Derived.Laws.Small
import Derived.Lib.Hide
import Derived.IntWalk
import Derived.Laws.Tables
import Derived.Laws.Concat
import Derived.Laws.MakeOwn
import Derived.Test.YtfkbkekgnoanaaaGreatDoorProg
import Derived.Test.YtfkbkekgnoanaaaGreatDoorRows
import Derived.Lib.LaidTab
import Derived.Lib.ItoaNum
import Derived.Lib.TrailingZeros
import Derived.Stop.LaidErr
import Derived.WalkSmall
import Derived.LaidMore
import Derived.WalkKit
import Derived.Shelf.Spec.TrailingZeros
import Derived.RangeFuncNested
import Derived.RangeFuncBound
import Derived.RangeFuncCalls
import Derived.RangeFuncLeaves
import Derived.Shelf.Abstract
import Derived.Shelf.RegionOpen
import Derived.OwnWalkIn
import Derived.TacticsInMore
import Derived.LoopNIn
import Derived.LoopIn
import Derived.Laws.Bits128
import Derived.Shelf.Strconv.Itoa0
import Derived.Shelf.Strconv.Itoa1
import Derived.Shelf.LaysM
import Derived.Shelf.Strconv.Itoa2
import Derived.Shelf.Strconv.AppendUint10
import Derived.Shelf.Strconv.AppendInt10
import Derived.Shelf.Strconv.AppendIntPublic10
import Derived.Shelf.Slices.Reverse
import Derived.Ground.Names2Prog
import Derived.Shelf.Slices.Clone
import Derived.Shelf.Slices.Cells
import Derived.Ground.SlgnProg
import Derived.Shelf.SlicesE.Clone
import Derived.Deep.QuietTactic
import Derived.BigQuiet
import Derived.RegionTactic
import Derived.BigRegion
import Derived.Deep.RegionHeld3
import Derived.ChangeAlike
import Derived.Deep.RegionWith
import Derived.Laws.Bits64b
import Derived.Deep.DrawnRows
import Derived.Lib.SliceRun
import Derived.Lib.OthersKept
import Derived.Laws.IdiomStrings
import Derived.Laws.OwnMore
import Derived.OwnWalk
import Derived.Deep.AppendLies
import Derived.WalkSpells
import Derived.Lib.Join
import Derived.Test.YtfkbkekgnoanaaaGreatDoorBaseA
import Derived.Test.YtfkbkekgnoanaaaGreatDoorBaseB
import Derived.Test.YtfkbkekgnoanaaaGreatDoorBaseC
import Derived.Test.YtfkbkekgnoanaaaGreatDoorBaseD
set_option linter.unusedVariables false
set_option linter.unusedSimpArgs false
set_option linter.unusedSectionVars false
set_option linter.unnecessarySimpa false
namespace Go.Proofs.YtfkbkekgnoanaaaGreatDoor
open Go Go.RowKit
set_option linter.unusedVariables false
section
variable {P : Program} {n : Nat} {Q : Exit → Act → World → Prop} {l : Fr} {W : World} {ops : Array Oper} {os : List Oper}
theorem condN {c : Operand} {x y : Code} (hc : evL l c = some (.bool false)) (h : CodeF P n y Q l W) : CodeF P n (.cond c x y) Q l W := fun a ha => wp_cond_false (ha.ev _ _ hc) (h a ha)
variable {d : Nat} {op : Op} {ty : TypeId} {pos : String} {aft : Array Edge} {v : Value}
end
end Go.Proofs.YtfkbkekgnoanaaaGreatDoor
namespace Go.Proofs.YtfkbkekgnoanaaaGreatDoor
open Go Go.RowKit
set_option linter.unusedVariables false
section
variable {w0 W : World} {O : Own} {G : Grows} {K : List (Nat × World)}
end
section
variable {P : Program} {n : Nat} {Q : Exit → Act → World → Prop} {l : Fr} {w0 W : World} {ops : Array Oper} {os : List Oper} {O : Own} {G : Grows} {K : List (Nat × World)}
variable {d : Nat} {ty : TypeId} {pos : String} {aft : Array Edge} {v : Value}
theorem op_append {t e : TypeId} {x y : Operand} {i : Nat} {g : GR} {b o m c : Nat} {news : List Value} {inf : TypeInfo} {z : Value} (hS : St w0 O G K W) (hU : P.underlying t = some (.slice e)) (hinf : P.info? e = some inf) (hz : inf.zero = some z) (hzs : z.cells.size = inf.size) (hsz : 0 < inf.size)
    (hi : G[i]? = some g) (he : g.e = e) (hgs : g.size = inf.size) (hx : evL l x = some g.v) (hy : evL l y = some (.slice (some ⟨b, o, none⟩) m c)) (hc : CellsAt W b o news) (hl : news.length = m * inf.size) (h1 : news.all Value.oneCell' = true)
    (h63 : g.n + m ≤ maxLen) (hbytes : (g.n + m) * inf.bytes ≤ 140737488355328) (hd : Nat.blt d n = true)
    (h : ∀ v' W', St w0 O (G.set i ⟨v', g.n + m, g.xs ++ news, e, g.size⟩) K W' → OpsF P n ops Q os ((d, v') :: l) W') :
    OpsF P n ops Q (⟨some d, .call { callee := .builtin .append, args := #[x, y], argTypes := #[t, t] }, ty, pos, aft, none⟩ :: os) l W := by
  subst he
  have hrow := hS.row i hi
  rw [hgs] at hrow
  obtain ⟨v', W', hr, h2, h3, h4⟩ := append_own2 (P := P) (w := W) w0.heap.size t ty g.e inf z hU hinf hz hzs hsz g.v g.n g.xs hrow ⟨b, o, none⟩ m c news hl (fun j u hj => by rw [Addr.add_lit]; exact hc.get j u hj) (fun u hu => List.all_eq_true.1 h1 u hu) h63 hbytes hS.below.size
  rw [← hgs] at h2
  refine opV (W' := W') (v := v') (fun ev hev => ?_) hd (h v' W' (hS.setG i hi h2 h3 h4))
  unfold execOp
  simp only [resolve, invoke, builtin, Sem.run_bind, Sem.run_pure, Result.andThen_ok, List.map_toArray, List.map_cons, List.map_nil, hev x _ hx, hev y _ hy, hr]
end
end Go.Proofs.YtfkbkekgnoanaaaGreatDoor
namespace Go.Proofs.YtfkbkekgnoanaaaGreatDoor
open Go Go.RowKit
set_option linter.unusedVariables false
section
variable {P : Program} {n : Nat} {Q : Exit → Act → World → Prop} {l : Fr} {w0 W : World} {ops : Array Oper} {os : List Oper} {O : Own} {G : Grows} {K : List (Nat × World)}
variable {d : Nat} {ty : TypeId} {pos : String} {aft : Array Edge} {v : Value} {t u : TypeId} {x y : Operand} {k : IntKind} {a b : Int}
theorem rn_neqB {p q : Bool} (hB : P.underlying t = some .bool) (hx : evL l x = some (.bool p)) (hy : evL l y = some (.bool q)) : Runs P l ⟨some d, .binOp .neq t x y u, ty, pos, aft, none⟩ W (.bool (!(p == q))) W := fun ev he => binop_run (he x _ hx) (he y _ hy) rfl (run_neq_bool W t p q hB)
theorem op_neqB {p q : Bool} (hB : P.underlying t = some .bool) (hx : evL l x = some (.bool p)) (hy : evL l y = some (.bool q)) (hd : Nat.blt d n = true) (h : OpsF P n ops Q os ((d, .bool (!(p == q))) :: l) W) : OpsF P n ops Q (⟨some d, .binOp .neq t x y u, ty, pos, aft, none⟩ :: os) l W := opV (rn_neqB hB hx hy) hd h
theorem rn_sub {c : Int} (hx : evL l x = some (.int k a)) (hy : evL l y = some (.int k b)) (hw : k.wrap (a - b) = c) : Runs P l ⟨some d, .binOp .sub t x y u, ty, pos, aft, none⟩ W (.int k c) W := fun ev he => by subst hw; exact binop_run (he x _ hx) (he y _ hy) guard_int (by simp [binOp, Op.intArith])
theorem op_sub {c : Int} (hx : evL l x = some (.int k a)) (hy : evL l y = some (.int k b)) (hw : k.wrap (a - b) = c) (hd : Nat.blt d n = true) (h : OpsF P n ops Q os ((d, .int k c) :: l) W) : OpsF P n ops Q (⟨some d, .binOp .sub t x y u, ty, pos, aft, none⟩ :: os) l W := opV (rn_sub hx hy hw) hd h
theorem rn_binG {op : BinOp} {p q r : Value} (hx : evL l x = some p) (hy : evL l y = some q) (hg : (eqGuard op t x y p q).run P W = .ok () W) (hr : (binOp op t p q).run P W = .ok r W) : Runs P l ⟨some d, .binOp op t x y u, ty, pos, aft, none⟩ W r W := fun ev he => binop_run (he x _ hx) (he y _ hy) hg hr
theorem op_binG {op : BinOp} {p q r : Value} (hx : evL l x = some p) (hy : evL l y = some q) (hg : (eqGuard op t x y p q).run P W = .ok () W) (hr : (binOp op t p q).run P W = .ok r W) (hd : Nat.blt d n = true) (h : OpsF P n ops Q os ((d, r) :: l) W) : OpsF P n ops Q (⟨some d, .binOp op t x y u, ty, pos, aft, none⟩ :: os) l W := opV (rn_binG hx hy hg hr) hd h
theorem op_sliceFrom {T e : TypeId} {ad : Option Addr} {m c j s : Nat} {i : Int} (hU : P.underlying T = some (.slice e)) (hs : ∀ w, (sizeOf e).run P w = .ok s w) (hx : evL l x = some (.slice ad m c)) (hy : evL l y = some (.int k i)) (hi : i = (j : Int)) (hj : j ≤ m) (hd : Nat.blt d n = true)
    (h : ∀ ad', (c = j → ad' = ad) → (c ≠ j → ad' = ad.map (·.add (j * s))) → OpsF P n ops Q os ((d, .slice ad' (m - j) (c - j)) :: l) W) : OpsF P n ops Q (⟨some d, .slice T x (some y) none none, ty, pos, aft, none⟩ :: os) l W :=
  opV (rn_sliceFrom hU hs hx hy hi hj) hd (h _ (fun e => if_pos e) (fun e => if_neg e))
theorem run_eqlS_same (w : World) (t : TypeId) (p : ByteArray) : (binOp .eql t (.string p) (.string p)).run P w = .ok (.bool true) w := by
  simp [binOp, Op.stringOp]
end
end Go.Proofs.YtfkbkekgnoanaaaGreatDoor
namespace Go.Proofs.YtfkbkekgnoanaaaGreatDoor
open Go Go.RowKit
set_option linter.unusedVariables false
section
variable {P : Program} {n : Nat} {Q : Exit → Act → World → Prop} {l : Fr} {w0 W : World} {ops : Array Oper} {os : List Oper} {O : Own} {G : Grows} {K : List (Nat × World)} {L : List Asr} {i : Nat}
variable {d : Nat} {op : Op} {ty : TypeId} {pos : String} {aft : Array Edge} {v : Value} {gd : Option (Nat × Bool)}
theorem rgP (li : Fr) {p : Asr} (hi : ops[i]? = some ⟨some d, op, ty, pos, aft, gd⟩) (hw : Wants ops L i ⟨some d, op, ty, pos, aft, gd⟩) (hli : AllO n ops l L i li) (hr : ∀ w, Below W.heap.size W w → Runs P li ⟨some d, op, ty, pos, #[], none⟩ w v w) (hp : ∀ w, Below W.heap.size W w → p v w) (hI : atI L i = p) : RG P n ops Q l W L i :=
  fun a ha => st_value hi hw fun b w hF hG hD => ⟨v, w, by rw [execOp_guard b.eval _ _ _ _ pos _ #[] _ none]; exact hr w hG b.eval (allO_has ha hF hD hli), by rw [hI]; exact hp w hG, Below.refl _ _⟩
variable {Goal : List Asr → Prop}
end
end Go.Proofs.YtfkbkekgnoanaaaGreatDoor
namespace Go.Proofs.YtfkbkekgnoanaaaGreatDoor
open Go Go.RowKit
theorem bld_25_0_1 (v0 : Int) (v1 : Int) : Tryz.prog.built 25 [(0, .int .i64 v0), (1, .int .i64 v1)] = some #[.int .i64 v0, .int .i64 v1, .slice none 0 0] := by kernel_rfl
theorem bld_48_1 (v1 : Int) : Tryz.prog.built 48 [(1, .int .i64 v1)] = some #[.bool false, .int .i64 v1, .int .u64 0, .slice none 0 0, .slice none 0 0, .slice none 0 0] := by kernel_rfl
theorem bs_29_2 (v0 : Int) (v1 : Int) : Instr.fill (fun i => some (i * 1, 1)) ((Array.range (2 * 1)).map ((Value.cells (.int .i64 0))[· % (Value.cells (.int .i64 0)).size]!)) [(0, .int .i64 v0), (1, .int .i64 v1)] = some (List.toArray [.int .i64 v0, .int .i64 v1]) := by kernel_rfl
theorem goes_54 : goesIn Tryz.prog 54 = true := by kernel_rfl
theorem goes_53 : goesIn Tryz.prog 53 = true := by kernel_rfl
theorem goes_18 : goesIn Tryz.prog 18 = true := by kernel_rfl
theorem goes_55 : goesIn Tryz.prog 55 = true := by kernel_rfl
theorem goes_68 : goesIn Tryz.prog 68 = true := by kernel_rfl
theorem goes_67 : goesIn Tryz.prog 67 = true := by kernel_rfl
theorem goes_42 : goesIn Tryz.prog 42 = true := by kernel_rfl
theorem goes_69 : goesIn Tryz.prog 69 = true := by kernel_rfl
theorem goes_70 : goesIn Tryz.prog 70 = true := by kernel_rfl
theorem goes_84 : goesIn Tryz.prog 84 = true := by kernel_rfl
theorem goes_85 : goesIn Tryz.prog 85 = true := by kernel_rfl
theorem goes_83 : goesIn Tryz.prog 83 = true := by kernel_rfl
theorem goes_86 : goesIn Tryz.prog 86 = true := by kernel_rfl
theorem goes_87 : goesIn Tryz.prog 87 = true := by kernel_rfl
theorem goes_88 : goesIn Tryz.prog 88 = true := by kernel_rfl
theorem goes_89 : goesIn Tryz.prog 89 = true := by kernel_rfl
theorem goes_90 : goesIn Tryz.prog 90 = true := by kernel_rfl
theorem inf_48 : Tryz.prog.info? 48 = some Tryz.t48 := by kernel_rfl
end Go.Proofs.YtfkbkekgnoanaaaGreatDoor
namespace Go.Proofs.YtfkbkekgnoanaaaGreatDoor
open Go Go.RowKit
theorem bld_28_0_1_2_3 (v00 : Value) (v01 : Value) (v02 : Value) (v1 : Int) (v2 : Int) (v3a : Option Addr) (v3l : Nat) (v3c : Nat) : Tryz.prog.built 28 [(0, .agg #[v00, v01, v02]), (1, .int .i64 v1), (2, .int .i64 v2), (3, .slice v3a v3l v3c)] = some #[v00, v01, v02, .int .i64 v1, .int .i64 v2, .slice v3a v3l v3c] := by kernel_rfl
theorem bld_31_1 (v1a : Option Addr) (v1l : Nat) (v1c : Nat) : Tryz.prog.built 31 [(1, .slice v1a v1l v1c)] = some #[.int .i64 0, .slice v1a v1l v1c] := by kernel_rfl
theorem bld_66_1_2_4 (v1 : Int) (v2 : Int) (v40 : Value) (v41 : Value) (v42 : Value) (v43 : Value) (v44 : Value) (v45 : Value) : Tryz.prog.built 66 [(1, .int .i64 v1), (2, .int .i64 v2), (4, .agg #[v40, v41, v42, v43, v44, v45])] = some #[.int .i64 0, .int .i64 v1, .int .i64 v2, .slice none 0 0, v40, v41, v42, v43, v44, v45] := by kernel_rfl
theorem bld_66_1_3_4 (v1 : Int) (v3a : Option Addr) (v3l : Nat) (v3c : Nat) (v40 : Value) (v41 : Value) (v42 : Value) (v43 : Value) (v44 : Value) (v45 : Value) : Tryz.prog.built 66 [(1, .int .i64 v1), (3, .slice v3a v3l v3c), (4, .agg #[v40, v41, v42, v43, v44, v45])] = some #[.int .i64 0, .int .i64 v1, .int .i64 0, .slice v3a v3l v3c, v40, v41, v42, v43, v44, v45] := by kernel_rfl
theorem bld_77_0_1 (v00 : Value) (v01 : Value) (v02 : Value) (v10 : Value) (v11 : Value) (v12 : Value) (v13 : Value) (v14 : Value) (v15 : Value) : Tryz.prog.built 77 [(0, .agg #[v00, v01, v02]), (1, .agg #[v10, v11, v12, v13, v14, v15])] = some #[v00, v01, v02, v10, v11, v12, v13, v14, v15] := by kernel_rfl
theorem bs_105_1 (v0 : Int) : Instr.fill (fun i => some (i * 1, 1)) ((Array.range (1 * 1)).map ((Value.cells (.int .u8 0))[· % (Value.cells (.int .u8 0)).size]!)) [(0, .int .u8 v0)] = some (List.toArray [.int .u8 v0]) := by kernel_rfl
theorem bs_26_2 (v00 : Value) (v01 : Value) (v02 : Value) (v03 : Value) (v04 : Value) (v05 : Value) (v06 : Value) (v07 : Value) (v08 : Value) (v09 : Value) (v10 : Value) (v11 : Value) (v12 : Value) (v13 : Value) (v14 : Value) (v15 : Value) (v16 : Value) (v17 : Value) (v18 : Value) (v19 : Value) : Instr.fill (fun i => some (i * 10, 10)) ((Array.range (2 * 10)).map ((Value.cells (.agg #[.int .i64 0, .int .i64 0, .int .i64 0, .slice none 0 0, .bool false, .int .i64 0, .int .u64 0, .slice none 0 0, .slice none 0 0, .slice none 0 0]))[· % (Value.cells (.agg #[.int .i64 0, .int .i64 0, .int .i64 0, .slice none 0 0, .bool false, .int .i64 0, .int .u64 0, .slice none 0 0, .slice none 0 0, .slice none 0 0])).size]!)) [(0, .agg #[v00, v01, v02, v03, v04, v05, v06, v07, v08, v09]), (1, .agg #[v10, v11, v12, v13, v14, v15, v16, v17, v18, v19])] = some (List.toArray [v00, v01, v02, v03, v04, v05, v06, v07, v08, v09, v10, v11, v12, v13, v14, v15, v16, v17, v18, v19]) := by kernel_rfl
theorem bs_29_1 (v0 : Int) : Instr.fill (fun i => some (i * 1, 1)) ((Array.range (1 * 1)).map ((Value.cells (.int .i64 0))[· % (Value.cells (.int .i64 0)).size]!)) [(0, .int .i64 v0)] = some (List.toArray [.int .i64 v0]) := by kernel_rfl
theorem fa_77_0 (w : World) (b o : Nat) : (Instr.fieldAt 77 (.pointer (some ⟨b, o, none⟩)) 0).run Tryz.prog w = .ok (.pointer (some ⟨b, o + 0, none⟩)) w := by
  simp [Instr.fieldAt, run_underlying Tryz.underlying77, Instr.sureAddr, go_sem, Addr.add_lit]
theorem goes_12 : goesIn Tryz.prog 12 = true := by kernel_rfl
theorem goes_14 : goesIn Tryz.prog 14 = true := by kernel_rfl
theorem goes_15 : goesIn Tryz.prog 15 = true := by kernel_rfl
theorem goes_16 : goesIn Tryz.prog 16 = true := by kernel_rfl
theorem goes_17 : goesIn Tryz.prog 17 = true := by kernel_rfl
theorem goes_30 : goesIn Tryz.prog 30 = true := by kernel_rfl
theorem goes_31 : goesIn Tryz.prog 31 = true := by kernel_rfl
theorem goes_33 : goesIn Tryz.prog 33 = true := by kernel_rfl
theorem goes_34 : goesIn Tryz.prog 34 = true := by kernel_rfl
theorem goes_35 : goesIn Tryz.prog 35 = true := by kernel_rfl
theorem goes_36 : goesIn Tryz.prog 36 = true := by kernel_rfl
theorem goes_37 : goesIn Tryz.prog 37 = true := by kernel_rfl
theorem goes_38 : goesIn Tryz.prog 38 = true := by kernel_rfl
theorem goes_39 : goesIn Tryz.prog 39 = true := by kernel_rfl
theorem goes_52 : goesIn Tryz.prog 52 = true := by kernel_rfl
theorem inf_5 : Tryz.prog.info? 5 = some Tryz.t5 := by kernel_rfl
end Go.Proofs.YtfkbkekgnoanaaaGreatDoor
namespace Go.Proofs.YtfkbkekgnoanaaaGreatDoor
open Go Go.RowKit
set_option linter.unusedVariables false
section
variable {β : Option Nat} {w w' w'' W : World} {p : Asr} {v c : Value}
def GivesN (p : Asr) (w : World) : Ending → World → Prop := fun e w' => ∃ v, e = .returned v ∧ (∀ w2, Agree w.heap.size w' w2 → p v w2) ∧ Below w.heap.size w w'
end
section
variable {P : Program} {n : Nat} {Q : Exit → Act → World → Prop} {l : Fr} {w0 W : World} {ops : Array Oper} {os : List Oper} {O : Own} {G : Grows} {K : List (Nat × World)} {L : List Asr} {i : Nat}
variable {d : Nat} {op : Op} {ty : TypeId} {pos : String} {aft : Array Edge} {v : Value} {gd : Option (Nat × Bool)}
variable {Goal : List Asr → Prop}
end
end Go.Proofs.YtfkbkekgnoanaaaGreatDoor
namespace Go.Proofs.YtfkbkekgnoanaaaGreatDoor
open Go.RowKit
theorem gPow : Tryz.prog.globalNamed "internal/strconv.uint64pow10" = some 0 := by kernel_rfl
theorem gCtz : Tryz.prog.globalNamed "math/bits.deBruijn64tab" = some 1 := by kernel_rfl
theorem tPow : (Tryz.prog.globals[0]?).map (·.type) = some 169 := by kernel_rfl
theorem tCtz : (Tryz.prog.globals[1]?).map (·.type) = some 182 := by kernel_rfl
theorem cellsPow : Tryz.prog.cellsOf 169 = 20 := by kernel_rfl
theorem cellsCtz : Tryz.prog.cellsOf 182 = 64 := by kernel_rfl
theorem cells64 : Tryz.prog.cellsOf 41 = 1 := by kernel_rfl
theorem cells8 : Tryz.prog.cellsOf 5 = 1 := by kernel_rfl

theorem var_lt {P : Program} {W : World} {n : String} {g : Nat} {cs : Array Value} (hg : P.globalNamed n = some g) (h : W.var? P n = some cs) : g < W.heap.size := by
  unfold World.var? at h
  simp only [hg, Option.bind_some] at h
  rcases Nat.lt_or_ge g W.heap.size with h' | h'
  · exact h'
  · simp [Array.getElem?_eq_none h'] at h
theorem Tabs.below {W W' : World} (h : Tabs W) (hb : Below W.heap.size W W') : Tabs W' :=
  ⟨var?_below hb gPow (var_lt gPow h.pow) h.pow, var?_below hb gCtz (var_lt gCtz h.ctz) h.ctz⟩

theorem tabs_of {W : World} (h : laidMet Tryz.prog [("math/bits.deBruijn32tab", Rows.laid_math_bits_deBruijn32tab), ("math/bits.deBruijn64tab", Rows.laid_math_bits_deBruijn64tab), ("internal/strconv.uint64pow10", Rows.laid_internal_strconv_uint64pow10)] W) : Tabs W :=
  ⟨Lib.tabIs_of_head (rest := []) gPow tPow Tryz.underlying169 Tryz.underlying41 cells64 cellsPow (show laidMet Tryz.prog (("internal/strconv.uint64pow10", Lib.tabData .u64 Lib.pow10Tab) :: []) W from h.tail.tail),
   Lib.tabIs_of_head (rest := [("internal/strconv.uint64pow10", Rows.laid_internal_strconv_uint64pow10)]) gCtz tCtz Tryz.underlying182 Tryz.underlying5 cells8 cellsCtz (show laidMet Tryz.prog (("math/bits.deBruijn64tab", Lib.tabData .u8 tab64) :: [("internal/strconv.uint64pow10", Rows.laid_internal_strconv_uint64pow10)]) W from h.tail)⟩
end Go.Proofs.YtfkbkekgnoanaaaGreatDoor
namespace Go.Proofs.YtfkbkekgnoanaaaGreatDoor
open Go.RowKit
set_option linter.unusedVariables false
theorem tz_core (x k idx : Nat) (w : World) (hx0 : ((x : Int) == 0) = false)
    (key : IntKind.u64.wrap (bits BinOp.and IntKind.u64 (x : Int) (IntKind.u64.wrap (-(x : Int))) * 285870213051353865) / 288230376151711744 = (idx : Int))
    (hi : idx < 64) (hk : k < 64) (hcell : w.cell? ⟨1, idx, none⟩ = some (.int .u8 k)) :
    Calls Tryz.prog 122 #[.int .u64 x] w fun e w' => e = .returned (.int .i64 k) ∧ w = w' := by
  go_enter Tryz.func122, Tryz.ntmps122
  go_wp2_with (simp only [key])
  go_ret
  exact ⟨rfl, rfl⟩
theorem ctz_calls (x : Nat) (hx0 : x ≠ 0) (hx : x < 18446744073709551616) (w : World) (ht : Tabs w) :
    Calls Tryz.prog 122 #[.int .u64 x] w fun e w' => e = .returned (.int .i64 (Lib.ctz 64 x)) ∧ w = w' := by
  obtain ⟨hlow, hk⟩ := Lib.lowest_bit 64 x hx0 hx
  obtain ⟨hi, htab⟩ := Lib.deBruijn64_at _ hk
  have hcell := ht.ctz.cell gCtz _ (by rw [tab64, List.length_map]; exact hi)
  have e : tab64.getD (2 ^ Lib.ctz 64 x * 285870213051353865 % 18446744073709551616 / 288230376151711744) 0 = ((Lib.ctz 64 x : Nat) : Int) := by
    have : tab64.getD (2 ^ Lib.ctz 64 x * 285870213051353865 % 18446744073709551616 / 288230376151711744) 0 = Int.ofNat (Lib.deBruijn64tab.getD (2 ^ Lib.ctz 64 x * 285870213051353865 % 18446744073709551616 / 288230376151711744) 0) := by
      simp only [tab64, List.getD, List.getElem?_map]
      cases Lib.deBruijn64tab[2 ^ Lib.ctz 64 x * 285870213051353865 % 18446744073709551616 / 288230376151711744]? <;> rfl
    rw [this, htab]; rfl
  rw [e] at hcell
  exact tz_core x _ _ w (by simp; omega) (Go.Proofs.tz64_key x _ hx hx0 hlow) hi hk hcell
end Go.Proofs.YtfkbkekgnoanaaaGreatDoor
namespace Go.Proofs.YtfkbkekgnoanaaaGreatDoor
theorem low_form (x : Nat) (h0 : x ≠ 0) (h : x < 18446744073709551616) : ∃ m, x = 2 ^ Lib.ctz 64 x * (2 * m + 1) ∧ Lib.ctz 64 x < 64 := by
  have := Lib.ctzFrom_spec 64 x (by omega) h
  unfold Lib.ctz
  rw [if_neg h0]
  exact this
theorem low_bit {x : Nat} (h0 : x ≠ 0) (h : x < 18446744073709551616) : x.testBit (Lib.ctz 64 x) = true := by
  obtain ⟨m, hm, _⟩ := low_form x h0 h
  generalize Lib.ctz 64 x = k at *
  rw [hm, Nat.mul_comm, Nat.testBit_mul_two_pow]
  simp
theorem low_none {x : Nat} (h0 : x ≠ 0) (h : x < 18446744073709551616) {i : Nat} (hi : i < Lib.ctz 64 x) : x.testBit i = false := by
  obtain ⟨m, hm, _⟩ := low_form x h0 h
  generalize Lib.ctz 64 x = k at *
  rw [hm, Nat.mul_comm, Nat.testBit_mul_two_pow]
  simp; omega
theorem clear_low {x : Nat} (h0 : x ≠ 0) (h : x < 18446744073709551616) (i : Nat) : (x &&& (x - 1)).testBit i = (x.testBit i && decide (i ≠ Lib.ctz 64 x)) := by
  obtain ⟨m, hm, _⟩ := low_form x h0 h
  generalize Lib.ctz 64 x = k at *
  have hp : 0 < 2 ^ k := Nat.two_pow_pos k
  have e1 : x - 1 = 2 ^ k * (2 * m) + (2 ^ k - 1) := by
    rw [hm, Nat.mul_add]; omega
  have e2 : x = 2 ^ k * (2 * m + 1) + 0 := by omega
  rw [Nat.testBit_and, e1, Nat.testBit_two_pow_mul_add _ (by omega)]
  rw [e2, Nat.testBit_two_pow_mul_add _ hp]
  by_cases hi : i < k
  · simp [hi]
  · simp only [hi, if_false]
    by_cases he : i = k
    · subst he; simp
    · obtain ⟨j, rfl⟩ : ∃ j, i = k + (j + 1) := ⟨i - k - 1, by omega⟩
      have e3 : k + (j + 1) - k = j + 1 := by omega
      rw [e3, Nat.testBit_succ, Nat.testBit_succ]
      have d1 : (2 * m + 1) / 2 = m := by omega
      have d2 : 2 * m / 2 = m := by omega
      rw [d1, d2]
      simp
theorem clear_lt {x : Nat} (h0 : x ≠ 0) : x &&& (x - 1) < x := Nat.lt_of_le_of_lt Nat.and_le_right (by omega)
end Go.Proofs.YtfkbkekgnoanaaaGreatDoor
namespace Go.Proofs.YtfkbkekgnoanaaaGreatDoor
open Go.RowKit Go.Shelf
set_option linter.unusedVariables false
structure Abide {α : Type} (B : Nat) (J : List α → World → Prop) : Prop where
  cell : ∀ pre X v, J pre X → J pre (X.setCell ⟨B, 0, none⟩ v)
  drew : ∀ pre X m, J pre X → J pre (X.drewN m)

def SeqCell {α : Type} (F : Fence) (n : Nat) (P : Program) (g : Nat) (lb : Array Value) (encs : α → Array Value) (xs : List α) (B : Nat) (Kw : World → Prop) (w : World) : Prop :=
  ∀ (l : Nat) (J : List α → World → Prop) (W : World), W.heap[B]? = w.heap[B]? → Abide B J → (∀ pre X, J pre X → Kw X) →
    (∀ pre x rest X, xs = pre ++ x :: rest → J pre X → YieldAt F (n - 1) P l (encs x) X fun e X' => e = .returned (.bool true) ∧ J (pre ++ [x]) X' ∧ X'.heap[B]? = X.heap[B]?) →
    J [] W →
    CallsIn F n P g (#[.func (.yield l) #[] #[]] ++ lb) W fun e W' => (∃ v, e = .returned v) ∧ J xs W'

def cellPost {α : Type} (A B : Nat) (I : List α → World → Prop) (ys : List α) (W : World) : Exit → Act → World → Prop
  | .normal, _, W' => KeepsFrom A W W' ∧ W'.heap[B]? = W.heap[B]? ∧ I ys W'
  | _, _, _ => False

variable {F : Fence} {n : Nat} {P : Program}
theorem range_cell {α : Type} {g : Operand} {ps : Array Tmp} {assign body : Code} {Q : Exit → Act → World → Prop} {a : Act} {w : World}
    (hro : F.round = none) (h1 : 1 ≤ n) {gf : Nat} {lb : Array Value} (hg : a.eval g = .func (.func gf) #[] lb) (hFg : F.fn gf) (eg : ∀ args w, (callFunc gf args).run P w = .ok (.enter gf args) w)
    {encs : α → Array Value} {xs : List α} {B : Nat} {Kw : World → Prop} (hB : B < w.heap.size) (hseq : SeqCell F (n - 1) P gf lb encs xs B Kw w) (hps : ∀ x, (encs x).size = ps.size)
    (I : List α → World → Prop) (hI : OwnFrom w.heap.size I) (hA : Abide B I) (hKw : ∀ pre X, I pre X → Kw X) (h0 : I [] w) (a₁ : α → Act)
    (hassign : ∀ (l : Nat) (x : α) (W : World) (K : Act → World → Prop), K (a₁ x) W →
      assign.wpIn (F.inRound l) (n - 1 - 1) P (Exit.then K (fun _ _ _ => False)) { tmps := (ps.zip (encs x)).foldl (fun t (p, v) => t.setIfInBounds p v) a.tmps, defers := [] } W)
    (hbody : ∀ (l : Nat) (pre : List α) (x : α) (rest : List α) (W : World), xs = pre ++ x :: rest → I pre W → body.wpIn (F.inRound l) (n - 1 - 1) P (cellPost w.heap.size B I (pre ++ [x]) W) (a₁ x) W)
    (hdone : ∀ (D : Nat) (W : World), w.heap.size ≤ D → I xs W → W.heap[D]? = some (.deferred (some [])) → Q .normal { a with defers := { target := .collected D, args := #[] } :: a.defers } W) :
    (Code.rangeFunc g ps assign body).wpIn F n P Q a w := by
  refine wpIn_rangeFunc fun fn hfn => ?_
  rw [hro]
  let rec_ : LoopState → Loop := fun st => { state := st, pending := none, fn, tmps := a.tmps, params := ps, assign, body, defers := w.heap.size }
  have hsz0 : (w.alloc (.deferred (some []))).heap.size = w.heap.size + 1 := by simp
  obtain ⟨W1, hW1⟩ : ∃ W1, (w.alloc (.deferred (some []))).alloc (.loop (rec_ .ready)) = W1 := ⟨_, rfl⟩
  have hL1 : W1.heap[w.heap.size + 1]? = some (.loop (rec_ .ready)) := by
    rw [← hW1, ← hsz0]; exact World.alloc_heap_new _ _
  have hK1 : W1.heap[w.heap.size]? = some (.deferred (some [])) := by
    rw [← hW1]; exact (Below.heap_alloc _ _ _ (by simp)).trans (World.alloc_heap_new w _)
  have hI1 : I [] W1 := by
    rw [← hW1]
    exact hI _ _ _ none (hI _ _ _ none h0 (World.grownBy_alloc w _ none) (fun r e => by cases e)) (World.grownBy_alloc _ _ none) (fun r e => by cases e)
  have hB1 : W1.heap[B]? = w.heap[B]? := by
    rw [← hW1]; exact (Below.heap_alloc _ _ _ (by simp; omega)).trans (Below.heap_alloc _ _ _ hB)
  refine ⟨w.heap.size + 1, [{ target := .collected w.heap.size, args := #[] }], W1, { target := .fn (.func gf) lb, args := #[.func (.yield (w.heap.size + 1)) #[] #[]] }, W1, gf,
    #[.func (.yield (w.heap.size + 1)) #[] #[]] ++ lb, W1, ?_, ?_, ?_, ?_, fun _ => h1, ?_⟩
  · rw [← hW1]; exact run_enterLoop_outer _ _ _ _ _
  · simp only [resolve, hg]
    simp [go_sem]
  · intro f' hf'; simp [Target.leads] at hf'; subst hf'; exact hFg
  · simp [invoke, go_sem, eg]
  have other : ∀ (X : World) (v : Value) (k : Nat), B < w.heap.size → w.heap.size ≤ k → (X.setCell ⟨B, 0, none⟩ v).heap[k]? = X.heap[k]? := fun X v k h1 h2 => Below.heap_setCell _ _ _ _ (by show k ≠ B; omega)
  refine (hseq (w.heap.size + 1) (fun pre W => I pre W ∧ W.heap[w.heap.size + 1]? = some (.loop (rec_ .ready)) ∧ W.heap[w.heap.size]? = some (.deferred (some []))) W1 hB1
    ⟨fun pre X v h => ⟨hA.cell _ _ _ h.1, (other X v _ hB (by omega)).trans h.2.1, (other X v _ hB (by omega)).trans h.2.2⟩, fun pre X m h => ⟨hA.drew _ _ _ h.1, h.2.1, h.2.2⟩⟩ (fun pre X h => hKw _ _ h.1) ?_ ⟨hI1, hL1, hK1⟩).mono ?_
  · rintro pre x rest W hx ⟨hi, hl, hk⟩
    have hlt : w.heap.size + 1 < W.heap.size := (Array.getElem?_eq_some_iff.1 hl).1
    have hy := run_yield (P := P) (args := encs x) hl (hps x)
    refine ⟨fn, _, assign, body, hy, roundIn_of_wpIn hfn (hassign _ x W _ ⟨_, run_beginRound hl rfl, ?_⟩)⟩
    have hl2 : (W.putObj (w.heap.size + 1) (.loop (rec_ .busy))).heap[w.heap.size + 1]? = some (.loop (rec_ .busy)) := World.putObj_heap_same hlt
    have hk2 : (W.putObj (w.heap.size + 1) (.loop (rec_ .busy))).heap[w.heap.size]? = some (.deferred (some [])) := (World.putObj_heap_other (by omega)).trans hk
    refine wpIn_mono (hbody _ pre x rest _ hx (hI.putObj _ hi (by omega) hl rfl)) ?_
    rintro e a3 W3 hp
    cases e with
    | normal =>
      obtain ⟨hk3, hb3, hi3⟩ := hp
      have hl3 := hk3.same _ _ (by omega) hl2 rfl
      have hq3 := hk3.same _ _ (Nat.le_refl _) hk2 rfl
      have hr := run_endRound (P := P) none hl3
      refine ⟨_, _, hr, rfl, ⟨hI.putObj _ hi3 (by omega) hl3 rfl, World.putObj_heap_same (Array.getElem?_eq_some_iff.1 hl3).1, (World.putObj_heap_other (by omega)).trans hq3⟩, ?_⟩
      exact (World.putObj_heap_other (by omega)).trans (hb3.trans (World.putObj_heap_other (by omega)))
    | ret => exact hp.elim
    | exit id => exact hp.elim
    | goto t => exact hp.elim
    | panic ch => exact hp.elim
    | outgrown => exact hp.elim
  · rintro e W2 ⟨⟨v, rfl⟩, hi, hl, hk⟩
    exact ⟨none, _, run_endLoop (P := P) hl (by simp [rec_]), hdone _ _ (Nat.le_refl _) (hI.putObj _ hi (by omega) hl rfl) ((World.putObj_heap_other (by omega)).trans hk)⟩
end Go.Proofs.YtfkbkekgnoanaaaGreatDoor
namespace Go.Proofs.YtfkbkekgnoanaaaGreatDoor
open Go.RowKit Go.Shelf
attribute [local go_sem] Oper.semAt_some
set_option linter.unusedVariables false
theorem mem_lt {s x : Nat} (h : x ∈ mem s) : x < 64 := by
  unfold mem at h
  rw [List.mem_filter] at h
  exact List.mem_range.1 h.1
theorem mem_bit {s x : Nat} (h : x ∈ mem s) : s.testBit x = true := by
  unfold mem at h
  rw [List.mem_filter] at h
  exact h.2
end Go.Proofs.YtfkbkekgnoanaaaGreatDoor
namespace Go.Proofs.YtfkbkekgnoanaaaGreatDoor
open Go.RowKit
set_option linter.unusedVariables false
def IsNext (f : Nat) (i : Int) (r : Int) (b : Bool) : Prop :=
  (b = true ∧ ∃ k : Nat, r = k ∧ k < 64 ∧ i ≤ k ∧ f.testBit k = true ∧ ∀ j : Nat, j < k → i ≤ j → f.testBit j = false) ∨
  (b = false ∧ r = 0 ∧ ∀ j : Nat, j < 64 → i ≤ j → f.testBit j = false)
theorem isNext_ex (f : Nat) (i : Int) : ∃ r b, IsNext f i r b := by
  by_cases h : ∃ k : Nat, k < 64 ∧ i ≤ k ∧ f.testBit k = true
  · have hm : ∀ n : Nat, (∃ k : Nat, k < n ∧ i ≤ k ∧ f.testBit k = true) → ∃ k : Nat, k < n ∧ i ≤ k ∧ f.testBit k = true ∧ ∀ j : Nat, j < k → i ≤ j → f.testBit j = false := by
      intro n
      induction n with
      | zero => rintro ⟨k, hk, _⟩; omega
      | succ n ih =>
        rintro ⟨k, hk, h1, h2⟩
        by_cases hx : ∃ k : Nat, k < n ∧ i ≤ k ∧ f.testBit k = true
        · obtain ⟨q, a, b, c, d⟩ := ih hx
          exact ⟨q, by omega, b, c, d⟩
        · refine ⟨k, hk, h1, h2, fun j hj hi => ?_⟩
          cases hb : f.testBit j
          · rfl
          · exact absurd ⟨j, by omega, hi, hb⟩ hx
    obtain ⟨k, a, b, c, d⟩ := hm 64 h
    exact ⟨k, true, .inl ⟨rfl, k, rfl, a, b, c, d⟩⟩
  · refine ⟨0, false, .inr ⟨rfl, rfl, fun j hj hi => ?_⟩⟩
    cases hb : f.testBit j
    · rfl
    · exact absurd ⟨j, hj, hi, hb⟩ h
theorem isNext_uniq {f : Nat} {i r r' : Int} {b b' : Bool} (h : IsNext f i r b) (h' : IsNext f i r' b') : r = r' ∧ b = b' := by
  rcases h with ⟨rfl, k, rfl, a1, a2, a3, a4⟩ | ⟨rfl, rfl, a⟩
  · rcases h' with ⟨rfl, k', rfl, b1, b2, b3, b4⟩ | ⟨rfl, rfl, b⟩
    · have : k = k' := by
        rcases Nat.lt_trichotomy k k' with h | h | h
        · have := b4 k h a2; rw [a3] at this; cases this
        · exact h
        · have := a4 k' h b2; rw [b3] at this; cases this
      exact ⟨by rw [this], rfl⟩
    · have := b k a1 a2; rw [a3] at this; cases this
  · rcases h' with ⟨rfl, k', rfl, b1, b2, b3, b4⟩ | ⟨rfl, rfl, b⟩
    · have := a k' b1 b2; rw [b3] at this; cases this
    · exact ⟨rfl, rfl⟩
theorem restN_lt (f m : Nat) (hf : f < 18446744073709551616) : restN f m < 18446744073709551616 := Nat.lt_of_le_of_lt Nat.and_le_left hf
theorem next_of_rest (f : Nat) (i : Int) (m : Nat) (hm : m ≤ 63) (hi : m = i.toNat) (hf : f < 18446744073709551616) (r : Int) (b : Bool) (h : IsNext f i r b) :
    (restN f m = 0 ∧ r = 0 ∧ b = false) ∨ (restN f m ≠ 0 ∧ r = (Lib.ctz 64 (restN f m) : Nat) ∧ b = true) := by
  by_cases h0 : restN f m = 0
  · left
    have : IsNext f i 0 false := .inr ⟨rfl, rfl, fun j hj hij => by
      have := restN_bit f m (by omega) hf j
      rw [h0, Nat.zero_testBit] at this
      cases hb : f.testBit j
      · rfl
      · rw [hb, Bool.true_and] at this
        have h9 := decide_eq_false_iff_not.1 this.symm
        omega⟩
    obtain ⟨e1, e2⟩ := isNext_uniq h this
    exact ⟨h0, e1, e2⟩
  · right
    have hlt := restN_lt f m hf
    have b1 := low_bit h0 hlt
    have b2 := fun {j} => @low_none _ h0 hlt j
    obtain ⟨k, hk⟩ : ∃ k, Lib.ctz 64 (restN f m) = k := ⟨_, rfl⟩
    rw [hk] at b1
    rw [restN_bit f m (by omega) hf] at b1
    simp only [Bool.and_eq_true, decide_eq_true_eq] at b1
    have : IsNext f i k true := .inl ⟨rfl, k, rfl, bit_lt hf b1.1, by omega, b1.1, fun j hj hij => by
      have := b2 (j := j) (by rw [hk]; exact hj)
      rw [restN_bit f m (by omega) hf] at this
      cases hb : f.testBit j
      · rfl
      · rw [hb, Bool.true_and] at this
        have h9 := decide_eq_false_iff_not.1 this
        omega⟩
    obtain ⟨e1, e2⟩ := isNext_uniq h this
    exact ⟨h0, by rw [hk]; exact e1, e2⟩
theorem rib {k : IntKind} {a b : Int} {c d : Bool} (h : a = b) (h2 : c = d) : Ending.returned (.tuple #[.int k a, .bool c]) = .returned (.tuple #[.int k b, .bool d]) := by rw [h, h2]
end Go.Proofs.YtfkbkekgnoanaaaGreatDoor
namespace Go.Proofs
open Go.Shelf
def Tryz.laysM288_ren : Go.Shelf.Ren := ⟨fun | 288 => 82 | 283 => 98 | 284 => 99 | 285 => 100 | 286 => 101 | 129 => 115 | 317 => 114 | 318 => 116 | 319 => 117 | 320 => 118 | 337 => 124 | 338 => 122 | n => n, fun | 37 => 105 | 53 => 41 | 3 => 3 | 4 => 4 | 9 => 9 | 171 => 152 | 0 => 0 | 173 => 155 | 212 => 169 | 51 => 170 | 5 => 5 | 20 => 20 | 213 => 171 | 46 => 114 | 232 => 184 | 233 => 182 | n => n, fun | 17 => 0 | 18 => 2 | 19 => 1 | n => n⟩
def Tryz.laysM249_ren : Go.Shelf.Ren := ⟨fun | 249 => 66 | 288 => 82 | 283 => 98 | 284 => 99 | 285 => 100 | 286 => 101 | 129 => 115 | 317 => 114 | 318 => 116 | 319 => 117 | 320 => 118 | 337 => 124 | 338 => 122 | n => n, fun | 37 => 105 | 2 => 2 | 3 => 3 | 53 => 41 | 4 => 4 | 9 => 9 | 171 => 152 | 0 => 0 | 173 => 155 | 212 => 169 | 51 => 170 | 5 => 5 | 20 => 20 | 213 => 171 | 46 => 114 | 232 => 184 | 233 => 182 | n => n, fun | 17 => 0 | 18 => 2 | 19 => 1 | n => n⟩
def Tryz.laysM176_ren : Go.Shelf.Ren := ⟨fun | 176 => 52 | 249 => 66 | 288 => 82 | 283 => 98 | 284 => 99 | 285 => 100 | 286 => 101 | 129 => 115 | 317 => 114 | 318 => 116 | 319 => 117 | 320 => 118 | 337 => 124 | 338 => 122 | n => n, fun | 37 => 105 | 2 => 2 | 3 => 3 | 53 => 41 | 4 => 4 | 9 => 9 | 171 => 152 | 0 => 0 | 173 => 155 | 212 => 169 | 51 => 170 | 5 => 5 | 20 => 20 | 213 => 171 | 46 => 114 | 232 => 184 | 233 => 182 | n => n, fun | 17 => 0 | 18 => 2 | 19 => 1 | n => n⟩
theorem Tryz.laysM176 : Go.Proofs.LaysM.n176 Tryz.prog Tryz.laysM176_ren := {
  mixed := by kernel_rfl
  f129 := Tryz.func115.trans (congrArg some (by kernel_rfl))
  f176 := Tryz.func52.trans (congrArg some (by kernel_rfl))
  f249 := Tryz.func66.trans (congrArg some (by kernel_rfl))
  f283 := Tryz.func98.trans (congrArg some (by kernel_rfl))
  f284 := Tryz.func99.trans (congrArg some (by kernel_rfl))
  f285 := Tryz.func100.trans (congrArg some (by kernel_rfl))
  f286 := Tryz.func101.trans (congrArg some (by kernel_rfl))
  f288 := Tryz.func82.trans (congrArg some (by kernel_rfl))
  f317 := Tryz.func114.trans (congrArg some (by kernel_rfl))
  f318 := Tryz.func116.trans (congrArg some (by kernel_rfl))
  f319 := Tryz.func117.trans (congrArg some (by kernel_rfl))
  f320 := Tryz.func118.trans (congrArg some (by kernel_rfl))
  f337 := Tryz.func124.trans (congrArg some (by kernel_rfl))
  f338 := Tryz.func122.trans (congrArg some (by kernel_rfl))
  t0 := Tryz.underlying0
  a0 := Tryz.isAgg0
  z0 := Tryz.sizeOf0
  v0 := Tryz.zeroValue0
  t2 := Tryz.underlying2
  a2 := Tryz.isAgg2
  z2 := Tryz.sizeOf2
  v2 := Tryz.zeroValue2
  t3 := Tryz.underlying3
  a3 := Tryz.isAgg3
  z3 := Tryz.sizeOf3
  v3 := Tryz.zeroValue3
  t4 := Tryz.underlying4
  a4 := Tryz.isAgg4
  z4 := Tryz.sizeOf4
  v4 := Tryz.zeroValue4
  t5 := Tryz.underlying5
  a5 := Tryz.isAgg5
  z5 := Tryz.sizeOf5
  v5 := Tryz.zeroValue5
  t9 := Tryz.underlying9
  a9 := Tryz.isAgg9
  z9 := Tryz.sizeOf9
  v9 := Tryz.zeroValue9
  t20 := Tryz.underlying20
  a20 := Tryz.isAgg20
  z20 := Tryz.sizeOf20
  v20 := Tryz.zeroValue20
  t37 := Tryz.underlying105
  a37 := Tryz.isAgg105
  z37 := Tryz.sizeOf105
  v37 := Tryz.zeroValue105
  t46 := Tryz.underlying114
  a46 := Tryz.isAgg114
  z46 := Tryz.sizeOf114
  v46 := Tryz.zeroValue114
  t51 := Tryz.underlying170
  a51 := Tryz.isAgg170
  z51 := Tryz.sizeOf170
  v51 := Tryz.zeroValue170
  t53 := Tryz.underlying41
  a53 := Tryz.isAgg41
  z53 := Tryz.sizeOf41
  v53 := Tryz.zeroValue41
  t171 := Tryz.underlying152
  a171 := Tryz.isAgg152
  z171 := Tryz.sizeOf152
  v171 := Tryz.zeroValue152
  t173 := Tryz.underlying155
  a173 := Tryz.isAgg155
  z173 := Tryz.sizeOf155
  v173 := Tryz.zeroValue155
  t212 := Tryz.underlying169
  a212 := Tryz.isAgg169
  z212 := Tryz.sizeOf169
  v212 := Tryz.zeroValue169
  t213 := Tryz.underlying171
  a213 := Tryz.isAgg171
  z213 := Tryz.sizeOf171
  t232 := Tryz.underlying184
  a232 := Tryz.isAgg184
  z232 := Tryz.sizeOf184
  v232 := Tryz.zeroValue184
  t233 := Tryz.underlying182
  a233 := Tryz.isAgg182
  z233 := Tryz.sizeOf182
  v233 := Tryz.zeroValue182
  g17 := by kernel_rfl
  g18 := by kernel_rfl
  g19 := by kernel_rfl
  i0 := by kernel_rfl
  i2 := by kernel_rfl
  i3 := by kernel_rfl
  i4 := by kernel_rfl
  i5 := by kernel_rfl
  i9 := by kernel_rfl
  i20 := by kernel_rfl
  i37 := by kernel_rfl
  i46 := by kernel_rfl
  i51 := by kernel_rfl
  i53 := by kernel_rfl
  i171 := by kernel_rfl
  i173 := by kernel_rfl
  i212 := by kernel_rfl
  i232 := by kernel_rfl
  i233 := by kernel_rfl
  m17 := by kernel_rfl
  m18 := by kernel_rfl
  m19 := by kernel_rfl }
open Go.RowKit Go.Sort Go.Lib in
theorem Tryz.strconv_AppendInt_10 (B n : Nat) (i : Int) (h0 : -9223372036854775808 ≤ i) (h1 : i ≤ 9223372036854775807) (sv : Value) (xs : List Value) (w : World) (hown : w.ownsRow B 5 1 sv n xs) (hBw : B ≤ w.heap.size) (hlim : n + 21 ≤ 140737488355328) (htab : Lib.TabBelow Tryz.prog B w "internal/strconv.uint64pow10" .u64 Lib.pow10Tab) :
    Calls Tryz.prog 52 #[sv, .int .i64 i, .int .i64 10] w fun e w' => ∃ v', e = .returned v' ∧ w'.ownsRow B 5 1 v' (n + (Lib.itoa i).length) (xs ++ Lib.byteCells (Lib.itoa i)) ∧ Below B w w' ∧ Lib.OthersKept 5 none w w' := Any.strconv_AppendInt_10 Tryz.laysM176 B n i h0 h1 sv xs w hown hBw hlim htab
def Tryz.lays112_ren : Go.Shelf.Ren := ⟨fun | 112 => 38 | n => n, fun | 28 => 29 | 3 => 3 | 4 => 4 | 0 => 0 | n => n, fun | n => n⟩
theorem Tryz.lays112 : Go.Proofs.Lays.n112 Tryz.prog Tryz.lays112_ren := {
  mixed := by kernel_rfl
  f112 := Tryz.func38.trans (congrArg some (by kernel_rfl))
  t0 := Tryz.underlying0
  a0 := Tryz.isAgg0
  z0 := Tryz.sizeOf0
  v0 := Tryz.zeroValue0
  t3 := Tryz.underlying3
  a3 := Tryz.isAgg3
  z3 := Tryz.sizeOf3
  v3 := Tryz.zeroValue3
  t4 := Tryz.underlying4
  a4 := Tryz.isAgg4
  z4 := Tryz.sizeOf4
  v4 := Tryz.zeroValue4
  t28 := Tryz.underlying29
  a28 := Tryz.isAgg29
  z28 := Tryz.sizeOf29
  v28 := Tryz.zeroValue29 }
open Go.RowKit Go.Lib Go.Sort in
theorem Tryz.slices_Reverse_int (blk off cap : Nat) (zs : List Int) (w : World) (hH : Holds (Value.int .i64) w blk off zs.toArray) (hsz : zs.length ≤ 9223372036854775807) :
    Calls Tryz.prog 38 #[.slice (some ⟨blk, off, none⟩) zs.length cap] w fun e w' => e = .returned (.tuple #[]) ∧ ∃ n, w' = putRow (Value.int .i64) (Sort.ahead w n) blk off zs.reverse.toArray := Any.slices_Reverse_int Tryz.lays112 blk off cap zs w hH hsz
open Go.RowKit Go.Lib Go.Sort in
theorem Tryz.slices_Reverse_int_empty (a : Option Addr) (cap : Nat) (w : World) :
    Calls Tryz.prog 38 #[.slice a 0 cap] w fun e w' => e = .returned (.tuple #[]) ∧ w' = w := Any.slices_Reverse_int_empty Tryz.lays112 a cap w
def Tryz.laysNm215_ren : Go.Shelf.Ren := ⟨fun | 15 => 37 | n => n, fun | 22 => 29 | 3 => 3 | 4 => 4 | n => n, fun | n => n⟩
theorem Tryz.laysNm215 : Go.Proofs.Lays2.n15 Tryz.prog Tryz.laysNm215_ren := {
  mixed := by kernel_rfl
  f15 := Tryz.func37.trans (congrArg some (by kernel_rfl))
  t3 := Tryz.underlying3
  a3 := Tryz.isAgg3
  z3 := Tryz.sizeOf3
  v3 := Tryz.zeroValue3
  t4 := Tryz.underlying4
  a4 := Tryz.isAgg4
  z4 := Tryz.sizeOf4
  v4 := Tryz.zeroValue4
  t22 := Tryz.underlying29
  a22 := Tryz.isAgg29
  z22 := Tryz.sizeOf29
  v22 := Tryz.zeroValue29
  i3 := by kernel_rfl }
open Go.RowKit Go.Lib in
theorem Tryz.slices_Clone_int (b off n c : Nat) (zs : List Int) (w : World) (hz : n ≤ zs.length) (hbig : n * 8 ≤ 140737488355328) (hc : ∀ j, j < zs.length → w.cell? ⟨b, off + j, none⟩ = some (.int .i64 (zs.getD j 0))) :
    Calls Tryz.prog 37 #[.slice (some ⟨b, off, none⟩) n c] w fun e w' => ∃ v', e = .returned v' ∧ w'.ownsRow w.heap.size 3 1 v' n ((zs.take n).map (Value.int .i64)) ∧ v' ≠ .slice none 0 0 ∧ Below w.heap.size w w' := Any.slices_Clone_int Tryz.laysNm215 b off n c zs w hz hbig hc
open Go.RowKit Go.Lib in
theorem Tryz.slices_Clone_int_nil (n c : Nat) (w : World) :
    Calls Tryz.prog 37 #[.slice none n c] w fun e w' => e = .returned (.slice none 0 0) ∧ w' = w := Any.slices_Clone_int_nil Tryz.laysNm215 n c w
open Go.RowKit Go.Lib in
theorem Tryz.slices_Clone_int_zero (a : Addr) (c : Nat) (w : World) :
    Calls Tryz.prog 37 #[.slice (some a) 0 c] w fun e w' => ∃ v', e = .returned v' ∧ w'.ownsRow w.heap.size 3 1 v' 0 [] ∧ v' ≠ .slice none 0 0 ∧ Below w.heap.size w w' := Any.slices_Clone_int_zero Tryz.laysNm215 a c w
end Go.Proofs
namespace Go.Proofs.YtfkbkekgnoanaaaGreatDoor
open Go.RowKit
set_option linter.unusedVariables false
theorem inside_bits (d f : Nat) (hf : f < 18446744073709551616) : inside d f = true ↔ ∀ i, d ≤ i → i < 64 → f.testBit i = false := by
  unfold inside
  rw [beq_iff_eq, Nat.div_eq_zero_iff]
  constructor
  · intro h i hi _
    rcases h with h | h
    · exact absurd h (by have := Nat.two_pow_pos d; omega)
    · exact Nat.testBit_lt_two_pow (Nat.lt_of_lt_of_le h (Nat.pow_le_pow_right (by omega) hi))
  · intro h
    right
    apply Nat.lt_pow_two_of_testBit
    intro i hi
    by_cases h64 : i < 64
    · exact h i hi h64
    · have e : (2 : Nat) ^ 64 ≤ 2 ^ i := Nat.pow_le_pow_right (by decide) (by omega)
      exact Nat.testBit_lt_two_pow (Nat.lt_of_lt_of_le hf e)

end Go.Proofs.YtfkbkekgnoanaaaGreatDoor
namespace Go.Proofs.YtfkbkekgnoanaaaGreatDoor
open Go.RowKit
set_option linter.unusedVariables false
theorem PRow.at_ {w : World} {a : Option Addr} {ps : List WV} (h : PRow w a ps) {i : Nat} {p : WV} (hi : ps[i]? = some p) : ∃ b off, a = some ⟨b, off, none⟩ ∧ b < w.heap.size ∧ W6 w b (off + i * 6) p.f := by
  rcases h with rfl | ⟨b, off, ha, hc⟩
  · simp at hi
  · exact ⟨b, off, ha, cell_lt (hc i p hi).1, hc i p hi⟩

end Go.Proofs.YtfkbkekgnoanaaaGreatDoor
namespace Go.Proofs.YtfkbkekgnoanaaaGreatDoor
open Go.RowKit
set_option linter.unusedVariables false
theorem value_any (f k v : Int) (w : World) : Calls Tryz.prog 120 #[.agg #[.int .u64 f, .int .i64 k, .int .i64 v]] w fun e w' => e = .returned (.agg #[.int .u64 0, .int .i64 k, .int .i64 v]) ∧ (w.alloc (.cells #[.int .u64 0, .int .i64 k, .int .i64 v] 89)).alloc (.cells #[.int .u64 0, .int .i64 k, .int .i64 v] 89) = w' := by
  go_enter Tryz.func120, Tryz.ntmps120
  go_wp2
  refine bodyPost_ret (v := .agg #[.int .u64 0, .int .i64 k, .int .i64 v]) (by simp [results, Tryz.results120, go_sem]) rfl ⟨rfl, rfl⟩


set_option maxHeartbeats 1000000 in
theorem joined_00 (f f2 : Int) (w : World) : Calls Tryz.prog 121 #[.agg #[.int .u64 f, .int .i64 0, .int .i64 0], .agg #[.int .u64 f2, .int .i64 0, .int .i64 0]] w fun e w' => e = .returned (.agg #[.int .u64 (bits .or .u64 f f2), .int .i64 0, .int .i64 0]) ∧ Below w.heap.size w w' := by
  go_enter Tryz.func121, Tryz.ntmps121
  go_wp2
  go_region_with (go_at_call 120; refine (value_any _ _ _ _).mono ?_; rintro e w' ⟨rfl, rfl⟩)
  all_goals go_wp2
  all_goals refine bodyPost_ret (v := .agg #[.int .u64 (bits .or .u64 f f2), .int .i64 0, .int .i64 0]) (by simp [results, Tryz.results121, go_sem]) rfl ⟨rfl, ?_⟩
  all_goals repeat (first | exact Below.refl _ _ | refine Below.drew ?_ | (refine Below.setCell ?_ (by simp) _) | (refine Below.alloc ?_ (by simp; try omega) _))

set_option maxHeartbeats 1000000 in
theorem joined_01 (f f2 : Int) (v2 : Int) (w : World) : Calls Tryz.prog 121 #[.agg #[.int .u64 f, .int .i64 0, .int .i64 0], .agg #[.int .u64 f2, .int .i64 1, .int .i64 v2]] w fun e w' => e = .returned (.agg #[.int .u64 (bits .or .u64 f f2), .int .i64 1, .int .i64 v2]) ∧ Below w.heap.size w w' := by
  go_enter Tryz.func121, Tryz.ntmps121
  go_wp2
  go_region_with (go_at_call 120; refine (value_any _ _ _ _).mono ?_; rintro e w' ⟨rfl, rfl⟩)
  all_goals go_wp2
  all_goals refine bodyPost_ret (v := .agg #[.int .u64 (bits .or .u64 f f2), .int .i64 1, .int .i64 v2]) (by simp [results, Tryz.results121, go_sem]) rfl ⟨rfl, ?_⟩
  all_goals repeat (first | exact Below.refl _ _ | refine Below.drew ?_ | (refine Below.setCell ?_ (by simp) _) | (refine Below.alloc ?_ (by simp; try omega) _))

set_option maxHeartbeats 1000000 in
theorem joined_02 (f f2 : Int) (w : World) : Calls Tryz.prog 121 #[.agg #[.int .u64 f, .int .i64 0, .int .i64 0], .agg #[.int .u64 f2, .int .i64 2, .int .i64 0]] w fun e w' => e = .returned (.agg #[.int .u64 0, .int .i64 2, .int .i64 0]) ∧ Below w.heap.size w w' := by
  go_enter Tryz.func121, Tryz.ntmps121
  go_wp2
  go_region_with (go_at_call 120; refine (value_any _ _ _ _).mono ?_; rintro e w' ⟨rfl, rfl⟩)
  all_goals go_wp2
  all_goals refine bodyPost_ret (v := .agg #[.int .u64 0, .int .i64 2, .int .i64 0]) (by simp [results, Tryz.results121, go_sem]) rfl ⟨rfl, ?_⟩
  all_goals repeat (first | exact Below.refl _ _ | refine Below.drew ?_ | (refine Below.setCell ?_ (by simp) _) | (refine Below.alloc ?_ (by simp; try omega) _))

set_option maxHeartbeats 1000000 in
theorem joined_10 (f f2 : Int) (v : Int) (w : World) : Calls Tryz.prog 121 #[.agg #[.int .u64 f, .int .i64 1, .int .i64 v], .agg #[.int .u64 f2, .int .i64 0, .int .i64 0]] w fun e w' => e = .returned (.agg #[.int .u64 (bits .or .u64 f f2), .int .i64 1, .int .i64 v]) ∧ Below w.heap.size w w' := by
  go_enter Tryz.func121, Tryz.ntmps121
  go_wp2
  go_region_with (go_at_call 120; refine (value_any _ _ _ _).mono ?_; rintro e w' ⟨rfl, rfl⟩)
  all_goals go_wp2
  all_goals refine bodyPost_ret (v := .agg #[.int .u64 (bits .or .u64 f f2), .int .i64 1, .int .i64 v]) (by simp [results, Tryz.results121, go_sem]) rfl ⟨rfl, ?_⟩
  all_goals repeat (first | exact Below.refl _ _ | refine Below.drew ?_ | (refine Below.setCell ?_ (by simp) _) | (refine Below.alloc ?_ (by simp; try omega) _))

set_option maxHeartbeats 1000000 in
theorem joined_11 (f f2 : Int) (v : Int) (w : World) : Calls Tryz.prog 121 #[.agg #[.int .u64 f, .int .i64 1, .int .i64 v], .agg #[.int .u64 f2, .int .i64 1, .int .i64 v]] w fun e w' => e = .returned (.agg #[.int .u64 (bits .or .u64 f f2), .int .i64 1, .int .i64 v]) ∧ Below w.heap.size w w' := by
  go_enter Tryz.func121, Tryz.ntmps121
  go_wp2
  go_region_with (go_at_call 120; refine (value_any _ _ _ _).mono ?_; rintro e w' ⟨rfl, rfl⟩)
  all_goals go_wp2
  all_goals refine bodyPost_ret (v := .agg #[.int .u64 (bits .or .u64 f f2), .int .i64 1, .int .i64 v]) (by simp [results, Tryz.results121, go_sem]) rfl ⟨rfl, ?_⟩
  all_goals repeat (first | exact Below.refl _ _ | refine Below.drew ?_ | (refine Below.setCell ?_ (by simp) _) | (refine Below.alloc ?_ (by simp; try omega) _))

set_option maxHeartbeats 1000000 in
theorem joined_1x (f f2 : Int) (v v2 : Int) (hv : (v == v2) = false) (w : World) : Calls Tryz.prog 121 #[.agg #[.int .u64 f, .int .i64 1, .int .i64 v], .agg #[.int .u64 f2, .int .i64 1, .int .i64 v2]] w fun e w' => e = .returned (.agg #[.int .u64 0, .int .i64 2, .int .i64 0]) ∧ Below w.heap.size w w' := by
  go_enter Tryz.func121, Tryz.ntmps121
  go_wp2
  go_region_with (go_at_call 120; refine (value_any _ _ _ _).mono ?_; rintro e w' ⟨rfl, rfl⟩)
  all_goals go_wp2
  all_goals refine bodyPost_ret (v := .agg #[.int .u64 0, .int .i64 2, .int .i64 0]) (by simp [results, Tryz.results121, go_sem]) rfl ⟨rfl, ?_⟩
  all_goals repeat (first | exact Below.refl _ _ | refine Below.drew ?_ | (refine Below.setCell ?_ (by simp) _) | (refine Below.alloc ?_ (by simp; try omega) _))

set_option maxHeartbeats 1000000 in
theorem joined_12 (f f2 : Int) (v : Int) (w : World) : Calls Tryz.prog 121 #[.agg #[.int .u64 f, .int .i64 1, .int .i64 v], .agg #[.int .u64 f2, .int .i64 2, .int .i64 0]] w fun e w' => e = .returned (.agg #[.int .u64 0, .int .i64 2, .int .i64 0]) ∧ Below w.heap.size w w' := by
  go_enter Tryz.func121, Tryz.ntmps121
  go_wp2
  go_region_with (go_at_call 120; refine (value_any _ _ _ _).mono ?_; rintro e w' ⟨rfl, rfl⟩)
  all_goals go_wp2
  all_goals refine bodyPost_ret (v := .agg #[.int .u64 0, .int .i64 2, .int .i64 0]) (by simp [results, Tryz.results121, go_sem]) rfl ⟨rfl, ?_⟩
  all_goals repeat (first | exact Below.refl _ _ | refine Below.drew ?_ | (refine Below.setCell ?_ (by simp) _) | (refine Below.alloc ?_ (by simp; try omega) _))

set_option maxHeartbeats 1000000 in
theorem joined_20 (f f2 : Int) (w : World) : Calls Tryz.prog 121 #[.agg #[.int .u64 f, .int .i64 2, .int .i64 0], .agg #[.int .u64 f2, .int .i64 0, .int .i64 0]] w fun e w' => e = .returned (.agg #[.int .u64 0, .int .i64 2, .int .i64 0]) ∧ Below w.heap.size w w' := by
  go_enter Tryz.func121, Tryz.ntmps121
  go_wp2
  go_region_with (go_at_call 120; refine (value_any _ _ _ _).mono ?_; rintro e w' ⟨rfl, rfl⟩)
  all_goals go_wp2
  all_goals refine bodyPost_ret (v := .agg #[.int .u64 0, .int .i64 2, .int .i64 0]) (by simp [results, Tryz.results121, go_sem]) rfl ⟨rfl, ?_⟩
  all_goals repeat (first | exact Below.refl _ _ | refine Below.drew ?_ | (refine Below.setCell ?_ (by simp) _) | (refine Below.alloc ?_ (by simp; try omega) _))

set_option maxHeartbeats 1000000 in
theorem joined_21 (f f2 : Int) (v2 : Int) (w : World) : Calls Tryz.prog 121 #[.agg #[.int .u64 f, .int .i64 2, .int .i64 0], .agg #[.int .u64 f2, .int .i64 1, .int .i64 v2]] w fun e w' => e = .returned (.agg #[.int .u64 0, .int .i64 2, .int .i64 0]) ∧ Below w.heap.size w w' := by
  go_enter Tryz.func121, Tryz.ntmps121
  go_wp2
  go_region_with (go_at_call 120; refine (value_any _ _ _ _).mono ?_; rintro e w' ⟨rfl, rfl⟩)
  all_goals go_wp2
  all_goals refine bodyPost_ret (v := .agg #[.int .u64 0, .int .i64 2, .int .i64 0]) (by simp [results, Tryz.results121, go_sem]) rfl ⟨rfl, ?_⟩
  all_goals repeat (first | exact Below.refl _ _ | refine Below.drew ?_ | (refine Below.setCell ?_ (by simp) _) | (refine Below.alloc ?_ (by simp; try omega) _))

set_option maxHeartbeats 1000000 in
theorem joined_22 (f f2 : Int) (w : World) : Calls Tryz.prog 121 #[.agg #[.int .u64 f, .int .i64 2, .int .i64 0], .agg #[.int .u64 f2, .int .i64 2, .int .i64 0]] w fun e w' => e = .returned (.agg #[.int .u64 0, .int .i64 2, .int .i64 0]) ∧ Below w.heap.size w w' := by
  go_enter Tryz.func121, Tryz.ntmps121
  go_wp2
  go_region_with (go_at_call 120; refine (value_any _ _ _ _).mono ?_; rintro e w' ⟨rfl, rfl⟩)
  all_goals go_wp2
  all_goals refine bodyPost_ret (v := .agg #[.int .u64 0, .int .i64 2, .int .i64 0]) (by simp [results, Tryz.results121, go_sem]) rfl ⟨rfl, ?_⟩
  all_goals repeat (first | exact Below.refl _ _ | refine Below.drew ?_ | (refine Below.setCell ?_ (by simp) _) | (refine Below.alloc ?_ (by simp; try omega) _))
end Go.Proofs.YtfkbkekgnoanaaaGreatDoor
namespace Go.Proofs.YtfkbkekgnoanaaaGreatDoor
open Go.RowKit
set_option linter.unusedVariables false
theorem joined_any (a b : Cl) (ha : a.ok) (hb : b.ok) (w : World) : Calls Tryz.prog 121 #[a.val, b.val] w (JoinPost a b w) := by
  obtain ⟨f, k, v⟩ := a
  obtain ⟨f2, k2, v2⟩ := b
  obtain ⟨hf, hk⟩ := ha
  obtain ⟨hf2, hk2⟩ := hb
  simp only at hf hk hf2 hk2
  have ho := or_cast f f2 hf hf2
  rcases kind_cases hk with ⟨rfl, rfl⟩ | rfl | ⟨rfl, rfl⟩ <;> rcases kind_cases hk2 with ⟨rfl, rfl⟩ | rfl | ⟨rfl, rfl⟩
  · exact (joined_00 f f2 w).mono (to_post (by simp [joinK, ho]) (by simp [joinK]) (by simp [joinV]))
  · exact (joined_01 f f2 v2 w).mono (to_post (by simp [joinK, ho]) (by simp [joinK]) (by simp [joinV]))
  · exact (joined_02 f f2 w).mono (to_post (by simp [joinK]) (by simp [joinK]) (by simp [joinV]))
  · exact (joined_10 f f2 v w).mono (to_post (by simp [joinK, ho]) (by simp [joinK]) (by simp [joinV]))
  · by_cases hv : v = v2
    · subst hv
      exact (joined_11 f f2 v w).mono (to_post (by simp [joinK, ho]) (by simp [joinK]) (by simp [joinV]))
    · exact (joined_1x f f2 v v2 (by simp [hv]) w).mono (to_post (by simp [joinK, hv]) (by simp [joinK, hv]) (by simp [joinV, hv]))
  · exact (joined_12 f f2 v w).mono (to_post (by simp [joinK]) (by simp [joinK]) (by simp [joinV]))
  · exact (joined_20 f f2 w).mono (to_post (by simp [joinK]) (by simp [joinK]) (by simp [joinV]))
  · exact (joined_21 f f2 v2 w).mono (to_post (by simp [joinK]) (by simp [joinK]) (by simp [joinV]))
  · exact (joined_22 f f2 w).mono (to_post (by simp [joinK]) (by simp [joinK]) (by simp [joinV]))
def chk2C (d : Int) (xs ys : List Cl) : Int := if chkC d xs = 0 then chkC d ys else chkC d xs
theorem checkBoth_any (d : Int) (a b : Option Addr) (capa capb : Nat) (xs ys : List Cl) (w : World) (hma : xs.length ≤ maxLen) (hmb : ys.length ≤ maxLen) (hra : CRow w a xs) (hrb : CRow w b ys) (hba : Bits xs) (hbb : Bits ys) (c : Int) (hc : chk2C d xs ys = c) :
    Calls Tryz.prog 109 #[.int .i64 d, .slice a xs.length capa, .slice b ys.length capb] w fun e w' => e = .returned (.int .i64 c) ∧ Below w.heap.size w w' := by
  have HMA := Lib.hid hma; have HMB := Lib.hid hmb; have HRA := Lib.hid hra; have HRB := Lib.hid hrb; have HBA := Lib.hid hba; have HBB := Lib.hid hbb
  clear hma hmb hra hrb hba hbb
  by_cases h0 : chkC d xs = 0
  · have H0 := Lib.hid h0
    have H1 := Lib.hid (show chkC d ys = c by simpa [chk2C, h0] using hc)
    clear h0 hc
    go_enter Tryz.func109, Tryz.ntmps109
    go_wp2_with fail
    refine (check_is _ _ _ _ xs _ 0 rfl HMA.out HRA.out HBA.out H0.out).mono ?_
    rintro e w1 ⟨rfl, hb1⟩
    go_wp2_with fail
    refine (check_is _ _ _ _ ys _ c rfl HMB.out (HRB.out.below hb1) HBB.out H1.out).mono ?_
    rintro e w2 ⟨rfl, hb2⟩
    go_wp2
    go_ret
    exact ⟨rfl, hb1.trans (hb2.mono hb1.size)⟩
  · have H1 := Lib.hid (show chkC d xs = c by simpa [chk2C, h0] using hc)
    have hne : (c != 0) = true := by rw [← H1.out]; simpa using h0
    clear h0 hc
    go_enter Tryz.func109, Tryz.ntmps109
    go_wp2_with fail
    refine (check_is _ _ _ _ xs _ c rfl HMA.out HRA.out HBA.out H1.out).mono ?_
    rintro e w1 ⟨rfl, hb1⟩
    go_wp2
    go_ret
    exact ⟨rfl, hb1⟩
end Go.Proofs.YtfkbkekgnoanaaaGreatDoor
namespace Go.Proofs.YtfkbkekgnoanaaaGreatDoor
open Go.RowKit
set_option linter.unusedVariables false
set_option maxRecDepth 100000 in
set_option maxHeartbeats 4000000 in
theorem isA_plain (t n : Int) (a : Option Addr) (l c0 : Nat) (f : WF) (hp : plainB t n l = true) (hs : f.rl ≤ 100) (w : World) (hf : f.At w) (r : Bool) (hr : pwOk t n f = r) :
    Calls Tryz.prog 78 #[.agg #[.int .i64 t, .int .i64 n, .slice a l c0], f.val] w fun e w' => e = .returned (.bool r) ∧ Below w.heap.size w w' := by
  have HF0 := Lib.hid hf; have HS := Lib.hid hs
  obtain ⟨z, c, g, ra, rl, rc, rows, ca, cl, cc, cells, pa, pl, pc⟩ := f
  show Calls Tryz.prog 78 #[.agg #[.int .i64 t, .int .i64 n, .slice a l c0], .agg #[.bool z, .int .i64 c, .int .u64 (g : Int), .slice ra rl rc, .slice ca cl cc, .slice pa pl pc]] w _
  obtain ⟨bb, hbb⟩ : ∃ b, bareB t ⟨z, c, g, ra, rl, rc, rows, ca, cl, cc, cells, pa, pl, pc⟩ = b := ⟨_, rfl⟩
  have HBB := Lib.hid hbb
  have hB := Lib.hid (wbox w #[.int .i64 t, .int .i64 n, .slice a l c0] #[.bool z, .int .i64 c, .int .u64 (g : Int), .slice ra rl rc, .slice ca cl cc, .slice pa pl pc] 25 48)
  obtain ⟨t0, t1⟩ := two_boxes2 w #[.int .i64 t, .int .i64 n, .slice a l c0] #[.bool z, .int .i64 c, .int .u64 (g : Int), .slice ra rl rc, .slice ca cl cc, .slice pa pl pc] 25 48
  have T0 := Lib.hid t0; have T1 := Lib.hid t1
  obtain ⟨W0, hW0⟩ : ∃ W, (w.alloc (.cells #[.int .i64 t, .int .i64 n, .slice a l c0] 25)).alloc (.cells #[.bool z, .int .i64 c, .int .u64 (g : Int), .slice ra rl rc, .slice ca cl cc, .slice pa pl pc] 48) = W := ⟨_, rfl⟩
  rw [hW0] at hB T0 T1
  obtain ⟨x0, x1, x2⟩ := tri_cells T0.out
  obtain ⟨y0, y1, y2, y3, y4, y5⟩ := six_cells T1.out
  have ht := (plainB_tag hp).2
  clear hf hs t0 t1 hbb hp
  cases bb
  · have HR : Hid (false = r) := by show _ = _; rw [← hr, pwOk, HBB.out]; rfl
    clear hr ht
    go_enter Tryz.func78, Tryz.ntmps78
    go_wp2_with fail
    refine (bare_is t n a l c0 ⟨z, c, g, ra, rl, rc, rows, ca, cl, cc, cells, pa, pl, pc⟩ false HBB.out _).mono ?_
    rintro e w1 ⟨rfl, hb1⟩
    go_wp2
    go_ret
    exact ⟨rbool HR.out, hB.out.trans (hb1.mono hB.out.size)⟩
  have HX : Hid (∀ W : World, Below W0.heap.size W0 W → Hid ((W.cell? ⟨w.heap.size, 0, none⟩ = some (.int .i64 t) ∧ W.cell? ⟨w.heap.size, 1, none⟩ = some (.int .i64 n) ∧ W.cell? ⟨w.heap.size, 2, none⟩ = some (.slice a l c0)) ∧ (W.cell? ⟨w.heap.size + 1, 0, none⟩ = some (.bool z) ∧ W.cell? ⟨w.heap.size + 1, 1, none⟩ = some (.int .i64 c) ∧ W.cell? ⟨w.heap.size + 1, 2, none⟩ = some (.int .u64 (g : Int)) ∧ W.cell? ⟨w.heap.size + 1, 3, none⟩ = some (.slice ra rl rc) ∧ W.cell? ⟨w.heap.size + 1, 4, none⟩ = some (.slice ca cl cc) ∧ W.cell? ⟨w.heap.size + 1, 5, none⟩ = some (.slice pa pl pc)))) := fun W h => ⟨tri_cells (heap_old T0.out h), six_cells (heap_old T1.out h)⟩
  have HR : Hid ((z || (if t = 2 then decide (0 ≤ c) && decide (c ≤ n) else if t = 3 then decide (checkE n g rows = 0) else if t = 4 then decide (chkC n cells = 0) else true)) = r) := by show _ = _; rw [← hr, pwOk, HBB.out]; rfl
  have he5 : (t == 5) = false := by simp; omega
  clear hr T0 T1
  cases z
  · rcases ht with rfl | rfl | rfl | rfl
    · have HR2 : Hid (true = r) := by show _ = _; rw [← HR.out]; simp
      go_enter Tryz.func78, Tryz.ntmps78
      go_wp2_with fail
      refine (bare_is _ n a l c0 ⟨false, c, g, ra, rl, rc, rows, ca, cl, cc, cells, pa, pl, pc⟩ true HBB.out _).mono ?_
      rintro e w1 ⟨rfl, hb1⟩
      obtain ⟨⟨p0, p1, p2⟩, q0, q1, q2, q3, q4, q5⟩ := (HX.out _ hb1).out
      go_wp2_with fail
      go_ret
      exact ⟨rbool HR2.out, hB.out.trans (hb1.mono hB.out.size)⟩
    · by_cases hc0 : 0 ≤ c
      · have HR2 : Hid (decide (c ≤ n) = r) := by show _ = _; rw [← HR.out]; simp [hc0]
        go_enter Tryz.func78, Tryz.ntmps78
        go_wp2_with fail
        refine (bare_is _ n a l c0 ⟨false, c, g, ra, rl, rc, rows, ca, cl, cc, cells, pa, pl, pc⟩ true HBB.out _).mono ?_
        rintro e w1 ⟨rfl, hb1⟩
        obtain ⟨⟨p0, p1, p2⟩, q0, q1, q2, q3, q4, q5⟩ := (HX.out _ hb1).out
        go_wp2_with fail
        go_ret
        exact ⟨rbool HR2.out, hB.out.trans (hb1.mono hB.out.size)⟩
      · have HR3 : Hid (false = r) := by show _ = _; rw [← HR.out]; simp [hc0]
        go_enter Tryz.func78, Tryz.ntmps78
        go_wp2_with fail
        refine (bare_is _ n a l c0 ⟨false, c, g, ra, rl, rc, rows, ca, cl, cc, cells, pa, pl, pc⟩ true HBB.out _).mono ?_
        rintro e w1 ⟨rfl, hb1⟩
        obtain ⟨⟨p0, p1, p2⟩, q0, q1, q2, q3, q4, q5⟩ := (HX.out _ hb1).out
        go_wp2_with fail
        go_ret
        exact ⟨rbool HR3.out, hB.out.trans (hb1.mono hB.out.size)⟩
    · obtain ⟨ck, hck⟩ : ∃ k, checkE n g rows = k := ⟨_, rfl⟩
      have HCK := Lib.hid hck
      have HR3 : Hid ((ck == 0) = r) := by show _ = _; rw [← HR.out, hck, int_eq0]; simp
      clear hck
      go_enter Tryz.func78, Tryz.ntmps78
      go_wp2_with fail
      refine (bare_is _ n a l c0 ⟨false, c, g, ra, rl, rc, rows, ca, cl, cc, cells, pa, pl, pc⟩ true HBB.out _).mono ?_
      rintro e w1 ⟨rfl, hb1⟩
      obtain ⟨⟨p0, p1, p2⟩, q0, q1, q2, q3, q4, q5⟩ := (HX.out _ hb1).out
      have hB1 := hB.out.trans (hb1.mono hB.out.size)
      go_wp2_with fail
      refine (checkA_is n ra rc g rows _ ((HF0.out.below hB1).fat HS.out) ck HCK.out rl HF0.out.rl).mono ?_
      rintro e w2 ⟨rfl, hb2⟩
      go_wp2_with fail
      go_ret
      exact ⟨rbool HR3.out, hB1.trans (hb2.mono hB1.size)⟩
    · obtain ⟨ck, hck⟩ : ∃ k, chkC n cells = k := ⟨_, rfl⟩
      have HCK := Lib.hid hck
      have HR3 : Hid ((ck == 0) = r) := by show _ = _; rw [← HR.out, hck, int_eq0]; simp
      clear hck
      go_enter Tryz.func78, Tryz.ntmps78
      go_wp2_with fail
      refine (bare_is _ n a l c0 ⟨false, c, g, ra, rl, rc, rows, ca, cl, cc, cells, pa, pl, pc⟩ true HBB.out _).mono ?_
      rintro e w1 ⟨rfl, hb1⟩
      obtain ⟨⟨p0, p1, p2⟩, q0, q1, q2, q3, q4, q5⟩ := (HX.out _ hb1).out
      have hB1 := hB.out.trans (hb1.mono hB.out.size)
      go_wp2_with fail
      refine (check_is n ca cl cc cells _ ck HF0.out.cl (by rw [HF0.out.cl]; exact HF0.out.cmax) (HF0.out.below hB1).cells HF0.out.bits HCK.out).mono ?_
      rintro e w2 ⟨rfl, hb2⟩
      go_wp2_with fail
      go_ret
      exact ⟨rbool HR3.out, hB1.trans (hb2.mono hB1.size)⟩
  · have HR2 : Hid (true = r) := by show _ = _; rw [← HR.out]; rfl
    clear HR ht
    go_enter Tryz.func78, Tryz.ntmps78
    go_wp2_with fail
    refine (bare_is _ n a l c0 ⟨true, c, g, ra, rl, rc, rows, ca, cl, cc, cells, pa, pl, pc⟩ true HBB.out _).mono ?_
    rintro e w1 ⟨rfl, hb1⟩
    obtain ⟨⟨p0, p1, p2⟩, q0, q1, q2, q3, q4, q5⟩ := (HX.out _ hb1).out
    go_wp2_with fail
    go_ret
    exact ⟨rbool HR2.out, hB.out.trans (hb1.mono hB.out.size)⟩
end Go.Proofs.YtfkbkekgnoanaaaGreatDoor
namespace Go.Proofs.YtfkbkekgnoanaaaGreatDoor
open Go.RowKit
set_option linter.unusedVariables false
attribute [local go_sem ↓] Go.wp_at_zero Go.wp_at_succ
set_option maxRecDepth 100000 in
set_option maxHeartbeats 8000000 in
theorem isA_pair (d : Nat) (sa : Option Addr) (sc : Nat) (p q : SV) (g : WF) (qs : List WV) (w : World) (hsp : SIn w (d + 1) (.mk ⟨5, 0, sa, 2, sc⟩ [p, q])) (hp : p.pl = true) (hq : q.pl = true) (e : Nat) (hw : WIn w (e + 1) (.mk g qs)) (hs : ∀ x ∈ qs, x.f.rl ≤ 100) (r : Bool) (hr : pairOk p q g qs = r) :
    Calls Tryz.prog 78 #[.agg #[.int .i64 5, .int .i64 0, .slice sa 2 sc], g.val] w fun e w' => e = .returned (.bool r) ∧ Below w.heap.size w w' := by
  obtain ⟨_, b, off, ha, hb, hp3, hq3, _, _⟩ := hsp.two
  obtain rfl : sa = some ⟨b, off, none⟩ := ha
  obtain ⟨⟨pt, pn, pa, pl, pc⟩, pps⟩ := p
  obtain ⟨⟨qt, qn, qa, ql, qc⟩, qps⟩ := q
  have HP : Hid (plainB pt pn pl = true) := hp; have HQ : Hid (plainB qt qn ql = true) := hq; have HP3 := Lib.hid hp3; have HQ3 := Lib.hid hq3
  obtain ⟨gz, gc, gg, gra, grl, grc, grows, gca, gcl, gcc, gcells, gpa, gpl, gpc⟩ := g
  show Calls Tryz.prog 78 #[.agg #[.int .i64 5, .int .i64 0, .slice (some ⟨b, off, none⟩) 2 sc], .agg #[.bool gz, .int .i64 gc, .int .u64 (gg : Int), .slice gra grl grc, .slice gca gcl gcc, .slice gpa gpl gpc]] w _
  have hgl : qs.length = gpl := hw.2.1
  obtain ⟨bb, hbb⟩ : ∃ b, bareB 5 ⟨gz, gc, gg, gra, grl, grc, grows, gca, gcl, gcc, gcells, gpa, gpl, gpc⟩ = b := ⟨_, rfl⟩
  have HBB := Lib.hid hbb
  have hB := Lib.hid (wbox w #[.int .i64 5, .int .i64 0, .slice (some ⟨b, off, none⟩) 2 sc] #[.bool gz, .int .i64 gc, .int .u64 (gg : Int), .slice gra grl grc, .slice gca gcl gcc, .slice gpa gpl gpc] 25 48)
  obtain ⟨t0, t1⟩ := two_boxes2 w #[.int .i64 5, .int .i64 0, .slice (some ⟨b, off, none⟩) 2 sc] #[.bool gz, .int .i64 gc, .int .u64 (gg : Int), .slice gra grl grc, .slice gca gcl gcc, .slice gpa gpl gpc] 25 48
  have T0 := Lib.hid t0; have T1 := Lib.hid t1
  obtain ⟨W0, hW0⟩ : ∃ W, (w.alloc (.cells #[.int .i64 5, .int .i64 0, .slice (some ⟨b, off, none⟩) 2 sc] 25)).alloc (.cells #[.bool gz, .int .i64 gc, .int .u64 (gg : Int), .slice gra grl grc, .slice gca gcl gcc, .slice gpa gpl gpc] 48) = W := ⟨_, rfl⟩
  rw [hW0] at hB T0 T1
  obtain ⟨x0, x1, x2⟩ := tri_cells T0.out
  obtain ⟨y0, y1, y2, y3, y4, y5⟩ := six_cells T1.out
  have HR := Lib.hid hr
  cases bb
  · have HF : Hid (false = r) := by show _ = _; rw [← HR.out, pairOk, HBB.out]; rfl
    clear hr hbb hsp hw hs hp hq hp3 hq3
    go_enter Tryz.func78, Tryz.ntmps78
    go_wp2_with fail
    refine (bare_is 5 0 _ 2 sc ⟨gz, gc, gg, gra, grl, grc, grows, gca, gcl, gcc, gcells, gpa, gpl, gpc⟩ false HBB.out _).mono ?_
    rintro e w1 ⟨rfl, hb1⟩
    go_wp2_with fail
    go_ret
    exact ⟨rbool HF.out, hB.out.trans (hb1.mono hB.out.size)⟩
  cases gz
  rotate_left
  · have hzz := True.intro
    have HF : Hid (false = r) := by show _ = _; rw [← HR.out, pairOk]; simp
    clear hr hbb hsp hw hs hp hq hp3 hq3
    go_enter Tryz.func78, Tryz.ntmps78
    go_wp2_with fail
    refine (bare_is 5 0 _ 2 sc ⟨true, gc, gg, gra, grl, grc, grows, gca, gcl, gcc, gcells, gpa, gpl, gpc⟩ true HBB.out _).mono ?_
    rintro e w1 ⟨rfl, hb1⟩
    have hB1 := hB.out.trans (hb1.mono hB.out.size)
    have EN : Hid (∀ W : World, Below w1.heap.size w1 W → W.cell? ⟨w.heap.size, 0, none⟩ = some (.int .i64 5) ∧ W.cell? ⟨w.heap.size, 1, none⟩ = some (.int .i64 0) ∧ W.cell? ⟨w.heap.size, 2, none⟩ = some (.slice (some ⟨b, off, none⟩) 2 sc) ∧ W.cell? ⟨w.heap.size + 1, 0, none⟩ = some (.bool true) ∧ W.cell? ⟨w.heap.size + 1, 1, none⟩ = some (.int .i64 gc) ∧ W.cell? ⟨w.heap.size + 1, 2, none⟩ = some (.int .u64 (gg : Int)) ∧ W.cell? ⟨w.heap.size + 1, 3, none⟩ = some (.slice gra grl grc) ∧ W.cell? ⟨w.heap.size + 1, 4, none⟩ = some (.slice gca gcl gcc) ∧ W.cell? ⟨w.heap.size + 1, 5, none⟩ = some (.slice gpa gpl gpc)) := fun W h => by obtain ⟨a0, a1, a2⟩ := tri_cells (heap_old (heap_old T0.out hb1) h); obtain ⟨c0, c1, c2, c3, c4, c5⟩ := six_cells (heap_old (heap_old T1.out hb1) h); exact ⟨a0, a1, a2, c0, c1, c2, c3, c4, c5⟩
    clear x0 x1 x2 y0 y1 y2 y3 y4 y5
    obtain ⟨m0, m1, m2, m3, m4, m5, m6, m7, m8⟩ := EN.out _ (Below.refl _ _)
    go_wp2_with fail
    go_region
    all_goals (go_wp2_with fail; go_ret; exact ⟨rbool HF.out, by first | exact hB1 | exact hB1.drew⟩)
  by_cases hl2 : gpl = 2
  rotate_left
  · have hne : ((gpl : Int) == 2) = false := by simp; omega
    have HF : Hid (false = r) := by show _ = _; rw [← HR.out, pairOk, decide_eq_false (by omega)]; simp
    clear hr hbb hsp hw hs hp hq hp3 hq3
    go_enter Tryz.func78, Tryz.ntmps78
    go_wp2_with fail
    refine (bare_is 5 0 _ 2 sc ⟨false, gc, gg, gra, grl, grc, grows, gca, gcl, gcc, gcells, gpa, gpl, gpc⟩ true HBB.out _).mono ?_
    rintro e w1 ⟨rfl, hb1⟩
    have hB1 := hB.out.trans (hb1.mono hB.out.size)
    have EN : Hid (∀ W : World, Below w1.heap.size w1 W → W.cell? ⟨w.heap.size, 0, none⟩ = some (.int .i64 5) ∧ W.cell? ⟨w.heap.size, 1, none⟩ = some (.int .i64 0) ∧ W.cell? ⟨w.heap.size, 2, none⟩ = some (.slice (some ⟨b, off, none⟩) 2 sc) ∧ W.cell? ⟨w.heap.size + 1, 0, none⟩ = some (.bool false) ∧ W.cell? ⟨w.heap.size + 1, 1, none⟩ = some (.int .i64 gc) ∧ W.cell? ⟨w.heap.size + 1, 2, none⟩ = some (.int .u64 (gg : Int)) ∧ W.cell? ⟨w.heap.size + 1, 3, none⟩ = some (.slice gra grl grc) ∧ W.cell? ⟨w.heap.size + 1, 4, none⟩ = some (.slice gca gcl gcc) ∧ W.cell? ⟨w.heap.size + 1, 5, none⟩ = some (.slice gpa gpl gpc)) := fun W h => by obtain ⟨a0, a1, a2⟩ := tri_cells (heap_old (heap_old T0.out hb1) h); obtain ⟨c0, c1, c2, c3, c4, c5⟩ := six_cells (heap_old (heap_old T1.out hb1) h); exact ⟨a0, a1, a2, c0, c1, c2, c3, c4, c5⟩
    clear x0 x1 x2 y0 y1 y2 y3 y4 y5
    obtain ⟨m0, m1, m2, m3, m4, m5, m6, m7, m8⟩ := EN.out _ (Below.refl _ _)
    go_wp2_with fail
    go_region
    all_goals (go_wp2_with fail; go_ret; exact ⟨rbool HF.out, by first | exact hB1 | exact hB1.drew⟩)
  subst hl2
  obtain ⟨x, y, rfl⟩ := two_of hgl
  obtain ⟨_, b2, of2, ha2, hb2l, hx6, hy6, hxi, hyi⟩ := hw.two
  dsimp only at ha2
  subst ha2
  have XA := Lib.hid hxi.at_; have YA := Lib.hid hyi.at_
  have XS := Lib.hid (hs x (by simp)); have YS := Lib.hid (hs y (by simp))
  obtain ⟨⟨xz, xc, xg, xra, xrl, xrc, xrows, xca, xcl, xcc, xcells, xpa, xpl, xpc⟩, xps⟩ := x
  obtain ⟨⟨yz, yc, yg, yra, yrl, yrc, yrows, yca, ycl, ycc, ycells, ypa, ypl, ypc⟩, yps⟩ := y
  have HX6 := Lib.hid hx6; have HY6 := Lib.hid hy6
  have XSS : Hid (xrl ≤ 100) := XS.out; have YSS : Hid (yrl ≤ 100) := YS.out
  have XAA : Hid (WF.At w ⟨xz, xc, xg, xra, xrl, xrc, xrows, xca, xcl, xcc, xcells, xpa, xpl, xpc⟩) := XA.out; have YAA : Hid (WF.At w ⟨yz, yc, yg, yra, yrl, yrc, yrows, yca, ycl, ycc, ycells, ypa, ypl, ypc⟩) := YA.out
  clear XS YS XA YA
  obtain ⟨r1, hr1⟩ : ∃ o, pwOk pt pn ⟨xz, xc, xg, xra, xrl, xrc, xrows, xca, xcl, xcc, xcells, xpa, xpl, xpc⟩ = o := ⟨_, rfl⟩
  obtain ⟨r2, hr2⟩ : ∃ o, pwOk qt qn ⟨yz, yc, yg, yra, yrl, yrc, yrows, yca, ycl, ycc, ycells, ypa, ypl, ypc⟩ = o := ⟨_, rfl⟩
  have HR1 := Lib.hid hr1; have HR2 := Lib.hid hr2
  have HRR : Hid ((r1 && r2) = r) := by show _ = _; rw [← HR.out, pairOk, HBB.out]; simp [pwAt, SV.f, WV.f, hr1, hr2]
  clear hr hbb hsp hw hs hp hq hp3 hq3 hx6 hy6 hxi hyi hr1 hr2 hgl HR
  cases r1
  · have HF : Hid (false = r) := by show _ = _; rw [← HRR.out]; simp
    go_enter Tryz.func78, Tryz.ntmps78
    go_wp2_with fail
    refine (bare_is 5 0 _ 2 sc ⟨false, gc, gg, gra, grl, grc, grows, gca, gcl, gcc, gcells, (some ⟨b2, of2, none⟩), 2, gpc⟩ true HBB.out _).mono ?_
    rintro e w1 ⟨rfl, hb1⟩
    have hB1 := hB.out.trans (hb1.mono hB.out.size)
    have EN : Hid (∀ W : World, Below w1.heap.size w1 W → W.cell? ⟨w.heap.size, 0, none⟩ = some (.int .i64 5) ∧ W.cell? ⟨w.heap.size, 1, none⟩ = some (.int .i64 0) ∧ W.cell? ⟨w.heap.size, 2, none⟩ = some (.slice (some ⟨b, off, none⟩) 2 sc) ∧ W.cell? ⟨w.heap.size + 1, 0, none⟩ = some (.bool false) ∧ W.cell? ⟨w.heap.size + 1, 1, none⟩ = some (.int .i64 gc) ∧ W.cell? ⟨w.heap.size + 1, 2, none⟩ = some (.int .u64 (gg : Int)) ∧ W.cell? ⟨w.heap.size + 1, 3, none⟩ = some (.slice gra grl grc) ∧ W.cell? ⟨w.heap.size + 1, 4, none⟩ = some (.slice gca gcl gcc) ∧ W.cell? ⟨w.heap.size + 1, 5, none⟩ = some (.slice (some ⟨b2, of2, none⟩) 2 gpc) ∧ W.cell? ⟨b, off, none⟩ = some (.int .i64 pt) ∧ W.cell? ⟨b, off + 1, none⟩ = some (.int .i64 pn) ∧ W.cell? ⟨b, off + 2, none⟩ = some (.slice pa pl pc) ∧ W.cell? ⟨b, off + 3, none⟩ = some (.int .i64 qt) ∧ W.cell? ⟨b, off + 4, none⟩ = some (.int .i64 qn) ∧ W.cell? ⟨b, off + 5, none⟩ = some (.slice qa ql qc) ∧ W.cell? ⟨b2, of2, none⟩ = some (.bool xz) ∧ W.cell? ⟨b2, of2 + 1, none⟩ = some (.int .i64 xc) ∧ W.cell? ⟨b2, of2 + 2, none⟩ = some (.int .u64 (xg : Int)) ∧ W.cell? ⟨b2, of2 + 3, none⟩ = some (.slice xra xrl xrc) ∧ W.cell? ⟨b2, of2 + 4, none⟩ = some (.slice xca xcl xcc) ∧ W.cell? ⟨b2, of2 + 5, none⟩ = some (.slice xpa xpl xpc) ∧ W.cell? ⟨b2, of2 + 6, none⟩ = some (.bool yz) ∧ W.cell? ⟨b2, of2 + 7, none⟩ = some (.int .i64 yc) ∧ W.cell? ⟨b2, of2 + 8, none⟩ = some (.int .u64 (yg : Int)) ∧ W.cell? ⟨b2, of2 + 9, none⟩ = some (.slice yra yrl yrc) ∧ W.cell? ⟨b2, of2 + 10, none⟩ = some (.slice yca ycl ycc) ∧ W.cell? ⟨b2, of2 + 11, none⟩ = some (.slice ypa ypl ypc)) := fun W h => by
      obtain ⟨a0, a1, a2⟩ := tri_cells (heap_old (heap_old T0.out hb1) h); obtain ⟨c0, c1, c2, c3, c4, c5⟩ := six_cells (heap_old (heap_old T1.out hb1) h)
      have hww : Below w.heap.size w W := hB1.trans (h.mono hB1.size)
      obtain ⟨d0, d1, d2⟩ := HP3.out.below hww; obtain ⟨e0, e1, e2⟩ := HQ3.out.below hww; obtain ⟨f0, f1, f2, f3, f4, f5⟩ := HX6.out.below hww; obtain ⟨g0, g1, g2, g3, g4, g5⟩ := HY6.out.below hww
      exact ⟨a0, a1, a2, c0, c1, c2, c3, c4, c5, d0, d1, d2, e0, e1, e2, f0, f1, f2, f3, f4, f5, g0, g1, g2, g3, g4, g5⟩
    clear x0 x1 x2 y0 y1 y2 y3 y4 y5
    obtain ⟨m0, m1, m2, m3, m4, m5, m6, m7, m8, m9, m10, m11, m12, m13, m14, m15, m16, m17, m18, m19, m20, m21, m22, m23, m24, m25, m26⟩ := EN.out _ (Below.refl _ _)
    have D0 : Hid (Below w1.heap.size w1 w1.drew) := (Below.refl _ _).drew
    go_wp2_with fail
    refine wp_region_held_drew (S := (fun w' => w'.cell? ⟨w.heap.size, 0, none⟩ = some (.int .i64 5) ∧ w'.cell? ⟨w.heap.size, 1, none⟩ = some (.int .i64 0) ∧ w'.cell? ⟨w.heap.size, 2, none⟩ = some (.slice (some ⟨b, off, none⟩) 2 sc) ∧ w'.cell? ⟨w.heap.size + 1, 0, none⟩ = some (.bool false) ∧ w'.cell? ⟨w.heap.size + 1, 1, none⟩ = some (.int .i64 gc) ∧ w'.cell? ⟨w.heap.size + 1, 2, none⟩ = some (.int .u64 (gg : Int)) ∧ w'.cell? ⟨w.heap.size + 1, 3, none⟩ = some (.slice gra grl grc) ∧ w'.cell? ⟨w.heap.size + 1, 4, none⟩ = some (.slice gca gcl gcc) ∧ w'.cell? ⟨w.heap.size + 1, 5, none⟩ = some (.slice (some ⟨b2, of2, none⟩) 2 gpc) ∧ w'.cell? ⟨b, off, none⟩ = some (.int .i64 pt) ∧ w'.cell? ⟨b, off + 1, none⟩ = some (.int .i64 pn) ∧ w'.cell? ⟨b, off + 2, none⟩ = some (.slice pa pl pc) ∧ w'.cell? ⟨b, off + 3, none⟩ = some (.int .i64 qt) ∧ w'.cell? ⟨b, off + 4, none⟩ = some (.int .i64 qn) ∧ w'.cell? ⟨b, off + 5, none⟩ = some (.slice qa ql qc) ∧ w'.cell? ⟨b2, of2, none⟩ = some (.bool xz) ∧ w'.cell? ⟨b2, of2 + 1, none⟩ = some (.int .i64 xc) ∧ w'.cell? ⟨b2, of2 + 2, none⟩ = some (.int .u64 (xg : Int)) ∧ w'.cell? ⟨b2, of2 + 3, none⟩ = some (.slice xra xrl xrc) ∧ w'.cell? ⟨b2, of2 + 4, none⟩ = some (.slice xca xcl xcc) ∧ w'.cell? ⟨b2, of2 + 5, none⟩ = some (.slice xpa xpl xpc) ∧ w'.cell? ⟨b2, of2 + 6, none⟩ = some (.bool yz) ∧ w'.cell? ⟨b2, of2 + 7, none⟩ = some (.int .i64 yc) ∧ w'.cell? ⟨b2, of2 + 8, none⟩ = some (.int .u64 (yg : Int)) ∧ w'.cell? ⟨b2, of2 + 9, none⟩ = some (.slice yra yrl yrc) ∧ w'.cell? ⟨b2, of2 + 10, none⟩ = some (.slice yca ycl ycc) ∧ w'.cell? ⟨b2, of2 + 11, none⟩ = some (.slice ypa ypl ypc))) (by kernel_rfl) (by with_reducible exact EN.out _ D0.out) (fun hHeld => ?_)
    refine wpAnyH_take (i := 0) (oi := { dst := some 12, op := Op.fieldAddr 48 (Operand.tmp 3) 0, type := 0, pos := "weight.go:68", after := #[], guard := none }) (v := ?v0x1) rfl (by kernel_rfl) (by kernel_rfl) (by kernel_rfl) (fun _ _ _ h => h) (Or.inl ⟨by rfl, ?hy0x1⟩) (by assumption) ?rest0x1
    case hy0x1 => (intro w hSw; (try dsimp only at hSw); go_simp; try with_reducible rfl)
    try simp only [Act.put, List.setIfInBounds_toArray, List.set_cons_zero, List.set_cons_succ]
    refine wpAnyH_take (i := 1) (oi := { dst := some 13, op := Op.load 4 (Operand.tmp 12), type := 4, pos := "weight.go:68", after := #[{ on := 0, ground := Ground.data }], guard := none }) (v := ?v1x1) rfl (by kernel_rfl) (by kernel_rfl) (by kernel_rfl) (fun _ _ _ h => h) (Or.inl ⟨by rfl, ?hy1x1⟩) (by assumption) ?rest1x1
    case hy1x1 => (intro w hSw; (try dsimp only at hSw); go_simp; try with_reducible rfl)
    try simp only [Act.put, List.setIfInBounds_toArray, List.set_cons_zero, List.set_cons_succ]
    refine wpAnyH_take (i := 2) (oi := { dst := some 14, op := Op.unOp UnOp.not 4 (Operand.tmp 13), type := 4, pos := "weight.go:68", after := #[{ on := 1, ground := Ground.data }], guard := none }) (v := ?v2x1) rfl (by kernel_rfl) (by kernel_rfl) (by kernel_rfl) (fun _ _ _ h => h) (Or.inl ⟨by rfl, ?hy2x1⟩) (by assumption) ?rest2x1
    case hy2x1 => (intro w hSw; (try dsimp only at hSw); go_simp; try with_reducible rfl)
    try simp only [Act.put, List.setIfInBounds_toArray, List.set_cons_zero, List.set_cons_succ]
    refine wpAnyH_take (i := 3) (oi := { dst := some 15, op := Op.move (Operand.tmp 14), type := 4, pos := "weight.go:68", after := #[{ on := 2, ground := Ground.data }], guard := none }) (v := ?v3x1) rfl (by kernel_rfl) (by kernel_rfl) (by kernel_rfl) (fun _ _ _ h => h) (Or.inl ⟨by rfl, ?hy3x1⟩) (by assumption) ?rest3x1
    case hy3x1 => (intro w hSw; (try dsimp only at hSw); go_simp; try with_reducible rfl)
    try simp only [Act.put, List.setIfInBounds_toArray, List.set_cons_zero, List.set_cons_succ]
    refine wpAnyH_take (i := 4) (oi := { dst := some 16, op := Op.fieldAddr 48 (Operand.tmp 3) 4, type := 0, pos := "weight.go:68", after := #[{ on := 3, ground := Ground.guard }], guard := some (3, true) }) (v := ?v4x1) rfl (by kernel_rfl) (by kernel_rfl) (by kernel_rfl) (fun _ _ _ h => h) (Or.inl ⟨by rfl, ?hy4x1⟩) (by assumption) ?rest4x1
    case hy4x1 => (intro w hSw; (try dsimp only at hSw); go_simp; try with_reducible rfl)
    try simp only [Act.put, List.setIfInBounds_toArray, List.set_cons_zero, List.set_cons_succ]
    refine wpAnyH_take (i := 5) (oi := { dst := some 17, op := Op.load 46 (Operand.tmp 16), type := 46, pos := "weight.go:68", after := #[{ on := 4, ground := Ground.data }, { on := 3, ground := Ground.guard }], guard := some (3, true) }) (v := ?v5x1) rfl (by kernel_rfl) (by kernel_rfl) (by kernel_rfl) (fun _ _ _ h => h) (Or.inl ⟨by rfl, ?hy5x1⟩) (by assumption) ?rest5x1
    case hy5x1 => (intro w hSw; (try dsimp only at hSw); go_simp; try with_reducible rfl)
    try simp only [Act.put, List.setIfInBounds_toArray, List.set_cons_zero, List.set_cons_succ]
    refine wpAnyH_take (i := 6) (oi := { dst := some 18, op := Op.call { callee := Callee.builtin Builtin.len, args := #[Operand.tmp 17], argTypes := #[46] }, type := 3, pos := "weight.go:68", after := #[{ on := 5, ground := Ground.data }, { on := 3, ground := Ground.guard }], guard := some (3, true) }) (v := ?v6x1) rfl (by kernel_rfl) (by kernel_rfl) (by kernel_rfl) (fun _ _ _ h => h) (Or.inl ⟨by rfl, ?hy6x1⟩) (by assumption) ?rest6x1
    case hy6x1 => (intro w hSw; (try dsimp only at hSw); go_simp; try with_reducible rfl)
    try simp only [Act.put, List.setIfInBounds_toArray, List.set_cons_zero, List.set_cons_succ]
    refine wpAnyH_take (i := 7) (oi := { dst := some 19, op := Op.binOp BinOp.eql 3 (Operand.tmp 18) (Operand.const (Value.int IntKind.i64 2)) 3, type := 4, pos := "weight.go:68", after := #[{ on := 6, ground := Ground.data }, { on := 3, ground := Ground.guard }], guard := some (3, true) }) (v := ?v7x1) rfl (by kernel_rfl) (by kernel_rfl) (by kernel_rfl) (fun _ _ _ h => h) (Or.inl ⟨by rfl, ?hy7x1⟩) (by assumption) ?rest7x1
    case hy7x1 => (intro w hSw; (try dsimp only at hSw); go_simp; try with_reducible rfl)
    try simp only [Act.put, List.setIfInBounds_toArray, List.set_cons_zero, List.set_cons_succ]
    refine wpAnyH_take (i := 8) (oi := { dst := some 20, op := Op.pick (Operand.tmp 15) (Operand.tmp 19) (Operand.const (Value.bool false)), type := 4, pos := "weight.go:68", after := #[{ on := 3, ground := Ground.data }, { on := 7, ground := Ground.data }], guard := none }) (v := ?v8x1) rfl (by kernel_rfl) (by kernel_rfl) (by kernel_rfl) (fun _ _ _ h => h) (Or.inl ⟨by rfl, ?hy8x1⟩) (by assumption) ?rest8x1
    case hy8x1 => (intro w hSw; (try dsimp only at hSw); go_simp; try with_reducible rfl)
    try simp only [Act.put, List.setIfInBounds_toArray, List.set_cons_zero, List.set_cons_succ]
    refine wpAnyH_take (i := 9) (oi := { dst := some 21, op := Op.move (Operand.tmp 20), type := 4, pos := "weight.go:68", after := #[{ on := 8, ground := Ground.data }, { on := 3, ground := Ground.chain }], guard := none }) (v := ?v9x1) rfl (by kernel_rfl) (by kernel_rfl) (by kernel_rfl) (fun _ _ _ h => h) (Or.inl ⟨by rfl, ?hy9x1⟩) (by assumption) ?rest9x1
    case hy9x1 => (intro w hSw; (try dsimp only at hSw); go_simp; try with_reducible rfl)
    try simp only [Act.put, List.setIfInBounds_toArray, List.set_cons_zero, List.set_cons_succ]
    refine wpAnyH_take (i := 10) (oi := { dst := some 22, op := Op.fieldAddr 25 (Operand.tmp 2) 2, type := 0, pos := "weight.go:68", after := #[{ on := 9, ground := Ground.guard }], guard := some (9, true) }) (v := ?v10x1) rfl (by kernel_rfl) (by kernel_rfl) (by kernel_rfl) (fun _ _ _ h => h) (Or.inl ⟨by rfl, ?hy10x1⟩) (by assumption) ?rest10x1
    case hy10x1 => (intro w hSw; (try dsimp only at hSw); go_simp; try with_reducible rfl)
    try simp only [Act.put, List.setIfInBounds_toArray, List.set_cons_zero, List.set_cons_succ]
    refine wpAnyH_take (i := 11) (oi := { dst := some 23, op := Op.load 23 (Operand.tmp 22), type := 23, pos := "weight.go:68", after := #[{ on := 10, ground := Ground.data }, { on := 9, ground := Ground.guard }], guard := some (9, true) }) (v := ?v11x1) rfl (by kernel_rfl) (by kernel_rfl) (by kernel_rfl) (fun _ _ _ h => h) (Or.inl ⟨by rfl, ?hy11x1⟩) (by assumption) ?rest11x1
    case hy11x1 => (intro w hSw; (try dsimp only at hSw); go_simp; try with_reducible rfl)
    try simp only [Act.put, List.setIfInBounds_toArray, List.set_cons_zero, List.set_cons_succ]
    refine wpAnyH_take (i := 12) (oi := { dst := some 24, op := Op.indexAddr 23 (Operand.tmp 23) (Operand.const (Value.int IntKind.i64 0)), type := 0, pos := "weight.go:68", after := #[{ on := 11, ground := Ground.data }, { on := 9, ground := Ground.guard }], guard := some (9, true) }) (v := ?v12x1) rfl (by kernel_rfl) (by kernel_rfl) (by kernel_rfl) (fun _ _ _ h => h) (Or.inl ⟨by rfl, ?hy12x1⟩) (by assumption) ?rest12x1
    case hy12x1 => (intro w hSw; (try dsimp only at hSw); go_simp; try with_reducible rfl)
    try simp only [Act.put, List.setIfInBounds_toArray, List.set_cons_zero, List.set_cons_succ]
    refine wpAnyH_take (i := 13) (oi := { dst := some 25, op := Op.load 25 (Operand.tmp 24), type := 25, pos := "weight.go:68", after := #[{ on := 12, ground := Ground.data }, { on := 9, ground := Ground.guard }], guard := some (9, true) }) (v := ?v13x1) rfl (by kernel_rfl) (by kernel_rfl) (by kernel_rfl) (fun _ _ _ h => h) (Or.inl ⟨by rfl, ?hy13x1⟩) (by assumption) ?rest13x1
    case hy13x1 => (intro w hSw; (try dsimp only at hSw); go_simp; try with_reducible rfl)
    try simp only [Act.put, List.setIfInBounds_toArray, List.set_cons_zero, List.set_cons_succ]
    refine wpAnyH_take (i := 14) (oi := { dst := some 26, op := Op.fieldAddr 48 (Operand.tmp 3) 4, type := 0, pos := "weight.go:68", after := #[{ on := 9, ground := Ground.guard }], guard := some (9, true) }) (v := ?v14x1) rfl (by kernel_rfl) (by kernel_rfl) (by kernel_rfl) (fun _ _ _ h => h) (Or.inl ⟨by rfl, ?hy14x1⟩) (by assumption) ?rest14x1
    case hy14x1 => (intro w hSw; (try dsimp only at hSw); go_simp; try with_reducible rfl)
    try simp only [Act.put, List.setIfInBounds_toArray, List.set_cons_zero, List.set_cons_succ]
    refine wpAnyH_take (i := 15) (oi := { dst := some 27, op := Op.load 46 (Operand.tmp 26), type := 46, pos := "weight.go:68", after := #[{ on := 14, ground := Ground.data }, { on := 9, ground := Ground.guard }], guard := some (9, true) }) (v := ?v15x1) rfl (by kernel_rfl) (by kernel_rfl) (by kernel_rfl) (fun _ _ _ h => h) (Or.inl ⟨by rfl, ?hy15x1⟩) (by assumption) ?rest15x1
    case hy15x1 => (intro w hSw; (try dsimp only at hSw); go_simp; try with_reducible rfl)
    try simp only [Act.put, List.setIfInBounds_toArray, List.set_cons_zero, List.set_cons_succ]
    refine wpAnyH_take (i := 16) (oi := { dst := some 28, op := Op.indexAddr 46 (Operand.tmp 27) (Operand.const (Value.int IntKind.i64 0)), type := 0, pos := "weight.go:68", after := #[{ on := 15, ground := Ground.data }, { on := 9, ground := Ground.guard }], guard := some (9, true) }) (v := ?v16x1) rfl (by kernel_rfl) (by kernel_rfl) (by kernel_rfl) (fun _ _ _ h => h) (Or.inl ⟨by rfl, ?hy16x1⟩) (by assumption) ?rest16x1
    case hy16x1 => (intro w hSw; (try dsimp only at hSw); go_simp; try with_reducible rfl)
    try simp only [Act.put, List.setIfInBounds_toArray, List.set_cons_zero, List.set_cons_succ]
    refine wpAnyH_take (i := 17) (oi := { dst := some 29, op := Op.load 48 (Operand.tmp 28), type := 48, pos := "weight.go:68", after := #[{ on := 16, ground := Ground.data }, { on := 9, ground := Ground.guard }], guard := some (9, true) }) (v := ?v17x1) rfl (by kernel_rfl) (by kernel_rfl) (by kernel_rfl) (fun _ _ _ h => h) (Or.inl ⟨by rfl, ?hy17x1⟩) (by assumption) ?rest17x1
    case hy17x1 => (intro w hSw; (try dsimp only at hSw); go_simp; try with_reducible rfl)
    try simp only [Act.put, List.setIfInBounds_toArray, List.set_cons_zero, List.set_cons_succ]
    refine wpAnyH_ready (rs := [18]) (by kernel_rfl) (by simp) (AllReadyH.cons (o := { dst := some 30, op := Op.call { callee := Callee.value (Operand.func 78), args := #[Operand.tmp 25, Operand.tmp 29], argTypes := #[25, 48] }, type := 4, pos := "weight.go:68", after := #[{ on := 13, ground := Ground.data }, { on := 17, ground := Ground.data }, { on := 9, ground := Ground.chain }, { on := 9, ground := Ground.guard }], guard := some (9, true) }) rfl (fun K hK => ?_) AllReadyH.nil)
    go_simp
    go_at_call 78
    with_reducible refine (isA_plain pt pn pa pl pc ⟨xz, xc, xg, xra, xrl, xrc, xrows, xca, xcl, xcc, xcells, xpa, xpl, xpc⟩ HP.out XSS.out _ (XAA.out.below (hB1.trans ((D0.out).mono hB1.size))) false HR1.out).mono ?_
    rintro e z1 ⟨rfl, hz1⟩
    have D1 : Hid (Below w1.heap.size w1 z1) := Lib.hid (D0.out.trans (hz1.mono D0.out.size))
    dsimp only
    refine hK.out _ _ (by with_reducible exact EN.out _ D1.out) (fun hHeld1 => ?_)
    clear hK K
    try simp only [Act.put, List.setIfInBounds_toArray, List.set_cons_zero, List.set_cons_succ]
    refine wpAnyH_take (i := 19) (oi := { dst := some 31, op := Op.pick (Operand.tmp 21) (Operand.tmp 30) (Operand.const (Value.bool false)), type := 4, pos := "weight.go:68", after := #[{ on := 9, ground := Ground.data }, { on := 18, ground := Ground.data }], guard := none }) (v := ?v19x1) rfl (by kernel_rfl) (by kernel_rfl) (by kernel_rfl) (fun _ _ _ h => h) (Or.inl ⟨by rfl, ?hy19x1⟩) (by assumption) ?rest19x1
    case hy19x1 => (intro w hSw; (try dsimp only at hSw); go_simp; try with_reducible rfl)
    try simp only [Act.put, List.setIfInBounds_toArray, List.set_cons_zero, List.set_cons_succ]
    refine wpAnyH_take (i := 20) (oi := { dst := some 32, op := Op.move (Operand.tmp 31), type := 4, pos := "weight.go:68", after := #[{ on := 19, ground := Ground.data }, { on := 18, ground := Ground.chain }], guard := none }) (v := ?v20x1) rfl (by kernel_rfl) (by kernel_rfl) (by kernel_rfl) (fun _ _ _ h => h) (Or.inl ⟨by rfl, ?hy20x1⟩) (by assumption) ?rest20x1
    case hy20x1 => (intro w hSw; (try dsimp only at hSw); go_simp; try with_reducible rfl)
    try simp only [Act.put, List.setIfInBounds_toArray, List.set_cons_zero, List.set_cons_succ]
    refine wpAnyH_take (i := 21) (oi := { dst := some 33, op := Op.fieldAddr 25 (Operand.tmp 2) 2, type := 0, pos := "weight.go:68", after := #[{ on := 20, ground := Ground.guard }], guard := some (20, true) }) (v := undef) rfl (by kernel_rfl) (by kernel_rfl) (by kernel_rfl) (fun _ _ _ h => h) (Or.inr ⟨by rfl, rfl⟩) (by assumption) ?rest21x1
    try simp only [Act.put, List.setIfInBounds_toArray, List.set_cons_zero, List.set_cons_succ]
    refine wpAnyH_take (i := 22) (oi := { dst := some 34, op := Op.load 23 (Operand.tmp 33), type := 23, pos := "weight.go:68", after := #[{ on := 21, ground := Ground.data }, { on := 20, ground := Ground.guard }], guard := some (20, true) }) (v := undef) rfl (by kernel_rfl) (by kernel_rfl) (by kernel_rfl) (fun _ _ _ h => h) (Or.inr ⟨by rfl, rfl⟩) (by assumption) ?rest22x1
    try simp only [Act.put, List.setIfInBounds_toArray, List.set_cons_zero, List.set_cons_succ]
    refine wpAnyH_take (i := 23) (oi := { dst := some 35, op := Op.indexAddr 23 (Operand.tmp 34) (Operand.const (Value.int IntKind.i64 1)), type := 0, pos := "weight.go:68", after := #[{ on := 22, ground := Ground.data }, { on := 20, ground := Ground.guard }], guard := some (20, true) }) (v := undef) rfl (by kernel_rfl) (by kernel_rfl) (by kernel_rfl) (fun _ _ _ h => h) (Or.inr ⟨by rfl, rfl⟩) (by assumption) ?rest23x1
    try simp only [Act.put, List.setIfInBounds_toArray, List.set_cons_zero, List.set_cons_succ]
    refine wpAnyH_take (i := 24) (oi := { dst := some 36, op := Op.load 25 (Operand.tmp 35), type := 25, pos := "weight.go:68", after := #[{ on := 23, ground := Ground.data }, { on := 20, ground := Ground.guard }], guard := some (20, true) }) (v := undef) rfl (by kernel_rfl) (by kernel_rfl) (by kernel_rfl) (fun _ _ _ h => h) (Or.inr ⟨by rfl, rfl⟩) (by assumption) ?rest24x1
    try simp only [Act.put, List.setIfInBounds_toArray, List.set_cons_zero, List.set_cons_succ]
    refine wpAnyH_take (i := 25) (oi := { dst := some 37, op := Op.fieldAddr 48 (Operand.tmp 3) 4, type := 0, pos := "weight.go:68", after := #[{ on := 20, ground := Ground.guard }], guard := some (20, true) }) (v := undef) rfl (by kernel_rfl) (by kernel_rfl) (by kernel_rfl) (fun _ _ _ h => h) (Or.inr ⟨by rfl, rfl⟩) (by assumption) ?rest25x1
    try simp only [Act.put, List.setIfInBounds_toArray, List.set_cons_zero, List.set_cons_succ]
    refine wpAnyH_take (i := 26) (oi := { dst := some 38, op := Op.load 46 (Operand.tmp 37), type := 46, pos := "weight.go:68", after := #[{ on := 25, ground := Ground.data }, { on := 20, ground := Ground.guard }], guard := some (20, true) }) (v := undef) rfl (by kernel_rfl) (by kernel_rfl) (by kernel_rfl) (fun _ _ _ h => h) (Or.inr ⟨by rfl, rfl⟩) (by assumption) ?rest26x1
    try simp only [Act.put, List.setIfInBounds_toArray, List.set_cons_zero, List.set_cons_succ]
    refine wpAnyH_take (i := 27) (oi := { dst := some 39, op := Op.indexAddr 46 (Operand.tmp 38) (Operand.const (Value.int IntKind.i64 1)), type := 0, pos := "weight.go:68", after := #[{ on := 26, ground := Ground.data }, { on := 20, ground := Ground.guard }], guard := some (20, true) }) (v := undef) rfl (by kernel_rfl) (by kernel_rfl) (by kernel_rfl) (fun _ _ _ h => h) (Or.inr ⟨by rfl, rfl⟩) (by assumption) ?rest27x1
    try simp only [Act.put, List.setIfInBounds_toArray, List.set_cons_zero, List.set_cons_succ]
    refine wpAnyH_take (i := 28) (oi := { dst := some 40, op := Op.load 48 (Operand.tmp 39), type := 48, pos := "weight.go:68", after := #[{ on := 27, ground := Ground.data }, { on := 20, ground := Ground.guard }], guard := some (20, true) }) (v := undef) rfl (by kernel_rfl) (by kernel_rfl) (by kernel_rfl) (fun _ _ _ h => h) (Or.inr ⟨by rfl, rfl⟩) (by assumption) ?rest28x1
    try simp only [Act.put, List.setIfInBounds_toArray, List.set_cons_zero, List.set_cons_succ]
    refine wpAnyH_take (i := 29) (oi := { dst := some 41, op := Op.call { callee := Callee.value (Operand.func 78), args := #[Operand.tmp 36, Operand.tmp 40], argTypes := #[25, 48] }, type := 4, pos := "weight.go:68", after := #[{ on := 24, ground := Ground.data }, { on := 28, ground := Ground.data }, { on := 20, ground := Ground.chain }, { on := 20, ground := Ground.guard }], guard := some (20, true) }) (v := undef) rfl (by kernel_rfl) (by kernel_rfl) (by kernel_rfl) (fun _ _ _ h => h) (Or.inr ⟨by rfl, rfl⟩) (by assumption) ?rest29x1
    try simp only [Act.put, List.setIfInBounds_toArray, List.set_cons_zero, List.set_cons_succ]
    refine wpAnyH_take (i := 30) (oi := { dst := some 42, op := Op.pick (Operand.tmp 32) (Operand.tmp 41) (Operand.const (Value.bool false)), type := 4, pos := "weight.go:68", after := #[{ on := 20, ground := Ground.data }, { on := 29, ground := Ground.data }], guard := none }) (v := ?v30x1) rfl (by kernel_rfl) (by kernel_rfl) (by kernel_rfl) (fun _ _ _ h => h) (Or.inl ⟨by rfl, ?hy30x1⟩) (by assumption) ?rest30x1
    case hy30x1 => (intro w hSw; (try dsimp only at hSw); go_simp; try with_reducible rfl)
    try simp only [Act.put, List.setIfInBounds_toArray, List.set_cons_zero, List.set_cons_succ]
    refine wpAnyH_take (i := 31) (oi := { dst := some 4, op := Op.assign (Operand.tmp 42), type := 4, pos := "weight.go:68", after := #[{ on := 30, ground := Ground.data }, { on := 29, ground := Ground.chain }, { on := 0, ground := Ground.phase }, { on := 1, ground := Ground.phase }, { on := 2, ground := Ground.phase }, { on := 3, ground := Ground.phase }, { on := 4, ground := Ground.phase }, { on := 5, ground := Ground.phase }, { on := 6, ground := Ground.phase }, { on := 7, ground := Ground.phase }, { on := 8, ground := Ground.phase }, { on := 9, ground := Ground.phase }, { on := 10, ground := Ground.phase }, { on := 11, ground := Ground.phase }, { on := 12, ground := Ground.phase }, { on := 13, ground := Ground.phase }, { on := 14, ground := Ground.phase }, { on := 15, ground := Ground.phase }, { on := 16, ground := Ground.phase }, { on := 17, ground := Ground.phase }, { on := 18, ground := Ground.phase }, { on := 19, ground := Ground.phase }, { on := 20, ground := Ground.phase }, { on := 21, ground := Ground.phase }, { on := 22, ground := Ground.phase }, { on := 23, ground := Ground.phase }, { on := 24, ground := Ground.phase }, { on := 25, ground := Ground.phase }, { on := 26, ground := Ground.phase }, { on := 27, ground := Ground.phase }, { on := 28, ground := Ground.phase }, { on := 29, ground := Ground.phase }, { on := 30, ground := Ground.phase }], guard := none }) (v := ?v31x1) rfl (by kernel_rfl) (by kernel_rfl) (by kernel_rfl) (fun _ _ _ h => h) (Or.inl ⟨by rfl, ?hy31x1⟩) (by assumption) ?rest31x1
    case hy31x1 => (intro w hSw; (try dsimp only at hSw); go_simp; try with_reducible rfl)
    try simp only [Act.put, List.setIfInBounds_toArray, List.set_cons_zero, List.set_cons_succ]
    refine wpAnyH_done (by kernel_rfl) ?_ _
    all_goals (go_wp2_with fail; go_ret; exact ⟨rbool HF.out, hB1.trans (D1.out.mono hB1.size)⟩)
  · have HF : Hid (r2 = r) := by show _ = _; rw [← HRR.out]; simp
    go_enter Tryz.func78, Tryz.ntmps78
    go_wp2_with fail
    refine (bare_is 5 0 _ 2 sc ⟨false, gc, gg, gra, grl, grc, grows, gca, gcl, gcc, gcells, (some ⟨b2, of2, none⟩), 2, gpc⟩ true HBB.out _).mono ?_
    rintro e w1 ⟨rfl, hb1⟩
    have hB1 := hB.out.trans (hb1.mono hB.out.size)
    have EN : Hid (∀ W : World, Below w1.heap.size w1 W → W.cell? ⟨w.heap.size, 0, none⟩ = some (.int .i64 5) ∧ W.cell? ⟨w.heap.size, 1, none⟩ = some (.int .i64 0) ∧ W.cell? ⟨w.heap.size, 2, none⟩ = some (.slice (some ⟨b, off, none⟩) 2 sc) ∧ W.cell? ⟨w.heap.size + 1, 0, none⟩ = some (.bool false) ∧ W.cell? ⟨w.heap.size + 1, 1, none⟩ = some (.int .i64 gc) ∧ W.cell? ⟨w.heap.size + 1, 2, none⟩ = some (.int .u64 (gg : Int)) ∧ W.cell? ⟨w.heap.size + 1, 3, none⟩ = some (.slice gra grl grc) ∧ W.cell? ⟨w.heap.size + 1, 4, none⟩ = some (.slice gca gcl gcc) ∧ W.cell? ⟨w.heap.size + 1, 5, none⟩ = some (.slice (some ⟨b2, of2, none⟩) 2 gpc) ∧ W.cell? ⟨b, off, none⟩ = some (.int .i64 pt) ∧ W.cell? ⟨b, off + 1, none⟩ = some (.int .i64 pn) ∧ W.cell? ⟨b, off + 2, none⟩ = some (.slice pa pl pc) ∧ W.cell? ⟨b, off + 3, none⟩ = some (.int .i64 qt) ∧ W.cell? ⟨b, off + 4, none⟩ = some (.int .i64 qn) ∧ W.cell? ⟨b, off + 5, none⟩ = some (.slice qa ql qc) ∧ W.cell? ⟨b2, of2, none⟩ = some (.bool xz) ∧ W.cell? ⟨b2, of2 + 1, none⟩ = some (.int .i64 xc) ∧ W.cell? ⟨b2, of2 + 2, none⟩ = some (.int .u64 (xg : Int)) ∧ W.cell? ⟨b2, of2 + 3, none⟩ = some (.slice xra xrl xrc) ∧ W.cell? ⟨b2, of2 + 4, none⟩ = some (.slice xca xcl xcc) ∧ W.cell? ⟨b2, of2 + 5, none⟩ = some (.slice xpa xpl xpc) ∧ W.cell? ⟨b2, of2 + 6, none⟩ = some (.bool yz) ∧ W.cell? ⟨b2, of2 + 7, none⟩ = some (.int .i64 yc) ∧ W.cell? ⟨b2, of2 + 8, none⟩ = some (.int .u64 (yg : Int)) ∧ W.cell? ⟨b2, of2 + 9, none⟩ = some (.slice yra yrl yrc) ∧ W.cell? ⟨b2, of2 + 10, none⟩ = some (.slice yca ycl ycc) ∧ W.cell? ⟨b2, of2 + 11, none⟩ = some (.slice ypa ypl ypc)) := fun W h => by
      obtain ⟨a0, a1, a2⟩ := tri_cells (heap_old (heap_old T0.out hb1) h); obtain ⟨c0, c1, c2, c3, c4, c5⟩ := six_cells (heap_old (heap_old T1.out hb1) h)
      have hww : Below w.heap.size w W := hB1.trans (h.mono hB1.size)
      obtain ⟨d0, d1, d2⟩ := HP3.out.below hww; obtain ⟨e0, e1, e2⟩ := HQ3.out.below hww; obtain ⟨f0, f1, f2, f3, f4, f5⟩ := HX6.out.below hww; obtain ⟨g0, g1, g2, g3, g4, g5⟩ := HY6.out.below hww
      exact ⟨a0, a1, a2, c0, c1, c2, c3, c4, c5, d0, d1, d2, e0, e1, e2, f0, f1, f2, f3, f4, f5, g0, g1, g2, g3, g4, g5⟩
    clear x0 x1 x2 y0 y1 y2 y3 y4 y5
    obtain ⟨m0, m1, m2, m3, m4, m5, m6, m7, m8, m9, m10, m11, m12, m13, m14, m15, m16, m17, m18, m19, m20, m21, m22, m23, m24, m25, m26⟩ := EN.out _ (Below.refl _ _)
    have D0 : Hid (Below w1.heap.size w1 w1.drew) := (Below.refl _ _).drew
    go_wp2_with fail
    refine wp_region_held_drew (S := (fun w' => w'.cell? ⟨w.heap.size, 0, none⟩ = some (.int .i64 5) ∧ w'.cell? ⟨w.heap.size, 1, none⟩ = some (.int .i64 0) ∧ w'.cell? ⟨w.heap.size, 2, none⟩ = some (.slice (some ⟨b, off, none⟩) 2 sc) ∧ w'.cell? ⟨w.heap.size + 1, 0, none⟩ = some (.bool false) ∧ w'.cell? ⟨w.heap.size + 1, 1, none⟩ = some (.int .i64 gc) ∧ w'.cell? ⟨w.heap.size + 1, 2, none⟩ = some (.int .u64 (gg : Int)) ∧ w'.cell? ⟨w.heap.size + 1, 3, none⟩ = some (.slice gra grl grc) ∧ w'.cell? ⟨w.heap.size + 1, 4, none⟩ = some (.slice gca gcl gcc) ∧ w'.cell? ⟨w.heap.size + 1, 5, none⟩ = some (.slice (some ⟨b2, of2, none⟩) 2 gpc) ∧ w'.cell? ⟨b, off, none⟩ = some (.int .i64 pt) ∧ w'.cell? ⟨b, off + 1, none⟩ = some (.int .i64 pn) ∧ w'.cell? ⟨b, off + 2, none⟩ = some (.slice pa pl pc) ∧ w'.cell? ⟨b, off + 3, none⟩ = some (.int .i64 qt) ∧ w'.cell? ⟨b, off + 4, none⟩ = some (.int .i64 qn) ∧ w'.cell? ⟨b, off + 5, none⟩ = some (.slice qa ql qc) ∧ w'.cell? ⟨b2, of2, none⟩ = some (.bool xz) ∧ w'.cell? ⟨b2, of2 + 1, none⟩ = some (.int .i64 xc) ∧ w'.cell? ⟨b2, of2 + 2, none⟩ = some (.int .u64 (xg : Int)) ∧ w'.cell? ⟨b2, of2 + 3, none⟩ = some (.slice xra xrl xrc) ∧ w'.cell? ⟨b2, of2 + 4, none⟩ = some (.slice xca xcl xcc) ∧ w'.cell? ⟨b2, of2 + 5, none⟩ = some (.slice xpa xpl xpc) ∧ w'.cell? ⟨b2, of2 + 6, none⟩ = some (.bool yz) ∧ w'.cell? ⟨b2, of2 + 7, none⟩ = some (.int .i64 yc) ∧ w'.cell? ⟨b2, of2 + 8, none⟩ = some (.int .u64 (yg : Int)) ∧ w'.cell? ⟨b2, of2 + 9, none⟩ = some (.slice yra yrl yrc) ∧ w'.cell? ⟨b2, of2 + 10, none⟩ = some (.slice yca ycl ycc) ∧ w'.cell? ⟨b2, of2 + 11, none⟩ = some (.slice ypa ypl ypc))) (by kernel_rfl) (by with_reducible exact EN.out _ D0.out) (fun hHeld => ?_)
    refine wpAnyH_take (i := 0) (oi := { dst := some 12, op := Op.fieldAddr 48 (Operand.tmp 3) 0, type := 0, pos := "weight.go:68", after := #[], guard := none }) (v := ?v0x2) rfl (by kernel_rfl) (by kernel_rfl) (by kernel_rfl) (fun _ _ _ h => h) (Or.inl ⟨by rfl, ?hy0x2⟩) (by assumption) ?rest0x2
    case hy0x2 => (intro w hSw; (try dsimp only at hSw); go_simp; try with_reducible rfl)
    try simp only [Act.put, List.setIfInBounds_toArray, List.set_cons_zero, List.set_cons_succ]
    refine wpAnyH_take (i := 1) (oi := { dst := some 13, op := Op.load 4 (Operand.tmp 12), type := 4, pos := "weight.go:68", after := #[{ on := 0, ground := Ground.data }], guard := none }) (v := ?v1x2) rfl (by kernel_rfl) (by kernel_rfl) (by kernel_rfl) (fun _ _ _ h => h) (Or.inl ⟨by rfl, ?hy1x2⟩) (by assumption) ?rest1x2
    case hy1x2 => (intro w hSw; (try dsimp only at hSw); go_simp; try with_reducible rfl)
    try simp only [Act.put, List.setIfInBounds_toArray, List.set_cons_zero, List.set_cons_succ]
    refine wpAnyH_take (i := 2) (oi := { dst := some 14, op := Op.unOp UnOp.not 4 (Operand.tmp 13), type := 4, pos := "weight.go:68", after := #[{ on := 1, ground := Ground.data }], guard := none }) (v := ?v2x2) rfl (by kernel_rfl) (by kernel_rfl) (by kernel_rfl) (fun _ _ _ h => h) (Or.inl ⟨by rfl, ?hy2x2⟩) (by assumption) ?rest2x2
    case hy2x2 => (intro w hSw; (try dsimp only at hSw); go_simp; try with_reducible rfl)
    try simp only [Act.put, List.setIfInBounds_toArray, List.set_cons_zero, List.set_cons_succ]
    refine wpAnyH_take (i := 3) (oi := { dst := some 15, op := Op.move (Operand.tmp 14), type := 4, pos := "weight.go:68", after := #[{ on := 2, ground := Ground.data }], guard := none }) (v := ?v3x2) rfl (by kernel_rfl) (by kernel_rfl) (by kernel_rfl) (fun _ _ _ h => h) (Or.inl ⟨by rfl, ?hy3x2⟩) (by assumption) ?rest3x2
    case hy3x2 => (intro w hSw; (try dsimp only at hSw); go_simp; try with_reducible rfl)
    try simp only [Act.put, List.setIfInBounds_toArray, List.set_cons_zero, List.set_cons_succ]
    refine wpAnyH_take (i := 4) (oi := { dst := some 16, op := Op.fieldAddr 48 (Operand.tmp 3) 4, type := 0, pos := "weight.go:68", after := #[{ on := 3, ground := Ground.guard }], guard := some (3, true) }) (v := ?v4x2) rfl (by kernel_rfl) (by kernel_rfl) (by kernel_rfl) (fun _ _ _ h => h) (Or.inl ⟨by rfl, ?hy4x2⟩) (by assumption) ?rest4x2
    case hy4x2 => (intro w hSw; (try dsimp only at hSw); go_simp; try with_reducible rfl)
    try simp only [Act.put, List.setIfInBounds_toArray, List.set_cons_zero, List.set_cons_succ]
    refine wpAnyH_take (i := 5) (oi := { dst := some 17, op := Op.load 46 (Operand.tmp 16), type := 46, pos := "weight.go:68", after := #[{ on := 4, ground := Ground.data }, { on := 3, ground := Ground.guard }], guard := some (3, true) }) (v := ?v5x2) rfl (by kernel_rfl) (by kernel_rfl) (by kernel_rfl) (fun _ _ _ h => h) (Or.inl ⟨by rfl, ?hy5x2⟩) (by assumption) ?rest5x2
    case hy5x2 => (intro w hSw; (try dsimp only at hSw); go_simp; try with_reducible rfl)
    try simp only [Act.put, List.setIfInBounds_toArray, List.set_cons_zero, List.set_cons_succ]
    refine wpAnyH_take (i := 6) (oi := { dst := some 18, op := Op.call { callee := Callee.builtin Builtin.len, args := #[Operand.tmp 17], argTypes := #[46] }, type := 3, pos := "weight.go:68", after := #[{ on := 5, ground := Ground.data }, { on := 3, ground := Ground.guard }], guard := some (3, true) }) (v := ?v6x2) rfl (by kernel_rfl) (by kernel_rfl) (by kernel_rfl) (fun _ _ _ h => h) (Or.inl ⟨by rfl, ?hy6x2⟩) (by assumption) ?rest6x2
    case hy6x2 => (intro w hSw; (try dsimp only at hSw); go_simp; try with_reducible rfl)
    try simp only [Act.put, List.setIfInBounds_toArray, List.set_cons_zero, List.set_cons_succ]
    refine wpAnyH_take (i := 7) (oi := { dst := some 19, op := Op.binOp BinOp.eql 3 (Operand.tmp 18) (Operand.const (Value.int IntKind.i64 2)) 3, type := 4, pos := "weight.go:68", after := #[{ on := 6, ground := Ground.data }, { on := 3, ground := Ground.guard }], guard := some (3, true) }) (v := ?v7x2) rfl (by kernel_rfl) (by kernel_rfl) (by kernel_rfl) (fun _ _ _ h => h) (Or.inl ⟨by rfl, ?hy7x2⟩) (by assumption) ?rest7x2
    case hy7x2 => (intro w hSw; (try dsimp only at hSw); go_simp; try with_reducible rfl)
    try simp only [Act.put, List.setIfInBounds_toArray, List.set_cons_zero, List.set_cons_succ]
    refine wpAnyH_take (i := 8) (oi := { dst := some 20, op := Op.pick (Operand.tmp 15) (Operand.tmp 19) (Operand.const (Value.bool false)), type := 4, pos := "weight.go:68", after := #[{ on := 3, ground := Ground.data }, { on := 7, ground := Ground.data }], guard := none }) (v := ?v8x2) rfl (by kernel_rfl) (by kernel_rfl) (by kernel_rfl) (fun _ _ _ h => h) (Or.inl ⟨by rfl, ?hy8x2⟩) (by assumption) ?rest8x2
    case hy8x2 => (intro w hSw; (try dsimp only at hSw); go_simp; try with_reducible rfl)
    try simp only [Act.put, List.setIfInBounds_toArray, List.set_cons_zero, List.set_cons_succ]
    refine wpAnyH_take (i := 9) (oi := { dst := some 21, op := Op.move (Operand.tmp 20), type := 4, pos := "weight.go:68", after := #[{ on := 8, ground := Ground.data }, { on := 3, ground := Ground.chain }], guard := none }) (v := ?v9x2) rfl (by kernel_rfl) (by kernel_rfl) (by kernel_rfl) (fun _ _ _ h => h) (Or.inl ⟨by rfl, ?hy9x2⟩) (by assumption) ?rest9x2
    case hy9x2 => (intro w hSw; (try dsimp only at hSw); go_simp; try with_reducible rfl)
    try simp only [Act.put, List.setIfInBounds_toArray, List.set_cons_zero, List.set_cons_succ]
    refine wpAnyH_take (i := 10) (oi := { dst := some 22, op := Op.fieldAddr 25 (Operand.tmp 2) 2, type := 0, pos := "weight.go:68", after := #[{ on := 9, ground := Ground.guard }], guard := some (9, true) }) (v := ?v10x2) rfl (by kernel_rfl) (by kernel_rfl) (by kernel_rfl) (fun _ _ _ h => h) (Or.inl ⟨by rfl, ?hy10x2⟩) (by assumption) ?rest10x2
    case hy10x2 => (intro w hSw; (try dsimp only at hSw); go_simp; try with_reducible rfl)
    try simp only [Act.put, List.setIfInBounds_toArray, List.set_cons_zero, List.set_cons_succ]
    refine wpAnyH_take (i := 11) (oi := { dst := some 23, op := Op.load 23 (Operand.tmp 22), type := 23, pos := "weight.go:68", after := #[{ on := 10, ground := Ground.data }, { on := 9, ground := Ground.guard }], guard := some (9, true) }) (v := ?v11x2) rfl (by kernel_rfl) (by kernel_rfl) (by kernel_rfl) (fun _ _ _ h => h) (Or.inl ⟨by rfl, ?hy11x2⟩) (by assumption) ?rest11x2
    case hy11x2 => (intro w hSw; (try dsimp only at hSw); go_simp; try with_reducible rfl)
    try simp only [Act.put, List.setIfInBounds_toArray, List.set_cons_zero, List.set_cons_succ]
    refine wpAnyH_take (i := 12) (oi := { dst := some 24, op := Op.indexAddr 23 (Operand.tmp 23) (Operand.const (Value.int IntKind.i64 0)), type := 0, pos := "weight.go:68", after := #[{ on := 11, ground := Ground.data }, { on := 9, ground := Ground.guard }], guard := some (9, true) }) (v := ?v12x2) rfl (by kernel_rfl) (by kernel_rfl) (by kernel_rfl) (fun _ _ _ h => h) (Or.inl ⟨by rfl, ?hy12x2⟩) (by assumption) ?rest12x2
    case hy12x2 => (intro w hSw; (try dsimp only at hSw); go_simp; try with_reducible rfl)
    try simp only [Act.put, List.setIfInBounds_toArray, List.set_cons_zero, List.set_cons_succ]
    refine wpAnyH_take (i := 13) (oi := { dst := some 25, op := Op.load 25 (Operand.tmp 24), type := 25, pos := "weight.go:68", after := #[{ on := 12, ground := Ground.data }, { on := 9, ground := Ground.guard }], guard := some (9, true) }) (v := ?v13x2) rfl (by kernel_rfl) (by kernel_rfl) (by kernel_rfl) (fun _ _ _ h => h) (Or.inl ⟨by rfl, ?hy13x2⟩) (by assumption) ?rest13x2
    case hy13x2 => (intro w hSw; (try dsimp only at hSw); go_simp; try with_reducible rfl)
    try simp only [Act.put, List.setIfInBounds_toArray, List.set_cons_zero, List.set_cons_succ]
    refine wpAnyH_take (i := 14) (oi := { dst := some 26, op := Op.fieldAddr 48 (Operand.tmp 3) 4, type := 0, pos := "weight.go:68", after := #[{ on := 9, ground := Ground.guard }], guard := some (9, true) }) (v := ?v14x2) rfl (by kernel_rfl) (by kernel_rfl) (by kernel_rfl) (fun _ _ _ h => h) (Or.inl ⟨by rfl, ?hy14x2⟩) (by assumption) ?rest14x2
    case hy14x2 => (intro w hSw; (try dsimp only at hSw); go_simp; try with_reducible rfl)
    try simp only [Act.put, List.setIfInBounds_toArray, List.set_cons_zero, List.set_cons_succ]
    refine wpAnyH_take (i := 15) (oi := { dst := some 27, op := Op.load 46 (Operand.tmp 26), type := 46, pos := "weight.go:68", after := #[{ on := 14, ground := Ground.data }, { on := 9, ground := Ground.guard }], guard := some (9, true) }) (v := ?v15x2) rfl (by kernel_rfl) (by kernel_rfl) (by kernel_rfl) (fun _ _ _ h => h) (Or.inl ⟨by rfl, ?hy15x2⟩) (by assumption) ?rest15x2
    case hy15x2 => (intro w hSw; (try dsimp only at hSw); go_simp; try with_reducible rfl)
    try simp only [Act.put, List.setIfInBounds_toArray, List.set_cons_zero, List.set_cons_succ]
    refine wpAnyH_take (i := 16) (oi := { dst := some 28, op := Op.indexAddr 46 (Operand.tmp 27) (Operand.const (Value.int IntKind.i64 0)), type := 0, pos := "weight.go:68", after := #[{ on := 15, ground := Ground.data }, { on := 9, ground := Ground.guard }], guard := some (9, true) }) (v := ?v16x2) rfl (by kernel_rfl) (by kernel_rfl) (by kernel_rfl) (fun _ _ _ h => h) (Or.inl ⟨by rfl, ?hy16x2⟩) (by assumption) ?rest16x2
    case hy16x2 => (intro w hSw; (try dsimp only at hSw); go_simp; try with_reducible rfl)
    try simp only [Act.put, List.setIfInBounds_toArray, List.set_cons_zero, List.set_cons_succ]
    refine wpAnyH_take (i := 17) (oi := { dst := some 29, op := Op.load 48 (Operand.tmp 28), type := 48, pos := "weight.go:68", after := #[{ on := 16, ground := Ground.data }, { on := 9, ground := Ground.guard }], guard := some (9, true) }) (v := ?v17x2) rfl (by kernel_rfl) (by kernel_rfl) (by kernel_rfl) (fun _ _ _ h => h) (Or.inl ⟨by rfl, ?hy17x2⟩) (by assumption) ?rest17x2
    case hy17x2 => (intro w hSw; (try dsimp only at hSw); go_simp; try with_reducible rfl)
    try simp only [Act.put, List.setIfInBounds_toArray, List.set_cons_zero, List.set_cons_succ]
    refine wpAnyH_ready (rs := [18]) (by kernel_rfl) (by simp) (AllReadyH.cons (o := { dst := some 30, op := Op.call { callee := Callee.value (Operand.func 78), args := #[Operand.tmp 25, Operand.tmp 29], argTypes := #[25, 48] }, type := 4, pos := "weight.go:68", after := #[{ on := 13, ground := Ground.data }, { on := 17, ground := Ground.data }, { on := 9, ground := Ground.chain }, { on := 9, ground := Ground.guard }], guard := some (9, true) }) rfl (fun K hK => ?_) AllReadyH.nil)
    go_simp
    go_at_call 78
    with_reducible refine (isA_plain pt pn pa pl pc ⟨xz, xc, xg, xra, xrl, xrc, xrows, xca, xcl, xcc, xcells, xpa, xpl, xpc⟩ HP.out XSS.out _ (XAA.out.below (hB1.trans ((D0.out).mono hB1.size))) true HR1.out).mono ?_
    rintro e z1 ⟨rfl, hz1⟩
    have D1 : Hid (Below w1.heap.size w1 z1) := Lib.hid (D0.out.trans (hz1.mono D0.out.size))
    dsimp only
    refine hK.out _ _ (by with_reducible exact EN.out _ D1.out) (fun hHeld1 => ?_)
    clear hK K
    try simp only [Act.put, List.setIfInBounds_toArray, List.set_cons_zero, List.set_cons_succ]
    refine wpAnyH_take (i := 19) (oi := { dst := some 31, op := Op.pick (Operand.tmp 21) (Operand.tmp 30) (Operand.const (Value.bool false)), type := 4, pos := "weight.go:68", after := #[{ on := 9, ground := Ground.data }, { on := 18, ground := Ground.data }], guard := none }) (v := ?v19x2) rfl (by kernel_rfl) (by kernel_rfl) (by kernel_rfl) (fun _ _ _ h => h) (Or.inl ⟨by rfl, ?hy19x2⟩) (by assumption) ?rest19x2
    case hy19x2 => (intro w hSw; (try dsimp only at hSw); go_simp; try with_reducible rfl)
    try simp only [Act.put, List.setIfInBounds_toArray, List.set_cons_zero, List.set_cons_succ]
    refine wpAnyH_take (i := 20) (oi := { dst := some 32, op := Op.move (Operand.tmp 31), type := 4, pos := "weight.go:68", after := #[{ on := 19, ground := Ground.data }, { on := 18, ground := Ground.chain }], guard := none }) (v := ?v20x2) rfl (by kernel_rfl) (by kernel_rfl) (by kernel_rfl) (fun _ _ _ h => h) (Or.inl ⟨by rfl, ?hy20x2⟩) (by assumption) ?rest20x2
    case hy20x2 => (intro w hSw; (try dsimp only at hSw); go_simp; try with_reducible rfl)
    try simp only [Act.put, List.setIfInBounds_toArray, List.set_cons_zero, List.set_cons_succ]
    refine wpAnyH_take (i := 21) (oi := { dst := some 33, op := Op.fieldAddr 25 (Operand.tmp 2) 2, type := 0, pos := "weight.go:68", after := #[{ on := 20, ground := Ground.guard }], guard := some (20, true) }) (v := ?v21x2) rfl (by kernel_rfl) (by kernel_rfl) (by kernel_rfl) (fun _ _ _ h => h) (Or.inl ⟨by rfl, ?hy21x2⟩) (by assumption) ?rest21x2
    case hy21x2 => (intro w hSw; (try dsimp only at hSw); go_simp; try with_reducible rfl)
    try simp only [Act.put, List.setIfInBounds_toArray, List.set_cons_zero, List.set_cons_succ]
    refine wpAnyH_take (i := 22) (oi := { dst := some 34, op := Op.load 23 (Operand.tmp 33), type := 23, pos := "weight.go:68", after := #[{ on := 21, ground := Ground.data }, { on := 20, ground := Ground.guard }], guard := some (20, true) }) (v := ?v22x2) rfl (by kernel_rfl) (by kernel_rfl) (by kernel_rfl) (fun _ _ _ h => h) (Or.inl ⟨by rfl, ?hy22x2⟩) (by assumption) ?rest22x2
    case hy22x2 => (intro w hSw; (try dsimp only at hSw); go_simp; try with_reducible rfl)
    try simp only [Act.put, List.setIfInBounds_toArray, List.set_cons_zero, List.set_cons_succ]
    refine wpAnyH_take (i := 23) (oi := { dst := some 35, op := Op.indexAddr 23 (Operand.tmp 34) (Operand.const (Value.int IntKind.i64 1)), type := 0, pos := "weight.go:68", after := #[{ on := 22, ground := Ground.data }, { on := 20, ground := Ground.guard }], guard := some (20, true) }) (v := ?v23x2) rfl (by kernel_rfl) (by kernel_rfl) (by kernel_rfl) (fun _ _ _ h => h) (Or.inl ⟨by rfl, ?hy23x2⟩) (by assumption) ?rest23x2
    case hy23x2 => (intro w hSw; (try dsimp only at hSw); go_simp; try with_reducible rfl)
    try simp only [Act.put, List.setIfInBounds_toArray, List.set_cons_zero, List.set_cons_succ]
    refine wpAnyH_take (i := 24) (oi := { dst := some 36, op := Op.load 25 (Operand.tmp 35), type := 25, pos := "weight.go:68", after := #[{ on := 23, ground := Ground.data }, { on := 20, ground := Ground.guard }], guard := some (20, true) }) (v := ?v24x2) rfl (by kernel_rfl) (by kernel_rfl) (by kernel_rfl) (fun _ _ _ h => h) (Or.inl ⟨by rfl, ?hy24x2⟩) (by assumption) ?rest24x2
    case hy24x2 => (intro w hSw; (try dsimp only at hSw); go_simp; try with_reducible rfl)
    try simp only [Act.put, List.setIfInBounds_toArray, List.set_cons_zero, List.set_cons_succ]
    refine wpAnyH_take (i := 25) (oi := { dst := some 37, op := Op.fieldAddr 48 (Operand.tmp 3) 4, type := 0, pos := "weight.go:68", after := #[{ on := 20, ground := Ground.guard }], guard := some (20, true) }) (v := ?v25x2) rfl (by kernel_rfl) (by kernel_rfl) (by kernel_rfl) (fun _ _ _ h => h) (Or.inl ⟨by rfl, ?hy25x2⟩) (by assumption) ?rest25x2
    case hy25x2 => (intro w hSw; (try dsimp only at hSw); go_simp; try with_reducible rfl)
    try simp only [Act.put, List.setIfInBounds_toArray, List.set_cons_zero, List.set_cons_succ]
    refine wpAnyH_take (i := 26) (oi := { dst := some 38, op := Op.load 46 (Operand.tmp 37), type := 46, pos := "weight.go:68", after := #[{ on := 25, ground := Ground.data }, { on := 20, ground := Ground.guard }], guard := some (20, true) }) (v := ?v26x2) rfl (by kernel_rfl) (by kernel_rfl) (by kernel_rfl) (fun _ _ _ h => h) (Or.inl ⟨by rfl, ?hy26x2⟩) (by assumption) ?rest26x2
    case hy26x2 => (intro w hSw; (try dsimp only at hSw); go_simp; try with_reducible rfl)
    try simp only [Act.put, List.setIfInBounds_toArray, List.set_cons_zero, List.set_cons_succ]
    refine wpAnyH_take (i := 27) (oi := { dst := some 39, op := Op.indexAddr 46 (Operand.tmp 38) (Operand.const (Value.int IntKind.i64 1)), type := 0, pos := "weight.go:68", after := #[{ on := 26, ground := Ground.data }, { on := 20, ground := Ground.guard }], guard := some (20, true) }) (v := ?v27x2) rfl (by kernel_rfl) (by kernel_rfl) (by kernel_rfl) (fun _ _ _ h => h) (Or.inl ⟨by rfl, ?hy27x2⟩) (by assumption) ?rest27x2
    case hy27x2 => (intro w hSw; (try dsimp only at hSw); go_simp; try with_reducible rfl)
    try simp only [Act.put, List.setIfInBounds_toArray, List.set_cons_zero, List.set_cons_succ]
    refine wpAnyH_take (i := 28) (oi := { dst := some 40, op := Op.load 48 (Operand.tmp 39), type := 48, pos := "weight.go:68", after := #[{ on := 27, ground := Ground.data }, { on := 20, ground := Ground.guard }], guard := some (20, true) }) (v := ?v28x2) rfl (by kernel_rfl) (by kernel_rfl) (by kernel_rfl) (fun _ _ _ h => h) (Or.inl ⟨by rfl, ?hy28x2⟩) (by assumption) ?rest28x2
    case hy28x2 => (intro w hSw; (try dsimp only at hSw); go_simp; try with_reducible rfl)
    try simp only [Act.put, List.setIfInBounds_toArray, List.set_cons_zero, List.set_cons_succ]
    refine wpAnyH_ready (rs := [29]) (by kernel_rfl) (by simp) (AllReadyH.cons (o := { dst := some 41, op := Op.call { callee := Callee.value (Operand.func 78), args := #[Operand.tmp 36, Operand.tmp 40], argTypes := #[25, 48] }, type := 4, pos := "weight.go:68", after := #[{ on := 24, ground := Ground.data }, { on := 28, ground := Ground.data }, { on := 20, ground := Ground.chain }, { on := 20, ground := Ground.guard }], guard := some (20, true) }) rfl (fun K hK => ?_) AllReadyH.nil)
    go_simp
    go_at_call 78
    with_reducible refine (isA_plain qt qn qa ql qc ⟨yz, yc, yg, yra, yrl, yrc, yrows, yca, ycl, ycc, ycells, ypa, ypl, ypc⟩ HQ.out YSS.out _ (YAA.out.below (hB1.trans ((D1.out).mono hB1.size))) r2 HR2.out).mono ?_
    rintro e z2 ⟨rfl, hz2⟩
    have D2 : Hid (Below w1.heap.size w1 z2) := Lib.hid (D1.out.trans (hz2.mono D1.out.size))
    dsimp only
    refine hK.out _ _ (by with_reducible exact EN.out _ D2.out) (fun hHeld2 => ?_)
    clear hK K
    try simp only [Act.put, List.setIfInBounds_toArray, List.set_cons_zero, List.set_cons_succ]
    refine wpAnyH_take (i := 30) (oi := { dst := some 42, op := Op.pick (Operand.tmp 32) (Operand.tmp 41) (Operand.const (Value.bool false)), type := 4, pos := "weight.go:68", after := #[{ on := 20, ground := Ground.data }, { on := 29, ground := Ground.data }], guard := none }) (v := ?v30x2) rfl (by kernel_rfl) (by kernel_rfl) (by kernel_rfl) (fun _ _ _ h => h) (Or.inl ⟨by rfl, ?hy30x2⟩) (by assumption) ?rest30x2
    case hy30x2 => (intro w hSw; (try dsimp only at hSw); go_simp; try with_reducible rfl)
    try simp only [Act.put, List.setIfInBounds_toArray, List.set_cons_zero, List.set_cons_succ]
    refine wpAnyH_take (i := 31) (oi := { dst := some 4, op := Op.assign (Operand.tmp 42), type := 4, pos := "weight.go:68", after := #[{ on := 30, ground := Ground.data }, { on := 29, ground := Ground.chain }, { on := 0, ground := Ground.phase }, { on := 1, ground := Ground.phase }, { on := 2, ground := Ground.phase }, { on := 3, ground := Ground.phase }, { on := 4, ground := Ground.phase }, { on := 5, ground := Ground.phase }, { on := 6, ground := Ground.phase }, { on := 7, ground := Ground.phase }, { on := 8, ground := Ground.phase }, { on := 9, ground := Ground.phase }, { on := 10, ground := Ground.phase }, { on := 11, ground := Ground.phase }, { on := 12, ground := Ground.phase }, { on := 13, ground := Ground.phase }, { on := 14, ground := Ground.phase }, { on := 15, ground := Ground.phase }, { on := 16, ground := Ground.phase }, { on := 17, ground := Ground.phase }, { on := 18, ground := Ground.phase }, { on := 19, ground := Ground.phase }, { on := 20, ground := Ground.phase }, { on := 21, ground := Ground.phase }, { on := 22, ground := Ground.phase }, { on := 23, ground := Ground.phase }, { on := 24, ground := Ground.phase }, { on := 25, ground := Ground.phase }, { on := 26, ground := Ground.phase }, { on := 27, ground := Ground.phase }, { on := 28, ground := Ground.phase }, { on := 29, ground := Ground.phase }, { on := 30, ground := Ground.phase }], guard := none }) (v := ?v31x2) rfl (by kernel_rfl) (by kernel_rfl) (by kernel_rfl) (fun _ _ _ h => h) (Or.inl ⟨by rfl, ?hy31x2⟩) (by assumption) ?rest31x2
    case hy31x2 => (intro w hSw; (try dsimp only at hSw); go_simp; try with_reducible rfl)
    try simp only [Act.put, List.setIfInBounds_toArray, List.set_cons_zero, List.set_cons_succ]
    refine wpAnyH_done (by kernel_rfl) ?_ _
    all_goals (go_wp2_with fail; go_ret; exact ⟨rbool HF.out, hB1.trans (D2.out.mono hB1.size)⟩)
end Go.Proofs.YtfkbkekgnoanaaaGreatDoor
namespace Go.Proofs.YtfkbkekgnoanaaaGreatDoor
open Go.RowKit
set_option linter.unusedVariables false
def mixL (ys xs : List Nat) (k : Nat) : List Nat := ys.take k ++ xs.drop k
theorem mixL_set {ys xs : List Nat} {k x y : Nat} (hy : ys[k]? = some y) (hx : xs[k]? = some x) : (mixL ys xs k).set k y = mixL ys xs (k + 1) := by
  obtain ⟨hk, ex⟩ := List.getElem?_eq_some_iff.1 hx
  obtain ⟨hk2, ey⟩ := List.getElem?_eq_some_iff.1 hy
  unfold mixL
  have hl : (ys.take k).length = k := by rw [List.length_take]; omega
  rw [List.set_append_right _ _ (by omega), hl, Nat.sub_self, List.drop_eq_getElem_cons hk, List.set_cons_zero, List.take_succ_eq_append_getElem hk2, ey, List.append_assoc]
  rfl
theorem mixL_at {ys xs : List Nat} {k x : Nat} (hl : ys.length = xs.length) (hx : xs[k]? = some x) : (mixL ys xs k)[k]? = some x := by
  obtain ⟨hk, ex⟩ := List.getElem?_eq_some_iff.1 hx
  unfold mixL
  have h2 : (ys.take k).length = k := by rw [List.length_take]; omega
  rw [List.getElem?_append_right (by omega), h2, Nat.sub_self, List.getElem?_drop, Nat.add_zero, hx]
theorem mixL_zero (ys xs : List Nat) : mixL ys xs 0 = xs := by simp [mixL]
theorem mixL_all {ys xs : List Nat} (hl : ys.length = xs.length) : mixL ys xs xs.length = ys := by
  unfold mixL
  rw [List.take_of_length_le (by omega), List.drop_of_length_le (Nat.le_refl _), List.append_nil]
theorem u64s_set (l : List Nat) (k y : Nat) : (u64s l).set k (.int .u64 (y : Int)) = u64s (l.set k y) := by
  unfold u64s; rw [List.map_set]
theorem u64s_get {l : List Nat} {k x : Nat} (h : l[k]? = some x) : (u64s l)[k]? = some (.int .u64 (x : Int)) := by
  unfold u64s; rw [List.getElem?_map, h]; rfl

theorem news_of_vrow {w : World} {ad : Addr} {vs : List Value} (h : VRow w (some ad) vs) : ∀ j u, vs[j]? = some u → w.cell? (ad.add j) = some u := by
  intro j u hj
  rcases h with h | ⟨b, off, ha, hc⟩
  · subst h; simp at hj
  · cases ha
    have := hc j u hj
    rw [← this]
    simp only [Addr.add]; split <;> simp_all
theorem u64s_one (l : List Nat) : ∀ u ∈ u64s l, u.oneCell' = true := by
  intro u hu
  unfold u64s at hu
  rw [List.mem_map] at hu
  obtain ⟨r, _, rfl⟩ := hu
  rfl
set_option maxRecDepth 100000 in
set_option maxHeartbeats 1000000 in
theorem clone_is (a : Option Addr) (cap : Nat) (xs : List Nat) (w : World) (hx : xs.length ≤ 100) (hra : URow w a xs) (n : Nat) (hn : xs.length = n) :
    Calls Tryz.prog 86 #[.slice a n cap] w fun e w' => ∃ v, e = .returned v ∧ w'.ownsRow w.heap.size 41 1 v n (u64s xs) ∧ Below w.heap.size w w' := by
  obtain ⟨i0, hi, hz0, hz1, hz2⟩ := info_parts infoU
  have q22 : ∀ (w : World) (a : Option Addr) (n c n' c' : Nat), (binOp .eql 42 (.slice a n c) (.slice none n' c')).run Tryz.prog w = .ok (.bool a.isNone) w := fun w a n c n' c' => Lib.run_eql_slice_nil w _ _ a n c n' c' Tryz.underlying42
  have HN := Lib.hid hn
  rw [hn] at hx
  cases a with
  | none =>
    have hcs : u64s xs = [] := by
      rcases hra with h | ⟨b, off, e, _⟩
      · exact h
      · cases e
    have hx0 : xs = [] := List.length_eq_zero_iff.1 (by rw [← u64s_length, hcs]; rfl)
    subst hx0
    obtain rfl : 0 = n := HN.out
    clear hra
    go_enter Tryz.func86, Tryz.ntmps86
    go_wp2
    go_ret
    exact ⟨_, rfl, World.ownsRow_nil _ _ _ _, Below.refl _ _⟩
  | some ad =>
    have HNW := Lib.hid (fun (o : Obj) => news_of_vrow (VRow.below hra ((Below.refl _ w).alloc (Nat.le_refl _) o)))
    have hown : (w.alloc (.cells #[] 41)).ownsRow w.heap.size 41 1 (.slice (some ⟨w.heap.size, 0, none⟩) 0 0) 0 [] := World.ownsRow_lit w #[] 0 (Nat.le_refl _) (by simp) rfl
    have HO := Lib.hid hown
    have hul : Hid ((u64s xs).length = n * 1) := by show _ = _; rw [u64s_length, hn, Nat.mul_one]
    clear hra hown hn
    go_enter Tryz.func86, Tryz.ntmps86
    go_wp2_with (at_builtin; go_loud (refine wpList_append_own _ rfl (.tmp 5) (.tmp 6) 42 rfl w.heap.size 41 i0 _ 1 8 Tryz.underlying42 hi hz0 hz1 hz2 rfl (by decide) _ _ _ rfl HO.out ad n cap (u64s xs) rfl hul.out (HNW.out _) (u64s_one xs) (by unfold maxLen; omega) (by omega) (by simp) ?_; intro v' w2 hown2 hgrow hnil))
    go_ret
    refine ⟨v', rfl, by simpa using hown2, ?_⟩
    exact ((Below.refl _ _).alloc (Nat.le_refl _) _).grown hgrow (by simp) (fun j e => by cases e; exact Nat.le_refl _)

structure OwnPost (w w' : World) (base n : Nat) (v : Value) (xs : List Nat) : Prop where
  own : w'.ownsRow base 41 1 v n (u64s xs)
  below : Below base w w'
  rest : ∀ j, j < w.heap.size → some j ≠ v.ownBlock → w'.heap[j]? = w.heap[j]?
set_option maxRecDepth 100000 in
set_option maxHeartbeats 1000000 in
theorem canonical_is (gen : Nat) (base n : Nat) (v : Value) (xs ys : List Nat) (w : World) (hgen : gen < 18446744073709551616) (hall : ∀ r ∈ xs, r < 18446744073709551616) (hx : xs.length ≤ 100) (hn : xs.length = n) (hb0 : base ≤ w.heap.size) (hown : w.ownsRow base 41 1 v n (u64s xs)) (hys : canonL gen xs = ys) :
    Calls Tryz.prog 108 #[.int .u64 gen, v] w fun e w' => e = .returned (.agg #[.int .u64 (gen : Int), v]) ∧ OwnPost w w' base n v ys := by
  have HALL := Lib.hid hall; have HN := Lib.hid hn
  have HYL : Hid (ys.length = xs.length) := by show _ = _; rw [← hys, canonL_length]
  have HYS := Lib.hid hys
  obtain ⟨a, cap, hv⟩ : ∃ a cap, v = .slice a n cap := by
    rcases hown.2 with ⟨h, h0⟩ | ⟨g, cap, cur, h, _⟩
    · exact ⟨none, 0, by rw [h, h0]⟩
    · exact ⟨_, _, h⟩
  subst hv
  have HO0 := Lib.hid hown
  rw [hn] at hx
  clear hown hys hall hn
  go_enter Tryz.func108, Tryz.ntmps108
  go_wp2_with fail
  go_loopw [8] (fun i wr => ∃ k : Nat, k ≤ n ∧ i = .int .i64 k ∧ Hid (wr.ownsRow base 41 1 (.slice a n cap) n (u64s (mixL ys xs k))) ∧ Hid (wr.heap[w.heap.size]? = some (.cells #[.int .u64 0, .slice none 0 0] 44 (0, 0))) ∧ Below base w wr ∧ Hid (∀ j, j < w.heap.size → some j ≠ (Value.slice a n cap).ownBlock → wr.heap[j]? = w.heap[j]?)) (fun i _ => n - (intOf i).toNat)
  case atStart =>
    refine ⟨0, Nat.zero_le _, rfl, ?_, heapV_new _ _, (Below.refl _ _).alloc hb0 _, fun j hj _ => Below.heap_alloc _ _ _ hj⟩
    rw [mixL_zero]
    exact HO0.out.alloc _
  case round =>
    obtain ⟨k, hk, rfl, HO, HR, hb, HX⟩ := hrel
    by_cases hlt : k < n
    · obtain ⟨x, hx1⟩ : ∃ x, xs[k]? = some x := ⟨xs[k]'(by rw [HN.out]; exact hlt), by simp [HN.out, hlt]⟩
      have hx64 := HALL.out x (List.mem_of_getElem? hx1)
      have hag := andn_go x gen hx64 hgen
      obtain ⟨y, hy⟩ : ∃ y, andn x gen = y := ⟨_, rfl⟩
      rw [hy] at hag
      have hy1 : ys[k]? = some y := by rw [← HYS.out, canonL, List.getElem?_map, hx1, ← hy]; rfl
      have HM := Lib.hid (mixL_set hy1 hx1)
      obtain ⟨g, capg, hv, hbg, hgl⟩ := HO.out.form (show 0 < n by omega)
      have hv2 : a = some ⟨g, 0, none⟩ ∧ capg = cap := by cases hv; exact ⟨rfl, rfl⟩
      obtain ⟨rfl, rfl⟩ := hv2
      have d0 := (HO.out.cellAt k (by omega)).trans (u64s_get (mixL_at HYL.out hx1))
      have q0 := HO.out.frozenAt k
      have g0 : (0 : Int) ≤ (k : Int) := by omega
      have g3 : (k : Int) < (n : Int) := by omega
      have HO2 : Hid ((wr.setCell ⟨g, k, none⟩ (.int .u64 (y : Int))).ownsRow base 41 1 (.slice (some ⟨g, 0, none⟩) n capg) n (u64s (mixL ys xs (k + 1)))) := by
        rw [← HM.out, ← u64s_set]
        exact (HO.out.stored k _).1
      have hgr : g ≠ w.heap.size := by
        intro e
        have h1 := not_row HR.out (by decide) HO.out
        apply h1
        show some _ = some g
        rw [e]
      have HR2 := Lib.hid (heap_other (j := k) (c := .int .u64 (y : Int)) HR.out (fun e => hgr e.symm))
      have HX2 : Hid (∀ j, j < w.heap.size → some j ≠ (Value.slice (some ⟨g, 0, none⟩) n capg).ownBlock → (wr.setCell ⟨g, k, none⟩ (.int .u64 (y : Int))).heap[j]? = w.heap[j]?) := fun j h1 h2 => by
        rw [Below.heap_setCell _ _ _ _ (show j ≠ g by intro e; apply h2; rw [e]; rfl)]
        exact HX.out j h1 h2
      have hb2 := hb.setCell (p := ⟨g, k, none⟩) hbg (.int .u64 (y : Int))
      clear hx1 hy hy1 hv hgr
      go_wp2
      go_roundw
      case rel => exact ⟨k + 1, by omega, by go_num, HO2, HR2, hb2, HX2⟩
      case measure => simp [intOf]; omega
    · obtain rfl : k = n := by omega
      have HO2 : Hid (wr.ownsRow base 41 1 (.slice a k cap) k (u64s ys)) := by
        have := HO.out
        rw [← HN.out] at this ⊢
        rwa [mixL_all HYL.out] at this
      obtain ⟨r0, r1, rf⟩ := two_cells HR.out
      have rf0 := rf 0; have rf1 := rf 1
      have N1 := Lib.hid (two_set1 (c := .slice a k cap) (two_set0 (c := .int .u64 (gen : Int)) HR.out))
      obtain ⟨s0, s1, _⟩ := two_cells N1.out
      have HNB := Lib.hid (not_row HR.out (by decide) HO.out)
      clear rf
      go_wp2
      refine bodyPost_ret (v := .agg #[.int .u64 (gen : Int), .slice a k cap]) ?_ rfl ⟨rfl, ?_, (hb.setCell (p := ⟨w.heap.size, 0, none⟩) hb0 _).setCell (p := ⟨w.heap.size, 1, none⟩) hb0 _, ?_⟩
      · simp [results, Tryz.results108, go_sem, s0, s1]
      · exact (HO2.out.kept (grownBy_set _ _ _ _) (.inr HNB.out.symm)).kept (grownBy_set _ _ _ _) (.inr HNB.out.symm)
      · intro j h1 h2
        rw [Below.heap_setCell _ _ _ _ (show j ≠ w.heap.size by omega), Below.heap_setCell _ _ _ _ (show j ≠ w.heap.size by omega)]
        exact HX.out j h1 h2
end Go.Proofs.YtfkbkekgnoanaaaGreatDoor
namespace Go.Proofs.YtfkbkekgnoanaaaGreatDoor
open Go.RowKit
set_option linter.unusedVariables false
set_option maxRecDepth 100000 in
set_option maxHeartbeats 1000000 in
theorem bothA_is (n : Int) (a b : Option Addr) (capa capb ga gb : Nat) (xs ys : List Nat) (w : World) (hfa : FAt w a ga xs) (hfb : FAt w b gb ys) (r : Int) (hr : bothE n ga xs gb ys = r) (la lb : Nat) (hla : xs.length = la) (hlb : ys.length = lb) :
    Calls Tryz.prog 106 #[.int .i64 n, fval ga a la capa, fval gb b lb capb] w fun e w' => e = .returned (.int .i64 r) ∧ Below w.heap.size w w' := by
  unfold fval
  have hB0 : Below w.heap.size w ((w.alloc (.cells #[.int .u64 (ga : Int), .slice a la capa] 44)).alloc (.cells #[.int .u64 (gb : Int), .slice b lb capb] 44)) := ((Below.refl _ _).alloc (Nat.le_refl _) _).alloc (by simp) _
  have HA := Lib.hid (hfa.below hB0); have HB := Lib.hid (hfb.below hB0); have HLA := Lib.hid hla; have HLB := Lib.hid hlb
  obtain ⟨t0, t1⟩ := two_boxes w #[.int .u64 (ga : Int), .slice a la capa] #[.int .u64 (gb : Int), .slice b lb capb] 44
  have T1 := Lib.hid t1
  obtain ⟨s, hs⟩ : ∃ s, checkE n ga xs = s := ⟨_, rfl⟩
  have HS := Lib.hid hs
  by_cases h0 : s = 0
  · subst h0
    have HR : Hid (checkE n gb ys = r) := by show _ = _; rw [← hr, bothE, if_pos hs]
    clear hfa hfb hr hla hlb t0 t1 hs
    go_enter Tryz.func106, Tryz.ntmps106
    go_wp2_with fail
    refine (checkA_is n a capa ga xs _ HA.out 0 HS.out la HLA.out).mono ?_
    rintro e w1 ⟨rfl, hb1⟩
    have hB1 := hB0.trans (hb1.mono hB0.size)
    obtain ⟨d0, d1, _⟩ := two_cells (heap_old T1.out hb1)
    go_wp2_with fail
    refine (checkA_is n b capb gb ys _ (HB.out.below hb1) r HR.out lb HLB.out).mono ?_
    rintro e w2 ⟨rfl, hb2⟩
    go_wp2
    go_ret
    exact ⟨rfl, hB1.trans (hb2.mono hB1.size)⟩
  · have HR : Hid (s = r) := by show _ = _; rw [← hr, bothE, hs, if_neg h0]
    have hne : (s != 0) = true := by simpa using h0
    clear hfa hfb hr hla hlb t0 t1 hs h0
    go_enter Tryz.func106, Tryz.ntmps106
    go_wp2_with fail
    refine (checkA_is n a capa ga xs _ HA.out s HS.out la HLA.out).mono ?_
    rintro e w1 ⟨rfl, hb1⟩
    go_wp2
    go_ret
    exact ⟨rint HR.out, hB0.trans (hb1.mono hB0.size)⟩
end Go.Proofs.YtfkbkekgnoanaaaGreatDoor
namespace Go.Proofs.YtfkbkekgnoanaaaGreatDoor
open Go.RowKit
set_option linter.unusedVariables false
structure TabC (W : World) : Prop where
  ctz : Lib.TabIs Tryz.prog W "math/bits.deBruijn64tab" .u8 tab64
theorem TabC.below {W W' : World} (h : TabC W) (hb : Below W.heap.size W W') : TabC W' := ⟨var?_below hb gCtz (var_lt gCtz h.ctz) h.ctz⟩
theorem ctzC_calls (x : Nat) (hx0 : x ≠ 0) (hx : x < 18446744073709551616) (w : World) (ht : TabC w) :
    Calls Tryz.prog 122 #[.int .u64 x] w fun e w' => e = .returned (.int .i64 (Lib.ctz 64 x)) ∧ w = w' := by
  obtain ⟨hlow, hk⟩ := Lib.lowest_bit 64 x hx0 hx
  obtain ⟨hi, htab⟩ := Lib.deBruijn64_at _ hk
  have hcell := ht.ctz.cell gCtz _ (by rw [tab64, List.length_map]; exact hi)
  have e : tab64.getD (2 ^ Lib.ctz 64 x * 285870213051353865 % 18446744073709551616 / 288230376151711744) 0 = ((Lib.ctz 64 x : Nat) : Int) := by
    have : tab64.getD (2 ^ Lib.ctz 64 x * 285870213051353865 % 18446744073709551616 / 288230376151711744) 0 = Int.ofNat (Lib.deBruijn64tab.getD (2 ^ Lib.ctz 64 x * 285870213051353865 % 18446744073709551616 / 288230376151711744) 0) := by
      simp only [tab64, List.getD, List.getElem?_map]
      cases Lib.deBruijn64tab[2 ^ Lib.ctz 64 x * 285870213051353865 % 18446744073709551616 / 288230376151711744]? <;> rfl
    rw [this, htab]; rfl
  rw [e] at hcell
  exact tz_core x _ _ w (by simp; omega) (Go.Proofs.tz64_key x _ hx hx0 hlow) hi hk hcell
theorem nextC_is (f : Nat) (i : Int) (r : Int) (b : Bool) (h : IsNext f i r b) (hf : f < 18446744073709551616) (w : World) (ht : TabC w) :
    Calls Tryz.prog 126 #[.int .u64 f, .int .i64 i] w fun e w' => e = .returned (.tuple #[.int .i64 r, .bool b]) ∧ w = w' := by
  have HT := Lib.hid ht
  by_cases hi : 63 < i
  · have e : r = 0 ∧ b = false := isNext_uniq h (.inr ⟨rfl, rfl, fun j hj hij => by omega⟩)
    obtain ⟨rfl, rfl⟩ := e
    clear h ht
    go_enter Tryz.func126, Tryz.ntmps126
    go_wp2
    go_ret2
    exact ⟨rfl, rfl⟩
  · have hc := Lib.hid (next_of_rest f i i.toNat (by omega) rfl hf r b h)
    have HA : bits BinOp.andNot IntKind.u64 (f : Int) ((2 ^ i.toNat - 1 : Nat) : Int) = ((restN f i.toNat : Nat) : Int) := u64_andNot_nat f _ hf (mask_lt (by omega))
    have hmx : (if i < 0 then (0 : Int) else i) = ((i.toNat : Nat) : Int) := by split <;> omega
    have hmx2 : max i 0 = ((i.toNat : Nat) : Int) := by omega
    have hlt := restN_lt f i.toNat hf
    obtain ⟨m, hm⟩ : ∃ m, i.toNat = m := ⟨_, rfl⟩
    rw [hm] at HA hc hmx hmx2 hlt
    have hm63 : m ≤ 63 := by omega
    obtain ⟨q, hq⟩ : ∃ q, restN f m = q := ⟨_, rfl⟩
    rw [hq] at HA hc hlt
    obtain ⟨p, hp⟩ : ∃ p : Nat, 2 ^ m - 1 = p := ⟨_, rfl⟩
    rw [hp] at HA
    have HP := Lib.hid hp
    clear ht h hq hp hf hm
    rcases hc.out with ⟨h0, rfl, rfl⟩ | ⟨h0, hr, rfl⟩
    · subst h0
      go_enter Tryz.func126, Tryz.ntmps126
      go_wp2_with fail
      refine (mask_any m (by omega) _).mono ?_
      rintro e w1 ⟨rfl, rfl⟩
      rw [HP.out]
      go_wp2
      go_ret2
      exact ⟨rfl, rfl⟩
    · have HR := Lib.hid hr
      have hq0 : ((q : Int) == 0) = false := by simp; omega
      clear hr hc
      go_enter Tryz.func126, Tryz.ntmps126
      go_wp2_with fail
      refine (mask_any m (by omega) _).mono ?_
      rintro e w1 ⟨rfl, rfl⟩
      rw [HP.out]
      go_wp2_with fail
      refine (ctzC_calls q (by omega) hlt _ HT.out).mono ?_
      rintro e w1 ⟨rfl, rfl⟩
      go_wp2
      go_ret2
      exact ⟨rib HR.out.symm rfl, rfl⟩
end Go.Proofs.YtfkbkekgnoanaaaGreatDoor
namespace Go.Proofs.YtfkbkekgnoanaaaGreatDoor
open Go.RowKit Go.Shelf
set_option linter.unusedVariables false
def NextOf (rest : List Nat) (r : Int) (b : Bool) : Prop := (rest = [] ∧ r = 0 ∧ b = false) ∨ (∃ x l, rest = x :: l ∧ r = (x : Int) ∧ b = true)
theorem mem_of_bit {s j : Nat} (hj : j < 64) (h : s.testBit j = true) : j ∈ mem s := by
  unfold mem
  rw [List.mem_filter]
  exact ⟨List.mem_range.2 hj, h⟩
theorem mem_sorted (s : Nat) : (mem s).Pairwise (· < ·) := List.Pairwise.filter _ List.pairwise_lt_range
theorem next_rest {s : Nat} {pre rest : List Nat} {i r : Int} {b : Bool} (hm : mem s = pre ++ rest) (hp : ∀ p ∈ pre, (p : Int) < i) (hr : ∀ q ∈ rest, i ≤ (q : Int)) (h : IsNext s i r b) : NextOf rest r b := by
  have hs := mem_sorted s
  rw [hm, List.pairwise_append] at hs
  cases rest with
  | nil =>
    have : IsNext s i 0 false := .inr ⟨rfl, rfl, fun j hj hij => by
      cases hb : s.testBit j
      · rfl
      · have := mem_of_bit hj hb
        rw [hm, List.append_nil] at this
        have := hp j this
        omega⟩
    obtain ⟨e1, e2⟩ := isNext_uniq h this
    exact .inl ⟨rfl, e1, e2⟩
  | cons y l =>
    have hy : y ∈ mem s := by rw [hm]; simp
    have hyl : ∀ q ∈ l, y < q := fun q hq => (List.pairwise_cons.1 hs.2.1).1 q hq
    have : IsNext s i y true := .inl ⟨rfl, y, rfl, mem_lt hy, hr y (by simp), mem_bit hy, fun j hj hij => by
      cases hb : s.testBit j
      · rfl
      · have hj64 := mem_lt hy
        have := mem_of_bit (by omega) hb
        rw [hm, List.mem_append, List.mem_cons] at this
        rcases this with h1 | h1 | h1
        · have := hp j h1; omega
        · omega
        · have := hyl j h1; omega⟩
    obtain ⟨e1, e2⟩ := isNext_uniq h this
    exact .inr ⟨y, l, rfl, e1, e2⟩
theorem next_step {s : Nat} {pre l : List Nat} {x : Nat} (hm : mem s = pre ++ x :: l) {r : Int} {b : Bool} (h : IsNext s ((x : Int) + 1) r b) : NextOf l r b := by
  have hs := mem_sorted s
  rw [hm, List.pairwise_append] at hs
  refine next_rest (pre := pre ++ [x]) (by rw [hm]; simp) (fun p hp => ?_) (fun q hq => ?_) h
  · rw [List.mem_append, List.mem_singleton] at hp
    rcases hp with hp | rfl
    · have := hs.2.2 p hp x (by simp); omega
    · omega
  · have := (List.pairwise_cons.1 hs.2.1).1 q hq
    omega
def boolOf : Value → Bool
  | .bool b => b
  | _ => false
section iter
attribute [local go_sem] Oper.semAt_some
set_option maxRecDepth 100000 in
set_option maxHeartbeats 1000000 in
theorem fmembers1 (n : Nat) (hn : 1 ≤ n) (l B s : Nat) (hs : s < 18446744073709551616) (J : List Nat → World → Prop) (hA : Abide B J) (hT : ∀ pre X, J pre X → TabC X)
    (hY : ∀ (pre : List Nat) (x : Nat) (rest : List Nat) X, mem s = pre ++ x :: rest → J pre X → YieldAt Fence.wide (n - 1) Tryz.prog l #[.int .i64 x] X fun e X' => e = .returned (.bool true) ∧ J (pre ++ [x]) X' ∧ X'.heap[B]? = X.heap[B]?)
    (W : World) (hB : Boxed W B 41 (.int .u64 s)) (h0 : J [] W) :
    CallsIn Fence.wide n Tryz.prog 125 #[.func (.yield l) #[] #[], .pointer (some ⟨B, 0, none⟩)] W fun e W' => (∃ v, e = .returned v) ∧ J (mem s) W' := by
  have HY := Lib.hid hY
  have HJ0 := Lib.hid h0
  have HB0 := Lib.hid hB
  have hc0 := hB.cell
  obtain ⟨r0, b0, hn0⟩ := isNext_ex s 0
  have HN0 := Lib.hid hn0
  have HNR := Lib.hid (next_rest (pre := []) (rest := mem s) rfl (by simp) (fun q _ => by omega) hn0)
  clear hY h0 hB hn0
  refine callsIn_of_wp Tryz.func125 rfl trivial ?_ rfl
  simp only [Tryz.ntmps125, List.size_toArray, List.length_cons, List.length_nil, Nat.reduceAdd, Nat.reduceSub, Array.replicate_succ, Array.replicate_zero, List.push_toArray, List.append_toArray, List.nil_append, List.cons_append]
  gi_wp2_with (refine ⟨trivial, ?_⟩; gi_at_call 126; refine (callsIn_wide.2 (nextC_is s 0 r0 b0 HN0.out hs _ (hT _ _ HJ0.out))).mono ?_; rintro e w' ⟨rfl, rfl⟩)
  gi_loopw [3, 4] (fun i ok wr => ∃ (pre rest : List Nat) (r : Int) (b : Bool), i = .int .i64 r ∧ ok = .bool b ∧ Hid (mem s = pre ++ rest) ∧ Hid (NextOf rest r b) ∧ Hid (Boxed wr B 41 (.int .u64 s)) ∧ Hid (J pre wr))
    (fun i ok _ => if boolOf ok = true then 65 - (intOf i).toNat else 0)
  case atStart => exact ⟨[], mem s, r0, b0, rfl, rfl, rfl, HNR.out, HB0.out, HJ0.out⟩
  case round =>
    obtain ⟨pre, rest, r, b, rfl, rfl, hm, hnx, hb, hJ⟩ := hrel
    have hc := hb.out.cell
    rcases hnx.out with ⟨rfl, rfl, rfl⟩ | ⟨x, tl, rfl, rfl, rfl⟩
    · have hall : Hid (pre = mem s) := by show _ = _; rw [hm.out, List.append_nil]
      gi_wp2
      go_end0
      exact ⟨⟨_, rfl⟩, by rw [← hall.out]; exact hJ.out⟩
    · have hx64 : x < 64 := mem_lt (s := s) (by rw [hm.out]; simp)
      obtain ⟨r2, b2, hn2⟩ := isNext_ex s ((x : Int) + 1)
      have HN2 := Lib.hid hn2
      have HNR2 := Lib.hid (next_step hm.out hn2)
      have hM3 : Hid (mem s = (pre ++ [x]) ++ tl) := by show _ = _; rw [hm.out]; simp
      obtain ⟨fn, tmps, assign, body, hy, hR⟩ := HY.out pre x tl wr hm.out hJ.out
      have hmx : Hid (∀ y l2, tl = y :: l2 → x < y) := fun y l2 e => by
        have hs := mem_sorted s
        rw [hm.out, List.pairwise_append] at hs
        exact (List.pairwise_cons.1 hs.2.1).1 y (by rw [e]; simp)
      clear hn2
      gi_wp2
      refine hR.mono ?_
      rintro e W3 ⟨rfl, hJ3, hk3⟩
      have HB3 : Hid (Boxed W3 B 41 (.int .u64 s)) := hk3.trans hb.out
      have HJ3 := Lib.hid hJ3
      have hc3 := HB3.out.cell
      clear hk3 hJ3
      gi_wp2_with (refine ⟨trivial, ?_⟩; gi_at_call 126; refine (callsIn_wide.2 (nextC_is s ((x : Int) + 1) r2 b2 HN2.out hs _ (hT _ _ HJ3.out))).mono ?_; rintro e w' ⟨rfl, rfl⟩)
      go_roundw
      case rel => exact ⟨pre ++ [x], tl, r2, b2, rfl, rfl, hM3, HNR2, HB3, HJ3⟩
      case measure =>
        rcases HNR2.out with ⟨_, rfl, rfl⟩ | ⟨y, l2, e, rfl, rfl⟩
        · simp [intOf, boolOf]; omega
        · have := hmx.out y l2 e
          simp [intOf, boolOf]; omega
end iter
theorem fmembers_any (s : Nat) (w : World) :
    Calls Tryz.prog 119 #[.int .u64 s] w fun e w' => e = .returned (.func (.func 125) #[] #[.pointer (some ⟨w.heap.size, 0, none⟩)]) ∧ w' = w.alloc (.cells #[.int .u64 s] 41) := by
  go_enter Tryz.func119, Tryz.ntmps119
  go_wp2
  go_ret
  exact ⟨rfl, rfl⟩
theorem fmembers_seq (n : Nat) (hn : 1 ≤ n) (B s : Nat) (hs : s < 18446744073709551616) (w : World) (hB : Boxed w B 41 (.int .u64 s)) :
    SeqCell Fence.wide n Tryz.prog 125 #[.pointer (some ⟨B, 0, none⟩)] (fun x : Nat => #[Value.int .i64 x]) (mem s) B TabC w :=
  fun l J W hW hA hT hY h0 => fmembers1 n hn l B s hs J hA hT hY W (hW.trans hB) h0

end Go.Proofs.YtfkbkekgnoanaaaGreatDoor
namespace Go.Proofs.YtfkbkekgnoanaaaGreatDoor
open Go.RowKit Go.Shelf
set_option linter.unusedVariables false
theorem abide_made {B C D : Nat} {t : TypeId} {f : List Nat → Value} {o : Obj} {w : World} (hBC : B ≠ C) (hBD : B ≠ D) (hBn : w.heap.size ≤ B) {tB : TypeId} {vB : Value} :
    Abide B (fun (pre : List Nat) W => (∃ v, Boxed W B tB v) ∧ W.heap[D]? = some o ∧ Boxed W C t (f pre) ∧ Below w.heap.size w W) where
  cell := by
    rintro pre X u ⟨⟨v, hB⟩, hD, hC, hb⟩
    exact ⟨⟨u, hB.set u⟩, (Below.heap_setCell _ _ _ _ hBD.symm).trans hD, hC.other hBC.symm _, hb.setCell (p := ⟨B, 0, none⟩) hBn _⟩
  drew := by
    rintro pre X m ⟨hB, hD, hC, hb⟩
    exact ⟨hB, hD, hC, below_drewN hb m⟩
theorem own_made {B C D E : Nat} {t tB T : TypeId} {f : List Nat → Value} {cs : Array Value} {w : World} (hE : w.heap.size ≤ E) :
    OwnFrom E (fun (pre : List Nat) W => (∃ v, Boxed W B tB v) ∧ W.heap[D]? = some (.cells cs T (0, 0)) ∧ Boxed W C t (f pre) ∧ Below w.heap.size w W) := by
  rintro s X Y row ⟨⟨vB, hB⟩, hD, hC, hb⟩ hg hrow
  have ne : ∀ (b : Nat) (tt : TypeId) (u : Array Value), X.heap[b]? = some (.cells u tt (0, 0)) → some b ≠ row := fun b tt u hbx e' => by
    obtain ⟨_, o, ho, hc⟩ := hrow b e'.symm
    rw [hbx] at ho; cases ho; cases hc
  exact ⟨⟨vB, hB.kept hg (ne _ _ _ hB)⟩, (hg.block D (Array.getElem?_eq_some_iff.1 hD).1 (ne _ _ _ hD)).trans hD, hC.kept hg (ne _ _ _ hC), hb.grown hg hb.size fun k e' => Nat.le_trans hE (hrow k e').1⟩

section madeA
attribute [local go_sem] Oper.semAt_some
set_option maxRecDepth 100000 in
set_option maxHeartbeats 2000000 in
theorem madeA_in (a : Option Addr) (cap gen : Nat) (rows : List Nat) (s : Nat) (hs : s < 18446744073709551616) (w : World) (hf : FAt w a gen rows) (hin : ∀ i ∈ mem s, i < rows.length) (ht : TabC w) (r : Nat) (hr : madeF gen rows s = r) (len : Nat) (hl : rows.length = len) :
    CallsIn Fence.wide 5 Tryz.prog 107 #[fval gen a len cap, .int .u64 s] w fun e W' => e = .returned (.int .u64 r) ∧ Below w.heap.size w W' := by
  unfold fval
  have HF := Lib.hid hf; have HIN := Lib.hid hin; have HR := Lib.hid hr; have HL := Lib.hid hl; have HT := Lib.hid ht
  have hgen := hf.gen
  have HALL := Lib.hid hf.all
  have hlen : len ≤ 100 := by rw [← hl]; exact hf.len
  clear hin hr hl
  refine callsIn_of_wp_marks Tryz.func107 rfl trivial ?_ rfl
  simp only [Tryz.ntmps107, List.size_toArray, List.length_cons, List.length_nil, Nat.reduceAdd, Nat.reduceSub, Array.replicate_succ, Array.replicate_zero, List.push_toArray, List.append_toArray, List.nil_append, List.cons_append]
  gi_wp2_with (refine ⟨trivial, ?_⟩; gi_at_call 119; refine (callsIn_wide.2 (fmembers_any s _)).mono ?_; rintro e w' ⟨rfl, rfl⟩)
  have b0 := heapV_new w (.cells #[.int .u64 (gen : Int), .slice a len cap] 44)
  have bO := Boxed.new (w.alloc (.cells #[.int .u64 (gen : Int), .slice a len cap] 44)) 41 (.int .u64 (gen : Int))
  have bN := Boxed.new ((w.alloc (.cells #[.int .u64 (gen : Int), .slice a len cap] 44)).alloc (.cells #[.int .u64 (gen : Int)] 41)) 41 (.int .u64 s)
  rw [World.size_alloc] at bO
  rw [World.size_alloc, World.size_alloc] at bN
  have hB0 : Below w.heap.size w (((w.alloc (.cells #[.int .u64 (gen : Int), .slice a len cap] 44)).alloc (.cells #[.int .u64 (gen : Int)] 41)).alloc (.cells #[.int .u64 s] 41)) := (((Below.refl _ w).alloc (Nat.le_refl _) _).alloc (by simp) _).alloc (by simp; omega) _
  refine range_cell (F := Fence.wide) (n := 5) rfl (by omega) (gf := 125) (lb := #[.pointer (some ⟨w.heap.size + 1 + 1, 0, none⟩)]) (by simp [go_sem]) trivial (enters_of Tryz.func125 (by kernel_rfl) rfl)
    (B := w.heap.size + 1 + 1) (Kw := TabC) (by simp) (fmembers_seq 4 (by omega) (w.heap.size + 1 + 1) s hs _ bN) (fun _ => rfl)
    (fun pre W => (∃ v, Boxed W (w.heap.size + 1 + 1) 41 v) ∧ W.heap[w.heap.size]? = some (.cells #[.int .u64 (gen : Int), .slice a len cap] 44 (0, 0)) ∧ Boxed W (w.heap.size + 1) 41 (.int .u64 (accF rows gen pre : Nat)) ∧ Below w.heap.size w W)
    (own_made (by simp; omega)) (abide_made (by omega) (by omega) (by omega) (vB := undef)) (fun pre X h => HT.out.below h.2.2.2) ⟨⟨_, bN⟩, heap_allocd (heap_allocd b0 _) _, bO.alloc _, hB0⟩
    (fun x => { tmps := #[.agg #[.int .u64 (gen : Int), .slice a len cap], .int .u64 s, .pointer (some ⟨w.heap.size, 0, none⟩), undef, .int .u64 0, .pointer (some ⟨w.heap.size + 1, 0, none⟩), .int .i64 x, .pointer (some ⟨w.heap.size, 0, none⟩), .int .u64 (gen : Int), .int .u64 s, .func (.func 125) #[] #[.pointer (some ⟨w.heap.size + 1 + 1, 0, none⟩)], .int .i64 x, undef, undef, undef, undef, undef, undef, undef, undef], defers := [] }) ?assign ?body ?done
  case assign =>
    intro l x W K hK
    gi_wp2
    exact hK
  case body =>
    rintro l pre x rest W hx ⟨⟨vB, hvB⟩, h0, hv, hB⟩
    have hc := hv.cell
    have hfr := hv.frozen
    obtain ⟨c0, c1, _⟩ := two_cells h0
    have hxm : x ∈ mem s := by rw [hx]; simp
    have hxl : x < len := by rw [← HL.out]; exact HIN.out x hxm
    obtain ⟨ba, offa, z, rfl, hz, hz64, hba, a0⟩ := (HF.out.below hB).at_ (i := x) (by rw [HL.out]; exact hxl)
    have g0 : (0 : Int) ≤ (x : Int) := by omega
    have g1 : (x : Int) < (len : Int) := by omega
    have hacc := accF_lt HALL.out pre gen hgen
    have hor := u64_or_nat (accF rows gen pre) z hacc hz64
    have HS : Hid (accF rows gen (pre ++ [x]) = accF rows gen pre ||| z) := by
      show _ = _
      rw [accF_snoc, List.getD_eq_getElem?_getD, hz]; rfl
    obtain ⟨u, hu⟩ : ∃ u, accF rows gen pre = u := ⟨_, rfl⟩
    rw [hu] at hor hc HS hv
    obtain ⟨q, hq⟩ : ∃ q, u ||| z = q := ⟨_, rfl⟩
    rw [hq] at hor HS
    have HV := Lib.hid hv; have H0 := Lib.hid h0; have HVB := Lib.hid hvB
    clear hz hu hq hx hacc hv h0 hvB
    have hmix : Tryz.prog.follows .mixedOrders = true := by kernel_rfl
    gi_wp2_with fail
    gi_region_with_o (fail)
    all_goals
      refine ⟨((KeepsOthers.setCell _ _ _).trans (KeepsOthers.drew _)).from _, Below.heap_setCell _ _ _ _ (show w.heap.size + 1 + 1 ≠ w.heap.size + 1 by omega), ⟨vB, HVB.out.other (by omega) _⟩, heap_other H0.out (by omega), ?_, (hB.setCell (p := ⟨w.heap.size + 1, 0, none⟩) (by simp) _).drew⟩
      rw [HS.out]
      exact HV.out.set _
  case done =>
    rintro D W hD ⟨⟨vB, hvB⟩, h0, hv, hB⟩ hK
    have hc := hv.cell
    have HQ : Hid (accF rows gen (mem s) = r) := HR.out
    gi_wp2
    refine ⟨by simp, .inl ⟨_, _, rfl, run_takeDeferred hK, ?_⟩⟩
    exact ⟨_, results_tmp rfl _ _ _, by rw [← HQ.out]; rfl, hB.trans (belowK_b (w := w) (Nat.le_refl _) W D _ _ (by simp at hD; omega) hK rfl rfl)⟩
end madeA
theorem madeA_is (a : Option Addr) (cap gen : Nat) (rows : List Nat) (s : Nat) (hs : s < 18446744073709551616) (w : World) (hf : FAt w a gen rows) (hin : ∀ i ∈ mem s, i < rows.length) (ht : TabC w) (r : Nat) (hr : madeF gen rows s = r) (len : Nat) (hl : rows.length = len) :
    Calls Tryz.prog 107 #[fval gen a len cap, .int .u64 s] w fun e W' => e = .returned (.int .u64 r) ∧ Below w.heap.size w W' :=
  callsIn_wide.1 (madeA_in a cap gen rows s hs w hf hin ht r hr len hl)

end Go.Proofs.YtfkbkekgnoanaaaGreatDoor
namespace Go.Proofs.YtfkbkekgnoanaaaGreatDoor
open Go.RowKit
set_option linter.unusedVariables false
theorem mem_below {s m i : Nat} (hs : s < 2 ^ m) (hi : i ∈ mem s) : i < m := by
  rcases Nat.lt_or_ge i m with h | h
  · exact h
  · have := mem_bit hi
    rw [Nat.testBit_lt_two_pow (Nat.lt_of_lt_of_le hs (Nat.pow_le_pow_right (by omega) h))] at this
    cases this
end Go.Proofs.YtfkbkekgnoanaaaGreatDoor
namespace Go.Proofs.YtfkbkekgnoanaaaGreatDoor
open Go.RowKit
set_option linter.unusedVariables false
set_option maxRecDepth 100000 in
set_option maxHeartbeats 4000000 in
theorem extA_is (n : Int) (a b : Option Addr) (capa capb ga gb : Nat) (xs ys : List Nat) (w : World) (hfa : FAt w a ga xs) (hfb : FAt w b gb ys) (ht : TabC w) (e0 : Int) (he : bothE n ga xs gb ys = e0) (g : Nat) (hg : extG n ga xs gb ys = g) (zs : List Nat) (hz : extV n ga xs gb ys = zs) (la lb : Nat) (hla : xs.length = la) (hlb : ys.length = lb) :
    Calls Tryz.prog 89 #[.int .i64 n, fval ga a la capa, fval gb b lb capb] w (FRet g zs e0 w) := by
  unfold fval
  have hB0 : Below w.heap.size w (((w.alloc (.cells #[.int .u64 (ga : Int), .slice a la capa] 44)).alloc (.cells #[.int .u64 (gb : Int), .slice b lb capb] 44)).alloc (.cells #[.int .u64 0, .slice none 0 0] 44)) := (((Below.refl _ _).alloc (Nat.le_refl _) _).alloc (by simp) _).alloc (by simp; omega) _
  have HA := Lib.hid (hfa.below hB0); have HB := Lib.hid (hfb.below hB0); have HLA := Lib.hid hla; have HLB := Lib.hid hlb
  obtain ⟨t0, t1, t2⟩ := three_boxes w #[.int .u64 (ga : Int), .slice a la capa] #[.int .u64 (gb : Int), .slice b lb capb] #[.int .u64 0, .slice none 0 0] 44
  have T0 := Lib.hid t0; have T1 := Lib.hid t1; have T2 := Lib.hid t2
  have hga := hfa.gen; have hgb := hfb.gen
  have HXA := Lib.hid hfa.all; have HYA := Lib.hid hfb.all
  have HXL := Lib.hid hfa.len
  have HE := Lib.hid he
  by_cases h0 : e0 = 0
  · subst h0
    obtain ⟨m, rfl, hm, hxm, hym⟩ := bothE_len he
    obtain rfl : m = la := by omega
    obtain rfl : m = lb := by omega
    obtain rfl : madeF gb ys ga = g := by rw [← hg, extG, if_pos he]
    have HZ : Hid (canonL (madeF gb ys ga) (xs.map (madeF gb ys)) = zs) := by show _ = _; rw [← hz, extV, if_pos he]
    have HOL : Hid ((xs.map (madeF gb ys)).length = (List.replicate m 0).length) := by show _ = _; simp; omega
    obtain ⟨hc1, hc2⟩ := bothE_ok he
    obtain ⟨hd, sh1, _⟩ := checkE_ok hc1
    rw [Int.toNat_natCast] at sh1
    obtain ⟨_, ig, ir⟩ := shapeB_len sh1
    have HINg : Hid (∀ i ∈ mem ga, i < ys.length) := fun i hi => by rw [hym]; exact mem_below ((insN_iff hm hga).1 ig) hi
    have HINr : Hid (∀ x ∈ xs, ∀ i ∈ mem x, i < ys.length) := fun x hx i hi => by rw [hym]; exact mem_below ((insN_iff hm (hfa.all x hx)).1 (ir x hx)) hi
    have hgg : madeF gb ys ga < 18446744073709551616 := madeF_lt hfb.all hgb
    have HGG : Hid (madeF gb ys ga = madeF gb ys ga) := rfl
    obtain ⟨gg, hggq⟩ : ∃ gg, madeF gb ys ga = gg := ⟨_, rfl⟩
    have HGQ := Lib.hid hggq
    rw [hggq] at hgg HZ ⊢
    obtain ⟨i0, hi, hz0, hz1, hz2⟩ := info_parts infoU
    have HT := Lib.hid ht
    have hm0 : (0 : Int) ≤ (m : Int) := by omega
    have hm64 : (m : Int) ≤ 64 := by omega
    clear hfa hfb he hg hz hla hlb t0 t1 t2 hxm hym hggq hc1 hc2 hd sh1 ig ir HGG ht
    go_enter Tryz.func89, Tryz.ntmps89
    go_wp2_with fail
    refine (bothA_is m a b capa capb ga gb xs ys _ HA.out HB.out 0 HE.out m m HLA.out HLB.out).mono ?_
    rintro e w1 ⟨rfl, hb1⟩
    have hB1 := hB0.trans (hb1.mono hB0.size)
    have U0 := Lib.hid (heap_old T0.out hb1); have U1 := Lib.hid (heap_old T1.out hb1); have U2 := Lib.hid (heap_old T2.out hb1)
    go_wp2_with (at_make; go_loud (refine wpList_make_full _ rfl (.tmp 20) (.tmp 20) 42 rfl w1.heap.size 41 i0 _ 1 Tryz.underlying42 hi hz0 hz1 .i64 .i64 (m : Int) (m : Int) m rfl rfl rfl rfl (by rw [hz2]; omega) (by unfold maxLen; omega) (Nat.le_refl _) ?_; intro w2 hown2 hgrow2; have hb2 : Below w1.heap.size w1 w2 := (Below.refl _ _).grown hgrow2 (Nat.le_refl _) (fun j e => by cases e); have V0 := Lib.hid (heap_old U0.out hb2); obtain ⟨c0, c1, _⟩ := two_cells V0.out))
    have hB2 := hB1.trans (hb2.mono hB1.size)
    have V1 := Lib.hid (heap_old U1.out hb2); have V2 := Lib.hid (heap_old U2.out hb2)
    have hw1 : w.heap.size + 1 + 1 < w1.heap.size := (Array.getElem?_eq_some_iff.1 U2.out).1
    have HO0 : Hid (w2.ownsRow w1.heap.size 41 1 (.slice (some ⟨w1.heap.size, 0, none⟩) m m) m (u64s (mixL (xs.map (madeF gb ys)) (List.replicate m 0) 0))) := by
      rw [mixL_zero]
      have e : u64s (List.replicate m 0) = List.replicate m (.int .u64 0) := by simp [u64s]
      have e2 : (madeCells (Value.int IntKind.u64 0).cells (m * 1)).toList = List.replicate m (.int .u64 0) := by
        rw [Nat.mul_one]
        apply List.ext_getElem
        · simp [madeCells]
        · intro i h1 h2
          simp [madeCells, Value.cells, Nat.mod_one]
      rw [e, ← e2]
      exact hown2
    clear hown2 c0 c1
    go_wp2_with fail
    go_loopw [25] (fun i wr => ∃ k : Nat, k ≤ m ∧ i = .int .i64 k ∧ Hid (wr.ownsRow w1.heap.size 41 1 (.slice (some ⟨w1.heap.size, 0, none⟩) m m) m (u64s (mixL (xs.map (madeF gb ys)) (List.replicate m 0) k))) ∧ Hid (wr.heap[w.heap.size]? = some (.cells #[.int .u64 (ga : Int), .slice a m capa] 44 (0, 0))) ∧ Hid (wr.heap[w.heap.size + 1]? = some (.cells #[.int .u64 (gb : Int), .slice b m capb] 44 (0, 0))) ∧ Hid (wr.heap[w.heap.size + 1 + 1]? = some (.cells #[.int .u64 0, .slice none 0 0] 44 (0, 0))) ∧ Below w1.heap.size w1 wr) (fun i _ => m - (intOf i).toNat)
    case atStart => exact ⟨0, Nat.zero_le _, rfl, HO0, V0, V1, V2, hb2⟩
    case round =>
      obtain ⟨k, hk, rfl, HO, R0, R1, R2, hb⟩ := hrel
      have HFB := Lib.hid ((HB.out.below hb1).below hb)
      obtain ⟨d0, d1, _⟩ := two_cells R1.out
      by_cases hlt : k < m
      · obtain ⟨ba, offa, x, rfl, hx, hx64, hba, a0⟩ := ((HA.out.below hb1).below hb).at_ (i := k) (by rw [HLA.out]; exact hlt)
        have HXI := Lib.hid (HINr.out x (List.mem_of_getElem? hx))
        have hxk : (List.replicate m 0)[k]? = some 0 := by simp [hlt]
        have hmx : (xs.map (madeF gb ys))[k]? = some (madeF gb ys x) := by rw [List.getElem?_map, hx]; rfl
        have HM := Lib.hid (mixL_set hmx hxk)
        obtain ⟨q, hq⟩ : ∃ q, madeF gb ys x = q := ⟨_, rfl⟩
        have HQ := Lib.hid hq
        rw [hq] at HM
        have z0 := Lib.hid (u64s_get (mixL_at HOL.out hxk))
        have g0 : (0 : Int) ≤ (k : Int) := by omega
        have g3 : (k : Int) < (m : Int) := by omega
        have hbw : Hid (Below w.heap.size w wr) := hB1.trans (hb.mono hB1.size)
        clear hx hq hmx hxk
        go_wp2_with fail
        refine (madeA_is b capb gb ys x hx64 _ HFB.out HXI.out (HT.out.below hbw.out) q HQ.out m HLB.out).mono ?_
        rintro e w4 ⟨rfl, hb4⟩
        have HO4 := Lib.hid (ownV_below HO.out hb4)
        have dd := (HO4.out.cellAt k (by omega)).trans z0.out
        have q0 := HO4.out.frozenAt k
        have HO2 : Hid ((w4.setCell ⟨w1.heap.size, k, none⟩ (.int .u64 (q : Int))).ownsRow w1.heap.size 41 1 (.slice (some ⟨w1.heap.size, 0, none⟩) m m) m (u64s (mixL (xs.map (madeF gb ys)) (List.replicate m 0) (k + 1)))) := by
          rw [← HM.out, ← u64s_set]
          exact (HO4.out.stored k _).1
        have R0' := Lib.hid (heap_other (B := w1.heap.size) (j := k) (c := .int .u64 (q : Int)) (heap_old R0.out hb4) (by omega))
        have R1' := Lib.hid (heap_other (B := w1.heap.size) (j := k) (c := .int .u64 (q : Int)) (heap_old R1.out hb4) (by omega))
        have R2' := Lib.hid (heap_other (B := w1.heap.size) (j := k) (c := .int .u64 (q : Int)) (heap_old R2.out hb4) (by omega))
        have hb' := (hb.trans (hb4.mono hb.size)).setCell (p := ⟨w1.heap.size, k, none⟩) (Nat.le_refl _) (.int .u64 (q : Int))
        go_wp2
        go_roundw
        case rel => exact ⟨k + 1, by omega, by go_num, HO2, R0', R1', R2', hb'⟩
        case measure => simp [intOf]; omega
      · obtain rfl : k = m := by omega
        have HO2 : Hid (wr.ownsRow w1.heap.size 41 1 (.slice (some ⟨w1.heap.size, 0, none⟩) k k) k (u64s (xs.map (madeF gb ys)))) := by
          have := HO.out
          have e : mixL (xs.map (madeF gb ys)) (List.replicate k 0) k = xs.map (madeF gb ys) := by
            have := mixL_all HOL.out
            rwa [List.length_replicate] at this
          rwa [e] at this
        obtain ⟨a0, a1, _⟩ := two_cells R0.out
        have hol100 : Hid ((xs.map (madeF gb ys)).length ≤ 100) := by show _ ≤ _; rw [List.length_map]; exact HXL.out
        have holn : Hid ((xs.map (madeF gb ys)).length = k) := by show _ = _; rw [List.length_map]; exact HLA.out
        have HOLT : Hid (∀ r ∈ xs.map (madeF gb ys), r < 18446744073709551616) := fun r hr => by
          rw [List.mem_map] at hr
          obtain ⟨x, _, rfl⟩ := hr
          exact madeF_lt HYA.out hgb
        have hbw : Hid (Below w.heap.size w wr) := hB1.trans (hb.mono hB1.size)
        go_wp2_with fail
        refine (madeA_is b capb gb ys ga hga _ HFB.out HINg.out (HT.out.below hbw.out) gg HGQ.out k HLB.out).mono ?_
        rintro e w3 ⟨rfl, hb3⟩
        have hb3w : w1.heap.size ≤ w3.heap.size := Nat.le_trans hb.size hb3.size
        have HO3 := Lib.hid (ownV_below HO2.out hb3)
        have R3 := Lib.hid (heap_old R2.out hb3)
        go_wp2_with fail
        refine (canonical_is gg w1.heap.size k _ (xs.map (madeF gb ys)) zs _ hgg HOLT.out hol100.out holn.out hb3w HO3.out HZ.out).mono ?_
        rintro e w4 ⟨rfl, post⟩
        have POST := Lib.hid post
        have hB4 : Below w.heap.size w w4 := (hbw.out.trans (hb3.mono hbw.out.size)).trans (post.below.mono hB1.size)
        have W2 := Lib.hid ((post.rest (w.heap.size + 1 + 1) ((Array.getElem?_eq_some_iff.1 R3.out).1) (fun e => by have h9 := (HO3.out.lt _ e.symm).1; omega)).trans R3.out)
        obtain ⟨p0, p1, ff⟩ := two_cells W2.out
        have f0 := ff 0; have f1 := ff 1
        have N1 := Lib.hid (two_set1 (c := .slice (some ⟨w1.heap.size, 0, none⟩) k k) (two_set0 (c := .int .u64 (gg : Int)) W2.out))
        obtain ⟨s0, s1, _⟩ := two_cells N1.out
        have HNB := Lib.hid (not_row W2.out (by decide) POST.out.own)
        have HO5 := Lib.hid ((POST.out.own.kept (grownBy_set _ _ 0 (.int .u64 (gg : Int))) (.inr HNB.out.symm)).kept (grownBy_set _ (w.heap.size + 1 + 1) 1 (.slice (some ⟨w1.heap.size, 0, none⟩) k k)) (.inr HNB.out.symm))
        have HB5 := Lib.hid ((hB4.setCell (p := ⟨w.heap.size + 1 + 1, 0, none⟩) (by simp; omega) (.int .u64 (gg : Int))).setCell (p := ⟨w.heap.size + 1 + 1, 1, none⟩) (by simp; omega) (.slice (some ⟨w1.heap.size, 0, none⟩) k k))
        clear post ff a0 a1 d0 d1
        go_wp2
        refine bodyPost_ret (v := .tuple #[.agg #[.int .u64 (gg : Int), .slice (some ⟨w1.heap.size, 0, none⟩) k k], .int .i64 0]) ?_ rfl (fret_own hB1.size HO5.out HB5.out 0)
        simp [results, Tryz.results89, go_sem, s0, s1]
  · obtain rfl : 0 = g := by rw [← hg, extG, he, if_neg h0]
    obtain rfl : [] = zs := by rw [← hz, extV, he, if_neg h0]
    have hne : (e0 != 0) = true := by simpa using h0
    clear hfa hfb he hg hz hla hlb t0 t1 t2 h0
    go_enter Tryz.func89, Tryz.ntmps89
    go_wp2_with fail
    refine (bothA_is n a b capa capb ga gb xs ys _ HA.out HB.out e0 HE.out la lb HLA.out HLB.out).mono ?_
    rintro e w1 ⟨rfl, hb1⟩
    have hB1 := hB0.trans (hb1.mono hB0.size)
    have U2 := Lib.hid (heap_old T2.out hb1)
    obtain ⟨d0, d1, df⟩ := two_cells U2.out
    have f0 := df 0; have f1 := df 1
    have N1 := Lib.hid (two_set1 (c := .slice none 0 0) (two_set0 (c := .int .u64 0) U2.out))
    obtain ⟨s0, s1, _⟩ := two_cells N1.out
    clear df
    go_wp2
    refine bodyPost_ret (v := .tuple #[.agg #[.int .u64 0, .slice none 0 0], .int .i64 e0]) ?_ rfl (fret_nil e0 ((hB1.setCell (p := ⟨w.heap.size + 1 + 1, 0, none⟩) (by simp; omega) _).setCell (p := ⟨w.heap.size + 1 + 1, 1, none⟩) (by simp; omega) _))
    simp [results, Tryz.results89, go_sem, s0, s1]
end Go.Proofs.YtfkbkekgnoanaaaGreatDoor
namespace Go.Proofs.YtfkbkekgnoanaaaGreatDoor
open Go.RowKit
set_option linter.unusedVariables false
set_option maxRecDepth 100000 in
set_option maxHeartbeats 2000000 in
theorem oneA_is (n : Int) (w : World) (e0 : Int) (he : oneE n = e0) (ys : List Nat) (hys : oneV n = ys) :
    Calls Tryz.prog 84 #[.int .i64 n] w (FOwn 0 ys e0 w) := by
  have hB0 : Below w.heap.size w (w.alloc (.cells #[.int .u64 0, .slice none 0 0] 44)) := (Below.refl _ _).alloc (Nat.le_refl _) _
  have T0 := Lib.hid (heapV_new w (.cells #[.int .u64 0, .slice none 0 0] 44))
  obtain ⟨i0, hi, hz0, hz1, hz2⟩ := info_parts infoU
  cases hd : dimB n
  · obtain rfl : 31 = e0 := by rw [← he, oneE, hd]; rfl
    obtain rfl : [] = ys := by rw [← hys, oneV, hd]; rfl
    obtain ⟨d0, d1, df⟩ := two_cells T0.out
    have f0 := df 0; have f1 := df 1
    have hx : n < 0 ∨ 64 < n := by
      by_cases h : n < 0
      · exact .inl h
      · simp [dimB, show 0 ≤ n by omega] at hd; exact .inr hd
    clear df hd he hys
    rcases hx with hx | hx
    all_goals
      go_enter Tryz.func84, Tryz.ntmps84
      go_wp2
      refine bodyPost_ret (v := .tuple #[.agg #[.int .u64 0, .slice none 0 0], .int .i64 31]) ?_ rfl (fown_nil 31 hB0)
      simp [results, Tryz.results84, go_sem, d0, d1]
  · obtain ⟨m, rfl, hm⟩ := dim_nat hd
    obtain rfl : 0 = e0 := by rw [← he, oneE, hd]; rfl
    have HY : Hid (onesL m = ys) := by show _ = _; rw [← hys, oneV, hd, if_pos rfl, Int.toNat_natCast]
    have hm0 : (0 : Int) ≤ (m : Int) := by omega
    have hm64 : (m : Int) ≤ 64 := by omega
    clear hd he hys
    go_enter Tryz.func84, Tryz.ntmps84
    go_wp2_with (at_make; go_loud (refine wpList_make_full _ rfl (.tmp 13) (.tmp 13) 42 rfl w.heap.size 41 i0 _ 1 Tryz.underlying42 hi hz0 hz1 .i64 .i64 (m : Int) (m : Int) m rfl rfl rfl rfl (by rw [hz2]; omega) (by unfold maxLen; omega) hB0.size ?_; intro w2 hown2 hgrow2))
    have hbl : (w.alloc (.cells #[.int .u64 0, .slice none 0 0] 44)).heap.size = w.heap.size + 1 := by simp
    have hzz : Hid (w2.ownsRow w.heap.size 41 1 (.slice (some ⟨w.heap.size + 1, 0, none⟩) m m) m (u64s (mixL (onesL m) (List.replicate m 0) 0))) := by
      rw [mixL_zero, ← hbl]
      have e : u64s (List.replicate m 0) = List.replicate m (.int .u64 0) := by simp [u64s]
      have e2 : (madeCells (Value.int IntKind.u64 0).cells (m * 1)).toList = List.replicate m (.int .u64 0) := by
        rw [Nat.mul_one]
        apply List.ext_getElem
        · simp [madeCells]
        · intro i h1 h2
          simp [madeCells, Value.cells, Nat.mod_one]
      rw [e, ← e2]
      exact hown2
    have U0 := Lib.hid ((hgrow2.block _ (Array.getElem?_eq_some_iff.1 T0.out).1 (by simp)).trans T0.out)
    have hB2 : Below w.heap.size w w2 := hB0.grown hgrow2 hB0.size (fun j e => by cases e)
    clear hown2
    go_wp2_with fail
    go_loopw [17] (fun i wr => ∃ k : Nat, k ≤ m ∧ i = .int .i64 k ∧ Hid (wr.ownsRow w.heap.size 41 1 (.slice (some ⟨w.heap.size + 1, 0, none⟩) m m) m (u64s (mixL (onesL m) (List.replicate m 0) k))) ∧ Hid (wr.heap[w.heap.size]? = some (.cells #[.int .u64 0, .slice none 0 0] 44 (0, 0))) ∧ Below w.heap.size w wr) (fun i _ => m - (intOf i).toNat)
    case atStart => exact ⟨0, Nat.zero_le _, rfl, hzz, U0, hB2⟩
    case round =>
      obtain ⟨k, hk, rfl, HO, HR, hb⟩ := hrel
      by_cases hlt : k < m
      · have hsh : IntKind.u64.wrap ((2 : Int) ^ k) = ((2 ^ k : Nat) : Int) := by
          have hpw : 2 ^ k ≤ 9223372036854775808 := pow_lt64 (by omega)
          rw [IntKind.wrap_u64]
          have e : ((2 : Int) ^ k) = ((2 ^ k : Nat) : Int) := by simp
          rw [e]
          generalize 2 ^ k = q at *
          omega
        have hxk : (List.replicate m 0)[k]? = some 0 := by simp [hlt]
        have HM := Lib.hid (mixL_set (onesL_at hlt) hxk)
        obtain ⟨q, hq⟩ : ∃ q : Nat, 2 ^ k = q := ⟨_, rfl⟩
        rw [hq] at hsh HM
        have q0 := HO.out.frozenAt k
        have d0 := (HO.out.cellAt k (by omega)).trans (u64s_get (mixL_at (by rw [onesL_length]; simp) hxk))
        have g0 : (0 : Int) ≤ (k : Int) := by omega
        have g3 : (k : Int) < (m : Int) := by omega
        have HO2 : Hid ((wr.setCell ⟨w.heap.size + 1, k, none⟩ (.int .u64 (q : Int))).ownsRow w.heap.size 41 1 (.slice (some ⟨w.heap.size + 1, 0, none⟩) m m) m (u64s (mixL (onesL m) (List.replicate m 0) (k + 1)))) := by
          rw [← HM.out, ← u64s_set]
          exact (HO.out.stored k _).1
        have HR2 := Lib.hid (heap_other (B := w.heap.size + 1) (j := k) (c := .int .u64 (q : Int)) HR.out (by omega))
        have hb2 := hb.setCell (p := ⟨w.heap.size + 1, k, none⟩) (by simp) (.int .u64 (q : Int))
        clear hxk hq
        go_wp2
        go_roundw
        case rel => exact ⟨k + 1, by omega, by go_num, HO2, HR2, hb2⟩
        case measure => simp [intOf]; omega
      · obtain rfl : k = m := by omega
        have HO2 : Hid (wr.ownsRow w.heap.size 41 1 (.slice (some ⟨w.heap.size + 1, 0, none⟩) k k) k (u64s ys)) := by
          have := HO.out
          have e : mixL (onesL k) (List.replicate k 0) k = onesL k := by
            have := mixL_all (ys := onesL k) (xs := List.replicate k 0) (by rw [onesL_length]; simp)
            simpa using this
          rwa [e, HY.out] at this
        obtain ⟨r0, r1, rf⟩ := two_cells HR.out
        have rf0 := rf 0; have rf1 := rf 1
        have N1 := Lib.hid (two_set1 (c := .slice (some ⟨w.heap.size + 1, 0, none⟩) k k) (two_set0 (c := .int .u64 0) HR.out))
        obtain ⟨s0, s1, _⟩ := two_cells N1.out
        have HO5 := Lib.hid ((HO2.out.kept (grownBy_set _ _ 0 (.int .u64 0)) (.inr (not_row HR.out (by decide) HO2.out).symm)).kept (grownBy_set _ w.heap.size 1 (.slice (some ⟨w.heap.size + 1, 0, none⟩) k k)) (.inr (not_row HR.out (by decide) HO2.out).symm))
        have HB5 := Lib.hid ((hb.setCell (p := ⟨w.heap.size, 0, none⟩) (Nat.le_refl _) (.int .u64 0)).setCell (p := ⟨w.heap.size, 1, none⟩) (Nat.le_refl _) (.slice (some ⟨w.heap.size + 1, 0, none⟩) k k))
        clear rf
        go_wp2
        refine bodyPost_ret (v := .tuple #[.agg #[.int .u64 0, .slice (some ⟨w.heap.size + 1, 0, none⟩) k k], .int .i64 0]) ?_ rfl (fown_own (gen := 0) HO5.out HB5.out 0)
        simp [results, Tryz.results84, go_sem, s0, s1]
end Go.Proofs.YtfkbkekgnoanaaaGreatDoor
namespace Go.Proofs.YtfkbkekgnoanaaaGreatDoor
open Go.RowKit
set_option linter.unusedVariables false
theorem u64_nat {a : Int} (h : (Lit.int .u64 a).wf = true) : ∃ n : Nat, a = n ∧ n < 18446744073709551616 := by
  simp only [Lit.wf, IntKind.min, IntKind.max, IntKind.signed, IntKind.bits, Bool.and_eq_true, decide_eq_true_eq] at h
  simp at h
  exact ⟨a.toNat, by omega, by omega⟩
end Go.Proofs.YtfkbkekgnoanaaaGreatDoor
namespace Go.Proofs.YtfkbkekgnoanaaaGreatDoor
open Go.RowKit
set_option linter.unusedVariables false
theorem same_self (g : Nat) (zs : List Nat) : sameB g zs g zs = true := by simp [sameB]
end Go.Proofs.YtfkbkekgnoanaaaGreatDoor
namespace Go.Proofs.YtfkbkekgnoanaaaGreatDoor
open Go.RowKit
set_option linter.unusedVariables false
theorem check_good {n : Int} {g : Nat} {rows : List Nat} (hg : g < 18446744073709551616) (hr : ∀ r ∈ rows, r < 18446744073709551616) (h : checkE n g rows = 0) : ∃ m : Nat, n = m ∧ Good m g rows := by
  obtain ⟨hd, hs, hc⟩ := checkE_ok h
  obtain ⟨m, rfl, hm⟩ := dim_nat hd
  rw [Int.toNat_natCast] at hs
  obtain ⟨hl, ig, ir⟩ := shapeB_len hs
  unfold clearB at hc
  rw [List.all_eq_true] at hc
  exact ⟨m, rfl, hm, hl, (insN_iff hm hg).1 ig, fun r h => (insN_iff hm (hr r h)).1 (ir r h), fun r h => by simpa using hc r h⟩
end Go.Proofs.YtfkbkekgnoanaaaGreatDoor
namespace Go.Proofs.YtfkbkekgnoanaaaGreatDoor
open Go.RowKit
set_option linter.unusedVariables false
theorem flat_set : ∀ (cs : List Cl) (i : Nat) (c : Cl), i < cs.length → (((flat cs).set (i * 3) (.int .u64 (c.f : Int))).set (i * 3 + 1) (.int .i64 c.k)).set (i * 3 + 2) (.int .i64 c.v) = flat (cs.set i c)
  | [], i, c, h => by simp at h
  | x :: r, 0, c, h => by simp [flat_cons, vals]
  | x :: r, i + 1, c, h => by
    have ih := flat_set r i c (by simpa using h)
    have e0 : (i + 1) * 3 = i * 3 + 3 := by omega
    have e1 : (i + 1) * 3 + 1 = (i * 3 + 1) + 3 := by omega
    have e2 : (i + 1) * 3 + 2 = (i * 3 + 2) + 3 := by omega
    rw [e1, e2, e0, flat_cons, List.set_cons_succ, flat_cons, ← ih]
    simp [vals]

theorem own_below {w w' : World} {base size n : Nat} {E : Nat} {v : Value} {xs : List Value} (h : w.ownsRow base E size v n xs) (hb : Below w.heap.size w w') : w'.ownsRow base E size v n xs := by
  refine ⟨h.1, ?_⟩
  rcases h.2 with h2 | ⟨g, cap, cur, hv, hg, hh, r⟩
  · exact .inl h2
  · exact .inr ⟨g, cap, cur, hv, hg, by rw [hb.block g (Array.getElem?_eq_some_iff.1 hh).1]; exact hh, r⟩
def CellsRet (cs : List Cl) (err : Int) (w : World) (e : Ending) (w' : World) : Prop :=
  ∃ a cap, e = .returned (.tuple #[.slice a cs.length cap, .int .i64 err]) ∧ CRow w' a cs ∧ (∀ ad, a = some ad → w.heap.size ≤ ad.block ∧ ad.block < w'.heap.size) ∧ Below w.heap.size w w'
theorem cellsRet_nil (err : Int) {w w' : World} (hb : Below w.heap.size w w') : CellsRet [] err w (.returned (.tuple #[.slice none 0 0, .int .i64 err])) w' :=
  ⟨none, 0, rfl, .inl rfl, (fun ad e => by cases e), hb⟩
theorem cellsRet_own {cs : List Cl} {w w' : World} {E : Nat} {v : Value} {n : Nat} (h : w'.ownsRow w.heap.size E 3 v n (flat cs)) (hb : Below w.heap.size w w') (err : Int) : CellsRet cs err w (.returned (.tuple #[v, .int .i64 err])) w' := by
  obtain ⟨rfl, a, cap, rfl, hr, hf⟩ := crow_of_own h
  exact ⟨a, cap, rfl, hr, fun ad e => ⟨(hf ad e).1, (hf ad e).2.2⟩, hb⟩
def CellsRet1 (cs : List Cl) (w : World) (e : Ending) (w' : World) : Prop :=
  ∃ v, e = .returned v ∧ w'.ownsRow w.heap.size 89 3 v cs.length (flat cs) ∧ Below w.heap.size w w'

theorem infoC : (Tryz.prog.info? 89).map (fun i => (i.zero, i.size, i.bytes)) = some (some (.agg #[.int .u64 0, .int .i64 0, .int .i64 0]), 3, 24) := by kernel_rfl
end Go.Proofs.YtfkbkekgnoanaaaGreatDoor
namespace Go.Proofs.YtfkbkekgnoanaaaGreatDoor
open Go.RowKit
set_option linter.unusedVariables false
theorem okAt_ok {n : Nat} {c : Cl} (hf : c.f < 18446744073709551616) (h : okAt n c = true) : c.ok := by
  unfold okAt cellOk at h
  simp only [Bool.and_eq_true] at h
  exact ⟨hf, h.2⟩
theorem chkC_zero {d : Int} {cs : List Cl} (h : chkC d cs = 0) : 0 ≤ d ∧ d ≤ 64 ∧ (cs.length : Int) = d ∧ cs.all (okAt d.toNat) = true := by
  unfold chkC at h
  split at h
  · omega
  · split at h
    · omega
    · cases hz : cs.all (okAt d.toNat) <;> rw [hz] at h <;> simp at h
      exact ⟨by omega, by omega, by omega, rfl⟩
theorem chk2C_zero {d : Int} {xs ys : List Cl} (h : chk2C d xs ys = 0) : chkC d xs = 0 ∧ chkC d ys = 0 := by
  unfold chk2C at h
  split at h
  · exact ⟨by assumption, h⟩
  · exact absurd h (by assumption)
theorem ok_get {n : Nat} {cs : List Cl} (hb : Bits cs) (h : cs.all (okAt n) = true) {i : Nat} {c : Cl} (hi : cs[i]? = some c) : c.ok := by
  rw [List.all_eq_true] at h
  exact okAt_ok (hb c (List.mem_of_getElem? hi)) (h c (List.mem_of_getElem? hi))
theorem joined_is (x y z : Cl) (hx : x.ok) (hy : y.ok) (hz : join x y = z) (w : World) : Calls Tryz.prog 121 #[x.val, y.val] w fun e w' => e = .returned z.val ∧ Below w.heap.size w w' := by
  subst hz; exact joined_any x y hx hy w
end Go.Proofs.YtfkbkekgnoanaaaGreatDoor
namespace Go.Proofs.YtfkbkekgnoanaaaGreatDoor
open Go.RowKit
set_option linter.unusedVariables false
theorem flat_cells {w : World} {b off : Nat} {cs : List Cl} (h : ∀ i c, cs[i]? = some c → w.cell? ⟨b, off + i * 3, none⟩ = some (.int .u64 (c.f : Int)) ∧ w.cell? ⟨b, off + i * 3 + 1, none⟩ = some (.int .i64 c.k) ∧ w.cell? ⟨b, off + i * 3 + 2, none⟩ = some (.int .i64 c.v)) :
    ∀ j u, (flat cs)[j]? = some u → w.cell? ((⟨b, off, none⟩ : Addr).add j) = some u := by
  intro j u hj
  have hlt : j < cs.length * 3 := by rw [← flat_length]; exact (List.getElem?_eq_some_iff.1 hj).1
  obtain ⟨i, r, hr, rfl⟩ : ∃ i r, r < 3 ∧ j = i * 3 + r := ⟨j / 3, j % 3, by omega, by omega⟩
  have hi : i < cs.length := by omega
  obtain ⟨h0, h1, h2⟩ := h i cs[i] (List.getElem?_eq_getElem hi)
  obtain ⟨f0, f1, f2⟩ := flat_at (List.getElem?_eq_getElem hi)
  have e : ((⟨b, off, none⟩ : Addr).add (i * 3 + r)) = ⟨b, off + (i * 3 + r), none⟩ := by
    simp only [Addr.add]; split <;> simp_all
  rw [e]
  match r, hr with
  | 0, _ => rw [Nat.add_zero] at hj ⊢; rw [f0] at hj; rw [h0]; exact hj
  | 1, _ => rw [f1] at hj; rw [← Nat.add_assoc, h1]; exact hj
  | 2, _ => rw [f2] at hj; rw [← Nat.add_assoc, h2]; exact hj
theorem crow_news {w : World} {ad : Addr} {cs : List Cl} (h : CRow w (some ad) cs) : ∀ j u, (flat cs)[j]? = some u → w.cell? (ad.add j) = some u := by
  rcases h with h | ⟨b, off, e, hc⟩
  · subst h; intro j u hj; simp [flat] at hj
  · cases e; exact flat_cells hc
theorem flat_one (cs : List Cl) : ∀ u ∈ flat cs, u.oneCell' = true := by
  intro u hu
  simp only [flat, List.mem_flatMap, vals] at hu
  obtain ⟨c, _, hu⟩ := hu
  simp at hu
  rcases hu with rfl | rfl | rfl <;> rfl

set_option maxRecDepth 100000 in
set_option maxHeartbeats 1000000 in
theorem clone_any (a : Option Addr) (cap : Nat) (cs : List Cl) (w : World) (hm : cs.length ≤ 64) (hrow : CRow w a cs) :
    Calls Tryz.prog 87 #[.slice a cs.length cap] w (CellsRet1 cs w) := by
  obtain ⟨i0, hi, hz0, hz1, hz2⟩ := info_parts infoC
  have q22 : ∀ (w : World) (a : Option Addr) (n c n' c' : Nat), (binOp .eql 45 (.slice a n c) (.slice none n' c')).run Tryz.prog w = .ok (.bool a.isNone) w := fun w a n c n' c' => Lib.run_eql_slice_nil w _ _ a n c n' c' Tryz.underlying45
  cases a with
  | none =>
    have hcs : cs = [] := by
      rcases hrow with h | ⟨b, off, e, _⟩
      · exact h
      · cases e
    subst hcs
    clear hrow
    go_enter Tryz.func87, Tryz.ntmps87
    go_wp2
    go_ret
    exact ⟨_, rfl, World.ownsRow_nil _ _ _ _, Below.refl _ _⟩
  | some ad =>
    have HN := Lib.hid (fun (o : Obj) => crow_news (hrow.below ((Below.refl _ w).alloc (Nat.le_refl _) o)))
    have hown : (w.alloc (.cells #[] 89)).ownsRow w.heap.size 89 3 (.slice (some ⟨w.heap.size, 0, none⟩) 0 0) 0 [] := World.ownsRow_lit w #[] 0 (Nat.le_refl _) (by simp) rfl
    have HO := Lib.hid hown
    clear hrow hown
    go_enter Tryz.func87, Tryz.ntmps87
    go_wp2_with (at_builtin; refine wpList_append_own _ rfl (.tmp 5) (.tmp 6) 45 rfl w.heap.size 89 i0 _ 3 24 Tryz.underlying45 hi hz0 hz1 hz2 rfl (by decide) _ _ _ rfl HO.out ad cs.length cap (flat cs) rfl (flat_length cs) (HN.out _) (flat_one cs) (by unfold maxLen; omega) (by omega) (by simp) ?_; intro v' w2 hown2 hgrow hnil)
    go_ret
    refine ⟨v', rfl, by simpa using hown2, ?_⟩
    exact ((Below.refl _ _).alloc (Nat.le_refl _) _).grown hgrow (by simp) (fun j e => by cases e; exact Nat.le_refl _)

theorem own_store3 {w : World} {base g n cap k : Nat} {E : Nat} {cs : List Cl} (h : w.ownsRow base E 3 (.slice (some ⟨g, 0, none⟩) n cap) n (flat cs)) (hk : k < cs.length) (z : Cl) :
    (((w.setCell ⟨g, k * 3, none⟩ (.int .u64 (z.f : Int))).setCell ⟨g, k * 3 + 1, none⟩ (.int .i64 z.k)).setCell ⟨g, k * 3 + 2, none⟩ (.int .i64 z.v)).ownsRow base E 3 (.slice (some ⟨g, 0, none⟩) n cap) n (flat (cs.set k z)) := by
  rw [← flat_set cs k z hk]
  exact ((((h.stored (k * 3) _).1.stored (k * 3 + 1) _).1.stored (k * 3 + 2) _).1)
end Go.Proofs.YtfkbkekgnoanaaaGreatDoor
namespace Go.Proofs.YtfkbkekgnoanaaaGreatDoor
open Go.RowKit
set_option linter.unusedVariables false
def sameCl (x y : Cl) : Bool := decide (x.f = y.f) && decide (x.k = y.k) && decide (x.v = y.v)
theorem sameCl_eq {x y : Cl} : sameCl x y = true ↔ x = y := by
  obtain ⟨f, k, v⟩ := x; obtain ⟨f2, k2, v2⟩ := y
  simp [sameCl, and_assoc]
def sameC (xs ys : List Cl) : Bool := if xs.length = ys.length then (List.range xs.length).all fun i => match xs[i]?, ys[i]? with | some x, some y => sameCl x y | _, _ => true else false
theorem sameC_iff {xs ys : List Cl} : sameC xs ys = true ↔ xs = ys := by
  unfold sameC
  split
  · rename_i hl
    rw [List.all_eq_true]
    constructor
    · intro h
      apply List.ext_getElem? 
      intro i
      by_cases hi : i < xs.length
      · have := h i (List.mem_range.2 hi)
        rw [List.getElem?_eq_getElem hi, List.getElem?_eq_getElem (hl ▸ hi)] at this ⊢
        simp only at this
        rw [sameCl_eq.1 this]
      · rw [List.getElem?_eq_none (by omega), List.getElem?_eq_none (by omega)]
    · rintro rfl i hi
      have hi := List.mem_range.1 hi
      rw [List.getElem?_eq_getElem hi]
      exact sameCl_eq.2 rfl
  · rename_i hl
    simp
    intro e; exact hl (by rw [e])
end Go.Proofs.YtfkbkekgnoanaaaGreatDoor
namespace Go.Proofs.YtfkbkekgnoanaaaGreatDoor
open Go.RowKit
set_option linter.unusedVariables false
theorem run_neq_cell (f f2 : Nat) (k k2 v v2 : Int) (w : World) :
    (binOp .neq 89 (.agg #[.int .u64 (f : Int), .int .i64 k, .int .i64 v]) (.agg #[.int .u64 (f2 : Int), .int .i64 k2, .int .i64 v2])).run Tryz.prog w = .ok (.bool (!sameCl ⟨f, k, v⟩ ⟨f2, k2, v2⟩)) w := by
  by_cases h1 : f = f2
  · subst h1
    by_cases h2 : k = k2
    · subst h2
      by_cases h3 : v = v2
      · subst h3
        simp [sameCl, go_sem]
      · have h3' : (v == v2) = false := by simp [h3]
        simp [sameCl, go_sem, h3]
    · simp [sameCl, go_sem, h2]
  · simp [sameCl, go_sem, h1]
    intro h; omega
theorem neq_is (x y : Cl) (s : Bool) (h : sameCl x y = s) (w : World) : (binOp .neq 89 x.val y.val).run Tryz.prog w = .ok (.bool (!s)) w := by
  subst h; exact run_neq_cell _ _ _ _ _ _ w
end Go.Proofs.YtfkbkekgnoanaaaGreatDoor
namespace Go.Proofs.YtfkbkekgnoanaaaGreatDoor
open Go.RowKit
set_option linter.unusedVariables false
theorem ofTo_skip {row : List Cl} {c : Cl} {k : Nat} : ∀ {n : Nat}, k ≤ n → (∀ i, k ≤ i → i < n → c.f.testBit i = false) → ofTo row c n = ofTo row c k
  | 0, h, _ => by
    obtain rfl : k = 0 := by omega
    rfl
  | n + 1, h, hb => by
    by_cases e : k = n + 1
    · subst e; rfl
    · rw [ofTo_no (hb n (by omega) (by omega))]
      exact ofTo_skip (by omega) (fun i h1 h2 => hb i h1 (by omega))
theorem three_cells {w : World} {B : Nat} {a b c : Value} {T : Nat} (h : w.heap[B]? = some (.cells #[a, b, c] T (0, 0))) :
    w.cell? ⟨B, 0, none⟩ = some a ∧ w.cell? ⟨B, 1, none⟩ = some b ∧ w.cell? ⟨B, 2, none⟩ = some c ∧ (∀ j, w.frozen? ⟨B, j, none⟩ = false) := by
  refine ⟨by simp [World.cell?, h], by simp [World.cell?, h], by simp [World.cell?, h], fun j => by simp [World.frozen?, h]⟩
theorem three_set {w : World} {B : Nat} {a b c a' b' c' : Value} {T : Nat} (h : w.heap[B]? = some (.cells #[a, b, c] T (0, 0))) :
    (((w.setCell ⟨B, 0, none⟩ a').setCell ⟨B, 1, none⟩ b').setCell ⟨B, 2, none⟩ c').heap[B]? = some (.cells #[a', b', c'] T (0, 0)) := by
  simp [World.setCell, Array.getElem?_modify, h]
theorem three_other {w : World} {B D : Nat} {o : Option Obj} {a' b' c' : Value} (hne : D ≠ B) (h : w.heap[D]? = o) :
    (((w.setCell ⟨B, 0, none⟩ a').setCell ⟨B, 1, none⟩ b').setCell ⟨B, 2, none⟩ c').heap[D]? = o := by
  rw [Below.heap_setCell _ _ _ _ hne, Below.heap_setCell _ _ _ _ hne, Below.heap_setCell _ _ _ _ hne, h]
theorem block_lt {w : World} {B : Nat} {o : Obj} (h : w.heap[B]? = some o) : B < w.heap.size := (Array.getElem?_eq_some_iff.1 h).1
theorem block_stays {w w' : World} {B : Nat} {o : Obj} (h : w.heap[B]? = some o) (hb : Below w.heap.size w w') : w'.heap[B]? = some o := (hb.block B (block_lt h)).trans h
end Go.Proofs.YtfkbkekgnoanaaaGreatDoor
namespace Go.Proofs.YtfkbkekgnoanaaaGreatDoor
open Go.RowKit
set_option linter.unusedVariables false
theorem and_cast (a b : Nat) (ha : a < 18446744073709551616) (hb : b < 18446744073709551616) : bits .and .u64 (a : Int) (b : Int) = ((a &&& b : Nat) : Int) := bits_and_u64_nat a b ha hb

set_option maxRecDepth 100000 in
set_option maxHeartbeats 2000000 in
theorem ofRow_any (a : Option Addr) (cap : Nat) (row : List Cl) (c : Cl) (w : World) (ht : Tabs w) (hm : row.length ≤ 64) (hra : CRow w a row) (hok : ∀ (i : Nat) x, row[i]? = some x → x.ok) (hc : c.ok) (hin : ∀ i, c.f.testBit i = true → i < row.length) (z : Cl) (hz : ofC row c = z) :
    Calls Tryz.prog 110 #[c.val, .slice a row.length cap] w fun e w' => e = .returned z.val ∧ Below w.heap.size w w' := by
  have HT := Lib.hid ht
  have HRA := Lib.hid hra; have HOK := Lib.hid hok; have HC := Lib.hid hc; have HZ := Lib.hid hz; have HIN := Lib.hid hin
  have hf := hc.1
  clear hra hok hc hz ht hin
  go_enter Tryz.func110, Tryz.ntmps110
  go_wp2_with fail
  refine (value_any _ _ _ _).mono ?_
  rintro e w1 ⟨rfl, rfl⟩
  go_wp2_with fail
  go_loopw [6] (fun i wr => ∃ (k x : Nat) (o : Cl), k ≤ row.length ∧ x < 18446744073709551616 ∧ i = .int .u64 x ∧ Hid (∀ i, x.testBit i = (c.f.testBit i && decide (k ≤ i))) ∧ Hid (ofTo row c k = o) ∧ Hid (wr.heap[w.heap.size + 1]? = some (.cells #[.int .u64 0, .int .i64 0, .int .i64 0] 89 (0, 0))) ∧ Hid (wr.heap[w.heap.size + 1 + 1 + 1 + 1]? = some (.cells #[.int .u64 (o.f : Int), .int .i64 o.k, .int .i64 o.v] 89 (0, 0))) ∧ Below w.heap.size w wr) (fun i _ => (intOf i).toNat)
  case atStart =>
    refine ⟨0, c.f, ⟨0, c.k, c.v⟩, Nat.zero_le _, hf, rfl, (fun i => by simp), rfl, ?_, ?_, ((((((Below.refl _ _).alloc (Nat.le_refl _) _).alloc (by simp) _).alloc (by simp; omega) _).alloc (by simp; omega) _).alloc (by simp; omega) _)⟩
    · show _ = _
      rw [heap_alloc_old _ _ (by simp), heap_alloc_old _ _ (by simp), heap_alloc_old _ _ (by simp), show w.heap.size + 1 = (w.alloc (.cells #[.int .u64 (c.f : Int), .int .i64 c.k, .int .i64 c.v] 89)).heap.size by simp, heap_alloc_new]
    · show _ = _
      rw [show w.heap.size + 1 + 1 + 1 + 1 = ((((w.alloc (.cells #[.int .u64 (c.f : Int), .int .i64 c.k, .int .i64 c.v] 89)).alloc (.cells #[.int .u64 0, .int .i64 0, .int .i64 0] 89)).alloc (.cells #[.int .u64 0, .int .i64 c.k, .int .i64 c.v] 89)).alloc (.cells #[.int .u64 0, .int .i64 c.k, .int .i64 c.v] 89)).heap.size by simp, heap_alloc_new]
      rfl
  case round =>
    obtain ⟨k, x, o, hk, hx64, rfl, HX, HO, B1, B2, hb⟩ := hrel
    obtain ⟨o0, o1, o2, of⟩ := three_cells B2.out
    have o4 := of 0; have o5 := of 1; have o6 := of 2
    clear of
    by_cases hx0 : x = 0
    · have hall : ∀ i, k ≤ i → i < row.length → c.f.testBit i = false := fun i h1 _ => by
        have := HX.out i
        rw [hx0, Nat.zero_testBit] at this
        simp [h1] at this
        exact this
      have HE : Hid (o = z) := by show o = z; rw [← HO.out, ← HZ.out]; exact (ofTo_skip hk hall).symm
      have hx00 : (x : Int) = 0 := by omega
      subst hx0
      obtain ⟨d0, d1, d2, df⟩ := three_cells B1.out
      have d4 := df 0; have d5 := df 1; have d6 := df 2
      clear df hx00 hall
      go_wp2
      refine bodyPost_ret (v := .agg #[.int .u64 (o.f : Int), .int .i64 o.k, .int .i64 o.v]) ?_ rfl ⟨by rw [HE.out], ?_⟩
      · simp [results, Tryz.results110, go_sem, d0, d1, d2]
      · exact (((hb.setCell (p := ⟨w.heap.size + 1, 0, none⟩) (by simp) _).setCell (p := ⟨w.heap.size + 1, 1, none⟩) (by simp) _).setCell (p := ⟨w.heap.size + 1, 2, none⟩) (by simp) _)
    · obtain ⟨j, hj⟩ : ∃ j, Lib.ctz 64 x = j := ⟨_, rfl⟩
      have hbx : x.testBit j = true := by rw [← hj]; exact low_bit hx0 hx64
      have hbc : c.f.testBit j = true ∧ k ≤ j := by
        have := HX.out j
        rw [hbx] at this
        simpa using this.symm
      have hjr : j < row.length := HIN.out j hbc.1
      have hskip : ofTo row c j = o := by
        rw [ofTo_skip hbc.2 (fun i h1 h2 => ?_)]
        · exact HO.out
        · have h3 := HX.out i
          rw [low_none hx0 hx64 (by omega)] at h3
          simp [h1] at h3
          exact h3
      obtain ⟨ba, offa, y, rfl, hy, hba, a0, a1, a2⟩ := (HRA.out.below hb).at_ hjr
      obtain ⟨t, htt⟩ : ∃ t, join o y = t := ⟨_, rfl⟩
      have HN : Hid (ofTo row c (j + 1) = t) := (ofTo_yes hbc.1 hy).trans (by rw [hskip, htt])
      have OO : Hid o.ok := by rw [← HO.out]; exact ofTo_ok HC.out HOK.out k
      have OY := Lib.hid (HOK.out j y hy)
      have HTT := Lib.hid htt
      have HJ := Lib.hid hj
      have HX2 : Hid (∀ i, (x &&& (x - 1)).testBit i = (c.f.testBit i && decide (j + 1 ≤ i))) := by
        intro i
        rw [clear_low hx0 hx64, hj]
        by_cases h1 : i < j
        · rw [low_none hx0 hx64 (by omega)]
          have e9 : ¬ (j + 1 ≤ i) := by omega
          simp [e9]
        · rw [HX.out i]
          by_cases h2 : i = j
          · subst h2; simp
          · have e1 : k ≤ i := by omega
            have e2 : j + 1 ≤ i := by omega
            simp [e1, e2, h2]
      have hlt2 : x &&& (x - 1) < x := clear_lt hx0
      have hxp : (1 : Int) ≤ (x : Int) := by omega
      have hand : bits .and .u64 (x : Int) ((x : Int) - 1) = ((x &&& (x - 1) : Nat) : Int) := by
        rw [← and_cast x (x - 1) hx64 (by omega)]
        congr 1
        omega
      obtain ⟨x', hx'⟩ : ∃ x', x' = x &&& (x - 1) := ⟨_, rfl⟩
      rw [← hx'] at HX2 hlt2 hand
      have hne : ((x : Int) != 0) = true := by simp; omega
      have hx9 : (x : Int) ≤ 18446744073709551615 := by omega
      have g0 : (0 : Int) ≤ (j : Int) := by omega
      have g3 : (j : Int) < (row.length : Int) := by omega
      have HX' := Lib.hid hx'
      have HNE := Lib.hid hx0
      have HBC := Lib.hid hbc
      clear hbx hbc hskip hy htt hj hx' hx0
      go_wp2_with fail
      go_region_with (first | (go_at_call 122; refine (ctz_calls x HNE.out hx64 _ (HT.out.below (by repeat (first | exact hb | refine Below.drew ?_)))).mono ?_; rintro e w4 ⟨rfl, rfl⟩; rw [HJ.out]) | (go_at_call 121; refine (joined_is o y t OO.out OY.out HTT.out _).mono ?_; rintro e w3 ⟨rfl, hb3⟩; have hB3 : Below wr.heap.size wr w3 := Below.trans (by repeat (first | exact Below.refl _ _ | refine Below.drew ?_)) hb3; have D1 := Lib.hid (block_stays B1.out hB3); have D2 := Lib.hid (block_stays B2.out hB3); obtain ⟨e0, e1, e2, ef⟩ := three_cells D2.out; have e4 := ef 0; have e5 := ef 1; have e6 := ef 2; clear ef))
      all_goals
        have N2 := Lib.hid (three_set (a' := .int .u64 (t.f : Int)) (b' := .int .i64 t.k) (c' := .int .i64 t.v) D2.out)
        have N1 := Lib.hid (three_other (B := w.heap.size + 1 + 1 + 1 + 1) (a' := .int .u64 (t.f : Int)) (b' := .int .i64 t.k) (c' := .int .i64 t.v) (by omega) D1.out)
        have NB := Lib.hid ((((hb.trans (hB3.mono hb.size)).setCell (p := ⟨w.heap.size + 1 + 1 + 1 + 1, 0, none⟩) (by simp; omega) (.int .u64 (t.f : Int))).setCell (p := ⟨w.heap.size + 1 + 1 + 1 + 1, 1, none⟩) (by simp; omega) (.int .i64 t.k)).setCell (p := ⟨w.heap.size + 1 + 1 + 1 + 1, 2, none⟩) (by simp; omega) (.int .i64 t.v))
        clear e0 e1 e2 e4 e5 e6 hb3
        go_wp2
        go_roundw
        case rel => exact ⟨j + 1, x', t, by omega, by omega, by first | rfl | rw [hand], HX2, HN, N1, N2, NB.out⟩
        case measure => simp [intOf]; omega
end Go.Proofs.YtfkbkekgnoanaaaGreatDoor
namespace Go.Proofs.YtfkbkekgnoanaaaGreatDoor
open Go.RowKit
set_option linter.unusedVariables false
def thenR (d : Int) (xs ys : List Cl) : List Cl := if chk2C d xs ys = 0 then thenC xs ys else []
theorem then_length {xs ys : List Cl} {n : Nat} (h2 : ys.length = n) : (thenC xs ys).length = n := by simp [thenC, h2]
theorem three_below {w w' : World} {B q : Nat} {o2 : Nat} {u0 u1 u2 : Value} (hb : Below B w w') (hq : q < B)
    (h : w.cell? ⟨q, o2, none⟩ = some u0 ∧ w.cell? ⟨q, o2 + 1, none⟩ = some u1 ∧ w.cell? ⟨q, o2 + 2, none⟩ = some u2) :
    w'.cell? ⟨q, o2, none⟩ = some u0 ∧ w'.cell? ⟨q, o2 + 1, none⟩ = some u1 ∧ w'.cell? ⟨q, o2 + 2, none⟩ = some u2 := by
  obtain ⟨b0, b1, b2⟩ := h
  exact ⟨(hb.cell (p := ⟨q, _, none⟩) hq).trans b0, (hb.cell (p := ⟨q, _, none⟩) hq).trans b1, (hb.cell (p := ⟨q, _, none⟩) hq).trans b2⟩

end Go.Proofs.YtfkbkekgnoanaaaGreatDoor
namespace Go.Proofs.YtfkbkekgnoanaaaGreatDoor
open Go.RowKit
set_option linter.unusedVariables false
theorem made_flat (n : Nat) : (madeCells (Value.agg #[.int .u64 0, .int .i64 0, .int .i64 0]).cells (n * 3)).toList = flat (List.replicate n z0) := by
  have hc : (Value.agg #[.int .u64 0, .int .i64 0, .int .i64 0]).cells = #[.int .u64 0, .int .i64 0, .int .i64 0] := rfl
  rw [hc]
  apply List.ext_getElem?
  intro j
  by_cases hj : j < n * 3
  · have e : (List.replicate n z0)[j / 3]? = some z0 := by rw [List.getElem?_replicate, if_pos (by omega)]
    obtain ⟨f0, f1, f2⟩ := flat_at e
    have hr : j % 3 = 0 ∨ j % 3 = 1 ∨ j % 3 = 2 := by omega
    have hlt : j < (madeCells #[Value.int .u64 0, .int .i64 0, .int .i64 0] (n * 3)).toList.length := by simp [madeCells]; exact hj
    rcases hr with h | h | h
    · have ej : j = j / 3 * 3 := by omega
      rw [← ej] at f0
      rw [f0, List.getElem?_eq_getElem hlt]
      simp [madeCells, h, z0]
    · have ej : j = j / 3 * 3 + 1 := by omega
      rw [← ej] at f1
      rw [f1, List.getElem?_eq_getElem hlt]
      simp [madeCells, h, z0]
    · have ej : j = j / 3 * 3 + 2 := by omega
      rw [← ej] at f2
      rw [f2, List.getElem?_eq_getElem hlt]
      simp [madeCells, h, z0]
  · rw [List.getElem?_eq_none (by simp [madeCells]; omega), List.getElem?_eq_none (by rw [flat_length]; simp; omega)]

theorem fill_step {full : List Cl} {n k : Nat} {z : Cl} (hl : full.length = n) (hz : full[k]? = some z) : (full.take k ++ List.replicate (n - k) z0).set k z = full.take (k + 1) ++ List.replicate (n - (k + 1)) z0 := by
  obtain ⟨hk, ex⟩ := List.getElem?_eq_some_iff.1 hz
  have hl2 : (full.take k).length = k := by simp; omega
  rw [List.set_append_right _ _ (by omega), hl2, Nat.sub_self, show n - k = (n - (k + 1)) + 1 by omega, List.replicate_succ, List.set_cons_zero, List.take_succ_eq_append_getElem hk, List.append_assoc, ex]
  rfl
theorem fill_at {full : List Cl} {n k : Nat} (hl : full.length = n) (hk : k < n) : (full.take k ++ List.replicate (n - k) z0)[k]? = some z0 := by
  have hl2 : (full.take k).length = k := by simp; omega
  rw [List.getElem?_append_right (by omega), hl2, Nat.sub_self, List.getElem?_replicate, if_pos (by omega)]
theorem fill_len {full : List Cl} {n k : Nat} (hl : full.length = n) (hk : k ≤ n) : (full.take k ++ List.replicate (n - k) z0).length = n := by simp; omega
theorem okAt_in {n : Nat} {c : Cl} (hf : c.f < 18446744073709551616) (h : okAt n c = true) (i : Nat) (hb : c.f.testBit i = true) : i < n := by
  have h1 : inside n c.f = true := by
    unfold okAt cellOk at h
    cases hi : inside n c.f
    · rw [hi] at h; simp at h
    · rfl
  rcases Nat.lt_or_ge i n with hi | hi
  · exact hi
  · rcases Nat.lt_or_ge i 64 with h64 | h64
    · rw [(inside_bits n c.f hf).1 h1 i hi h64] at hb; cases hb
    · rw [Nat.testBit_lt_two_pow (Nat.lt_of_lt_of_le hf (Nat.le_trans (by decide : 18446744073709551616 ≤ 2 ^ 64) (Nat.pow_le_pow_right (by decide) h64)))] at hb; cases hb

set_option maxRecDepth 100000 in
set_option maxHeartbeats 2000000 in
theorem then_any (d : Int) (a b : Option Addr) (capa capb : Nat) (xs ys : List Cl) (w : World) (ht : Tabs w) (hma : xs.length ≤ maxLen) (hmb : ys.length ≤ maxLen) (hra : CRow w a xs) (hrb : CRow w b ys) (hba : Bits xs) (hbb : Bits ys) (c : Int) (hc : chk2C d xs ys = c) :
    Calls Tryz.prog 90 #[.int .i64 d, .slice a xs.length capa, .slice b ys.length capb] w (CellsRet (thenR d xs ys) c w) := by
  have HT := Lib.hid ht
  have HMA := Lib.hid hma; have HMB := Lib.hid hmb; have HRA := Lib.hid hra; have HRB := Lib.hid hrb; have HBA := Lib.hid hba; have HBB := Lib.hid hbb
  have HC := Lib.hid hc
  clear ht hma hmb hra hrb hba hbb
  by_cases h0 : c = 0
  · subst h0
    obtain ⟨k1, k2⟩ := chk2C_zero hc
    obtain ⟨d0, d1, la, oka⟩ := chkC_zero k1
    obtain ⟨_, _, lb, okb⟩ := chkC_zero k2
    obtain ⟨n, rfl⟩ : ∃ n : Nat, d = n := ⟨d.toNat, by omega⟩
    have hla : xs.length = n := by omega
    have hlb : ys.length = n := by omega
    have HR := Lib.hid (show thenR n xs ys = thenC xs ys by simp [thenR, hc])
    have HN := Lib.hid (then_length (xs := xs) hlb)
    have OKA := Lib.hid oka; have OKB := Lib.hid okb
    have ga1 : n ≤ xs.length := by omega
    have gb1 : n ≤ ys.length := by omega
    have ga2 : xs.length ≤ n := by omega
    have gb2 : ys.length ≤ n := by omega
    have hn : n ≤ 64 := by omega
    obtain ⟨i0, hi, hz0, hz1, hz2⟩ := info_parts infoC
    clear hc k1 k2 d0 d1 la oka lb okb hla hlb
    go_enter Tryz.func90, Tryz.ntmps90
    go_wp2_with fail
    refine (checkBoth_any _ a b capa capb xs ys _ HMA.out HMB.out HRA.out HRB.out HBA.out HBB.out 0 HC.out).mono ?_
    rintro e w1 ⟨rfl, hb1⟩
    go_wp2_with (at_make; refine wpList_make_full _ rfl (.tmp 18) (.tmp 18) 45 rfl w.heap.size 89 i0 _ 3 Tryz.underlying45 hi hz0 hz1 .i64 .i64 (n : Int) (n : Int) n rfl rfl rfl rfl (by rw [hz2]; omega) (by unfold maxLen; omega) hb1.size ?_; intro w2 hown2 hgrow2)
    have HO1 : Hid (w2.ownsRow w.heap.size 89 3 (.slice (some ⟨w1.heap.size, 0, none⟩) n n) n (flat ((thenC xs ys).take 0 ++ List.replicate (n - 0) z0))) := by
      rw [List.take_zero, List.nil_append, Nat.sub_zero, ← made_flat]; exact hown2
    have hb2 : Below w.heap.size w w2 := hb1.grown hgrow2 hb1.size (fun j e => by cases e)
    have hsz := hb1.size
    clear hown2
    go_wp2_with fail
    go_loopw [21] (fun i wr => ∃ k : Nat, k ≤ n ∧ i = .int .i64 k ∧ Hid (wr.ownsRow w.heap.size 89 3 (.slice (some ⟨w1.heap.size, 0, none⟩) n n) n (flat ((thenC xs ys).take k ++ List.replicate (n - k) z0))) ∧ Below w.heap.size w wr) (fun i _ => n - (intOf i).toNat)
    case atStart => exact ⟨0, Nat.zero_le _, rfl, HO1, hb2⟩
    case round =>
      obtain ⟨k, hk, rfl, HO, hb⟩ := hrel
      by_cases hlt : k < n
      · obtain ⟨bb, offb, y, rfl, hy, hbb, b0, b1, b2⟩ := HRB.out.at_ (show k < ys.length by omega)
        have HF : Hid (_ ∧ _ ∧ _) := ⟨b0, b1, b2⟩
        clear b0 b1 b2
        obtain ⟨b0, b1, b2⟩ := three_below hb hbb HF.out
        have OY := Lib.hid (ok_get HBB.out OKB.out hy)
        have OIN : Hid (∀ i, y.f.testBit i = true → i < xs.length) := fun i h => Nat.lt_of_lt_of_le (okAt_in OY.out.1 (List.all_eq_true.1 OKB.out y (List.mem_of_getElem? hy)) i h) (by omega)
        have OAL : Hid (∀ (i : Nat) x, xs[i]? = some x → x.ok) := fun i x hi => ok_get HBA.out OKA.out hi
        obtain ⟨z, hz⟩ : ∃ z, ofC xs y = z := ⟨_, rfl⟩
        have HZ := Lib.hid (fill_step (full := thenC xs ys) (n := n) (k := k) (z := z) HN.out (by rw [← hz]; simp [thenC, hy]))
        have HA := Lib.hid (fill_at (full := thenC xs ys) (n := n) HN.out hlt)
        have HLEN := Lib.hid (fill_len (full := thenC xs ys) (n := n) HN.out hk)
        have HJ := Lib.hid hz
        clear hy hz
        have g0 : (0 : Int) ≤ (k : Int) := by omega
        have g2 : (k : Int) < (ys.length : Int) := by omega
        have g3 : (k : Int) < (n : Int) := by omega
        go_wp2_with (go_at_call 110; refine (ofRow_any a capa xs y _ (HT.out.below hb) (by omega) (HRA.out.below hb) OAL.out OY.out OIN.out z HJ.out).mono ?_; rintro e w3 ⟨rfl, hb3⟩; have hB3 : Below wr.heap.size wr w3 := hb3; have o3 := own_below HO.out hB3; have f3 := flat_at HA.out; have e0 := (o3.cellAt (k * 3) (by omega)).trans f3.1; have e1 := (o3.cellAt (k * 3 + 1) (by omega)).trans f3.2.1; have e2 := (o3.cellAt (k * 3 + 2) (by omega)).trans f3.2.2; have q0 := o3.frozenAt (k * 3); have q1 := o3.frozenAt (k * 3 + 1); have q2 := o3.frozenAt (k * 3 + 2); have O3 := Lib.hid o3; clear o3 f3)
        have HS := Lib.hid (own_store3 O3.out (by rw [HLEN.out]; exact hlt) z)
        rw [HZ.out] at HS
        have HB : Hid (Below w.heap.size w (((w3.setCell ⟨w1.heap.size, k * 3, none⟩ (.int .u64 (z.f : Int))).setCell ⟨w1.heap.size, k * 3 + 1, none⟩ (.int .i64 z.k)).setCell ⟨w1.heap.size, k * 3 + 2, none⟩ (.int .i64 z.v))) := (((hb.trans (hB3.mono hb.size)).setCell (p := ⟨w1.heap.size, k * 3, none⟩) hsz _).setCell (p := ⟨w1.heap.size, k * 3 + 1, none⟩) hsz _).setCell (p := ⟨w1.heap.size, k * 3 + 2, none⟩) hsz _
        clear e0 e1 e2 q0 q1 q2 O3
        go_wp2
        go_roundw
        case rel => exact ⟨k + 1, by omega, by go_num, HS, HB.out⟩
        case measure => simp [intOf]; omega
      · obtain rfl : n = k := by omega
        have HE : Hid (wr.ownsRow w.heap.size 89 3 (.slice (some ⟨w1.heap.size, 0, none⟩) n n) n (flat (thenR n xs ys))) := by
          have := HO.out
          rw [List.take_of_length_le (by rw [HN.out]; exact Nat.le_refl _), Nat.sub_self, List.replicate_zero, List.append_nil] at this
          rw [HR.out]; exact this
        go_wp2
        go_ret2
        exact cellsRet_own HE.out hb 0
  · have HR := Lib.hid (show thenR d xs ys = [] by simp [thenR, hc, h0])
    have hne : (c != 0) = true := by simpa using h0
    clear hc h0
    go_enter Tryz.func90, Tryz.ntmps90
    go_wp2_with fail
    refine (checkBoth_any _ a b capa capb xs ys _ HMA.out HMB.out HRA.out HRB.out HBA.out HBB.out c HC.out).mono ?_
    rintro e w1 ⟨rfl, hb1⟩
    go_wp2
    go_ret2
    rw [HR.out]
    exact cellsRet_nil c hb1
end Go.Proofs.YtfkbkekgnoanaaaGreatDoor
namespace Go.Proofs.YtfkbkekgnoanaaaGreatDoor
open Go.RowKit
set_option linter.unusedVariables false
def unitR (d : Int) : List Cl := if dimC d = 0 then unitC d.toNat else []
theorem pow_u64 {k : Nat} (hk : k < 64) : IntKind.u64.wrap (2 ^ k : Int) = ((2 ^ k : Nat) : Int) := by
  have h : 2 ^ k < 18446744073709551616 := Nat.lt_of_lt_of_le (Nat.pow_lt_pow_right (by decide) hk) (by decide)
  have e : (2 ^ k : Int) = ((2 ^ k : Nat) : Int) := by simp
  rw [e]
  generalize 2 ^ k = q at h
  simp [IntKind.wrap, IntKind.signed, IntKind.bits]
  omega

end Go.Proofs.YtfkbkekgnoanaaaGreatDoor
namespace Go.Proofs.YtfkbkekgnoanaaaGreatDoor
open Go.RowKit
set_option linter.unusedVariables false
theorem flat_set1 : ∀ (cs : List Cl) (i : Nat) (f f' : Nat), cs[i]? = some ⟨f, 0, 0⟩ → (flat cs).set (i * 3) (.int .u64 (f' : Int)) = flat (cs.set i ⟨f', 0, 0⟩)
  | [], i, f, f', h => by simp at h
  | x :: r, 0, f, f', h => by
    simp at h; subst h
    simp [flat_cons, vals]
  | x :: r, i + 1, f, f', h => by
    have ih := flat_set1 r i f f' (by simpa using h)
    have e0 : (i + 1) * 3 = i * 3 + 3 := by omega
    rw [e0, flat_cons, List.set_cons_succ, flat_cons, ← ih]
    simp [vals]
theorem own_store1 {w : World} {base g n cap k : Nat} {E : Nat} {cs : List Cl} {f : Nat} (h : w.ownsRow base E 3 (.slice (some ⟨g, 0, none⟩) n cap) n (flat cs)) (hk : cs[k]? = some ⟨f, 0, 0⟩) (f' : Nat) :
    (w.setCell ⟨g, k * 3, none⟩ (.int .u64 (f' : Int))).ownsRow base E 3 (.slice (some ⟨g, 0, none⟩) n cap) n (flat (cs.set k ⟨f', 0, 0⟩)) := by
  rw [← flat_set1 cs k f f' hk]
  exact (h.stored (k * 3) _).1

set_option maxRecDepth 100000 in
set_option maxHeartbeats 2000000 in
theorem unit_any (n : Nat) (w : World) (hn : n ≤ 64) : Calls Tryz.prog 103 #[.int .i64 n] w (CellsRet1 (unitC n) w) := by
  obtain ⟨i0, hi, hz0, hz1, hz2⟩ := info_parts infoC
  have HN := Lib.hid (unit_length n)
  go_enter Tryz.func103, Tryz.ntmps103
  go_wp2_with (at_make; refine wpList_make_full _ rfl (.tmp 5) (.tmp 5) 45 rfl w.heap.size 89 i0 _ 3 Tryz.underlying45 hi hz0 hz1 .i64 .i64 (n : Int) (n : Int) n rfl rfl rfl rfl (by rw [hz2]; omega) (by unfold maxLen; omega) (Nat.le_refl _) ?_; intro w2 hown2 hgrow2)
  have HO1 : Hid (w2.ownsRow w.heap.size 89 3 (.slice (some ⟨w.heap.size, 0, none⟩) n n) n (flat ((unitC n).take 0 ++ List.replicate (n - 0) z0))) := by
    rw [List.take_zero, List.nil_append, Nat.sub_zero, ← made_flat]; exact hown2
  have hb2 : Below w.heap.size w w2 := (Below.refl _ _).grown hgrow2 (Nat.le_refl _) (fun j e => by cases e)
  clear hown2
  go_wp2_with fail
  go_loopw [8] (fun i wr => ∃ k : Nat, k ≤ n ∧ i = .int .i64 k ∧ Hid (wr.ownsRow w.heap.size 89 3 (.slice (some ⟨w.heap.size, 0, none⟩) n n) n (flat ((unitC n).take k ++ List.replicate (n - k) z0))) ∧ Below w.heap.size w wr) (fun i _ => n - (intOf i).toNat)
  case atStart => exact ⟨0, Nat.zero_le _, rfl, HO1, hb2⟩
  case round =>
    obtain ⟨k, hk, rfl, HO, hb⟩ := hrel
    by_cases hlt : k < n
    · have HZ := Lib.hid (fill_step (full := unitC n) (n := n) (k := k) HN.out (unit_at hlt))
      have HA := Lib.hid (fill_at (full := unitC n) (n := n) HN.out hlt)
      have HW := Lib.hid (pow_u64 (k := k) (by omega))
      have f3 := flat_at HA.out
      have e0 := (HO.out.cellAt (k * 3) (by omega)).trans f3.1
      have q0 := HO.out.frozenAt (k * 3)
      clear f3
      have g0 : (0 : Int) ≤ (k : Int) := by omega
      have g1 : k < 64 := by omega
      have g2 : (k : Int) < 64 := by omega
      have g3 : (k : Int) < (n : Int) := by omega
      have HS := Lib.hid (own_store1 HO.out HA.out (2 ^ k))
      rw [show (⟨2 ^ k, 0, 0⟩ : Cl) = oneAt k from rfl, HZ.out, ← HW.out] at HS
      have HB : Hid (Below w.heap.size w (wr.setCell ⟨w.heap.size, k * 3, none⟩ (.int .u64 (IntKind.u64.wrap (2 ^ k))))) := hb.setCell (p := ⟨w.heap.size, k * 3, none⟩) (Nat.le_refl _) _
      go_wp2
      go_roundw
      case rel => exact ⟨k + 1, by omega, by go_num, HS, HB.out⟩
      case measure => simp [intOf]; omega
    · obtain rfl : n = k := by omega
      have HE : Hid (wr.ownsRow w.heap.size 89 3 (.slice (some ⟨w.heap.size, 0, none⟩) n n) n (flat (unitC n))) := by
        have := HO.out
        rw [List.take_of_length_le (by rw [HN.out]; exact Nat.le_refl _), Nat.sub_self, List.replicate_zero, List.append_nil] at this
        exact this
      go_wp2
      go_ret
      exact ⟨_, rfl, by rw [HN.out]; exact HE.out, hb⟩

theorem cellsRet_of1 {cs : List Cl} {w w1 w2 : World} {v : Value} (hb1 : Below w.heap.size w w1) (hown : w2.ownsRow w1.heap.size 89 3 v cs.length (flat cs)) (hb2 : Below w1.heap.size w1 w2) (err : Int) : CellsRet cs err w (.returned (.tuple #[v, .int .i64 err])) w2 := by
  obtain ⟨_, a2, cap2, rfl, hr2, hf2⟩ := crow_of_own hown
  exact ⟨a2, cap2, rfl, hr2, fun ad e => ⟨Nat.le_trans hb1.size (hf2 ad e).1, (hf2 ad e).2.2⟩, hb1.trans (hb2.mono hb1.size)⟩

theorem ce_dim_nat {d : Int} (h : dimC d = 0) : ∃ n : Nat, d = n ∧ n ≤ 64 := by
  by_cases hd : d < 0 ∨ 64 < d
  · simp [dimC, hd] at h
  · exact ⟨d.toNat, by omega, by omega⟩

set_option maxHeartbeats 2000000 in
theorem one_any (d : Int) (w : World) (c : Int) (hc : dimC d = c) :
    Calls Tryz.prog 85 #[.int .i64 d] w (CellsRet (unitR d) c w) := by
  have HC := Lib.hid hc
  by_cases h0 : c = 0
  · subst h0
    obtain ⟨n, rfl, hn⟩ := ce_dim_nat hc
    have HR := Lib.hid (show unitR n = unitC n by simp [unitR, hc])
    clear hc
    go_enter Tryz.func85, Tryz.ntmps85
    go_wp2_with (go_at_call 102; refine (checkDim_is _ _ 0 HC.out).mono ?_; rintro e w' ⟨rfl, rfl⟩)
    refine (unit_any n _ hn).mono ?_
    rintro e w2 ⟨v, rfl, hown, hb2⟩
    have HO := Lib.hid hown
    clear hown
    go_wp2
    go_ret2
    rw [HR.out]
    exact cellsRet_of1 (Below.refl _ _) HO.out hb2 0
  · have HR := Lib.hid (show unitR d = [] by simp [unitR, hc, h0])
    have hne : (c != 0) = true := by simpa using h0
    clear hc h0
    go_enter Tryz.func85, Tryz.ntmps85
    go_wp2_with (go_at_call 102; refine (checkDim_is _ _ c HC.out).mono ?_; rintro e w' ⟨rfl, rfl⟩)
    go_ret2
    rw [HR.out]
    exact cellsRet_nil c (Below.refl _ _)

end Go.Proofs.YtfkbkekgnoanaaaGreatDoor
namespace Go.Proofs.YtfkbkekgnoanaaaGreatDoor
open Go.RowKit
set_option linter.unusedVariables false
structure IsCells (w : World) (a : Option Addr) (len cap : Nat) (xs : List Cl) : Prop where
  len : len = xs.length
  max : xs.length ≤ maxLen
  row : CRow w a xs
  bits : Bits xs
end Go.Proofs.YtfkbkekgnoanaaaGreatDoor
namespace Go.Proofs.YtfkbkekgnoanaaaGreatDoor
open Go.RowKit
set_option linter.unusedVariables false
set_option linter.unusedSimpArgs false
theorem Val.chk {n : Nat} {xs : List Cl} (h : Val n xs) : chkC n xs = 0 := by
  refine chkC_good h.le h.len (Nat.le_refl _) ?_
  rw [List.take_length, List.all_eq_true]
  intro c hc
  obtain ⟨i, hi, e⟩ := List.mem_iff_getElem.1 hc
  exact h.ok i c (by rw [← e]; exact List.getElem?_eq_getElem hi)
theorem Val.chk2 {n : Nat} {xs ys : List Cl} (h : Val n xs) (h2 : Val n ys) : chk2C n xs ys = 0 := by
  unfold chk2C
  rw [h.chk, h2.chk]; rfl
theorem val_of {d : Int} {xs : List Cl} (h : chkC d xs = 0) : ∃ n : Nat, d = n ∧ Val n xs := by
  obtain ⟨d0, d1, la, oka⟩ := chkC_zero h
  refine ⟨d.toNat, by omega, by omega, by omega, fun i c hi => ?_⟩
  exact List.all_eq_true.1 oka c (List.mem_of_getElem? hi)
end Go.Proofs.YtfkbkekgnoanaaaGreatDoor
namespace Go.Proofs.YtfkbkekgnoanaaaGreatDoor
open Go.RowKit
set_option linter.unusedVariables false
section
variable {t n : Int} {l : Nat} {a b c : PF}
end
def zeroX : PS → PX
  | .one _ _ => .one zeroP
  | .two _ _ _ _ => .two zeroP zeroP
section
variable {S : PS} {x y v : PX}
end
theorem PIs.of {w : World} {t n : Int} {f : WF} (hp : plainB t n 0 = true) (hf : f.At w) (h : pwOk t n f = true) : PIs w t n f f.pf := by
  have hrl := hf.rl; have hcl := hf.cl; have hg := hf.g64; have hr := hf.r64
  obtain ⟨z, c, g, ra, rl, rc, rows, ca, cl, cc, cells, pa, pl, pc⟩ := f
  dsimp only at hrl hcl hg hr
  subst hrl hcl
  simp only [pwOk, Bool.and_eq_true, Bool.or_eq_true, bareB, onlyB, decide_eq_true_eq, Bool.not_eq_true'] at h
  obtain ⟨⟨h1, h2, h3, h4⟩, h5⟩ := h
  have ht5 : t ≠ 5 := by rintro rfl; simp [plainB] at hp
  have hpl : pl = 0 := by
    rcases h4 with ⟨_, h4⟩ | h4
    · exact absurd h4 ht5
    · exact h4
  refine ⟨hf, rfl, ?_, hpl⟩
  show OkP t n ⟨z, c, g, rows, cells⟩
  cases z
  · have h1' : t = 2 ∨ c = 0 := by simpa using h1
    have h2' : t = 3 ∨ (g = 0 ∧ rows.length = 0) := by simpa using h2
    have h3' : t = 4 ∨ cells.length = 0 := by simpa using h3
    simp only [Bool.false_eq_true, false_or] at h5
    rcases (plainB_cases hp).2 with ⟨rfl, hn⟩ | ⟨rfl, h0, h1⟩ | ⟨rfl, m, rfl, hm⟩ | ⟨rfl, m, rfl, hm⟩
    · obtain rfl : c = 0 := by omega
      obtain ⟨rfl, hr0⟩ : g = 0 ∧ rows.length = 0 := by rcases h2' with h | h; · omega
                                                        exact h
      obtain rfl := List.eq_nil_of_length_eq_zero hr0
      obtain rfl := List.eq_nil_of_length_eq_zero (h3'.resolve_left (by decide))
      exact .bool rfl
    · obtain ⟨rfl, hr0⟩ := h2'.resolve_left (by decide)
      obtain rfl := List.eq_nil_of_length_eq_zero hr0
      obtain rfl := List.eq_nil_of_length_eq_zero (h3'.resolve_left (by decide))
      simp only [if_true, Bool.and_eq_true, decide_eq_true_eq] at h5
      exact .cost c rfl h5.1 h5.2
    · obtain rfl : c = 0 := by omega
      obtain rfl := List.eq_nil_of_length_eq_zero (h3'.resolve_left (by decide))
      have h6 : checkE (m : Int) g rows = 0 := by simpa using h5
      obtain ⟨k, hk, hgood⟩ := check_good hg hr h6
      exact .facts k g rows rfl hk hgood
    · obtain rfl : c = 0 := by omega
      obtain ⟨rfl, hr0⟩ := h2'.resolve_left (by decide)
      obtain rfl := List.eq_nil_of_length_eq_zero hr0
      have h6 : chkC (m : Int) cells = 0 := by simpa using h5
      obtain ⟨k, hk, hv⟩ := val_of h6
      exact .cells k cells rfl hk hv
  · obtain rfl : c = 0 := by simpa using h1
    obtain ⟨rfl, hr0⟩ : g = 0 ∧ rows.length = 0 := by simpa using h2
    have hc0 : cells.length = 0 := by simpa using h3
    obtain rfl := List.eq_nil_of_length_eq_zero hr0
    obtain rfl := List.eq_nil_of_length_eq_zero hc0
    exact .zero
end Go.Proofs.YtfkbkekgnoanaaaGreatDoor
namespace Go.Proofs.YtfkbkekgnoanaaaGreatDoor
open Go.RowKit
set_option linter.unusedVariables false
set_option maxRecDepth 100000 in
set_option maxHeartbeats 2000000 in
theorem pair_is (f g : WF) (w : World) :
    Calls Tryz.prog 83 #[f.val, g.val] w fun e w' => ∃ blk, e = .returned (pairF blk).val ∧ W6 w' blk 0 f ∧ W6 w' blk 6 g ∧ w.heap.size ≤ blk ∧ Below w.heap.size w w' := by
  obtain ⟨z, c, g0, ra, rl, rc, rows, ca, cl, cc, cells, pa, pl, pc⟩ := f
  obtain ⟨z2, c2, g2, ra2, rl2, rc2, rows2, ca2, cl2, cc2, cells2, pa2, pl2, pc2⟩ := g
  show Calls Tryz.prog 83 #[.agg #[.bool z, .int .i64 c, .int .u64 (g0 : Int), .slice ra rl rc, .slice ca cl cc, .slice pa pl pc], .agg #[.bool z2, .int .i64 c2, .int .u64 (g2 : Int), .slice ra2 rl2 rc2, .slice ca2 cl2 cc2, .slice pa2 pl2 pc2]] w _
  obtain ⟨W2, hW2⟩ : ∃ W, (w.alloc (.cells #[.bool z, .int .i64 c, .int .u64 (g0 : Int), .slice ra rl rc, .slice ca cl cc, .slice pa pl pc] 48)).alloc (.cells #[.bool z2, .int .i64 c2, .int .u64 (g2 : Int), .slice ra2 rl2 rc2, .slice ca2 cl2 cc2, .slice pa2 pl2 pc2] 48) = W := ⟨_, rfl⟩
  have hs2 : W2.heap.size = w.heap.size + 1 + 1 := by rw [← hW2]; simp
  have B2 : Below w.heap.size w W2 := by rw [← hW2]; exact wbox _ _ _ _ _
  obtain ⟨t0, t1⟩ := two_boxes2 W2 #[.bool false, .int .i64 0, .int .u64 0, .slice none 0 0, .slice none 0 0, .slice (some ⟨w.heap.size + 1 + 1 + 1, 0, none⟩) 2 2] #[.bool z, .int .i64 c, .int .u64 (g0 : Int), .slice ra rl rc, .slice ca cl cc, .slice pa pl pc, .bool z2, .int .i64 c2, .int .u64 (g2 : Int), .slice ra2 rl2 rc2, .slice ca2 cl2 cc2, .slice pa2 pl2 pc2] 48 48
  have B4 : Below w.heap.size w ((W2.alloc (.cells #[.bool false, .int .i64 0, .int .u64 0, .slice none 0 0, .slice none 0 0, .slice (some ⟨w.heap.size + 1 + 1 + 1, 0, none⟩) 2 2] 48)).alloc (.cells #[.bool z, .int .i64 c, .int .u64 (g0 : Int), .slice ra rl rc, .slice ca cl cc, .slice pa pl pc, .bool z2, .int .i64 c2, .int .u64 (g2 : Int), .slice ra2 rl2 rc2, .slice ca2 cl2 cc2, .slice pa2 pl2 pc2] 48)) := B2.trans ((wbox _ _ _ _ _).mono B2.size)
  rw [hs2] at t0 t1
  obtain ⟨s0, s1, s2, s3, s4, s5⟩ := six_cells t0
  have T1 := Lib.hid t1
  have HB4 := Lib.hid B4
  clear t0 t1 B2 B4 hs2
  subst hW2
  go_enter Tryz.func83, Tryz.ntmps83
  go_wp2_with fail
  refine bodyPost_ret (v := .agg #[.bool false, .int .i64 0, .int .u64 0, .slice none 0 0, .slice none 0 0, .slice (some ⟨w.heap.size + 1 + 1 + 1, 0, none⟩) 2 2]) ?_ rfl ?_
  rotate_left
  · exact ⟨w.heap.size + 1 + 1 + 1, rfl, ⟨bcell T1.out rfl, bcell T1.out rfl, bcell T1.out rfl, bcell T1.out rfl, bcell T1.out rfl, bcell T1.out rfl⟩, ⟨bcell T1.out rfl, bcell T1.out rfl, bcell T1.out rfl, bcell T1.out rfl, bcell T1.out rfl, bcell T1.out rfl⟩, by omega, HB4.out⟩
  simp [results, Tryz.results83, go_sem, s0, s1, s2, s3, s4, s5]
set_option maxRecDepth 100000 in
set_option maxHeartbeats 2000000 in
theorem zeroA_plain (t n : Int) (a : Option Addr) (l c0 : Nat) (ht : t ≠ 5) (w : World) :
    Calls Tryz.prog 67 #[.agg #[.int .i64 t, .int .i64 n, .slice a l c0]] w fun e w' => e = .returned zeroF.val ∧ Below w.heap.size w w' := by
  have e5 : (t == 5) = false := by simp [ht]
  clear ht
  obtain ⟨t0, t1⟩ := two_boxes2 w #[.int .i64 t, .int .i64 n, .slice a l c0] #[.bool true, .int .i64 0, .int .u64 0, .slice none 0 0, .slice none 0 0, .slice none 0 0] 25 48
  obtain ⟨s0, s1, s2, s3, s4, s5⟩ := six_cells t1
  clear t0 t1
  go_enter Tryz.func67, Tryz.ntmps67
  go_wp2_with fail
  refine bodyPost_ret (v := .agg #[.bool true, .int .i64 0, .int .u64 0, .slice none 0 0, .slice none 0 0, .slice none 0 0]) ?_ rfl ⟨rfl, wbox _ _ _ _ _⟩
  simp [results, Tryz.results67, go_sem, s0, s1, s2, s3, s4, s5]
end Go.Proofs.YtfkbkekgnoanaaaGreatDoor
namespace Go.Proofs.YtfkbkekgnoanaaaGreatDoor
open Go.RowKit
set_option linter.unusedVariables false
theorem six_frozen {w : World} {B : Nat} {cs : Array Value} {T : TypeId} (h : w.heap[B]? = some (.cells cs T (0, 0))) (j : Nat) : w.frozen? ⟨B, j, none⟩ = false := by
  unfold World.frozen?; simp [h]
theorem six_set {w : World} {B : Nat} {a b c d e f v0 v1 v2 v3 v4 v5 : Value} {T : TypeId} (h : w.heap[B]? = some (.cells #[a, b, c, d, e, f] T (0, 0))) :
    ((((((w.setCell ⟨B, 0, none⟩ v0).setCell ⟨B, 1, none⟩ v1).setCell ⟨B, 2, none⟩ v2).setCell ⟨B, 3, none⟩ v3).setCell ⟨B, 4, none⟩ v4).setCell ⟨B, 5, none⟩ v5).heap[B]? = some (.cells #[v0, v1, v2, v3, v4, v5] T (0, 0)) :=
  heap_setCell_same _ B 5 _ _ _ (heap_setCell_same _ B 4 _ _ _ (heap_setCell_same _ B 3 _ _ _ (heap_setCell_same _ B 2 _ _ _ (heap_setCell_same _ B 1 _ _ _ (heap_setCell_same w B 0 _ _ _ h)))))
theorem put6_below {n : Nat} {w0 w : World} {B : Nat} (v0 v1 v2 v3 v4 v5 : Value) (h : Below n w0 w) (hB : n ≤ B) :
    Below n w0 ((((((w.setCell ⟨B, 0, none⟩ v0).setCell ⟨B, 1, none⟩ v1).setCell ⟨B, 2, none⟩ v2).setCell ⟨B, 3, none⟩ v3).setCell ⟨B, 4, none⟩ v4).setCell ⟨B, 5, none⟩ v5) :=
  (((((h.setCell (p := ⟨B, 0, none⟩) hB _).setCell (p := ⟨B, 1, none⟩) hB _).setCell (p := ⟨B, 2, none⟩) hB _).setCell (p := ⟨B, 3, none⟩) hB _).setCell (p := ⟨B, 4, none⟩) hB _).setCell (p := ⟨B, 5, none⟩) hB _
def Above (n : Nat) (w w' : World) : Prop := ∀ k, n ≤ k → w'.heap[k]? = w.heap[k]?
theorem Above.refl (n : Nat) (w : World) : Above n w w := fun _ _ => rfl
theorem Above.setCell {n : Nat} {a w : World} (h : Above n a w) {p : Addr} (hp : p.block < n) (u : Value) : Above n a (w.setCell p u) := fun k hk => (Below.heap_setCell _ _ _ _ (by omega)).trans (h k hk)
theorem Above.cell {n : Nat} {w w' : World} (h : Above n w w') {p : Addr} (hp : n ≤ p.block) : w'.cell? p = w.cell? p := World.cell?_of_block (w := w) (h p.block hp)
theorem put6_above {n : Nat} {w0 w : World} {B : Nat} (v0 v1 v2 v3 v4 v5 : Value) (h : Above n w0 w) (hB : B < n) :
    Above n w0 ((((((w.setCell ⟨B, 0, none⟩ v0).setCell ⟨B, 1, none⟩ v1).setCell ⟨B, 2, none⟩ v2).setCell ⟨B, 3, none⟩ v3).setCell ⟨B, 4, none⟩ v4).setCell ⟨B, 5, none⟩ v5) :=
  (((((h.setCell (p := ⟨B, 0, none⟩) hB _).setCell (p := ⟨B, 1, none⟩) hB _).setCell (p := ⟨B, 2, none⟩) hB _).setCell (p := ⟨B, 3, none⟩) hB _).setCell (p := ⟨B, 4, none⟩) hB _).setCell (p := ⟨B, 5, none⟩) hB _
theorem VRow.above {w w' : World} {n : Nat} {a : Option Addr} {vs : List Value} (h : VRow w a vs) (hn : ∀ ad, a = some ad → n ≤ ad.block) (hb : Above n w w') : VRow w' a vs := by
  rcases h with h | ⟨b, off, rfl, hc⟩
  · exact .inl h
  · exact .inr ⟨b, off, rfl, fun i v hi => (hb.cell (p := ⟨b, off + i, none⟩) (hn ⟨b, off, none⟩ rfl)).trans (hc i v hi)⟩
theorem CRow.above {w w' : World} {n : Nat} {a : Option Addr} {cs : List Cl} (h : CRow w a cs) (hn : ∀ ad, a = some ad → n ≤ ad.block) (hb : Above n w w') : CRow w' a cs := by
  rcases h with h | ⟨b, off, rfl, hc⟩
  · exact .inl h
  · exact .inr ⟨b, off, rfl, fun i v hi => ⟨(hb.cell (p := ⟨b, off + i * 3, none⟩) (hn ⟨b, off, none⟩ rfl)).trans (hc i v hi).1, (hb.cell (p := ⟨b, off + i * 3 + 1, none⟩) (hn ⟨b, off, none⟩ rfl)).trans (hc i v hi).2.1, (hb.cell (p := ⟨b, off + i * 3 + 2, none⟩) (hn ⟨b, off, none⟩ rfl)).trans (hc i v hi).2.2⟩⟩
theorem W6.above {w w' : World} {n b o : Nat} {f : WF} (h : W6 w b o f) (hn : n ≤ b) (hb : Above n w w') : W6 w' b o f :=
  ⟨(hb.cell hn).trans h.1, (hb.cell hn).trans h.2.1, (hb.cell hn).trans h.2.2.1, (hb.cell hn).trans h.2.2.2.1, (hb.cell hn).trans h.2.2.2.2.1, (hb.cell hn).trans h.2.2.2.2.2⟩
end Go.Proofs.YtfkbkekgnoanaaaGreatDoor
namespace Go.Proofs.YtfkbkekgnoanaaaGreatDoor
open Go.RowKit
set_option linter.unusedVariables false
theorem co_rint {k : IntKind} {a b : Int} (h : a = b) : Ending.returned (.int k a) = .returned (.int k b) := by rw [h]
def okc (limit c : Int) : Bool := decide (-1 ≤ c) && decide (c ≤ limit)
def chk (limit : Int) (zs : List Int) : Int := if limit < 0 ∨ 1048576 < limit then 20 else if zs.all (okc limit) then 0 else 21
def added (limit a b : Int) : Int := if a = -1 ∨ b = -1 then -1 else min (a + b) limit

theorem added_any (l a b : Int) (w : World) (hs : -9223372036854775808 ≤ a + b ∧ a + b ≤ 9223372036854775807) : Calls Tryz.prog 105 #[.int .i64 l, .int .i64 a, .int .i64 b] w fun e w' => e = .returned (.int .i64 (added l a b)) ∧ w = w' := by
  by_cases ha : a = -1
  · have h1 : (a == -1) = true := by simp [ha]
    have e1 : added l a b = -1 := by simp [added, ha]
    have H := Lib.hid e1; clear e1 ha
    go_enter Tryz.func105, Tryz.ntmps105
    go_wp2
    go_ret
    exact ⟨co_rint H.out.symm, rfl⟩
  · have h1 : (a == -1) = false := by simp [ha]
    by_cases hb : b = -1
    · have h2 : (b == -1) = true := by simp [hb]
      have e1 : added l a b = -1 := by simp [added, ha, hb]
      have H := Lib.hid e1; clear e1 ha hb
      go_enter Tryz.func105, Tryz.ntmps105
      go_wp2
      go_ret
      exact ⟨co_rint H.out.symm, rfl⟩
    · have h2 : (b == -1) = false := by simp [hb]
      have e1 : added l a b = min (a + b) l := by simp [added, ha, hb]
      have H := Lib.hid e1; clear e1 ha hb
      obtain ⟨hs1, hs2⟩ := hs
      go_enter Tryz.func105, Tryz.ntmps105
      go_wp2
      all_goals go_ret
      all_goals exact ⟨co_rint (by rw [H.out] <;> omega), rfl⟩

end Go.Proofs.YtfkbkekgnoanaaaGreatDoor
namespace Go.Proofs.YtfkbkekgnoanaaaGreatDoor
open Go.RowKit
set_option linter.unusedVariables false
theorem co_take_all_succ {p : Int → Bool} {zs : List Int} {k : Nat} {z : Int} (hk : k < zs.length) (hz : z = zs.getD k 0) (h : (zs.take k).all p = true) (hp : p z = true) : (zs.take (k + 1)).all p = true := by
  rw [List.take_succ_eq_append_getElem hk, List.all_append, h]
  have : zs.getD k 0 = zs[k] := by simp [List.getD, hk]
  rw [this] at hz
  simp [← hz, hp]
theorem co_all_false {p : Int → Bool} {zs : List Int} {k : Nat} {z : Int} (hk : k < zs.length) (hz : z = zs.getD k 0) (hp : p z = false) : zs.all p = false := by
  have : zs.getD k 0 = zs[k] := by simp [List.getD, hk]
  rw [this] at hz
  rw [List.all_eq_false]
  exact ⟨zs[k], List.getElem_mem hk, by rw [← hz, hp]; simp⟩
theorem chk_bad {limit : Int} {zs : List Int} {k : Nat} {z : Int} (h0 : 0 ≤ limit) (h1 : limit ≤ 1048576) (hk : k < zs.length) (hz : z = zs.getD k 0) (hp : okc limit z = false) : chk limit zs = 21 := by
  unfold chk; rw [if_neg (by omega), co_all_false hk hz hp]; rfl
theorem chk_good {limit : Int} {zs : List Int} {k : Nat} (h0 : 0 ≤ limit) (h1 : limit ≤ 1048576) (hk : zs.length ≤ k) (h : (zs.take k).all (okc limit) = true) : chk limit zs = 0 := by
  rw [List.take_of_length_le hk] at h
  unfold chk; rw [if_neg (by omega), h]; rfl
theorem okc_lo {l z : Int} (h : z < -1) : okc l z = false := by simp [okc]; omega
theorem okc_hi {l z : Int} (h : l < z) : okc l z = false := by simp [okc]; omega
theorem okc_in {l z : Int} (h : -1 ≤ z) (h2 : z ≤ l) : okc l z = true := by simp [okc]; omega

set_option maxHeartbeats 400000 in
theorem checkAll_any (limit : Int) (a : Option Addr) (cap : Nat) (zs : List Int) (w : World) (hm : zs.length ≤ maxLen) (hrow : Row w a zs) :
    Calls Tryz.prog 104 #[.int .i64 limit, .slice a zs.length cap] w fun e w' => e = .returned (.int .i64 (chk limit zs)) ∧ w = w' := by
  unfold maxLen at hm
  by_cases h0 : limit < 0
  · have e1 : chk limit zs = 20 := by simp [chk, h0]
    have H := Lib.hid e1; clear e1
    go_enter Tryz.func104, Tryz.ntmps104
    go_wp2
    go_ret
    exact ⟨co_rint H.out.symm, rfl⟩
  by_cases h1 : 1048576 < limit
  · have e1 : chk limit zs = 20 := by simp [chk, h1]
    have H := Lib.hid e1; clear e1
    go_enter Tryz.func104, Tryz.ntmps104
    go_wp2
    go_ret
    exact ⟨co_rint H.out.symm, rfl⟩
  have h0' : 0 ≤ limit := by omega
  have h1' : limit ≤ 1048576 := by omega
  clear h0 h1
  go_enter Tryz.func104, Tryz.ntmps104
  go_wp2
  go_loop [15] (fun i => ∃ k : Nat, k ≤ zs.length ∧ i = .int .i64 k ∧ Hid ((zs.take k).all (okc limit) = true)) (fun i => zs.length - (intOf i).toNat)
  case atStart => exact ⟨0, Nat.zero_le _, rfl, by simp [Hid]⟩
  case round =>
    obtain ⟨k, hk, rfl, HA⟩ := hrel
    by_cases hlt : k < zs.length
    · rcases hrow with h | ⟨b, off, rfl, hc⟩
      · subst h; simp at hlt
      have hck := hc k hlt
      obtain ⟨z, hz⟩ : ∃ z, z = zs.getD k 0 := ⟨_, rfl⟩
      rw [← hz] at hck
      have HZ := Lib.hid hz; clear hz hc
      by_cases h2 : z < -1
      · have H := Lib.hid (chk_bad h0' h1' hlt HZ.out (okc_lo h2))
        go_wp2
        go_ret
        exact ⟨co_rint H.out.symm, rfl⟩
      by_cases h3 : limit < z
      · have H := Lib.hid (chk_bad h0' h1' hlt HZ.out (okc_hi h3))
        go_wp2
        go_ret
        exact ⟨co_rint H.out.symm, rfl⟩
      have H := Lib.hid (co_take_all_succ hlt HZ.out HA.out (okc_in (by omega) (by omega)))
      have h2' : -1 ≤ z := by omega
      have h3' : z ≤ limit := by omega
      clear h2 h3
      go_wp2
      go_round
      case rel => exact ⟨k + 1, by omega, by go_num, H⟩
      case measure => simp [intOf]; omega
    · have H := Lib.hid (chk_good h0' h1' (by omega) HA.out)
      go_wp2
      go_ret
      exact ⟨co_rint H.out.symm, rfl⟩

end Go.Proofs.YtfkbkekgnoanaaaGreatDoor
namespace Go.Proofs.YtfkbkekgnoanaaaGreatDoor
open Go.RowKit
set_option linter.unusedVariables false
def sumOf (limit : Int) (zs : List Int) : Int := zs.foldl (added limit) 0
def sumR (limit : Int) (zs : List Int) : Int := if chk limit zs = 0 then sumOf limit zs else 0

theorem chk_zero {limit : Int} {zs : List Int} (h : chk limit zs = 0) : 0 ≤ limit ∧ limit ≤ 1048576 ∧ zs.all (okc limit) = true := by
  unfold chk at h
  split at h
  · omega
  · cases hz : zs.all (okc limit) <;> rw [hz] at h <;> simp at h
    exact ⟨by omega, by omega, rfl⟩
theorem take_snoc {zs : List Int} {k : Nat} {z : Int} (hk : k < zs.length) (hz : z = zs.getD k 0) : zs.take (k + 1) = zs.take k ++ [z] := by
  rw [List.take_succ_eq_append_getElem hk]
  have : zs.getD k 0 = zs[k] := by simp [List.getD, hk]
  rw [hz, this]
theorem fold_snoc {f : Int → Int → Int} {s : Int} {zs : List Int} {k : Nat} {z : Int} (hk : k < zs.length) (hz : z = zs.getD k 0) : (zs.take (k + 1)).foldl f s = f ((zs.take k).foldl f s) z := by
  rw [take_snoc hk hz, List.foldl_append]; rfl
theorem okc_get {limit : Int} {zs : List Int} {k : Nat} {z : Int} (h : zs.all (okc limit) = true) (hk : k < zs.length) (hz : z = zs.getD k 0) : -1 ≤ z ∧ z ≤ limit := by
  have e : zs.getD k 0 = zs[k] := by simp [List.getD, hk]
  rw [List.all_eq_true] at h
  have := h z (by rw [hz, e]; exact List.getElem_mem hk)
  simp [okc] at this; exact this
theorem added_ok {l a b : Int} (hl : 0 ≤ l) (ha : -1 ≤ a) (ha2 : a ≤ l) (hb : -1 ≤ b) (hb2 : b ≤ l) : -1 ≤ added l a b ∧ added l a b ≤ l := by
  unfold added; split <;> omega
theorem rtwo {k k2 : IntKind} {a b c d : Int} (h : a = b) (h2 : c = d) : Ending.returned (.tuple #[.int k a, .int k2 c]) = .returned (.tuple #[.int k b, .int k2 d]) := by rw [h, h2]
set_option maxHeartbeats 400000 in
theorem sum_any (limit : Int) (a : Option Addr) (cap : Nat) (zs : List Int) (w : World) (hm : zs.length ≤ maxLen) (hrow : Row w a zs) :
    Calls Tryz.prog 88 #[.int .i64 limit, .slice a zs.length cap] w fun e w' => e = .returned (.tuple #[.int .i64 (sumR limit zs), .int .i64 (chk limit zs)]) ∧ w = w' := by
  have HM := Lib.hid hm
  unfold maxLen at hm
  by_cases hc0 : chk limit zs = 0
  · obtain ⟨hl0, hl1, hall⟩ := chk_zero hc0
    have e1 : sumR limit zs = sumOf limit zs := by simp [sumR, hc0]
    have H1 := Lib.hid e1
    have H0 := Lib.hid hc0
    have HALL := Lib.hid hall
    have HROW := Lib.hid hrow
    clear e1 hc0 hall hrow
    go_enter Tryz.func88, Tryz.ntmps88
    go_wp2_with (go_at_call 104; refine (checkAll_any _ _ _ _ _ HM.out HROW.out).mono ?_; rintro e w' ⟨rfl, rfl⟩; rw [H0.out])
    go_loop [7, 18] (fun m i => ∃ k : Nat, k ≤ zs.length ∧ i = .int .i64 k ∧ ∃ s : Int, m = .int .i64 s ∧ -1 ≤ s ∧ s ≤ limit ∧ Hid (s = (zs.take k).foldl (added limit) 0)) (fun _ i => zs.length - (intOf i).toNat)
    case atStart => exact ⟨0, Nat.zero_le _, rfl, _, rfl, by omega, by omega, by simp [Hid]⟩
    case round =>
      obtain ⟨k, hk, rfl, s, rfl, hs1, hs2, HS⟩ := hrel
      by_cases hlt : k < zs.length
      · rcases HROW.out with h | ⟨b, off, rfl, hc⟩
        · subst h; simp at hlt
        have hck := hc k hlt
        obtain ⟨z, hz⟩ : ∃ z, z = zs.getD k 0 := ⟨_, rfl⟩
        rw [← hz] at hck
        obtain ⟨hz1, hz2⟩ := okc_get HALL.out hlt hz
        have hs' : -1 ≤ added limit s z ∧ added limit s z ≤ limit := added_ok hl0 hs1 hs2 hz1 hz2
        have HZ := Lib.hid hz; clear hz hc HROW
        go_wp2_with (go_at_call 105; refine (added_any _ _ _ _ ⟨by omega, by omega⟩).mono ?_; rintro e w' ⟨rfl, rfl⟩)
        go_round
        case rel => exact ⟨k + 1, by omega, by go_num, _, rfl, hs'.1, hs'.2, by rw [HS.out]; exact (fold_snoc hlt HZ.out).symm⟩
        case measure => simp [intOf]; omega
      · have HE : Hid (s = sumR limit zs) := by rw [H1.out, HS.out, List.take_of_length_le (by omega)]; rfl
        have HROW2 := HROW
        clear HROW
        go_wp2
        go_ret2
        exact ⟨rtwo HE.out H0.out.symm, rfl⟩
  · have e1 : sumR limit zs = 0 := by simp [sumR, hc0]
    have H1 := Lib.hid e1
    have HROW := Lib.hid hrow
    have hne : (chk limit zs != 0) = true := by simpa using hc0
    obtain ⟨c, hcc⟩ : ∃ c, c = chk limit zs := ⟨_, rfl⟩
    rw [← hcc] at hne
    have HC := Lib.hid hcc
    clear e1 hc0 hrow hcc
    go_enter Tryz.func88, Tryz.ntmps88
    go_wp2_with (go_at_call 104; refine (checkAll_any _ _ _ _ _ HM.out HROW.out).mono ?_; rintro e w' ⟨rfl, rfl⟩; rw [← HC.out])
    go_ret2
    exact ⟨rtwo H1.out.symm HC.out, rfl⟩

end Go.Proofs.YtfkbkekgnoanaaaGreatDoor
namespace Go.Proofs.YtfkbkekgnoanaaaGreatDoor
open Go.RowKit
set_option linter.unusedVariables false
theorem Row.take {w : World} {a : Option Addr} {zs : List Int} (h : Row w a zs) (n : Nat) : Row w a (zs.take n) := by
  rcases h with h | ⟨b, off, rfl, hc⟩
  · exact .inl (by simp [h])
  · refine .inr ⟨b, off, rfl, fun i hi => ?_⟩
    simp only [List.length_take] at hi
    have := hc i (by omega)
    rw [this]
    simp [List.getD, show i < n by omega]

end Go.Proofs.YtfkbkekgnoanaaaGreatDoor
namespace Go.Proofs.YtfkbkekgnoanaaaGreatDoor
open Go.RowKit
set_option linter.unusedVariables false
theorem sum_two {limit a b : Int} (h : chk limit [a, b] = 0) : sumR limit [a, b] = added limit a b := by
  have h2 := (chk_zero h).2.2
  simp [okc] at h2
  have h3 : added limit 0 a = a := by unfold added; split <;> omega
  simp [sumR, h, sumOf, h3]
theorem chk2_iff {limit a b : Int} : chk limit [a, b] = 0 ↔ (0 ≤ limit ∧ limit ≤ 1048576 ∧ (-1 ≤ a ∧ a ≤ limit) ∧ (-1 ≤ b ∧ b ≤ limit)) := by
  constructor
  · intro h
    have := chk_zero h
    simp [okc] at this
    omega
  · intro h
    have : [a, b].all (okc limit) = true := by simp [okc]; omega
    simp only [chk, this]
    rw [if_neg (by omega)]; rfl
end Go.Proofs.YtfkbkekgnoanaaaGreatDoor
namespace Go.Proofs.YtfkbkekgnoanaaaGreatDoor
open Go Go.RowKit
set_option linter.unusedVariables false
theorem row_own {W : World} {B : Nat} {T : TypeId} {a b : Int} (h : W.heap[B]? = some (.cells (List.toArray [.int .i64 a, .int .i64 b]) T (0, 0))) : Row W (some ⟨B, 0, none⟩) [a, b] := by
  refine .inr ⟨B, 0, rfl, fun i hi => ?_⟩
  match i, hi with
  | 0, _ => exact cell_own h rfl
  | 1, _ => exact cell_own h rfl
theorem then_is (d : Int) (a b : Option Addr) (capa capb : Nat) (xs ys : List Cl) (w : World) (ht : Tabs w) (hma : xs.length ≤ maxLen) (hmb : ys.length ≤ maxLen) (hra : CRow w a xs) (hrb : CRow w b ys) (hba : Bits xs) (hbb : Bits ys) (c : Int) (hc : chk2C d xs ys = c) (la lb : Nat) (hla : xs.length = la) (hlb : ys.length = lb) :
    Calls Tryz.prog 90 #[.int .i64 d, .slice a la capa, .slice b lb capb] w (CellsRet (thenR d xs ys) c w) := by
  subst hla; subst hlb; exact then_any d a b capa capb xs ys w ht hma hmb hra hrb hba hbb c hc
section
variable {w W : World} {k : Nat} {n : Int} {f g : WF} {x y : PF}
theorem ext_f2 (hp : plainB 2 n 0 = true) (hx : PIs w 2 n f x) (hy : PIs w 2 n g y) (hf : f.z = false) (hg : g.z = false) : PNew k W 2 n (costF (sumR n [f.c, g.c])) (extP 2 n x y) := by
  obtain ⟨rfl, h0, h1⟩ := hx.k2 hf
  obtain ⟨rfl, h2, h3⟩ := hy.k2 hg
  obtain ⟨d0, d1, _⟩ := plainB_dim hp
  have hs : sumR n [f.c, g.c] = min (f.c + g.c) n := by
    rw [sum_two (chk2_iff.2 ⟨d0, d1, ⟨by omega, by omega⟩, by omega, by omega⟩)]
    unfold added; rw [if_neg (by omega)]
  rw [ext_2, hs]
  exact new_cost (.cost _ rfl (by omega) (by omega))
theorem ext_f4 {m : Nat} {a : Option Addr} {cap : Nat} (hx : PIs w 4 m f x) (hy : PIs w 4 m g y) (hf : f.z = false) (hg : g.z = false) (hv : CRow W a (thenR m f.cells g.cells)) (hl : ∀ ad, a = some ad → k ≤ ad.block) : PNew k W 4 m (cellsF a cap (thenR m f.cells g.cells)) (extP 4 m x y) := by
  obtain ⟨hx', h0⟩ := hx.k4 hf
  obtain ⟨hy', h1⟩ := hy.k4 hg
  have e : thenR m f.cells g.cells = thenC f.cells g.cells := by unfold thenR; rw [if_pos (h0.chk2 h1)]
  have hv2 := val_then h0 h1
  rw [e] at hv ⊢
  rw [hx', hy', ext_4]
  exact new_cells (.cells m _ rfl rfl hv2) hv2.bits (by have := hv2.le; have := hv2.len; unfold maxLen; omega) hv hl
theorem Tabs.c {w : World} (h : Tabs w) : TabC w := ⟨h.ctz⟩
end
theorem pair_gives {w : World} {lo : Nat} {t n u m : Int} {a b : PF} {vs : List Value} (hlo : lo ≤ w.heap.size) (h : Holds [isNew lo (.one t n) (.one a), isNew lo (.one u m) (.one b)] vs w) : Calls Tryz.prog 83 vs.toArray w (Gives (isNew lo (.two t n u m) (.two a b)) w) := by
  obtain ⟨v1, v2, rfl, ⟨f, rfl, hf⟩, g, rfl, hg⟩ := holds2 h
  refine (pair_is f g w).mono ?_
  rintro e w' ⟨blk, rfl, h6, h7, hb1, hb⟩
  exact ⟨_, rfl, ⟨pairF blk, rfl, pair_new h6 h7 (Nat.le_trans hlo hb1) (PNew.below hf hb) (PNew.below hg hb)⟩, hb⟩
end Go.Proofs.YtfkbkekgnoanaaaGreatDoor
namespace Go.Proofs.YtfkbkekgnoanaaaGreatDoor
open Go.RowKit
set_option linter.unusedVariables false
attribute [local go_sem ↓] Go.wp_at_zero Go.wp_at_succ
theorem urow_of_own {w : World} {base : Nat} {v : Value} {n : Nat} {rows : List Nat} (h : w.ownsRow base 41 1 v n (u64s rows)) :
    n = rows.length ∧ ∃ a cap, v = .slice a n cap ∧ VRow w a (u64s rows) ∧ ∀ ad, a = some ad → base ≤ ad.block := by
  have hl := h.1
  rw [u64s_length] at hl
  refine ⟨by omega, ?_⟩
  rcases h.2 with ⟨rfl, hn⟩ | ⟨g, cap, cur, rfl, hg, hh, h1, h2, h3, h4⟩
  · have : rows = [] := List.length_eq_zero_iff.1 (by omega)
    subst this
    exact ⟨none, 0, by rw [hn], .inl rfl, fun ad e => by cases e⟩
  · refine ⟨some ⟨g, 0, none⟩, cap, rfl, .inr ⟨g, 0, rfl, fun i u hi => ?_⟩, fun ad e => by cases e; exact hg⟩
    rw [← h4] at hi
    rw [List.getElem?_take] at hi
    split at hi
    · unfold World.cell?
      simp only [hh, Nat.zero_add]
      simpa using hi
    · cases hi
theorem cclone_is (a : Option Addr) (cap : Nat) (cs : List Cl) (w : World) (hm : cs.length ≤ 64) (hrow : CRow w a cs) (n : Nat) (hn : cs.length = n) :
    Calls Tryz.prog 87 #[.slice a n cap] w fun e w' => ∃ a2 c2, e = .returned (.slice a2 n c2) ∧ CRow w' a2 cs ∧ (∀ ad, a2 = some ad → w.heap.size ≤ ad.block) ∧ Below w.heap.size w w' := by
  subst hn
  refine (clone_any a cap cs w hm hrow).mono ?_
  rintro e w' ⟨v, rfl, hown, hb⟩
  obtain ⟨_, a2, c2, rfl, hr, hl⟩ := crow_of_own hown
  exact ⟨a2, c2, rfl, hr, fun ad e => (hl ad e).1, hb⟩
set_option maxRecDepth 100000 in
set_option maxHeartbeats 4000000 in
theorem copied_plain (t n : Int) (f : WF) (x : PF) (w : World) (h : PIs w t n f x) :
    Calls Tryz.prog 69 #[f.val] w fun e w' => ∃ g : WF, e = .returned g.val ∧ PNew w.heap.size w' t n g x ∧ Below w.heap.size w w' := by
  obtain ⟨r64, c64⟩ := h.rows64 (l := 0)
  have HI := Lib.hid h
  have hrl := h.at_.rl; have hcl := h.at_.cl; have hpl := h.pl
  obtain ⟨z, c, g, ra, rl, rc, rows, ca, cl, cc, cells, pa, pl, pc⟩ := f
  dsimp only at hrl hcl hpl r64 c64
  subst hpl
  show Calls Tryz.prog 69 #[.agg #[.bool z, .int .i64 c, .int .u64 (g : Int), .slice ra rl rc, .slice ca cl cc, .slice pa 0 pc]] w _
  have HRL := Lib.hid hrl; have HCL := Lib.hid hcl
  obtain ⟨t0, t1⟩ := two_boxes2 w #[.bool z, .int .i64 c, .int .u64 (g : Int), .slice ra rl rc, .slice ca cl cc, .slice pa 0 pc] #[.bool false, .int .i64 0, .int .u64 0, .slice none 0 0, .slice none 0 0, .slice none 0 0] 48 48
  have T0 := Lib.hid t0; have T1 := Lib.hid t1
  have hB := Lib.hid (wbox w #[.bool z, .int .i64 c, .int .u64 (g : Int), .slice ra rl rc, .slice ca cl cc, .slice pa 0 pc] #[.bool false, .int .i64 0, .int .u64 0, .slice none 0 0, .slice none 0 0, .slice none 0 0] 48 48)
  have hsz : ((w.alloc (.cells #[.bool z, .int .i64 c, .int .u64 (g : Int), .slice ra rl rc, .slice ca cl cc, .slice pa 0 pc] 48)).alloc (.cells #[.bool false, .int .i64 0, .int .u64 0, .slice none 0 0, .slice none 0 0, .slice none 0 0] 48)).heap.size = w.heap.size + 1 + 1 := by simp
  obtain ⟨W0, hW0⟩ : ∃ W, (w.alloc (.cells #[.bool z, .int .i64 c, .int .u64 (g : Int), .slice ra rl rc, .slice ca cl cc, .slice pa 0 pc] 48)).alloc (.cells #[.bool false, .int .i64 0, .int .u64 0, .slice none 0 0, .slice none 0 0, .slice none 0 0] 48) = W := ⟨_, rfl⟩
  rw [hW0] at hB T0 T1 hsz
  have HSZ := Lib.hid hsz
  obtain ⟨x0, x1, x2, x3, x4, x5⟩ := six_cells T0.out
  have HAT : Hid (WF.At w ⟨z, c, g, ra, rl, rc, rows, ca, cl, cc, cells, pa, 0, pc⟩) := h.at_
  have R64 := Lib.hid r64; have C64 := Lib.hid c64
  clear t0 t1 hsz h hrl hcl r64 c64
  go_enter Tryz.func69, Tryz.ntmps69
  go_wp2_with fail
  refine (clone_is ra rc rows _ (by rw [HRL.out]; exact Nat.le_trans R64.out (by decide)) (HAT.out.rows.below hB.out) rl HRL.out).mono ?_
  rintro e w1 ⟨v, rfl, hown, hb1⟩
  obtain ⟨a1, c1, rfl, hv1, hl1⟩ := (urow_of_own hown).2
  have HV1 := Lib.hid hv1; have HL1 := Lib.hid hl1
  clear hown hv1 hl1 x0 x1 x2 x3 x4 x5
  have U0 := Lib.hid (heap_old T0.out hb1); have U1 := Lib.hid (heap_old T1.out hb1)
  have hB1 := Lib.hid (hB.out.trans (hb1.mono hB.out.size))
  obtain ⟨x0, x1, x2, x3, x4, x5⟩ := six_cells U0.out
  have f3 := six_frozen U0.out 3
  have V0 := Lib.hid (heap_setCell_same w1 w.heap.size 3 _ _ (.slice a1 rl c1) U0.out)
  have hne : w.heap.size + 1 ≠ w.heap.size := by omega
  have V1 := Lib.hid (heap_other (B := w.heap.size) (j := 3) (c := .slice a1 rl c1) U1.out hne)
  have hB2 := Lib.hid (hB1.out.setCell (p := ⟨w.heap.size, 3, none⟩) (Nat.le_refl _) (.slice a1 rl c1))
  have hs1 : W0.heap.size ≤ (w1.setCell ⟨w.heap.size, 3, none⟩ (.slice a1 rl c1)).heap.size := by simpa [World.setCell] using hb1.size
  have HS1 := Lib.hid hs1
  obtain ⟨W1, hW1⟩ : ∃ W, w1.setCell ⟨w.heap.size, 3, none⟩ (.slice a1 rl c1) = W := ⟨_, rfl⟩
  have HA1 := Lib.hid (HV1.out.above HL1.out ((Above.refl W0.heap.size w1).setCell (p := ⟨w.heap.size, 3, none⟩) (by have := HSZ.out; show w.heap.size < _; omega) (.slice a1 rl c1)))
  rw [hW1] at V0 V1 hB2 HS1 HA1
  clear hs1 hne x0 x1 x2 x4 x5
  obtain ⟨y0, y1, y2, y3, y4, y5⟩ := six_cells V0.out
  go_wp2_with fail
  refine (cclone_is ca cc cells _ (by rw [HCL.out]; exact C64.out) (HAT.out.cells.below hB2.out) cl HCL.out).mono ?_
  rintro e w2 ⟨a2, c2, rfl, hv2, hl2, hb2⟩
  have HV2 := Lib.hid hv2; have HL2 := Lib.hid hl2
  clear hv2 hl2 x3 y0 y1 y2 y3 y4 y5 f3
  have Y0 := Lib.hid (heap_old V0.out hb2); have Y1 := Lib.hid (heap_old V1.out hb2)
  obtain ⟨x0, x1, x2, x3, x4, x5⟩ := six_cells Y0.out
  have f4 := six_frozen Y0.out 4
  have hB3 := Lib.hid (hB2.out.trans (hb2.mono hB2.out.size))
  have Z0 := Lib.hid (heap_setCell_same w2 w.heap.size 4 _ _ (.slice a2 cl c2) Y0.out)
  have hne : w.heap.size + 1 ≠ w.heap.size := by omega
  have Z1 := Lib.hid (heap_other (B := w.heap.size) (j := 4) (c := .slice a2 cl c2) Y1.out hne)
  have hB4 := Lib.hid (hB3.out.setCell (p := ⟨w.heap.size, 4, none⟩) (Nat.le_refl _) (.slice a2 cl c2))
  have HR1 := Lib.hid ((HA1.out.below hb2).above HL1.out ((Above.refl W0.heap.size w2).setCell (p := ⟨w.heap.size, 4, none⟩) (by have := HSZ.out; show w.heap.size < _; omega) (.slice a2 cl c2)))
  have HL3 : Hid (∀ ad, a2 = some ad → W0.heap.size ≤ ad.block) := fun ad e => Nat.le_trans HS1.out (HL2.out ad e)
  have HR2 := Lib.hid (HV2.out.above HL3.out ((Above.refl W0.heap.size w2).setCell (p := ⟨w.heap.size, 4, none⟩) (by have := HSZ.out; show w.heap.size < _; omega) (.slice a2 cl c2)))
  obtain ⟨W2, hW2⟩ : ∃ W, w2.setCell ⟨w.heap.size, 4, none⟩ (.slice a2 cl c2) = W := ⟨_, rfl⟩
  rw [hW2] at Z0 Z1 hB4 HR1 HR2
  clear hne
  obtain ⟨p0, p1, p2, p3, p4, p5⟩ := six_cells Z0.out
  have f5 := six_frozen Z0.out 5
  go_wp2_with fail
  go_loopw [3, 19] (fun p i wr => p = .slice none 0 0 ∧ i = .int .i64 0 ∧ W2 = wr) (fun _ _ _ => 0)
  case atStart => exact ⟨rfl, rfl, rfl⟩
  case round =>
    obtain ⟨rfl, rfl, rfl⟩ := hrel
    have N0 := Lib.hid (heap_setCell_same W2 w.heap.size 5 _ _ (.slice none 0 0) Z0.out)
    have hne : w.heap.size + 1 ≠ w.heap.size := by omega
    have N1 := Lib.hid (heap_other (B := w.heap.size) (j := 5) (c := .slice none 0 0) Z1.out hne)
    obtain ⟨W3, hW3⟩ : ∃ W, W2.setCell ⟨w.heap.size, 5, none⟩ (.slice none 0 0) = W := ⟨_, rfl⟩
    rw [hW3] at N0 N1
    have K0 := N0.out
    obtain ⟨q0, q1, q2, q3, q4, q5⟩ := six_cells N0.out
    obtain ⟨r0, r1, r2, r3, r4, r5⟩ := six_cells N1.out
    have g0 := six_frozen N1.out 0; have g1 := six_frozen N1.out 1; have g2 := six_frozen N1.out 2; have g3 := six_frozen N1.out 3; have g4 := six_frozen N1.out 4; have g5 := six_frozen N1.out 5
    have hA3 : Above W0.heap.size W2 W3 := by rw [← hW3]; exact (Above.refl W0.heap.size W2).setCell (p := ⟨w.heap.size, 5, none⟩) (by have := HSZ.out; show w.heap.size < _; omega) _
    have HA3 := Lib.hid hA3
    have hB5 : Hid (Below w.heap.size w W3) := by show Below _ _ _; rw [← hW3]; exact hB4.out.setCell (p := ⟨w.heap.size, 5, none⟩) (Nat.le_refl _) _
    clear K0 hne hA3
    go_wp2_with fail
    have NS := Lib.hid (six_set (v0 := .bool z) (v1 := .int .i64 c) (v2 := .int .u64 (g : Int)) (v3 := .slice a1 rl c1) (v4 := .slice a2 cl c2) (v5 := .slice none 0 0) N1.out)
    obtain ⟨s0, s1, s2, s3, s4, s5⟩ := six_cells NS.out
    have hlt := HSZ.out
    refine bodyPost_ret (v := .agg #[.bool z, .int .i64 c, .int .u64 (g : Int), .slice a1 rl c1, .slice a2 cl c2, .slice none 0 0]) ?_ rfl ⟨⟨z, c, g, a1, rl, c1, rows, a2, cl, c2, cells, none, 0, 0⟩, rfl, ?_, put6_below _ _ _ _ _ _ hB5.out (Nat.le_succ _)⟩
    rotate_left
    · have hA6 := put6_above (.bool z) (.int .i64 c) (.int .u64 (g : Int)) (.slice a1 rl c1) (.slice a2 cl c2) (.slice none 0 0) HA3.out (B := w.heap.size + 1) (by omega)
      have hAt := WF.At.mk (f := ⟨z, c, g, a1, rl, c1, rows, a2, cl, c2, cells, none, 0, 0⟩) (HR1.out.above HL1.out hA6) HRL.out HAT.out.g64 HAT.out.r64 (HR2.out.above HL3.out hA6) HCL.out HAT.out.bits HAT.out.cmax
      have hPf : WF.pf ⟨z, c, g, a1, rl, c1, rows, a2, cl, c2, cells, none, 0, 0⟩ = x := HI.out.pf
      exact (PNew.mk (n := W0.heap.size) ⟨hAt, hPf, HI.out.ok, rfl⟩ HL1.out HL3.out).mono (by omega)
    · simp [results, Tryz.results69, go_sem, s0, s1, s2, s3, s4, s5]
end Go.Proofs.YtfkbkekgnoanaaaGreatDoor
namespace Go.Proofs.YtfkbkekgnoanaaaGreatDoor
open Go Go.RowKit
set_option linter.unusedVariables false
theorem one4_is (m : Nat) (hm : m ≤ 64) (w : World) : Calls Tryz.prog 85 #[.int .i64 (m : Int)] w (CellsRet (unitC m) 0 w) := by
  have h0 : dimC (m : Int) = 0 := by unfold dimC; rw [if_neg (by omega)]
  have := one_any (m : Int) w 0 h0
  rwa [show unitR (m : Int) = unitC m by unfold unitR; rw [if_pos h0, Int.toNat_natCast]] at this

set_option maxRecDepth 100000 in
set_option maxHeartbeats 4000000 in
theorem extA_plain (t n : Int) (sa : Option Addr) (sc : Nat) (f g : WF) (x y : PF) (w : World) (hp : plainB t n 0 = true) (hx : PIs w t n f x) (hy : PIs w t n g y) (ht : Tabs w) :
    Calls Tryz.prog 70 #[.agg #[.int .i64 t, .int .i64 n, .slice sa 0 sc], f.val, g.val] w (WRet (.one t n) (.one (extP t n x y)) w) := by
  refine enterF (args := [.agg #[.int .i64 t, .int .i64 n, .slice sa 0 sc], f.val, g.val]) Tryz.func70 rfl Tryz.ntmps70 rfl ?_
  have hS := St.start w
  refine seqF ?_
  refine regF ?_
  refine op_box (cs := [_, _, _]) hS rfl rfl rfl ?_
  clear hS; intro B1 W1 hS
  refine op_box (cs := [_, _, _, _, _, _]) hS rfl rfl rfl ?_
  clear hS; intro B2 W2 hS
  refine op_box (cs := [_, _, _, _, _, _]) hS rfl rfl rfl ?_
  clear hS; intro B3 W3 hS
  refine op_alloc (cs := [_, _, _, _, _, _]) hS Tryz.zeroValue48 rfl rfl ?_
  clear hS; intro B4 W4 hS
  refine endF ?_
  refine XF.thenN ?_
  refine seqF ?_
  refine seqF ?_
  refine regF ?_
  refine op_field (o' := 0) fa_48_0 rfl rfl rfl ?_
  refine op_load Tryz.isAgg4 rfl (cell_own (hS.at_ 2 rfl) rfl) rfl ?_
  refine op_move rfl rfl ?_
  refine op_cases (d := 10) rfl (fun hc => ?_) (fun hc => ?_)
  · have hg10 := hc; clear hc
    have hz := hg10
    refine op_notF (d := 10) rfl rfl rfl rfl ?_
    refine op_notF (d := 10) rfl rfl rfl rfl ?_
    refine op_pickT rfl rfl rfl ?_
    refine endF ?_
    refine XF.thenN ?_
    refine condT rfl ?_
    refine seqF ?_
    refine regF ?_
    refine op_build (us := [(0, .bool _)]) rfl (bld_48_0 _) rfl ?_
    refine op_storeA (i := 0) (vs := [_, _, _, _, _, _]) (cs' := [_, _, _, _, _, _]) (O' := [_, _, _, _]) hS Tryz.sizeOf48 rfl rfl rfl rfl rfl rfl rfl ?_
    clear hS; intro W5 hS
    refine endF ?_
    refine XF.thenN ?_
    refine retF ?_
    refine XF.thenR ?_
    refine XF.res (resC1 (vs := [_, _, _, _, _, _]) Tryz.results70 Tryz.isAgg48 Tryz.sizeOf48 rfl (CellsAt.own (j := 0) (m := 6) (hS.at_ 0 rfl) rfl)) ?_
    exact ext_zL hx hz hS.below
  · have hg10 := hc; clear hc
    have hf := hg10
    refine op_wantedF (d := 10) rfl rfl ?_
    refine op_field (o' := 0) fa_48_0 rfl rfl rfl ?_
    refine op_wantedF (d := 10) rfl rfl ?_
    refine op_load Tryz.isAgg4 rfl (cell_own (hS.at_ 1 rfl) rfl) rfl ?_
    refine op_pickF rfl rfl rfl ?_
    refine endF ?_
    refine XF.thenN ?_
    refine condF rfl (fun hc => ?_) (fun hc => ?_)
    · have hc13 := hc; clear hc
      refine seqF ?_
      refine regF ?_
      refine op_build (us := [(0, .bool _)]) rfl (bld_48_0 _) rfl ?_
      refine op_storeA (i := 0) (vs := [_, _, _, _, _, _]) (cs' := [_, _, _, _, _, _]) (O' := [_, _, _, _]) hS Tryz.sizeOf48 rfl rfl rfl rfl rfl rfl rfl ?_
      clear hS; intro W6 hS
      refine endF ?_
      refine XF.thenN ?_
      refine retF ?_
      refine XF.thenR ?_
      refine XF.res (resC1 (vs := [_, _, _, _, _, _]) Tryz.results70 Tryz.isAgg48 Tryz.sizeOf48 rfl (CellsAt.own (j := 0) (m := 6) (hS.at_ 0 rfl) rfl)) ?_
      exact ext_zR hy hc13 hS.below
    · have hc13 := hc; clear hc
      have hg := hc13
      refine skipF ?_
      refine XF.thenN ?_
      refine seqF ?_
      refine regF ?_
      refine op_alloc (cs := [_, _, _, _, _, _]) hS Tryz.zeroValue48 rfl rfl ?_
      clear hS; intro B7 W7 hS
      refine endF ?_
      refine XF.thenN ?_
      refine seqF ?_
      refine seqF ?_
      refine regF ?_
      refine op_field (o' := 0) fa_25_0 rfl rfl rfl ?_
      refine op_load Tryz.isAgg22 rfl (cell_own (hS.at_ 4 rfl) rfl) rfl ?_
      refine endF ?_
      refine XF.thenN ?_
      refine blockF ?_
      refine seqF ?_
      refine regF ?_
      refine op_eql rfl rfl rfl ?_
      refine op_assign rfl rfl ?_
      refine endF ?_
      refine XF.thenN ?_
      refine condF rfl (fun hc => ?_) (fun hc => ?_)
      · have hc17 := of_decide_eq_true hc; clear hc
        have e2 : t = 2 := hc17
        subst e2
        refine regF ?_
        refine op_field (o' := 1) fa_25_1 rfl rfl rfl ?_
        refine op_load Tryz.isAgg3 rfl (cell_own (hS.at_ 4 rfl) rfl) rfl ?_
        refine op_field (o' := 1) fa_48_1 rfl rfl rfl ?_
        refine op_load Tryz.isAgg3 rfl (cell_own (hS.at_ 3 rfl) rfl) rfl ?_
        refine op_field (o' := 1) fa_48_1 rfl rfl rfl ?_
        refine op_load Tryz.isAgg3 rfl (cell_own (hS.at_ 2 rfl) rfl) rfl ?_
        refine op_buildSlice (us := [(0, .int .i64 _), (1, .int .i64 _)]) hS Tryz.underlying29 Tryz.sizeOf3 Tryz.zeroValue3 rfl rfl rfl (bs_29_2 _ _) rfl ?_
        clear hS; intro B8 W8 hS
        refine op_call (vs := [_, _]) hS goes_88 rfl (sum_any n (some ⟨_, 0, none⟩) 2 [f.c, g.c] _ (by simp [maxLen]) (row_own (hS.at_ 0 rfl))) rfl ?_
        rintro e W9 ⟨rfl, rfl⟩
        refine ⟨_, rfl, Below.refl _ _, fun hS' => ?_⟩
        clear hS; have hS := hS'; clear hS'
        refine op_move rfl rfl ?_
        refine op_extract rfl rfl rfl ?_
        refine op_extract rfl rfl rfl ?_
        refine op_field (o' := 1) fa_48_1 rfl rfl rfl ?_
        refine op_store (i := 1) (cs' := [_, _, _, _, _, _]) (O' := [_, _, _, _, _, _]) hS Tryz.sizeOf3 rfl rfl rfl rfl rfl rfl rfl ?_
        clear hS; intro W10 hS
        refine endF ?_
        refine XF.blkN ?_
        refine XF.thenN ?_
        refine seqF ?_
        refine regF ?_
        refine op_loadA (vs := [_, _, _, _, _, _]) Tryz.isAgg48 Tryz.sizeOf48 rfl (CellsAt.own (j := 0) (m := 6) (hS.at_ 1 rfl) rfl) rfl ?_
        refine op_storeA (i := 2) (vs := [_, _, _, _, _, _]) (cs' := [_, _, _, _, _, _]) (O' := [_, _, _, _, _, _]) hS Tryz.sizeOf48 rfl rfl rfl rfl rfl rfl rfl ?_
        clear hS; intro W11 hS
        refine endF ?_
        refine XF.thenN ?_
        refine retF ?_
        refine XF.res (resC1 (vs := [_, _, _, _, _, _]) Tryz.results70 Tryz.isAgg48 Tryz.sizeOf48 rfl (CellsAt.own (j := 0) (m := 6) (hS.at_ 2 rfl) rfl)) ?_
        exact wret_one (ext_f2 hp hx hy hf hg) hS.below
      · have hc17 := of_decide_eq_false hc; clear hc
        refine seqF ?_
        refine regF ?_
        refine op_eql rfl rfl rfl ?_
        refine op_assign rfl rfl ?_
        refine endF ?_
        refine XF.thenN ?_
        refine condF rfl (fun hc => ?_) (fun hc => ?_)
        · have hc31 := of_decide_eq_true hc; clear hc
          have e3 : t = 3 := hc31
          subst e3
          obtain ⟨m, rfl, hm⟩ := dim3 hp (.inl rfl)
          refine regF ?_
          refine op_field (o' := 1) fa_25_1 rfl rfl rfl ?_
          refine op_load Tryz.isAgg3 rfl (cell_own (hS.at_ 4 rfl) rfl) rfl ?_
          refine op_field (o' := 2) fa_48_2 rfl rfl rfl ?_
          refine op_loadA (vs := [_, _]) Tryz.isAgg44 Tryz.sizeOf44 rfl (CellsAt.own (j := 2) (m := 2) (hS.at_ 3 rfl) rfl) rfl ?_
          refine op_field (o' := 2) fa_48_2 rfl rfl rfl ?_
          refine op_loadA (vs := [_, _]) Tryz.isAgg44 Tryz.sizeOf44 rfl (CellsAt.own (j := 2) (m := 2) (hS.at_ 2 rfl) rfl) rfl ?_
          have hsz := hS.below.size
          refine op_call (vs := [_, _, _]) hS goes_89 rfl (extA_is _ _ _ _ _ _ _ _ _ _ (hx.at_.fat (by have := hx.rows64 (l := 0); omega) |>.below hS.below) (hy.at_.fat (by have := hy.rows64 (l := 0); omega) |>.below hS.below) (ht.below hS.below).c _ rfl _ rfl _ rfl _ _ hx.at_.rl hy.at_.rl) rfl ?_
          rintro e W12 ⟨a1, c1, rfl, hv, hl, hb⟩
          refine ⟨_, rfl, hb, fun hS' => ?_⟩
          clear hS; have hS := hS'; clear hS'
          refine op_move rfl rfl ?_
          refine op_extract rfl rfl rfl ?_
          refine op_extract rfl rfl rfl ?_
          refine op_field (o' := 2) fa_48_2 rfl rfl rfl ?_
          refine op_storeA (i := 0) (vs := [_, _]) (cs' := [_, _, _, _, _, _]) (O' := [_, _, _, _, _]) hS Tryz.sizeOf44 rfl rfl rfl rfl rfl rfl rfl ?_
          clear hS; intro W13 hS
          refine endF ?_
          refine XF.blkN ?_
          refine XF.thenN ?_
          refine seqF ?_
          refine regF ?_
          refine op_loadA (vs := [_, _, _, _, _, _]) Tryz.isAgg48 Tryz.sizeOf48 rfl (CellsAt.own (j := 0) (m := 6) (hS.at_ 0 rfl) rfl) rfl ?_
          refine op_storeA (i := 1) (vs := [_, _, _, _, _, _]) (cs' := [_, _, _, _, _, _]) (O' := [_, _, _, _, _]) hS Tryz.sizeOf48 rfl rfl rfl rfl rfl rfl rfl ?_
          clear hS; intro W14 hS
          refine endF ?_
          refine XF.thenN ?_
          refine retF ?_
          refine XF.res (resC1 (vs := [_, _, _, _, _, _]) Tryz.results70 Tryz.isAgg48 Tryz.sizeOf48 rfl (CellsAt.own (j := 0) (m := 6) (hS.at_ 1 rfl) rfl)) ?_
          exact wret_one (ext_f3 hx hy hf hg (hv.agree (fun ad e => (hl ad e).1) (hS.since 0 rfl)) (fun ad e => Nat.le_trans hsz (hl ad e).1)) hS.below
        · have hc31 := of_decide_eq_false hc; clear hc
          refine seqF ?_
          refine regF ?_
          refine op_eql rfl rfl rfl ?_
          refine op_assign rfl rfl ?_
          refine endF ?_
          refine XF.thenN ?_
          refine condF rfl (fun hc => ?_) (fun hc => ?_)
          · have hc44 := of_decide_eq_true hc; clear hc
            have e4 : t = 4 := hc44
            subst e4
            obtain ⟨m, rfl, hm⟩ := dim3 hp (.inr rfl)
            refine regF ?_
            refine op_field (o' := 1) fa_25_1 rfl rfl rfl ?_
            refine op_load Tryz.isAgg3 rfl (cell_own (hS.at_ 4 rfl) rfl) rfl ?_
            refine op_field (o' := 4) fa_48_3 rfl rfl rfl ?_
            refine op_load Tryz.isAgg45 rfl (cell_own (hS.at_ 3 rfl) rfl) rfl ?_
            refine op_field (o' := 4) fa_48_3 rfl rfl rfl ?_
            refine op_load Tryz.isAgg45 rfl (cell_own (hS.at_ 2 rfl) rfl) rfl ?_
            have hsz := hS.below.size
            refine op_call (vs := [_, _, _]) hS goes_90 rfl (then_is _ _ _ _ _ _ _ _ (ht.below hS.below) (by rw [hx.at_.cl]; exact hx.at_.cmax) (by rw [hy.at_.cl]; exact hy.at_.cmax) (hx.at_.cells.below hS.below) (hy.at_.cells.below hS.below) hx.at_.bits hy.at_.bits _ rfl _ _ hx.at_.cl hy.at_.cl) rfl ?_
            rintro e W15 ⟨a1, c1, rfl, hv, hl, hb⟩
            refine ⟨_, rfl, hb, fun hS' => ?_⟩
            clear hS; have hS := hS'; clear hS'
            refine op_move rfl rfl ?_
            refine op_extract rfl rfl rfl ?_
            refine op_extract rfl rfl rfl ?_
            refine op_field (o' := 4) fa_48_3 rfl rfl rfl ?_
            refine op_store (i := 0) (cs' := [_, _, _, _, _, _]) (O' := [_, _, _, _, _]) hS Tryz.sizeOf45 rfl rfl rfl rfl rfl rfl rfl ?_
            clear hS; intro W16 hS
            refine endF ?_
            refine XF.blkN ?_
            refine XF.thenN ?_
            refine seqF ?_
            refine regF ?_
            refine op_loadA (vs := [_, _, _, _, _, _]) Tryz.isAgg48 Tryz.sizeOf48 rfl (CellsAt.own (j := 0) (m := 6) (hS.at_ 0 rfl) rfl) rfl ?_
            refine op_storeA (i := 1) (vs := [_, _, _, _, _, _]) (cs' := [_, _, _, _, _, _]) (O' := [_, _, _, _, _]) hS Tryz.sizeOf48 rfl rfl rfl rfl rfl rfl rfl ?_
            clear hS; intro W17 hS
            refine endF ?_
            refine XF.thenN ?_
            refine retF ?_
            refine XF.res (resC1 (vs := [_, _, _, _, _, _]) Tryz.results70 Tryz.isAgg48 Tryz.sizeOf48 rfl (CellsAt.own (j := 0) (m := 6) (hS.at_ 1 rfl) rfl)) ?_
            exact wret_one (ext_f4 hx hy hf hg (hv.agree (fun ad e => (hl ad e).1) (hS.since 0 rfl)) (fun ad e => Nat.le_trans hsz (hl ad e).1)) hS.below
          · have hc44 := of_decide_eq_false hc; clear hc
            refine seqF ?_
            refine regF ?_
            refine op_eql rfl rfl rfl ?_
            refine op_assign rfl rfl ?_
            refine endF ?_
            refine XF.thenN ?_
            refine condF rfl (fun hc => absurd (of_decide_eq_true hc) (by exact plain_ne5 hp)) (fun hc => ?_)
            have hc := of_decide_eq_false hc
            have e1 : t = 1 := by
              have := (plainB_tag hp).2
              omega
            subst e1
            refine skipF ?_
            refine XF.blkN ?_
            refine XF.thenN ?_
            refine seqF ?_
            refine regF ?_
            refine op_loadA (vs := [_, _, _, _, _, _]) Tryz.isAgg48 Tryz.sizeOf48 rfl (CellsAt.own (j := 0) (m := 6) (hS.at_ 0 rfl) rfl) rfl ?_
            refine op_storeA (i := 1) (vs := [_, _, _, _, _, _]) (cs' := [_, _, _, _, _, _]) (O' := [_, _, _, _, _]) hS Tryz.sizeOf48 rfl rfl rfl rfl rfl rfl rfl ?_
            clear hS; intro W18 hS
            refine endF ?_
            refine XF.thenN ?_
            refine retF ?_
            refine XF.res (resC1 (vs := [_, _, _, _, _, _]) Tryz.results70 Tryz.isAgg48 Tryz.sizeOf48 rfl (CellsAt.own (j := 0) (m := 6) (hS.at_ 1 rfl) rfl)) ?_
            exact wret_one (ext_f1 hx hy hf hg) hS.below

set_option maxRecDepth 100000 in
set_option maxHeartbeats 4000000 in
theorem oneA_plain (t n : Int) (sa : Option Addr) (sc : Nat) (w : World) (hp : plainB t n 0 = true) :
    Calls Tryz.prog 68 #[.agg #[.int .i64 t, .int .i64 n, .slice sa 0 sc]] w (WRet (.one t n) (.one (oneP t n)) w) := by
  refine enterF (args := [.agg #[.int .i64 t, .int .i64 n, .slice sa 0 sc]]) Tryz.func68 rfl Tryz.ntmps68 rfl ?_
  have hS := St.start w
  refine seqF ?_
  refine regF ?_
  refine op_box (cs := [_, _, _]) hS rfl rfl rfl ?_
  clear hS; intro B1 W1 hS
  refine op_alloc (cs := [_, _, _, _, _, _]) hS Tryz.zeroValue48 rfl rfl ?_
  clear hS; intro B2 W2 hS
  refine endF ?_
  refine XF.thenN ?_
  refine seqF ?_
  refine regF ?_
  refine op_alloc (cs := [_, _, _, _, _, _]) hS Tryz.zeroValue48 rfl rfl ?_
  clear hS; intro B3 W3 hS
  refine endF ?_
  refine XF.thenN ?_
  refine seqF ?_
  refine seqF ?_
  refine regF ?_
  refine op_field (o' := 0) fa_25_0 rfl rfl rfl ?_
  refine op_load Tryz.isAgg22 rfl (cell_own (hS.at_ 2 rfl) rfl) rfl ?_
  refine endF ?_
  refine XF.thenN ?_
  refine blockF ?_
  refine seqF ?_
  refine regF ?_
  refine op_eql rfl rfl rfl ?_
  refine op_assign rfl rfl ?_
  refine endF ?_
  refine XF.thenN ?_
  refine condF rfl (fun hc => ?_) (fun hc => ?_)
  · have hc6 := of_decide_eq_true hc; clear hc
    have e3 : t = 3 := hc6
    subst e3
    obtain ⟨m, rfl, hm⟩ := dim3 hp (.inl rfl)
    refine regF ?_
    refine op_field (o' := 1) fa_25_1 rfl rfl rfl ?_
    refine op_load Tryz.isAgg3 rfl (cell_own (hS.at_ 2 rfl) rfl) rfl ?_
    have hsz := hS.below.size
    refine op_call (vs := [_]) hS goes_84 rfl ((oneA_is m _ _ (one_good hm).1 _ (one_good hm).2).mono fun _ _ h => FOwn.ret h) rfl ?_
    rintro e W4 ⟨a1, c1, rfl, hv, hl, hb⟩
    refine ⟨_, rfl, hb, fun hS' => ?_⟩
    clear hS; have hS := hS'; clear hS'
    refine op_move rfl rfl ?_
    refine op_extract rfl rfl rfl ?_
    refine op_extract rfl rfl rfl ?_
    refine op_field (o' := 2) fa_48_2 rfl rfl rfl ?_
    refine op_storeA (i := 0) (vs := [_, _]) (cs' := [_, _, _, _, _, _]) (O' := [_, _, _]) hS Tryz.sizeOf44 rfl rfl rfl rfl rfl rfl rfl ?_
    clear hS; intro W5 hS
    refine endF ?_
    refine XF.blkN ?_
    refine XF.thenN ?_
    refine seqF ?_
    refine regF ?_
    refine op_loadA (vs := [_, _, _, _, _, _]) Tryz.isAgg48 Tryz.sizeOf48 rfl (CellsAt.own (j := 0) (m := 6) (hS.at_ 0 rfl) rfl) rfl ?_
    refine op_storeA (i := 1) (vs := [_, _, _, _, _, _]) (cs' := [_, _, _, _, _, _]) (O' := [_, _, _]) hS Tryz.sizeOf48 rfl rfl rfl rfl rfl rfl rfl ?_
    clear hS; intro W6 hS
    refine endF ?_
    refine XF.thenN ?_
    refine retF ?_
    refine XF.res (resC1 (vs := [_, _, _, _, _, _]) Tryz.results68 Tryz.isAgg48 Tryz.sizeOf48 rfl (CellsAt.own (j := 0) (m := 6) (hS.at_ 1 rfl) rfl)) ?_
    exact wret_one (one_f3 hm (hv.agree (fun ad e => (hl ad e).1) (hS.since 0 rfl)) (fun ad e => Nat.le_trans hsz (hl ad e).1)) hS.below
  · have hc6 := of_decide_eq_false hc; clear hc
    refine seqF ?_
    refine regF ?_
    refine op_eql rfl rfl rfl ?_
    refine op_assign rfl rfl ?_
    refine endF ?_
    refine XF.thenN ?_
    refine condF rfl (fun hc => ?_) (fun hc => ?_)
    · have hc15 := of_decide_eq_true hc; clear hc
      have e4 : t = 4 := hc15
      subst e4
      obtain ⟨m, rfl, hm⟩ := dim3 hp (.inr rfl)
      refine regF ?_
      refine op_field (o' := 1) fa_25_1 rfl rfl rfl ?_
      refine op_load Tryz.isAgg3 rfl (cell_own (hS.at_ 2 rfl) rfl) rfl ?_
      have hsz := hS.below.size
      refine op_call (vs := [_]) hS goes_85 rfl (one4_is m hm _) rfl ?_
      rintro e W7 ⟨a1, c1, rfl, hv, hl, hb⟩
      refine ⟨_, rfl, hb, fun hS' => ?_⟩
      clear hS; have hS := hS'; clear hS'
      refine op_move rfl rfl ?_
      refine op_extract rfl rfl rfl ?_
      refine op_extract rfl rfl rfl ?_
      refine op_field (o' := 4) fa_48_3 rfl rfl rfl ?_
      refine op_store (i := 0) (cs' := [_, _, _, _, _, _]) (O' := [_, _, _]) hS Tryz.sizeOf45 rfl rfl rfl rfl rfl rfl rfl ?_
      clear hS; intro W8 hS
      refine endF ?_
      refine XF.blkN ?_
      refine XF.thenN ?_
      refine seqF ?_
      refine regF ?_
      refine op_loadA (vs := [_, _, _, _, _, _]) Tryz.isAgg48 Tryz.sizeOf48 rfl (CellsAt.own (j := 0) (m := 6) (hS.at_ 0 rfl) rfl) rfl ?_
      refine op_storeA (i := 1) (vs := [_, _, _, _, _, _]) (cs' := [_, _, _, _, _, _]) (O' := [_, _, _]) hS Tryz.sizeOf48 rfl rfl rfl rfl rfl rfl rfl ?_
      clear hS; intro W9 hS
      refine endF ?_
      refine XF.thenN ?_
      refine retF ?_
      refine XF.res (resC1 (vs := [_, _, _, _, _, _]) Tryz.results68 Tryz.isAgg48 Tryz.sizeOf48 rfl (CellsAt.own (j := 0) (m := 6) (hS.at_ 1 rfl) rfl)) ?_
      exact wret_one (one_f4 hm (hv.agree (fun ad e => (hl ad e).1) (hS.since 0 rfl)) (fun ad e => Nat.le_trans hsz (hl ad e).1)) hS.below
    · have hc15 := of_decide_eq_false hc; clear hc
      refine seqF ?_
      refine regF ?_
      refine op_eql rfl rfl rfl ?_
      refine op_assign rfl rfl ?_
      refine endF ?_
      refine XF.thenN ?_
      refine condF rfl (fun hc => absurd (of_decide_eq_true hc) (by exact plain_ne5 hp)) (fun hc => ?_)
      have hc := of_decide_eq_false hc
      refine skipF ?_
      refine XF.blkN ?_
      refine XF.thenN ?_
      refine seqF ?_
      refine regF ?_
      refine op_loadA (vs := [_, _, _, _, _, _]) Tryz.isAgg48 Tryz.sizeOf48 rfl (CellsAt.own (j := 0) (m := 6) (hS.at_ 0 rfl) rfl) rfl ?_
      refine op_storeA (i := 1) (vs := [_, _, _, _, _, _]) (cs' := [_, _, _, _, _, _]) (O' := [_, _, _]) hS Tryz.sizeOf48 rfl rfl rfl rfl rfl rfl rfl ?_
      clear hS; intro W10 hS
      refine endF ?_
      refine XF.thenN ?_
      refine retF ?_
      refine XF.res (resC1 (vs := [_, _, _, _, _, _]) Tryz.results68 Tryz.isAgg48 Tryz.sizeOf48 rfl (CellsAt.own (j := 0) (m := 6) (hS.at_ 1 rfl) rfl)) ?_
      exact wret_one (one_f1 hp hc6 hc15) hS.below
end Go.Proofs.YtfkbkekgnoanaaaGreatDoor
