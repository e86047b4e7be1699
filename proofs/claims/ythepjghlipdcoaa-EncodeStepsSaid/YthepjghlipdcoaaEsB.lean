import Derived.Orders
import Derived.Below
import Derived.Deep.RegionHeld
import Derived.WalkKit
import Derived.KernelRfl
import Derived.Laws.Rows
import Derived.Laws.AppendOwn
import Derived.Laws.Strings
import Derived.Laws.Small
import Derived.Lib.Hide
import Derived.IntWalk
import Derived.Laws.Tables
import Derived.Laws.Concat
import Derived.Laws.MakeOwn
import Derived.Lib.OwnBridge
import Derived.Laws.IdiomStrings
import Derived.Lib.ItoaLen
import Derived.Lib.UnsafeStr
import Derived.Lib.AppendIntMem
import Derived.Test.YthepjghlipdcoaaRows
import Derived.RangeFuncNested
import Derived.RangeFuncBound
import Derived.RangeFuncCalls
import Derived.RangeFuncLeaves
import Derived.OwnWalkIn
import Derived.TacticsInMore
import Derived.LoopNIn
import Derived.Shelf.Abstract
import Derived.Test.YthepjghlipdcoaaEsA
set_option maxRecDepth 100000
set_option maxHeartbeats 4000000
set_option linter.unusedVariables false
set_option linter.unusedVariables false
set_option linter.unusedSimpArgs false
set_option linter.unusedSectionVars false
set_option linter.unnecessarySimpa false
namespace Go.Proofs.Ythepjghlipdcoaa
open Go Go.RowKit
theorem gr_bs_23_2 (v0 : Int) (v1 : Int) : Instr.fill (fun i => some (i * 1, 1)) ((Array.range (2 * 1)).map ((Value.cells (.int .i64 0))[· % (Value.cells (.int .i64 0)).size]!)) [(0, .int .i64 v0), (1, .int .i64 v1)] = some (List.toArray [.int .i64 v0, .int .i64 v1]) := by kernel_rfl
theorem gr_fa_29_0 (w : World) (b o : Nat) : (Instr.fieldAt 29 (.pointer (some ⟨b, o, none⟩)) 0).run Try.prog w = .ok (.pointer (some ⟨b, o + 0, none⟩)) w := by
 simp [Instr.fieldAt, run_underlying Try.underlying29, Instr.sureAddr, go_sem, Addr.add_lit]
theorem gr_fa_29_1 (w : World) (b o : Nat) : (Instr.fieldAt 29 (.pointer (some ⟨b, o, none⟩)) 1).run Try.prog w = .ok (.pointer (some ⟨b, o + 1, none⟩)) w := by
 simp [Instr.fieldAt, run_underlying Try.underlying29, Instr.sureAddr, go_sem, Addr.add_lit]
theorem gr_fa_29_2 (w : World) (b o : Nat) : (Instr.fieldAt 29 (.pointer (some ⟨b, o, none⟩)) 2).run Try.prog w = .ok (.pointer (some ⟨b, o + 2, none⟩)) w := by
 simp [Instr.fieldAt, run_underlying Try.underlying29, Instr.sureAddr, go_sem, Addr.add_lit]
theorem gr_fa_29_3 (w : World) (b o : Nat) : (Instr.fieldAt 29 (.pointer (some ⟨b, o, none⟩)) 3).run Try.prog w = .ok (.pointer (some ⟨b, o + 3, none⟩)) w := by
 simp [Instr.fieldAt, run_underlying Try.underlying29, Instr.sureAddr, go_sem, Addr.add_lit]
theorem gr_fa_29_4 (w : World) (b o : Nat) : (Instr.fieldAt 29 (.pointer (some ⟨b, o, none⟩)) 4).run Try.prog w = .ok (.pointer (some ⟨b, o + 4, none⟩)) w := by
 simp [Instr.fieldAt, run_underlying Try.underlying29, Instr.sureAddr, go_sem, Addr.add_lit]
theorem gr_fa_29_5 (w : World) (b o : Nat) : (Instr.fieldAt 29 (.pointer (some ⟨b, o, none⟩)) 5).run Try.prog w = .ok (.pointer (some ⟨b, o + 5, none⟩)) w := by
 simp [Instr.fieldAt, run_underlying Try.underlying29, Instr.sureAddr, go_sem, Addr.add_lit]
theorem gr_fa_29_7 (w : World) (b o : Nat) : (Instr.fieldAt 29 (.pointer (some ⟨b, o, none⟩)) 7).run Try.prog w = .ok (.pointer (some ⟨b, o + 7, none⟩)) w := by
 simp [Instr.fieldAt, run_underlying Try.underlying29, Instr.sureAddr, go_sem, Addr.add_lit]
theorem gr_fa_83_0 (w : World) (b o : Nat) : (Instr.fieldAt 83 (.pointer (some ⟨b, o, none⟩)) 0).run Try.prog w = .ok (.pointer (some ⟨b, o + 0, none⟩)) w := by
 simp [Instr.fieldAt, run_underlying Try.underlying83, Instr.sureAddr, go_sem, Addr.add_lit]
theorem gr_goes_38 : goesIn Try.prog 38 = true := by kernel_rfl
theorem gr_goes_39 : goesIn Try.prog 39 = true := by kernel_rfl
theorem gr_followsM : Try.prog.follows .mixedOrders = true := by kernel_rfl
theorem isNode_is (g : GV) (n : Int) (w : World) :
  Calls Try.prog 39 #[g.val, .int .i64 n] w (fun e w' => e = .returned (.bool (gr_inQ n g.ol)) ∧ Below w.heap.size w w') := by
 refine enterF (args := [g.val, .int .i64 n]) Try.func39 rfl Try.ntmps39 rfl ?_
 have hS := St.start w
 refine seqF (regF ?_)
 refine op_box (cs := [_, _, _, _, _, _, _, _, _, _]) hS rfl rfl rfl ?_
 clear hS; intro B1 W1 hS
 refine op_assign rfl rfl ?_
 refine endF (XF.thenN ?_)
 refine seqF (regF ?_)
 refine op_move rfl rfl ?_
 refine op_geq rfl rfl rfl ?_
 refine op_move rfl rfl ?_
 refine op_cases (d := 7) rfl (fun hc => ?_) (fun hc => ?_)
 ·have hg7 := of_decide_eq_true hc; clear hc
  refine op_wantedF (d := 7) rfl rfl ?_
  refine op_move rfl rfl ?_
  refine op_wantedF (d := 7) rfl rfl ?_
  refine op_field (o' := 0) gr_fa_83_0 rfl rfl rfl ?_
  refine op_wantedF (d := 7) rfl rfl ?_
  refine op_field (o' := 5) gr_fa_29_5 rfl rfl rfl ?_
  refine op_wantedF (d := 7) rfl rfl ?_
  refine op_load Try.isAgg23 rfl (cell_own (hS.at_ 0 rfl) rfl) rfl ?_
  refine op_wantedF (d := 7) rfl rfl ?_
  refine op_len Try.underlying23 rfl rfl ?_
  refine op_wantedF (d := 7) rfl rfl ?_
  refine op_lss rfl rfl rfl ?_
  refine op_pickT rfl rfl rfl ?_
  refine op_assign rfl rfl ?_
  refine endF (XF.thenN ?_)
  refine retF ?_
  refine XF.res (res1 Try.results39 rfl) ?_
  exact ⟨gr_rbool (by simp [gr_inQ, show 0 ≤ n from hg7]), hS.below⟩
 ·have hg7 := of_decide_eq_false hc; clear hc
  refine op_notF (d := 7) rfl rfl rfl rfl ?_
  refine op_notF (d := 7) rfl rfl rfl rfl ?_
  refine op_notF (d := 7) rfl rfl rfl rfl ?_
  refine op_notF (d := 7) rfl rfl rfl rfl ?_
  refine op_notF (d := 7) rfl rfl rfl rfl ?_
  refine op_notF (d := 7) rfl rfl rfl rfl ?_
  refine op_pickF rfl rfl rfl ?_
  refine op_assign rfl rfl ?_
  refine endF (XF.thenN ?_)
  refine retF ?_
  refine XF.res (res1 Try.results39 rfl) ?_
  exact ⟨gr_rbool (by simp [gr_inQ]; omega), hS.below⟩
theorem isProc_is (g : GV) (n : Int) (w : World) :
  Calls Try.prog 38 #[g.val, .int .i64 n] w (fun e w' => e = .returned (.bool (gr_inQ n g.pl)) ∧ Below w.heap.size w w') := by
 refine enterF (args := [g.val, .int .i64 n]) Try.func38 rfl Try.ntmps38 rfl ?_
 have hS := St.start w
 refine seqF (regF ?_)
 refine op_box (cs := [_, _, _, _, _, _, _, _, _, _]) hS rfl rfl rfl ?_
 clear hS; intro B1 W1 hS
 refine op_assign rfl rfl ?_
 refine endF (XF.thenN ?_)
 refine seqF (regF ?_)
 refine op_move rfl rfl ?_
 refine op_geq rfl rfl rfl ?_
 refine op_move rfl rfl ?_
 refine op_cases (d := 7) rfl (fun hc => ?_) (fun hc => ?_)
 ·have hg7 := of_decide_eq_true hc; clear hc
  refine op_wantedF (d := 7) rfl rfl ?_
  refine op_move rfl rfl ?_
  refine op_wantedF (d := 7) rfl rfl ?_
  refine op_field (o' := 0) gr_fa_83_0 rfl rfl rfl ?_
  refine op_wantedF (d := 7) rfl rfl ?_
  refine op_field (o' := 1) gr_fa_29_1 rfl rfl rfl ?_
  refine op_wantedF (d := 7) rfl rfl ?_
  refine op_load Try.isAgg22 rfl (cell_own (hS.at_ 0 rfl) rfl) rfl ?_
  refine op_wantedF (d := 7) rfl rfl ?_
  refine op_len Try.underlying22 rfl rfl ?_
  refine op_wantedF (d := 7) rfl rfl ?_
  refine op_lss rfl rfl rfl ?_
  refine op_pickT rfl rfl rfl ?_
  refine op_assign rfl rfl ?_
  refine endF (XF.thenN ?_)
  refine retF ?_
  refine XF.res (res1 Try.results38 rfl) ?_
  exact ⟨gr_rbool (by simp [gr_inQ, show 0 ≤ n from hg7]), hS.below⟩
 ·have hg7 := of_decide_eq_false hc; clear hc
  refine op_notF (d := 7) rfl rfl rfl rfl ?_
  refine op_notF (d := 7) rfl rfl rfl rfl ?_
  refine op_notF (d := 7) rfl rfl rfl rfl ?_
  refine op_notF (d := 7) rfl rfl rfl rfl ?_
  refine op_notF (d := 7) rfl rfl rfl rfl ?_
  refine op_notF (d := 7) rfl rfl rfl rfl ?_
  refine op_pickF rfl rfl rfl ?_
  refine op_assign rfl rfl ?_
  refine endF (XF.thenN ?_)
  refine retF ?_
  refine XF.res (res1 Try.results38 rfl) ?_
  exact ⟨gr_rbool (by simp [gr_inQ]; omega), hS.below⟩
theorem isVar_is (g : GV) (n : Int) (w : World) :
  Calls Try.prog 41 #[g.val, .int .i64 n] w (fun e w' => e = .returned (.bool (gr_inQ n g.vl)) ∧ Below w.heap.size w w') := by
 refine enterF (args := [g.val, .int .i64 n]) Try.func41 rfl Try.ntmps41 rfl ?_
 have hS := St.start w
 refine seqF (regF ?_)
 refine op_box (cs := [_, _, _, _, _, _, _, _, _, _]) hS rfl rfl rfl ?_
 clear hS; intro B1 W1 hS
 refine op_assign rfl rfl ?_
 refine endF (XF.thenN ?_)
 refine seqF (regF ?_)
 refine op_move rfl rfl ?_
 refine op_geq rfl rfl rfl ?_
 refine op_move rfl rfl ?_
 refine op_cases (d := 7) rfl (fun hc => ?_) (fun hc => ?_)
 ·have hg7 := of_decide_eq_true hc; clear hc
  refine op_wantedF (d := 7) rfl rfl ?_
  refine op_move rfl rfl ?_
  refine op_wantedF (d := 7) rfl rfl ?_
  refine op_field (o' := 0) gr_fa_83_0 rfl rfl rfl ?_
  refine op_wantedF (d := 7) rfl rfl ?_
  refine op_field (o' := 0) gr_fa_29_0 rfl rfl rfl ?_
  refine op_wantedF (d := 7) rfl rfl ?_
  refine op_load Try.isAgg22 rfl (cell_own (hS.at_ 0 rfl) rfl) rfl ?_
  refine op_wantedF (d := 7) rfl rfl ?_
  refine op_len Try.underlying22 rfl rfl ?_
  refine op_wantedF (d := 7) rfl rfl ?_
  refine op_lss rfl rfl rfl ?_
  refine op_pickT rfl rfl rfl ?_
  refine op_assign rfl rfl ?_
  refine endF (XF.thenN ?_)
  refine retF ?_
  refine XF.res (res1 Try.results41 rfl) ?_
  exact ⟨gr_rbool (by simp [gr_inQ, show 0 ≤ n from hg7]), hS.below⟩
 ·have hg7 := of_decide_eq_false hc; clear hc
  refine op_notF (d := 7) rfl rfl rfl rfl ?_
  refine op_notF (d := 7) rfl rfl rfl rfl ?_
  refine op_notF (d := 7) rfl rfl rfl rfl ?_
  refine op_notF (d := 7) rfl rfl rfl rfl ?_
  refine op_notF (d := 7) rfl rfl rfl rfl ?_
  refine op_notF (d := 7) rfl rfl rfl rfl ?_
  refine op_pickF rfl rfl rfl ?_
  refine op_assign rfl rfl ?_
  refine endF (XF.thenN ?_)
  refine retF ?_
  refine XF.res (res1 Try.results41 rfl) ?_
  exact ⟨gr_rbool (by simp [gr_inQ]; omega), hS.below⟩
theorem sized_c (va : Option Addr) (vl : Nat) (vc : Nat) (pa : Option Addr) (pl : Nat) (pc : Nat) (ea : Option Addr) (el : Nat) (ec : Nat) (es : List Int) (xa : Option Addr) (xl : Nat) (xc : Nat) (xs : List Int) (mn : Int) (oa : Option Addr) (ol : Nat) (oc : Nat) (os : List Int) (sa : Option Addr) (sl : Nat) (sc : Nat) (ss : List TV) (ta : Option Addr) (tl : Nat) (tc : Nat) (ts : List UV) (na : Option Addr) (nl : Nat) (nc : Nat) (ns : List NV) (ka : Option Addr) (kl : Nat) (kc : Nat) (ks : List KV) (w : World) (he : RowI w ea es) (hel : es.length = el) (hx : RowI w xa xs) (hxl : xs.length = xl) (ho : RowI w oa os) (hol : os.length = ol) (hs : RowL TV.sev 7 w sa ss) (hsl : ss.length = sl) (ht : RowL UV.four 4 w ta ts) (htl : ts.length = tl) (hn : RowL NV.two 2 w na ns) (hnl : ns.length = nl) (hk : RowL KV.two 2 w ka ks) (hkl : ks.length = kl) (b1 : vl ≤ 5000) (b2 : pl ≤ 5000) (b3 : el ≤ 5000) (b4 : xl ≤ 5000) (b5 : ol ≤ 5000) (b6 : sl ≤ 5000) (b7 : tl ≤ 5000) (b8 : nl ≤ 5000) (b9 : kl ≤ 5000) :
  Calls Try.prog 24 #[.agg #[.slice va vl vc, .slice pa pl pc, .slice ea el ec, .slice xa xl xc, .int .i64 mn, .slice oa ol oc, .slice sa sl sc, .slice ta tl tc, .slice na nl nc, .slice ka kl kc]] w (fun e w' => e = .returned (.bool (sizedB ⟨va, vl, vc, pa, pl, pc, ea, el, ec, es, xa, xl, xc, xs, mn, oa, ol, oc, os, sa, sl, sc, ss, ta, tl, tc, ts, na, nl, nc, ns, ka, kl, kc, ks⟩)) ∧ Below w.heap.size w w') := by
 refine enterF (args := [.agg #[.slice va vl vc, .slice pa pl pc, .slice ea el ec, .slice xa xl xc, .int .i64 mn, .slice oa ol oc, .slice sa sl sc, .slice ta tl tc, .slice na nl nc, .slice ka kl kc]]) Try.func24 rfl Try.ntmps24 rfl ?_
 have hS := St.start w
 refine seqF (regF ?_)
 refine op_box (cs := [_, _, _, _, _, _, _, _, _, _]) hS rfl rfl rfl ?_
 clear hS; intro B1 W1 hS
 refine op_assign rfl rfl ?_
 refine endF (XF.thenN ?_)
 refine seqF (regF ?_)
 refine op_field (o' := 0) gr_fa_83_0 rfl rfl rfl ?_
 refine op_field (o' := 1) gr_fa_29_1 rfl rfl rfl ?_
 refine op_load Try.isAgg22 rfl (cell_own (hS.at_ 0 rfl) rfl) rfl ?_
 refine op_len Try.underlying22 rfl rfl ?_
 refine op_assign rfl rfl ?_
 refine endF (XF.thenN ?_)
 refine seqF ?_
 refine seqF (regF ?_)
 refine op_field (o' := 0) gr_fa_83_0 rfl rfl rfl ?_
 refine op_field (o' := 0) gr_fa_29_0 rfl rfl rfl ?_
 refine op_load Try.isAgg22 rfl (cell_own (hS.at_ 0 rfl) rfl) rfl ?_
 refine op_len Try.underlying22 rfl rfl ?_
 refine op_gtr rfl rfl rfl ?_
 refine op_move rfl rfl ?_
 refine op_cases (d := 18) rfl (fun hc => ?_) (fun hc => ?_)
 ·have hg18 := of_decide_eq_true hc; clear hc
  refine op_notF (d := 18) rfl rfl rfl rfl ?_
  refine op_notF (d := 18) rfl rfl rfl rfl ?_
  refine op_pickT rfl rfl rfl ?_
  refine op_move rfl rfl ?_
  refine op_notF (d := 22) rfl rfl rfl rfl ?_
  refine op_notF (d := 22) rfl rfl rfl rfl ?_
  refine op_pickT rfl rfl rfl ?_
  refine op_move rfl rfl ?_
  refine op_notF (d := 26) rfl rfl rfl rfl ?_
  refine op_notF (d := 26) rfl rfl rfl rfl ?_
  refine op_notF (d := 26) rfl rfl rfl rfl ?_
  refine op_notF (d := 26) rfl rfl rfl rfl ?_
  refine op_notF (d := 26) rfl rfl rfl rfl ?_
  refine op_notF (d := 26) rfl rfl rfl rfl ?_
  refine op_pickT rfl rfl rfl ?_
  refine op_move rfl rfl ?_
  refine op_notF (d := 34) rfl rfl rfl rfl ?_
  refine op_notF (d := 34) rfl rfl rfl rfl ?_
  refine op_notF (d := 34) rfl rfl rfl rfl ?_
  refine op_notF (d := 34) rfl rfl rfl rfl ?_
  refine op_notF (d := 34) rfl rfl rfl rfl ?_
  refine op_notF (d := 34) rfl rfl rfl rfl ?_
  refine op_pickT rfl rfl rfl ?_
  refine op_move rfl rfl ?_
  refine op_notF (d := 42) rfl rfl rfl rfl ?_
  refine op_notF (d := 42) rfl rfl rfl rfl ?_
  refine op_notF (d := 42) rfl rfl rfl rfl ?_
  refine op_notF (d := 42) rfl rfl rfl rfl ?_
  refine op_notF (d := 42) rfl rfl rfl rfl ?_
  refine op_pickT rfl rfl rfl ?_
  refine op_move rfl rfl ?_
  refine op_notF (d := 49) rfl rfl rfl rfl ?_
  refine op_notF (d := 49) rfl rfl rfl rfl ?_
  refine op_notF (d := 49) rfl rfl rfl rfl ?_
  refine op_notF (d := 49) rfl rfl rfl rfl ?_
  refine op_notF (d := 49) rfl rfl rfl rfl ?_
  refine op_pickT rfl rfl rfl ?_
  refine op_move rfl rfl ?_
  refine op_notF (d := 56) rfl rfl rfl rfl ?_
  refine op_notF (d := 56) rfl rfl rfl rfl ?_
  refine op_notF (d := 56) rfl rfl rfl rfl ?_
  refine op_notF (d := 56) rfl rfl rfl rfl ?_
  refine op_notF (d := 56) rfl rfl rfl rfl ?_
  refine op_notF (d := 56) rfl rfl rfl rfl ?_
  refine op_pickT rfl rfl rfl ?_
  refine endF (XF.thenN ?_)
  refine condT rfl ?_
  refine seqF (regF ?_)
  refine op_assign rfl rfl ?_
  refine endF (XF.thenN ?_)
  refine retF ?_
  refine XF.thenR ?_
  refine XF.res (res1 Try.results24 rfl) ?_
  exact ⟨gr_rbool (by unfold sizedB; dsimp only; rw [if_pos (by omega)]), hS.below⟩
 ·have hg18 := of_decide_eq_false hc; clear hc
  refine op_wantedF (d := 18) rfl rfl ?_
  refine op_move rfl rfl ?_
  refine op_wantedF (d := 18) rfl rfl ?_
  refine op_lss rfl rfl rfl ?_
  refine op_pickF rfl rfl rfl ?_
  refine op_move rfl rfl ?_
  refine op_cases (d := 22) rfl (fun hc => ?_) (fun hc => ?_)
  ·have hg22 := of_decide_eq_true hc; clear hc
   refine op_notF (d := 22) rfl rfl rfl rfl ?_
   refine op_notF (d := 22) rfl rfl rfl rfl ?_
   refine op_pickT rfl rfl rfl ?_
   refine op_move rfl rfl ?_
   refine op_notF (d := 26) rfl rfl rfl rfl ?_
   refine op_notF (d := 26) rfl rfl rfl rfl ?_
   refine op_notF (d := 26) rfl rfl rfl rfl ?_
   refine op_notF (d := 26) rfl rfl rfl rfl ?_
   refine op_notF (d := 26) rfl rfl rfl rfl ?_
   refine op_notF (d := 26) rfl rfl rfl rfl ?_
   refine op_pickT rfl rfl rfl ?_
   refine op_move rfl rfl ?_
   refine op_notF (d := 34) rfl rfl rfl rfl ?_
   refine op_notF (d := 34) rfl rfl rfl rfl ?_
   refine op_notF (d := 34) rfl rfl rfl rfl ?_
   refine op_notF (d := 34) rfl rfl rfl rfl ?_
   refine op_notF (d := 34) rfl rfl rfl rfl ?_
   refine op_notF (d := 34) rfl rfl rfl rfl ?_
   refine op_pickT rfl rfl rfl ?_
   refine op_move rfl rfl ?_
   refine op_notF (d := 42) rfl rfl rfl rfl ?_
   refine op_notF (d := 42) rfl rfl rfl rfl ?_
   refine op_notF (d := 42) rfl rfl rfl rfl ?_
   refine op_notF (d := 42) rfl rfl rfl rfl ?_
   refine op_notF (d := 42) rfl rfl rfl rfl ?_
   refine op_pickT rfl rfl rfl ?_
   refine op_move rfl rfl ?_
   refine op_notF (d := 49) rfl rfl rfl rfl ?_
   refine op_notF (d := 49) rfl rfl rfl rfl ?_
   refine op_notF (d := 49) rfl rfl rfl rfl ?_
   refine op_notF (d := 49) rfl rfl rfl rfl ?_
   refine op_notF (d := 49) rfl rfl rfl rfl ?_
   refine op_pickT rfl rfl rfl ?_
   refine op_move rfl rfl ?_
   refine op_notF (d := 56) rfl rfl rfl rfl ?_
   refine op_notF (d := 56) rfl rfl rfl rfl ?_
   refine op_notF (d := 56) rfl rfl rfl rfl ?_
   refine op_notF (d := 56) rfl rfl rfl rfl ?_
   refine op_notF (d := 56) rfl rfl rfl rfl ?_
   refine op_notF (d := 56) rfl rfl rfl rfl ?_
   refine op_pickT rfl rfl rfl ?_
   refine endF (XF.thenN ?_)
   refine condT rfl ?_
   refine seqF (regF ?_)
   refine op_assign rfl rfl ?_
   refine endF (XF.thenN ?_)
   refine retF ?_
   refine XF.thenR ?_
   refine XF.res (res1 Try.results24 rfl) ?_
   exact ⟨gr_rbool (by unfold sizedB; dsimp only; rw [if_neg (by omega), if_pos (by omega)]), hS.below⟩
  ·have hg22 := of_decide_eq_false hc; clear hc
   refine op_wantedF (d := 22) rfl rfl ?_
   refine op_move rfl rfl ?_
   refine op_wantedF (d := 22) rfl rfl ?_
   refine op_gtr rfl rfl rfl ?_
   refine op_pickF rfl rfl rfl ?_
   refine op_move rfl rfl ?_
   refine op_cases (d := 26) rfl (fun hc => ?_) (fun hc => ?_)
   ·have hg26 := of_decide_eq_true hc; clear hc
    refine op_notF (d := 26) rfl rfl rfl rfl ?_
    refine op_notF (d := 26) rfl rfl rfl rfl ?_
    refine op_notF (d := 26) rfl rfl rfl rfl ?_
    refine op_notF (d := 26) rfl rfl rfl rfl ?_
    refine op_notF (d := 26) rfl rfl rfl rfl ?_
    refine op_notF (d := 26) rfl rfl rfl rfl ?_
    refine op_pickT rfl rfl rfl ?_
    refine op_move rfl rfl ?_
    refine op_notF (d := 34) rfl rfl rfl rfl ?_
    refine op_notF (d := 34) rfl rfl rfl rfl ?_
    refine op_notF (d := 34) rfl rfl rfl rfl ?_
    refine op_notF (d := 34) rfl rfl rfl rfl ?_
    refine op_notF (d := 34) rfl rfl rfl rfl ?_
    refine op_notF (d := 34) rfl rfl rfl rfl ?_
    refine op_pickT rfl rfl rfl ?_
    refine op_move rfl rfl ?_
    refine op_notF (d := 42) rfl rfl rfl rfl ?_
    refine op_notF (d := 42) rfl rfl rfl rfl ?_
    refine op_notF (d := 42) rfl rfl rfl rfl ?_
    refine op_notF (d := 42) rfl rfl rfl rfl ?_
    refine op_notF (d := 42) rfl rfl rfl rfl ?_
    refine op_pickT rfl rfl rfl ?_
    refine op_move rfl rfl ?_
    refine op_notF (d := 49) rfl rfl rfl rfl ?_
    refine op_notF (d := 49) rfl rfl rfl rfl ?_
    refine op_notF (d := 49) rfl rfl rfl rfl ?_
    refine op_notF (d := 49) rfl rfl rfl rfl ?_
    refine op_notF (d := 49) rfl rfl rfl rfl ?_
    refine op_pickT rfl rfl rfl ?_
    refine op_move rfl rfl ?_
    refine op_notF (d := 56) rfl rfl rfl rfl ?_
    refine op_notF (d := 56) rfl rfl rfl rfl ?_
    refine op_notF (d := 56) rfl rfl rfl rfl ?_
    refine op_notF (d := 56) rfl rfl rfl rfl ?_
    refine op_notF (d := 56) rfl rfl rfl rfl ?_
    refine op_notF (d := 56) rfl rfl rfl rfl ?_
    refine op_pickT rfl rfl rfl ?_
    refine endF (XF.thenN ?_)
    refine condT rfl ?_
    refine seqF (regF ?_)
    refine op_assign rfl rfl ?_
    refine endF (XF.thenN ?_)
    refine retF ?_
    refine XF.thenR ?_
    refine XF.res (res1 Try.results24 rfl) ?_
    exact ⟨gr_rbool (by unfold sizedB; dsimp only; rw [if_neg (by omega), if_neg (by omega), if_pos (by omega)]), hS.below⟩
   ·have hg26 := of_decide_eq_false hc; clear hc
    refine op_wantedF (d := 26) rfl rfl ?_
    refine op_field (o' := 0) gr_fa_83_0 rfl rfl rfl ?_
    refine op_wantedF (d := 26) rfl rfl ?_
    refine op_field (o' := 2) gr_fa_29_2 rfl rfl rfl ?_
    refine op_wantedF (d := 26) rfl rfl ?_
    refine op_load Try.isAgg23 rfl (cell_own (hS.at_ 0 rfl) rfl) rfl ?_
    refine op_wantedF (d := 26) rfl rfl ?_
    refine op_len Try.underlying23 rfl rfl ?_
    refine op_wantedF (d := 26) rfl rfl ?_
    refine op_move rfl rfl ?_
    refine op_wantedF (d := 26) rfl rfl ?_
    refine op_neq rfl rfl rfl ?_
    refine op_pickF rfl rfl rfl ?_
    refine op_move rfl rfl ?_
    refine op_cases (d := 34) rfl (fun hc => ?_) (fun hc => ?_)
    ·have hg34 := of_decide_eq_true hc; clear hc
     refine op_notF (d := 34) rfl rfl rfl rfl ?_
     refine op_notF (d := 34) rfl rfl rfl rfl ?_
     refine op_notF (d := 34) rfl rfl rfl rfl ?_
     refine op_notF (d := 34) rfl rfl rfl rfl ?_
     refine op_notF (d := 34) rfl rfl rfl rfl ?_
     refine op_notF (d := 34) rfl rfl rfl rfl ?_
     refine op_pickT rfl rfl rfl ?_
     refine op_move rfl rfl ?_
     refine op_notF (d := 42) rfl rfl rfl rfl ?_
     refine op_notF (d := 42) rfl rfl rfl rfl ?_
     refine op_notF (d := 42) rfl rfl rfl rfl ?_
     refine op_notF (d := 42) rfl rfl rfl rfl ?_
     refine op_notF (d := 42) rfl rfl rfl rfl ?_
     refine op_pickT rfl rfl rfl ?_
     refine op_move rfl rfl ?_
     refine op_notF (d := 49) rfl rfl rfl rfl ?_
     refine op_notF (d := 49) rfl rfl rfl rfl ?_
     refine op_notF (d := 49) rfl rfl rfl rfl ?_
     refine op_notF (d := 49) rfl rfl rfl rfl ?_
     refine op_notF (d := 49) rfl rfl rfl rfl ?_
     refine op_pickT rfl rfl rfl ?_
     refine op_move rfl rfl ?_
     refine op_notF (d := 56) rfl rfl rfl rfl ?_
     refine op_notF (d := 56) rfl rfl rfl rfl ?_
     refine op_notF (d := 56) rfl rfl rfl rfl ?_
     refine op_notF (d := 56) rfl rfl rfl rfl ?_
     refine op_notF (d := 56) rfl rfl rfl rfl ?_
     refine op_notF (d := 56) rfl rfl rfl rfl ?_
     refine op_pickT rfl rfl rfl ?_
     refine endF (XF.thenN ?_)
     refine condT rfl ?_
     refine seqF (regF ?_)
     refine op_assign rfl rfl ?_
     refine endF (XF.thenN ?_)
     refine retF ?_
     refine XF.thenR ?_
     refine XF.res (res1 Try.results24 rfl) ?_
     exact ⟨gr_rbool (by unfold sizedB; dsimp only; rw [if_neg (by omega), if_neg (by omega), if_neg (by omega), if_pos (by omega)]), hS.below⟩
    ·have hg34 := of_decide_eq_false hc; clear hc
     refine op_wantedF (d := 34) rfl rfl ?_
     refine op_field (o' := 0) gr_fa_83_0 rfl rfl rfl ?_
     refine op_wantedF (d := 34) rfl rfl ?_
     refine op_field (o' := 3) gr_fa_29_3 rfl rfl rfl ?_
     refine op_wantedF (d := 34) rfl rfl ?_
     refine op_load Try.isAgg23 rfl (cell_own (hS.at_ 0 rfl) rfl) rfl ?_
     refine op_wantedF (d := 34) rfl rfl ?_
     refine op_len Try.underlying23 rfl rfl ?_
     refine op_wantedF (d := 34) rfl rfl ?_
     refine op_move rfl rfl ?_
     refine op_wantedF (d := 34) rfl rfl ?_
     refine op_neq rfl rfl rfl ?_
     refine op_pickF rfl rfl rfl ?_
     refine op_move rfl rfl ?_
     refine op_cases (d := 42) rfl (fun hc => ?_) (fun hc => ?_)
     ·have hg42 := of_decide_eq_true hc; clear hc
      refine op_notF (d := 42) rfl rfl rfl rfl ?_
      refine op_notF (d := 42) rfl rfl rfl rfl ?_
      refine op_notF (d := 42) rfl rfl rfl rfl ?_
      refine op_notF (d := 42) rfl rfl rfl rfl ?_
      refine op_notF (d := 42) rfl rfl rfl rfl ?_
      refine op_pickT rfl rfl rfl ?_
      refine op_move rfl rfl ?_
      refine op_notF (d := 49) rfl rfl rfl rfl ?_
      refine op_notF (d := 49) rfl rfl rfl rfl ?_
      refine op_notF (d := 49) rfl rfl rfl rfl ?_
      refine op_notF (d := 49) rfl rfl rfl rfl ?_
      refine op_notF (d := 49) rfl rfl rfl rfl ?_
      refine op_pickT rfl rfl rfl ?_
      refine op_move rfl rfl ?_
      refine op_notF (d := 56) rfl rfl rfl rfl ?_
      refine op_notF (d := 56) rfl rfl rfl rfl ?_
      refine op_notF (d := 56) rfl rfl rfl rfl ?_
      refine op_notF (d := 56) rfl rfl rfl rfl ?_
      refine op_notF (d := 56) rfl rfl rfl rfl ?_
      refine op_notF (d := 56) rfl rfl rfl rfl ?_
      refine op_pickT rfl rfl rfl ?_
      refine endF (XF.thenN ?_)
      refine condT rfl ?_
      refine seqF (regF ?_)
      refine op_assign rfl rfl ?_
      refine endF (XF.thenN ?_)
      refine retF ?_
      refine XF.thenR ?_
      refine XF.res (res1 Try.results24 rfl) ?_
      exact ⟨gr_rbool (by unfold sizedB; dsimp only; rw [if_neg (by omega), if_neg (by omega), if_neg (by omega), if_neg (by omega), if_pos (by omega)]), hS.below⟩
     ·have hg42 := of_decide_eq_false hc; clear hc
      refine op_wantedF (d := 42) rfl rfl ?_
      refine op_field (o' := 0) gr_fa_83_0 rfl rfl rfl ?_
      refine op_wantedF (d := 42) rfl rfl ?_
      refine op_field (o' := 5) gr_fa_29_5 rfl rfl rfl ?_
      refine op_wantedF (d := 42) rfl rfl ?_
      refine op_load Try.isAgg23 rfl (cell_own (hS.at_ 0 rfl) rfl) rfl ?_
      refine op_wantedF (d := 42) rfl rfl ?_
      refine op_len Try.underlying23 rfl rfl ?_
      refine op_wantedF (d := 42) rfl rfl ?_
      refine op_gtr rfl rfl rfl ?_
      refine op_pickF rfl rfl rfl ?_
      refine op_move rfl rfl ?_
      refine op_cases (d := 49) rfl (fun hc => ?_) (fun hc => ?_)
      ·have hg49 := of_decide_eq_true hc; clear hc
       refine op_notF (d := 49) rfl rfl rfl rfl ?_
       refine op_notF (d := 49) rfl rfl rfl rfl ?_
       refine op_notF (d := 49) rfl rfl rfl rfl ?_
       refine op_notF (d := 49) rfl rfl rfl rfl ?_
       refine op_notF (d := 49) rfl rfl rfl rfl ?_
       refine op_pickT rfl rfl rfl ?_
       refine op_move rfl rfl ?_
       refine op_notF (d := 56) rfl rfl rfl rfl ?_
       refine op_notF (d := 56) rfl rfl rfl rfl ?_
       refine op_notF (d := 56) rfl rfl rfl rfl ?_
       refine op_notF (d := 56) rfl rfl rfl rfl ?_
       refine op_notF (d := 56) rfl rfl rfl rfl ?_
       refine op_notF (d := 56) rfl rfl rfl rfl ?_
       refine op_pickT rfl rfl rfl ?_
       refine endF (XF.thenN ?_)
       refine condT rfl ?_
       refine seqF (regF ?_)
       refine op_assign rfl rfl ?_
       refine endF (XF.thenN ?_)
       refine retF ?_
       refine XF.thenR ?_
       refine XF.res (res1 Try.results24 rfl) ?_
       exact ⟨gr_rbool (by unfold sizedB; dsimp only; rw [if_neg (by omega), if_neg (by omega), if_neg (by omega), if_neg (by omega), if_neg (by omega), if_pos (by omega)]), hS.below⟩
      ·have hg49 := of_decide_eq_false hc; clear hc
       refine op_wantedF (d := 49) rfl rfl ?_
       refine op_field (o' := 0) gr_fa_83_0 rfl rfl rfl ?_
       refine op_wantedF (d := 49) rfl rfl ?_
       refine op_field (o' := 7) gr_fa_29_7 rfl rfl rfl ?_
       refine op_wantedF (d := 49) rfl rfl ?_
       refine op_load Try.isAgg25 rfl (cell_own (hS.at_ 0 rfl) rfl) rfl ?_
       refine op_wantedF (d := 49) rfl rfl ?_
       refine op_len Try.underlying25 rfl rfl ?_
       refine op_wantedF (d := 49) rfl rfl ?_
       refine op_gtr rfl rfl rfl ?_
       refine op_pickF rfl rfl rfl ?_
       refine op_move rfl rfl ?_
       refine op_cases (d := 56) rfl (fun hc => ?_) (fun hc => ?_)
       ·have hg56 := of_decide_eq_true hc; clear hc
        refine op_notF (d := 56) rfl rfl rfl rfl ?_
        refine op_notF (d := 56) rfl rfl rfl rfl ?_
        refine op_notF (d := 56) rfl rfl rfl rfl ?_
        refine op_notF (d := 56) rfl rfl rfl rfl ?_
        refine op_notF (d := 56) rfl rfl rfl rfl ?_
        refine op_notF (d := 56) rfl rfl rfl rfl ?_
        refine op_pickT rfl rfl rfl ?_
        refine endF (XF.thenN ?_)
        refine condT rfl ?_
        refine seqF (regF ?_)
        refine op_assign rfl rfl ?_
        refine endF (XF.thenN ?_)
        refine retF ?_
        refine XF.thenR ?_
        refine XF.res (res1 Try.results24 rfl) ?_
        exact ⟨gr_rbool (by unfold sizedB; dsimp only; rw [if_neg (by omega), if_neg (by omega), if_neg (by omega), if_neg (by omega), if_neg (by omega), if_neg (by omega), if_pos (by omega)]), hS.below⟩
       ·have hg56 := of_decide_eq_false hc; clear hc
        refine op_wantedF (d := 56) rfl rfl ?_
        refine op_loadA (vs := [_, _, _, _, _, _, _, _, _, _]) Try.isAgg83 Try.sizeOf83 rfl (CellsAt.own (j := 0) (m := 10) (hS.at_ 0 rfl) rfl) rfl ?_
        refine op_wantedF (d := 56) rfl rfl ?_
        refine op_field (o' := 0) gr_fa_83_0 rfl rfl rfl ?_
        refine op_wantedF (d := 56) rfl rfl ?_
        refine op_field (o' := 4) gr_fa_29_4 rfl rfl rfl ?_
        refine op_wantedF (d := 56) rfl rfl ?_
        refine op_load Try.isAgg3 rfl (cell_own (hS.at_ 0 rfl) rfl) rfl ?_
        refine op_wantedF (d := 56) rfl rfl ?_
        refine op_call (vs := [_, _]) hS gr_goes_38 rfl (isProc_is ⟨_, vl, vc, _, pl, pc, _, el, ec, es, _, xl, xc, xs, mn, _, ol, oc, os, _, sl, sc, ss, _, tl, tc, ts, _, nl, nc, ns, _, kl, kc, ks⟩ mn _) rfl ?_
        rintro e W2 ⟨rfl, hb⟩
        refine ⟨_, rfl, hb, fun hS' => ?_⟩
        clear hS; have hS := hS'; clear hS' hb
        refine op_wantedF (d := 56) rfl rfl ?_
        refine op_not rfl rfl ?_
        refine op_pickF rfl rfl rfl ?_
        refine endF (XF.thenN ?_)
        refine condF rfl (fun hc => ?_) (fun hc => ?_)
        ·have hc63 := hc; clear hc
         skip
         refine seqF (regF ?_)
         refine op_assign rfl rfl ?_
         refine endF (XF.thenN ?_)
         refine retF ?_
         refine XF.thenR ?_
         refine XF.res (res1 Try.results24 rfl) ?_
         exact ⟨gr_rbool (by unfold sizedB; dsimp only; rw [if_neg (by omega), if_neg (by omega), if_neg (by omega), if_neg (by omega), if_neg (by omega), if_neg (by omega), if_neg (by omega), if_pos (by simpa using hc63)]), hS.below⟩
        ·have hc63 := hc; clear hc
         have hmn : gr_inQ mn pl = true := by simpa using hc63
         refine skipF ?_
         refine XF.thenN ?_
         refine seqF ?_
         refine seqF (regF ?_)
         refine op_field (o' := 0) gr_fa_83_0 rfl rfl rfl ?_
         refine op_field (o' := 5) gr_fa_29_5 rfl rfl rfl ?_
         refine op_load Try.isAgg23 rfl (cell_own (hS.at_ 0 rfl) rfl) rfl ?_
         refine op_len Try.underlying23 rfl rfl ?_
         refine op_move rfl rfl ?_
         refine endF (XF.thenN ?_)
         refine blockF ?_
         refine loopF (fun m l W => ∃ i : Nat, i ≤ ol ∧ m = ol - i ∧ l = [(1, .pointer (some ⟨B1, 0, none⟩)), (3, .int .i64 (pl : Int)), (66, .slice oa ol oc), (67, .int .i64 (ol : Int)), (68, .int .i64 (i : Int))] ∧ (os.take i).all (fun y => gr_inQ y pl) = true ∧ St w [(B1, [.slice va vl vc, .slice pa pl pc, .slice ea el ec, .slice xa xl xc, .int .i64 mn, .slice oa ol oc, .slice sa sl sc, .slice ta tl tc, .slice na nl nc, .slice ka kl kc], 83)] [] [] W) (ol - 0) ([(1, _), (3, _), (66, _), (67, _), (68, _)]) ⟨rfl, rfl, rfl, rfl, rfl, trivial⟩ (⟨0, Nat.zero_le _, rfl, rfl, rfl, hS.clear⟩) ?_
         clear hS
         rintro m l W ⟨i, hi, rfl, rfl, hall, hS⟩
         refine seqF (regF ?_)
         refine op_lss rfl rfl rfl ?_
         refine endF (XF.thenN ?_)
         refine seqF ?_
         refine condF rfl (fun hc => ?_) (fun hc => ?_)
         ·have hc69 := of_decide_eq_true hc; clear hc
          have hk1 : i < ol := by omega
          obtain ⟨b, off, y, rfl, hy, hyc⟩ := ho.get (i := i) (by omega)
          have k1 := (CellsAt.agree hS.agree (Nat.zero_le _) hyc).1
          refine skipF ?_
          refine XF.thenN ?_
          refine seqF ?_
          refine blockF ?_
          refine seqF (regF ?_)
          refine op_indexA  Try.underlying23 Try.sizeOf3 rfl rfl rfl (by omega) rfl rfl ?_
          refine op_load Try.isAgg3 rfl (k1) rfl ?_
          refine op_assign rfl rfl ?_
          refine endF (XF.thenN ?_)
          refine seqF (regF ?_)
          refine op_loadA (vs := [_, _, _, _, _, _, _, _, _, _]) Try.isAgg83 Try.sizeOf83 rfl (CellsAt.own (j := 0) (m := 10) (hS.at_ 0 rfl) rfl) rfl ?_
          refine op_move rfl rfl ?_
          refine op_call (vs := [_, _]) hS gr_goes_38 rfl (isProc_is ⟨_, vl, vc, _, pl, pc, _, el, ec, es, _, xl, xc, xs, mn, _, ol, oc, os, _, sl, sc, ss, _, tl, tc, ts, _, nl, nc, ns, _, kl, kc, ks⟩ y _) rfl ?_
          rintro e W3 ⟨rfl, hb⟩
          refine ⟨_, rfl, hb, fun hS' => ?_⟩
          clear hS; have hS := hS'; clear hS' hb
          refine op_not rfl rfl ?_
          refine endF (XF.thenN ?_)
          refine condF rfl (fun hc => ?_) (fun hc => ?_)
          ·have hc75 := hc; clear hc
           refine seqF (regF ?_)
           refine op_assign rfl rfl ?_
           refine endF (XF.thenN ?_)
           refine retF ?_
           refine XF.blkR ?_
           refine XF.thenR ?_
           refine XF.thenR ?_
           refine XF.blkR ?_
           refine XF.thenR ?_
           refine XF.res (res1 Try.results24 rfl) ?_
           exact ⟨gr_rbool (by unfold sizedB; dsimp only; rw [if_neg (by omega), if_neg (by omega), if_neg (by omega), if_neg (by omega), if_neg (by omega), if_neg (by omega), if_neg (by omega), if_neg (by rw [hmn]; simp), if_pos (gr_all_false_at hy (by simpa using hc75))]), hS.below⟩
          ·have hc75 := hc; clear hc
           refine skipF ?_
           refine XF.blkN ?_
           refine XF.thenN ?_
           refine regF ?_
           refine op_add rfl rfl (IntWalk.i64_in _ (by omega)) rfl ?_
           refine op_move rfl rfl ?_
           refine endF ?_
           exact XF.round (ol - (i + 1)) [(1, _), (3, _), (66, _), (67, _), (68, _)] (by omega) ⟨rfl, rfl, rfl, rfl, rfl, trivial⟩ ⟨i + 1, by omega, rfl, rfl, gr_all_take_at hy hall (by simpa using hc75), hS.clear⟩
         ·have hc69 := of_decide_eq_false hc; clear hc
          rw [List.take_of_length_le (by omega)] at hall
          refine exitF ?_
          refine XF.thenX ?_
          refine XF.thenX ?_
          refine XF.blkX ?_
          refine XF.thenN ?_
          refine seqF ?_
          refine seqF (regF ?_)
          refine op_move rfl rfl ?_
          refine op_move rfl rfl ?_
          refine endF (XF.thenN ?_)
          refine blockF ?_
          refine loopF (fun m l W => ∃ p : Nat, p ≤ pl ∧ m = pl - p ∧ l = [(1, .pointer (some ⟨B1, 0, none⟩)), (77, .int .i64 (pl : Int)), (78, .int .i64 (p : Int))] ∧ (List.range p).all (procB ⟨va, vl, vc, pa, pl, pc, ea, el, ec, es, xa, xl, xc, xs, mn, oa, ol, oc, os, sa, sl, sc, ss, ta, tl, tc, ts, na, nl, nc, ns, ka, kl, kc, ks⟩) = true ∧ St w [(B1, [.slice va vl vc, .slice pa pl pc, .slice ea el ec, .slice xa xl xc, .int .i64 mn, .slice oa ol oc, .slice sa sl sc, .slice ta tl tc, .slice na nl nc, .slice ka kl kc], 83)] [] [] W) (pl - 0) ([(1, _), (77, _), (78, _)]) ⟨rfl, rfl, rfl, trivial⟩ (⟨0, Nat.zero_le _, rfl, rfl, rfl, hS.clear⟩) ?_
          clear hS
          rintro m l W ⟨p, hp, rfl, rfl, hpr, hS⟩
          refine seqF (regF ?_)
          refine op_lss rfl rfl rfl ?_
          refine endF (XF.thenN ?_)
          refine seqF ?_
          refine condF rfl (fun hc => ?_) (fun hc => ?_)
          ·have hc79 := of_decide_eq_true hc; clear hc
           have hp1 : p < pl := by omega
           obtain ⟨eb, eo, n1, rfl, hn1, hnc1⟩ := he.get (i := p) (by omega)
           obtain ⟨xb, xo, n2, rfl, hn2, hnc2⟩ := hx.get (i := p) (by omega)
           have k1 := (CellsAt.agree hS.agree (Nat.zero_le _) hnc1).1
           have k2 := (CellsAt.agree hS.agree (Nat.zero_le _) hnc2).1
           refine skipF ?_
           refine XF.thenN ?_
           refine seqF ?_
           refine blockF ?_
           refine seqF (regF ?_)
           refine op_move rfl rfl ?_
           refine op_assign rfl rfl ?_
           refine endF (XF.thenN ?_)
           refine seqF ?_
           refine regB (m := 15) gr_followsM hS (by kernel_rfl) (by kernel_rfl) rfl ?_
           refine bl_cons 1 rfl (isV _) (stab_isV _) (rgV (li := [(1, _)]) rfl (w_free rfl) ⟨g_fr (by kernel_rfl) rfl, trivial⟩ (fun w hw => rn_field (o' := 0) gr_fa_83_0 rfl rfl) (at_top rfl)) ?_
           refine bl_cons 2 rfl (isV _) (stab_isV _) (rgV (li := [(81, _)]) rfl (w_free rfl) ⟨g_dep 0 (by kernel_rfl) (at_dep rfl rfl rfl), trivial⟩ (fun w hw => rn_field (o' := 2) gr_fa_29_2 rfl rfl) (at_top rfl)) ?_
           refine bl_cons 3 rfl (isV _) (stab_isV _) (rgV (li := [(82, _)]) rfl (w_free rfl) ⟨g_dep 1 (by kernel_rfl) (at_dep rfl rfl rfl), trivial⟩ (fun w hw => rn_load Try.isAgg23 rfl ((below_agree hw 0).cell (Nat.zero_le _) (cell_own (hS.at_ 0 rfl) rfl))) (at_top rfl)) ?_
           refine bl_cons 4 rfl (isV _) (stab_isV _) (rgV (li := [(6, _)]) rfl (w_free rfl) ⟨g_fr (by kernel_rfl) rfl, trivial⟩ (fun w hw => rn_move rfl) (at_top rfl)) ?_
           refine bl_cons 5 rfl (isV _) (stab_isV _) (rgV (li := [(83, _), (84, _)]) rfl (w_free rfl) ⟨g_dep 2 (by kernel_rfl) (at_dep rfl rfl rfl), g_dep 3 (by kernel_rfl) (at_dep rfl rfl rfl), trivial⟩ (fun w hw => rn_indexA  Try.underlying23 Try.sizeOf3 rfl rfl rfl (by omega) rfl) (at_top rfl)) ?_
           refine bl_cons 6 rfl (isV _) (stab_isV _) (rgV (li := [(85, _)]) rfl (w_free rfl) ⟨g_dep 4 (by kernel_rfl) (at_dep rfl rfl rfl), trivial⟩ (fun w hw => rn_load Try.isAgg3 rfl ((below_agree hw 0).cell (Nat.zero_le _) (k1))) (at_top rfl)) ?_
           refine bl_cons 7 rfl (isV _) (stab_isV _) (rgV (li := [(1, _)]) rfl (w_free rfl) ⟨g_fr (by kernel_rfl) rfl, trivial⟩ (fun w hw => rn_field (o' := 0) gr_fa_83_0 rfl rfl) (at_top rfl)) ?_
           refine bl_cons 8 rfl (isV _) (stab_isV _) (rgV (li := [(87, _)]) rfl (w_free rfl) ⟨g_dep 6 (by kernel_rfl) (at_dep rfl rfl rfl), trivial⟩ (fun w hw => rn_field (o' := 3) gr_fa_29_3 rfl rfl) (at_top rfl)) ?_
           refine bl_cons 9 rfl (isV _) (stab_isV _) (rgV (li := [(88, _)]) rfl (w_free rfl) ⟨g_dep 7 (by kernel_rfl) (at_dep rfl rfl rfl), trivial⟩ (fun w hw => rn_load Try.isAgg23 rfl ((below_agree hw 0).cell (Nat.zero_le _) (cell_own (hS.at_ 0 rfl) rfl))) (at_top rfl)) ?_
           refine bl_cons 10 rfl (isV _) (stab_isV _) (rgV (li := [(6, _)]) rfl (w_free rfl) ⟨g_fr (by kernel_rfl) rfl, trivial⟩ (fun w hw => rn_move rfl) (at_top rfl)) ?_
           refine bl_cons 11 rfl (isV _) (stab_isV _) (rgV (li := [(89, _), (90, _)]) rfl (w_free rfl) ⟨g_dep 8 (by kernel_rfl) (at_dep rfl rfl rfl), g_dep 9 (by kernel_rfl) (at_dep rfl rfl rfl), trivial⟩ (fun w hw => rn_indexA  Try.underlying23 Try.sizeOf3 rfl rfl rfl (by omega) rfl) (at_top rfl)) ?_
           refine bl_cons 12 rfl (isV _) (stab_isV _) (rgV (li := [(91, _)]) rfl (w_free rfl) ⟨g_dep 10 (by kernel_rfl) (at_dep rfl rfl rfl), trivial⟩ (fun w hw => rn_load Try.isAgg3 rfl ((below_agree hw 0).cell (Nat.zero_le _) (k2))) (at_top rfl)) ?_
           refine bl_cons 13 rfl (isRow W.heap.size 2 3 _) (stab_isRow) (rg_rowV (us := [.int .i64 _, .int .i64 _]) rfl (w_free rfl) Try.underlying23 Try.sizeOf3 Try.zeroValue3 rfl rfl ⟨p_tmp (g_dep 5 (by kernel_rfl) (at_dep rfl rfl rfl)), p_tmp (g_dep 11 (by kernel_rfl) (at_dep rfl rfl rfl)), trivial⟩ (gr_bs_23_2 _ _) (at_top rfl)) ?_
           refine bl_cons 14 rfl (isV (.int .i64 (2 : Nat))) (stab_isV _) (rg_lenR rfl (g_dep 12 (by kernel_rfl) (at_dep rfl rfl rfl)) Try.underlying23 (at_top rfl)) ?_
           refine bl_cons 15 rfl (isV _) (stab_isV _) (rgV (li := []) rfl (w_free rfl) trivial (fun w hw => rn_move rfl) (at_top rfl)) ?_
           refine bl_nil ?_
           intro W4 hbR hS'
           clear hS; have hS := hS'; clear hS'
           refine fin_v ?_
           refine fin_v ?_
           refine fin_v ?_
           refine fin_v ?_
           refine fin_v ?_
           refine fin_v ?_
           refine fin_v ?_
           refine fin_v ?_
           refine fin_v ?_
           refine fin_v ?_
           refine fin_v ?_
           refine fin_v ?_
           refine fin_p ?_; rintro _ ⟨B13_12, rfl, hlo13_12, hrow13_12⟩
           refine fin_v ?_
           refine fin_v ?_
           refine fin_nil ?_
           refine XF.thenN ?_
           refine blockF ?_
           refine loopF (fun m l W => ∃ j : Nat, j ≤ 2 ∧ m = 2 - j ∧ l = [(1, .pointer (some ⟨B1, 0, none⟩)), (6, .int .i64 (p : Int)), (77, .int .i64 (pl : Int)), (78, .int .i64 (p : Int)), (93, .slice (some ⟨B13_12, 0, none⟩) 2 2), (94, .int .i64 (2 : Nat)), (95, .int .i64 (j : Int))] ∧ (1 ≤ j → nodeB os ol es p = true) ∧ (2 ≤ j → nodeB os ol xs p = true) ∧ W.heap[B13_12]? = some (.cells #[.int .i64 n1, .int .i64 n2] 3 (0, 0)) ∧ St w [(B1, [.slice va vl vc, .slice pa pl pc, .slice (some ⟨eb, eo, none⟩) el ec, .slice (some ⟨xb, xo, none⟩) xl xc, .int .i64 mn, .slice oa ol oc, .slice sa sl sc, .slice ta tl tc, .slice na nl nc, .slice ka kl kc], 83)] [] [] W) (2 - 0) ([(1, _), (6, _), (77, _), (78, _), (93, _), (94, _), (95, _)]) ⟨rfl, rfl, rfl, rfl, rfl, rfl, rfl, trivial⟩ (⟨0, Nat.zero_le _, rfl, rfl, fun h => by omega, fun h => by omega, hrow13_12, hS.clear⟩) ?_
           clear hS
           rintro m l W ⟨j, hj, rfl, rfl, hj1, hj2, hBc, hS⟩
           refine seqF (regF ?_)
           refine op_lss rfl rfl rfl ?_
           refine endF (XF.thenN ?_)
           refine seqF ?_
           refine condF rfl (fun hc => ?_) (fun hc => ?_)
           ·have hc96 := of_decide_eq_true hc; clear hc
            refine skipF ?_
            refine XF.thenN ?_
            refine seqF ?_
            refine blockF ?_
            refine seqF ?_
            rcases (show j = 0 ∨ j = 1 by omega) with rfl | rfl
            ·have k3 := cell_own (j := 0) hBc rfl
             refine regF ?_
             refine op_indexA (j := 0) Try.underlying23 Try.sizeOf3 rfl rfl (by omega) (by omega) rfl rfl ?_
             refine op_load Try.isAgg3 rfl (k3) rfl ?_
             refine op_assign rfl rfl ?_
             refine endF (XF.thenN ?_)
             refine seqF (regF ?_)
             refine op_loadA (vs := [_, _, _, _, _, _, _, _, _, _]) Try.isAgg83 Try.sizeOf83 rfl (CellsAt.own (j := 0) (m := 10) (hS.at_ 0 rfl) rfl) rfl ?_
             refine op_move rfl rfl ?_
             refine op_call (vs := [_, _]) hS gr_goes_39 rfl (isNode_is ⟨_, vl, vc, _, pl, pc, _, el, ec, es, _, xl, xc, xs, mn, _, ol, oc, os, _, sl, sc, ss, _, tl, tc, ts, _, nl, nc, ns, _, kl, kc, ks⟩ n1 _) rfl ?_
             rintro e W5 ⟨rfl, hb⟩
             refine ⟨_, rfl, hb, fun hS' => ?_⟩
             clear hS; have hS := hS'; clear hS'
             have hBc := (hb.block _ (lt_of_heap hBc)).trans hBc
             clear hb
             refine op_not rfl rfl ?_
             refine op_move rfl rfl ?_
             refine op_cases (d := 103) rfl (fun hc => ?_) (fun hc => ?_)
             ·have hg103 := hc; clear hc
              have hno : gr_inQ n1 ol = false := by simpa using hg103
              refine op_notF (d := 103) rfl rfl rfl rfl ?_
              refine op_notF (d := 103) rfl rfl rfl rfl ?_
              refine op_notF (d := 103) rfl rfl rfl rfl ?_
              refine op_notF (d := 103) rfl rfl rfl rfl ?_
              refine op_notF (d := 103) rfl rfl rfl rfl ?_
              refine op_notF (d := 103) rfl rfl rfl rfl ?_
              refine op_notF (d := 103) rfl rfl rfl rfl ?_
              refine op_notF (d := 103) rfl rfl rfl rfl ?_
              refine op_pickT rfl rfl rfl ?_
              refine endF (XF.thenN ?_)
              refine condT rfl ?_
              refine seqF (regF ?_)
              refine op_assign rfl rfl ?_
              refine endF (XF.thenN ?_)
              refine retF ?_
              refine XF.blkR ?_
              refine XF.thenR ?_
              refine XF.thenR ?_
              refine XF.blkR ?_
              refine XF.blkR ?_
              refine XF.thenR ?_
              refine XF.thenR ?_
              refine XF.blkR ?_
              refine XF.thenR ?_
              refine XF.res (res1 Try.results24 rfl) ?_
              exact ⟨gr_rbool (by unfold sizedB; dsimp only; rw [if_neg (by omega), if_neg (by omega), if_neg (by omega), if_neg (by omega), if_neg (by omega), if_neg (by omega), if_neg (by omega), if_neg (by rw [hmn]; simp), if_neg (by rw [hall]; simp), range_false hp1 (by show (nodeB os ol es p && nodeB os ol xs p) = false; rw [nodeB_out hn1 hno]; simp)]), hS.below⟩
             ·have hg103 := hc; clear hc
              obtain ⟨kn, rfl, hkn⟩ := inQ_nat (show gr_inQ n1 ol = true by simpa using hg103)
              obtain ⟨ob, oo, q, rfl, hq, hqc⟩ := ho.get (i := kn) (by omega)
              have k4 := (CellsAt.agree hS.agree (Nat.zero_le _) hqc).1
              have hnq := nodeB_at (ol := ol) hn1 (inQ_of hkn) (by rw [Int.toNat_natCast]; exact hq)
              refine op_wantedF (d := 103) rfl rfl ?_
              refine op_field (o' := 0) gr_fa_83_0 rfl rfl rfl ?_
              refine op_wantedF (d := 103) rfl rfl ?_
              refine op_field (o' := 5) gr_fa_29_5 rfl rfl rfl ?_
              refine op_wantedF (d := 103) rfl rfl ?_
              refine op_load Try.isAgg23 rfl (cell_own (hS.at_ 0 rfl) rfl) rfl ?_
              refine op_wantedF (d := 103) rfl rfl ?_
              refine op_move rfl rfl ?_
              refine op_wantedF (d := 103) rfl rfl ?_
              refine op_indexA (j := kn) Try.underlying23 Try.sizeOf3 rfl rfl (by omega) (by omega) rfl rfl ?_
              refine op_wantedF (d := 103) rfl rfl ?_
              refine op_load Try.isAgg3 rfl (k4) rfl ?_
              refine op_wantedF (d := 103) rfl rfl ?_
              refine op_move rfl rfl ?_
              refine op_wantedF (d := 103) rfl rfl ?_
              refine op_neq rfl rfl rfl ?_
              refine op_pickF rfl rfl rfl ?_
              refine endF (XF.thenN ?_)
              refine condF rfl (fun hc => ?_) (fun hc => ?_)
              ·have hc112 := of_decide_eq_true hc; clear hc
               refine seqF (regF ?_)
               refine op_assign rfl rfl ?_
               refine endF (XF.thenN ?_)
               refine retF ?_
               refine XF.blkR ?_
               refine XF.thenR ?_
               refine XF.thenR ?_
               refine XF.blkR ?_
               refine XF.blkR ?_
               refine XF.thenR ?_
               refine XF.thenR ?_
               refine XF.blkR ?_
               refine XF.thenR ?_
               refine XF.res (res1 Try.results24 rfl) ?_
               exact ⟨gr_rbool (by unfold sizedB; dsimp only; rw [if_neg (by omega), if_neg (by omega), if_neg (by omega), if_neg (by omega), if_neg (by omega), if_neg (by omega), if_neg (by omega), if_neg (by rw [hmn]; simp), if_neg (by rw [hall]; simp), range_false hp1 (by show (nodeB os ol es p && nodeB os ol xs p) = false; rw [hnq, decide_eq_false (by omega)]; simp)]), hS.below⟩
              ·have hc112 := of_decide_eq_false hc; clear hc
               refine skipF ?_
               refine XF.blkN ?_
               refine XF.thenN ?_
               refine regF ?_
               refine op_add rfl rfl (IntWalk.i64_in _ (by omega)) rfl ?_
               refine op_move rfl rfl ?_
               refine endF ?_
               exact XF.round (2 - (0 + 1)) [(1, _), (6, _), (77, _), (78, _), (93, _), (94, _), (95, _)] (by omega) ⟨rfl, rfl, rfl, rfl, rfl, rfl, rfl, trivial⟩ ⟨0 + 1, by omega, rfl, rfl, fun _ => by rw [hnq]; exact decide_eq_true (by omega), fun h => by omega, hBc, hS.clear⟩
            ·have k3 := cell_own (j := 1) hBc rfl
             refine regF ?_
             refine op_indexA (j := 1) Try.underlying23 Try.sizeOf3 rfl rfl (by omega) (by omega) rfl rfl ?_
             refine op_load Try.isAgg3 rfl (k3) rfl ?_
             refine op_assign rfl rfl ?_
             refine endF (XF.thenN ?_)
             refine seqF (regF ?_)
             refine op_loadA (vs := [_, _, _, _, _, _, _, _, _, _]) Try.isAgg83 Try.sizeOf83 rfl (CellsAt.own (j := 0) (m := 10) (hS.at_ 0 rfl) rfl) rfl ?_
             refine op_move rfl rfl ?_
             refine op_call (vs := [_, _]) hS gr_goes_39 rfl (isNode_is ⟨_, vl, vc, _, pl, pc, _, el, ec, es, _, xl, xc, xs, mn, _, ol, oc, os, _, sl, sc, ss, _, tl, tc, ts, _, nl, nc, ns, _, kl, kc, ks⟩ n2 _) rfl ?_
             rintro e W6 ⟨rfl, hb⟩
             refine ⟨_, rfl, hb, fun hS' => ?_⟩
             clear hS; have hS := hS'; clear hS'
             have hBc := (hb.block _ (lt_of_heap hBc)).trans hBc
             clear hb
             refine op_not rfl rfl ?_
             refine op_move rfl rfl ?_
             refine op_cases (d := 103) rfl (fun hc => ?_) (fun hc => ?_)
             ·have hg103 := hc; clear hc
              have hno : gr_inQ n2 ol = false := by simpa using hg103
              refine op_notF (d := 103) rfl rfl rfl rfl ?_
              refine op_notF (d := 103) rfl rfl rfl rfl ?_
              refine op_notF (d := 103) rfl rfl rfl rfl ?_
              refine op_notF (d := 103) rfl rfl rfl rfl ?_
              refine op_notF (d := 103) rfl rfl rfl rfl ?_
              refine op_notF (d := 103) rfl rfl rfl rfl ?_
              refine op_notF (d := 103) rfl rfl rfl rfl ?_
              refine op_notF (d := 103) rfl rfl rfl rfl ?_
              refine op_pickT rfl rfl rfl ?_
              refine endF (XF.thenN ?_)
              refine condT rfl ?_
              refine seqF (regF ?_)
              refine op_assign rfl rfl ?_
              refine endF (XF.thenN ?_)
              refine retF ?_
              refine XF.blkR ?_
              refine XF.thenR ?_
              refine XF.thenR ?_
              refine XF.blkR ?_
              refine XF.blkR ?_
              refine XF.thenR ?_
              refine XF.thenR ?_
              refine XF.blkR ?_
              refine XF.thenR ?_
              refine XF.res (res1 Try.results24 rfl) ?_
              exact ⟨gr_rbool (by unfold sizedB; dsimp only; rw [if_neg (by omega), if_neg (by omega), if_neg (by omega), if_neg (by omega), if_neg (by omega), if_neg (by omega), if_neg (by omega), if_neg (by rw [hmn]; simp), if_neg (by rw [hall]; simp), range_false hp1 (by show (nodeB os ol es p && nodeB os ol xs p) = false; rw [nodeB_out hn2 hno]; simp)]), hS.below⟩
             ·have hg103 := hc; clear hc
              obtain ⟨kn, rfl, hkn⟩ := inQ_nat (show gr_inQ n2 ol = true by simpa using hg103)
              obtain ⟨ob, oo, q, rfl, hq, hqc⟩ := ho.get (i := kn) (by omega)
              have k4 := (CellsAt.agree hS.agree (Nat.zero_le _) hqc).1
              have hnq := nodeB_at (ol := ol) hn2 (inQ_of hkn) (by rw [Int.toNat_natCast]; exact hq)
              refine op_wantedF (d := 103) rfl rfl ?_
              refine op_field (o' := 0) gr_fa_83_0 rfl rfl rfl ?_
              refine op_wantedF (d := 103) rfl rfl ?_
              refine op_field (o' := 5) gr_fa_29_5 rfl rfl rfl ?_
              refine op_wantedF (d := 103) rfl rfl ?_
              refine op_load Try.isAgg23 rfl (cell_own (hS.at_ 0 rfl) rfl) rfl ?_
              refine op_wantedF (d := 103) rfl rfl ?_
              refine op_move rfl rfl ?_
              refine op_wantedF (d := 103) rfl rfl ?_
              refine op_indexA (j := kn) Try.underlying23 Try.sizeOf3 rfl rfl (by omega) (by omega) rfl rfl ?_
              refine op_wantedF (d := 103) rfl rfl ?_
              refine op_load Try.isAgg3 rfl (k4) rfl ?_
              refine op_wantedF (d := 103) rfl rfl ?_
              refine op_move rfl rfl ?_
              refine op_wantedF (d := 103) rfl rfl ?_
              refine op_neq rfl rfl rfl ?_
              refine op_pickF rfl rfl rfl ?_
              refine endF (XF.thenN ?_)
              refine condF rfl (fun hc => ?_) (fun hc => ?_)
              ·have hc112 := of_decide_eq_true hc; clear hc
               refine seqF (regF ?_)
               refine op_assign rfl rfl ?_
               refine endF (XF.thenN ?_)
               refine retF ?_
               refine XF.blkR ?_
               refine XF.thenR ?_
               refine XF.thenR ?_
               refine XF.blkR ?_
               refine XF.blkR ?_
               refine XF.thenR ?_
               refine XF.thenR ?_
               refine XF.blkR ?_
               refine XF.thenR ?_
               refine XF.res (res1 Try.results24 rfl) ?_
               exact ⟨gr_rbool (by unfold sizedB; dsimp only; rw [if_neg (by omega), if_neg (by omega), if_neg (by omega), if_neg (by omega), if_neg (by omega), if_neg (by omega), if_neg (by omega), if_neg (by rw [hmn]; simp), if_neg (by rw [hall]; simp), range_false hp1 (by show (nodeB os ol es p && nodeB os ol xs p) = false; rw [hnq, decide_eq_false (by omega)]; simp)]), hS.below⟩
              ·have hc112 := of_decide_eq_false hc; clear hc
               refine skipF ?_
               refine XF.blkN ?_
               refine XF.thenN ?_
               refine regF ?_
               refine op_add rfl rfl (IntWalk.i64_in _ (by omega)) rfl ?_
               refine op_move rfl rfl ?_
               refine endF ?_
               exact XF.round (2 - (1 + 1)) [(1, _), (6, _), (77, _), (78, _), (93, _), (94, _), (95, _)] (by omega) ⟨rfl, rfl, rfl, rfl, rfl, rfl, rfl, trivial⟩ ⟨1 + 1, by omega, rfl, rfl, fun _ => hj1 (by omega), fun _ => by rw [hnq]; exact decide_eq_true (by omega), hBc, hS.clear⟩
           ·have hc96 := of_decide_eq_false hc; clear hc
            have hj3 : j = 2 := by omega
            refine exitF ?_
            refine XF.thenX ?_
            refine XF.thenX ?_
            refine XF.blkX ?_
            refine XF.blkN ?_
            refine XF.thenN ?_
            refine regF ?_
            refine op_add rfl rfl (IntWalk.i64_in _ (by omega)) rfl ?_
            refine op_move rfl rfl ?_
            refine endF ?_
            exact XF.round (pl - (p + 1)) [(1, _), (77, _), (78, _)] (by omega) ⟨rfl, rfl, rfl, trivial⟩ ⟨p + 1, by omega, rfl, rfl, range_take hp1 hpr (by show (nodeB os ol es p && nodeB os ol xs p) = true; rw [hj1 (by omega), hj2 (by omega)]; rfl), hS.clear⟩
          ·have hc79 := of_decide_eq_false hc; clear hc
           refine exitF ?_
           refine XF.thenX ?_
           refine XF.thenX ?_
           refine XF.blkX ?_
           refine XF.thenN ?_
           refine seqF (regF ?_)
           refine op_assign rfl rfl ?_
           refine endF (XF.thenN ?_)
           refine retF ?_
           refine XF.res (res1 Try.results24 rfl) ?_
           have hpp : p = pl := by omega
           subst hpp
           exact ⟨gr_rbool (by unfold sizedB; dsimp only; rw [if_neg (by omega), if_neg (by omega), if_neg (by omega), if_neg (by omega), if_neg (by omega), if_neg (by omega), if_neg (by omega), if_neg (by rw [hmn]; simp), if_neg (by rw [hall]; simp), hpr]), hS.below⟩
end Go.Proofs.Ythepjghlipdcoaa
namespace Go.Proofs.Ythepjghlipdcoaa
open Go Go.RowKit
theorem gr_fa_54_2 (w : World) (b o : Nat) : (Instr.fieldAt 54 (.pointer (some ⟨b, o, none⟩)) 2).run Try.prog w = .ok (.pointer (some ⟨b, o + 2, none⟩)) w := by
 simp [Instr.fieldAt, run_underlying Try.underlying54, Instr.sureAddr, go_sem, Addr.add_lit]
theorem gr_fa_54_3 (w : World) (b o : Nat) : (Instr.fieldAt 54 (.pointer (some ⟨b, o, none⟩)) 3).run Try.prog w = .ok (.pointer (some ⟨b, o + 3, none⟩)) w := by
 simp [Instr.fieldAt, run_underlying Try.underlying54, Instr.sureAddr, go_sem, Addr.add_lit]
theorem gr_fa_50_0 (w : World) (b o : Nat) : (Instr.fieldAt 50 (.pointer (some ⟨b, o, none⟩)) 0).run Try.prog w = .ok (.pointer (some ⟨b, o + 0, none⟩)) w := by
 simp [Instr.fieldAt, run_underlying Try.underlying50, Instr.sureAddr, go_sem, Addr.add_lit]
theorem gr_fa_50_1 (w : World) (b o : Nat) : (Instr.fieldAt 50 (.pointer (some ⟨b, o, none⟩)) 1).run Try.prog w = .ok (.pointer (some ⟨b, o + 1, none⟩)) w := by
 simp [Instr.fieldAt, run_underlying Try.underlying50, Instr.sureAddr, go_sem, Addr.add_lit]
theorem gr_fa_50_2 (w : World) (b o : Nat) : (Instr.fieldAt 50 (.pointer (some ⟨b, o, none⟩)) 2).run Try.prog w = .ok (.pointer (some ⟨b, o + 2, none⟩)) w := by
 simp [Instr.fieldAt, run_underlying Try.underlying50, Instr.sureAddr, go_sem, Addr.add_lit]
theorem gr_fa_50_3 (w : World) (b o : Nat) : (Instr.fieldAt 50 (.pointer (some ⟨b, o, none⟩)) 3).run Try.prog w = .ok (.pointer (some ⟨b, o + 3, none⟩)) w := by
 simp [Instr.fieldAt, run_underlying Try.underlying50, Instr.sureAddr, go_sem, Addr.add_lit]
theorem gr_fa_50_4 (w : World) (b o : Nat) : (Instr.fieldAt 50 (.pointer (some ⟨b, o, none⟩)) 4).run Try.prog w = .ok (.pointer (some ⟨b, o + 4, none⟩)) w := by
 simp [Instr.fieldAt, run_underlying Try.underlying50, Instr.sureAddr, go_sem, Addr.add_lit]
theorem gr_fa_50_5 (w : World) (b o : Nat) : (Instr.fieldAt 50 (.pointer (some ⟨b, o, none⟩)) 5).run Try.prog w = .ok (.pointer (some ⟨b, o + 5, none⟩)) w := by
 simp [Instr.fieldAt, run_underlying Try.underlying50, Instr.sureAddr, go_sem, Addr.add_lit]
theorem gr_fa_50_6 (w : World) (b o : Nat) : (Instr.fieldAt 50 (.pointer (some ⟨b, o, none⟩)) 6).run Try.prog w = .ok (.pointer (some ⟨b, o + 6, none⟩)) w := by
 simp [Instr.fieldAt, run_underlying Try.underlying50, Instr.sureAddr, go_sem, Addr.add_lit]
theorem gr_goes_41 : goesIn Try.prog 41 = true := by kernel_rfl
theorem step_c (va : Option Addr) (vl : Nat) (vc : Nat) (pa : Option Addr) (pl : Nat) (pc : Nat) (ea : Option Addr) (el : Nat) (ec : Nat) (es : List Int) (xa : Option Addr) (xl : Nat) (xc : Nat) (xs : List Int) (mn : Int) (oa : Option Addr) (ol : Nat) (oc : Nat) (os : List Int) (sa : Option Addr) (sl : Nat) (sc : Nat) (ss : List TV) (ta : Option Addr) (tl : Nat) (tc : Nat) (ts : List UV) (na : Option Addr) (nl : Nat) (nc : Nat) (ns : List NV) (ka : Option Addr) (kl : Nat) (kc : Nat) (ks : List KV) (s : TV) (n : Nat) (w : World) (he : RowI w ea es) (hel : es.length = el) (hx : RowI w xa xs) (hxl : xs.length = xl) (ho : RowI w oa os) (hol : os.length = ol) (hs : RowL TV.sev 7 w sa ss) (hsl : ss.length = sl) (ht : RowL UV.four 4 w ta ts) (htl : ts.length = tl) (hn : RowL NV.two 2 w na ns) (hnl : ns.length = nl) (hk : RowL KV.two 2 w ka ks) (hkl : ks.length = kl) (b1 : vl ≤ 5000) (b2 : pl ≤ 5000) (b3 : el ≤ 5000) (b4 : xl ≤ 5000) (b5 : ol ≤ 5000) (b6 : sl ≤ 5000) (b7 : tl ≤ 5000) (b8 : nl ≤ 5000) (b9 : kl ≤ 5000) :
  Calls Try.prog 40 #[.agg #[.slice va vl vc, .slice pa pl pc, .slice ea el ec, .slice xa xl xc, .int .i64 mn, .slice oa ol oc, .slice sa sl sc, .slice ta tl tc, .slice na nl nc, .slice ka kl kc], s.val, .int .i64 (n : Int)] w (fun e w' => e = .returned (.bool (stepK ⟨va, vl, vc, pa, pl, pc, ea, el, ec, es, xa, xl, xc, xs, mn, oa, ol, oc, os, sa, sl, sc, ss, ta, tl, tc, ts, na, nl, nc, ns, ka, kl, kc, ks⟩ s n)) ∧ Below w.heap.size w w') := by
 refine enterF (args := [.agg #[.slice va vl vc, .slice pa pl pc, .slice ea el ec, .slice xa xl xc, .int .i64 mn, .slice oa ol oc, .slice sa sl sc, .slice ta tl tc, .slice na nl nc, .slice ka kl kc], s.val, .int .i64 (n : Int)]) Try.func40 rfl Try.ntmps40 rfl ?_
 have hS := St.start w
 refine seqF (regF ?_)
 refine op_box (cs := [_, _, _, _, _, _, _, _, _, _]) hS rfl rfl rfl ?_
 clear hS; intro B1 W1 hS
 refine op_box (cs := [_, _, _, _, _, _, _]) hS rfl rfl rfl ?_
 clear hS; intro B2 W2 hS
 refine op_assign rfl rfl ?_
 refine endF (XF.thenN ?_)
 refine seqF ?_
 refine seqF ?_
 rcases (show gr_inQ s.f ol = false ∨ (gr_inQ s.f ol = true ∧ gr_inQ s.t ol = false) ∨ (gr_inQ s.f ol = true ∧ gr_inQ s.t ol = true) by cases gr_inQ s.f ol <;> cases gr_inQ s.t ol <;> simp) with hf | ⟨hf, hg⟩ | ⟨hf, hg⟩
 ·skip
  refine regB (m := 29) gr_followsM hS (by kernel_rfl) (by kernel_rfl) rfl ?_
  refine bl_cons 1 rfl (isV _) (stab_isV _) (rgV (li := [(3, _)]) rfl (w_free rfl) ⟨g_fr (by kernel_rfl) rfl, trivial⟩ (fun w hw => rn_loadA (vs := [_, _, _, _, _, _, _, _, _, _]) Try.isAgg83 Try.sizeOf83 rfl (CellsAt.agree (below_agree hw 0) (Nat.zero_le _) (CellsAt.own (j := 0) (m := 10) (hS.at_ 1 rfl) rfl))) (at_top rfl)) ?_
  refine bl_cons 2 rfl (isV _) (stab_isV _) (rgV (li := [(4, _)]) rfl (w_free rfl) ⟨g_fr (by kernel_rfl) rfl, trivial⟩ (fun w hw => rn_field (o' := 0) gr_fa_50_0 rfl rfl) (at_top rfl)) ?_
  refine bl_cons 3 rfl (isV _) (stab_isV _) (rgV (li := [(12, _)]) rfl (w_free rfl) ⟨g_dep 1 (by kernel_rfl) (at_dep rfl rfl rfl), trivial⟩ (fun w hw => rn_load Try.isAgg3 rfl ((below_agree hw 0).cell (Nat.zero_le _) (cell_own (hS.at_ 0 rfl) rfl))) (at_top rfl)) ?_
  refine bl_cons 4 rfl (isV (.bool false)) (stab_isV _) (rg_call [isV _, isV _] rfl gr_goes_39 (w_free rfl) ⟨p_tmp (g_dep 0 (by kernel_rfl) (at_dep rfl rfl rfl)), p_tmp (g_dep 2 (by kernel_rfl) (at_dep rfl rfl rfl)), trivial⟩ (fun vs w' hb hh => by have e := holds_isV (us := [_, _]) hh; subst e; exact (isNode_is ⟨_, vl, vc, _, pl, pc, _, el, ec, es, _, xl, xc, xs, mn, _, ol, oc, os, _, sl, sc, ss, _, tl, tc, ts, _, nl, nc, ns, _, kl, kc, ks⟩ s.f _).mono fun e w2 h => ⟨_, by rw [h.1, hf], rfl, h.2⟩) (at_top rfl)) ?_
  refine bl_cons 5 rfl (isV _) (stab_isV _) (rgV (li := [(14, _)]) rfl (w_free rfl) ⟨g_dep 3 (by kernel_rfl) (at_dep rfl rfl rfl), trivial⟩ (fun w hw => rn_not rfl) (at_top rfl)) ?_
  refine bl_cons 6 rfl (isV _) (stab_isV _) (rgV (li := [(15, _)]) rfl (w_free rfl) ⟨g_dep 4 (by kernel_rfl) (at_dep rfl rfl rfl), trivial⟩ (fun w hw => rn_move rfl) (at_top rfl)) ?_
  refine bl_cons 7 rfl (isV undef) (stab_isV _) (rg_no rfl (w_no 16 rfl (by kernel_rfl) (by kernel_rfl) (at_dep rfl rfl rfl) rfl) (at_top rfl)) ?_
  refine bl_cons 8 rfl (isV undef) (stab_isV _) (rg_no rfl (w_no 16 rfl (by kernel_rfl) (by kernel_rfl) (at_dep rfl rfl rfl) rfl) (at_top rfl)) ?_
  refine bl_cons 9 rfl (isV undef) (stab_isV _) (rg_no rfl (w_no 16 rfl (by kernel_rfl) (by kernel_rfl) (at_dep rfl rfl rfl) rfl) (at_top rfl)) ?_
  refine bl_cons 10 rfl (isV undef) (stab_isV _) (rg_no rfl (w_no 16 rfl (by kernel_rfl) (by kernel_rfl) (at_dep rfl rfl rfl) rfl) (at_top rfl)) ?_
  refine bl_cons 11 rfl (isV undef) (stab_isV _) (rg_no rfl (w_no 16 rfl (by kernel_rfl) (by kernel_rfl) (at_dep rfl rfl rfl) rfl) (at_top rfl)) ?_
  refine bl_cons 12 rfl (isV _) (stab_isV _) (rgV (li := [(16, _)]) rfl (w_free rfl) ⟨g_dep 5 (by kernel_rfl) (at_dep rfl rfl rfl), trivial⟩ (fun w hw => rn_pickT rfl rfl) (at_top rfl)) ?_
  refine bl_cons 13 rfl (isV _) (stab_isV _) (rgV (li := [(22, _)]) rfl (w_free rfl) ⟨g_dep 11 (by kernel_rfl) (at_dep rfl rfl rfl), trivial⟩ (fun w hw => rn_move rfl) (at_top rfl)) ?_
  refine bl_cons 14 rfl (isV undef) (stab_isV _) (rg_no rfl (w_no 23 rfl (by kernel_rfl) (by kernel_rfl) (at_dep rfl rfl rfl) rfl) (at_top rfl)) ?_
  refine bl_cons 15 rfl (isV undef) (stab_isV _) (rg_no rfl (w_no 23 rfl (by kernel_rfl) (by kernel_rfl) (at_dep rfl rfl rfl) rfl) (at_top rfl)) ?_
  refine bl_cons 16 rfl (isV undef) (stab_isV _) (rg_no rfl (w_no 23 rfl (by kernel_rfl) (by kernel_rfl) (at_dep rfl rfl rfl) rfl) (at_top rfl)) ?_
  refine bl_cons 17 rfl (isV undef) (stab_isV _) (rg_no rfl (w_no 23 rfl (by kernel_rfl) (by kernel_rfl) (at_dep rfl rfl rfl) rfl) (at_top rfl)) ?_
  refine bl_cons 18 rfl (isV undef) (stab_isV _) (rg_no rfl (w_no 23 rfl (by kernel_rfl) (by kernel_rfl) (at_dep rfl rfl rfl) rfl) (at_top rfl)) ?_
  refine bl_cons 19 rfl (isV undef) (stab_isV _) (rg_no rfl (w_no 23 rfl (by kernel_rfl) (by kernel_rfl) (at_dep rfl rfl rfl) rfl) (at_top rfl)) ?_
  refine bl_cons 20 rfl (isV undef) (stab_isV _) (rg_no rfl (w_no 23 rfl (by kernel_rfl) (by kernel_rfl) (at_dep rfl rfl rfl) rfl) (at_top rfl)) ?_
  refine bl_cons 21 rfl (isV undef) (stab_isV _) (rg_no rfl (w_no 23 rfl (by kernel_rfl) (by kernel_rfl) (at_dep rfl rfl rfl) rfl) (at_top rfl)) ?_
  refine bl_cons 22 rfl (isV undef) (stab_isV _) (rg_no rfl (w_no 23 rfl (by kernel_rfl) (by kernel_rfl) (at_dep rfl rfl rfl) rfl) (at_top rfl)) ?_
  refine bl_cons 23 rfl (isV undef) (stab_isV _) (rg_no rfl (w_no 23 rfl (by kernel_rfl) (by kernel_rfl) (at_dep rfl rfl rfl) rfl) (at_top rfl)) ?_
  refine bl_cons 24 rfl (isV undef) (stab_isV _) (rg_no rfl (w_no 23 rfl (by kernel_rfl) (by kernel_rfl) (at_dep rfl rfl rfl) rfl) (at_top rfl)) ?_
  refine bl_cons 25 rfl (isV undef) (stab_isV _) (rg_no rfl (w_no 23 rfl (by kernel_rfl) (by kernel_rfl) (at_dep rfl rfl rfl) rfl) (at_top rfl)) ?_
  refine bl_cons 26 rfl (isV undef) (stab_isV _) (rg_no rfl (w_no 23 rfl (by kernel_rfl) (by kernel_rfl) (at_dep rfl rfl rfl) rfl) (at_top rfl)) ?_
  refine bl_cons 27 rfl (isV undef) (stab_isV _) (rg_no rfl (w_no 23 rfl (by kernel_rfl) (by kernel_rfl) (at_dep rfl rfl rfl) rfl) (at_top rfl)) ?_
  refine bl_cons 28 rfl (isV undef) (stab_isV _) (rg_no rfl (w_no 23 rfl (by kernel_rfl) (by kernel_rfl) (at_dep rfl rfl rfl) rfl) (at_top rfl)) ?_
  refine bl_cons 29 rfl (isV _) (stab_isV _) (rgV (li := [(23, _)]) rfl (w_free rfl) ⟨g_dep 12 (by kernel_rfl) (at_dep rfl rfl rfl), trivial⟩ (fun w hw => rn_pickT rfl rfl) (at_top rfl)) ?_
  refine bl_nil ?_
  intro W3 hbR hS'
  clear hS; have hS := hS'; clear hS'
  refine fin_v ?_
  refine fin_v ?_
  refine fin_v ?_
  refine fin_v ?_
  refine fin_v ?_
  refine fin_v ?_
  refine fin_v ?_
  refine fin_v ?_
  refine fin_v ?_
  refine fin_v ?_
  refine fin_v ?_
  refine fin_v ?_
  refine fin_v ?_
  refine fin_v ?_
  refine fin_v ?_
  refine fin_v ?_
  refine fin_v ?_
  refine fin_v ?_
  refine fin_v ?_
  refine fin_v ?_
  refine fin_v ?_
  refine fin_v ?_
  refine fin_v ?_
  refine fin_v ?_
  refine fin_v ?_
  refine fin_v ?_
  refine fin_v ?_
  refine fin_v ?_
  refine fin_v ?_
  refine fin_nil ?_
  refine XF.thenN ?_
  refine condT rfl ?_
  refine seqF (regF ?_)
  refine op_assign rfl rfl ?_
  refine endF (XF.thenN ?_)
  refine retF ?_
  refine XF.thenR ?_
  refine XF.res (res1 Try.results40 rfl) ?_
  exact ⟨gr_rbool (by unfold stepK; dsimp only; rw [if_pos hf]), hS.below⟩
 ·skip
  refine regB (m := 29) gr_followsM hS (by kernel_rfl) (by kernel_rfl) rfl ?_
  refine bl_cons 1 rfl (isV _) (stab_isV _) (rgV (li := [(3, _)]) rfl (w_free rfl) ⟨g_fr (by kernel_rfl) rfl, trivial⟩ (fun w hw => rn_loadA (vs := [_, _, _, _, _, _, _, _, _, _]) Try.isAgg83 Try.sizeOf83 rfl (CellsAt.agree (below_agree hw 0) (Nat.zero_le _) (CellsAt.own (j := 0) (m := 10) (hS.at_ 1 rfl) rfl))) (at_top rfl)) ?_
  refine bl_cons 2 rfl (isV _) (stab_isV _) (rgV (li := [(4, _)]) rfl (w_free rfl) ⟨g_fr (by kernel_rfl) rfl, trivial⟩ (fun w hw => rn_field (o' := 0) gr_fa_50_0 rfl rfl) (at_top rfl)) ?_
  refine bl_cons 3 rfl (isV _) (stab_isV _) (rgV (li := [(12, _)]) rfl (w_free rfl) ⟨g_dep 1 (by kernel_rfl) (at_dep rfl rfl rfl), trivial⟩ (fun w hw => rn_load Try.isAgg3 rfl ((below_agree hw 0).cell (Nat.zero_le _) (cell_own (hS.at_ 0 rfl) rfl))) (at_top rfl)) ?_
  refine bl_cons 4 rfl (isV (.bool true)) (stab_isV _) (rg_call [isV _, isV _] rfl gr_goes_39 (w_free rfl) ⟨p_tmp (g_dep 0 (by kernel_rfl) (at_dep rfl rfl rfl)), p_tmp (g_dep 2 (by kernel_rfl) (at_dep rfl rfl rfl)), trivial⟩ (fun vs w' hb hh => by have e := holds_isV (us := [_, _]) hh; subst e; exact (isNode_is ⟨_, vl, vc, _, pl, pc, _, el, ec, es, _, xl, xc, xs, mn, _, ol, oc, os, _, sl, sc, ss, _, tl, tc, ts, _, nl, nc, ns, _, kl, kc, ks⟩ s.f _).mono fun e w2 h => ⟨_, by rw [h.1, hf], rfl, h.2⟩) (at_top rfl)) ?_
  refine bl_cons 5 rfl (isV _) (stab_isV _) (rgV (li := [(14, _)]) rfl (w_free rfl) ⟨g_dep 3 (by kernel_rfl) (at_dep rfl rfl rfl), trivial⟩ (fun w hw => rn_not rfl) (at_top rfl)) ?_
  refine bl_cons 6 rfl (isV _) (stab_isV _) (rgV (li := [(15, _)]) rfl (w_free rfl) ⟨g_dep 4 (by kernel_rfl) (at_dep rfl rfl rfl), trivial⟩ (fun w hw => rn_move rfl) (at_top rfl)) ?_
  refine bl_cons 7 rfl (isV _) (stab_isV _) (rgV (li := [(3, _)]) rfl (w_yes 16 rfl (by kernel_rfl) (by kernel_rfl) (at_dep rfl rfl rfl)) ⟨g_fr (by kernel_rfl) rfl, trivial⟩ (fun w hw => rn_loadA (vs := [_, _, _, _, _, _, _, _, _, _]) Try.isAgg83 Try.sizeOf83 rfl (CellsAt.agree (below_agree hw 0) (Nat.zero_le _) (CellsAt.own (j := 0) (m := 10) (hS.at_ 1 rfl) rfl))) (at_top rfl)) ?_
  refine bl_cons 8 rfl (isV _) (stab_isV _) (rgV (li := [(4, _)]) rfl (w_yes 16 rfl (by kernel_rfl) (by kernel_rfl) (at_dep rfl rfl rfl)) ⟨g_fr (by kernel_rfl) rfl, trivial⟩ (fun w hw => rn_field (o' := 1) gr_fa_50_1 rfl rfl) (at_top rfl)) ?_
  refine bl_cons 9 rfl (isV _) (stab_isV _) (rgV (li := [(18, _)]) rfl (w_yes 16 rfl (by kernel_rfl) (by kernel_rfl) (at_dep rfl rfl rfl)) ⟨g_dep 7 (by kernel_rfl) (at_dep rfl rfl rfl), trivial⟩ (fun w hw => rn_load Try.isAgg3 rfl ((below_agree hw 0).cell (Nat.zero_le _) (cell_own (hS.at_ 0 rfl) rfl))) (at_top rfl)) ?_
  refine bl_cons 10 rfl (isV (.bool false)) (stab_isV _) (rg_call [isV _, isV _] rfl gr_goes_39 (w_yes 16 rfl (by kernel_rfl) (by kernel_rfl) (at_dep rfl rfl rfl)) ⟨p_tmp (g_dep 6 (by kernel_rfl) (at_dep rfl rfl rfl)), p_tmp (g_dep 8 (by kernel_rfl) (at_dep rfl rfl rfl)), trivial⟩ (fun vs w' hb hh => by have e := holds_isV (us := [_, _]) hh; subst e; exact (isNode_is ⟨_, vl, vc, _, pl, pc, _, el, ec, es, _, xl, xc, xs, mn, _, ol, oc, os, _, sl, sc, ss, _, tl, tc, ts, _, nl, nc, ns, _, kl, kc, ks⟩ s.t _).mono fun e w2 h => ⟨_, by rw [h.1, hg], rfl, h.2⟩) (at_top rfl)) ?_
  refine bl_cons 11 rfl (isV _) (stab_isV _) (rgV (li := [(20, _)]) rfl (w_yes 16 rfl (by kernel_rfl) (by kernel_rfl) (at_dep rfl rfl rfl)) ⟨g_dep 9 (by kernel_rfl) (at_dep rfl rfl rfl), trivial⟩ (fun w hw => rn_not rfl) (at_top rfl)) ?_
  refine bl_cons 12 rfl (isV _) (stab_isV _) (rgV (li := [(16, _), (21, _)]) rfl (w_free rfl) ⟨g_dep 5 (by kernel_rfl) (at_dep rfl rfl rfl), g_dep 10 (by kernel_rfl) (at_dep rfl rfl rfl), trivial⟩ (fun w hw => rn_pickF rfl rfl) (at_top rfl)) ?_
  refine bl_cons 13 rfl (isV _) (stab_isV _) (rgV (li := [(22, _)]) rfl (w_free rfl) ⟨g_dep 11 (by kernel_rfl) (at_dep rfl rfl rfl), trivial⟩ (fun w hw => rn_move rfl) (at_top rfl)) ?_
  refine bl_cons 14 rfl (isV undef) (stab_isV _) (rg_no rfl (w_no 23 rfl (by kernel_rfl) (by kernel_rfl) (at_dep rfl rfl rfl) rfl) (at_top rfl)) ?_
  refine bl_cons 15 rfl (isV undef) (stab_isV _) (rg_no rfl (w_no 23 rfl (by kernel_rfl) (by kernel_rfl) (at_dep rfl rfl rfl) rfl) (at_top rfl)) ?_
  refine bl_cons 16 rfl (isV undef) (stab_isV _) (rg_no rfl (w_no 23 rfl (by kernel_rfl) (by kernel_rfl) (at_dep rfl rfl rfl) rfl) (at_top rfl)) ?_
  refine bl_cons 17 rfl (isV undef) (stab_isV _) (rg_no rfl (w_no 23 rfl (by kernel_rfl) (by kernel_rfl) (at_dep rfl rfl rfl) rfl) (at_top rfl)) ?_
  refine bl_cons 18 rfl (isV undef) (stab_isV _) (rg_no rfl (w_no 23 rfl (by kernel_rfl) (by kernel_rfl) (at_dep rfl rfl rfl) rfl) (at_top rfl)) ?_
  refine bl_cons 19 rfl (isV undef) (stab_isV _) (rg_no rfl (w_no 23 rfl (by kernel_rfl) (by kernel_rfl) (at_dep rfl rfl rfl) rfl) (at_top rfl)) ?_
  refine bl_cons 20 rfl (isV undef) (stab_isV _) (rg_no rfl (w_no 23 rfl (by kernel_rfl) (by kernel_rfl) (at_dep rfl rfl rfl) rfl) (at_top rfl)) ?_
  refine bl_cons 21 rfl (isV undef) (stab_isV _) (rg_no rfl (w_no 23 rfl (by kernel_rfl) (by kernel_rfl) (at_dep rfl rfl rfl) rfl) (at_top rfl)) ?_
  refine bl_cons 22 rfl (isV undef) (stab_isV _) (rg_no rfl (w_no 23 rfl (by kernel_rfl) (by kernel_rfl) (at_dep rfl rfl rfl) rfl) (at_top rfl)) ?_
  refine bl_cons 23 rfl (isV undef) (stab_isV _) (rg_no rfl (w_no 23 rfl (by kernel_rfl) (by kernel_rfl) (at_dep rfl rfl rfl) rfl) (at_top rfl)) ?_
  refine bl_cons 24 rfl (isV undef) (stab_isV _) (rg_no rfl (w_no 23 rfl (by kernel_rfl) (by kernel_rfl) (at_dep rfl rfl rfl) rfl) (at_top rfl)) ?_
  refine bl_cons 25 rfl (isV undef) (stab_isV _) (rg_no rfl (w_no 23 rfl (by kernel_rfl) (by kernel_rfl) (at_dep rfl rfl rfl) rfl) (at_top rfl)) ?_
  refine bl_cons 26 rfl (isV undef) (stab_isV _) (rg_no rfl (w_no 23 rfl (by kernel_rfl) (by kernel_rfl) (at_dep rfl rfl rfl) rfl) (at_top rfl)) ?_
  refine bl_cons 27 rfl (isV undef) (stab_isV _) (rg_no rfl (w_no 23 rfl (by kernel_rfl) (by kernel_rfl) (at_dep rfl rfl rfl) rfl) (at_top rfl)) ?_
  refine bl_cons 28 rfl (isV undef) (stab_isV _) (rg_no rfl (w_no 23 rfl (by kernel_rfl) (by kernel_rfl) (at_dep rfl rfl rfl) rfl) (at_top rfl)) ?_
  refine bl_cons 29 rfl (isV _) (stab_isV _) (rgV (li := [(23, _)]) rfl (w_free rfl) ⟨g_dep 12 (by kernel_rfl) (at_dep rfl rfl rfl), trivial⟩ (fun w hw => rn_pickT rfl rfl) (at_top rfl)) ?_
  refine bl_nil ?_
  intro W4 hbR hS'
  clear hS; have hS := hS'; clear hS'
  refine fin_v ?_
  refine fin_v ?_
  refine fin_v ?_
  refine fin_v ?_
  refine fin_v ?_
  refine fin_v ?_
  refine fin_v ?_
  refine fin_v ?_
  refine fin_v ?_
  refine fin_v ?_
  refine fin_v ?_
  refine fin_v ?_
  refine fin_v ?_
  refine fin_v ?_
  refine fin_v ?_
  refine fin_v ?_
  refine fin_v ?_
  refine fin_v ?_
  refine fin_v ?_
  refine fin_v ?_
  refine fin_v ?_
  refine fin_v ?_
  refine fin_v ?_
  refine fin_v ?_
  refine fin_v ?_
  refine fin_v ?_
  refine fin_v ?_
  refine fin_v ?_
  refine fin_v ?_
  refine fin_nil ?_
  refine XF.thenN ?_
  refine condT rfl ?_
  refine seqF (regF ?_)
  refine op_assign rfl rfl ?_
  refine endF (XF.thenN ?_)
  refine retF ?_
  refine XF.thenR ?_
  refine XF.res (res1 Try.results40 rfl) ?_
  exact ⟨gr_rbool (by unfold stepK; dsimp only; rw [if_neg (by rw [hf]; simp), if_pos hg]), hS.below⟩
 ·obtain ⟨kf, ekf, hkf⟩ := inQ_nat hf
  obtain ⟨kt, ekt, hkt⟩ := inQ_nat hg
  obtain ⟨ob, oo, y1, rfl, hy1, hyc1⟩ := ho.get (i := kf) (by omega)
  obtain ⟨ob2, oo2, y2, e2, hy2, hyc2⟩ := ho.get (i := kt) (by omega)
  cases e2
  have k1 := (CellsAt.agree hS.agree (Nat.zero_le _) hyc1).1
  have k2 := (CellsAt.agree hS.agree (Nat.zero_le _) hyc2).1
  have hoe : ofEq os s.f s.t = decide (y1 = y2) := by rw [ekf, ekt]; exact ofEq_at hy1 hy2
  refine regB (m := 29) gr_followsM hS (by kernel_rfl) (by kernel_rfl) rfl ?_
  refine bl_cons 1 rfl (isV _) (stab_isV _) (rgV (li := [(3, _)]) rfl (w_free rfl) ⟨g_fr (by kernel_rfl) rfl, trivial⟩ (fun w hw => rn_loadA (vs := [_, _, _, _, _, _, _, _, _, _]) Try.isAgg83 Try.sizeOf83 rfl (CellsAt.agree (below_agree hw 0) (Nat.zero_le _) (CellsAt.own (j := 0) (m := 10) (hS.at_ 1 rfl) rfl))) (at_top rfl)) ?_
  refine bl_cons 2 rfl (isV _) (stab_isV _) (rgV (li := [(4, _)]) rfl (w_free rfl) ⟨g_fr (by kernel_rfl) rfl, trivial⟩ (fun w hw => rn_field (o' := 0) gr_fa_50_0 rfl rfl) (at_top rfl)) ?_
  refine bl_cons 3 rfl (isV _) (stab_isV _) (rgV (li := [(12, _)]) rfl (w_free rfl) ⟨g_dep 1 (by kernel_rfl) (at_dep rfl rfl rfl), trivial⟩ (fun w hw => rn_load Try.isAgg3 rfl ((below_agree hw 0).cell (Nat.zero_le _) (cell_own (hS.at_ 0 rfl) rfl))) (at_top rfl)) ?_
  refine bl_cons 4 rfl (isV (.bool true)) (stab_isV _) (rg_call [isV _, isV _] rfl gr_goes_39 (w_free rfl) ⟨p_tmp (g_dep 0 (by kernel_rfl) (at_dep rfl rfl rfl)), p_tmp (g_dep 2 (by kernel_rfl) (at_dep rfl rfl rfl)), trivial⟩ (fun vs w' hb hh => by have e := holds_isV (us := [_, _]) hh; subst e; exact (isNode_is ⟨_, vl, vc, _, pl, pc, _, el, ec, es, _, xl, xc, xs, mn, _, ol, oc, os, _, sl, sc, ss, _, tl, tc, ts, _, nl, nc, ns, _, kl, kc, ks⟩ s.f _).mono fun e w2 h => ⟨_, by rw [h.1, hf], rfl, h.2⟩) (at_top rfl)) ?_
  refine bl_cons 5 rfl (isV _) (stab_isV _) (rgV (li := [(14, _)]) rfl (w_free rfl) ⟨g_dep 3 (by kernel_rfl) (at_dep rfl rfl rfl), trivial⟩ (fun w hw => rn_not rfl) (at_top rfl)) ?_
  refine bl_cons 6 rfl (isV _) (stab_isV _) (rgV (li := [(15, _)]) rfl (w_free rfl) ⟨g_dep 4 (by kernel_rfl) (at_dep rfl rfl rfl), trivial⟩ (fun w hw => rn_move rfl) (at_top rfl)) ?_
  refine bl_cons 7 rfl (isV _) (stab_isV _) (rgV (li := [(3, _)]) rfl (w_yes 16 rfl (by kernel_rfl) (by kernel_rfl) (at_dep rfl rfl rfl)) ⟨g_fr (by kernel_rfl) rfl, trivial⟩ (fun w hw => rn_loadA (vs := [_, _, _, _, _, _, _, _, _, _]) Try.isAgg83 Try.sizeOf83 rfl (CellsAt.agree (below_agree hw 0) (Nat.zero_le _) (CellsAt.own (j := 0) (m := 10) (hS.at_ 1 rfl) rfl))) (at_top rfl)) ?_
  refine bl_cons 8 rfl (isV _) (stab_isV _) (rgV (li := [(4, _)]) rfl (w_yes 16 rfl (by kernel_rfl) (by kernel_rfl) (at_dep rfl rfl rfl)) ⟨g_fr (by kernel_rfl) rfl, trivial⟩ (fun w hw => rn_field (o' := 1) gr_fa_50_1 rfl rfl) (at_top rfl)) ?_
  refine bl_cons 9 rfl (isV _) (stab_isV _) (rgV (li := [(18, _)]) rfl (w_yes 16 rfl (by kernel_rfl) (by kernel_rfl) (at_dep rfl rfl rfl)) ⟨g_dep 7 (by kernel_rfl) (at_dep rfl rfl rfl), trivial⟩ (fun w hw => rn_load Try.isAgg3 rfl ((below_agree hw 0).cell (Nat.zero_le _) (cell_own (hS.at_ 0 rfl) rfl))) (at_top rfl)) ?_
  refine bl_cons 10 rfl (isV (.bool true)) (stab_isV _) (rg_call [isV _, isV _] rfl gr_goes_39 (w_yes 16 rfl (by kernel_rfl) (by kernel_rfl) (at_dep rfl rfl rfl)) ⟨p_tmp (g_dep 6 (by kernel_rfl) (at_dep rfl rfl rfl)), p_tmp (g_dep 8 (by kernel_rfl) (at_dep rfl rfl rfl)), trivial⟩ (fun vs w' hb hh => by have e := holds_isV (us := [_, _]) hh; subst e; exact (isNode_is ⟨_, vl, vc, _, pl, pc, _, el, ec, es, _, xl, xc, xs, mn, _, ol, oc, os, _, sl, sc, ss, _, tl, tc, ts, _, nl, nc, ns, _, kl, kc, ks⟩ s.t _).mono fun e w2 h => ⟨_, by rw [h.1, hg], rfl, h.2⟩) (at_top rfl)) ?_
  refine bl_cons 11 rfl (isV _) (stab_isV _) (rgV (li := [(20, _)]) rfl (w_yes 16 rfl (by kernel_rfl) (by kernel_rfl) (at_dep rfl rfl rfl)) ⟨g_dep 9 (by kernel_rfl) (at_dep rfl rfl rfl), trivial⟩ (fun w hw => rn_not rfl) (at_top rfl)) ?_
  refine bl_cons 12 rfl (isV _) (stab_isV _) (rgV (li := [(16, _), (21, _)]) rfl (w_free rfl) ⟨g_dep 5 (by kernel_rfl) (at_dep rfl rfl rfl), g_dep 10 (by kernel_rfl) (at_dep rfl rfl rfl), trivial⟩ (fun w hw => rn_pickF rfl rfl) (at_top rfl)) ?_
  refine bl_cons 13 rfl (isV _) (stab_isV _) (rgV (li := [(22, _)]) rfl (w_free rfl) ⟨g_dep 11 (by kernel_rfl) (at_dep rfl rfl rfl), trivial⟩ (fun w hw => rn_move rfl) (at_top rfl)) ?_
  refine bl_cons 14 rfl (isV _) (stab_isV _) (rgV (li := [(3, _)]) rfl (w_yes 23 rfl (by kernel_rfl) (by kernel_rfl) (at_dep rfl rfl rfl)) ⟨g_fr (by kernel_rfl) rfl, trivial⟩ (fun w hw => rn_field (o' := 0) gr_fa_83_0 rfl rfl) (at_top rfl)) ?_
  refine bl_cons 15 rfl (isV _) (stab_isV _) (rgV (li := [(24, _)]) rfl (w_yes 23 rfl (by kernel_rfl) (by kernel_rfl) (at_dep rfl rfl rfl)) ⟨g_dep 13 (by kernel_rfl) (at_dep rfl rfl rfl), trivial⟩ (fun w hw => rn_field (o' := 5) gr_fa_29_5 rfl rfl) (at_top rfl)) ?_
  refine bl_cons 16 rfl (isV _) (stab_isV _) (rgV (li := [(25, _)]) rfl (w_yes 23 rfl (by kernel_rfl) (by kernel_rfl) (at_dep rfl rfl rfl)) ⟨g_dep 14 (by kernel_rfl) (at_dep rfl rfl rfl), trivial⟩ (fun w hw => rn_load Try.isAgg23 rfl ((below_agree hw 0).cell (Nat.zero_le _) (cell_own (hS.at_ 1 rfl) rfl))) (at_top rfl)) ?_
  refine bl_cons 17 rfl (isV _) (stab_isV _) (rgV (li := [(4, _)]) rfl (w_yes 23 rfl (by kernel_rfl) (by kernel_rfl) (at_dep rfl rfl rfl)) ⟨g_fr (by kernel_rfl) rfl, trivial⟩ (fun w hw => rn_field (o' := 0) gr_fa_50_0 rfl rfl) (at_top rfl)) ?_
  refine bl_cons 18 rfl (isV _) (stab_isV _) (rgV (li := [(27, _)]) rfl (w_yes 23 rfl (by kernel_rfl) (by kernel_rfl) (at_dep rfl rfl rfl)) ⟨g_dep 16 (by kernel_rfl) (at_dep rfl rfl rfl), trivial⟩ (fun w hw => rn_load Try.isAgg3 rfl ((below_agree hw 0).cell (Nat.zero_le _) (cell_own (hS.at_ 0 rfl) rfl))) (at_top rfl)) ?_
  refine bl_cons 19 rfl (isV _) (stab_isV _) (rgV (li := [(26, _), (28, _)]) rfl (w_yes 23 rfl (by kernel_rfl) (by kernel_rfl) (at_dep rfl rfl rfl)) ⟨g_dep 15 (by kernel_rfl) (at_dep rfl rfl rfl), g_dep 17 (by kernel_rfl) (at_dep rfl rfl rfl), trivial⟩ (fun w hw => rn_indexA (j := kf) Try.underlying23 Try.sizeOf3 rfl rfl (by omega) (by omega) rfl) (at_top rfl)) ?_
  refine bl_cons 20 rfl (isV _) (stab_isV _) (rgV (li := [(29, _)]) rfl (w_yes 23 rfl (by kernel_rfl) (by kernel_rfl) (at_dep rfl rfl rfl)) ⟨g_dep 18 (by kernel_rfl) (at_dep rfl rfl rfl), trivial⟩ (fun w hw => rn_load Try.isAgg3 rfl ((below_agree hw 0).cell (Nat.zero_le _) (k1))) (at_top rfl)) ?_
  refine bl_cons 21 rfl (isV _) (stab_isV _) (rgV (li := [(3, _)]) rfl (w_yes 23 rfl (by kernel_rfl) (by kernel_rfl) (at_dep rfl rfl rfl)) ⟨g_fr (by kernel_rfl) rfl, trivial⟩ (fun w hw => rn_field (o' := 0) gr_fa_83_0 rfl rfl) (at_top rfl)) ?_
  refine bl_cons 22 rfl (isV _) (stab_isV _) (rgV (li := [(31, _)]) rfl (w_yes 23 rfl (by kernel_rfl) (by kernel_rfl) (at_dep rfl rfl rfl)) ⟨g_dep 20 (by kernel_rfl) (at_dep rfl rfl rfl), trivial⟩ (fun w hw => rn_field (o' := 5) gr_fa_29_5 rfl rfl) (at_top rfl)) ?_
  refine bl_cons 23 rfl (isV _) (stab_isV _) (rgV (li := [(32, _)]) rfl (w_yes 23 rfl (by kernel_rfl) (by kernel_rfl) (at_dep rfl rfl rfl)) ⟨g_dep 21 (by kernel_rfl) (at_dep rfl rfl rfl), trivial⟩ (fun w hw => rn_load Try.isAgg23 rfl ((below_agree hw 0).cell (Nat.zero_le _) (cell_own (hS.at_ 1 rfl) rfl))) (at_top rfl)) ?_
  refine bl_cons 24 rfl (isV _) (stab_isV _) (rgV (li := [(4, _)]) rfl (w_yes 23 rfl (by kernel_rfl) (by kernel_rfl) (at_dep rfl rfl rfl)) ⟨g_fr (by kernel_rfl) rfl, trivial⟩ (fun w hw => rn_field (o' := 1) gr_fa_50_1 rfl rfl) (at_top rfl)) ?_
  refine bl_cons 25 rfl (isV _) (stab_isV _) (rgV (li := [(34, _)]) rfl (w_yes 23 rfl (by kernel_rfl) (by kernel_rfl) (at_dep rfl rfl rfl)) ⟨g_dep 23 (by kernel_rfl) (at_dep rfl rfl rfl), trivial⟩ (fun w hw => rn_load Try.isAgg3 rfl ((below_agree hw 0).cell (Nat.zero_le _) (cell_own (hS.at_ 0 rfl) rfl))) (at_top rfl)) ?_
  refine bl_cons 26 rfl (isV _) (stab_isV _) (rgV (li := [(33, _), (35, _)]) rfl (w_yes 23 rfl (by kernel_rfl) (by kernel_rfl) (at_dep rfl rfl rfl)) ⟨g_dep 22 (by kernel_rfl) (at_dep rfl rfl rfl), g_dep 24 (by kernel_rfl) (at_dep rfl rfl rfl), trivial⟩ (fun w hw => rn_indexA (j := kt) Try.underlying23 Try.sizeOf3 rfl rfl (by omega) (by omega) rfl) (at_top rfl)) ?_
  refine bl_cons 27 rfl (isV _) (stab_isV _) (rgV (li := [(36, _)]) rfl (w_yes 23 rfl (by kernel_rfl) (by kernel_rfl) (at_dep rfl rfl rfl)) ⟨g_dep 25 (by kernel_rfl) (at_dep rfl rfl rfl), trivial⟩ (fun w hw => rn_load Try.isAgg3 rfl ((below_agree hw 0).cell (Nat.zero_le _) (k2))) (at_top rfl)) ?_
  refine bl_cons 28 rfl (isV _) (stab_isV _) (rgV (li := [(30, _), (37, _)]) rfl (w_yes 23 rfl (by kernel_rfl) (by kernel_rfl) (at_dep rfl rfl rfl)) ⟨g_dep 19 (by kernel_rfl) (at_dep rfl rfl rfl), g_dep 26 (by kernel_rfl) (at_dep rfl rfl rfl), trivial⟩ (fun w hw => rn_neq rfl rfl) (at_top rfl)) ?_
  refine bl_cons 29 rfl (isV _) (stab_isV _) (rgV (li := [(23, _), (38, _)]) rfl (w_free rfl) ⟨g_dep 12 (by kernel_rfl) (at_dep rfl rfl rfl), g_dep 27 (by kernel_rfl) (at_dep rfl rfl rfl), trivial⟩ (fun w hw => rn_pickF rfl rfl) (at_top rfl)) ?_
  refine bl_nil ?_
  intro W5 hbR hS'
  clear hS; have hS := hS'; clear hS'
  refine fin_v ?_
  refine fin_v ?_
  refine fin_v ?_
  refine fin_v ?_
  refine fin_v ?_
  refine fin_v ?_
  refine fin_v ?_
  refine fin_v ?_
  refine fin_v ?_
  refine fin_v ?_
  refine fin_v ?_
  refine fin_v ?_
  refine fin_v ?_
  refine fin_v ?_
  refine fin_v ?_
  refine fin_v ?_
  refine fin_v ?_
  refine fin_v ?_
  refine fin_v ?_
  refine fin_v ?_
  refine fin_v ?_
  refine fin_v ?_
  refine fin_v ?_
  refine fin_v ?_
  refine fin_v ?_
  refine fin_v ?_
  refine fin_v ?_
  refine fin_v ?_
  refine fin_v ?_
  refine fin_nil ?_
  refine XF.thenN ?_
  refine condF rfl (fun hc => ?_) (fun hc => ?_)
  ·have hc39 := hc; clear hc
   refine seqF (regF ?_)
   refine op_assign rfl rfl ?_
   refine endF (XF.thenN ?_)
   refine retF ?_
   refine XF.thenR ?_
   refine XF.res (res1 Try.results40 rfl) ?_
   have hne := of_decide_eq_true hc39
   exact ⟨gr_rbool (by unfold stepK; dsimp only; rw [if_neg (by rw [hf]; simp), if_neg (by rw [hg]; simp), if_pos (by rw [hoe]; exact decide_eq_false hne)]), hS.below⟩
  ·have hc39 := hc; clear hc
   have hee : y1 = y2 := Decidable.of_not_not (of_decide_eq_false hc39)
   have hkk : stepK ⟨va, vl, vc, pa, pl, pc, ea, el, ec, es, xa, xl, xc, xs, mn, some ⟨ob, oo, none⟩, ol, oc, os, sa, sl, sc, ss, ta, tl, tc, ts, na, nl, nc, ns, ka, kl, kc, ks⟩ s n = kindB ⟨va, vl, vc, pa, pl, pc, ea, el, ec, es, xa, xl, xc, xs, mn, some ⟨ob, oo, none⟩, ol, oc, os, sa, sl, sc, ss, ta, tl, tc, ts, na, nl, nc, ns, ka, kl, kc, ks⟩ s n := by unfold stepK; dsimp only; rw [if_neg (by rw [hf]; simp), if_neg (by rw [hg]; simp), if_neg (by rw [hoe, hee]; simp)]
   refine skipF ?_
   refine XF.thenN ?_
   refine seqF ?_
   refine regB (m := 16) gr_followsM hS (by kernel_rfl) (by kernel_rfl) rfl ?_
   refine bl_cons 1 rfl (isV _) (stab_isV _) (rgV (li := [(4, _)]) rfl (w_free rfl) ⟨g_fr (by kernel_rfl) rfl, trivial⟩ (fun w hw => rn_field (o' := 3) gr_fa_50_3 rfl rfl) (at_top rfl)) ?_
   refine bl_cons 2 rfl (isV _) (stab_isV _) (rgV (li := [(40, _)]) rfl (w_free rfl) ⟨g_dep 0 (by kernel_rfl) (at_dep rfl rfl rfl), trivial⟩ (fun w hw => rn_load Try.isAgg3 rfl ((below_agree hw 0).cell (Nat.zero_le _) (cell_own (hS.at_ 0 rfl) rfl))) (at_top rfl)) ?_
   refine bl_cons 3 rfl (isV _) (stab_isV _) (rgV (li := [(41, _)]) rfl (w_free rfl) ⟨g_dep 1 (by kernel_rfl) (at_dep rfl rfl rfl), trivial⟩ (fun w hw => rn_eql rfl rfl) (at_top rfl)) ?_
   refine bl_cons 4 rfl (isV _) (stab_isV _) (rgV (li := [(4, _)]) rfl (w_free rfl) ⟨g_fr (by kernel_rfl) rfl, trivial⟩ (fun w hw => rn_field (o' := 4) gr_fa_50_4 rfl rfl) (at_top rfl)) ?_
   refine bl_cons 5 rfl (isV _) (stab_isV _) (rgV (li := [(43, _)]) rfl (w_free rfl) ⟨g_dep 3 (by kernel_rfl) (at_dep rfl rfl rfl), trivial⟩ (fun w hw => rn_load Try.isAgg3 rfl ((below_agree hw 0).cell (Nat.zero_le _) (cell_own (hS.at_ 0 rfl) rfl))) (at_top rfl)) ?_
   refine bl_cons 6 rfl (isV _) (stab_isV _) (rgV (li := [(44, _)]) rfl (w_free rfl) ⟨g_dep 4 (by kernel_rfl) (at_dep rfl rfl rfl), trivial⟩ (fun w hw => rn_eql rfl rfl) (at_top rfl)) ?_
   refine bl_cons 7 rfl (isV _) (stab_isV _) (rgV (li := [(4, _)]) rfl (w_free rfl) ⟨g_fr (by kernel_rfl) rfl, trivial⟩ (fun w hw => rn_field (o' := 5) gr_fa_50_5 rfl rfl) (at_top rfl)) ?_
   refine bl_cons 8 rfl (isV _) (stab_isV _) (rgV (li := [(46, _)]) rfl (w_free rfl) ⟨g_dep 6 (by kernel_rfl) (at_dep rfl rfl rfl), trivial⟩ (fun w hw => rn_load Try.isAgg2 rfl ((below_agree hw 0).cell (Nat.zero_le _) (cell_own (hS.at_ 0 rfl) rfl))) (at_top rfl)) ?_
   refine bl_cons 9 rfl (isV _) (stab_isV _) (rgV (li := [(47, _)]) rfl (w_free rfl) ⟨g_dep 7 (by kernel_rfl) (at_dep rfl rfl rfl), trivial⟩ (fun w hw => rn_eql rfl rfl) (at_top rfl)) ?_
   refine bl_cons 10 rfl (isV _) (stab_isV _) (rgV (li := [(4, _)]) rfl (w_free rfl) ⟨g_fr (by kernel_rfl) rfl, trivial⟩ (fun w hw => rn_field (o' := 6) gr_fa_50_6 rfl rfl) (at_top rfl)) ?_
   refine bl_cons 11 rfl (isV _) (stab_isV _) (rgV (li := [(49, _)]) rfl (w_free rfl) ⟨g_dep 9 (by kernel_rfl) (at_dep rfl rfl rfl), trivial⟩ (fun w hw => rn_load Try.isAgg3 rfl ((below_agree hw 0).cell (Nat.zero_le _) (cell_own (hS.at_ 0 rfl) rfl))) (at_top rfl)) ?_
   refine bl_cons 12 rfl (isV _) (stab_isV _) (rgV (li := [(50, _)]) rfl (w_free rfl) ⟨g_dep 10 (by kernel_rfl) (at_dep rfl rfl rfl), trivial⟩ (fun w hw => rn_eql rfl rfl) (at_top rfl)) ?_
   refine bl_cons 13 rfl (isV _) (stab_isV _) (rgV (li := [(42, _)]) rfl (w_free rfl) ⟨g_dep 2 (by kernel_rfl) (at_dep rfl rfl rfl), trivial⟩ (fun w hw => rn_assign rfl) (at_top rfl)) ?_
   refine bl_cons 14 rfl (isV _) (stab_isV _) (rgV (li := [(45, _)]) rfl (w_free rfl) ⟨g_dep 5 (by kernel_rfl) (at_dep rfl rfl rfl), trivial⟩ (fun w hw => rn_assign rfl) (at_top rfl)) ?_
   refine bl_cons 15 rfl (isV _) (stab_isV _) (rgV (li := [(48, _)]) rfl (w_free rfl) ⟨g_dep 8 (by kernel_rfl) (at_dep rfl rfl rfl), trivial⟩ (fun w hw => rn_assign rfl) (at_top rfl)) ?_
   refine bl_cons 16 rfl (isV _) (stab_isV _) (rgV (li := [(51, _)]) rfl (w_free rfl) ⟨g_dep 11 (by kernel_rfl) (at_dep rfl rfl rfl), trivial⟩ (fun w hw => rn_assign rfl) (at_top rfl)) ?_
   refine bl_nil ?_
   intro W6 hbR hS'
   clear hS; have hS := hS'; clear hS'
   refine fin_v ?_
   refine fin_v ?_
   refine fin_v ?_
   refine fin_v ?_
   refine fin_v ?_
   refine fin_v ?_
   refine fin_v ?_
   refine fin_v ?_
   refine fin_v ?_
   refine fin_v ?_
   refine fin_v ?_
   refine fin_v ?_
   refine fin_v ?_
   refine fin_v ?_
   refine fin_v ?_
   refine fin_v ?_
   refine fin_nil ?_
   refine XF.thenN ?_
   refine joinF (fun l W => ∃ bx by_ bk bs : Bool, l = [(7, .bool bx), (8, .bool by_), (9, .bool bk), (10, .bool bs)] ∧ (bx && (by_ && (bk && bs))) = kindB ⟨va, vl, vc, pa, pl, pc, ea, el, ec, es, xa, xl, xc, xs, mn, some ⟨ob, oo, none⟩, ol, oc, os, sa, sl, sc, ss, ta, tl, tc, ts, na, nl, nc, ns, ka, kl, kc, ks⟩ s n ∧ St w [] [] [] W) ?_ ?_
   ·clear hS
    rintro _ W ⟨bx, by_, bk, bs, rfl, hkb, hS⟩
    refine seqF (regF ?_)
    refine op_move rfl rfl ?_
    refine op_move rfl rfl ?_
    refine op_cases (d := 115) rfl (fun hc => ?_) (fun hc => ?_)
    ·have hg115 := hc; clear hc
     subst hg115
     refine op_wantedF (d := 115) rfl rfl ?_
     refine op_move rfl rfl ?_
     refine op_pickT rfl rfl rfl ?_
     refine op_move rfl rfl ?_
     refine op_cases (d := 118) rfl (fun hc => ?_) (fun hc => ?_)
     ·have hg118 := hc; clear hc
      subst hg118
      refine op_wantedF (d := 118) rfl rfl ?_
      refine op_move rfl rfl ?_
      refine op_pickT rfl rfl rfl ?_
      refine op_move rfl rfl ?_
      refine op_cases (d := 121) rfl (fun hc => ?_) (fun hc => ?_)
      ·have hg121 := hc; clear hc
       subst hg121
       refine op_wantedF (d := 121) rfl rfl ?_
       refine op_move rfl rfl ?_
       refine op_pickT rfl rfl rfl ?_
       refine op_assign rfl rfl ?_
       refine endF (XF.thenN ?_)
       refine retF ?_
       refine XF.res (res1 Try.results40 rfl) ?_
       exact ⟨gr_rbool (by rw [hkk, ← hkb]; rfl), hS.below⟩
      ·have hg121 := hc; clear hc
       subst hg121
       refine op_notF (d := 121) rfl rfl rfl rfl ?_
       refine op_pickF rfl rfl rfl ?_
       refine op_assign rfl rfl ?_
       refine endF (XF.thenN ?_)
       refine retF ?_
       refine XF.res (res1 Try.results40 rfl) ?_
       exact ⟨gr_rbool (by rw [hkk, ← hkb]; rfl), hS.below⟩
     ·have hg118 := hc; clear hc
      subst hg118
      refine op_notF (d := 118) rfl rfl rfl rfl ?_
      refine op_pickF rfl rfl rfl ?_
      refine op_move rfl rfl ?_
      refine op_notF (d := 121) rfl rfl rfl rfl ?_
      refine op_pickF rfl rfl rfl ?_
      refine op_assign rfl rfl ?_
      refine endF (XF.thenN ?_)
      refine retF ?_
      refine XF.res (res1 Try.results40 rfl) ?_
      exact ⟨gr_rbool (by rw [hkk, ← hkb]; rfl), hS.below⟩
    ·have hg115 := hc; clear hc
     subst hg115
     refine op_notF (d := 115) rfl rfl rfl rfl ?_
     refine op_pickF rfl rfl rfl ?_
     refine op_move rfl rfl ?_
     refine op_notF (d := 118) rfl rfl rfl rfl ?_
     refine op_pickF rfl rfl rfl ?_
     refine op_move rfl rfl ?_
     refine op_notF (d := 121) rfl rfl rfl rfl ?_
     refine op_pickF rfl rfl rfl ?_
     refine op_assign rfl rfl ?_
     refine endF (XF.thenN ?_)
     refine retF ?_
     refine XF.res (res1 Try.results40 rfl) ?_
     exact ⟨gr_rbool (by rw [hkk, ← hkb]; rfl), hS.below⟩
   ·skip
    refine seqF (regF ?_)
    refine op_field (o' := 2) gr_fa_50_2 rfl rfl rfl ?_
    refine op_load Try.isAgg48 rfl (cell_own (hS.at_ 0 rfl) rfl) rfl ?_
    refine endF (XF.thenN ?_)
    refine blockF ?_
    refine seqF ?_
    refine blockF ?_
    refine seqF ?_
    refine blockF ?_
    refine seqF ?_
    refine blockF ?_
    refine seqF ?_
    refine blockF ?_
    refine seqF ?_
    refine blockF ?_
    refine seqF ?_
    refine blockF ?_
    refine seqF ?_
    refine seqF ?_
    refine seqF (regF ?_)
    refine op_eql rfl rfl rfl ?_
    refine op_assign rfl rfl ?_
    refine endF (XF.thenN ?_)
    refine condF rfl (fun hc => ?_) (fun hc => ?_)
    ·have hc54 := of_decide_eq_true hc; clear hc
     have h1 : s.k = 1 := hc54
     refine exitF ?_
     refine XF.thenX ?_
     refine XF.thenX ?_
     refine XF.blkX ?_
     refine XF.thenN ?_
     refine exitF ?_
     refine XF.blkO rfl ?_
     refine XF.thenX ?_
     refine XF.blkO rfl ?_
     refine XF.thenX ?_
     refine XF.blkO rfl ?_
     refine XF.thenX ?_
     refine XF.blkO rfl ?_
     refine XF.thenX ?_
     refine XF.blkO rfl ?_
     refine XF.thenX ?_
     refine XF.blkX ?_
     exact XF.join [(7, .bool (decide (s.x = 0))), (8, .bool (decide (s.y = 0))), (9, .bool (decide (s.kk = 0))), (10, .bool (decide (s.s = 0)))] ⟨rfl, rfl, rfl, rfl, trivial⟩ ⟨_, _, _, _, rfl, by unfold kindB; rw [if_pos h1], hS.tail.tail.clear⟩
    ·have hc54 := of_decide_eq_false hc; clear hc
     have n1 : ¬ s.k = 1 := hc54
     refine skipF ?_
     refine XF.thenN ?_
     refine seqF ?_
     refine seqF (regF ?_)
     refine op_eql rfl rfl rfl ?_
     refine op_assign rfl rfl ?_
     refine endF (XF.thenN ?_)
     refine condF rfl (fun hc => ?_) (fun hc => ?_)
     ·have hc56 := of_decide_eq_true hc; clear hc
      have h8 : s.k = 8 := hc56
      refine exitF ?_
      refine XF.thenX ?_
      refine XF.thenX ?_
      refine XF.blkO rfl ?_
      refine XF.thenX ?_
      refine XF.blkX ?_
      refine XF.thenN ?_
      refine seqF ?_
      rcases (site_cases (ts := ts) s n) with hsn | ⟨hsn, hnt⟩ | ⟨hsn, hnt, u0, hu0, hfr⟩ | ⟨hsn, hnt, u0, hu0, hfr⟩
      ·have hsc : siteC ts s n = false := by unfold siteC; rw [decide_eq_false hsn]; rfl
       refine regB (m := 37) gr_followsM hS (by kernel_rfl) (by kernel_rfl) rfl ?_
       refine bl_cons 1 rfl (isV _) (stab_isV _) (rgV (li := [(4, _)]) rfl (w_free rfl) ⟨g_fr (by kernel_rfl) rfl, trivial⟩ (fun w hw => rn_field (o' := 6) gr_fa_50_6 rfl rfl) (at_top rfl)) ?_
       refine bl_cons 2 rfl (isV _) (stab_isV _) (rgV (li := [(66, _)]) rfl (w_free rfl) ⟨g_dep 0 (by kernel_rfl) (at_dep rfl rfl rfl), trivial⟩ (fun w hw => rn_load Try.isAgg3 rfl ((below_agree hw 0).cell (Nat.zero_le _) (cell_own (hS.at_ 0 rfl) rfl))) (at_top rfl)) ?_
       refine bl_cons 3 rfl (isV _) (stab_isV _) (rgV (li := [(2, _)]) rfl (w_free rfl) ⟨g_fr (by kernel_rfl) rfl, trivial⟩ (fun w hw => rn_move rfl) (at_top rfl)) ?_
       refine bl_cons 4 rfl (isV (.bool false)) (stab_isV _) (rgVe (li := [(67, _), (68, _)]) rfl (w_free rfl) ⟨g_dep 1 (by kernel_rfl) (at_dep rfl rfl rfl), g_dep 2 (by kernel_rfl) (at_dep rfl rfl rfl), trivial⟩ (fun w hw => rn_eql rfl rfl) (by rw [decide_eq_false hsn]) (at_top rfl)) ?_
       refine bl_cons 5 rfl (isV _) (stab_isV _) (rgV (li := [(69, _)]) rfl (w_free rfl) ⟨g_dep 3 (by kernel_rfl) (at_dep rfl rfl rfl), trivial⟩ (fun w hw => rn_move rfl) (at_top rfl)) ?_
       refine bl_cons 6 rfl (isV undef) (stab_isV _) (rg_no rfl (w_no 70 rfl (by kernel_rfl) (by kernel_rfl) (at_dep rfl rfl rfl) rfl) (at_top rfl)) ?_
       refine bl_cons 7 rfl (isV undef) (stab_isV _) (rg_no rfl (w_no 70 rfl (by kernel_rfl) (by kernel_rfl) (at_dep rfl rfl rfl) rfl) (at_top rfl)) ?_
       refine bl_cons 8 rfl (isV undef) (stab_isV _) (rg_no rfl (w_no 70 rfl (by kernel_rfl) (by kernel_rfl) (at_dep rfl rfl rfl) rfl) (at_top rfl)) ?_
       refine bl_cons 9 rfl (isV undef) (stab_isV _) (rg_no rfl (w_no 70 rfl (by kernel_rfl) (by kernel_rfl) (at_dep rfl rfl rfl) rfl) (at_top rfl)) ?_
       refine bl_cons 10 rfl (isV undef) (stab_isV _) (rg_no rfl (w_no 70 rfl (by kernel_rfl) (by kernel_rfl) (at_dep rfl rfl rfl) rfl) (at_top rfl)) ?_
       refine bl_cons 11 rfl (isV undef) (stab_isV _) (rg_no rfl (w_no 70 rfl (by kernel_rfl) (by kernel_rfl) (at_dep rfl rfl rfl) rfl) (at_top rfl)) ?_
       refine bl_cons 12 rfl (isV _) (stab_isV _) (rgV (li := [(70, _)]) rfl (w_free rfl) ⟨g_dep 4 (by kernel_rfl) (at_dep rfl rfl rfl), trivial⟩ (fun w hw => rn_pickF rfl rfl) (at_top rfl)) ?_
       refine bl_cons 13 rfl (isV _) (stab_isV _) (rgV (li := [(77, _)]) rfl (w_free rfl) ⟨g_dep 11 (by kernel_rfl) (at_dep rfl rfl rfl), trivial⟩ (fun w hw => rn_move rfl) (at_top rfl)) ?_
       refine bl_cons 14 rfl (isV undef) (stab_isV _) (rg_no rfl (w_no 78 rfl (by kernel_rfl) (by kernel_rfl) (at_dep rfl rfl rfl) rfl) (at_top rfl)) ?_
       refine bl_cons 15 rfl (isV undef) (stab_isV _) (rg_no rfl (w_no 78 rfl (by kernel_rfl) (by kernel_rfl) (at_dep rfl rfl rfl) rfl) (at_top rfl)) ?_
       refine bl_cons 16 rfl (isV undef) (stab_isV _) (rg_no rfl (w_no 78 rfl (by kernel_rfl) (by kernel_rfl) (at_dep rfl rfl rfl) rfl) (at_top rfl)) ?_
       refine bl_cons 17 rfl (isV undef) (stab_isV _) (rg_no rfl (w_no 78 rfl (by kernel_rfl) (by kernel_rfl) (at_dep rfl rfl rfl) rfl) (at_top rfl)) ?_
       refine bl_cons 18 rfl (isV undef) (stab_isV _) (rg_no rfl (w_no 78 rfl (by kernel_rfl) (by kernel_rfl) (at_dep rfl rfl rfl) rfl) (at_top rfl)) ?_
       refine bl_cons 19 rfl (isV undef) (stab_isV _) (rg_no rfl (w_no 78 rfl (by kernel_rfl) (by kernel_rfl) (at_dep rfl rfl rfl) rfl) (at_top rfl)) ?_
       refine bl_cons 20 rfl (isV undef) (stab_isV _) (rg_no rfl (w_no 78 rfl (by kernel_rfl) (by kernel_rfl) (at_dep rfl rfl rfl) rfl) (at_top rfl)) ?_
       refine bl_cons 21 rfl (isV undef) (stab_isV _) (rg_no rfl (w_no 78 rfl (by kernel_rfl) (by kernel_rfl) (at_dep rfl rfl rfl) rfl) (at_top rfl)) ?_
       refine bl_cons 22 rfl (isV undef) (stab_isV _) (rg_no rfl (w_no 78 rfl (by kernel_rfl) (by kernel_rfl) (at_dep rfl rfl rfl) rfl) (at_top rfl)) ?_
       refine bl_cons 23 rfl (isV undef) (stab_isV _) (rg_no rfl (w_no 78 rfl (by kernel_rfl) (by kernel_rfl) (at_dep rfl rfl rfl) rfl) (at_top rfl)) ?_
       refine bl_cons 24 rfl (isV _) (stab_isV _) (rgV (li := [(78, _)]) rfl (w_free rfl) ⟨g_dep 12 (by kernel_rfl) (at_dep rfl rfl rfl), trivial⟩ (fun w hw => rn_pickF rfl rfl) (at_top rfl)) ?_
       refine bl_cons 25 rfl (isV _) (stab_isV _) (rgV (li := [(89, _)]) rfl (w_free rfl) ⟨g_dep 23 (by kernel_rfl) (at_dep rfl rfl rfl), trivial⟩ (fun w hw => rn_move rfl) (at_top rfl)) ?_
       refine bl_cons 26 rfl (isV undef) (stab_isV _) (rg_no rfl (w_no 90 rfl (by kernel_rfl) (by kernel_rfl) (at_dep rfl rfl rfl) rfl) (at_top rfl)) ?_
       refine bl_cons 27 rfl (isV undef) (stab_isV _) (rg_no rfl (w_no 90 rfl (by kernel_rfl) (by kernel_rfl) (at_dep rfl rfl rfl) rfl) (at_top rfl)) ?_
       refine bl_cons 28 rfl (isV undef) (stab_isV _) (rg_no rfl (w_no 90 rfl (by kernel_rfl) (by kernel_rfl) (at_dep rfl rfl rfl) rfl) (at_top rfl)) ?_
       refine bl_cons 29 rfl (isV undef) (stab_isV _) (rg_no rfl (w_no 90 rfl (by kernel_rfl) (by kernel_rfl) (at_dep rfl rfl rfl) rfl) (at_top rfl)) ?_
       refine bl_cons 30 rfl (isV undef) (stab_isV _) (rg_no rfl (w_no 90 rfl (by kernel_rfl) (by kernel_rfl) (at_dep rfl rfl rfl) rfl) (at_top rfl)) ?_
       refine bl_cons 31 rfl (isV undef) (stab_isV _) (rg_no rfl (w_no 90 rfl (by kernel_rfl) (by kernel_rfl) (at_dep rfl rfl rfl) rfl) (at_top rfl)) ?_
       refine bl_cons 32 rfl (isV undef) (stab_isV _) (rg_no rfl (w_no 90 rfl (by kernel_rfl) (by kernel_rfl) (at_dep rfl rfl rfl) rfl) (at_top rfl)) ?_
       refine bl_cons 33 rfl (isV undef) (stab_isV _) (rg_no rfl (w_no 90 rfl (by kernel_rfl) (by kernel_rfl) (at_dep rfl rfl rfl) rfl) (at_top rfl)) ?_
       refine bl_cons 34 rfl (isV undef) (stab_isV _) (rg_no rfl (w_no 90 rfl (by kernel_rfl) (by kernel_rfl) (at_dep rfl rfl rfl) rfl) (at_top rfl)) ?_
       refine bl_cons 35 rfl (isV undef) (stab_isV _) (rg_no rfl (w_no 90 rfl (by kernel_rfl) (by kernel_rfl) (at_dep rfl rfl rfl) rfl) (at_top rfl)) ?_
       refine bl_cons 36 rfl (isV _) (stab_isV _) (rgV (li := [(90, _)]) rfl (w_free rfl) ⟨g_dep 24 (by kernel_rfl) (at_dep rfl rfl rfl), trivial⟩ (fun w hw => rn_pickF rfl rfl) (at_top rfl)) ?_
       refine bl_cons 37 rfl (isV _) (stab_isV _) (rgV (li := [(101, _)]) rfl (w_free rfl) ⟨g_dep 35 (by kernel_rfl) (at_dep rfl rfl rfl), trivial⟩ (fun w hw => rn_assign rfl) (at_top rfl)) ?_
       refine bl_nil ?_
       intro W7 hbR hS'
       clear hS; have hS := hS'; clear hS'
       refine fin_v ?_
       refine fin_v ?_
       refine fin_v ?_
       refine fin_v ?_
       refine fin_v ?_
       refine fin_v ?_
       refine fin_v ?_
       refine fin_v ?_
       refine fin_v ?_
       refine fin_v ?_
       refine fin_v ?_
       refine fin_v ?_
       refine fin_v ?_
       refine fin_v ?_
       refine fin_v ?_
       refine fin_v ?_
       refine fin_v ?_
       refine fin_v ?_
       refine fin_v ?_
       refine fin_v ?_
       refine fin_v ?_
       refine fin_v ?_
       refine fin_v ?_
       refine fin_v ?_
       refine fin_v ?_
       refine fin_v ?_
       refine fin_v ?_
       refine fin_v ?_
       refine fin_v ?_
       refine fin_v ?_
       refine fin_v ?_
       refine fin_v ?_
       refine fin_v ?_
       refine fin_v ?_
       refine fin_v ?_
       refine fin_v ?_
       refine fin_v ?_
       refine fin_nil ?_
       refine XF.thenN ?_
       refine exitF ?_
       refine XF.blkO rfl ?_
       refine XF.thenX ?_
       refine XF.blkO rfl ?_
       refine XF.thenX ?_
       refine XF.blkO rfl ?_
       refine XF.thenX ?_
       refine XF.blkO rfl ?_
       refine XF.thenX ?_
       refine XF.blkX ?_
       exact XF.join [(7, .bool (decide (s.x = 0))), (8, .bool (decide (s.y = 0))), (9, .bool (decide (s.kk = 0))), (10, .bool (false))] ⟨rfl, rfl, rfl, rfl, trivial⟩ ⟨_, _, _, _, rfl, by unfold kindB; rw [if_neg n1, if_pos h8, hsc], hS.tail.tail.clear⟩
      ·have hsc : siteC ts s n = false := siteC_out (by omega)
       refine regB (m := 37) gr_followsM hS (by kernel_rfl) (by kernel_rfl) rfl ?_
       refine bl_cons 1 rfl (isV _) (stab_isV _) (rgV (li := [(4, _)]) rfl (w_free rfl) ⟨g_fr (by kernel_rfl) rfl, trivial⟩ (fun w hw => rn_field (o' := 6) gr_fa_50_6 rfl rfl) (at_top rfl)) ?_
       refine bl_cons 2 rfl (isV _) (stab_isV _) (rgV (li := [(66, _)]) rfl (w_free rfl) ⟨g_dep 0 (by kernel_rfl) (at_dep rfl rfl rfl), trivial⟩ (fun w hw => rn_load Try.isAgg3 rfl ((below_agree hw 0).cell (Nat.zero_le _) (cell_own (hS.at_ 0 rfl) rfl))) (at_top rfl)) ?_
       refine bl_cons 3 rfl (isV _) (stab_isV _) (rgV (li := [(2, _)]) rfl (w_free rfl) ⟨g_fr (by kernel_rfl) rfl, trivial⟩ (fun w hw => rn_move rfl) (at_top rfl)) ?_
       refine bl_cons 4 rfl (isV (.bool true)) (stab_isV _) (rgVe (li := [(67, _), (68, _)]) rfl (w_free rfl) ⟨g_dep 1 (by kernel_rfl) (at_dep rfl rfl rfl), g_dep 2 (by kernel_rfl) (at_dep rfl rfl rfl), trivial⟩ (fun w hw => rn_eql rfl rfl) (by rw [decide_eq_true hsn]) (at_top rfl)) ?_
       refine bl_cons 5 rfl (isV _) (stab_isV _) (rgV (li := [(69, _)]) rfl (w_free rfl) ⟨g_dep 3 (by kernel_rfl) (at_dep rfl rfl rfl), trivial⟩ (fun w hw => rn_move rfl) (at_top rfl)) ?_
       refine bl_cons 6 rfl (isV _) (stab_isV _) (rgV (li := [(2, _)]) rfl (w_yes 70 rfl (by kernel_rfl) (by kernel_rfl) (at_dep rfl rfl rfl)) ⟨g_fr (by kernel_rfl) rfl, trivial⟩ (fun w hw => rn_move rfl) (at_top rfl)) ?_
       refine bl_cons 7 rfl (isV _) (stab_isV _) (rgV (li := [(3, _)]) rfl (w_yes 70 rfl (by kernel_rfl) (by kernel_rfl) (at_dep rfl rfl rfl)) ⟨g_fr (by kernel_rfl) rfl, trivial⟩ (fun w hw => rn_field (o' := 0) gr_fa_83_0 rfl rfl) (at_top rfl)) ?_
       refine bl_cons 8 rfl (isV _) (stab_isV _) (rgV (li := [(72, _)]) rfl (w_yes 70 rfl (by kernel_rfl) (by kernel_rfl) (at_dep rfl rfl rfl)) ⟨g_dep 6 (by kernel_rfl) (at_dep rfl rfl rfl), trivial⟩ (fun w hw => rn_field (o' := 7) gr_fa_29_7 rfl rfl) (at_top rfl)) ?_
       refine bl_cons 9 rfl (isV _) (stab_isV _) (rgV (li := [(73, _)]) rfl (w_yes 70 rfl (by kernel_rfl) (by kernel_rfl) (at_dep rfl rfl rfl)) ⟨g_dep 7 (by kernel_rfl) (at_dep rfl rfl rfl), trivial⟩ (fun w hw => rn_load Try.isAgg25 rfl ((below_agree hw 0).cell (Nat.zero_le _) (cell_own (hS.at_ 1 rfl) rfl))) (at_top rfl)) ?_
       refine bl_cons 10 rfl (isV _) (stab_isV _) (rgV (li := [(74, _)]) rfl (w_yes 70 rfl (by kernel_rfl) (by kernel_rfl) (at_dep rfl rfl rfl)) ⟨g_dep 8 (by kernel_rfl) (at_dep rfl rfl rfl), trivial⟩ (fun w hw => rn_len Try.underlying25 rfl) (at_top rfl)) ?_
       refine bl_cons 11 rfl (isV (.bool false)) (stab_isV _) (rgVe (li := [(71, _), (75, _)]) rfl (w_yes 70 rfl (by kernel_rfl) (by kernel_rfl) (at_dep rfl rfl rfl)) ⟨g_dep 5 (by kernel_rfl) (at_dep rfl rfl rfl), g_dep 9 (by kernel_rfl) (at_dep rfl rfl rfl), trivial⟩ (fun w hw => rn_lss rfl rfl) (by rw [decide_eq_false (by omega)]) (at_top rfl)) ?_
       refine bl_cons 12 rfl (isV _) (stab_isV _) (rgV (li := [(70, _), (76, _)]) rfl (w_free rfl) ⟨g_dep 4 (by kernel_rfl) (at_dep rfl rfl rfl), g_dep 10 (by kernel_rfl) (at_dep rfl rfl rfl), trivial⟩ (fun w hw => rn_pickT rfl rfl) (at_top rfl)) ?_
       refine bl_cons 13 rfl (isV _) (stab_isV _) (rgV (li := [(77, _)]) rfl (w_free rfl) ⟨g_dep 11 (by kernel_rfl) (at_dep rfl rfl rfl), trivial⟩ (fun w hw => rn_move rfl) (at_top rfl)) ?_
       refine bl_cons 14 rfl (isV undef) (stab_isV _) (rg_no rfl (w_no 78 rfl (by kernel_rfl) (by kernel_rfl) (at_dep rfl rfl rfl) rfl) (at_top rfl)) ?_
       refine bl_cons 15 rfl (isV undef) (stab_isV _) (rg_no rfl (w_no 78 rfl (by kernel_rfl) (by kernel_rfl) (at_dep rfl rfl rfl) rfl) (at_top rfl)) ?_
       refine bl_cons 16 rfl (isV undef) (stab_isV _) (rg_no rfl (w_no 78 rfl (by kernel_rfl) (by kernel_rfl) (at_dep rfl rfl rfl) rfl) (at_top rfl)) ?_
       refine bl_cons 17 rfl (isV undef) (stab_isV _) (rg_no rfl (w_no 78 rfl (by kernel_rfl) (by kernel_rfl) (at_dep rfl rfl rfl) rfl) (at_top rfl)) ?_
       refine bl_cons 18 rfl (isV undef) (stab_isV _) (rg_no rfl (w_no 78 rfl (by kernel_rfl) (by kernel_rfl) (at_dep rfl rfl rfl) rfl) (at_top rfl)) ?_
       refine bl_cons 19 rfl (isV undef) (stab_isV _) (rg_no rfl (w_no 78 rfl (by kernel_rfl) (by kernel_rfl) (at_dep rfl rfl rfl) rfl) (at_top rfl)) ?_
       refine bl_cons 20 rfl (isV undef) (stab_isV _) (rg_no rfl (w_no 78 rfl (by kernel_rfl) (by kernel_rfl) (at_dep rfl rfl rfl) rfl) (at_top rfl)) ?_
       refine bl_cons 21 rfl (isV undef) (stab_isV _) (rg_no rfl (w_no 78 rfl (by kernel_rfl) (by kernel_rfl) (at_dep rfl rfl rfl) rfl) (at_top rfl)) ?_
       refine bl_cons 22 rfl (isV undef) (stab_isV _) (rg_no rfl (w_no 78 rfl (by kernel_rfl) (by kernel_rfl) (at_dep rfl rfl rfl) rfl) (at_top rfl)) ?_
       refine bl_cons 23 rfl (isV undef) (stab_isV _) (rg_no rfl (w_no 78 rfl (by kernel_rfl) (by kernel_rfl) (at_dep rfl rfl rfl) rfl) (at_top rfl)) ?_
       refine bl_cons 24 rfl (isV _) (stab_isV _) (rgV (li := [(78, _)]) rfl (w_free rfl) ⟨g_dep 12 (by kernel_rfl) (at_dep rfl rfl rfl), trivial⟩ (fun w hw => rn_pickF rfl rfl) (at_top rfl)) ?_
       refine bl_cons 25 rfl (isV _) (stab_isV _) (rgV (li := [(89, _)]) rfl (w_free rfl) ⟨g_dep 23 (by kernel_rfl) (at_dep rfl rfl rfl), trivial⟩ (fun w hw => rn_move rfl) (at_top rfl)) ?_
       refine bl_cons 26 rfl (isV undef) (stab_isV _) (rg_no rfl (w_no 90 rfl (by kernel_rfl) (by kernel_rfl) (at_dep rfl rfl rfl) rfl) (at_top rfl)) ?_
       refine bl_cons 27 rfl (isV undef) (stab_isV _) (rg_no rfl (w_no 90 rfl (by kernel_rfl) (by kernel_rfl) (at_dep rfl rfl rfl) rfl) (at_top rfl)) ?_
       refine bl_cons 28 rfl (isV undef) (stab_isV _) (rg_no rfl (w_no 90 rfl (by kernel_rfl) (by kernel_rfl) (at_dep rfl rfl rfl) rfl) (at_top rfl)) ?_
       refine bl_cons 29 rfl (isV undef) (stab_isV _) (rg_no rfl (w_no 90 rfl (by kernel_rfl) (by kernel_rfl) (at_dep rfl rfl rfl) rfl) (at_top rfl)) ?_
       refine bl_cons 30 rfl (isV undef) (stab_isV _) (rg_no rfl (w_no 90 rfl (by kernel_rfl) (by kernel_rfl) (at_dep rfl rfl rfl) rfl) (at_top rfl)) ?_
       refine bl_cons 31 rfl (isV undef) (stab_isV _) (rg_no rfl (w_no 90 rfl (by kernel_rfl) (by kernel_rfl) (at_dep rfl rfl rfl) rfl) (at_top rfl)) ?_
       refine bl_cons 32 rfl (isV undef) (stab_isV _) (rg_no rfl (w_no 90 rfl (by kernel_rfl) (by kernel_rfl) (at_dep rfl rfl rfl) rfl) (at_top rfl)) ?_
       refine bl_cons 33 rfl (isV undef) (stab_isV _) (rg_no rfl (w_no 90 rfl (by kernel_rfl) (by kernel_rfl) (at_dep rfl rfl rfl) rfl) (at_top rfl)) ?_
       refine bl_cons 34 rfl (isV undef) (stab_isV _) (rg_no rfl (w_no 90 rfl (by kernel_rfl) (by kernel_rfl) (at_dep rfl rfl rfl) rfl) (at_top rfl)) ?_
       refine bl_cons 35 rfl (isV undef) (stab_isV _) (rg_no rfl (w_no 90 rfl (by kernel_rfl) (by kernel_rfl) (at_dep rfl rfl rfl) rfl) (at_top rfl)) ?_
       refine bl_cons 36 rfl (isV _) (stab_isV _) (rgV (li := [(90, _)]) rfl (w_free rfl) ⟨g_dep 24 (by kernel_rfl) (at_dep rfl rfl rfl), trivial⟩ (fun w hw => rn_pickF rfl rfl) (at_top rfl)) ?_
       refine bl_cons 37 rfl (isV _) (stab_isV _) (rgV (li := [(101, _)]) rfl (w_free rfl) ⟨g_dep 35 (by kernel_rfl) (at_dep rfl rfl rfl), trivial⟩ (fun w hw => rn_assign rfl) (at_top rfl)) ?_
       refine bl_nil ?_
       intro W8 hbR hS'
       clear hS; have hS := hS'; clear hS'
       refine fin_v ?_
       refine fin_v ?_
       refine fin_v ?_
       refine fin_v ?_
       refine fin_v ?_
       refine fin_v ?_
       refine fin_v ?_
       refine fin_v ?_
       refine fin_v ?_
       refine fin_v ?_
       refine fin_v ?_
       refine fin_v ?_
       refine fin_v ?_
       refine fin_v ?_
       refine fin_v ?_
       refine fin_v ?_
       refine fin_v ?_
       refine fin_v ?_
       refine fin_v ?_
       refine fin_v ?_
       refine fin_v ?_
       refine fin_v ?_
       refine fin_v ?_
       refine fin_v ?_
       refine fin_v ?_
       refine fin_v ?_
       refine fin_v ?_
       refine fin_v ?_
       refine fin_v ?_
       refine fin_v ?_
       refine fin_v ?_
       refine fin_v ?_
       refine fin_v ?_
       refine fin_v ?_
       refine fin_v ?_
       refine fin_v ?_
       refine fin_v ?_
       refine fin_nil ?_
       refine XF.thenN ?_
       refine exitF ?_
       refine XF.blkO rfl ?_
       refine XF.thenX ?_
       refine XF.blkO rfl ?_
       refine XF.thenX ?_
       refine XF.blkO rfl ?_
       refine XF.thenX ?_
       refine XF.blkO rfl ?_
       refine XF.thenX ?_
       refine XF.blkX ?_
       exact XF.join [(7, .bool (decide (s.x = 0))), (8, .bool (decide (s.y = 0))), (9, .bool (decide (s.kk = 0))), (10, .bool (false))] ⟨rfl, rfl, rfl, rfl, trivial⟩ ⟨_, _, _, _, rfl, by unfold kindB; rw [if_neg n1, if_pos h8, hsc], hS.tail.tail.clear⟩
      ·obtain ⟨tb, to_, u, rfl, hu, huc⟩ := ht.get (i := n) hnt
       obtain rfl : u0 = u := Option.some.inj (hu0.symm.trans hu)
       have k5 := CellsAt.agree hS.agree (Nat.zero_le _) huc
       have k6 := k5.2.2.1
       have k7 := k5.2.2.2.1
       refine regB (m := 37) gr_followsM hS (by kernel_rfl) (by kernel_rfl) rfl ?_
       refine bl_cons 1 rfl (isV _) (stab_isV _) (rgV (li := [(4, _)]) rfl (w_free rfl) ⟨g_fr (by kernel_rfl) rfl, trivial⟩ (fun w hw => rn_field (o' := 6) gr_fa_50_6 rfl rfl) (at_top rfl)) ?_
       refine bl_cons 2 rfl (isV _) (stab_isV _) (rgV (li := [(66, _)]) rfl (w_free rfl) ⟨g_dep 0 (by kernel_rfl) (at_dep rfl rfl rfl), trivial⟩ (fun w hw => rn_load Try.isAgg3 rfl ((below_agree hw 0).cell (Nat.zero_le _) (cell_own (hS.at_ 0 rfl) rfl))) (at_top rfl)) ?_
       refine bl_cons 3 rfl (isV _) (stab_isV _) (rgV (li := [(2, _)]) rfl (w_free rfl) ⟨g_fr (by kernel_rfl) rfl, trivial⟩ (fun w hw => rn_move rfl) (at_top rfl)) ?_
       refine bl_cons 4 rfl (isV (.bool true)) (stab_isV _) (rgVe (li := [(67, _), (68, _)]) rfl (w_free rfl) ⟨g_dep 1 (by kernel_rfl) (at_dep rfl rfl rfl), g_dep 2 (by kernel_rfl) (at_dep rfl rfl rfl), trivial⟩ (fun w hw => rn_eql rfl rfl) (by rw [decide_eq_true hsn]) (at_top rfl)) ?_
       refine bl_cons 5 rfl (isV _) (stab_isV _) (rgV (li := [(69, _)]) rfl (w_free rfl) ⟨g_dep 3 (by kernel_rfl) (at_dep rfl rfl rfl), trivial⟩ (fun w hw => rn_move rfl) (at_top rfl)) ?_
       refine bl_cons 6 rfl (isV _) (stab_isV _) (rgV (li := [(2, _)]) rfl (w_yes 70 rfl (by kernel_rfl) (by kernel_rfl) (at_dep rfl rfl rfl)) ⟨g_fr (by kernel_rfl) rfl, trivial⟩ (fun w hw => rn_move rfl) (at_top rfl)) ?_
       refine bl_cons 7 rfl (isV _) (stab_isV _) (rgV (li := [(3, _)]) rfl (w_yes 70 rfl (by kernel_rfl) (by kernel_rfl) (at_dep rfl rfl rfl)) ⟨g_fr (by kernel_rfl) rfl, trivial⟩ (fun w hw => rn_field (o' := 0) gr_fa_83_0 rfl rfl) (at_top rfl)) ?_
       refine bl_cons 8 rfl (isV _) (stab_isV _) (rgV (li := [(72, _)]) rfl (w_yes 70 rfl (by kernel_rfl) (by kernel_rfl) (at_dep rfl rfl rfl)) ⟨g_dep 6 (by kernel_rfl) (at_dep rfl rfl rfl), trivial⟩ (fun w hw => rn_field (o' := 7) gr_fa_29_7 rfl rfl) (at_top rfl)) ?_
       refine bl_cons 9 rfl (isV _) (stab_isV _) (rgV (li := [(73, _)]) rfl (w_yes 70 rfl (by kernel_rfl) (by kernel_rfl) (at_dep rfl rfl rfl)) ⟨g_dep 7 (by kernel_rfl) (at_dep rfl rfl rfl), trivial⟩ (fun w hw => rn_load Try.isAgg25 rfl ((below_agree hw 0).cell (Nat.zero_le _) (cell_own (hS.at_ 1 rfl) rfl))) (at_top rfl)) ?_
       refine bl_cons 10 rfl (isV _) (stab_isV _) (rgV (li := [(74, _)]) rfl (w_yes 70 rfl (by kernel_rfl) (by kernel_rfl) (at_dep rfl rfl rfl)) ⟨g_dep 8 (by kernel_rfl) (at_dep rfl rfl rfl), trivial⟩ (fun w hw => rn_len Try.underlying25 rfl) (at_top rfl)) ?_
       refine bl_cons 11 rfl (isV (.bool true)) (stab_isV _) (rgVe (li := [(71, _), (75, _)]) rfl (w_yes 70 rfl (by kernel_rfl) (by kernel_rfl) (at_dep rfl rfl rfl)) ⟨g_dep 5 (by kernel_rfl) (at_dep rfl rfl rfl), g_dep 9 (by kernel_rfl) (at_dep rfl rfl rfl), trivial⟩ (fun w hw => rn_lss rfl rfl) (by rw [decide_eq_true (by omega)]) (at_top rfl)) ?_
       refine bl_cons 12 rfl (isV _) (stab_isV _) (rgV (li := [(70, _), (76, _)]) rfl (w_free rfl) ⟨g_dep 4 (by kernel_rfl) (at_dep rfl rfl rfl), g_dep 10 (by kernel_rfl) (at_dep rfl rfl rfl), trivial⟩ (fun w hw => rn_pickT rfl rfl) (at_top rfl)) ?_
       refine bl_cons 13 rfl (isV _) (stab_isV _) (rgV (li := [(77, _)]) rfl (w_free rfl) ⟨g_dep 11 (by kernel_rfl) (at_dep rfl rfl rfl), trivial⟩ (fun w hw => rn_move rfl) (at_top rfl)) ?_
       refine bl_cons 14 rfl (isV _) (stab_isV _) (rgV (li := [(3, _)]) rfl (w_yes 78 rfl (by kernel_rfl) (by kernel_rfl) (at_dep rfl rfl rfl)) ⟨g_fr (by kernel_rfl) rfl, trivial⟩ (fun w hw => rn_field (o' := 0) gr_fa_83_0 rfl rfl) (at_top rfl)) ?_
       refine bl_cons 15 rfl (isV _) (stab_isV _) (rgV (li := [(79, _)]) rfl (w_yes 78 rfl (by kernel_rfl) (by kernel_rfl) (at_dep rfl rfl rfl)) ⟨g_dep 13 (by kernel_rfl) (at_dep rfl rfl rfl), trivial⟩ (fun w hw => rn_field (o' := 7) gr_fa_29_7 rfl rfl) (at_top rfl)) ?_
       refine bl_cons 16 rfl (isV _) (stab_isV _) (rgV (li := [(80, _)]) rfl (w_yes 78 rfl (by kernel_rfl) (by kernel_rfl) (at_dep rfl rfl rfl)) ⟨g_dep 14 (by kernel_rfl) (at_dep rfl rfl rfl), trivial⟩ (fun w hw => rn_load Try.isAgg25 rfl ((below_agree hw 0).cell (Nat.zero_le _) (cell_own (hS.at_ 1 rfl) rfl))) (at_top rfl)) ?_
       refine bl_cons 17 rfl (isV _) (stab_isV _) (rgV (li := [(2, _)]) rfl (w_yes 78 rfl (by kernel_rfl) (by kernel_rfl) (at_dep rfl rfl rfl)) ⟨g_fr (by kernel_rfl) rfl, trivial⟩ (fun w hw => rn_move rfl) (at_top rfl)) ?_
       refine bl_cons 18 rfl (isV _) (stab_isV _) (rgV (li := [(81, _), (82, _)]) rfl (w_yes 78 rfl (by kernel_rfl) (by kernel_rfl) (at_dep rfl rfl rfl)) ⟨g_dep 15 (by kernel_rfl) (at_dep rfl rfl rfl), g_dep 16 (by kernel_rfl) (at_dep rfl rfl rfl), trivial⟩ (fun w hw => rn_indexA (j := n) Try.underlying25 Try.sizeOf54 rfl rfl (by omega) (by omega) rfl) (at_top rfl)) ?_
       refine bl_cons 19 rfl (isV _) (stab_isV _) (rgV (li := [(83, _)]) rfl (w_yes 78 rfl (by kernel_rfl) (by kernel_rfl) (at_dep rfl rfl rfl)) ⟨g_dep 17 (by kernel_rfl) (at_dep rfl rfl rfl), trivial⟩ (fun w hw => rn_field gr_fa_54_2 rfl rfl) (at_top rfl)) ?_
       refine bl_cons 20 rfl (isV _) (stab_isV _) (rgV (li := [(84, _)]) rfl (w_yes 78 rfl (by kernel_rfl) (by kernel_rfl) (at_dep rfl rfl rfl)) ⟨g_dep 18 (by kernel_rfl) (at_dep rfl rfl rfl), trivial⟩ (fun w hw => rn_load Try.isAgg3 rfl ((below_agree hw 0).cell (Nat.zero_le _) (k6))) (at_top rfl)) ?_
       refine bl_cons 21 rfl (isV _) (stab_isV _) (rgV (li := [(4, _)]) rfl (w_yes 78 rfl (by kernel_rfl) (by kernel_rfl) (at_dep rfl rfl rfl)) ⟨g_fr (by kernel_rfl) rfl, trivial⟩ (fun w hw => rn_field (o' := 0) gr_fa_50_0 rfl rfl) (at_top rfl)) ?_
       refine bl_cons 22 rfl (isV _) (stab_isV _) (rgV (li := [(86, _)]) rfl (w_yes 78 rfl (by kernel_rfl) (by kernel_rfl) (at_dep rfl rfl rfl)) ⟨g_dep 20 (by kernel_rfl) (at_dep rfl rfl rfl), trivial⟩ (fun w hw => rn_load Try.isAgg3 rfl ((below_agree hw 0).cell (Nat.zero_le _) (cell_own (hS.at_ 0 rfl) rfl))) (at_top rfl)) ?_
       refine bl_cons 23 rfl (isV (.bool false)) (stab_isV _) (rgVe (li := [(85, _), (87, _)]) rfl (w_yes 78 rfl (by kernel_rfl) (by kernel_rfl) (at_dep rfl rfl rfl)) ⟨g_dep 19 (by kernel_rfl) (at_dep rfl rfl rfl), g_dep 21 (by kernel_rfl) (at_dep rfl rfl rfl), trivial⟩ (fun w hw => rn_eql rfl rfl) (by rw [decide_eq_false hfr]) (at_top rfl)) ?_
       refine bl_cons 24 rfl (isV _) (stab_isV _) (rgV (li := [(78, _), (88, _)]) rfl (w_free rfl) ⟨g_dep 12 (by kernel_rfl) (at_dep rfl rfl rfl), g_dep 22 (by kernel_rfl) (at_dep rfl rfl rfl), trivial⟩ (fun w hw => rn_pickT rfl rfl) (at_top rfl)) ?_
       refine bl_cons 25 rfl (isV _) (stab_isV _) (rgV (li := [(89, _)]) rfl (w_free rfl) ⟨g_dep 23 (by kernel_rfl) (at_dep rfl rfl rfl), trivial⟩ (fun w hw => rn_move rfl) (at_top rfl)) ?_
       refine bl_cons 26 rfl (isV undef) (stab_isV _) (rg_no rfl (w_no 90 rfl (by kernel_rfl) (by kernel_rfl) (at_dep rfl rfl rfl) rfl) (at_top rfl)) ?_
       refine bl_cons 27 rfl (isV undef) (stab_isV _) (rg_no rfl (w_no 90 rfl (by kernel_rfl) (by kernel_rfl) (at_dep rfl rfl rfl) rfl) (at_top rfl)) ?_
       refine bl_cons 28 rfl (isV undef) (stab_isV _) (rg_no rfl (w_no 90 rfl (by kernel_rfl) (by kernel_rfl) (at_dep rfl rfl rfl) rfl) (at_top rfl)) ?_
       refine bl_cons 29 rfl (isV undef) (stab_isV _) (rg_no rfl (w_no 90 rfl (by kernel_rfl) (by kernel_rfl) (at_dep rfl rfl rfl) rfl) (at_top rfl)) ?_
       refine bl_cons 30 rfl (isV undef) (stab_isV _) (rg_no rfl (w_no 90 rfl (by kernel_rfl) (by kernel_rfl) (at_dep rfl rfl rfl) rfl) (at_top rfl)) ?_
       refine bl_cons 31 rfl (isV undef) (stab_isV _) (rg_no rfl (w_no 90 rfl (by kernel_rfl) (by kernel_rfl) (at_dep rfl rfl rfl) rfl) (at_top rfl)) ?_
       refine bl_cons 32 rfl (isV undef) (stab_isV _) (rg_no rfl (w_no 90 rfl (by kernel_rfl) (by kernel_rfl) (at_dep rfl rfl rfl) rfl) (at_top rfl)) ?_
       refine bl_cons 33 rfl (isV undef) (stab_isV _) (rg_no rfl (w_no 90 rfl (by kernel_rfl) (by kernel_rfl) (at_dep rfl rfl rfl) rfl) (at_top rfl)) ?_
       refine bl_cons 34 rfl (isV undef) (stab_isV _) (rg_no rfl (w_no 90 rfl (by kernel_rfl) (by kernel_rfl) (at_dep rfl rfl rfl) rfl) (at_top rfl)) ?_
       refine bl_cons 35 rfl (isV undef) (stab_isV _) (rg_no rfl (w_no 90 rfl (by kernel_rfl) (by kernel_rfl) (at_dep rfl rfl rfl) rfl) (at_top rfl)) ?_
       refine bl_cons 36 rfl (isV _) (stab_isV _) (rgV (li := [(90, _)]) rfl (w_free rfl) ⟨g_dep 24 (by kernel_rfl) (at_dep rfl rfl rfl), trivial⟩ (fun w hw => rn_pickF rfl rfl) (at_top rfl)) ?_
       refine bl_cons 37 rfl (isV _) (stab_isV _) (rgV (li := [(101, _)]) rfl (w_free rfl) ⟨g_dep 35 (by kernel_rfl) (at_dep rfl rfl rfl), trivial⟩ (fun w hw => rn_assign rfl) (at_top rfl)) ?_
       refine bl_nil ?_
       intro W9 hbR hS'
       clear hS; have hS := hS'; clear hS'
       refine fin_v ?_
       refine fin_v ?_
       refine fin_v ?_
       refine fin_v ?_
       refine fin_v ?_
       refine fin_v ?_
       refine fin_v ?_
       refine fin_v ?_
       refine fin_v ?_
       refine fin_v ?_
       refine fin_v ?_
       refine fin_v ?_
       refine fin_v ?_
       refine fin_v ?_
       refine fin_v ?_
       refine fin_v ?_
       refine fin_v ?_
       refine fin_v ?_
       refine fin_v ?_
       refine fin_v ?_
       refine fin_v ?_
       refine fin_v ?_
       refine fin_v ?_
       refine fin_v ?_
       refine fin_v ?_
       refine fin_v ?_
       refine fin_v ?_
       refine fin_v ?_
       refine fin_v ?_
       refine fin_v ?_
       refine fin_v ?_
       refine fin_v ?_
       refine fin_v ?_
       refine fin_v ?_
       refine fin_v ?_
       refine fin_v ?_
       refine fin_v ?_
       refine fin_nil ?_
       refine XF.thenN ?_
       refine exitF ?_
       refine XF.blkO rfl ?_
       refine XF.thenX ?_
       refine XF.blkO rfl ?_
       refine XF.thenX ?_
       refine XF.blkO rfl ?_
       refine XF.thenX ?_
       refine XF.blkO rfl ?_
       refine XF.thenX ?_
       refine XF.blkX ?_
       exact XF.join [(7, .bool (decide (s.x = 0))), (8, .bool (decide (s.y = 0))), (9, .bool (decide (s.kk = 0))), (10, .bool (false))] ⟨rfl, rfl, rfl, rfl, trivial⟩ ⟨_, _, _, _, rfl, by unfold kindB; rw [if_neg n1, if_pos h8, siteC_at hu0, decide_eq_false hfr]; simp, hS.tail.tail.clear⟩
      ·obtain ⟨tb, to_, u, rfl, hu, huc⟩ := ht.get (i := n) hnt
       obtain rfl : u0 = u := Option.some.inj (hu0.symm.trans hu)
       have k5 := CellsAt.agree hS.agree (Nat.zero_le _) huc
       have k6 := k5.2.2.1
       have k7 := k5.2.2.2.1
       refine regB (m := 37) gr_followsM hS (by kernel_rfl) (by kernel_rfl) rfl ?_
       refine bl_cons 1 rfl (isV _) (stab_isV _) (rgV (li := [(4, _)]) rfl (w_free rfl) ⟨g_fr (by kernel_rfl) rfl, trivial⟩ (fun w hw => rn_field (o' := 6) gr_fa_50_6 rfl rfl) (at_top rfl)) ?_
       refine bl_cons 2 rfl (isV _) (stab_isV _) (rgV (li := [(66, _)]) rfl (w_free rfl) ⟨g_dep 0 (by kernel_rfl) (at_dep rfl rfl rfl), trivial⟩ (fun w hw => rn_load Try.isAgg3 rfl ((below_agree hw 0).cell (Nat.zero_le _) (cell_own (hS.at_ 0 rfl) rfl))) (at_top rfl)) ?_
       refine bl_cons 3 rfl (isV _) (stab_isV _) (rgV (li := [(2, _)]) rfl (w_free rfl) ⟨g_fr (by kernel_rfl) rfl, trivial⟩ (fun w hw => rn_move rfl) (at_top rfl)) ?_
       refine bl_cons 4 rfl (isV (.bool true)) (stab_isV _) (rgVe (li := [(67, _), (68, _)]) rfl (w_free rfl) ⟨g_dep 1 (by kernel_rfl) (at_dep rfl rfl rfl), g_dep 2 (by kernel_rfl) (at_dep rfl rfl rfl), trivial⟩ (fun w hw => rn_eql rfl rfl) (by rw [decide_eq_true hsn]) (at_top rfl)) ?_
       refine bl_cons 5 rfl (isV _) (stab_isV _) (rgV (li := [(69, _)]) rfl (w_free rfl) ⟨g_dep 3 (by kernel_rfl) (at_dep rfl rfl rfl), trivial⟩ (fun w hw => rn_move rfl) (at_top rfl)) ?_
       refine bl_cons 6 rfl (isV _) (stab_isV _) (rgV (li := [(2, _)]) rfl (w_yes 70 rfl (by kernel_rfl) (by kernel_rfl) (at_dep rfl rfl rfl)) ⟨g_fr (by kernel_rfl) rfl, trivial⟩ (fun w hw => rn_move rfl) (at_top rfl)) ?_
       refine bl_cons 7 rfl (isV _) (stab_isV _) (rgV (li := [(3, _)]) rfl (w_yes 70 rfl (by kernel_rfl) (by kernel_rfl) (at_dep rfl rfl rfl)) ⟨g_fr (by kernel_rfl) rfl, trivial⟩ (fun w hw => rn_field (o' := 0) gr_fa_83_0 rfl rfl) (at_top rfl)) ?_
       refine bl_cons 8 rfl (isV _) (stab_isV _) (rgV (li := [(72, _)]) rfl (w_yes 70 rfl (by kernel_rfl) (by kernel_rfl) (at_dep rfl rfl rfl)) ⟨g_dep 6 (by kernel_rfl) (at_dep rfl rfl rfl), trivial⟩ (fun w hw => rn_field (o' := 7) gr_fa_29_7 rfl rfl) (at_top rfl)) ?_
       refine bl_cons 9 rfl (isV _) (stab_isV _) (rgV (li := [(73, _)]) rfl (w_yes 70 rfl (by kernel_rfl) (by kernel_rfl) (at_dep rfl rfl rfl)) ⟨g_dep 7 (by kernel_rfl) (at_dep rfl rfl rfl), trivial⟩ (fun w hw => rn_load Try.isAgg25 rfl ((below_agree hw 0).cell (Nat.zero_le _) (cell_own (hS.at_ 1 rfl) rfl))) (at_top rfl)) ?_
       refine bl_cons 10 rfl (isV _) (stab_isV _) (rgV (li := [(74, _)]) rfl (w_yes 70 rfl (by kernel_rfl) (by kernel_rfl) (at_dep rfl rfl rfl)) ⟨g_dep 8 (by kernel_rfl) (at_dep rfl rfl rfl), trivial⟩ (fun w hw => rn_len Try.underlying25 rfl) (at_top rfl)) ?_
       refine bl_cons 11 rfl (isV (.bool true)) (stab_isV _) (rgVe (li := [(71, _), (75, _)]) rfl (w_yes 70 rfl (by kernel_rfl) (by kernel_rfl) (at_dep rfl rfl rfl)) ⟨g_dep 5 (by kernel_rfl) (at_dep rfl rfl rfl), g_dep 9 (by kernel_rfl) (at_dep rfl rfl rfl), trivial⟩ (fun w hw => rn_lss rfl rfl) (by rw [decide_eq_true (by omega)]) (at_top rfl)) ?_
       refine bl_cons 12 rfl (isV _) (stab_isV _) (rgV (li := [(70, _), (76, _)]) rfl (w_free rfl) ⟨g_dep 4 (by kernel_rfl) (at_dep rfl rfl rfl), g_dep 10 (by kernel_rfl) (at_dep rfl rfl rfl), trivial⟩ (fun w hw => rn_pickT rfl rfl) (at_top rfl)) ?_
       refine bl_cons 13 rfl (isV _) (stab_isV _) (rgV (li := [(77, _)]) rfl (w_free rfl) ⟨g_dep 11 (by kernel_rfl) (at_dep rfl rfl rfl), trivial⟩ (fun w hw => rn_move rfl) (at_top rfl)) ?_
       refine bl_cons 14 rfl (isV _) (stab_isV _) (rgV (li := [(3, _)]) rfl (w_yes 78 rfl (by kernel_rfl) (by kernel_rfl) (at_dep rfl rfl rfl)) ⟨g_fr (by kernel_rfl) rfl, trivial⟩ (fun w hw => rn_field (o' := 0) gr_fa_83_0 rfl rfl) (at_top rfl)) ?_
       refine bl_cons 15 rfl (isV _) (stab_isV _) (rgV (li := [(79, _)]) rfl (w_yes 78 rfl (by kernel_rfl) (by kernel_rfl) (at_dep rfl rfl rfl)) ⟨g_dep 13 (by kernel_rfl) (at_dep rfl rfl rfl), trivial⟩ (fun w hw => rn_field (o' := 7) gr_fa_29_7 rfl rfl) (at_top rfl)) ?_
       refine bl_cons 16 rfl (isV _) (stab_isV _) (rgV (li := [(80, _)]) rfl (w_yes 78 rfl (by kernel_rfl) (by kernel_rfl) (at_dep rfl rfl rfl)) ⟨g_dep 14 (by kernel_rfl) (at_dep rfl rfl rfl), trivial⟩ (fun w hw => rn_load Try.isAgg25 rfl ((below_agree hw 0).cell (Nat.zero_le _) (cell_own (hS.at_ 1 rfl) rfl))) (at_top rfl)) ?_
       refine bl_cons 17 rfl (isV _) (stab_isV _) (rgV (li := [(2, _)]) rfl (w_yes 78 rfl (by kernel_rfl) (by kernel_rfl) (at_dep rfl rfl rfl)) ⟨g_fr (by kernel_rfl) rfl, trivial⟩ (fun w hw => rn_move rfl) (at_top rfl)) ?_
       refine bl_cons 18 rfl (isV _) (stab_isV _) (rgV (li := [(81, _), (82, _)]) rfl (w_yes 78 rfl (by kernel_rfl) (by kernel_rfl) (at_dep rfl rfl rfl)) ⟨g_dep 15 (by kernel_rfl) (at_dep rfl rfl rfl), g_dep 16 (by kernel_rfl) (at_dep rfl rfl rfl), trivial⟩ (fun w hw => rn_indexA (j := n) Try.underlying25 Try.sizeOf54 rfl rfl (by omega) (by omega) rfl) (at_top rfl)) ?_
       refine bl_cons 19 rfl (isV _) (stab_isV _) (rgV (li := [(83, _)]) rfl (w_yes 78 rfl (by kernel_rfl) (by kernel_rfl) (at_dep rfl rfl rfl)) ⟨g_dep 17 (by kernel_rfl) (at_dep rfl rfl rfl), trivial⟩ (fun w hw => rn_field gr_fa_54_2 rfl rfl) (at_top rfl)) ?_
       refine bl_cons 20 rfl (isV _) (stab_isV _) (rgV (li := [(84, _)]) rfl (w_yes 78 rfl (by kernel_rfl) (by kernel_rfl) (at_dep rfl rfl rfl)) ⟨g_dep 18 (by kernel_rfl) (at_dep rfl rfl rfl), trivial⟩ (fun w hw => rn_load Try.isAgg3 rfl ((below_agree hw 0).cell (Nat.zero_le _) (k6))) (at_top rfl)) ?_
       refine bl_cons 21 rfl (isV _) (stab_isV _) (rgV (li := [(4, _)]) rfl (w_yes 78 rfl (by kernel_rfl) (by kernel_rfl) (at_dep rfl rfl rfl)) ⟨g_fr (by kernel_rfl) rfl, trivial⟩ (fun w hw => rn_field (o' := 0) gr_fa_50_0 rfl rfl) (at_top rfl)) ?_
       refine bl_cons 22 rfl (isV _) (stab_isV _) (rgV (li := [(86, _)]) rfl (w_yes 78 rfl (by kernel_rfl) (by kernel_rfl) (at_dep rfl rfl rfl)) ⟨g_dep 20 (by kernel_rfl) (at_dep rfl rfl rfl), trivial⟩ (fun w hw => rn_load Try.isAgg3 rfl ((below_agree hw 0).cell (Nat.zero_le _) (cell_own (hS.at_ 0 rfl) rfl))) (at_top rfl)) ?_
       refine bl_cons 23 rfl (isV (.bool true)) (stab_isV _) (rgVe (li := [(85, _), (87, _)]) rfl (w_yes 78 rfl (by kernel_rfl) (by kernel_rfl) (at_dep rfl rfl rfl)) ⟨g_dep 19 (by kernel_rfl) (at_dep rfl rfl rfl), g_dep 21 (by kernel_rfl) (at_dep rfl rfl rfl), trivial⟩ (fun w hw => rn_eql rfl rfl) (by rw [decide_eq_true hfr]) (at_top rfl)) ?_
       refine bl_cons 24 rfl (isV _) (stab_isV _) (rgV (li := [(78, _), (88, _)]) rfl (w_free rfl) ⟨g_dep 12 (by kernel_rfl) (at_dep rfl rfl rfl), g_dep 22 (by kernel_rfl) (at_dep rfl rfl rfl), trivial⟩ (fun w hw => rn_pickT rfl rfl) (at_top rfl)) ?_
       refine bl_cons 25 rfl (isV _) (stab_isV _) (rgV (li := [(89, _)]) rfl (w_free rfl) ⟨g_dep 23 (by kernel_rfl) (at_dep rfl rfl rfl), trivial⟩ (fun w hw => rn_move rfl) (at_top rfl)) ?_
       refine bl_cons 26 rfl (isV _) (stab_isV _) (rgV (li := [(3, _)]) rfl (w_yes 90 rfl (by kernel_rfl) (by kernel_rfl) (at_dep rfl rfl rfl)) ⟨g_fr (by kernel_rfl) rfl, trivial⟩ (fun w hw => rn_field (o' := 0) gr_fa_83_0 rfl rfl) (at_top rfl)) ?_
       refine bl_cons 27 rfl (isV _) (stab_isV _) (rgV (li := [(91, _)]) rfl (w_yes 90 rfl (by kernel_rfl) (by kernel_rfl) (at_dep rfl rfl rfl)) ⟨g_dep 25 (by kernel_rfl) (at_dep rfl rfl rfl), trivial⟩ (fun w hw => rn_field (o' := 7) gr_fa_29_7 rfl rfl) (at_top rfl)) ?_
       refine bl_cons 28 rfl (isV _) (stab_isV _) (rgV (li := [(92, _)]) rfl (w_yes 90 rfl (by kernel_rfl) (by kernel_rfl) (at_dep rfl rfl rfl)) ⟨g_dep 26 (by kernel_rfl) (at_dep rfl rfl rfl), trivial⟩ (fun w hw => rn_load Try.isAgg25 rfl ((below_agree hw 0).cell (Nat.zero_le _) (cell_own (hS.at_ 1 rfl) rfl))) (at_top rfl)) ?_
       refine bl_cons 29 rfl (isV _) (stab_isV _) (rgV (li := [(2, _)]) rfl (w_yes 90 rfl (by kernel_rfl) (by kernel_rfl) (at_dep rfl rfl rfl)) ⟨g_fr (by kernel_rfl) rfl, trivial⟩ (fun w hw => rn_move rfl) (at_top rfl)) ?_
       refine bl_cons 30 rfl (isV _) (stab_isV _) (rgV (li := [(93, _), (94, _)]) rfl (w_yes 90 rfl (by kernel_rfl) (by kernel_rfl) (at_dep rfl rfl rfl)) ⟨g_dep 27 (by kernel_rfl) (at_dep rfl rfl rfl), g_dep 28 (by kernel_rfl) (at_dep rfl rfl rfl), trivial⟩ (fun w hw => rn_indexA (j := n) Try.underlying25 Try.sizeOf54 rfl rfl (by omega) (by omega) rfl) (at_top rfl)) ?_
       refine bl_cons 31 rfl (isV _) (stab_isV _) (rgV (li := [(95, _)]) rfl (w_yes 90 rfl (by kernel_rfl) (by kernel_rfl) (at_dep rfl rfl rfl)) ⟨g_dep 29 (by kernel_rfl) (at_dep rfl rfl rfl), trivial⟩ (fun w hw => rn_field gr_fa_54_3 rfl rfl) (at_top rfl)) ?_
       refine bl_cons 32 rfl (isV _) (stab_isV _) (rgV (li := [(96, _)]) rfl (w_yes 90 rfl (by kernel_rfl) (by kernel_rfl) (at_dep rfl rfl rfl)) ⟨g_dep 30 (by kernel_rfl) (at_dep rfl rfl rfl), trivial⟩ (fun w hw => rn_load Try.isAgg3 rfl ((below_agree hw 0).cell (Nat.zero_le _) (k7))) (at_top rfl)) ?_
       refine bl_cons 33 rfl (isV _) (stab_isV _) (rgV (li := [(4, _)]) rfl (w_yes 90 rfl (by kernel_rfl) (by kernel_rfl) (at_dep rfl rfl rfl)) ⟨g_fr (by kernel_rfl) rfl, trivial⟩ (fun w hw => rn_field (o' := 1) gr_fa_50_1 rfl rfl) (at_top rfl)) ?_
       refine bl_cons 34 rfl (isV _) (stab_isV _) (rgV (li := [(98, _)]) rfl (w_yes 90 rfl (by kernel_rfl) (by kernel_rfl) (at_dep rfl rfl rfl)) ⟨g_dep 32 (by kernel_rfl) (at_dep rfl rfl rfl), trivial⟩ (fun w hw => rn_load Try.isAgg3 rfl ((below_agree hw 0).cell (Nat.zero_le _) (cell_own (hS.at_ 0 rfl) rfl))) (at_top rfl)) ?_
       refine bl_cons 35 rfl (isV _) (stab_isV _) (rgV (li := [(97, _), (99, _)]) rfl (w_yes 90 rfl (by kernel_rfl) (by kernel_rfl) (at_dep rfl rfl rfl)) ⟨g_dep 31 (by kernel_rfl) (at_dep rfl rfl rfl), g_dep 33 (by kernel_rfl) (at_dep rfl rfl rfl), trivial⟩ (fun w hw => rn_eql rfl rfl) (at_top rfl)) ?_
       refine bl_cons 36 rfl (isV _) (stab_isV _) (rgV (li := [(90, _), (100, _)]) rfl (w_free rfl) ⟨g_dep 24 (by kernel_rfl) (at_dep rfl rfl rfl), g_dep 34 (by kernel_rfl) (at_dep rfl rfl rfl), trivial⟩ (fun w hw => rn_pickT rfl rfl) (at_top rfl)) ?_
       refine bl_cons 37 rfl (isV _) (stab_isV _) (rgV (li := [(101, _)]) rfl (w_free rfl) ⟨g_dep 35 (by kernel_rfl) (at_dep rfl rfl rfl), trivial⟩ (fun w hw => rn_assign rfl) (at_top rfl)) ?_
       refine bl_nil ?_
       intro W10 hbR hS'
       clear hS; have hS := hS'; clear hS'
       refine fin_v ?_
       refine fin_v ?_
       refine fin_v ?_
       refine fin_v ?_
       refine fin_v ?_
       refine fin_v ?_
       refine fin_v ?_
       refine fin_v ?_
       refine fin_v ?_
       refine fin_v ?_
       refine fin_v ?_
       refine fin_v ?_
       refine fin_v ?_
       refine fin_v ?_
       refine fin_v ?_
       refine fin_v ?_
       refine fin_v ?_
       refine fin_v ?_
       refine fin_v ?_
       refine fin_v ?_
       refine fin_v ?_
       refine fin_v ?_
       refine fin_v ?_
       refine fin_v ?_
       refine fin_v ?_
       refine fin_v ?_
       refine fin_v ?_
       refine fin_v ?_
       refine fin_v ?_
       refine fin_v ?_
       refine fin_v ?_
       refine fin_v ?_
       refine fin_v ?_
       refine fin_v ?_
       refine fin_v ?_
       refine fin_v ?_
       refine fin_v ?_
       refine fin_nil ?_
       refine XF.thenN ?_
       refine exitF ?_
       refine XF.blkO rfl ?_
       refine XF.thenX ?_
       refine XF.blkO rfl ?_
       refine XF.thenX ?_
       refine XF.blkO rfl ?_
       refine XF.thenX ?_
       refine XF.blkO rfl ?_
       refine XF.thenX ?_
       refine XF.blkX ?_
       exact XF.join [(7, .bool (decide (s.x = 0))), (8, .bool (decide (s.y = 0))), (9, .bool (decide (s.kk = 0))), (10, .bool (decide (u0.bk = s.t)))] ⟨rfl, rfl, rfl, rfl, trivial⟩ ⟨_, _, _, _, rfl, by unfold kindB; rw [if_neg n1, if_pos h8, siteC_at hu0, decide_eq_true hfr, decide_eq_true hsn]; simp, hS.tail.tail.clear⟩
     ·have hc56 := of_decide_eq_false hc; clear hc
      have n8 : ¬ s.k = 8 := hc56
      refine skipF ?_
      refine XF.thenN ?_
      refine seqF ?_
      refine seqF (regF ?_)
      refine op_eql rfl rfl rfl ?_
      refine op_assign rfl rfl ?_
      refine endF (XF.thenN ?_)
      refine condF rfl (fun hc => ?_) (fun hc => ?_)
      ·have hc58 := of_decide_eq_true hc; clear hc
       have h2 : s.k = 2 := hc58
       refine exitF ?_
       refine XF.thenX ?_
       refine XF.thenX ?_
       refine XF.blkO rfl ?_
       refine XF.thenX ?_
       refine XF.blkO rfl ?_
       refine XF.thenX ?_
       refine XF.blkX ?_
       refine XF.thenN ?_
       refine seqF ?_
       refine seqF (regF ?_)
       refine op_assign rfl rfl ?_
       refine endF (XF.thenN ?_)
       refine regF ?_
       refine op_loadA (vs := [_, _, _, _, _, _, _, _, _, _]) Try.isAgg83 Try.sizeOf83 rfl (CellsAt.own (j := 0) (m := 10) (hS.at_ 1 rfl) rfl) rfl ?_
       refine op_field (o' := 3) gr_fa_50_3 rfl rfl rfl ?_
       refine op_load Try.isAgg3 rfl (cell_own (hS.at_ 0 rfl) rfl) rfl ?_
       refine op_call (vs := [_, _]) hS gr_goes_41 rfl (isVar_is ⟨_, vl, vc, _, pl, pc, _, el, ec, es, _, xl, xc, xs, mn, _, ol, oc, os, _, sl, sc, ss, _, tl, tc, ts, _, nl, nc, ns, _, kl, kc, ks⟩ s.x _) rfl ?_
       rintro e W11 ⟨rfl, hb⟩
       refine ⟨_, rfl, hb, fun hS' => ?_⟩
       clear hS; have hS := hS'; clear hS' hb
       refine op_assign rfl rfl ?_
       refine endF (XF.thenN ?_)
       refine exitF ?_
       refine XF.blkO rfl ?_
       refine XF.thenX ?_
       refine XF.blkO rfl ?_
       refine XF.thenX ?_
       refine XF.blkO rfl ?_
       refine XF.thenX ?_
       refine XF.blkX ?_
       exact XF.join [(7, .bool (gr_inQ s.x vl)), (8, .bool (decide (s.y = 0))), (9, .bool (true)), (10, .bool (decide (s.s = 0)))] ⟨rfl, rfl, rfl, rfl, trivial⟩ ⟨_, _, _, _, rfl, by unfold kindB; rw [if_neg n1, if_neg n8, if_pos h2], hS.tail.tail.clear⟩
      ·have hc58 := of_decide_eq_false hc; clear hc
       have n2 : ¬ s.k = 2 := hc58
       refine skipF ?_
       refine XF.thenN ?_
       refine seqF ?_
       refine seqF (regF ?_)
       refine op_eql rfl rfl rfl ?_
       refine op_assign rfl rfl ?_
       refine endF (XF.thenN ?_)
       refine condF rfl (fun hc => ?_) (fun hc => ?_)
       ·have hc60 := of_decide_eq_true hc; clear hc
        have h3 : s.k = 3 := hc60
        refine exitF ?_
        refine XF.thenX ?_
        refine XF.thenX ?_
        refine XF.blkO rfl ?_
        refine XF.thenX ?_
        refine XF.blkO rfl ?_
        refine XF.thenX ?_
        refine XF.blkO rfl ?_
        refine XF.thenX ?_
        refine XF.blkX ?_
        refine XF.thenN ?_
        refine regF ?_
        refine op_loadA (vs := [_, _, _, _, _, _, _, _, _, _]) Try.isAgg83 Try.sizeOf83 rfl (CellsAt.own (j := 0) (m := 10) (hS.at_ 1 rfl) rfl) rfl ?_
        refine op_field (o' := 4) gr_fa_50_4 rfl rfl rfl ?_
        refine op_load Try.isAgg3 rfl (cell_own (hS.at_ 0 rfl) rfl) rfl ?_
        refine op_call (vs := [_, _]) hS gr_goes_41 rfl (isVar_is ⟨_, vl, vc, _, pl, pc, _, el, ec, es, _, xl, xc, xs, mn, _, ol, oc, os, _, sl, sc, ss, _, tl, tc, ts, _, nl, nc, ns, _, kl, kc, ks⟩ s.y _) rfl ?_
        rintro e W12 ⟨rfl, hb⟩
        refine ⟨_, rfl, hb, fun hS' => ?_⟩
        clear hS; have hS := hS'; clear hS' hb
        refine op_assign rfl rfl ?_
        refine endF ?_
        refine XF.blkN ?_
        refine XF.thenN ?_
        refine seqF (regF ?_)
        refine op_loadA (vs := [_, _, _, _, _, _, _, _, _, _]) Try.isAgg83 Try.sizeOf83 rfl (CellsAt.own (j := 0) (m := 10) (hS.at_ 1 rfl) rfl) rfl ?_
        refine op_field (o' := 3) gr_fa_50_3 rfl rfl rfl ?_
        refine op_load Try.isAgg3 rfl (cell_own (hS.at_ 0 rfl) rfl) rfl ?_
        refine op_call (vs := [_, _]) hS gr_goes_41 rfl (isVar_is ⟨_, vl, vc, _, pl, pc, _, el, ec, es, _, xl, xc, xs, mn, _, ol, oc, os, _, sl, sc, ss, _, tl, tc, ts, _, nl, nc, ns, _, kl, kc, ks⟩ s.x _) rfl ?_
        rintro e W13 ⟨rfl, hb⟩
        refine ⟨_, rfl, hb, fun hS' => ?_⟩
        clear hS; have hS := hS'; clear hS' hb
        refine op_assign rfl rfl ?_
        refine endF (XF.thenN ?_)
        refine exitF ?_
        refine XF.blkO rfl ?_
        refine XF.thenX ?_
        refine XF.blkX ?_
        exact XF.join [(7, .bool (gr_inQ s.x vl)), (8, .bool (gr_inQ s.y vl)), (9, .bool (decide (s.kk = 0))), (10, .bool (decide (s.s = 0)))] ⟨rfl, rfl, rfl, rfl, trivial⟩ ⟨_, _, _, _, rfl, by unfold kindB; rw [if_neg n1, if_neg n8, if_neg n2, if_pos h3], hS.tail.tail.clear⟩
       ·have hc60 := of_decide_eq_false hc; clear hc
        have n3 : ¬ s.k = 3 := hc60
        refine skipF ?_
        refine XF.thenN ?_
        refine seqF ?_
        refine seqF (regF ?_)
        refine op_eql rfl rfl rfl ?_
        refine op_assign rfl rfl ?_
        refine endF (XF.thenN ?_)
        refine condF rfl (fun hc => ?_) (fun hc => ?_)
        ·have hc62 := of_decide_eq_true hc; clear hc
         refine skipF ?_
         refine XF.thenN ?_
         refine condF rfl (fun hc => ?_) (fun hc => absurd (of_decide_eq_false hc) (by exact fun h => h hc62))
         have hc := of_decide_eq_true hc
         refine exitF ?_
         refine XF.thenX ?_
         refine XF.blkO rfl ?_
         refine XF.thenX ?_
         refine XF.blkO rfl ?_
         refine XF.thenX ?_
         refine XF.blkO rfl ?_
         refine XF.thenX ?_
         refine XF.blkO rfl ?_
         refine XF.thenX ?_
         refine XF.blkX ?_
         refine XF.thenN ?_
         refine seqF (regF ?_)
         refine op_loadA (vs := [_, _, _, _, _, _, _, _, _, _]) Try.isAgg83 Try.sizeOf83 rfl (CellsAt.own (j := 0) (m := 10) (hS.at_ 1 rfl) rfl) rfl ?_
         refine op_field (o' := 3) gr_fa_50_3 rfl rfl rfl ?_
         refine op_load Try.isAgg3 rfl (cell_own (hS.at_ 0 rfl) rfl) rfl ?_
         refine op_call (vs := [_, _]) hS gr_goes_41 rfl (isVar_is ⟨_, vl, vc, _, pl, pc, _, el, ec, es, _, xl, xc, xs, mn, _, ol, oc, os, _, sl, sc, ss, _, tl, tc, ts, _, nl, nc, ns, _, kl, kc, ks⟩ s.x _) rfl ?_
         rintro e W14 ⟨rfl, hb⟩
         refine ⟨_, rfl, hb, fun hS' => ?_⟩
         clear hS; have hS := hS'; clear hS' hb
         refine op_assign rfl rfl ?_
         refine endF (XF.thenN ?_)
         refine exitF ?_
         refine XF.blkO rfl ?_
         refine XF.thenX ?_
         refine XF.blkX ?_
         exact XF.join [(7, .bool (gr_inQ s.x vl)), (8, .bool (decide (s.y = 0))), (9, .bool (decide (s.kk = 0))), (10, .bool (decide (s.s = 0)))] ⟨rfl, rfl, rfl, rfl, trivial⟩ ⟨_, _, _, _, rfl, by unfold kindB; rw [if_neg n1, if_neg n8, if_neg n2, if_neg n3, if_pos (by first | exact .inl hc62 | exact .inr (.inl hc62) | exact .inr (.inr hc62))], hS.tail.tail.clear⟩
        ·have hc62 := of_decide_eq_false hc; clear hc
         have n4 : ¬ s.k = 4 := hc62
         refine seqF (regF ?_)
         refine op_eql rfl rfl rfl ?_
         refine op_assign rfl rfl ?_
         refine endF (XF.thenN ?_)
         refine condF rfl (fun hc => ?_) (fun hc => ?_)
         ·have hc62 := of_decide_eq_true hc; clear hc
          refine skipF ?_
          refine XF.thenN ?_
          refine condF rfl (fun hc => ?_) (fun hc => absurd (of_decide_eq_false hc) (by exact fun h => h hc62))
          have hc := of_decide_eq_true hc
          refine exitF ?_
          refine XF.thenX ?_
          refine XF.blkO rfl ?_
          refine XF.thenX ?_
          refine XF.blkO rfl ?_
          refine XF.thenX ?_
          refine XF.blkO rfl ?_
          refine XF.thenX ?_
          refine XF.blkO rfl ?_
          refine XF.thenX ?_
          refine XF.blkX ?_
          refine XF.thenN ?_
          refine seqF (regF ?_)
          refine op_loadA (vs := [_, _, _, _, _, _, _, _, _, _]) Try.isAgg83 Try.sizeOf83 rfl (CellsAt.own (j := 0) (m := 10) (hS.at_ 1 rfl) rfl) rfl ?_
          refine op_field (o' := 3) gr_fa_50_3 rfl rfl rfl ?_
          refine op_load Try.isAgg3 rfl (cell_own (hS.at_ 0 rfl) rfl) rfl ?_
          refine op_call (vs := [_, _]) hS gr_goes_41 rfl (isVar_is ⟨_, vl, vc, _, pl, pc, _, el, ec, es, _, xl, xc, xs, mn, _, ol, oc, os, _, sl, sc, ss, _, tl, tc, ts, _, nl, nc, ns, _, kl, kc, ks⟩ s.x _) rfl ?_
          rintro e W15 ⟨rfl, hb⟩
          refine ⟨_, rfl, hb, fun hS' => ?_⟩
          clear hS; have hS := hS'; clear hS' hb
          refine op_assign rfl rfl ?_
          refine endF (XF.thenN ?_)
          refine exitF ?_
          refine XF.blkO rfl ?_
          refine XF.thenX ?_
          refine XF.blkX ?_
          exact XF.join [(7, .bool (gr_inQ s.x vl)), (8, .bool (decide (s.y = 0))), (9, .bool (decide (s.kk = 0))), (10, .bool (decide (s.s = 0)))] ⟨rfl, rfl, rfl, rfl, trivial⟩ ⟨_, _, _, _, rfl, by unfold kindB; rw [if_neg n1, if_neg n8, if_neg n2, if_neg n3, if_pos (by first | exact .inl hc62 | exact .inr (.inl hc62) | exact .inr (.inr hc62))], hS.tail.tail.clear⟩
         ·have hc62 := of_decide_eq_false hc; clear hc
          have n5 : ¬ s.k = 5 := hc62
          refine regF ?_
          refine op_eql rfl rfl rfl ?_
          refine op_assign rfl rfl ?_
          refine endF (XF.thenN ?_)
          refine condF rfl (fun hc => ?_) (fun hc => ?_)
          ·have hc62 := of_decide_eq_true hc; clear hc
           refine exitF ?_
           refine XF.thenX ?_
           refine XF.blkO rfl ?_
           refine XF.thenX ?_
           refine XF.blkO rfl ?_
           refine XF.thenX ?_
           refine XF.blkO rfl ?_
           refine XF.thenX ?_
           refine XF.blkO rfl ?_
           refine XF.thenX ?_
           refine XF.blkX ?_
           refine XF.thenN ?_
           refine seqF (regF ?_)
           refine op_loadA (vs := [_, _, _, _, _, _, _, _, _, _]) Try.isAgg83 Try.sizeOf83 rfl (CellsAt.own (j := 0) (m := 10) (hS.at_ 1 rfl) rfl) rfl ?_
           refine op_field (o' := 3) gr_fa_50_3 rfl rfl rfl ?_
           refine op_load Try.isAgg3 rfl (cell_own (hS.at_ 0 rfl) rfl) rfl ?_
           refine op_call (vs := [_, _]) hS gr_goes_41 rfl (isVar_is ⟨_, vl, vc, _, pl, pc, _, el, ec, es, _, xl, xc, xs, mn, _, ol, oc, os, _, sl, sc, ss, _, tl, tc, ts, _, nl, nc, ns, _, kl, kc, ks⟩ s.x _) rfl ?_
           rintro e W16 ⟨rfl, hb⟩
           refine ⟨_, rfl, hb, fun hS' => ?_⟩
           clear hS; have hS := hS'; clear hS' hb
           refine op_assign rfl rfl ?_
           refine endF (XF.thenN ?_)
           refine exitF ?_
           refine XF.blkO rfl ?_
           refine XF.thenX ?_
           refine XF.blkX ?_
           exact XF.join [(7, .bool (gr_inQ s.x vl)), (8, .bool (decide (s.y = 0))), (9, .bool (decide (s.kk = 0))), (10, .bool (decide (s.s = 0)))] ⟨rfl, rfl, rfl, rfl, trivial⟩ ⟨_, _, _, _, rfl, by unfold kindB; rw [if_neg n1, if_neg n8, if_neg n2, if_neg n3, if_pos (by first | exact .inl hc62 | exact .inr (.inl hc62) | exact .inr (.inr hc62))], hS.tail.tail.clear⟩
          ·have hc62 := of_decide_eq_false hc; clear hc
           have n6 : ¬ s.k = 6 := hc62
           refine skipF ?_
           refine XF.thenN ?_
           refine exitF ?_
           refine XF.blkO rfl ?_
           refine XF.thenX ?_
           refine XF.blkO rfl ?_
           refine XF.thenX ?_
           refine XF.blkO rfl ?_
           refine XF.thenX ?_
           refine XF.blkO rfl ?_
           refine XF.thenX ?_
           refine XF.blkO rfl ?_
           refine XF.thenX ?_
           refine XF.blkX ?_
           refine XF.thenN ?_
           refine seqF ?_
           refine seqF (regF ?_)
           refine op_assign rfl rfl ?_
           refine endF (XF.thenN ?_)
           refine retF ?_
           refine XF.thenR ?_
           refine XF.blkR ?_
           refine XF.thenR ?_
           refine XF.res (res1 Try.results40 rfl) ?_
           exact ⟨gr_rbool (by rw [hkk]; unfold kindB; rw [if_neg n1, if_neg n8, if_neg n2, if_neg n3, if_neg (by omega)]), hS.below⟩
end Go.Proofs.Ythepjghlipdcoaa
namespace Go.Proofs.Ythepjghlipdcoaa
open Go Go.RowKit
theorem gr_bld_83_0 (v00 : Value) (v01 : Value) (v02 : Value) (v03 : Value) (v04 : Value) (v05 : Value) (v06 : Value) (v07 : Value) (v08 : Value) (v09 : Value) : Try.prog.built 83 [(0, .agg #[v00, v01, v02, v03, v04, v05, v06, v07, v08, v09])] = some #[v00, v01, v02, v03, v04, v05, v06, v07, v08, v09] := by kernel_rfl
theorem gr_fa_29_6 (w : World) (b o : Nat) : (Instr.fieldAt 29 (.pointer (some ⟨b, o, none⟩)) 6).run Try.prog w = .ok (.pointer (some ⟨b, o + 6, none⟩)) w := by
 simp [Instr.fieldAt, run_underlying Try.underlying29, Instr.sureAddr, go_sem, Addr.add_lit]
theorem gr_fa_29_8 (w : World) (b o : Nat) : (Instr.fieldAt 29 (.pointer (some ⟨b, o, none⟩)) 8).run Try.prog w = .ok (.pointer (some ⟨b, o + 8, none⟩)) w := by
 simp [Instr.fieldAt, run_underlying Try.underlying29, Instr.sureAddr, go_sem, Addr.add_lit]
theorem gr_fa_29_9 (w : World) (b o : Nat) : (Instr.fieldAt 29 (.pointer (some ⟨b, o, none⟩)) 9).run Try.prog w = .ok (.pointer (some ⟨b, o + 9, none⟩)) w := by
 simp [Instr.fieldAt, run_underlying Try.underlying29, Instr.sureAddr, go_sem, Addr.add_lit]
theorem gr_fa_54_1 (w : World) (b o : Nat) : (Instr.fieldAt 54 (.pointer (some ⟨b, o, none⟩)) 1).run Try.prog w = .ok (.pointer (some ⟨b, o + 1, none⟩)) w := by
 simp [Instr.fieldAt, run_underlying Try.underlying54, Instr.sureAddr, go_sem, Addr.add_lit]
theorem gr_fa_87_1 (w : World) (b o : Nat) : (Instr.fieldAt 87 (.pointer (some ⟨b, o, none⟩)) 1).run Try.prog w = .ok (.pointer (some ⟨b, o + 1, none⟩)) w := by
 simp [Instr.fieldAt, run_underlying Try.underlying87, Instr.sureAddr, go_sem, Addr.add_lit]
theorem gr_fa_89_0 (w : World) (b o : Nat) : (Instr.fieldAt 89 (.pointer (some ⟨b, o, none⟩)) 0).run Try.prog w = .ok (.pointer (some ⟨b, o + 0, none⟩)) w := by
 simp [Instr.fieldAt, run_underlying Try.underlying89, Instr.sureAddr, go_sem, Addr.add_lit]
theorem gr_fa_89_1 (w : World) (b o : Nat) : (Instr.fieldAt 89 (.pointer (some ⟨b, o, none⟩)) 1).run Try.prog w = .ok (.pointer (some ⟨b, o + 1, none⟩)) w := by
 simp [Instr.fieldAt, run_underlying Try.underlying89, Instr.sureAddr, go_sem, Addr.add_lit]
theorem gr_goes_24 : goesIn Try.prog 24 = true := by kernel_rfl
theorem gr_goes_25 : goesIn Try.prog 25 = true := by kernel_rfl
theorem gr_goes_26 : goesIn Try.prog 26 = true := by kernel_rfl
theorem gr_goes_40 : goesIn Try.prog 40 = true := by kernel_rfl
theorem steps_c (va : Option Addr) (vl : Nat) (vc : Nat) (pa : Option Addr) (pl : Nat) (pc : Nat) (ea : Option Addr) (el : Nat) (ec : Nat) (es : List Int) (xa : Option Addr) (xl : Nat) (xc : Nat) (xs : List Int) (mn : Int) (oa : Option Addr) (ol : Nat) (oc : Nat) (os : List Int) (sa : Option Addr) (sl : Nat) (sc : Nat) (ss : List TV) (ta : Option Addr) (tl : Nat) (tc : Nat) (ts : List UV) (na : Option Addr) (nl : Nat) (nc : Nat) (ns : List NV) (ka : Option Addr) (kl : Nat) (kc : Nat) (ks : List KV) (w : World) (he : RowI w ea es) (hel : es.length = el) (hx : RowI w xa xs) (hxl : xs.length = xl) (ho : RowI w oa os) (hol : os.length = ol) (hs : RowL TV.sev 7 w sa ss) (hsl : ss.length = sl) (ht : RowL UV.four 4 w ta ts) (htl : ts.length = tl) (hn : RowL NV.two 2 w na ns) (hnl : ns.length = nl) (hk : RowL KV.two 2 w ka ks) (hkl : ks.length = kl) (b1 : vl ≤ 5000) (b2 : pl ≤ 5000) (b3 : el ≤ 5000) (b4 : xl ≤ 5000) (b5 : ol ≤ 5000) (b6 : sl ≤ 5000) (b7 : tl ≤ 5000) (b8 : nl ≤ 5000) (b9 : kl ≤ 5000) :
  Calls Try.prog 25 #[.agg #[.slice va vl vc, .slice pa pl pc, .slice ea el ec, .slice xa xl xc, .int .i64 mn, .slice oa ol oc, .slice sa sl sc, .slice ta tl tc, .slice na nl nc, .slice ka kl kc]] w (fun e w' => e = .returned (.bool (stepsB ⟨va, vl, vc, pa, pl, pc, ea, el, ec, es, xa, xl, xc, xs, mn, oa, ol, oc, os, sa, sl, sc, ss, ta, tl, tc, ts, na, nl, nc, ns, ka, kl, kc, ks⟩)) ∧ Below w.heap.size w w') := by
 refine enterF (args := [.agg #[.slice va vl vc, .slice pa pl pc, .slice ea el ec, .slice xa xl xc, .int .i64 mn, .slice oa ol oc, .slice sa sl sc, .slice ta tl tc, .slice na nl nc, .slice ka kl kc]]) Try.func25 rfl Try.ntmps25 rfl ?_
 have hS := St.start w
 refine seqF (regF ?_)
 refine op_box (cs := [_, _, _, _, _, _, _, _, _, _]) hS rfl rfl rfl ?_
 clear hS; intro B1 W1 hS
 refine op_assign rfl rfl ?_
 refine endF (XF.thenN ?_)
 refine seqF (regF ?_)
 refine op_assign rfl rfl ?_
 refine endF (XF.thenN ?_)
 refine seqF ?_
 refine seqF (regF ?_)
 refine op_field (o' := 0) gr_fa_83_0 rfl rfl rfl ?_
 refine op_field (o' := 6) gr_fa_29_6 rfl rfl rfl ?_
 refine op_load Try.isAgg24 rfl (cell_own (hS.at_ 0 rfl) rfl) rfl ?_
 refine op_len Try.underlying24 rfl rfl ?_
 refine op_move rfl rfl ?_
 refine endF (XF.thenN ?_)
 refine blockF ?_
 refine loopF (fun m l W => ∃ i n : Nat, i ≤ sl ∧ n ≤ i ∧ m = sl - i ∧ l = [(1, .pointer (some ⟨B1, 0, none⟩)), (3, .int .i64 (n : Int)), (8, .slice sa sl sc), (9, .int .i64 (sl : Int)), (10, .int .i64 (i : Int))] ∧ stepsFrom ⟨va, vl, vc, pa, pl, pc, ea, el, ec, es, xa, xl, xc, xs, mn, oa, ol, oc, os, sa, sl, sc, ss, ta, tl, tc, ts, na, nl, nc, ns, ka, kl, kc, ks⟩ (ss.drop i) n = stepsFrom ⟨va, vl, vc, pa, pl, pc, ea, el, ec, es, xa, xl, xc, xs, mn, oa, ol, oc, os, sa, sl, sc, ss, ta, tl, tc, ts, na, nl, nc, ns, ka, kl, kc, ks⟩ ss 0 ∧ St w [(B1, [.slice va vl vc, .slice pa pl pc, .slice ea el ec, .slice xa xl xc, .int .i64 mn, .slice oa ol oc, .slice sa sl sc, .slice ta tl tc, .slice na nl nc, .slice ka kl kc], 83)] [] [] W) (sl - 0) ([(1, _), (3, _), (8, _), (9, _), (10, _)]) ⟨rfl, rfl, rfl, rfl, rfl, trivial⟩ (⟨0, 0, Nat.zero_le _, Nat.le_refl _, rfl, rfl, rfl, hS.clear⟩) ?_
 clear hS
 rintro m l W ⟨i, n, hi, hni, rfl, rfl, hrun, hS⟩
 refine seqF (regF ?_)
 refine op_lss rfl rfl rfl ?_
 refine endF (XF.thenN ?_)
 refine seqF ?_
 refine condF rfl (fun hc => ?_) (fun hc => ?_)
 ·have hc11 := of_decide_eq_true hc; clear hc
  have hk1 : i < sl := by omega
  obtain ⟨b, off, s, rfl, hy, hyc⟩ := hs.get (i := i) (by omega)
  have k1 := CellsAt.agree hS.agree (Nat.zero_le _) hyc
  rw [gr_drop_at hy] at hrun
  simp only [stepsFrom] at hrun
  refine skipF ?_
  refine XF.thenN ?_
  refine seqF ?_
  refine blockF ?_
  refine seqF (regF ?_)
  refine op_indexA  Try.underlying24 Try.sizeOf50 rfl rfl rfl (by omega) rfl rfl ?_
  refine op_loadA (vs := [_, _, _, _, _, _, _]) Try.isAgg50 Try.sizeOf50 rfl (k1) rfl ?_
  refine op_alloc (cs := [_, _, _, _, _, _, _]) hS Try.zeroValue50 rfl rfl ?_
  clear hS; intro B2 W2 hS
  refine op_storeA (i := 0) (vs := [_, _, _, _, _, _, _]) (cs' := [_, _, _, _, _, _, _]) (O' := [_, _]) hS Try.sizeOf50 rfl rfl rfl rfl rfl rfl rfl ?_
  clear hS; intro W3 hS
  refine endF (XF.thenN ?_)
  refine seqF ?_
  refine seqF (regF ?_)
  refine op_loadA (vs := [_, _, _, _, _, _, _, _, _, _]) Try.isAgg83 Try.sizeOf83 rfl (CellsAt.own (j := 0) (m := 10) (hS.at_ 1 rfl) rfl) rfl ?_
  refine op_loadA (vs := [_, _, _, _, _, _, _]) Try.isAgg50 Try.sizeOf50 rfl (CellsAt.own (j := 0) (m := 7) (hS.at_ 0 rfl) rfl) rfl ?_
  refine op_move rfl rfl ?_
  refine op_call (vs := [_, _, _]) hS gr_goes_40 rfl (step_c _ vl vc _ pl pc _ el ec es _ xl xc xs mn _ ol oc os _ sl sc ss _ tl tc ts _ nl nc ns _ kl kc ks s n _ (he.below hS.below) hel (hx.below hS.below) hxl (ho.below hS.below) hol (hs.below hS.below) hsl (ht.below hS.below) htl (hn.below hS.below) hnl (hk.below hS.below) hkl b1 b2 b3 b4 b5 b6 b7 b8 b9) rfl ?_
  rintro e W4 ⟨rfl, hb⟩
  refine ⟨_, rfl, hb, fun hS' => ?_⟩
  clear hS; have hS := hS'; clear hS' hb
  refine op_not rfl rfl ?_
  refine endF (XF.thenN ?_)
  refine condF rfl (fun hc => ?_) (fun hc => ?_)
  ·have hc18 := hc; clear hc
   refine seqF (regF ?_)
   refine op_assign rfl rfl ?_
   refine endF (XF.thenN ?_)
   refine retF ?_
   refine XF.thenR ?_
   refine XF.blkR ?_
   refine XF.thenR ?_
   refine XF.thenR ?_
   refine XF.blkR ?_
   refine XF.thenR ?_
   refine XF.res (res1 Try.results25 rfl) ?_
   rw [if_neg (by simpa using hc18)] at hrun
   exact ⟨gr_rbool (by unfold stepsB; dsimp only; rw [← hrun]; simp), hS.below⟩
  ·have hc18 := hc; clear hc
   rw [if_pos (by simpa using hc18)] at hrun
   refine skipF ?_
   refine XF.thenN ?_
   refine seqF (regF ?_)
   refine op_field (o' := 2) gr_fa_50_2 rfl rfl rfl ?_
   refine op_load Try.isAgg48 rfl (cell_own (hS.at_ 0 rfl) rfl) rfl ?_
   refine op_eql rfl rfl rfl ?_
   refine endF (XF.thenN ?_)
   refine condF rfl (fun hc => ?_) (fun hc => ?_)
   ·have hc21 := of_decide_eq_true hc; clear hc
    have h8 : s.k = 8 := hc21
    rw [if_pos h8] at hrun
    refine regF ?_
    refine op_move rfl rfl ?_
    refine op_add rfl rfl (IntWalk.i64_in _ (by omega)) rfl ?_
    refine op_assign rfl rfl ?_
    refine endF ?_
    refine XF.blkN ?_
    refine XF.thenN ?_
    refine regF ?_
    refine op_add rfl rfl (IntWalk.i64_in _ (by omega)) rfl ?_
    refine op_move rfl rfl ?_
    refine endF ?_
    exact XF.round (sl - (i + 1)) [(1, _), (3, _), (8, _), (9, _), (10, _)] (by omega) ⟨rfl, rfl, rfl, rfl, rfl, trivial⟩ ⟨i + 1, n + 1, by omega, by omega, rfl, rfl, hrun, hS.tail.clear⟩
   ·have hc21 := of_decide_eq_false hc; clear hc
    have h8 : ¬ s.k = 8 := hc21
    rw [if_neg h8] at hrun
    refine skipF ?_
    refine XF.blkN ?_
    refine XF.thenN ?_
    refine regF ?_
    refine op_add rfl rfl (IntWalk.i64_in _ (by omega)) rfl ?_
    refine op_move rfl rfl ?_
    refine endF ?_
    exact XF.round (sl - (i + 1)) [(1, _), (3, _), (8, _), (9, _), (10, _)] (by omega) ⟨rfl, rfl, rfl, rfl, rfl, trivial⟩ ⟨i + 1, n, by omega, by omega, rfl, rfl, hrun, hS.tail.clear⟩
 ·have hc11 := of_decide_eq_false hc; clear hc
  rw [List.drop_of_length_le (by omega)] at hrun
  simp only [stepsFrom] at hrun
  refine exitF ?_
  refine XF.thenX ?_
  refine XF.thenX ?_
  refine XF.blkX ?_
  refine XF.thenN ?_
  refine seqF (regF ?_)
  refine op_move rfl rfl ?_
  refine op_field (o' := 0) gr_fa_83_0 rfl rfl rfl ?_
  refine op_field (o' := 7) gr_fa_29_7 rfl rfl rfl ?_
  refine op_load Try.isAgg25 rfl (cell_own (hS.at_ 0 rfl) rfl) rfl ?_
  refine op_len Try.underlying25 rfl rfl ?_
  refine op_eql rfl rfl rfl ?_
  refine op_assign rfl rfl ?_
  refine endF (XF.thenN ?_)
  refine retF ?_
  refine XF.res (res1 Try.results25 rfl) ?_
  exact ⟨gr_rbool (by unfold stepsB; dsimp only; rw [← hrun]; exact decide_eq_decide.2 ⟨fun h => by congr 1; omega, fun h => by have := Option.some.inj h; omega⟩), hS.below⟩
theorem marked_c (va : Option Addr) (vl : Nat) (vc : Nat) (pa : Option Addr) (pl : Nat) (pc : Nat) (ea : Option Addr) (el : Nat) (ec : Nat) (es : List Int) (xa : Option Addr) (xl : Nat) (xc : Nat) (xs : List Int) (mn : Int) (oa : Option Addr) (ol : Nat) (oc : Nat) (os : List Int) (sa : Option Addr) (sl : Nat) (sc : Nat) (ss : List TV) (ta : Option Addr) (tl : Nat) (tc : Nat) (ts : List UV) (na : Option Addr) (nl : Nat) (nc : Nat) (ns : List NV) (ka : Option Addr) (kl : Nat) (kc : Nat) (ks : List KV) (w : World) (he : RowI w ea es) (hel : es.length = el) (hx : RowI w xa xs) (hxl : xs.length = xl) (ho : RowI w oa os) (hol : os.length = ol) (hs : RowL TV.sev 7 w sa ss) (hsl : ss.length = sl) (ht : RowL UV.four 4 w ta ts) (htl : ts.length = tl) (hn : RowL NV.two 2 w na ns) (hnl : ns.length = nl) (hk : RowL KV.two 2 w ka ks) (hkl : ks.length = kl) (b1 : vl ≤ 5000) (b2 : pl ≤ 5000) (b3 : el ≤ 5000) (b4 : xl ≤ 5000) (b5 : ol ≤ 5000) (b6 : sl ≤ 5000) (b7 : tl ≤ 5000) (b8 : nl ≤ 5000) (b9 : kl ≤ 5000) :
  Calls Try.prog 26 #[.agg #[.slice va vl vc, .slice pa pl pc, .slice ea el ec, .slice xa xl xc, .int .i64 mn, .slice oa ol oc, .slice sa sl sc, .slice ta tl tc, .slice na nl nc, .slice ka kl kc]] w (fun e w' => e = .returned (.bool (markedB ⟨va, vl, vc, pa, pl, pc, ea, el, ec, es, xa, xl, xc, xs, mn, oa, ol, oc, os, sa, sl, sc, ss, ta, tl, tc, ts, na, nl, nc, ns, ka, kl, kc, ks⟩)) ∧ Below w.heap.size w w') := by
 refine enterF (args := [.agg #[.slice va vl vc, .slice pa pl pc, .slice ea el ec, .slice xa xl xc, .int .i64 mn, .slice oa ol oc, .slice sa sl sc, .slice ta tl tc, .slice na nl nc, .slice ka kl kc]]) Try.func26 rfl Try.ntmps26 rfl ?_
 have hS := St.start w
 refine seqF (regF ?_)
 refine op_box (cs := [_, _, _, _, _, _, _, _, _, _]) hS rfl rfl rfl ?_
 clear hS; intro B1 W1 hS
 refine op_assign rfl rfl ?_
 refine endF (XF.thenN ?_)
 refine seqF ?_
 refine seqF (regF ?_)
 refine op_field (o' := 0) gr_fa_83_0 rfl rfl rfl ?_
 refine op_field (o' := 7) gr_fa_29_7 rfl rfl rfl ?_
 refine op_load Try.isAgg25 rfl (cell_own (hS.at_ 0 rfl) rfl) rfl ?_
 refine op_len Try.underlying25 rfl rfl ?_
 refine op_move rfl rfl ?_
 refine endF (XF.thenN ?_)
 refine blockF ?_
 refine loopF (fun m l W => ∃ i : Nat, i ≤ tl ∧ m = tl - i ∧ l = [(1, .pointer (some ⟨B1, 0, none⟩)), (11, .slice ta tl tc), (12, .int .i64 (tl : Int)), (13, .int .i64 (i : Int))] ∧ (ts.take i).all (fun u => gr_inQ u.pr pl) = true ∧ St w [(B1, [.slice va vl vc, .slice pa pl pc, .slice ea el ec, .slice xa xl xc, .int .i64 mn, .slice oa ol oc, .slice sa sl sc, .slice ta tl tc, .slice na nl nc, .slice ka kl kc], 83)] [] [] W) (tl - 0) ([(1, _), (11, _), (12, _), (13, _)]) ⟨rfl, rfl, rfl, rfl, trivial⟩ (⟨0, Nat.zero_le _, rfl, rfl, rfl, hS.clear⟩) ?_
 clear hS
 rintro m l W ⟨i, hi, rfl, rfl, ha1, hS⟩
 refine seqF (regF ?_)
 refine op_lss rfl rfl rfl ?_
 refine endF (XF.thenN ?_)
 refine seqF ?_
 refine condF rfl (fun hc => ?_) (fun hc => ?_)
 ·have hc14 := of_decide_eq_true hc; clear hc
  have hk1 : i < tl := by omega
  obtain ⟨b, off, u, rfl, hy, hyc⟩ := ht.get (i := i) (by omega)
  have k1 := CellsAt.agree hS.agree (Nat.zero_le _) hyc
  refine skipF ?_
  refine XF.thenN ?_
  refine seqF ?_
  refine blockF ?_
  refine seqF (regF ?_)
  refine op_indexA  Try.underlying25 Try.sizeOf54 rfl rfl rfl (by omega) rfl rfl ?_
  refine op_loadA (vs := [_, _, _, _]) Try.isAgg54 Try.sizeOf54 rfl (k1) rfl ?_
  refine op_alloc (cs := [_, _, _, _]) hS Try.zeroValue54 rfl rfl ?_
  clear hS; intro B2 W2 hS
  refine op_storeA (i := 0) (vs := [_, _, _, _]) (cs' := [_, _, _, _]) (O' := [_, _]) hS Try.sizeOf54 rfl rfl rfl rfl rfl rfl rfl ?_
  clear hS; intro W3 hS
  refine endF (XF.thenN ?_)
  refine seqF (regF ?_)
  refine op_loadA (vs := [_, _, _, _, _, _, _, _, _, _]) Try.isAgg83 Try.sizeOf83 rfl (CellsAt.own (j := 0) (m := 10) (hS.at_ 1 rfl) rfl) rfl ?_
  refine op_field (o' := 1) gr_fa_54_1 rfl rfl rfl ?_
  refine op_load Try.isAgg3 rfl (cell_own (hS.at_ 0 rfl) rfl) rfl ?_
  refine op_call (vs := [_, _]) hS gr_goes_38 rfl (isProc_is ⟨_, vl, vc, _, pl, pc, _, el, ec, es, _, xl, xc, xs, mn, _, ol, oc, os, _, sl, sc, ss, _, tl, tc, ts, _, nl, nc, ns, _, kl, kc, ks⟩ u.pr _) rfl ?_
  rintro e W4 ⟨rfl, hb⟩
  refine ⟨_, rfl, hb, fun hS' => ?_⟩
  clear hS; have hS := hS'; clear hS' hb
  refine op_not rfl rfl ?_
  refine endF (XF.thenN ?_)
  refine condF rfl (fun hc => ?_) (fun hc => ?_)
  ·have hc21 := hc; clear hc
   refine seqF (regF ?_)
   refine op_assign rfl rfl ?_
   refine endF (XF.thenN ?_)
   refine retF ?_
   refine XF.blkR ?_
   refine XF.thenR ?_
   refine XF.thenR ?_
   refine XF.blkR ?_
   refine XF.thenR ?_
   refine XF.res (res1 Try.results26 rfl) ?_
   exact ⟨gr_rbool (by unfold markedB; dsimp only; rw [if_pos (gr_all_false_at hy (by simpa using hc21))]), hS.below⟩
  ·have hc21 := hc; clear hc
   refine skipF ?_
   refine XF.blkN ?_
   refine XF.thenN ?_
   refine regF ?_
   refine op_add rfl rfl (IntWalk.i64_in _ (by omega)) rfl ?_
   refine op_move rfl rfl ?_
   refine endF ?_
   exact XF.round (tl - (i + 1)) [(1, _), (11, _), (12, _), (13, _)] (by omega) ⟨rfl, rfl, rfl, rfl, trivial⟩ ⟨i + 1, by omega, rfl, rfl, gr_all_take_at hy ha1 (by simpa using hc21), hS.tail.clear⟩
 ·have hc14 := of_decide_eq_false hc; clear hc
  rw [List.take_of_length_le (by omega)] at ha1
  refine exitF ?_
  refine XF.thenX ?_
  refine XF.thenX ?_
  refine XF.blkX ?_
  refine XF.thenN ?_
  refine seqF ?_
  refine seqF (regF ?_)
  refine op_field (o' := 0) gr_fa_83_0 rfl rfl rfl ?_
  refine op_field (o' := 8) gr_fa_29_8 rfl rfl rfl ?_
  refine op_load Try.isAgg26 rfl (cell_own (hS.at_ 0 rfl) rfl) rfl ?_
  refine op_len Try.underlying26 rfl rfl ?_
  refine op_move rfl rfl ?_
  refine endF (XF.thenN ?_)
  refine blockF ?_
  refine loopF (fun m l W => ∃ i : Nat, i ≤ nl ∧ m = nl - i ∧ l = [(1, .pointer (some ⟨B1, 0, none⟩)), (25, .slice na nl nc), (26, .int .i64 (nl : Int)), (27, .int .i64 (i : Int))] ∧ (ns.take i).all (fun u => gr_inQ u.nd ol) = true ∧ St w [(B1, [.slice va vl vc, .slice pa pl pc, .slice ea el ec, .slice xa xl xc, .int .i64 mn, .slice oa ol oc, .slice sa sl sc, .slice ta tl tc, .slice na nl nc, .slice ka kl kc], 83)] [] [] W) (nl - 0) ([(1, _), (25, _), (26, _), (27, _)]) ⟨rfl, rfl, rfl, rfl, trivial⟩ (⟨0, Nat.zero_le _, rfl, rfl, rfl, hS.clear⟩) ?_
  clear hS
  rintro m l W ⟨i, hi, rfl, rfl, ha2, hS⟩
  refine seqF (regF ?_)
  refine op_lss rfl rfl rfl ?_
  refine endF (XF.thenN ?_)
  refine seqF ?_
  refine condF rfl (fun hc => ?_) (fun hc => ?_)
  ·have hc28 := of_decide_eq_true hc; clear hc
   have hk1 : i < nl := by omega
   obtain ⟨b, off, u, rfl, hy, hyc⟩ := hn.get (i := i) (by omega)
   have k1 := CellsAt.agree hS.agree (Nat.zero_le _) hyc
   refine skipF ?_
   refine XF.thenN ?_
   refine seqF ?_
   refine blockF ?_
   refine seqF (regF ?_)
   refine op_indexA  Try.underlying26 Try.sizeOf87 rfl rfl rfl (by omega) rfl rfl ?_
   refine op_loadA (vs := [_, _]) Try.isAgg87 Try.sizeOf87 rfl (k1) rfl ?_
   refine op_alloc (cs := [_, _]) hS Try.zeroValue87 rfl rfl ?_
   clear hS; intro B5 W5 hS
   refine op_storeA (i := 0) (vs := [_, _]) (cs' := [_, _]) (O' := [_, _]) hS Try.sizeOf87 rfl rfl rfl rfl rfl rfl rfl ?_
   clear hS; intro W6 hS
   refine endF (XF.thenN ?_)
   refine seqF (regF ?_)
   refine op_loadA (vs := [_, _, _, _, _, _, _, _, _, _]) Try.isAgg83 Try.sizeOf83 rfl (CellsAt.own (j := 0) (m := 10) (hS.at_ 1 rfl) rfl) rfl ?_
   refine op_field (o' := 1) gr_fa_87_1 rfl rfl rfl ?_
   refine op_load Try.isAgg3 rfl (cell_own (hS.at_ 0 rfl) rfl) rfl ?_
   refine op_call (vs := [_, _]) hS gr_goes_39 rfl (isNode_is ⟨_, vl, vc, _, pl, pc, _, el, ec, es, _, xl, xc, xs, mn, _, ol, oc, os, _, sl, sc, ss, _, tl, tc, ts, _, nl, nc, ns, _, kl, kc, ks⟩ u.nd _) rfl ?_
   rintro e W7 ⟨rfl, hb⟩
   refine ⟨_, rfl, hb, fun hS' => ?_⟩
   clear hS; have hS := hS'; clear hS' hb
   refine op_not rfl rfl ?_
   refine endF (XF.thenN ?_)
   refine condF rfl (fun hc => ?_) (fun hc => ?_)
   ·have hc35 := hc; clear hc
    refine seqF (regF ?_)
    refine op_assign rfl rfl ?_
    refine endF (XF.thenN ?_)
    refine retF ?_
    refine XF.blkR ?_
    refine XF.thenR ?_
    refine XF.thenR ?_
    refine XF.blkR ?_
    refine XF.thenR ?_
    refine XF.res (res1 Try.results26 rfl) ?_
    exact ⟨gr_rbool (by unfold markedB; dsimp only; rw [if_neg (by rw [ha1]; simp), if_pos (gr_all_false_at hy (by simpa using hc35))]), hS.below⟩
   ·have hc35 := hc; clear hc
    refine skipF ?_
    refine XF.blkN ?_
    refine XF.thenN ?_
    refine regF ?_
    refine op_add rfl rfl (IntWalk.i64_in _ (by omega)) rfl ?_
    refine op_move rfl rfl ?_
    refine endF ?_
    exact XF.round (nl - (i + 1)) [(1, _), (25, _), (26, _), (27, _)] (by omega) ⟨rfl, rfl, rfl, rfl, trivial⟩ ⟨i + 1, by omega, rfl, rfl, gr_all_take_at hy ha2 (by simpa using hc35), hS.tail.clear⟩
  ·have hc28 := of_decide_eq_false hc; clear hc
   rw [List.take_of_length_le (by omega)] at ha2
   refine exitF ?_
   refine XF.thenX ?_
   refine XF.thenX ?_
   refine XF.blkX ?_
   refine XF.thenN ?_
   refine seqF ?_
   refine seqF (regF ?_)
   refine op_field (o' := 0) gr_fa_83_0 rfl rfl rfl ?_
   refine op_field (o' := 9) gr_fa_29_9 rfl rfl rfl ?_
   refine op_load Try.isAgg27 rfl (cell_own (hS.at_ 0 rfl) rfl) rfl ?_
   refine op_len Try.underlying27 rfl rfl ?_
   refine op_move rfl rfl ?_
   refine endF (XF.thenN ?_)
   refine blockF ?_
   refine loopF (fun m l W => ∃ i : Nat, i ≤ kl ∧ m = kl - i ∧ l = [(1, .pointer (some ⟨B1, 0, none⟩)), (39, .slice ka kl kc), (40, .int .i64 (kl : Int)), (41, .int .i64 (i : Int))] ∧ (ks.take i).all (fun u => gr_inQ u.nd ol && gr_inQ u.x vl) = true ∧ St w [(B1, [.slice va vl vc, .slice pa pl pc, .slice ea el ec, .slice xa xl xc, .int .i64 mn, .slice oa ol oc, .slice sa sl sc, .slice ta tl tc, .slice na nl nc, .slice ka kl kc], 83)] [] [] W) (kl - 0) ([(1, _), (39, _), (40, _), (41, _)]) ⟨rfl, rfl, rfl, rfl, trivial⟩ (⟨0, Nat.zero_le _, rfl, rfl, rfl, hS.clear⟩) ?_
   clear hS
   rintro m l W ⟨i, hi, rfl, rfl, ha3, hS⟩
   refine seqF (regF ?_)
   refine op_lss rfl rfl rfl ?_
   refine endF (XF.thenN ?_)
   refine seqF ?_
   refine condF rfl (fun hc => ?_) (fun hc => ?_)
   ·have hc42 := of_decide_eq_true hc; clear hc
    have hk1 : i < kl := by omega
    obtain ⟨b, off, u, rfl, hy, hyc⟩ := hk.get (i := i) (by omega)
    have k1 := CellsAt.agree hS.agree (Nat.zero_le _) hyc
    refine skipF ?_
    refine XF.thenN ?_
    refine seqF ?_
    refine blockF ?_
    refine seqF (regF ?_)
    refine op_indexA  Try.underlying27 Try.sizeOf89 rfl rfl rfl (by omega) rfl rfl ?_
    refine op_loadA (vs := [_, _]) Try.isAgg89 Try.sizeOf89 rfl (k1) rfl ?_
    refine op_alloc (cs := [_, _]) hS Try.zeroValue89 rfl rfl ?_
    clear hS; intro B8 W8 hS
    refine op_storeA (i := 0) (vs := [_, _]) (cs' := [_, _]) (O' := [_, _]) hS Try.sizeOf89 rfl rfl rfl rfl rfl rfl rfl ?_
    clear hS; intro W9 hS
    refine endF (XF.thenN ?_)
    refine seqF (regF ?_)
    refine op_loadA (vs := [_, _, _, _, _, _, _, _, _, _]) Try.isAgg83 Try.sizeOf83 rfl (CellsAt.own (j := 0) (m := 10) (hS.at_ 1 rfl) rfl) rfl ?_
    refine op_field (o' := 1) gr_fa_89_1 rfl rfl rfl ?_
    refine op_load Try.isAgg3 rfl (cell_own (hS.at_ 0 rfl) rfl) rfl ?_
    refine op_call (vs := [_, _]) hS gr_goes_39 rfl (isNode_is ⟨_, vl, vc, _, pl, pc, _, el, ec, es, _, xl, xc, xs, mn, _, ol, oc, os, _, sl, sc, ss, _, tl, tc, ts, _, nl, nc, ns, _, kl, kc, ks⟩ u.nd _) rfl ?_
    rintro e W10 ⟨rfl, hb⟩
    refine ⟨_, rfl, hb, fun hS' => ?_⟩
    clear hS; have hS := hS'; clear hS' hb
    refine op_not rfl rfl ?_
    refine op_move rfl rfl ?_
    refine op_cases (d := 50) rfl (fun hc => ?_) (fun hc => ?_)
    ·have hg50 := hc; clear hc
     have h50 : gr_inQ u.nd ol = false := by simpa using hg50
     refine op_notF (d := 50) rfl rfl rfl rfl ?_
     refine op_notF (d := 50) rfl rfl rfl rfl ?_
     refine op_notF (d := 50) rfl rfl rfl rfl ?_
     refine op_notF (d := 50) rfl rfl rfl rfl ?_
     refine op_notF (d := 50) rfl rfl rfl rfl ?_
     refine op_pickT rfl rfl rfl ?_
     refine endF (XF.thenN ?_)
     refine condT rfl ?_
     refine seqF (regF ?_)
     refine op_assign rfl rfl ?_
     refine endF (XF.thenN ?_)
     refine retF ?_
     refine XF.blkR ?_
     refine XF.thenR ?_
     refine XF.thenR ?_
     refine XF.blkR ?_
     refine XF.thenR ?_
     refine XF.res (res1 Try.results26 rfl) ?_
     exact ⟨gr_rbool (by unfold markedB; dsimp only; rw [if_neg (by rw [ha1]; simp), if_neg (by rw [ha2]; simp), gr_all_false_at hy (by rw [h50]; rfl)]), hS.below⟩
    ·have hg50 := hc; clear hc
     have h50 : gr_inQ u.nd ol = true := by simpa using hg50
     refine op_wantedF (d := 50) rfl rfl ?_
     refine op_loadA (vs := [_, _, _, _, _, _, _, _, _, _]) Try.isAgg83 Try.sizeOf83 rfl (CellsAt.own (j := 0) (m := 10) (hS.at_ 1 rfl) rfl) rfl ?_
     refine op_wantedF (d := 50) rfl rfl ?_
     refine op_field (o' := 0) gr_fa_89_0 rfl rfl rfl ?_
     refine op_wantedF (d := 50) rfl rfl ?_
     refine op_load Try.isAgg3 rfl (cell_own (hS.at_ 0 rfl) rfl) rfl ?_
     refine op_wantedF (d := 50) rfl rfl ?_
     refine op_call (vs := [_, _]) hS gr_goes_41 rfl (isVar_is ⟨_, vl, vc, _, pl, pc, _, el, ec, es, _, xl, xc, xs, mn, _, ol, oc, os, _, sl, sc, ss, _, tl, tc, ts, _, nl, nc, ns, _, kl, kc, ks⟩ u.x _) rfl ?_
     rintro e W11 ⟨rfl, hb⟩
     refine ⟨_, rfl, hb, fun hS' => ?_⟩
     clear hS; have hS := hS'; clear hS' hb
     refine op_wantedF (d := 50) rfl rfl ?_
     refine op_not rfl rfl ?_
     refine op_pickF rfl rfl rfl ?_
     refine endF (XF.thenN ?_)
     refine condF rfl (fun hc => ?_) (fun hc => ?_)
     ·have hc56 := hc; clear hc
      refine seqF (regF ?_)
      refine op_assign rfl rfl ?_
      refine endF (XF.thenN ?_)
      refine retF ?_
      refine XF.blkR ?_
      refine XF.thenR ?_
      refine XF.thenR ?_
      refine XF.blkR ?_
      refine XF.thenR ?_
      refine XF.res (res1 Try.results26 rfl) ?_
      exact ⟨gr_rbool (by unfold markedB; dsimp only; rw [if_neg (by rw [ha1]; simp), if_neg (by rw [ha2]; simp), gr_all_false_at hy (by rw [h50, show gr_inQ u.x vl = false by simpa using hc56]; rfl)]), hS.below⟩
     ·have hc56 := hc; clear hc
      refine skipF ?_
      refine XF.blkN ?_
      refine XF.thenN ?_
      refine regF ?_
      refine op_add rfl rfl (IntWalk.i64_in _ (by omega)) rfl ?_
      refine op_move rfl rfl ?_
      refine endF ?_
      exact XF.round (kl - (i + 1)) [(1, _), (39, _), (40, _), (41, _)] (by omega) ⟨rfl, rfl, rfl, rfl, trivial⟩ ⟨i + 1, by omega, rfl, rfl, gr_all_take_at hy ha3 (by rw [h50, show gr_inQ u.x vl = true by simpa using hc56]; rfl), hS.tail.clear⟩
   ·have hc42 := of_decide_eq_false hc; clear hc
    refine exitF ?_
    refine XF.thenX ?_
    refine XF.thenX ?_
    refine XF.blkX ?_
    refine XF.thenN ?_
    refine seqF (regF ?_)
    refine op_assign rfl rfl ?_
    refine endF (XF.thenN ?_)
    refine retF ?_
    refine XF.res (res1 Try.results26 rfl) ?_
    rw [List.take_of_length_le (by omega)] at ha3
    exact ⟨gr_rbool (by unfold markedB; dsimp only; rw [if_neg (by rw [ha1]; simp), if_neg (by rw [ha2]; simp), ha3]), hS.below⟩
theorem check_c (va : Option Addr) (vl : Nat) (vc : Nat) (pa : Option Addr) (pl : Nat) (pc : Nat) (ea : Option Addr) (el : Nat) (ec : Nat) (es : List Int) (xa : Option Addr) (xl : Nat) (xc : Nat) (xs : List Int) (mn : Int) (oa : Option Addr) (ol : Nat) (oc : Nat) (os : List Int) (sa : Option Addr) (sl : Nat) (sc : Nat) (ss : List TV) (ta : Option Addr) (tl : Nat) (tc : Nat) (ts : List UV) (na : Option Addr) (nl : Nat) (nc : Nat) (ns : List NV) (ka : Option Addr) (kl : Nat) (kc : Nat) (ks : List KV) (w : World) (he : RowI w ea es) (hel : es.length = el) (hx : RowI w xa xs) (hxl : xs.length = xl) (ho : RowI w oa os) (hol : os.length = ol) (hs : RowL TV.sev 7 w sa ss) (hsl : ss.length = sl) (ht : RowL UV.four 4 w ta ts) (htl : ts.length = tl) (hn : RowL NV.two 2 w na ns) (hnl : ns.length = nl) (hk : RowL KV.two 2 w ka ks) (hkl : ks.length = kl) (b1 : vl ≤ 5000) (b2 : pl ≤ 5000) (b3 : el ≤ 5000) (b4 : xl ≤ 5000) (b5 : ol ≤ 5000) (b6 : sl ≤ 5000) (b7 : tl ≤ 5000) (b8 : nl ≤ 5000) (b9 : kl ≤ 5000) :
  Calls Try.prog 15 #[.agg #[.slice va vl vc, .slice pa pl pc, .slice ea el ec, .slice xa xl xc, .int .i64 mn, .slice oa ol oc, .slice sa sl sc, .slice ta tl tc, .slice na nl nc, .slice ka kl kc]] w (fun e w' => e = .returned (.int .i64 (gr_checkE ⟨va, vl, vc, pa, pl, pc, ea, el, ec, es, xa, xl, xc, xs, mn, oa, ol, oc, os, sa, sl, sc, ss, ta, tl, tc, ts, na, nl, nc, ns, ka, kl, kc, ks⟩)) ∧ Below w.heap.size w w') := by
 refine enterF (args := [.agg #[.slice va vl vc, .slice pa pl pc, .slice ea el ec, .slice xa xl xc, .int .i64 mn, .slice oa ol oc, .slice sa sl sc, .slice ta tl tc, .slice na nl nc, .slice ka kl kc]]) Try.func15 rfl Try.ntmps15 rfl ?_
 have hS := St.start w
 refine seqF (regF ?_)
 refine op_box (cs := [_, _, _, _, _, _, _, _, _, _]) hS rfl rfl rfl ?_
 clear hS; intro B1 W1 hS
 refine op_assign rfl rfl ?_
 refine endF (XF.thenN ?_)
 refine seqF (regF ?_)
 refine op_loadA (vs := [_, _, _, _, _, _, _, _, _, _]) Try.isAgg29 Try.sizeOf29 rfl (CellsAt.own (j := 0) (m := 10) (hS.at_ 0 rfl) rfl) rfl ?_
 refine op_build (us := [(0, .agg (List.toArray [_, _, _, _, _, _, _, _, _, _]))]) rfl (gr_bld_83_0 _ _ _ _ _ _ _ _ _ _) rfl ?_
 refine op_alloc (cs := [_, _, _, _, _, _, _, _, _, _]) hS Try.zeroValue83 rfl rfl ?_
 clear hS; intro B2 W2 hS
 refine op_storeA (i := 0) (vs := [_, _, _, _, _, _, _, _, _, _]) (cs' := [_, _, _, _, _, _, _, _, _, _]) (O' := [_, _]) hS Try.sizeOf83 rfl rfl rfl rfl rfl rfl rfl ?_
 clear hS; intro W3 hS
 refine endF (XF.thenN ?_)
 refine seqF ?_
 refine seqF (regF ?_)
 refine op_loadA (vs := [_, _, _, _, _, _, _, _, _, _]) Try.isAgg83 Try.sizeOf83 rfl (CellsAt.own (j := 0) (m := 10) (hS.at_ 0 rfl) rfl) rfl ?_
 refine op_call (vs := [_]) hS gr_goes_24 rfl (sized_c _ vl vc _ pl pc _ el ec es _ xl xc xs mn _ ol oc os _ sl sc ss _ tl tc ts _ nl nc ns _ kl kc ks  _ (he.below hS.below) hel (hx.below hS.below) hxl (ho.below hS.below) hol (hs.below hS.below) hsl (ht.below hS.below) htl (hn.below hS.below) hnl (hk.below hS.below) hkl b1 b2 b3 b4 b5 b6 b7 b8 b9) rfl ?_
 rintro e W4 ⟨rfl, hb⟩
 refine ⟨_, rfl, hb, fun hS' => ?_⟩
 clear hS; have hS := hS'; clear hS' hb
 refine op_not rfl rfl ?_
 refine op_move rfl rfl ?_
 refine op_cases (d := 9) rfl (fun hc => ?_) (fun hc => ?_)
 ·have hg9 := hc; clear hc
  refine op_notF (d := 9) rfl rfl rfl rfl ?_
  refine op_notF (d := 9) rfl rfl rfl rfl ?_
  refine op_notF (d := 9) rfl rfl rfl rfl ?_
  refine op_pickT rfl rfl rfl ?_
  refine op_move rfl rfl ?_
  refine op_notF (d := 14) rfl rfl rfl rfl ?_
  refine op_notF (d := 14) rfl rfl rfl rfl ?_
  refine op_notF (d := 14) rfl rfl rfl rfl ?_
  refine op_pickT rfl rfl rfl ?_
  refine endF (XF.thenN ?_)
  refine condT rfl ?_
  refine seqF (regF ?_)
  refine op_assign rfl rfl ?_
  refine endF (XF.thenN ?_)
  refine retF ?_
  refine XF.thenR ?_
  refine XF.res (res1 Try.results15 rfl) ?_
  exact ⟨gr_rint (by unfold gr_checkE; rw [if_pos (by simpa using hg9)]), hS.below⟩
 ·have hg9 := hc; clear hc
  have h9 : sizedB ⟨va, vl, vc, pa, pl, pc, ea, el, ec, es, xa, xl, xc, xs, mn, oa, ol, oc, os, sa, sl, sc, ss, ta, tl, tc, ts, na, nl, nc, ns, ka, kl, kc, ks⟩ = true := by simpa using hg9
  refine op_wantedF (d := 9) rfl rfl ?_
  refine op_loadA (vs := [_, _, _, _, _, _, _, _, _, _]) Try.isAgg83 Try.sizeOf83 rfl (CellsAt.own (j := 0) (m := 10) (hS.at_ 0 rfl) rfl) rfl ?_
  refine op_wantedF (d := 9) rfl rfl ?_
  refine op_call (vs := [_]) hS gr_goes_25 rfl (steps_c _ vl vc _ pl pc _ el ec es _ xl xc xs mn _ ol oc os _ sl sc ss _ tl tc ts _ nl nc ns _ kl kc ks  _ (he.below hS.below) hel (hx.below hS.below) hxl (ho.below hS.below) hol (hs.below hS.below) hsl (ht.below hS.below) htl (hn.below hS.below) hnl (hk.below hS.below) hkl b1 b2 b3 b4 b5 b6 b7 b8 b9) rfl ?_
  rintro e W5 ⟨rfl, hb⟩
  refine ⟨_, rfl, hb, fun hS' => ?_⟩
  clear hS; have hS := hS'; clear hS' hb
  refine op_wantedF (d := 9) rfl rfl ?_
  refine op_not rfl rfl ?_
  refine op_pickF rfl rfl rfl ?_
  refine op_move rfl rfl ?_
  refine op_cases (d := 14) rfl (fun hc => ?_) (fun hc => ?_)
  ·have hg14 := hc; clear hc
   refine op_notF (d := 14) rfl rfl rfl rfl ?_
   refine op_notF (d := 14) rfl rfl rfl rfl ?_
   refine op_notF (d := 14) rfl rfl rfl rfl ?_
   refine op_pickT rfl rfl rfl ?_
   refine endF (XF.thenN ?_)
   refine condT rfl ?_
   refine seqF (regF ?_)
   refine op_assign rfl rfl ?_
   refine endF (XF.thenN ?_)
   refine retF ?_
   refine XF.thenR ?_
   refine XF.res (res1 Try.results15 rfl) ?_
   exact ⟨gr_rint (by unfold gr_checkE; rw [if_neg (by rw [h9]; simp), if_pos (by simpa using hg14)]), hS.below⟩
  ·have hg14 := hc; clear hc
   have h14 : stepsB ⟨va, vl, vc, pa, pl, pc, ea, el, ec, es, xa, xl, xc, xs, mn, oa, ol, oc, os, sa, sl, sc, ss, ta, tl, tc, ts, na, nl, nc, ns, ka, kl, kc, ks⟩ = true := by simpa using hg14
   refine op_wantedF (d := 14) rfl rfl ?_
   refine op_loadA (vs := [_, _, _, _, _, _, _, _, _, _]) Try.isAgg83 Try.sizeOf83 rfl (CellsAt.own (j := 0) (m := 10) (hS.at_ 0 rfl) rfl) rfl ?_
   refine op_wantedF (d := 14) rfl rfl ?_
   refine op_call (vs := [_]) hS gr_goes_26 rfl (marked_c _ vl vc _ pl pc _ el ec es _ xl xc xs mn _ ol oc os _ sl sc ss _ tl tc ts _ nl nc ns _ kl kc ks  _ (he.below hS.below) hel (hx.below hS.below) hxl (ho.below hS.below) hol (hs.below hS.below) hsl (ht.below hS.below) htl (hn.below hS.below) hnl (hk.below hS.below) hkl b1 b2 b3 b4 b5 b6 b7 b8 b9) rfl ?_
   rintro e W6 ⟨rfl, hb⟩
   refine ⟨_, rfl, hb, fun hS' => ?_⟩
   clear hS; have hS := hS'; clear hS' hb
   refine op_wantedF (d := 14) rfl rfl ?_
   refine op_not rfl rfl ?_
   refine op_pickF rfl rfl rfl ?_
   refine endF (XF.thenN ?_)
   refine condF rfl (fun hc => ?_) (fun hc => ?_)
   ·have hc18 := hc; clear hc
    refine seqF (regF ?_)
    refine op_assign rfl rfl ?_
    refine endF (XF.thenN ?_)
    refine retF ?_
    refine XF.thenR ?_
    refine XF.res (res1 Try.results15 rfl) ?_
    exact ⟨gr_rint (by unfold gr_checkE; rw [if_neg (by rw [h9]; simp), if_neg (by rw [h14]; simp), if_pos (by simpa using hc18)]), hS.below⟩
   ·have hc18 := hc; clear hc
    refine skipF ?_
    refine XF.thenN ?_
    refine seqF (regF ?_)
    refine op_assign rfl rfl ?_
    refine endF (XF.thenN ?_)
    refine retF ?_
    refine XF.res (res1 Try.results15 rfl) ?_
    exact ⟨gr_rint (by unfold gr_checkE; rw [if_neg (by rw [h9]; simp), if_neg (by rw [h14]; simp), if_neg (by simpa using hc18)]), hS.below⟩
end Go.Proofs.Ythepjghlipdcoaa
namespace Go.Proofs.Ythepjghlipdcoaa
open Go Go.RowKit
theorem St.ownG {w0 W : World} {O : Own} {G : Grows} {K : List (Nat × World)} {B n size : Nat} {cs : List Value} {e : TypeId} (h : St w0 ((B, cs, e) :: O) G K W) (hl : cs.length = n * size) (hm : n ≤ maxLen) : St w0 O (⟨.slice (some ⟨B, 0, none⟩) n n, n, cs, e, size⟩ :: G) K W := by
 have hB := h.own _ List.mem_cons_self
 have hd := List.pairwise_cons.1 h.dist
 refine ⟨h.below, fun p hp => h.own p (List.mem_cons_of_mem _ hp), hd.2, fun q hq => ⟨(h.kept q hq).1, fun p hp => (h.kept q hq).2 p (List.mem_cons_of_mem _ hp)⟩, fun g hg => ?_, List.Pairwise.cons (fun q hq b e1 e2 => ?_) h.gdist⟩
 ·rcases List.mem_cons.1 hg with rfl | hg
  ·refine ⟨⟨hl, .inr ⟨B, n, cs.toArray, rfl, hB.1, hB.2, Nat.le_refl _, hm, by simpa using hl, ?_⟩⟩, fun b e1 => ?_⟩
   ·show cs.take (n * size) = cs
    exact List.take_of_length_le (by omega)
   ·have e2 : B = b := Option.some.inj e1
    subst e2
    exact ⟨fun p hp => Ne.symm (hd.1 p hp), fun q hq => (h.kept q hq).2 _ List.mem_cons_self⟩
  ·exact ⟨(h.rows g hg).1, fun b e1 => ⟨fun p hp => ((h.rows g hg).2 b e1).1 p (List.mem_cons_of_mem _ hp), ((h.rows g hg).2 b e1).2⟩⟩
 ·have e3 : B = b := Option.some.inj e1
  exact ((h.rows q hq).2 b e2).1 _ List.mem_cons_self e3
def gr_RowN (lo : Nat) (W : World) (a : Option Addr) (c : Nat) (xs : List Int) : Prop := W.ownsRow lo 3 1 (.slice a xs.length c) xs.length (xs.map (Value.int .i64))
theorem gr_RowN.row {lo : Nat} {W : World} {a : Option Addr} {c : Nat} {xs : List Int} (h : gr_RowN lo W a c xs) : RowI W a xs := by
 rcases ownsRow_cells h with ⟨_, h2⟩ | ⟨b, h1, _, h3⟩
 ·exact .inl (List.eq_nil_of_length_eq_zero h2)
 ·refine .inr ⟨b, 0, h1, fun i x hi => ⟨?_, trivial⟩⟩
  rw [Nat.zero_add, Nat.mul_one]
  exact h3 i _ (by rw [List.getElem?_map, hi]; rfl)
theorem gr_RowN.cap {lo : Nat} {W : World} {a : Option Addr} {c : Nat} {xs : List Int} (h : gr_RowN lo W a c xs) : xs.length ≤ c := by
 obtain ⟨a', c', e, h2⟩ := ownsRow_sl h
 cases e; exact h2
theorem gr_RowN.mono {lo lo' : Nat} {W : World} {a : Option Addr} {c : Nat} {xs : List Int} (h : gr_RowN lo W a c xs) (hl : lo' ≤ lo) : gr_RowN lo' W a c xs := ownsRow_base h hl
theorem gr_RowN.agree {lo : Nat} {A W : World} {a : Option Addr} {c : Nat} {xs : List Int} (h : gr_RowN lo A a c xs) (hg : Agree lo A W) : gr_RowN lo W a c xs := ownsRow_agree h hg
def backs (ts : List UV) (tl : Nat) : List Int → Option (List Int)
 | [] => some []
 | s :: r => if gr_inQ s tl = true then (match ts[s.toNat]? with | some u => (backs ts tl r).map (u.bk :: ·) | none => none) else none
def confE (g : GV) (node : Int) (is : List Int) : Int × List Int :=
 if gr_checkE g ≠ 0 then (gr_checkE g, []) else if gr_inQ node g.ol = false then (5, []) else match backs g.ts g.tl is with
  | none => (5, [])
  | some l => if 4096 < l.length + 1 then (2, []) else (0, node :: l)
def ConfRet (R : Int × List Int) (w : World) (e : Ending) (w' : World) : Prop := Below w.heap.size w w' ∧ ((R.1 ≠ 0 ∧ e = .returned (.tuple #[.agg #[.int .i64 0, .slice none 0 0], .int .i64 R.1])) ∨ (R.1 = 0 ∧ ∃ a c, e = .returned (.tuple #[.agg #[.int .i64 0, .slice a R.2.length c], .int .i64 0]) ∧ gr_RowN w.heap.size w' a c R.2))
theorem confRet_bad {R : Int × List Int} {w w' : World} {c : Int} (hb : Below w.heap.size w w') (h : R = (c, [])) (hc : c ≠ 0) : ConfRet R w (.returned (.tuple #[.agg #[.int .i64 0, .slice none 0 0], .int .i64 c])) w' := by
 subst h; exact ⟨hb, .inl ⟨hc, rfl⟩⟩
theorem backs_no {ts : List UV} {tl : Nat} {s : Int} {r : List Int} (h : gr_inQ s tl = false) : backs ts tl (s :: r) = none := by
 simp only [backs]; rw [if_neg (by rw [h]; simp)]
theorem backs_yes {ts : List UV} {tl k : Nat} {r : List Int} {u : UV} (h : k < tl) (hu : ts[k]? = some u) : backs ts tl ((k : Int) :: r) = (backs ts tl r).map (u.bk :: ·) := by
 simp only [backs]; rw [if_pos (inQ_of h), Int.toNat_natCast, hu]
end Go.Proofs.Ythepjghlipdcoaa
namespace Go.Proofs.Ythepjghlipdcoaa
open Go Go.RowKit
theorem gr_bld_44 : Try.prog.built 44 [] = some #[.int .i64 0, .slice none 0 0] := by kernel_rfl
theorem gr_bld_44_1 (v1a : Option Addr) (v1l : Nat) (v1c : Nat) : Try.prog.built 44 [(1, .slice v1a v1l v1c)] = some #[.int .i64 0, .slice v1a v1l v1c] := by kernel_rfl
theorem gr_bs_23_1 (v0 : Int) : Instr.fill (fun i => some (i * 1, 1)) ((Array.range (1 * 1)).map ((Value.cells (.int .i64 0))[· % (Value.cells (.int .i64 0)).size]!)) [(0, .int .i64 v0)] = some (List.toArray [.int .i64 v0]) := by kernel_rfl
theorem gr_fa_44_1 (w : World) (b o : Nat) : (Instr.fieldAt 44 (.pointer (some ⟨b, o, none⟩)) 1).run Try.prog w = .ok (.pointer (some ⟨b, o + 1, none⟩)) w := by
 simp [Instr.fieldAt, run_underlying Try.underlying44, Instr.sureAddr, go_sem, Addr.add_lit]
theorem gr_goes_15 : goesIn Try.prog 15 = true := by kernel_rfl
theorem gr_inf_3 : Try.prog.info? 3 = some Try.t3 := by kernel_rfl
theorem conf_c (va : Option Addr) (vl : Nat) (vc : Nat) (pa : Option Addr) (pl : Nat) (pc : Nat) (ea : Option Addr) (el : Nat) (ec : Nat) (es : List Int) (xa : Option Addr) (xl : Nat) (xc : Nat) (xs : List Int) (mn : Int) (oa : Option Addr) (ol : Nat) (oc : Nat) (os : List Int) (sa : Option Addr) (sl : Nat) (sc : Nat) (ss : List TV) (ta : Option Addr) (tl : Nat) (tc : Nat) (ts : List UV) (na : Option Addr) (nl : Nat) (nc : Nat) (ns : List NV) (ka : Option Addr) (kl : Nat) (kc : Nat) (ks : List KV) (node : Int) (la : Option Addr) (ll lc : Nat) (is : List Int) (w : World) (he : RowI w ea es) (hel : es.length = el) (hx : RowI w xa xs) (hxl : xs.length = xl) (ho : RowI w oa os) (hol : os.length = ol) (hs : RowL TV.sev 7 w sa ss) (hsl : ss.length = sl) (ht : RowL UV.four 4 w ta ts) (htl : ts.length = tl) (hn : RowL NV.two 2 w na ns) (hnl : ns.length = nl) (hk : RowL KV.two 2 w ka ks) (hkl : ks.length = kl) (b1 : vl ≤ 5000) (b2 : pl ≤ 5000) (b3 : el ≤ 5000) (b4 : xl ≤ 5000) (b5 : ol ≤ 5000) (b6 : sl ≤ 5000) (b7 : tl ≤ 5000) (b8 : nl ≤ 5000) (b9 : kl ≤ 5000) (hrla : RowI w la is) (hll : is.length = ll) (hlm : ll ≤ 5000) :
  Calls Try.prog 7 #[.agg #[.slice va vl vc, .slice pa pl pc, .slice ea el ec, .slice xa xl xc, .int .i64 mn, .slice oa ol oc, .slice sa sl sc, .slice ta tl tc, .slice na nl nc, .slice ka kl kc], .int .i64 node, .slice la ll lc] w (ConfRet (confE ⟨va, vl, vc, pa, pl, pc, ea, el, ec, es, xa, xl, xc, xs, mn, oa, ol, oc, os, sa, sl, sc, ss, ta, tl, tc, ts, na, nl, nc, ns, ka, kl, kc, ks⟩ node is) w) := by
 refine enterF (args := [.agg #[.slice va vl vc, .slice pa pl pc, .slice ea el ec, .slice xa xl xc, .int .i64 mn, .slice oa ol oc, .slice sa sl sc, .slice ta tl tc, .slice na nl nc, .slice ka kl kc], .int .i64 node, .slice la ll lc]) Try.func7 rfl Try.ntmps7 rfl ?_
 have hS := St.start w
 refine seqF (regF ?_)
 refine op_box (cs := [_, _, _, _, _, _, _, _, _, _]) hS rfl rfl rfl ?_
 clear hS; intro B1 W1 hS
 refine op_alloc (cs := [_, _]) hS Try.zeroValue44 rfl rfl ?_
 clear hS; intro B2 W2 hS
 refine op_assign rfl rfl ?_
 refine endF (XF.thenN ?_)
 refine seqF ?_
 refine seqF (regF ?_)
 refine op_loadA (vs := [_, _, _, _, _, _, _, _, _, _]) Try.isAgg29 Try.sizeOf29 rfl (CellsAt.own (j := 0) (m := 10) (hS.at_ 1 rfl) rfl) rfl ?_
 refine op_call (vs := [_]) hS gr_goes_15 rfl (check_c _ vl vc _ pl pc _ el ec es _ xl xc xs mn _ ol oc os _ sl sc ss _ tl tc ts _ nl nc ns _ kl kc ks  _ (he.below hS.below) hel (hx.below hS.below) hxl (ho.below hS.below) hol (hs.below hS.below) hsl (ht.below hS.below) htl (hn.below hS.below) hnl (hk.below hS.below) hkl b1 b2 b3 b4 b5 b6 b7 b8 b9) rfl ?_
 rintro e W3 ⟨rfl, hb⟩
 refine ⟨_, rfl, hb, fun hS' => ?_⟩
 clear hS; have hS := hS'; clear hS' hb
 refine op_assign rfl rfl ?_
 refine endF (XF.thenN ?_)
 refine seqF (regF ?_)
 refine op_move rfl rfl ?_
 refine op_neq rfl rfl rfl ?_
 refine endF (XF.thenN ?_)
 refine condF rfl (fun hc => ?_) (fun hc => ?_)
 ·have hc15 := of_decide_eq_true hc; clear hc
  have hce : gr_checkE ⟨va, vl, vc, pa, pl, pc, ea, el, ec, es, xa, xl, xc, xs, mn, oa, ol, oc, os, sa, sl, sc, ss, ta, tl, tc, ts, na, nl, nc, ns, ka, kl, kc, ks⟩ ≠ 0 := hc15
  refine seqF (regF ?_)
  refine op_build (us := []) rfl (gr_bld_44) rfl ?_
  refine op_move rfl rfl ?_
  refine op_storeA (i := 0) (vs := [_, _]) (cs' := [_, _]) (O' := [_, _]) hS Try.sizeOf44 rfl rfl rfl rfl rfl rfl rfl ?_
  clear hS; intro W4 hS
  refine op_assign rfl rfl ?_
  refine endF (XF.thenN ?_)
  refine retF ?_
  refine XF.thenR ?_
  refine XF.res (resCT (vs := [_, _]) Try.results7 Try.isAgg44 Try.sizeOf44 rfl (CellsAt.own (j := 0) (m := 2) (hS.at_ 0 rfl) rfl) rfl) ?_
  exact confRet_bad hS.below (by unfold confE; rw [if_pos hce]) hce
 ·have hc15 := of_decide_eq_false hc; clear hc
  have hce : gr_checkE ⟨va, vl, vc, pa, pl, pc, ea, el, ec, es, xa, xl, xc, xs, mn, oa, ol, oc, os, sa, sl, sc, ss, ta, tl, tc, ts, na, nl, nc, ns, ka, kl, kc, ks⟩ = 0 := Decidable.of_not_not hc15
  refine skipF ?_
  refine XF.thenN ?_
  refine seqF ?_
  refine seqF (regF ?_)
  refine op_move rfl rfl ?_
  refine op_lss rfl rfl rfl ?_
  refine op_move rfl rfl ?_
  refine op_cases (d := 20) rfl (fun hc => ?_) (fun hc => ?_)
  ·have hg20 := of_decide_eq_true hc; clear hc
   refine op_notF (d := 20) rfl rfl rfl rfl ?_
   refine op_notF (d := 20) rfl rfl rfl rfl ?_
   refine op_notF (d := 20) rfl rfl rfl rfl ?_
   refine op_notF (d := 20) rfl rfl rfl rfl ?_
   refine op_notF (d := 20) rfl rfl rfl rfl ?_
   refine op_pickT rfl rfl rfl ?_
   refine endF (XF.thenN ?_)
   refine condT rfl ?_
   refine seqF (regF ?_)
   refine op_build (us := []) rfl (gr_bld_44) rfl ?_
   refine op_storeA (i := 0) (vs := [_, _]) (cs' := [_, _]) (O' := [_, _]) hS Try.sizeOf44 rfl rfl rfl rfl rfl rfl rfl ?_
   clear hS; intro W5 hS
   refine op_assign rfl rfl ?_
   refine endF (XF.thenN ?_)
   refine retF ?_
   refine XF.thenR ?_
   refine XF.res (resCT (vs := [_, _]) Try.results7 Try.isAgg44 Try.sizeOf44 rfl (CellsAt.own (j := 0) (m := 2) (hS.at_ 0 rfl) rfl) rfl) ?_
   exact confRet_bad hS.below (by unfold confE; dsimp only; rw [if_neg (by rw [hce]; simp), if_pos (inQ_neg hg20)]) (by decide)
  ·have hg20 := of_decide_eq_false hc; clear hc
   refine op_wantedF (d := 20) rfl rfl ?_
   refine op_move rfl rfl ?_
   refine op_wantedF (d := 20) rfl rfl ?_
   refine op_field (o' := 5) gr_fa_29_5 rfl rfl rfl ?_
   refine op_wantedF (d := 20) rfl rfl ?_
   refine op_load Try.isAgg23 rfl (cell_own (hS.at_ 1 rfl) rfl) rfl ?_
   refine op_wantedF (d := 20) rfl rfl ?_
   refine op_len Try.underlying23 rfl rfl ?_
   refine op_wantedF (d := 20) rfl rfl ?_
   refine op_geq rfl rfl rfl ?_
   refine op_pickF rfl rfl rfl ?_
   refine endF (XF.thenN ?_)
   refine condF rfl (fun hc => ?_) (fun hc => ?_)
   ·have hc26 := of_decide_eq_true hc; clear hc
    refine seqF (regF ?_)
    refine op_build (us := []) rfl (gr_bld_44) rfl ?_
    refine op_storeA (i := 0) (vs := [_, _]) (cs' := [_, _]) (O' := [_, _]) hS Try.sizeOf44 rfl rfl rfl rfl rfl rfl rfl ?_
    clear hS; intro W6 hS
    refine op_assign rfl rfl ?_
    refine endF (XF.thenN ?_)
    refine retF ?_
    refine XF.thenR ?_
    refine XF.res (resCT (vs := [_, _]) Try.results7 Try.isAgg44 Try.sizeOf44 rfl (CellsAt.own (j := 0) (m := 2) (hS.at_ 0 rfl) rfl) rfl) ?_
    exact confRet_bad hS.below (by unfold confE; dsimp only; rw [if_neg (by rw [hce]; simp), if_pos (inQ_big (by omega))]) (by decide)
   ·have hc26 := of_decide_eq_false hc; clear hc
    have hnd : gr_inQ node ol = true := by unfold gr_inQ; rw [decide_eq_true (by omega), decide_eq_true (by omega)]; rfl
    refine skipF ?_
    refine XF.thenN ?_
    refine seqF (regF ?_)
    refine op_move rfl rfl ?_
    refine op_buildSlice (us := [(0, .int .i64 _)]) hS Try.underlying23 Try.sizeOf3 Try.zeroValue3 rfl rfl rfl (gr_bs_23_1 _) rfl ?_
    clear hS; intro B7 W7 hS
    refine op_build (us := [(1, .slice _ _ _)]) rfl (gr_bld_44_1 _ _ _) rfl ?_
    refine op_alloc (cs := [_, _]) hS Try.zeroValue44 rfl rfl ?_
    clear hS; intro B8 W8 hS
    refine op_storeA (i := 0) (vs := [_, _]) (cs' := [_, _]) (O' := [_, _, _, _]) hS Try.sizeOf44 rfl rfl rfl rfl rfl rfl rfl ?_
    clear hS; intro W9 hS
    refine endF (XF.thenN ?_)
    refine seqF ?_
    refine seqF ?_
    have hS := (hS.perm (List.Perm.swap _ _ _)).ownG (n := 1) (size := 1) rfl (by decide)
    refine regF ?_
    refine op_move rfl rfl ?_
    refine op_len Try.underlying23 rfl rfl ?_
    refine op_move rfl rfl ?_
    refine endF (XF.thenN ?_)
    refine blockF ?_
    refine loopF (fun m l W => ∃ (i : Nat) (acc : List Int) (v : Value), i ≤ ll ∧ m = ll - i ∧ l = [(3, .pointer (some ⟨B1, 0, none⟩)), (6, .pointer (some ⟨B2, 0, none⟩)), (9, .pointer (some ⟨B8, 0, none⟩)), (31, .slice la ll lc), (32, .int .i64 (ll : Int)), (33, .int .i64 (i : Int))] ∧ acc.length = i ∧ (backs ts tl (is.drop i)).map (acc ++ ·) = backs ts tl is ∧ St w [(B8, [.int .i64 0, v], 44), (B2, [.int .i64 0, .slice none 0 0], 44), (B1, [.slice va vl vc, .slice pa pl pc, .slice ea el ec, .slice xa xl xc, .int .i64 mn, .slice oa ol oc, .slice sa sl sc, .slice ta tl tc, .slice na nl nc, .slice ka kl kc], 29)] [⟨v, i + 1, (node :: acc).map (Value.int .i64), 3, 1⟩] [] W) (ll - 0) ([(3, _), (6, _), (9, _), (31, _), (32, _), (33, _)]) ⟨rfl, rfl, rfl, rfl, rfl, rfl, trivial⟩ (⟨0, [], _, Nat.zero_le _, rfl, rfl, rfl, by rw [List.drop_zero]; cases backs ts tl is <;> rfl, hS.clear⟩) ?_
    clear hS
    rintro m l W ⟨i, acc, v, hi, rfl, rfl, hacc, hrun, hS⟩
    obtain ⟨a9, c9, rfl, hac⟩ := ownsRow_sl (v := v) (n := i + 1) (hS.row 0 rfl)
    refine seqF (regF ?_)
    refine op_lss rfl rfl rfl ?_
    refine endF (XF.thenN ?_)
    refine seqF ?_
    refine condF rfl (fun hc => ?_) (fun hc => ?_)
    ·have hc34 := of_decide_eq_true hc; clear hc
     have hk1 : i < ll := by omega
     obtain ⟨b, off, y, rfl, hy, hyc⟩ := hrla.get (i := i) (by omega)
     have k1 := (CellsAt.agree hS.agree (Nat.zero_le _) hyc).1
     rw [gr_drop_at hy] at hrun
     refine skipF ?_
     refine XF.thenN ?_
     refine seqF ?_
     refine blockF ?_
     refine seqF (regF ?_)
     refine op_indexA  Try.underlying23 Try.sizeOf3 rfl rfl rfl (by omega) rfl rfl ?_
     refine op_load Try.isAgg3 rfl (k1) rfl ?_
     refine op_assign rfl rfl ?_
     refine endF (XF.thenN ?_)
     refine seqF ?_
     refine seqF (regF ?_)
     refine op_move rfl rfl ?_
     refine op_lss rfl rfl rfl ?_
     refine op_move rfl rfl ?_
     refine op_cases (d := 39) rfl (fun hc => ?_) (fun hc => ?_)
     ·have hg39 := of_decide_eq_true hc; clear hc
      rw [backs_no (inQ_neg hg39)] at hrun
      refine op_notF (d := 39) rfl rfl rfl rfl ?_
      refine op_notF (d := 39) rfl rfl rfl rfl ?_
      refine op_notF (d := 39) rfl rfl rfl rfl ?_
      refine op_notF (d := 39) rfl rfl rfl rfl ?_
      refine op_notF (d := 39) rfl rfl rfl rfl ?_
      refine op_pickT rfl rfl rfl ?_
      refine endF (XF.thenN ?_)
      refine condT rfl ?_
      refine seqF (regF ?_)
      refine op_build (us := []) rfl (gr_bld_44) rfl ?_
      refine op_storeA (i := 1) (vs := [_, _]) (cs' := [_, _]) (O' := [_, _, _]) hS Try.sizeOf44 rfl rfl rfl rfl rfl rfl rfl ?_
      clear hS; intro W10 hS
      refine op_assign rfl rfl ?_
      refine endF (XF.thenN ?_)
      refine retF ?_
      refine XF.thenR ?_
      refine XF.blkR ?_
      refine XF.thenR ?_
      refine XF.thenR ?_
      refine XF.blkR ?_
      refine XF.thenR ?_
      refine XF.res (resCT (vs := [_, _]) Try.results7 Try.isAgg44 Try.sizeOf44 rfl (CellsAt.own (j := 0) (m := 2) (hS.at_ 1 rfl) rfl) rfl) ?_
      exact confRet_bad hS.below (by unfold confE; dsimp only; rw [if_neg (by rw [hce]; simp), if_neg (by rw [hnd]; simp), ← hrun]; rfl) (by decide)
     ·have hg39 := of_decide_eq_false hc; clear hc
      refine op_wantedF (d := 39) rfl rfl ?_
      refine op_move rfl rfl ?_
      refine op_wantedF (d := 39) rfl rfl ?_
      refine op_field (o' := 7) gr_fa_29_7 rfl rfl rfl ?_
      refine op_wantedF (d := 39) rfl rfl ?_
      refine op_load Try.isAgg25 rfl (cell_own (hS.at_ 2 rfl) rfl) rfl ?_
      refine op_wantedF (d := 39) rfl rfl ?_
      refine op_len Try.underlying25 rfl rfl ?_
      refine op_wantedF (d := 39) rfl rfl ?_
      refine op_geq rfl rfl rfl ?_
      refine op_pickF rfl rfl rfl ?_
      refine endF (XF.thenN ?_)
      refine condF rfl (fun hc => ?_) (fun hc => ?_)
      ·have hc45 := of_decide_eq_true hc; clear hc
       refine seqF (regF ?_)
       refine op_build (us := []) rfl (gr_bld_44) rfl ?_
       refine op_storeA (i := 1) (vs := [_, _]) (cs' := [_, _]) (O' := [_, _, _]) hS Try.sizeOf44 rfl rfl rfl rfl rfl rfl rfl ?_
       clear hS; intro W11 hS
       refine op_assign rfl rfl ?_
       refine endF (XF.thenN ?_)
       refine retF ?_
       refine XF.thenR ?_
       refine XF.blkR ?_
       refine XF.thenR ?_
       refine XF.thenR ?_
       refine XF.blkR ?_
       refine XF.thenR ?_
       refine XF.res (resCT (vs := [_, _]) Try.results7 Try.isAgg44 Try.sizeOf44 rfl (CellsAt.own (j := 0) (m := 2) (hS.at_ 1 rfl) rfl) rfl) ?_
       rw [backs_no (inQ_big (by omega))] at hrun
       exact confRet_bad hS.below (by unfold confE; dsimp only; rw [if_neg (by rw [hce]; simp), if_neg (by rw [hnd]; simp), ← hrun]; rfl) (by decide)
      ·have hc45 := of_decide_eq_false hc; clear hc
       obtain ⟨k, rfl⟩ := Int.eq_ofNat_of_zero_le (show 0 ≤ y by omega)
       have hkt : k < tl := by omega
       obtain ⟨tb, to_, u, rfl, hu, huc⟩ := ht.get (i := k) (by omega)
       have k2 := (CellsAt.agree hS.agree (Nat.zero_le _) huc).2.2.2.1
       rw [backs_yes hkt hu, Option.map_map] at hrun
       refine skipF ?_
       refine XF.thenN ?_
       refine regBP (p := 9) (k := 11) (gi := 0) (m := 1) gr_followsM hS rfl rfl (by kernel_rfl) (by kernel_rfl) (by kernel_rfl) (fun d hd => by cases hd) rfl rfl Try.underlying23 gr_inf_3 rfl rfl (by show 0 < 1; decide) rfl rfl rfl (by simp only [maxLen]; omega) (by show (i + 1 + 1) * 8 ≤ _; omega) ?_
       refine blp_v 1 rfl rfl (by kernel_rfl) (rgV (li := [(9, _)]) rfl (w_free rfl) ⟨g_fr (by kernel_rfl) rfl, trivial⟩ (fun w hw => rn_field (o' := 1) gr_fa_44_1 rfl rfl) (at_top rfl)) ?_
       refine blp_v 2 rfl rfl (by kernel_rfl) (rgV (li := [(47, _)]) rfl (w_free rfl) ⟨g_dep 0 (by kernel_rfl) (at_dep rfl rfl rfl), trivial⟩ (fun w hw => rn_load Try.isAgg23 rfl ((below_agree hw 0).cell (Nat.zero_le _) (cell_own (hS.at_ 0 rfl) rfl))) (at_top rfl)) ?_
       refine blp_v 3 rfl rfl (by kernel_rfl) (rgV (li := [(3, _)]) rfl (w_free rfl) ⟨g_fr (by kernel_rfl) rfl, trivial⟩ (fun w hw => rn_field (o' := 7) gr_fa_29_7 rfl rfl) (at_top rfl)) ?_
       refine blp_v 4 rfl rfl (by kernel_rfl) (rgV (li := [(49, _)]) rfl (w_free rfl) ⟨g_dep 2 (by kernel_rfl) (at_dep rfl rfl rfl), trivial⟩ (fun w hw => rn_load Try.isAgg25 rfl ((below_agree hw 0).cell (Nat.zero_le _) (cell_own (hS.at_ 2 rfl) rfl))) (at_top rfl)) ?_
       refine blp_v 5 rfl rfl (by kernel_rfl) (rgV (li := [(11, _)]) rfl (w_free rfl) ⟨g_fr (by kernel_rfl) rfl, trivial⟩ (fun w hw => rn_move rfl) (at_top rfl)) ?_
       refine blp_v 6 rfl rfl (by kernel_rfl) (rgV (li := [(50, _), (51, _)]) rfl (w_free rfl) ⟨g_dep 3 (by kernel_rfl) (at_dep rfl rfl rfl), g_dep 4 (by kernel_rfl) (at_dep rfl rfl rfl), trivial⟩ (fun w hw => rn_indexA (j := k) Try.underlying25 Try.sizeOf54 rfl rfl (by omega) (by omega) rfl) (at_top rfl)) ?_
       refine blp_v 7 rfl rfl (by kernel_rfl) (rgV (li := [(52, _)]) rfl (w_free rfl) ⟨g_dep 5 (by kernel_rfl) (at_dep rfl rfl rfl), trivial⟩ (fun w hw => rn_field gr_fa_54_3 rfl rfl) (at_top rfl)) ?_
       refine blp_v 8 rfl rfl (by kernel_rfl) (rgV (li := [(53, _)]) rfl (w_free rfl) ⟨g_dep 6 (by kernel_rfl) (at_dep rfl rfl rfl), trivial⟩ (fun w hw => rn_load Try.isAgg3 rfl ((below_agree hw 0).cell (Nat.zero_le _) (k2))) (at_top rfl)) ?_
       refine blp_q 9 rfl rfl (by kernel_rfl) (isRow W.heap.size 1 3 _) (stab_isRow) (rg_rowV (us := [.int .i64 _]) rfl (w_free rfl) Try.underlying23 Try.sizeOf3 Try.zeroValue3 rfl rfl ⟨p_tmp (g_dep 7 (by kernel_rfl) (at_dep rfl rfl rfl)), trivial⟩ (gr_bs_23_1 _) (at_top rfl)) ?_
       refine blp_app 10 rfl rfl ?_
       refine blp_late 11 rfl rfl (rgV (li := [(9, _)]) rfl (w_free rfl) ⟨g_fr (by kernel_rfl) rfl, trivial⟩ (fun w hw => rn_field (o' := 1) gr_fa_44_1 rfl rfl) (at_top rfl)) (lgV (li := [(9, _)]) rfl (w_free rfl) ⟨g_fr (by kernel_rfl) rfl, trivial⟩ (fun w => rn_field (o' := 1) gr_fa_44_1 rfl rfl) (at_top rfl) rfl) ?_
       refine blp_nil ⟨_, _, g_dep 1 (by kernel_rfl) (at_dep rfl rfl rfl), g_dep 8 (by kernel_rfl) (at_dep rfl rfl rfl), rowOf_isRow rfl rfl, ?_⟩
       intro A12 v12 news12 W12 hbR hqA12 hS'
       clear hS; have hS := hS'; clear hS'
       cases hqA12
       refine fin_v ?_
       refine fin_v ?_
       refine fin_v ?_
       refine fin_v ?_
       refine fin_v ?_
       refine fin_v ?_
       refine fin_v ?_
       refine fin_v ?_
       refine fin_p ?_; intro _ _
       refine fin_v ?_
       refine fin_v ?_
       obtain ⟨a2, c2, e2, hac2⟩ := ownsRow_sl (hS.row 0 rfl)
       dsimp only at e2
       subst e2
       refine fin_nil ?_
       refine op_store (i := 0) (cs' := [_, _]) (O' := [_, _, _]) hS Try.sizeOf23 rfl rfl rfl rfl rfl rfl rfl ?_
       clear hS; intro W13 hS
       refine endF ?_
       refine XF.blkN ?_
       refine XF.thenN ?_
       refine regF ?_
       refine op_add rfl rfl (IntWalk.i64_in _ (by omega)) rfl ?_
       refine op_move rfl rfl ?_
       refine endF ?_
       exact XF.round (ll - (i + 1)) [(3, _), (6, _), (9, _), (31, _), (32, _), (33, _)] (by omega) ⟨rfl, rfl, rfl, rfl, rfl, rfl, trivial⟩ ⟨i + 1, acc ++ [u.bk], _, by omega, rfl, rfl, by simp [hacc], by rw [← hrun]; congr 1; funext z; simp, hS.clear.castG (by simp)⟩
    ·have hc34 := of_decide_eq_false hc; clear hc
     rw [List.drop_of_length_le (by omega)] at hrun
     simp only [backs, Option.map_some, List.append_nil] at hrun
     refine exitF ?_
     refine XF.thenX ?_
     refine XF.thenX ?_
     refine XF.blkX ?_
     refine XF.thenN ?_
     refine seqF ?_
     refine seqF (regF ?_)
     refine op_field (o' := 1) gr_fa_44_1 rfl rfl rfl ?_
     refine op_load Try.isAgg23 rfl (cell_own (hS.at_ 0 rfl) rfl) rfl ?_
     refine op_len Try.underlying23 rfl rfl ?_
     refine op_gtr rfl rfl rfl ?_
     refine endF (XF.thenN ?_)
     refine condF rfl (fun hc => ?_) (fun hc => ?_)
     ·have hc62 := of_decide_eq_true hc; clear hc
      refine seqF (regF ?_)
      refine op_build (us := []) rfl (gr_bld_44) rfl ?_
      refine op_storeA (i := 1) (vs := [_, _]) (cs' := [_, _]) (O' := [_, _, _]) hS Try.sizeOf44 rfl rfl rfl rfl rfl rfl rfl ?_
      clear hS; intro W14 hS
      refine op_assign rfl rfl ?_
      refine endF (XF.thenN ?_)
      refine retF ?_
      refine XF.thenR ?_
      refine XF.res (resCT (vs := [_, _]) Try.results7 Try.isAgg44 Try.sizeOf44 rfl (CellsAt.own (j := 0) (m := 2) (hS.at_ 1 rfl) rfl) rfl) ?_
      exact confRet_bad hS.below (by unfold confE; dsimp only; rw [if_neg (by rw [hce]; simp), if_neg (by rw [hnd]; simp), ← hrun]; exact if_pos (by rw [hacc]; omega)) (by decide)
     ·have hc62 := of_decide_eq_false hc; clear hc
      refine skipF ?_
      refine XF.thenN ?_
      refine seqF (regF ?_)
      refine op_loadA (vs := [_, _]) Try.isAgg44 Try.sizeOf44 rfl (CellsAt.own (j := 0) (m := 2) (hS.at_ 0 rfl) rfl) rfl ?_
      refine op_storeA (i := 1) (vs := [_, _]) (cs' := [_, _]) (O' := [_, _, _]) hS Try.sizeOf44 rfl rfl rfl rfl rfl rfl rfl ?_
      clear hS; intro W15 hS
      refine op_assign rfl rfl ?_
      refine endF (XF.thenN ?_)
      refine retF ?_
      refine XF.res (resCT (vs := [_, _]) Try.results7 Try.isAgg44 Try.sizeOf44 rfl (CellsAt.own (j := 0) (m := 2) (hS.at_ 1 rfl) rfl) rfl) ?_
      have hR : confE ⟨va, vl, vc, pa, pl, pc, ea, el, ec, es, xa, xl, xc, xs, mn, oa, ol, oc, os, sa, sl, sc, ss, ta, tl, tc, ts, na, nl, nc, ns, ka, kl, kc, ks⟩ node is = (0, node :: acc) := by unfold confE; dsimp only; rw [if_neg (by rw [hce]; simp), if_neg (by rw [hnd]; simp), ← hrun]; exact if_neg (by rw [hacc]; omega)
      rw [hR]
      exact ⟨hS.below, .inr ⟨rfl, a9, c9, by rw [List.length_cons, hacc], by have h9 := hS.row 0 rfl; unfold gr_RowN; rw [List.length_cons, hacc]; exact h9⟩⟩
end Go.Proofs.Ythepjghlipdcoaa
namespace Go.Proofs.Ythepjghlipdcoaa
open Go Go.RowKit
def uat (ts : List UV) (i : Nat) : UV := (ts[i]?).getD ⟨⟨#[]⟩, 0, 0, 0⟩
end Go.Proofs.Ythepjghlipdcoaa
namespace Go.Proofs.Ythepjghlipdcoaa
open Go Go.RowKit
theorem addr_add1 (b o : Nat) : (⟨b, o, none⟩ : Addr).add (1 * 1) = ⟨b, o + 1, none⟩ := by simp [Addr.add]
theorem RowI.tail1 {W : World} {a : Option Addr} {y : Int} {t : List Int} {c : Nat} (h : RowI W a (y :: t)) (hc : (y :: t).length ≤ c) : RowI W (if c = 1 then a else a.map (·.add (1 * 1))) t := by
 cases t with
 | nil => exact .inl rfl
 | cons z t =>
  have hc2 : ¬ c = 1 := by simp at hc; omega
  rw [if_neg hc2]
  rcases h with h | ⟨b, off, rfl, hh⟩
  ·cases h
  ·refine .inr ⟨b, off + 1, ?_, fun i x hx => ?_⟩
   ·show some ((⟨b, off, none⟩ : Addr).add (1 * 1)) = _
    rw [addr_add1]
   ·have h2 := hh (i + 1) x (by simpa using hx)
    rw [show off + (i + 1) * 1 = off + 1 + i * 1 by omega] at h2
    exact h2
theorem kind8 {g : GV} {s : TV} {n : Nat} (h8 : s.k = 8) (h : kindB g s n = true) : siteC g.ts s n = true := by
 unfold kindB at h
 rw [if_neg (by omega), if_pos h8] at h
 simp only [Bool.and_eq_true] at h
 exact h.2.2.2
theorem steps_back {g : GV} : ∀ {ss : List TV} {n m : Nat}, stepsFrom g ss n = some m → ∀ (i : Nat), n ≤ i → i < m → ∃ u, g.ts[i]? = some u ∧ gr_inQ u.bk g.ol = true
 | [], n, m, h, i, h1, h2 => by simp only [stepsFrom, Option.some.injEq] at h; omega
 | s :: r, n, m, h, i, h1, h2 => by
  simp only [stepsFrom] at h
  split at h
  ·rename_i hst
   by_cases h8 : s.k = 8
   ·rw [if_pos h8] at h
    by_cases hin : i = n
    ·subst hin
     unfold stepK at hst
     split at hst
     ·cases hst
     ·split at hst
      ·cases hst
      ·rename_i _ ht
       split at hst
       ·cases hst
       ·have hs := kind8 h8 hst
        unfold siteC at hs
        cases hu : g.ts[i]? with
        | none => rw [hu] at hs; simp at hs
        | some u =>
         rw [hu] at hs
         simp only [Bool.and_eq_true, decide_eq_true_eq] at hs
         exact ⟨u, rfl, by rw [hs.2.2]; simpa using ht⟩
    ·exact steps_back h i (by omega) h2
   ·rw [if_neg h8] at h
    exact steps_back h i h1 h2
  ·cases h
theorem backs_in {g : GV} (htl : g.ts.length = g.tl) (h : gr_checkE g = 0) : ∀ u ∈ g.ts, gr_inQ u.bk g.ol = true := fun u hu => by
 unfold gr_checkE at h
 split at h
 ·cases h
 ·split at h
  ·cases h
  ·rename_i hs
   have hs2 : stepsB g = true := by simpa using hs
   unfold stepsB at hs2
   have hs3 := of_decide_eq_true hs2
   obtain ⟨i, hi, e⟩ := List.mem_iff_getElem.1 hu
   obtain ⟨v, hv, hin⟩ := steps_back hs3 i (Nat.zero_le _) (by omega)
   rw [List.getElem?_eq_getElem hi, e] at hv
   cases hv; exact hin
end Go.Proofs.Ythepjghlipdcoaa
namespace Go.Proofs.Ythepjghlipdcoaa
open Go Go.RowKit
theorem gr_fa_44_0 (w : World) (b o : Nat) : (Instr.fieldAt 44 (.pointer (some ⟨b, o, none⟩)) 0).run Try.prog w = .ok (.pointer (some ⟨b, o + 0, none⟩)) w := by
 simp [Instr.fieldAt, run_underlying Try.underlying44, Instr.sureAddr, go_sem, Addr.add_lit]
end Go.Proofs.Ythepjghlipdcoaa
namespace Go.Proofs.Ythepjghlipdcoaa
open Go Go.RowKit
theorem gr_take_same {α : Type} {xs ys : List α} {i : Nat} {y z : α} (h : xs.take i = ys.take i) (hy : xs[i]? = some y) (hz : ys[i]? = some z) (e : y = z) : xs.take (i + 1) = ys.take (i + 1) := by
 rw [List.take_add_one, List.take_add_one, h, hy, hz, e]
def smallB (g : GV) : Bool := if 10 < g.vl then false else if 20 < g.pl then false else if 20 < g.el then false else if 20 < g.xl then false else if 100 < g.ol then false else if 100 < g.sl then false else if 20 < g.tl then false else if 60 < g.nl then false else decide (g.kl ≤ 60)
theorem small_few {g : GV} (h : smallB g = true) : GFew g := by
 unfold smallB at h
 repeat (split at h; · cases h)
 have := of_decide_eq_true h
 exact ⟨by omega, by omega, by omega, by omega, by omega, by omega, by omega, by omega, by omega⟩
structure QV where
 g : Int
 a : Option Addr
 l : Nat
 c : Nat
 ws : List Int
abbrev QV.ten (q : QV) : List Value := [.int .i64 0, .int .i64 q.g, .int .i64 0, .slice q.a q.l q.c, .bool false, .int .i64 0, .int .u64 0, .slice none 0 0, .slice none 0 0, .slice none 0 0]
def QV.pl (q : QV) : Int × List Int := (q.g, q.ws)
def QN (lo : Nat) (W : World) (q : QV) : Prop := q.ws.length = q.l ∧ (q.ws = [] ∨ ∃ B, q.a = some ⟨B, 0, none⟩ ∧ lo ≤ B ∧ W.heap[B]? = some (.cells (q.ws.map (Value.int .i64)).toArray 3 (0, 0)))
theorem QN.agree {lo : Nat} {A W : World} {q : QV} (h : QN lo A q) (hg : Agree lo A W) : QN lo W q := by
 refine ⟨h.1, ?_⟩
 rcases h.2 with h2 | ⟨B, h2, h3, h4⟩
 ·exact .inl h2
 ·exact .inr ⟨B, h2, h3, (hg.2 B h3 (lt_of_heap h4)).trans h4⟩
theorem QN.row {lo : Nat} {W : World} {q : QV} (h : QN lo W q) : RowI W q.a q.ws := by
 rcases h.2 with h2 | ⟨B, h2, h3, h4⟩
 ·exact .inl h2
 ·refine .inr ⟨B, 0, h2, fun i x hx => ⟨cell_own (cs := q.ws.map (Value.int .i64)) h4 ?_, trivial⟩⟩
  rw [Nat.zero_add, Nat.mul_one, List.getElem?_map, hx]; rfl
def stepR (g : GV) (s : TV) : Int × List Int := (s.f, if s.k = 8 then [(g.es[(uat g.ts s.s.toNat).pr.toNat]?).getD 0, s.t] else [s.t])
def exitR' (n : Int) : Int × List Int := (n, [])
def PdsRet (g : GV) (w : World) (e : Ending) (w' : World) : Prop := Below w.heap.size w w' ∧ ((gr_checkE g ≠ 0 ∧ e = .returned (.tuple #[.agg #[.int .i64 0, .int .i64 0, .slice none 0 0, .int .i64 0, .int .i64 0, .slice none 0 0], .int .i64 (gr_checkE g)])) ∨ (gr_checkE g = 0 ∧ ∃ a c, ∃ qs : List QV, e = .returned (.tuple #[.agg #[.int .i64 1, .int .i64 0, .slice none 0 0, .int .i64 1, .int .i64 (g.ol : Int), .slice a qs.length c], .int .i64 0]) ∧
 w'.ownsRow w.heap.size 69 10 (.slice a qs.length c) qs.length (qs.flatMap QV.ten) ∧ qs.map QV.pl = g.ss.map (stepR g) ++ g.xs.map exitR' ∧ ∀ q ∈ qs, QN w.heap.size w' q))
theorem rg_same {P : Program} {n : Nat} {Q : Exit → Act → World → Prop} {l : Fr} {W : World} {ops : Array Oper} {L : List Asr} {i d td : Nat} {ty : TypeId} {pos : String} {aft_ : Array Edge} {p : Asr} (hi : ops[i]? = some ⟨some d, .assign (.tmp td), ty, pos, aft_, none⟩) (hp : OpG n ops l L i td p) (hI : atI L i = p) : RG P n ops Q l W L i :=
 fun a ha => st_value hi (w_free rfl) fun b w hF hG hD => ⟨b.eval (.tmp td), w, by unfold execOp; rfl, by rw [hI]; exact hp a ha b w hF hD, Below.refl _ _⟩
theorem stepR_one {g : GV} {s : TV} (h : ¬ s.k = 8) : stepR g s = (s.f, [s.t]) := by unfold stepR; rw [if_neg h]
theorem stepR_two {g : GV} {s : TV} {n k : Nat} {u : UV} {e : Int} (h : s.k = 8) (hn : s.s = (n : Int)) (hu : g.ts[n]? = some u) (hk : u.pr = (k : Int)) (he : g.es[k]? = some e) : stepR g s = (s.f, [e, s.t]) := by
 unfold stepR
 rw [if_pos h, hn, Int.toNat_natCast, show uat g.ts n = u by unfold uat; rw [hu]; rfl, hk, Int.toNat_natCast, he]
 rfl
def CallsOk (g : GV) : Prop := ∀ s ∈ g.ss, s.k = 8 → ∃ (n k : Nat) (u : UV), s.s = (n : Int) ∧ n < g.tl ∧ g.ts[n]? = some u ∧ u.pr = (k : Int) ∧ k < g.el
theorem rowI_of1 {W : World} {B : Nat} {x : Int} (h : W.heap[B]? = some (.cells #[.int .i64 x] 3 (0, 0))) : RowI W (some ⟨B, 0, none⟩) [x] := by
 refine .inr ⟨B, 0, rfl, fun i y hy => ?_⟩
 match i, hy with
 | 0, hy => cases hy; exact ⟨cell_own (cs := [_]) h rfl, trivial⟩
 | k + 1, hy => simp at hy
theorem op_rowK {P : Program} {n : Nat} {ops : Array Oper} {Q : Exit → Act → World → Prop} {os : List Oper} {l : Fr} {w0 W : World} {O : Own} {G : Grows} {K : List (Nat × World)} {d : Nat} {ty : TypeId} {pos : String} {aft : Array Edge} {T e : TypeId} {m s : Nat} {xs : List (Nat × Operand)} {us : List (Nat × Value)} {z : Value} {cs : List Value} (hS : St w0 O G K W) (hU : P.underlying T = some (.slice e)) (hs : ∀ w, (sizeOf e).run P w = .ok s w) (hz : ∀ w, (zeroValue e).run P w = .ok z w)
  (hm : Nat.ble (m * s) 16777216 = true) (hm0 : Nat.beq (m * s) 0 = false) (hp : xs.map (fun p => (p.1, evL l p.2)) = us.map (fun p => (p.1, some p.2)))
  (hf : Instr.fill (fun i => some (i * s, s)) ((Array.range (m * s)).map (z.cells[· % z.cells.size]!)) us = some cs.toArray) (hd : Nat.blt d n = true)
  (h : ∀ B W', W'.heap[B]? = some (.cells cs.toArray e (0, 0)) → W.heap.size ≤ B → St w0 O G ((W.heap.size, W') :: K) W' → OpsF P n ops Q os ((d, .slice (some ⟨B, 0, none⟩) m m) :: l) W') : OpsF P n ops Q (⟨some d, .buildSlice T m xs.toArray, ty, pos, aft, none⟩ :: os) l W :=
 opV (W' := W.alloc (.cells cs.toArray e)) (v := .slice (some ⟨W.heap.size, 0, none⟩) m m) (fun ev he => by
  have h1 := parts_eval he xs us hp
  have h2 : (Array.map (fun p => (p.1, ev p.2)) xs.toArray) = us.toArray := by simp [h1]
  have h4 : m * s ≤ 16777216 := Nat.le_of_ble_eq_true hm
  have h5 : m * s ≠ 0 := fun e => by rw [e] at hm0; cases hm0
  have h6 : ¬ (m * s > 2 ^ 24) := by omega
  unfold execOp
  simp only []
  rw [h2]
  simp only [Instr.buildSlice, Sem.run_bind, run_underlying hU, Result.andThen_ok, hs, if_neg h6, if_neg h5, hz, Sem.run_pure, hf, newRow, run_newObj_alloc]) hd
  (h _ _ (heap_alloc_new W _) (Nat.le_refl _) (hS.call ((Below.refl _ _).alloc (Nat.le_refl _) _)))
end Go.Proofs.Ythepjghlipdcoaa
namespace Go.Proofs.Ythepjghlipdcoaa
open Go Go.RowKit
theorem gr_bld_35_0 (v0 : Int) : Try.prog.built 35 [(0, .int .i64 v0)] = some #[.int .i64 v0, .int .i64 0, .slice none 0 0] := by kernel_rfl
theorem gr_bld_67 : Try.prog.built 67 [] = some #[.bool false, .int .i64 0, .int .u64 0, .slice none 0 0, .slice none 0 0, .slice none 0 0] := by kernel_rfl
theorem gr_goes_21 : goesIn Try.prog 21 = true := by kernel_rfl
theorem ints_is (wa va : Option Addr) (wl wc vl vc : Nat) (ws vs : List Int) (w : World) (hrow : RowI w wa ws) (hlen : ws.length = wl) (hrov : RowI w va vs) (hlev : vs.length = vl) (hmx : wl ≤ 9223372036854775807) :
  Calls Try.prog 21 #[.slice wa wl wc, .slice va vl vc] w (fun e w' => e = .returned (.bool (decide (ws = vs))) ∧ Below w.heap.size w w') := by
 refine enterF (args := [.slice wa wl wc, .slice va vl vc]) Try.func21 rfl Try.ntmps21 rfl ?_
 have hS := St.start w
 refine seqF (regF ?_)
 refine op_assign rfl rfl ?_
 refine endF (XF.thenN ?_)
 refine seqF ?_
 refine seqF (regF ?_)
 refine op_move rfl rfl ?_
 refine op_len Try.underlying23 rfl rfl ?_
 refine op_move rfl rfl ?_
 refine op_len Try.underlying23 rfl rfl ?_
 refine op_neq rfl rfl rfl ?_
 refine endF (XF.thenN ?_)
 refine condF rfl (fun hc => ?_) (fun hc => ?_)
 ·have hc10 := of_decide_eq_true hc; clear hc
  refine seqF (regF ?_)
  refine op_assign rfl rfl ?_
  refine endF (XF.thenN ?_)
  refine retF ?_
  refine XF.thenR ?_
  refine XF.res (res1 Try.results21 rfl) ?_
  exact ⟨gr_rbool (decide_eq_false (fun h => absurd (congrArg List.length h) (by omega))).symm, hS.below⟩
 ·have hc10 := of_decide_eq_false hc; clear hc
  have hll : wl = vl := by omega
  refine skipF ?_
  refine XF.thenN ?_
  refine seqF ?_
  refine seqF (regF ?_)
  refine op_assign rfl rfl ?_
  refine endF (XF.thenN ?_)
  refine blockF ?_
  refine loopF (fun m l W => ∃ i : Nat, i ≤ wl ∧ m = wl - i ∧ l = [(0, .slice wa wl wc), (1, .slice va vl vc), (5, .int .i64 (i : Int))] ∧ ws.take i = vs.take i ∧ St w [] [] [] W) (wl - 0) ([(0, _), (1, _), (5, _)]) ⟨rfl, rfl, rfl, trivial⟩ (⟨0, Nat.zero_le _, rfl, rfl, rfl, hS.clear⟩) ?_
  clear hS
  rintro m l W ⟨i, hi, rfl, rfl, hall, hS⟩
  refine seqF ?_
  refine seqF (regF ?_)
  refine op_move rfl rfl ?_
  refine op_move rfl rfl ?_
  refine op_len Try.underlying23 rfl rfl ?_
  refine op_lss rfl rfl rfl ?_
  refine endF (XF.thenN ?_)
  refine condF rfl (fun hc => ?_) (fun hc => ?_)
  ·have hc14 := of_decide_eq_true hc; clear hc
   have hk : i < wl := by omega
   obtain ⟨b, off, y, rfl, hy, hyc⟩ := hrow.get (i := i) (by omega)
   obtain ⟨b2, off2, z, rfl, hz, hzc⟩ := hrov.get (i := i) (by omega)
   have k1 := (CellsAt.agree hS.agree (Nat.zero_le _) hyc).1
   have k2 := (CellsAt.agree hS.agree (Nat.zero_le _) hzc).1
   refine skipF ?_
   refine XF.thenN ?_
   refine seqF ?_
   refine blockF ?_
   refine seqF ?_
   refine regB (m := 9) gr_followsM hS (by kernel_rfl) (by kernel_rfl) rfl ?_
   refine bl_cons 1 rfl (isV _) (stab_isV _) (rgV (li := [(0, _)]) rfl (w_free rfl) ⟨g_fr (by kernel_rfl) rfl, trivial⟩ (fun w hw => rn_move rfl) (at_top rfl)) ?_
   refine bl_cons 2 rfl (isV _) (stab_isV _) (rgV (li := [(5, _)]) rfl (w_free rfl) ⟨g_fr (by kernel_rfl) rfl, trivial⟩ (fun w hw => rn_move rfl) (at_top rfl)) ?_
   refine bl_cons 3 rfl (isV _) (stab_isV _) (rgV (li := [(17, _), (18, _)]) rfl (w_free rfl) ⟨g_dep 0 (by kernel_rfl) (at_dep rfl rfl rfl), g_dep 1 (by kernel_rfl) (at_dep rfl rfl rfl), trivial⟩ (fun w hw => rn_indexA  Try.underlying23 Try.sizeOf3 rfl rfl rfl (by omega) rfl) (at_top rfl)) ?_
   refine bl_cons 4 rfl (isV _) (stab_isV _) (rgV (li := [(19, _)]) rfl (w_free rfl) ⟨g_dep 2 (by kernel_rfl) (at_dep rfl rfl rfl), trivial⟩ (fun w hw => rn_load Try.isAgg3 rfl ((below_agree hw 0).cell (Nat.zero_le _) (k1))) (at_top rfl)) ?_
   refine bl_cons 5 rfl (isV _) (stab_isV _) (rgV (li := [(1, _)]) rfl (w_free rfl) ⟨g_fr (by kernel_rfl) rfl, trivial⟩ (fun w hw => rn_move rfl) (at_top rfl)) ?_
   refine bl_cons 6 rfl (isV _) (stab_isV _) (rgV (li := [(5, _)]) rfl (w_free rfl) ⟨g_fr (by kernel_rfl) rfl, trivial⟩ (fun w hw => rn_move rfl) (at_top rfl)) ?_
   refine bl_cons 7 rfl (isV _) (stab_isV _) (rgV (li := [(21, _), (22, _)]) rfl (w_free rfl) ⟨g_dep 4 (by kernel_rfl) (at_dep rfl rfl rfl), g_dep 5 (by kernel_rfl) (at_dep rfl rfl rfl), trivial⟩ (fun w hw => rn_indexA  Try.underlying23 Try.sizeOf3 rfl rfl rfl (by omega) rfl) (at_top rfl)) ?_
   refine bl_cons 8 rfl (isV _) (stab_isV _) (rgV (li := [(23, _)]) rfl (w_free rfl) ⟨g_dep 6 (by kernel_rfl) (at_dep rfl rfl rfl), trivial⟩ (fun w hw => rn_load Try.isAgg3 rfl ((below_agree hw 0).cell (Nat.zero_le _) (k2))) (at_top rfl)) ?_
   refine bl_cons 9 rfl (isV _) (stab_isV _) (rgV (li := [(20, _), (24, _)]) rfl (w_free rfl) ⟨g_dep 3 (by kernel_rfl) (at_dep rfl rfl rfl), g_dep 7 (by kernel_rfl) (at_dep rfl rfl rfl), trivial⟩ (fun w hw => rn_neq rfl rfl) (at_top rfl)) ?_
   refine bl_nil ?_
   intro W1 hbR hS'
   clear hS; have hS := hS'; clear hS'
   refine fin_v ?_
   refine fin_v ?_
   refine fin_v ?_
   refine fin_v ?_
   refine fin_v ?_
   refine fin_v ?_
   refine fin_v ?_
   refine fin_v ?_
   refine fin_v ?_
   refine fin_nil ?_
   refine XF.thenN ?_
   refine condF rfl (fun hc => ?_) (fun hc => ?_)
   ·have hc25 := hc; clear hc
    refine seqF (regF ?_)
    refine op_assign rfl rfl ?_
    refine endF (XF.thenN ?_)
    refine retF ?_
    refine XF.blkR ?_
    refine XF.thenR ?_
    refine XF.thenR ?_
    refine XF.blkR ?_
    refine XF.thenR ?_
    refine XF.res (res1 Try.results21 rfl) ?_
    exact ⟨gr_rbool (decide_eq_false (fun h => absurd (show y = z by have e := h ▸ hy; rw [hz] at e; exact (Option.some.inj e).symm) (by simpa using hc25))).symm, hS.below⟩
   ·have hc25 := hc; clear hc
    refine skipF ?_
    refine XF.blkN ?_
    refine XF.thenN ?_
    refine regF ?_
    refine op_move rfl rfl ?_
    refine op_add rfl rfl (IntWalk.i64_in _ (by omega)) rfl ?_
    refine op_assign rfl rfl ?_
    refine endF ?_
    exact XF.round (wl - (i + 1)) [(0, _), (1, _), (5, _)] (by omega) ⟨rfl, rfl, rfl, trivial⟩ ⟨i + 1, by omega, rfl, rfl, gr_take_same hall hy hz (by simpa using hc25), hS.clear⟩
  ·have hc14 := of_decide_eq_false hc; clear hc
   refine exitF ?_
   refine XF.thenX ?_
   refine XF.thenX ?_
   refine XF.blkX ?_
   refine XF.thenN ?_
   refine seqF (regF ?_)
   refine op_assign rfl rfl ?_
   refine endF (XF.thenN ?_)
   refine retF ?_
   refine XF.res (res1 Try.results21 rfl) ?_
   rw [List.take_of_length_le (by omega), List.take_of_length_le (by omega)] at hall
   exact ⟨gr_rbool (decide_eq_true hall).symm, hS.below⟩
theorem sameConf_is (p q : Int) (wa va : Option Addr) (wl wc vl vc : Nat) (ws vs : List Int) (w : World) (hrow : RowI w wa ws) (hlen : ws.length = wl) (hrov : RowI w va vs) (hlev : vs.length = vl) (hmx : wl ≤ 9223372036854775807) :
  Calls Try.prog 10 #[.agg #[.int .i64 p, .slice wa wl wc], .agg #[.int .i64 q, .slice va vl vc]] w (fun e w' => e = .returned (.bool (decide (p = q) && decide (ws = vs))) ∧ Below w.heap.size w w') := by
 refine enterF (args := [.agg #[.int .i64 p, .slice wa wl wc], .agg #[.int .i64 q, .slice va vl vc]]) Try.func10 rfl Try.ntmps10 rfl ?_
 have hS := St.start w
 refine seqF (regF ?_)
 refine op_box (cs := [_, _]) hS rfl rfl rfl ?_
 clear hS; intro B1 W1 hS
 refine op_box (cs := [_, _]) hS rfl rfl rfl ?_
 clear hS; intro B2 W2 hS
 refine op_assign rfl rfl ?_
 refine endF (XF.thenN ?_)
 refine seqF (regF ?_)
 refine op_field (o' := 0) gr_fa_44_0 rfl rfl rfl ?_
 refine op_load Try.isAgg3 rfl (cell_own (hS.at_ 1 rfl) rfl) rfl ?_
 refine op_field (o' := 0) gr_fa_44_0 rfl rfl rfl ?_
 refine op_load Try.isAgg3 rfl (cell_own (hS.at_ 0 rfl) rfl) rfl ?_
 refine op_eql rfl rfl rfl ?_
 refine op_move rfl rfl ?_
 refine op_cases (d := 10) rfl (fun hc => ?_) (fun hc => ?_)
 ·have hg10 := of_decide_eq_true hc; clear hc
  refine op_wantedF (d := 10) rfl rfl ?_
  refine op_field (o' := 1) gr_fa_44_1 rfl rfl rfl ?_
  refine op_wantedF (d := 10) rfl rfl ?_
  refine op_load Try.isAgg23 rfl (cell_own (hS.at_ 1 rfl) rfl) rfl ?_
  refine op_wantedF (d := 10) rfl rfl ?_
  refine op_field (o' := 1) gr_fa_44_1 rfl rfl rfl ?_
  refine op_wantedF (d := 10) rfl rfl ?_
  refine op_load Try.isAgg23 rfl (cell_own (hS.at_ 0 rfl) rfl) rfl ?_
  refine op_wantedF (d := 10) rfl rfl ?_
  refine op_call (vs := [_, _]) hS gr_goes_21 rfl (ints_is _ _ _ _ _ _ ws vs _ (hrow.below hS.below) hlen (hrov.below hS.below) hlev hmx) rfl ?_
  rintro e W3 ⟨rfl, hb⟩
  refine ⟨_, rfl, hb, fun hS' => ?_⟩
  clear hS; have hS := hS'; clear hS' hb
  refine op_pickT rfl rfl rfl ?_
  refine op_assign rfl rfl ?_
  refine endF (XF.thenN ?_)
  refine retF ?_
  refine XF.res (res1 Try.results10 rfl) ?_
  exact ⟨gr_rbool (by rw [decide_eq_true hg10]; rfl), hS.below⟩
 ·have hg10 := of_decide_eq_false hc; clear hc
  refine op_notF (d := 10) rfl rfl rfl rfl ?_
  refine op_notF (d := 10) rfl rfl rfl rfl ?_
  refine op_notF (d := 10) rfl rfl rfl rfl ?_
  refine op_notF (d := 10) rfl rfl rfl rfl ?_
  refine op_notF (d := 10) rfl rfl rfl rfl ?_
  refine op_pickF rfl rfl rfl ?_
  refine op_assign rfl rfl ?_
  refine endF (XF.thenN ?_)
  refine retF ?_
  refine XF.res (res1 Try.results10 rfl) ?_
  exact ⟨gr_rbool (by rw [decide_eq_false hg10]; rfl), hS.below⟩
theorem gr_small_is (g : GV) (w : World) :
  Calls Try.prog 4 #[g.val] w (fun e w' => e = .returned (.bool (smallB g)) ∧ Below w.heap.size w w') := by
 refine enterF (args := [g.val]) Try.func4 rfl Try.ntmps4 rfl ?_
 have hS := St.start w
 refine seqF (regF ?_)
 refine op_box (cs := [_, _, _, _, _, _, _, _, _, _]) hS rfl rfl rfl ?_
 clear hS; intro B1 W1 hS
 refine op_assign rfl rfl ?_
 refine endF (XF.thenN ?_)
 refine seqF (regF ?_)
 refine op_field (o' := 0) gr_fa_29_0 rfl rfl rfl ?_
 refine op_load Try.isAgg22 rfl (cell_own (hS.at_ 0 rfl) rfl) rfl ?_
 refine op_len Try.underlying22 rfl rfl ?_
 refine op_leq rfl rfl rfl ?_
 refine op_move rfl rfl ?_
 refine op_cases (d := 7) rfl (fun hc => ?_) (fun hc => ?_)
 ·have hg7 := of_decide_eq_true hc; clear hc
  refine op_wantedF (d := 7) rfl rfl ?_
  refine op_field (o' := 1) gr_fa_29_1 rfl rfl rfl ?_
  refine op_wantedF (d := 7) rfl rfl ?_
  refine op_load Try.isAgg22 rfl (cell_own (hS.at_ 0 rfl) rfl) rfl ?_
  refine op_wantedF (d := 7) rfl rfl ?_
  refine op_len Try.underlying22 rfl rfl ?_
  refine op_wantedF (d := 7) rfl rfl ?_
  refine op_leq rfl rfl rfl ?_
  refine op_pickT rfl rfl rfl ?_
  refine op_move rfl rfl ?_
  refine op_cases (d := 13) rfl (fun hc => ?_) (fun hc => ?_)
  ·have hg13 := of_decide_eq_true hc; clear hc
   refine op_wantedF (d := 13) rfl rfl ?_
   refine op_field (o' := 2) gr_fa_29_2 rfl rfl rfl ?_
   refine op_wantedF (d := 13) rfl rfl ?_
   refine op_load Try.isAgg23 rfl (cell_own (hS.at_ 0 rfl) rfl) rfl ?_
   refine op_wantedF (d := 13) rfl rfl ?_
   refine op_len Try.underlying23 rfl rfl ?_
   refine op_wantedF (d := 13) rfl rfl ?_
   refine op_leq rfl rfl rfl ?_
   refine op_pickT rfl rfl rfl ?_
   refine op_move rfl rfl ?_
   refine op_cases (d := 19) rfl (fun hc => ?_) (fun hc => ?_)
   ·have hg19 := of_decide_eq_true hc; clear hc
    refine op_wantedF (d := 19) rfl rfl ?_
    refine op_field (o' := 3) gr_fa_29_3 rfl rfl rfl ?_
    refine op_wantedF (d := 19) rfl rfl ?_
    refine op_load Try.isAgg23 rfl (cell_own (hS.at_ 0 rfl) rfl) rfl ?_
    refine op_wantedF (d := 19) rfl rfl ?_
    refine op_len Try.underlying23 rfl rfl ?_
    refine op_wantedF (d := 19) rfl rfl ?_
    refine op_leq rfl rfl rfl ?_
    refine op_pickT rfl rfl rfl ?_
    refine op_move rfl rfl ?_
    refine op_cases (d := 25) rfl (fun hc => ?_) (fun hc => ?_)
    ·have hg25 := of_decide_eq_true hc; clear hc
     refine op_wantedF (d := 25) rfl rfl ?_
     refine op_field (o' := 5) gr_fa_29_5 rfl rfl rfl ?_
     refine op_wantedF (d := 25) rfl rfl ?_
     refine op_load Try.isAgg23 rfl (cell_own (hS.at_ 0 rfl) rfl) rfl ?_
     refine op_wantedF (d := 25) rfl rfl ?_
     refine op_len Try.underlying23 rfl rfl ?_
     refine op_wantedF (d := 25) rfl rfl ?_
     refine op_leq rfl rfl rfl ?_
     refine op_pickT rfl rfl rfl ?_
     refine op_move rfl rfl ?_
     refine op_cases (d := 31) rfl (fun hc => ?_) (fun hc => ?_)
     ·have hg31 := of_decide_eq_true hc; clear hc
      refine op_wantedF (d := 31) rfl rfl ?_
      refine op_field (o' := 6) gr_fa_29_6 rfl rfl rfl ?_
      refine op_wantedF (d := 31) rfl rfl ?_
      refine op_load Try.isAgg24 rfl (cell_own (hS.at_ 0 rfl) rfl) rfl ?_
      refine op_wantedF (d := 31) rfl rfl ?_
      refine op_len Try.underlying24 rfl rfl ?_
      refine op_wantedF (d := 31) rfl rfl ?_
      refine op_leq rfl rfl rfl ?_
      refine op_pickT rfl rfl rfl ?_
      refine op_move rfl rfl ?_
      refine op_cases (d := 37) rfl (fun hc => ?_) (fun hc => ?_)
      ·have hg37 := of_decide_eq_true hc; clear hc
       refine op_wantedF (d := 37) rfl rfl ?_
       refine op_field (o' := 7) gr_fa_29_7 rfl rfl rfl ?_
       refine op_wantedF (d := 37) rfl rfl ?_
       refine op_load Try.isAgg25 rfl (cell_own (hS.at_ 0 rfl) rfl) rfl ?_
       refine op_wantedF (d := 37) rfl rfl ?_
       refine op_len Try.underlying25 rfl rfl ?_
       refine op_wantedF (d := 37) rfl rfl ?_
       refine op_leq rfl rfl rfl ?_
       refine op_pickT rfl rfl rfl ?_
       refine op_move rfl rfl ?_
       refine op_cases (d := 43) rfl (fun hc => ?_) (fun hc => ?_)
       ·have hg43 := of_decide_eq_true hc; clear hc
        refine op_wantedF (d := 43) rfl rfl ?_
        refine op_field (o' := 8) gr_fa_29_8 rfl rfl rfl ?_
        refine op_wantedF (d := 43) rfl rfl ?_
        refine op_load Try.isAgg26 rfl (cell_own (hS.at_ 0 rfl) rfl) rfl ?_
        refine op_wantedF (d := 43) rfl rfl ?_
        refine op_len Try.underlying26 rfl rfl ?_
        refine op_wantedF (d := 43) rfl rfl ?_
        refine op_leq rfl rfl rfl ?_
        refine op_pickT rfl rfl rfl ?_
        refine op_move rfl rfl ?_
        refine op_cases (d := 49) rfl (fun hc => ?_) (fun hc => ?_)
        ·have hg49 := of_decide_eq_true hc; clear hc
         refine op_wantedF (d := 49) rfl rfl ?_
         refine op_field (o' := 9) gr_fa_29_9 rfl rfl rfl ?_
         refine op_wantedF (d := 49) rfl rfl ?_
         refine op_load Try.isAgg27 rfl (cell_own (hS.at_ 0 rfl) rfl) rfl ?_
         refine op_wantedF (d := 49) rfl rfl ?_
         refine op_len Try.underlying27 rfl rfl ?_
         refine op_wantedF (d := 49) rfl rfl ?_
         refine op_leq rfl rfl rfl ?_
         refine op_pickT rfl rfl rfl ?_
         refine op_assign rfl rfl ?_
         refine endF (XF.thenN ?_)
         refine retF ?_
         refine XF.res (res1 Try.results4 rfl) ?_
         exact ⟨gr_rbool (by unfold smallB; rw [if_neg (by omega), if_neg (by omega), if_neg (by omega), if_neg (by omega), if_neg (by omega), if_neg (by omega), if_neg (by omega), if_neg (by omega)]; exact decide_eq_decide.2 (by omega)), hS.below⟩
        ·have hg49 := of_decide_eq_false hc; clear hc
         refine op_notF (d := 49) rfl rfl rfl rfl ?_
         refine op_notF (d := 49) rfl rfl rfl rfl ?_
         refine op_notF (d := 49) rfl rfl rfl rfl ?_
         refine op_notF (d := 49) rfl rfl rfl rfl ?_
         refine op_pickF rfl rfl rfl ?_
         refine op_assign rfl rfl ?_
         refine endF (XF.thenN ?_)
         refine retF ?_
         refine XF.res (res1 Try.results4 rfl) ?_
         exact ⟨gr_rbool (by unfold smallB; rw [if_neg (by omega), if_neg (by omega), if_neg (by omega), if_neg (by omega), if_neg (by omega), if_neg (by omega), if_neg (by omega), if_pos (by omega)]), hS.below⟩
       ·have hg43 := of_decide_eq_false hc; clear hc
        refine op_notF (d := 43) rfl rfl rfl rfl ?_
        refine op_notF (d := 43) rfl rfl rfl rfl ?_
        refine op_notF (d := 43) rfl rfl rfl rfl ?_
        refine op_notF (d := 43) rfl rfl rfl rfl ?_
        refine op_pickF rfl rfl rfl ?_
        refine op_move rfl rfl ?_
        refine op_notF (d := 49) rfl rfl rfl rfl ?_
        refine op_notF (d := 49) rfl rfl rfl rfl ?_
        refine op_notF (d := 49) rfl rfl rfl rfl ?_
        refine op_notF (d := 49) rfl rfl rfl rfl ?_
        refine op_pickF rfl rfl rfl ?_
        refine op_assign rfl rfl ?_
        refine endF (XF.thenN ?_)
        refine retF ?_
        refine XF.res (res1 Try.results4 rfl) ?_
        exact ⟨gr_rbool (by unfold smallB; rw [if_neg (by omega), if_neg (by omega), if_neg (by omega), if_neg (by omega), if_neg (by omega), if_neg (by omega), if_pos (by omega)]), hS.below⟩
      ·have hg37 := of_decide_eq_false hc; clear hc
       refine op_notF (d := 37) rfl rfl rfl rfl ?_
       refine op_notF (d := 37) rfl rfl rfl rfl ?_
       refine op_notF (d := 37) rfl rfl rfl rfl ?_
       refine op_notF (d := 37) rfl rfl rfl rfl ?_
       refine op_pickF rfl rfl rfl ?_
       refine op_move rfl rfl ?_
       refine op_notF (d := 43) rfl rfl rfl rfl ?_
       refine op_notF (d := 43) rfl rfl rfl rfl ?_
       refine op_notF (d := 43) rfl rfl rfl rfl ?_
       refine op_notF (d := 43) rfl rfl rfl rfl ?_
       refine op_pickF rfl rfl rfl ?_
       refine op_move rfl rfl ?_
       refine op_notF (d := 49) rfl rfl rfl rfl ?_
       refine op_notF (d := 49) rfl rfl rfl rfl ?_
       refine op_notF (d := 49) rfl rfl rfl rfl ?_
       refine op_notF (d := 49) rfl rfl rfl rfl ?_
       refine op_pickF rfl rfl rfl ?_
       refine op_assign rfl rfl ?_
       refine endF (XF.thenN ?_)
       refine retF ?_
       refine XF.res (res1 Try.results4 rfl) ?_
       exact ⟨gr_rbool (by unfold smallB; rw [if_neg (by omega), if_neg (by omega), if_neg (by omega), if_neg (by omega), if_neg (by omega), if_pos (by omega)]), hS.below⟩
     ·have hg31 := of_decide_eq_false hc; clear hc
      refine op_notF (d := 31) rfl rfl rfl rfl ?_
      refine op_notF (d := 31) rfl rfl rfl rfl ?_
      refine op_notF (d := 31) rfl rfl rfl rfl ?_
      refine op_notF (d := 31) rfl rfl rfl rfl ?_
      refine op_pickF rfl rfl rfl ?_
      refine op_move rfl rfl ?_
      refine op_notF (d := 37) rfl rfl rfl rfl ?_
      refine op_notF (d := 37) rfl rfl rfl rfl ?_
      refine op_notF (d := 37) rfl rfl rfl rfl ?_
      refine op_notF (d := 37) rfl rfl rfl rfl ?_
      refine op_pickF rfl rfl rfl ?_
      refine op_move rfl rfl ?_
      refine op_notF (d := 43) rfl rfl rfl rfl ?_
      refine op_notF (d := 43) rfl rfl rfl rfl ?_
      refine op_notF (d := 43) rfl rfl rfl rfl ?_
      refine op_notF (d := 43) rfl rfl rfl rfl ?_
      refine op_pickF rfl rfl rfl ?_
      refine op_move rfl rfl ?_
      refine op_notF (d := 49) rfl rfl rfl rfl ?_
      refine op_notF (d := 49) rfl rfl rfl rfl ?_
      refine op_notF (d := 49) rfl rfl rfl rfl ?_
      refine op_notF (d := 49) rfl rfl rfl rfl ?_
      refine op_pickF rfl rfl rfl ?_
      refine op_assign rfl rfl ?_
      refine endF (XF.thenN ?_)
      refine retF ?_
      refine XF.res (res1 Try.results4 rfl) ?_
      exact ⟨gr_rbool (by unfold smallB; rw [if_neg (by omega), if_neg (by omega), if_neg (by omega), if_neg (by omega), if_pos (by omega)]), hS.below⟩
    ·have hg25 := of_decide_eq_false hc; clear hc
     refine op_notF (d := 25) rfl rfl rfl rfl ?_
     refine op_notF (d := 25) rfl rfl rfl rfl ?_
     refine op_notF (d := 25) rfl rfl rfl rfl ?_
     refine op_notF (d := 25) rfl rfl rfl rfl ?_
     refine op_pickF rfl rfl rfl ?_
     refine op_move rfl rfl ?_
     refine op_notF (d := 31) rfl rfl rfl rfl ?_
     refine op_notF (d := 31) rfl rfl rfl rfl ?_
     refine op_notF (d := 31) rfl rfl rfl rfl ?_
     refine op_notF (d := 31) rfl rfl rfl rfl ?_
     refine op_pickF rfl rfl rfl ?_
     refine op_move rfl rfl ?_
     refine op_notF (d := 37) rfl rfl rfl rfl ?_
     refine op_notF (d := 37) rfl rfl rfl rfl ?_
     refine op_notF (d := 37) rfl rfl rfl rfl ?_
     refine op_notF (d := 37) rfl rfl rfl rfl ?_
     refine op_pickF rfl rfl rfl ?_
     refine op_move rfl rfl ?_
     refine op_notF (d := 43) rfl rfl rfl rfl ?_
     refine op_notF (d := 43) rfl rfl rfl rfl ?_
     refine op_notF (d := 43) rfl rfl rfl rfl ?_
     refine op_notF (d := 43) rfl rfl rfl rfl ?_
     refine op_pickF rfl rfl rfl ?_
     refine op_move rfl rfl ?_
     refine op_notF (d := 49) rfl rfl rfl rfl ?_
     refine op_notF (d := 49) rfl rfl rfl rfl ?_
     refine op_notF (d := 49) rfl rfl rfl rfl ?_
     refine op_notF (d := 49) rfl rfl rfl rfl ?_
     refine op_pickF rfl rfl rfl ?_
     refine op_assign rfl rfl ?_
     refine endF (XF.thenN ?_)
     refine retF ?_
     refine XF.res (res1 Try.results4 rfl) ?_
     exact ⟨gr_rbool (by unfold smallB; rw [if_neg (by omega), if_neg (by omega), if_neg (by omega), if_pos (by omega)]), hS.below⟩
   ·have hg19 := of_decide_eq_false hc; clear hc
    refine op_notF (d := 19) rfl rfl rfl rfl ?_
    refine op_notF (d := 19) rfl rfl rfl rfl ?_
    refine op_notF (d := 19) rfl rfl rfl rfl ?_
    refine op_notF (d := 19) rfl rfl rfl rfl ?_
    refine op_pickF rfl rfl rfl ?_
    refine op_move rfl rfl ?_
    refine op_notF (d := 25) rfl rfl rfl rfl ?_
    refine op_notF (d := 25) rfl rfl rfl rfl ?_
    refine op_notF (d := 25) rfl rfl rfl rfl ?_
    refine op_notF (d := 25) rfl rfl rfl rfl ?_
    refine op_pickF rfl rfl rfl ?_
    refine op_move rfl rfl ?_
    refine op_notF (d := 31) rfl rfl rfl rfl ?_
    refine op_notF (d := 31) rfl rfl rfl rfl ?_
    refine op_notF (d := 31) rfl rfl rfl rfl ?_
    refine op_notF (d := 31) rfl rfl rfl rfl ?_
    refine op_pickF rfl rfl rfl ?_
    refine op_move rfl rfl ?_
    refine op_notF (d := 37) rfl rfl rfl rfl ?_
    refine op_notF (d := 37) rfl rfl rfl rfl ?_
    refine op_notF (d := 37) rfl rfl rfl rfl ?_
    refine op_notF (d := 37) rfl rfl rfl rfl ?_
    refine op_pickF rfl rfl rfl ?_
    refine op_move rfl rfl ?_
    refine op_notF (d := 43) rfl rfl rfl rfl ?_
    refine op_notF (d := 43) rfl rfl rfl rfl ?_
    refine op_notF (d := 43) rfl rfl rfl rfl ?_
    refine op_notF (d := 43) rfl rfl rfl rfl ?_
    refine op_pickF rfl rfl rfl ?_
    refine op_move rfl rfl ?_
    refine op_notF (d := 49) rfl rfl rfl rfl ?_
    refine op_notF (d := 49) rfl rfl rfl rfl ?_
    refine op_notF (d := 49) rfl rfl rfl rfl ?_
    refine op_notF (d := 49) rfl rfl rfl rfl ?_
    refine op_pickF rfl rfl rfl ?_
    refine op_assign rfl rfl ?_
    refine endF (XF.thenN ?_)
    refine retF ?_
    refine XF.res (res1 Try.results4 rfl) ?_
    exact ⟨gr_rbool (by unfold smallB; rw [if_neg (by omega), if_neg (by omega), if_pos (by omega)]), hS.below⟩
  ·have hg13 := of_decide_eq_false hc; clear hc
   refine op_notF (d := 13) rfl rfl rfl rfl ?_
   refine op_notF (d := 13) rfl rfl rfl rfl ?_
   refine op_notF (d := 13) rfl rfl rfl rfl ?_
   refine op_notF (d := 13) rfl rfl rfl rfl ?_
   refine op_pickF rfl rfl rfl ?_
   refine op_move rfl rfl ?_
   refine op_notF (d := 19) rfl rfl rfl rfl ?_
   refine op_notF (d := 19) rfl rfl rfl rfl ?_
   refine op_notF (d := 19) rfl rfl rfl rfl ?_
   refine op_notF (d := 19) rfl rfl rfl rfl ?_
   refine op_pickF rfl rfl rfl ?_
   refine op_move rfl rfl ?_
   refine op_notF (d := 25) rfl rfl rfl rfl ?_
   refine op_notF (d := 25) rfl rfl rfl rfl ?_
   refine op_notF (d := 25) rfl rfl rfl rfl ?_
   refine op_notF (d := 25) rfl rfl rfl rfl ?_
   refine op_pickF rfl rfl rfl ?_
   refine op_move rfl rfl ?_
   refine op_notF (d := 31) rfl rfl rfl rfl ?_
   refine op_notF (d := 31) rfl rfl rfl rfl ?_
   refine op_notF (d := 31) rfl rfl rfl rfl ?_
   refine op_notF (d := 31) rfl rfl rfl rfl ?_
   refine op_pickF rfl rfl rfl ?_
   refine op_move rfl rfl ?_
   refine op_notF (d := 37) rfl rfl rfl rfl ?_
   refine op_notF (d := 37) rfl rfl rfl rfl ?_
   refine op_notF (d := 37) rfl rfl rfl rfl ?_
   refine op_notF (d := 37) rfl rfl rfl rfl ?_
   refine op_pickF rfl rfl rfl ?_
   refine op_move rfl rfl ?_
   refine op_notF (d := 43) rfl rfl rfl rfl ?_
   refine op_notF (d := 43) rfl rfl rfl rfl ?_
   refine op_notF (d := 43) rfl rfl rfl rfl ?_
   refine op_notF (d := 43) rfl rfl rfl rfl ?_
   refine op_pickF rfl rfl rfl ?_
   refine op_move rfl rfl ?_
   refine op_notF (d := 49) rfl rfl rfl rfl ?_
   refine op_notF (d := 49) rfl rfl rfl rfl ?_
   refine op_notF (d := 49) rfl rfl rfl rfl ?_
   refine op_notF (d := 49) rfl rfl rfl rfl ?_
   refine op_pickF rfl rfl rfl ?_
   refine op_assign rfl rfl ?_
   refine endF (XF.thenN ?_)
   refine retF ?_
   refine XF.res (res1 Try.results4 rfl) ?_
   exact ⟨gr_rbool (by unfold smallB; rw [if_neg (by omega), if_pos (by omega)]), hS.below⟩
 ·have hg7 := of_decide_eq_false hc; clear hc
  refine op_notF (d := 7) rfl rfl rfl rfl ?_
  refine op_notF (d := 7) rfl rfl rfl rfl ?_
  refine op_notF (d := 7) rfl rfl rfl rfl ?_
  refine op_notF (d := 7) rfl rfl rfl rfl ?_
  refine op_pickF rfl rfl rfl ?_
  refine op_move rfl rfl ?_
  refine op_notF (d := 13) rfl rfl rfl rfl ?_
  refine op_notF (d := 13) rfl rfl rfl rfl ?_
  refine op_notF (d := 13) rfl rfl rfl rfl ?_
  refine op_notF (d := 13) rfl rfl rfl rfl ?_
  refine op_pickF rfl rfl rfl ?_
  refine op_move rfl rfl ?_
  refine op_notF (d := 19) rfl rfl rfl rfl ?_
  refine op_notF (d := 19) rfl rfl rfl rfl ?_
  refine op_notF (d := 19) rfl rfl rfl rfl ?_
  refine op_notF (d := 19) rfl rfl rfl rfl ?_
  refine op_pickF rfl rfl rfl ?_
  refine op_move rfl rfl ?_
  refine op_notF (d := 25) rfl rfl rfl rfl ?_
  refine op_notF (d := 25) rfl rfl rfl rfl ?_
  refine op_notF (d := 25) rfl rfl rfl rfl ?_
  refine op_notF (d := 25) rfl rfl rfl rfl ?_
  refine op_pickF rfl rfl rfl ?_
  refine op_move rfl rfl ?_
  refine op_notF (d := 31) rfl rfl rfl rfl ?_
  refine op_notF (d := 31) rfl rfl rfl rfl ?_
  refine op_notF (d := 31) rfl rfl rfl rfl ?_
  refine op_notF (d := 31) rfl rfl rfl rfl ?_
  refine op_pickF rfl rfl rfl ?_
  refine op_move rfl rfl ?_
  refine op_notF (d := 37) rfl rfl rfl rfl ?_
  refine op_notF (d := 37) rfl rfl rfl rfl ?_
  refine op_notF (d := 37) rfl rfl rfl rfl ?_
  refine op_notF (d := 37) rfl rfl rfl rfl ?_
  refine op_pickF rfl rfl rfl ?_
  refine op_move rfl rfl ?_
  refine op_notF (d := 43) rfl rfl rfl rfl ?_
  refine op_notF (d := 43) rfl rfl rfl rfl ?_
  refine op_notF (d := 43) rfl rfl rfl rfl ?_
  refine op_notF (d := 43) rfl rfl rfl rfl ?_
  refine op_pickF rfl rfl rfl ?_
  refine op_move rfl rfl ?_
  refine op_notF (d := 49) rfl rfl rfl rfl ?_
  refine op_notF (d := 49) rfl rfl rfl rfl ?_
  refine op_notF (d := 49) rfl rfl rfl rfl ?_
  refine op_notF (d := 49) rfl rfl rfl rfl ?_
  refine op_pickF rfl rfl rfl ?_
  refine op_assign rfl rfl ?_
  refine endF (XF.thenN ?_)
  refine retF ?_
  refine XF.res (res1 Try.results4 rfl) ?_
  exact ⟨gr_rbool (by unfold smallB; rw [if_pos (by omega)]), hS.below⟩
theorem echeck_c (va : Option Addr) (vl : Nat) (vc : Nat) (pa : Option Addr) (pl : Nat) (pc : Nat) (ea : Option Addr) (el : Nat) (ec : Nat) (es : List Int) (xa : Option Addr) (xl : Nat) (xc : Nat) (xs : List Int) (mn : Int) (oa : Option Addr) (ol : Nat) (oc : Nat) (os : List Int) (sa : Option Addr) (sl : Nat) (sc : Nat) (ss : List TV) (ta : Option Addr) (tl : Nat) (tc : Nat) (ts : List UV) (na : Option Addr) (nl : Nat) (nc : Nat) (ns : List NV) (ka : Option Addr) (kl : Nat) (kc : Nat) (ks : List KV) (w : World) (he : RowI w ea es) (hel : es.length = el) (hx : RowI w xa xs) (hxl : xs.length = xl) (ho : RowI w oa os) (hol : os.length = ol) (hs : RowL TV.sev 7 w sa ss) (hsl : ss.length = sl) (ht : RowL UV.four 4 w ta ts) (htl : ts.length = tl) (hn : RowL NV.two 2 w na ns) (hnl : ns.length = nl) (hk : RowL KV.two 2 w ka ks) (hkl : ks.length = kl) (b1 : vl ≤ 5000) (b2 : pl ≤ 5000) (b3 : el ≤ 5000) (b4 : xl ≤ 5000) (b5 : ol ≤ 5000) (b6 : sl ≤ 5000) (b7 : tl ≤ 5000) (b8 : nl ≤ 5000) (b9 : kl ≤ 5000) :
  Calls Try.prog 12 #[.agg #[.slice va vl vc, .slice pa pl pc, .slice ea el ec, .slice xa xl xc, .int .i64 mn, .slice oa ol oc, .slice sa sl sc, .slice ta tl tc, .slice na nl nc, .slice ka kl kc], .int .i64 1] w (fun e w' => e = .returned (.int .i64 (gr_checkE ⟨va, vl, vc, pa, pl, pc, ea, el, ec, es, xa, xl, xc, xs, mn, oa, ol, oc, os, sa, sl, sc, ss, ta, tl, tc, ts, na, nl, nc, ns, ka, kl, kc, ks⟩)) ∧ Below w.heap.size w w') := by
 refine enterF (args := [.agg #[.slice va vl vc, .slice pa pl pc, .slice ea el ec, .slice xa xl xc, .int .i64 mn, .slice oa ol oc, .slice sa sl sc, .slice ta tl tc, .slice na nl nc, .slice ka kl kc], .int .i64 1]) Try.func12 rfl Try.ntmps12 rfl ?_
 have hS := St.start w
 refine seqF (regF ?_)
 refine op_box (cs := [_, _, _, _, _, _, _, _, _, _]) hS rfl rfl rfl ?_
 clear hS; intro B1 W1 hS
 refine op_assign rfl rfl ?_
 refine endF (XF.thenN ?_)
 refine seqF ?_
 refine seqF (regF ?_)
 refine op_loadA (vs := [_, _, _, _, _, _, _, _, _, _]) Try.isAgg29 Try.sizeOf29 rfl (CellsAt.own (j := 0) (m := 10) (hS.at_ 0 rfl) rfl) rfl ?_
 refine op_call (vs := [_]) hS gr_goes_15 rfl (check_c _ vl vc _ pl pc _ el ec es _ xl xc xs mn _ ol oc os _ sl sc ss _ tl tc ts _ nl nc ns _ kl kc ks  _ (he.below hS.below) hel (hx.below hS.below) hxl (ho.below hS.below) hol (hs.below hS.below) hsl (ht.below hS.below) htl (hn.below hS.below) hnl (hk.below hS.below) hkl b1 b2 b3 b4 b5 b6 b7 b8 b9) rfl ?_
 rintro e W2 ⟨rfl, hb⟩
 refine ⟨_, rfl, hb, fun hS' => ?_⟩
 clear hS; have hS := hS'; clear hS' hb
 refine op_assign rfl rfl ?_
 refine endF (XF.thenN ?_)
 refine seqF (regF ?_)
 refine op_move rfl rfl ?_
 refine op_neq rfl rfl rfl ?_
 refine endF (XF.thenN ?_)
 refine condF rfl (fun hc => ?_) (fun hc => ?_)
 ·have hc9 := of_decide_eq_true hc; clear hc
  refine seqF (regF ?_)
  refine op_move rfl rfl ?_
  refine op_assign rfl rfl ?_
  refine endF (XF.thenN ?_)
  refine retF ?_
  refine XF.thenR ?_
  refine XF.res (res1 Try.results12 rfl) ?_
  exact ⟨rfl, hS.below⟩
 ·have hc9 := of_decide_eq_false hc; clear hc
  have hce : gr_checkE ⟨va, vl, vc, pa, pl, pc, ea, el, ec, es, xa, xl, xc, xs, mn, oa, ol, oc, os, sa, sl, sc, ss, ta, tl, tc, ts, na, nl, nc, ns, ka, kl, kc, ks⟩ = 0 := Decidable.of_not_not hc9
  refine skipF ?_
  refine XF.thenN ?_
  refine seqF ?_
  refine seqF (regF ?_)
  refine op_move rfl rfl ?_
  refine op_neq rfl rfl rfl ?_
  refine op_move rfl rfl ?_
  refine op_cases (d := 13) rfl (fun hc => absurd (of_decide_eq_true hc) (by exact fun h => h rfl)) (fun hc => ?_)
  have hc := of_decide_eq_false hc
  refine op_notF (d := 13) rfl rfl rfl rfl ?_
  refine op_notF (d := 13) rfl rfl rfl rfl ?_
  refine op_pickF rfl rfl rfl ?_
  refine op_move rfl rfl ?_
  refine op_notF (d := 17) rfl rfl rfl rfl ?_
  refine op_notF (d := 17) rfl rfl rfl rfl ?_
  refine op_pickF rfl rfl rfl ?_
  refine endF (XF.thenN ?_)
  refine condN rfl ?_
  refine skipF ?_
  refine XF.thenN ?_
  refine seqF (regF ?_)
  refine op_assign rfl rfl ?_
  refine endF (XF.thenN ?_)
  refine retF ?_
  refine XF.res (res1 Try.results12 rfl) ?_
  exact ⟨gr_rint hce.symm, hS.below⟩
theorem space_is (n : Int) (w : World) :
  Calls Try.prog 13 #[.int .i64 1, .int .i64 n] w (fun e w' => e = .returned (.agg #[.int .i64 1, .int .i64 0, .slice none 0 0]) ∧ Below w.heap.size w w') := by
 refine enterF (args := [.int .i64 1, .int .i64 n]) Try.func13 rfl Try.ntmps13 rfl ?_
 have hS := St.start w
 refine seqF (regF ?_)
 refine op_alloc (cs := [_, _, _]) hS Try.zeroValue35 rfl rfl ?_
 clear hS; intro B1 W1 hS
 refine endF (XF.thenN ?_)
 refine seqF ?_
 refine seqF (regF ?_)
 refine op_move rfl rfl ?_
 refine endF (XF.thenN ?_)
 refine blockF ?_
 refine seqF (regF ?_)
 refine op_eql rfl rfl rfl ?_
 refine op_assign rfl rfl ?_
 refine endF (XF.thenN ?_)
 refine condF rfl (fun hc => absurd (of_decide_eq_true hc) (by decide)) (fun hc => ?_)
 have hc := of_decide_eq_false hc
 refine seqF (regF ?_)
 refine op_eql rfl rfl rfl ?_
 refine op_assign rfl rfl ?_
 refine endF (XF.thenN ?_)
 refine condF rfl (fun hc => absurd (of_decide_eq_true hc) (by decide)) (fun hc => ?_)
 have hc := of_decide_eq_false hc
 refine skipF ?_
 refine XF.blkN ?_
 refine XF.thenN ?_
 refine seqF (regF ?_)
 refine op_build (us := [(0, .int .i64 _)]) rfl (gr_bld_35_0 _) rfl ?_
 refine op_storeA (i := 0) (vs := [_, _, _]) (cs' := [_, _, _]) (O' := [_]) hS Try.sizeOf35 rfl rfl rfl rfl rfl rfl rfl ?_
 clear hS; intro W2 hS
 refine endF (XF.thenN ?_)
 refine retF ?_
 refine XF.res (resC1 (vs := [_, _, _]) Try.results13 Try.isAgg35 Try.sizeOf35 rfl (CellsAt.own (j := 0) (m := 3) (hS.at_ 0 rfl) rfl)) ?_
 exact ⟨rfl, hS.below⟩
theorem worth_is (n : Int) (s : TV) (w : World) :
  Calls Try.prog 14 #[.int .i64 1, .int .i64 n, s.val] w (fun e w' => e = .returned (.agg #[.bool false, .int .i64 0, .int .u64 0, .slice none 0 0, .slice none 0 0, .slice none 0 0]) ∧ Below w.heap.size w w') := by
 refine enterF (args := [.int .i64 1, .int .i64 n, s.val]) Try.func14 rfl Try.ntmps14 rfl ?_
 have hS := St.start w
 refine seqF (regF ?_)
 refine op_box (cs := [_, _, _, _, _, _, _]) hS rfl rfl rfl ?_
 clear hS; intro B1 W1 hS
 refine op_alloc (cs := [_, _, _, _, _, _]) hS Try.zeroValue67 rfl rfl ?_
 clear hS; intro B2 W2 hS
 refine endF (XF.thenN ?_)
 refine seqF ?_
 refine seqF (regF ?_)
 refine op_move rfl rfl ?_
 refine endF (XF.thenN ?_)
 refine blockF ?_
 refine seqF (regF ?_)
 refine op_eql rfl rfl rfl ?_
 refine op_assign rfl rfl ?_
 refine endF (XF.thenN ?_)
 refine condF rfl (fun hc => absurd (of_decide_eq_true hc) (by decide)) (fun hc => ?_)
 have hc := of_decide_eq_false hc
 refine seqF (regF ?_)
 refine op_eql rfl rfl rfl ?_
 refine op_assign rfl rfl ?_
 refine endF (XF.thenN ?_)
 refine condF rfl (fun hc => absurd (of_decide_eq_true hc) (by decide)) (fun hc => ?_)
 have hc := of_decide_eq_false hc
 refine skipF ?_
 refine XF.blkN ?_
 refine XF.thenN ?_
 refine seqF (regF ?_)
 refine op_build (us := []) rfl (gr_bld_67) rfl ?_
 refine op_storeA (i := 0) (vs := [_, _, _, _, _, _]) (cs' := [_, _, _, _, _, _]) (O' := [_, _]) hS Try.sizeOf67 rfl rfl rfl rfl rfl rfl rfl ?_
 clear hS; intro W3 hS
 refine endF (XF.thenN ?_)
 refine retF ?_
 refine XF.res (resC1 (vs := [_, _, _, _, _, _]) Try.results14 Try.isAgg67 Try.sizeOf67 rfl (CellsAt.own (j := 0) (m := 6) (hS.at_ 0 rfl) rfl)) ?_
 exact ⟨rfl, hS.below⟩
end Go.Proofs.Ythepjghlipdcoaa
