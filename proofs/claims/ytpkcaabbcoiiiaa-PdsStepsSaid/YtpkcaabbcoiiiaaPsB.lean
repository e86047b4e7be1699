import Derived.Orders
import Derived.Below
import Derived.Deep.RegionHeld
import Derived.WalkKit
import Derived.KernelRfl
import Derived.Laws.Rows
import Derived.Laws.AppendOwn
import Derived.Laws.Strings
import Derived.Laws.Small
import Derived.Lib.Hide
import Derived.IntWalk
import Derived.Laws.Tables
import Derived.Laws.Concat
import Derived.Laws.MakeOwn
import Derived.Lib.OwnBridge
import Derived.WideKeyEntry
import Derived.DeepKeys4
import Derived.Lib.AppendZeros
import Derived.Test.YtpkcaabbcoiiiaaProg
import Derived.Test.YtpkcaabbcoiiiaaRows
import Derived.Lib.LaidTab
import Derived.Lib.ItoaNum
import Derived.Lib.TrailingZeros
import Derived.Stop.LaidErr
import Derived.WalkSmall
import Derived.LaidMore
import Derived.Shelf.Spec.TrailingZeros
import Derived.Laws.BitsAllLaws
import Derived.Laws.Bits64
import Derived.Deep.QuietTactic
import Derived.BigQuiet
import Derived.RegionTactic
import Derived.BigRegion
import Derived.Deep.RegionHeld3
import Derived.ChangeAlike
import Derived.RangeFuncNested
import Derived.RangeFuncBound
import Derived.RangeFuncCalls
import Derived.RangeFuncLeaves
import Derived.Shelf.Abstract
import Derived.Shelf.RegionOpen
import Derived.OwnWalkIn
import Derived.TacticsInMore
import Derived.LoopNIn
import Derived.LoopIn
import Derived.Laws.Bits128
import Derived.Deep.AppendLies
import Derived.Maps.AppendAt
import Derived.Ground.Names2Prog
import Derived.Shelf.Slices.Clone
import Derived.Sort.Grow
import Derived.Lib.OthersKept
import Derived.Laws.IdiomStrings
import Derived.StillTailTactics
import Derived.Deep.RegionLaw
import Derived.Deep.DeepCutAuto
import Derived.Deep.CutRange
import Derived.Deep.RegionWith
import Derived.Laws.Bits64b
import Derived.Test.YtpkcaabbcoiiiaaPsA
set_option maxRecDepth 100000
set_option maxHeartbeats 4000000
set_option linter.unusedVariables false
set_option linter.unusedVariables false
set_option linter.unusedSimpArgs false
set_option linter.unusedSectionVars false
set_option linter.unnecessarySimpa false
namespace Go.Proofs.Ytpkcaabbcoiiiaa
open Go.RowKit
theorem rint {k : IntKind} {a b : Int} (h : a = b) : Ending.returned (.int k a) = .returned (.int k b) := by rw [h]
theorem rbool {a b : Bool} (h : a = b) : Ending.returned (.bool a) = .returned (.bool b) := by rw [h]
theorem rii {k m : IntKind} {a b c d : Int} (h : a = b) (h2 : c = d) : Ending.returned (.tuple #[.int k a, .int m c]) = .returned (.tuple #[.int k b, .int m d]) := by rw [h, h2]
theorem within_is (n a b : Int) (r : Bool) (hr : (decide (a ≤ n) && decide (n ≤ b)) = r) (w : World) : Calls Try.prog 131 #[.int .i64 n, .int .i64 a, .int .i64 b] w fun e w' => e = .returned (.bool r) ∧ w = w' := by
 subst hr
 by_cases h1 : a ≤ n
 ·by_cases h2 : n ≤ b
  ·have H : Hid ((decide (a ≤ n) && decide (n ≤ b)) = true) := by show _ = _; simp [h1, h2]
   rw [H.out]
   go_enter Try.func131, Try.ntmps131
   go_wp2
   go_ret
   exact ⟨rfl, rfl⟩
  ·have H : Hid ((decide (a ≤ n) && decide (n ≤ b)) = false) := by show _ = _; simp [h1, h2]
   rw [H.out]
   go_enter Try.func131, Try.ntmps131
   go_wp2
   go_ret
   exact ⟨rfl, rfl⟩
 ·have H : Hid ((decide (a ≤ n) && decide (n ≤ b)) = false) := by show _ = _; simp [h1]
  rw [H.out]
  go_enter Try.func131, Try.ntmps131
  go_wp2
  go_ret
  exact ⟨rfl, rfl⟩
theorem pow_le64 {n : Nat} (hn : n ≤ 64) : 2 ^ n ≤ 18446744073709551616 := Nat.pow_le_pow_right (by decide : 1 ≤ 2) hn
theorem pow_lt64 {n : Nat} (hn : n ≤ 63) : 2 ^ n ≤ 9223372036854775808 := Nat.pow_le_pow_right (by decide : 1 ≤ 2) hn
theorem mask_num (n : Nat) (hn : n ≤ 64) : IntKind.u64.wrap (IntKind.u64.wrap ((2 : Int) ^ n) - 1) = ((2 ^ n - 1 : Nat) : Int) := by
 have e : ((2 : Int) ^ n) = ((2 ^ n : Nat) : Int) := by simp
 have h := pow_le64 hn
 have h1 : 1 ≤ 2 ^ n := Nat.one_le_two_pow
 rw [e]
 generalize 2 ^ n = q at *
 rw [IntKind.wrap_u64, IntKind.wrap_u64]
 omega
theorem mask_any (n : Nat) (hn : n ≤ 64) (w : World) : Calls Try.prog 132 #[.int .i64 n] w fun e w' => e = .returned (.int .u64 ((2 ^ n - 1 : Nat) : Int)) ∧ w = w' := by
 have H := Lib.hid (mask_num n hn)
 go_enter Try.func132, Try.ntmps132
 go_wp2
 go_ret
 exact ⟨rint H.out, rfl⟩
theorem worth_step (k : Nat) (hk : k < 63) : IntKind.u64.wrap (((2 ^ k : Nat) : Int) * 2) = ((2 ^ (k + 1) : Nat) : Int) := by
 have h := pow_lt64 (show k + 1 ≤ 63 by omega)
 rw [Nat.pow_succ] at *
 generalize 2 ^ k = q at *
 rw [IntKind.wrap_u64]; omega
theorem worth_any (i : Int) (hi : i ≤ 63) (w : World) : Calls Try.prog 65 #[.int .i64 i] w fun e w' => e = .returned (.int .u64 ((2 ^ i.toNat : Nat) : Int)) ∧ w = w' := by
 go_enter Try.func65, Try.ntmps65
 go_wp2_with fail
 go_loop [0, 3] (fun j v => ∃ (k : Nat) (q : Int), k ≤ i.toNat ∧ q = i - (k : Int) ∧ j = .int .i64 q ∧ ∃ p : Int, v = .int .u64 p ∧ Hid (((2 ^ k : Nat) : Int) = p)) (fun j _ => (intOf j).toNat)
 case atStart => exact ⟨0, i, Nat.zero_le _, by omega, rfl, 1, rfl, rfl⟩
 case round =>
  obtain ⟨k, q, hk, hq, rfl, p, rfl, HP⟩ := hrel
  by_cases hlt : 0 < q
  ·have HN : Hid (((2 ^ (k + 1) : Nat) : Int) = IntKind.u64.wrap (p * 2)) := by show _ = _; rw [← HP.out]; exact (worth_step k (by omega)).symm
   have g : IntKind.i64.wrap (q - 1) = q - 1 := by simp [IntKind.wrap, IntKind.signed, IntKind.bits]; omega
   go_wp2
   go_round
   case rel => exact ⟨k + 1, q - 1, by omega, by omega, by congr 1; omega, _, rfl, HN⟩
   case measure => simp [intOf]; omega
  ·have HE : Hid (p = ((2 ^ i.toNat : Nat) : Int)) := by show _ = _; rw [← HP.out, show k = i.toNat by omega]
   go_wp2
   go_ret
   exact ⟨rint HE.out, rfl⟩
def hasB (f : Nat) (i : Int) : Bool := decide (0 ≤ i) && (decide (i < 64) && f.testBit i.toNat)
theorem hasR_num (f k : Nat) (hf : f < 18446744073709551616) : ((IntKind.u64.wrap ((f : Int) / ((2 ^ k : Nat) : Int))).tmod 2 == 1) = f.testBit k := by
 have h1 : f / 2 ^ k < 18446744073709551616 := Nat.lt_of_le_of_lt (Nat.div_le_self _ _) hf
 rw [← Int.natCast_ediv, Nat.testBit_eq_decide_div_mod_eq, IntKind.wrap_u64, tmod_of_emod]
 generalize f / 2 ^ k = q at *
 rw [Bool.eq_iff_iff, beq_iff_eq, decide_eq_true_iff]; omega
theorem hasR_is (f : Nat) (i : Int) (r : Bool) (hr : hasB f i = r) (hf : f < 18446744073709551616) (w : World) : Calls Try.prog 95 #[.int .u64 f, .int .i64 i] w fun e w' => e = .returned (.bool r) ∧ w = w' := by
 by_cases h0 : 0 ≤ i
 ·by_cases h1 : i < 64
  ·have hp : 0 < 2 ^ i.toNat := Nat.two_pow_pos _
   have hp2 : 2 ^ i.toNat ≤ 9223372036854775808 := pow_lt64 (by omega)
   have H : Hid (((IntKind.u64.wrap ((f : Int) / ((2 ^ i.toNat : Nat) : Int))).tmod 2 == 1) = r) := by
    show _ = _
    rw [hasR_num f _ hf, ← hr]; simp [hasB, h0, h1]
   have hq : f / 2 ^ i.toNat < 18446744073709551616 := Nat.lt_of_le_of_lt (Nat.div_le_self _ _) hf
   clear hr
   revert hp hp2 H hq
   obtain ⟨p, hpp⟩ : ∃ p : Nat, 2 ^ i.toNat = p := ⟨_, rfl⟩
   have HPP := Lib.hid hpp
   rw [hpp]
   intro hp hp2 H hq
   clear hpp
   have hd0 : ((p : Int) == 0) = false := by simp; omega
   go_enter Try.func95, Try.ntmps95
   go_wp2_with fail
   refine (worth_any i (by omega) _).mono ?_
   rintro e w1 ⟨rfl, rfl⟩
   rw [HPP.out]
   go_wp2
   go_ret
   exact ⟨rbool (by first | exact H.out | (have := H.out; simpa using this)), rfl⟩
  ·have H : Hid (false = r) := by show _ = _; rw [← hr]; simp [hasB, h1]
   clear hr
   go_enter Try.func95, Try.ntmps95
   go_wp2
   go_ret
   exact ⟨rbool H.out, rfl⟩
 ·have H : Hid (false = r) := by show _ = _; rw [← hr]; simp [hasB, h0]
  clear hr
  go_enter Try.func95, Try.ntmps95
  go_wp2
  go_ret
  exact ⟨rbool H.out, rfl⟩
end Go.Proofs.Ytpkcaabbcoiiiaa
namespace Go.Proofs.Ytpkcaabbcoiiiaa
open Go.RowKit Go.Shelf
attribute [local go_sem] Oper.semAt_some
def mem (s : Nat) : List Nat := (List.range 64).filter s.testBit
theorem mem_zero : mem 0 = [] := by simp [mem]
theorem mem_lt {s x : Nat} (h : x ∈ mem s) : x < 64 := by
 unfold mem at h
 rw [List.mem_filter] at h
 exact List.mem_range.1 h.1
theorem mem_bit {s x : Nat} (h : x ∈ mem s) : s.testBit x = true := by
 unfold mem at h
 rw [List.mem_filter] at h
 exact h.2
end Go.Proofs.Ytpkcaabbcoiiiaa
namespace Go.Proofs.Ytpkcaabbcoiiiaa
open Go.RowKit
theorem not_bit (b j : Nat) (hb : b < 18446744073709551616) : (18446744073709551615 - b).testBit j = (decide (j < 64) && !b.testBit j) := by
 have e : 18446744073709551615 - b = 2 ^ 64 - (b + 1) := by omega
 rw [e, Nat.testBit_two_pow_sub_succ (by simpa using hb)]
theorem mask_bit (n j : Nat) : (2 ^ n - 1).testBit j = decide (j < n) := Nat.testBit_two_pow_sub_one n j
theorem mask_lt {n : Nat} (hn : n ≤ 64) : 2 ^ n - 1 < 18446744073709551616 := by have := pow_le64 hn; have := Nat.two_pow_pos n; omega
theorem bit_lt {x j : Nat} (hx : x < 18446744073709551616) (h : x.testBit j = true) : j < 64 := by
 rcases Nat.lt_or_ge j 64 with h1 | h1
 ·exact h1
 ·rw [Nat.testBit_lt_two_pow (Nat.lt_of_lt_of_le hx (Nat.pow_le_pow_right (by omega : 0 < 2) h1))] at h; cases h
def fullV (n : Int) : Int := if 0 ≤ n ∧ n ≤ 64 then ((2 ^ n.toNat - 1 : Nat) : Int) else 0
def fullE (n : Int) : Int := if 0 ≤ n ∧ n ≤ 64 then 0 else 10
theorem fullA_is (n : Int) (r e0 : Int) (hr : fullV n = r) (he : fullE n = e0) (w : World) : Calls Try.prog 122 #[.int .i64 n] w fun e w' => e = .returned (.tuple #[.int .u64 r, .int .i64 e0]) ∧ w = w' := by
 by_cases h : 0 ≤ n ∧ n ≤ 64
 ·have HR : Hid (((2 ^ n.toNat - 1 : Nat) : Int) = r) := by show _ = _; rw [← hr, fullV, if_pos h]
  have HE : Hid (0 = e0) := by show _ = _; rw [← he, fullE, if_pos h]
  have hw := Lib.hid (show (decide ((0 : Int) ≤ n) && decide (n ≤ 64)) = true by simp [h.1, h.2])
  obtain ⟨m, rfl⟩ : ∃ m : Nat, n = m := ⟨n.toNat, by omega⟩
  have hm : m ≤ 64 := by omega
  clear hr he h
  go_enter Try.func122, Try.ntmps122
  go_wp2_with fail
  refine (within_is _ 0 64 true hw.out _).mono ?_
  rintro e w1 ⟨rfl, rfl⟩
  go_wp2_with fail
  refine (mask_any m hm _).mono ?_
  rintro e w1 ⟨rfl, rfl⟩
  go_wp2
  go_ret2
  exact ⟨rii (by simpa using HR.out) HE.out, rfl⟩
 ·have HR : Hid (0 = r) := by show _ = _; rw [← hr, fullV, if_neg h]
  have HE : Hid (10 = e0) := by show _ = _; rw [← he, fullE, if_neg h]
  have hw := Lib.hid (show (decide ((0 : Int) ≤ n) && decide (n ≤ 64)) = false by simp; omega)
  clear hr he h
  go_enter Try.func122, Try.ntmps122
  go_wp2_with fail
  refine (within_is _ 0 64 false hw.out _).mono ?_
  rintro e w1 ⟨rfl, rfl⟩
  go_wp2
  go_ret2
  exact ⟨rii HR.out HE.out, rfl⟩
theorem full_step (k : Nat) (hk : k < 64) : IntKind.u64.wrap (((2 ^ k - 1 : Nat) : Int) + ((2 ^ k : Nat) : Int)) = ((2 ^ (k + 1) - 1 : Nat) : Int) := by
 have h := pow_lt64 (show k ≤ 63 by omega)
 have hp := Nat.two_pow_pos k
 rw [Nat.pow_succ] at *
 generalize 2 ^ k = q at *
 rw [IntKind.wrap_u64]; omega
theorem fullR_is (n : Int) (r e0 : Int) (hr : fullV n = r) (he : fullE n = e0) (w : World) : Calls Try.prog 113 #[.int .i64 n] w fun e w' => e = .returned (.tuple #[.int .u64 r, .int .i64 e0]) ∧ w = w' := by
 by_cases h : 0 ≤ n ∧ n ≤ 64
 ·have HR : Hid (((2 ^ n.toNat - 1 : Nat) : Int) = r) := by show _ = _; rw [← hr, fullV, if_pos h]
  have HE : Hid (0 = e0) := by show _ = _; rw [← he, fullE, if_pos h]
  obtain ⟨m, rfl⟩ : ∃ m : Nat, n = m := ⟨n.toNat, by omega⟩
  have hm : m ≤ 64 := by omega
  clear hr he h
  go_enter Try.func113, Try.ntmps113
  go_wp2_with fail
  go_loop [4, 5] (fun s i => ∃ (k : Nat) (p : Int), k ≤ m ∧ i = .int .i64 k ∧ s = .int .u64 p ∧ Hid (((2 ^ k - 1 : Nat) : Int) = p)) (fun _ i => m - (intOf i).toNat)
  case atStart => exact ⟨0, 0, Nat.zero_le _, rfl, rfl, rfl⟩
  case round =>
   obtain ⟨k, p, hk, rfl, rfl, HP⟩ := hrel
   by_cases hlt : k < m
   ·have HN : Hid (((2 ^ (k + 1) - 1 : Nat) : Int) = IntKind.u64.wrap (p + ((2 ^ k : Nat) : Int))) := by show _ = _; rw [← HP.out]; exact (full_step k (by omega)).symm
    obtain ⟨q, hq⟩ : ∃ q : Nat, 2 ^ k = q := ⟨_, rfl⟩
    have HQ := Lib.hid hq
    rw [hq] at HN
    clear hq
    go_wp2_with fail
    refine (worth_any k (by omega) _).mono ?_
    rintro e w1 ⟨rfl, rfl⟩
    rw [show (k : Int).toNat = k from rfl, HQ.out]
    go_wp2
    go_round
    case rel => exact ⟨k + 1, _, by omega, by go_num, rfl, HN⟩
    case measure => simp [intOf]; omega
   ·have HF : Hid (p = r) := by show _ = _; rw [← HP.out, ← HR.out, show k = m by omega]; rfl
    go_wp2
    go_ret2
    exact ⟨rii HF.out HE.out, rfl⟩
 ·have HR : Hid (0 = r) := by show _ = _; rw [← hr, fullV, if_neg h]
  have HE : Hid (10 = e0) := by show _ = _; rw [← he, fullE, if_neg h]
  clear hr he
  by_cases h0 : n < 0
  ·clear h
   go_enter Try.func113, Try.ntmps113
   go_wp2
   go_ret2
   exact ⟨rii HR.out HE.out, rfl⟩
  ·have h1 : 64 < n := by omega
   clear h
   go_enter Try.func113, Try.ntmps113
   go_wp2
   go_ret2
   exact ⟨rii HR.out HE.out, rfl⟩
def restN (f m : Nat) : Nat := f &&& (18446744073709551615 - (2 ^ m - 1))
theorem restN_bit (f m : Nat) (hm : m ≤ 64) (hf : f < 18446744073709551616) (j : Nat) : (restN f m).testBit j = (f.testBit j && decide (m ≤ j)) := by
 unfold restN
 rw [Nat.testBit_and, not_bit _ _ (mask_lt hm), mask_bit]
 cases hb : f.testBit j
 ·rfl
 ·have := bit_lt hf hb
  simp [this]
  by_cases h : m ≤ j
  ·simp [h]
  ·simp [h]; omega
end Go.Proofs.Ytpkcaabbcoiiiaa
namespace Go.Proofs.Ytpkcaabbcoiiiaa
open Go.RowKit
def VRow (w : World) (a : Option Addr) (vs : List Value) : Prop :=
 vs = [] ∨ ∃ b off, a = some ⟨b, off, none⟩ ∧ ∀ (i : Nat) v, vs[i]? = some v → w.cell? ⟨b, off + i, none⟩ = some v
theorem cell_lt {w : World} {p : Addr} {v : Value} (h : w.cell? p = some v) : p.block < w.heap.size := by
 unfold World.cell? at h
 rcases Nat.lt_or_ge p.block w.heap.size with h' | h'
 ·exact h'
 ·simp [Array.getElem?_eq_none h'] at h
theorem VRow.below {w w' : World} {a : Option Addr} {vs : List Value} (h : VRow w a vs) (hb : Below w.heap.size w w') : VRow w' a vs := by
 rcases h with h | ⟨b, off, ha, hc⟩
 ·exact .inl h
 ·exact .inr ⟨b, off, ha, fun i v hi => (hb.cell (p := ⟨b, off + i, none⟩) (cell_lt (hc i v hi))).trans (hc i v hi)⟩
theorem VRow.at_ {w : World} {a : Option Addr} {vs : List Value} (h : VRow w a vs) {i : Nat} (hi : i < vs.length) :
  ∃ b off v, a = some ⟨b, off, none⟩ ∧ vs[i]? = some v ∧ b < w.heap.size ∧ w.cell? ⟨b, off + i, none⟩ = some v := by
 rcases h with h | ⟨b, off, ha, hc⟩
 ·subst h; simp at hi
 ·have e : vs[i]? = some vs[i] := by simp [hi]
  exact ⟨b, off, vs[i], ha, e, cell_lt (hc i _ e), hc i _ e⟩
theorem VRow.of_own {w : World} {base : Nat} {E : Nat} {v : Value} {n : Nat} {vs : List Value} (h : w.ownsRow base E 1 v n vs) :
  n = vs.length ∧ ∃ a cap, v = .slice a vs.length cap ∧ VRow w a vs ∧ ∀ ad, a = some ad → base ≤ ad.block ∧ ad.block < w.heap.size := by
 have hl := h.1
 have hn : n = vs.length := by omega
 refine ⟨hn, ?_⟩
 rcases h.2 with ⟨rfl, h0⟩ | ⟨g, cap, cur, rfl, hg, hh, hnc, hcm, hcs, ht⟩
 ·have : vs = [] := List.length_eq_zero_iff.1 (by omega)
  subst this
  exact ⟨none, 0, rfl, .inl rfl, fun ad e => by cases e⟩
 ·subst hn
  refine ⟨some ⟨g, 0, none⟩, cap, rfl, .inr ⟨g, 0, rfl, fun i x hi => ?_⟩, fun ad e => by cases e; exact ⟨hg, (Array.getElem?_eq_some_iff.1 hh).1⟩⟩
  have hi2 : i < vs.length := (List.getElem?_eq_some_iff.1 hi).1
  have c0 := h.cellAt i (by omega)
  rw [Nat.zero_add]
  exact c0.trans hi
theorem ownV_below {w w' : World} {base size n : Nat} {E : Nat} {v : Value} {xs : List Value} (h : w.ownsRow base E size v n xs) (hb : Below w.heap.size w w') : w'.ownsRow base E size v n xs := by
 refine ⟨h.1, ?_⟩
 rcases h.2 with h2 | ⟨g, cap, cur, hv, hg, hh, r⟩
 ·exact .inl h2
 ·exact .inr ⟨g, cap, cur, hv, hg, by rw [hb.block g (Array.getElem?_eq_some_iff.1 hh).1]; exact hh, r⟩
theorem heapV_new (w : World) (o : Obj) : (w.alloc o).heap[w.heap.size]? = some o := by
 show (w.heap.push o)[w.heap.size]? = some o
 simp
end Go.Proofs.Ytpkcaabbcoiiiaa
namespace Go.Proofs.Ytpkcaabbcoiiiaa
open Go.RowKit
def memK (s k : Nat) : List Nat := (List.range k).filter s.testBit
theorem memK_yes {s k : Nat} (h : s.testBit k = true) : memK s (k + 1) = memK s k ++ [k] := by simp [memK, List.range_succ, List.filter_append, h]
theorem memK_no {s k : Nat} (h : s.testBit k = false) : memK s (k + 1) = memK s k := by simp [memK, List.range_succ, List.filter_append, h]
end Go.Proofs.Ytpkcaabbcoiiiaa
namespace Go.Proofs
open Go.Shelf
def Try.laysNm215_ren : Go.Shelf.Ren := ⟨fun | 15 => 61 | n => n, fun | 22 => 29 | 3 => 3 | 4 => 4 | n => n, fun | n => n⟩
theorem Try.laysNm215 : Go.Proofs.Lays2.n15 Try.prog Try.laysNm215_ren := {
 mixed := by kernel_rfl
 f15 := Try.func61.trans (congrArg some (by kernel_rfl))
 t3 := Try.underlying3
 a3 := Try.isAgg3
 z3 := Try.sizeOf3
 v3 := Try.zeroValue3
 t4 := Try.underlying4
 a4 := Try.isAgg4
 z4 := Try.sizeOf4
 v4 := Try.zeroValue4
 t22 := Try.underlying29
 a22 := Try.isAgg29
 z22 := Try.sizeOf29
 v22 := Try.zeroValue29
 i3 := by kernel_rfl }
open Go.RowKit Go.Lib in
theorem Try.slices_Clone_int (b off n c : Nat) (zs : List Int) (w : World) (hz : n ≤ zs.length) (hbig : n * 8 ≤ 140737488355328) (hc : ∀ j, j < zs.length → w.cell? ⟨b, off + j, none⟩ = some (.int .i64 (zs.getD j 0))) :
  Calls Try.prog 61 #[.slice (some ⟨b, off, none⟩) n c] w fun e w' => ∃ v', e = .returned v' ∧ w'.ownsRow w.heap.size 3 1 v' n ((zs.take n).map (Value.int .i64)) ∧ v' ≠ .slice none 0 0 ∧ Below w.heap.size w w' := Any.slices_Clone_int Try.laysNm215 b off n c zs w hz hbig hc
open Go.RowKit Go.Lib in
theorem Try.slices_Clone_int_nil (n c : Nat) (w : World) :
  Calls Try.prog 61 #[.slice none n c] w fun e w' => e = .returned (.slice none 0 0) ∧ w' = w := Any.slices_Clone_int_nil Try.laysNm215 n c w
open Go.RowKit Go.Lib in
theorem Try.slices_Clone_int_zero (a : Addr) (c : Nat) (w : World) :
  Calls Try.prog 61 #[.slice (some a) 0 c] w fun e w' => ∃ v', e = .returned v' ∧ w'.ownsRow w.heap.size 3 1 v' 0 [] ∧ v' ≠ .slice none 0 0 ∧ Below w.heap.size w w' := Any.slices_Clone_int_zero Try.laysNm215 a c w
end Go.Proofs
namespace Go.Proofs.Ytpkcaabbcoiiiaa
open Go.RowKit
theorem worth_at (i : Int) (j v : Nat) (hj : i.toNat = j) (hv : 2 ^ j = v) (hi : i ≤ 63) (w : World) : Calls Try.prog 65 #[.int .i64 i] w fun e w' => e = .returned (.int .u64 v) ∧ w = w' := by
 subst hv hj; exact worth_any i hi w
end Go.Proofs.Ytpkcaabbcoiiiaa
namespace Go.Proofs.Ytpkcaabbcoiiiaa
open Go.RowKit
def u64s (l : List Nat) : List Value := l.map fun r : Nat => Value.int .u64 (r : Int)
theorem u64s_length (l : List Nat) : (u64s l).length = l.length := by simp [u64s]
theorem u64s_snoc (l : List Nat) (x : Nat) : u64s (l ++ [x]) = u64s l ++ [Value.int .u64 (x : Int)] := by simp [u64s]
theorem u64s_at {l : List Nat} {i : Nat} {v : Value} (h : (u64s l)[i]? = some v) : ∃ r, l[i]? = some r ∧ v = .int .u64 (r : Int) := by
 unfold u64s at h
 rw [List.getElem?_map] at h
 cases hr : l[i]? with
 | none => rw [hr] at h; cases h
 | some r => rw [hr] at h; exact ⟨r, rfl, (Option.some.inj h).symm⟩
structure FAt (w : World) (a : Option Addr) (gen : Nat) (rows : List Nat) : Prop where
 row : VRow w a (u64s rows)
 gen : gen < 18446744073709551616
 all : ∀ r ∈ rows, r < 18446744073709551616
 len : rows.length ≤ 100
theorem FAt.below {w w' : World} {a : Option Addr} {gen : Nat} {rows : List Nat} (h : FAt w a gen rows) (hb : Below w.heap.size w w') : FAt w' a gen rows := ⟨h.row.below hb, h.gen, h.all, h.len⟩
theorem FAt.at_ {w : World} {a : Option Addr} {gen : Nat} {rows : List Nat} (h : FAt w a gen rows) {i : Nat} (hi : i < rows.length) :
  ∃ b off r, a = some ⟨b, off, none⟩ ∧ rows[i]? = some r ∧ r < 18446744073709551616 ∧ b < w.heap.size ∧ w.cell? ⟨b, off + i, none⟩ = some (.int .u64 (r : Int)) := by
 obtain ⟨b, off, v, ha, hv, hb, hc⟩ := h.row.at_ (i := i) (by rw [u64s_length]; exact hi)
 obtain ⟨r, hr, rfl⟩ := u64s_at hv
 exact ⟨b, off, r, ha, hr, h.all r (List.mem_of_getElem? hr), hb, hc⟩
def fval (gen : Nat) (a : Option Addr) (len cap : Nat) : Value := .agg #[.int .u64 (gen : Int), .slice a len cap]
def dimB (n : Int) : Bool := decide (0 ≤ n) && decide (n ≤ 64)
theorem dim_is (n : Int) (r : Bool) (hr : dimB n = r) (w : World) : Calls Try.prog 88 #[.int .i64 n] w fun e w' => e = .returned (.bool r) ∧ w = w' := by
 subst hr
 by_cases h1 : 0 ≤ n
 ·by_cases h2 : n ≤ 64
  ·have H : Hid (dimB n = true) := by show _ = _; simp [dimB, h1, h2]
   rw [H.out]
   go_enter Try.func88, Try.ntmps88
   go_wp2
   go_ret
   exact ⟨rfl, rfl⟩
  ·have H : Hid (dimB n = false) := by show _ = _; simp [dimB, h2]
   rw [H.out]
   go_enter Try.func88, Try.ntmps88
   go_wp2
   go_ret
   exact ⟨rfl, rfl⟩
 ·have H : Hid (dimB n = false) := by show _ = _; simp [dimB, h1]
  rw [H.out]
  go_enter Try.func88, Try.ntmps88
  go_wp2
  go_ret
  exact ⟨rfl, rfl⟩
theorem or_is (a b r : Nat) (ha : a < 18446744073709551616) (hb : b < 18446744073709551616) (hr : a ||| b = r) (w : World) : Calls Try.prog 106 #[.int .u64 a, .int .u64 b] w fun e w' => e = .returned (.int .u64 r) ∧ w = w' := by
 have H : Hid (bits .or .u64 (a : Int) (b : Int) = (r : Int)) := by show _ = _; rw [u64_or_nat a b ha hb, hr]
 go_enter Try.func106, Try.ntmps106
 go_wp2
 go_ret
 exact ⟨rint H.out, rfl⟩
def insN (m s : Nat) : Bool := restN s m == 0
theorem insN_iff {m s : Nat} (hm : m ≤ 64) (hs : s < 18446744073709551616) : insN m s = true ↔ s < 2 ^ m := by
 unfold insN
 rw [beq_iff_eq]
 constructor
 ·intro h
  apply Nat.lt_pow_two_of_testBit
  intro i hi
  have := restN_bit s m hm hs i
  rw [h, Nat.zero_testBit] at this
  cases hb : s.testBit i
  ·rfl
  ·rw [hb] at this; simp at this; omega
 ·intro h
  apply Nat.eq_of_testBit_eq
  intro i
  rw [restN_bit s m hm hs, Nat.zero_testBit]
  by_cases hi : m ≤ i
  ·rw [Nat.testBit_lt_two_pow (Nat.lt_of_lt_of_le h (Nat.pow_le_pow_right (by omega) hi))]; rfl
  ·simp [hi]
def insI (n : Int) (s : Nat) : Bool := if dimB n = true then insN n.toNat s else s == 0
theorem dim_full {n : Int} (h : dimB n = true) : fullV n = ((2 ^ n.toNat - 1 : Nat) : Int) ∧ fullE n = 0 := by
 simp only [dimB, Bool.and_eq_true, decide_eq_true_eq] at h
 exact ⟨by rw [fullV, if_pos h], by rw [fullE, if_pos h]⟩
theorem dim_full_no {n : Int} (h : dimB n = false) : fullV n = 0 ∧ fullE n = 10 := by
 have : ¬ (0 ≤ n ∧ n ≤ 64) := by intro x; simp [dimB, x.1, x.2] at h
 exact ⟨by rw [fullV, if_neg this], by rw [fullE, if_neg this]⟩
theorem andNot_mask (s m : Nat) (hs : s < 18446744073709551616) (hm : m ≤ 64) : bits BinOp.andNot IntKind.u64 (s : Int) ((2 ^ m - 1 : Nat) : Int) = ((restN s m : Nat) : Int) := u64_andNot_nat s _ hs (mask_lt hm)
theorem dim_nat {n : Int} (h : dimB n = true) : ∃ m : Nat, n = m ∧ m ≤ 64 := by
 simp only [dimB, Bool.and_eq_true, decide_eq_true_eq] at h
 exact ⟨n.toNat, by omega, by omega⟩
theorem andNot_zero (s : Nat) (hs : s < 18446744073709551616) : bits BinOp.andNot IntKind.u64 (s : Int) 0 = (s : Int) := by
 have h := u64_andNot_nat s 0 hs (by decide)
 have e : s &&& (18446744073709551615 - 0) = s := by
  apply Nat.eq_of_testBit_eq
  intro i
  rw [Nat.testBit_and, not_bit 0 i (by decide), Nat.zero_testBit]
  cases hb : s.testBit i
  ·rfl
  ·simp [bit_lt hs hb]
 rw [e] at h
 exact h
theorem inside_is (n : Int) (s : Nat) (hs : s < 18446744073709551616) (r : Bool) (hr : insI n s = r) (w : World) : Calls Try.prog 105 #[.int .i64 n, .int .u64 s] w fun e w' => e = .returned (.bool r) ∧ w = w' := by
 cases hd : dimB n
 ·obtain ⟨f1, f2⟩ := dim_full_no hd
  have F1 := Lib.hid f1; have F2 := Lib.hid f2
  have HA := andNot_zero s hs
  have HR : Hid (((s : Int) == 0) = r) := by
   show _ = _
   rw [← hr, insI, hd]
   simp only [Bool.false_eq_true, if_false]
   rw [Bool.eq_iff_iff]; simp
  clear hd f1 f2 hr hs
  go_enter Try.func105, Try.ntmps105
  go_wp2_with fail
  refine (fullR_is n 0 10 F1.out F2.out _).mono ?_
  rintro e w1 ⟨rfl, rfl⟩
  go_wp2
  go_ret
  exact ⟨rbool HR.out, rfl⟩
 ·obtain ⟨m, rfl, hm⟩ := dim_nat hd
  obtain ⟨f1, f2⟩ := dim_full hd
  have F1 := Lib.hid f1; have F2 := Lib.hid f2
  have HA := andNot_mask s m hs hm
  have HR : Hid ((((restN s m : Nat) : Int) == 0) = r) := by
   show _ = _
   rw [← hr, insI, hd, if_pos rfl]
   unfold insN
   rw [Int.toNat_natCast, Bool.eq_iff_iff]; simp
  obtain ⟨q, hq⟩ : ∃ q, restN s m = q := ⟨_, rfl⟩
  rw [hq] at HA HR
  obtain ⟨p, hp⟩ : ∃ p : Nat, 2 ^ m - 1 = p := ⟨_, rfl⟩
  rw [Int.toNat_natCast, hp] at F1
  rw [hp] at HA
  clear hd f1 f2 hr hs hq hp
  go_enter Try.func105, Try.ntmps105
  go_wp2_with fail
  refine (fullR_is m p 0 F1.out F2.out _).mono ?_
  rintro e w1 ⟨rfl, rfl⟩
  go_wp2
  go_ret
  exact ⟨rbool HR.out, rfl⟩
def shapeB (m gen : Nat) (rows : List Nat) : Bool := decide (rows.length = m) && (insN m gen && rows.all (insN m))
def shapedE (n : Int) (gen : Nat) (rows : List Nat) : Int := if dimB n = true then (if shapeB n.toNat gen rows = true then 0 else 30) else 31
theorem all_drop {l : List Nat} {p : Nat → Bool} {k : Nat} (h : ∀ i r, i < k → l[i]? = some r → p r = true) (hk : l.length ≤ k) : l.all p = true := by
 rw [List.all_eq_true]
 intro x hx
 obtain ⟨i, hi⟩ := List.getElem?_of_mem hx
 exact h i x (by have := (List.getElem?_eq_some_iff.1 hi).1; omega) hi
theorem all_bad {l : List Nat} {p : Nat → Bool} {i r : Nat} (h : l[i]? = some r) (hp : p r = false) : l.all p = false := by
 rw [List.all_eq_false]
 exact ⟨r, List.mem_of_getElem? h, by rw [hp]; simp⟩
set_option maxHeartbeats 1000000 in
theorem shaped_is (n : Int) (a : Option Addr) (cap gen : Nat) (rows : List Nat) (w : World) (hf : FAt w a gen rows) (r : Int) (hr : shapedE n gen rows = r) :
  Calls Try.prog 114 #[.int .i64 n, fval gen a rows.length cap] w fun e w' => e = .returned (.int .i64 r) ∧ Below w.heap.size w w' := by
 have HF := Lib.hid hf
 have hgen := hf.gen
 have hlen := hf.len
 have hB0 : Below w.heap.size w (w.alloc (.cells #[.int .u64 (gen : Int), .slice a rows.length cap] 41)) := (Below.refl _ _).alloc (Nat.le_refl _) _
 have HF1 : Hid (FAt (w.alloc (.cells #[.int .u64 (gen : Int), .slice a rows.length cap] 41)) a gen rows) := hf.below hB0
 obtain ⟨len, hl⟩ : ∃ len, rows.length = len := ⟨_, rfl⟩
 have HL := Lib.hid hl
 rw [hl] at hB0 HF1 hlen ⊢
 unfold fval
 clear hf hl
 cases hd : dimB n
 ·obtain ⟨f1, f2⟩ := dim_full_no hd
  have F1 := Lib.hid f1; have F2 := Lib.hid f2
  have HR : Hid (31 = r) := by show _ = _; rw [← hr, shapedE, hd]; rfl
  clear hd f1 f2 hr
  go_enter Try.func114, Try.ntmps114
  go_wp2_with fail
  refine (fullA_is n 0 10 F1.out F2.out _).mono ?_
  rintro e w1 ⟨rfl, rfl⟩
  go_wp2
  go_ret
  exact ⟨rint HR.out, hB0⟩
 ·obtain ⟨m, rfl, hm⟩ := dim_nat hd
  obtain ⟨f1, f2⟩ := dim_full hd
  have F1 := Lib.hid f1; have F2 := Lib.hid f2
  have HA := andNot_mask gen m hgen hm
  have HRR : Hid ((if shapeB m gen rows = true then (0 : Int) else 30) = r) := by show _ = _; rw [← hr, shapedE, hd, if_pos rfl, Int.toNat_natCast]
  have HAR : Hid (∀ r : Nat, r < 18446744073709551616 → bits BinOp.andNot IntKind.u64 (r : Int) ((2 ^ m - 1 : Nat) : Int) = ((restN r m : Nat) : Int)) := fun r hr => andNot_mask r m hr hm
  obtain ⟨p, hp⟩ : ∃ p : Nat, 2 ^ m - 1 = p := ⟨_, rfl⟩
  rw [Int.toNat_natCast, hp] at F1
  rw [hp] at HA HAR
  clear hd f1 f2 hr hp
  by_cases hlm : len = m
  ·subst hlm
   cases hig : insN len gen
   ·have HR : Hid (30 = r) := by show _ = _; rw [← HRR.out, shapeB, hig]; simp
    have hq0 : (((restN gen len : Nat) : Int) != 0) = true := by
     unfold insN at hig
     have : restN gen len ≠ 0 := by simpa using hig
     simp; omega
    obtain ⟨q, hq⟩ : ∃ q, restN gen len = q := ⟨_, rfl⟩
    rw [hq] at HA hq0
    clear hig hq
    go_enter Try.func114, Try.ntmps114
    go_wp2_with fail
    refine (fullA_is len p 0 F1.out F2.out _).mono ?_
    rintro e w1 ⟨rfl, rfl⟩
    go_wp2
    go_ret
    exact ⟨rint HR.out, hB0⟩
   ·have HIG := Lib.hid hig
    have hq0 : restN gen len = 0 := by unfold insN at hig; simpa using hig
    rw [hq0] at HA
    clear hig hq0
    go_enter Try.func114, Try.ntmps114
    go_wp2_with fail
    refine (fullA_is len p 0 F1.out F2.out _).mono ?_
    rintro e w1 ⟨rfl, rfl⟩
    go_wp2_with fail
    go_loopw [31] (fun i wr => ∃ k : Nat, k ≤ len ∧ i = .int .i64 k ∧ Hid (∀ (i : Nat) x, i < k → rows[i]? = some x → insN len x = true) ∧ (w.alloc (.cells #[.int .u64 (gen : Int), .slice a len cap] 41)) = wr) (fun i _ => len - (intOf i).toNat)
    case atStart => exact ⟨0, Nat.zero_le _, rfl, fun i x h => by omega, rfl⟩
    case round =>
     obtain ⟨k, hk, rfl, HK, rfl⟩ := hrel
     by_cases hlt : k < len
     ·obtain ⟨ba, offa, x, rfl, hx, hx64, hba, a0⟩ := HF1.out.at_ (by rw [HL.out]; exact hlt)
      have g0 : (0 : Int) ≤ (k : Int) := by omega
      have g1 : (k : Int) < (len : Int) := by omega
      have hax := HAR.out x hx64
      cases hin : insN len x
      ·have HR : Hid (30 = r) := by show _ = _; rw [← HRR.out, shapeB, all_bad hx hin]; simp
       have hq0 : (((restN x len : Nat) : Int) != 0) = true := by
        unfold insN at hin
        have : restN x len ≠ 0 := by simpa using hin
        simp; omega
       obtain ⟨q, hq⟩ : ∃ q, restN x len = q := ⟨_, rfl⟩
       rw [hq] at hax hq0
       clear hin hq hx
       go_wp2
       go_ret
       exact ⟨rint HR.out, hB0⟩
      ·have HN : Hid (∀ (i : Nat) y, i < k + 1 → rows[i]? = some y → insN len y = true) := fun i y hi hy => by
        by_cases e : i = k
        ·subst e; rw [hx] at hy; cases hy; exact hin
        ·exact HK.out i y (by omega) hy
       have hq0 : restN x len = 0 := by unfold insN at hin; simpa using hin
       rw [hq0] at hax
       clear hin hx hq0
       go_wp2
       go_roundw
       case rel => exact ⟨k + 1, by omega, by go_num, HN, by trivial⟩
       case measure => simp [intOf]; omega
     ·have HR : Hid (0 = r) := by
       show _ = _
       have e1 : shapeB len gen rows = true := by
        unfold shapeB
        rw [HIG.out, all_drop HK.out (by rw [HL.out]; omega)]
        simp [HL.out]
       rw [← HRR.out, e1]; rfl
      go_wp2
      go_ret
      exact ⟨rint HR.out, hB0⟩
  ·have HR : Hid (30 = r) := by
    show _ = _
    rw [← HRR.out, shapeB, decide_eq_false (by rw [HL.out]; exact hlm)]; rfl
   have hne : ((len : Int) != (m : Int)) = true := by simp; omega
   clear hlm
   go_enter Try.func114, Try.ntmps114
   go_wp2_with fail
   refine (fullA_is m p 0 F1.out F2.out _).mono ?_
   rintro e w1 ⟨rfl, rfl⟩
   go_wp2
   go_ret
   exact ⟨rint HR.out, hB0⟩
end Go.Proofs.Ytpkcaabbcoiiiaa
namespace Go.Proofs.Ytpkcaabbcoiiiaa
open Go.RowKit
set_option maxHeartbeats 1000000 in
theorem shape_is (m : Nat) (hm : m ≤ 64) (a : Option Addr) (cap gen : Nat) (rows : List Nat) (w : World) (hf : FAt w a gen rows) (r : Bool) (hr : shapeB m gen rows = r) :
  Calls Try.prog 104 #[.int .i64 m, fval gen a rows.length cap] w fun e w' => e = .returned (.bool r) ∧ Below w.heap.size w w' := by
 have HF := Lib.hid hf
 have hgen := hf.gen
 have hlen := hf.len
 have HR := Lib.hid hr
 have hB0 : Below w.heap.size w (w.alloc (.cells #[.int .u64 (gen : Int), .slice a rows.length cap] 41)) := (Below.refl _ _).alloc (Nat.le_refl _) _
 have HF1 : Hid (FAt (w.alloc (.cells #[.int .u64 (gen : Int), .slice a rows.length cap] 41)) a gen rows) := hf.below hB0
 have HI : Hid (∀ s : Nat, insI (m : Int) s = insN m s) := fun s => by
  have : dimB (m : Int) = true := by simp [dimB]; omega
  rw [insI, this]; rfl
 obtain ⟨len, hl⟩ : ∃ len, rows.length = len := ⟨_, rfl⟩
 have HL := Lib.hid hl
 rw [hl] at hB0 HF1 hlen ⊢
 unfold fval
 clear hf hl hr
 by_cases hlm : len = m
 ·subst hlm
  cases hig : insN len gen
  ·have HX : Hid (false = r) := by show _ = _; rw [← HR.out, shapeB, hig]; simp
   have HG := Lib.hid hig
   clear hig
   go_enter Try.func104, Try.ntmps104
   go_wp2_with fail
   refine (inside_is len gen hgen false (by rw [HI.out]; exact HG.out) _).mono ?_
   rintro e w1 ⟨rfl, rfl⟩
   go_wp2
   go_ret
   exact ⟨rbool HX.out, hB0⟩
  ·have HG := Lib.hid hig
   clear hig
   go_enter Try.func104, Try.ntmps104
   go_wp2_with fail
   refine (inside_is len gen hgen true (by rw [HI.out]; exact HG.out) _).mono ?_
   rintro e w1 ⟨rfl, rfl⟩
   go_wp2_with fail
   go_loopw [5] (fun i wr => ∃ k : Nat, k ≤ len ∧ i = .int .i64 k ∧ Hid (∀ (i : Nat) x, i < k → rows[i]? = some x → insN len x = true) ∧ (w.alloc (.cells #[.int .u64 (gen : Int), .slice a len cap] 41)) = wr) (fun i _ => len - (intOf i).toNat)
   case atStart => exact ⟨0, Nat.zero_le _, rfl, fun i x h => by omega, rfl⟩
   case round =>
    obtain ⟨k, hk, rfl, HK, rfl⟩ := hrel
    by_cases hlt : k < len
    ·obtain ⟨ba, offa, x, rfl, hx, hx64, hba, a0⟩ := HF1.out.at_ (by rw [HL.out]; exact hlt)
     have g0 : (0 : Int) ≤ (k : Int) := by omega
     have g1 : (k : Int) < (len : Int) := by omega
     cases hin : insN len x
     ·have HX : Hid (false = r) := by show _ = _; rw [← HR.out, shapeB, all_bad hx hin]; simp
      have HIN := Lib.hid hin
      clear hin hx
      go_wp2_with fail
      refine (inside_is len x hx64 false (by rw [HI.out]; exact HIN.out) _).mono ?_
      rintro e w1 ⟨rfl, rfl⟩
      go_wp2
      go_ret
      exact ⟨rbool HX.out, hB0⟩
     ·have HN : Hid (∀ (i : Nat) y, i < k + 1 → rows[i]? = some y → insN len y = true) := fun i y hi hy => by
       by_cases e : i = k
       ·subst e; rw [hx] at hy; cases hy; exact hin
       ·exact HK.out i y (by omega) hy
      have HIN := Lib.hid hin
      clear hin hx
      go_wp2_with fail
      refine (inside_is len x hx64 true (by rw [HI.out]; exact HIN.out) _).mono ?_
      rintro e w1 ⟨rfl, rfl⟩
      go_wp2
      go_roundw
      case rel => exact ⟨k + 1, by omega, by go_num, HN, by trivial⟩
      case measure => simp [intOf]; omega
    ·have HX : Hid (true = r) := by
      show _ = _
      have e1 : shapeB len gen rows = true := by
       unfold shapeB
       rw [HG.out, all_drop HK.out (by rw [HL.out]; omega)]
       simp [HL.out]
      rw [← HR.out, e1]
     go_wp2
     go_ret
     exact ⟨rbool HX.out, hB0⟩
 ·have HX : Hid (false = r) := by
   show _ = _
   rw [← HR.out, shapeB, decide_eq_false (by rw [HL.out]; exact hlm)]; rfl
  have hne : ((len : Int) != (m : Int)) = true := by simp; omega
  clear hlm
  go_enter Try.func104, Try.ntmps104
  go_wp2
  go_ret
  exact ⟨rbool HX.out, hB0⟩
def andn (a b : Nat) : Nat := a &&& (18446744073709551615 - b)
theorem andn_bit {a b : Nat} (ha : a < 18446744073709551616) (hb : b < 18446744073709551616) (j : Nat) : (andn a b).testBit j = (a.testBit j && !b.testBit j) := by
 unfold andn
 rw [Nat.testBit_and, not_bit _ _ hb]
 cases h : a.testBit j
 ·rfl
 ·simp [bit_lt ha h]
theorem andn_go (a b : Nat) (ha : a < 18446744073709551616) (hb : b < 18446744073709551616) : bits BinOp.andNot IntKind.u64 (a : Int) (b : Int) = ((andn a b : Nat) : Int) := u64_andNot_nat a b ha hb
def canonL (gen : Nat) (rows : List Nat) : List Nat := rows.map fun r => andn r gen
theorem canonL_length (gen : Nat) (rows : List Nat) : (canonL gen rows).length = rows.length := by simp [canonL]
theorem canonL_take {gen : Nat} {rows : List Nat} {k x : Nat} (h : rows[k]? = some x) : (canonL gen rows).take (k + 1) = (canonL gen rows).take k ++ [andn x gen] := by
 have h2 : (canonL gen rows)[k]? = some (andn x gen) := by simp [canonL, h]
 obtain ⟨hk, e⟩ := List.getElem?_eq_some_iff.1 h2
 rw [List.take_succ_eq_append_getElem hk, e]
theorem infoU : (Try.prog.info? 38).map (fun i => (i.zero, i.size, i.bytes)) = some (some (.int .u64 0), 1, 8) := by kernel_rfl
theorem two_cells {w : World} {B : Nat} {a b : Value} {T : TypeId} (h : w.heap[B]? = some (.cells #[a, b] T (0, 0))) :
  w.cell? ⟨B, 0, none⟩ = some a ∧ w.cell? ⟨B, 1, none⟩ = some b ∧ (∀ j, w.frozen? ⟨B, j, none⟩ = false) :=
 ⟨by simp [World.cell?, h], by simp [World.cell?, h], fun j => by simp [World.frozen?, h]⟩
theorem two_set1 {w : World} {B : Nat} {a b c : Value} {T : TypeId} (h : w.heap[B]? = some (.cells #[a, b] T (0, 0))) : (w.setCell ⟨B, 1, none⟩ c).heap[B]? = some (.cells #[a, c] T (0, 0)) := heap_setCell_same w B 1 _ _ _ h
theorem two_set0 {w : World} {B : Nat} {a b c : Value} {T : TypeId} (h : w.heap[B]? = some (.cells #[a, b] T (0, 0))) : (w.setCell ⟨B, 0, none⟩ c).heap[B]? = some (.cells #[c, b] T (0, 0)) := heap_setCell_same w B 0 _ _ _ h
theorem heap_other {w : World} {B C j : Nat} {c : Value} {o : Obj} (h : w.heap[C]? = some o) (hne : C ≠ B) : (w.setCell ⟨B, j, none⟩ c).heap[C]? = some o := (Below.heap_setCell _ _ _ _ hne).trans h
theorem heap_old {w w' : World} {C : Nat} {o : Obj} (h : w.heap[C]? = some o) (hb : Below w.heap.size w w') : w'.heap[C]? = some o := (hb.block C (Array.getElem?_eq_some_iff.1 h).1).trans h
theorem heap_allocd {w : World} {C : Nat} {o : Obj} (h : w.heap[C]? = some o) (o' : Obj) : (w.alloc o').heap[C]? = some o := (Below.heap_alloc _ _ _ (Array.getElem?_eq_some_iff.1 h).1).trans h
theorem not_row {w : World} {B : Nat} {cs : Array Value} {T E : TypeId} (h : w.heap[B]? = some (.cells cs T (0, 0))) (hTE : T ≠ E) {base size k : Nat} {v : Value} {xs : List Value} (hr : w.ownsRow base E size v k xs) : some B ≠ v.ownBlock := by
 rcases hr.2 with ⟨rfl, _⟩ | ⟨g, cap, cur, rfl, _, hgb, _⟩
 ·simp [Value.ownBlock]
 ·intro e'
  obtain rfl : B = g := by simpa [Value.ownBlock] using e'
  have := h.symm.trans hgb
  simp at this
  exact hTE this.2
theorem heap_grown {w w' : World} {B : Nat} {cs : Array Value} {T E : TypeId} (h : w.heap[B]? = some (.cells cs T (0, 0))) (hTE : T ≠ E) {base size k : Nat} {v : Value} {xs : List Value} (hr : w.ownsRow base E size v k xs) (hg : w.grownBy w' v.ownBlock) : w'.heap[B]? = some (.cells cs T (0, 0)) :=
 (hg.block B (Array.getElem?_eq_some_iff.1 h).1 (fun e => not_row h hTE hr e)).trans h
theorem grownBy_set (W : World) (b j : Nat) (v : Value) : W.grownBy (W.setCell ⟨b, j, none⟩ v) (some b) :=
 ⟨rfl, rfl, rfl, (KeepsWalks.setCell W _ v).size, fun k _ hk => Below.heap_setCell _ _ _ k (fun e => hk (by rw [e]))⟩
theorem vrow_set {w : World} {a : Option Addr} {vs : List Value} (h : VRow w a vs) {B j : Nat} {v : Value} (hne : ∀ ad, a = some ad → ad.block ≠ B) : VRow (w.setCell ⟨B, j, none⟩ v) a vs := by
 rcases h with h | ⟨b, off, ha, hc⟩
 ·exact .inl h
 ·refine .inr ⟨b, off, ha, fun i x hi => ?_⟩
  rw [← hc i x hi]
  unfold World.cell?
  rw [Below.heap_setCell _ _ _ _ (hne _ ha)]
def FOne (gen : Nat) (rows : List Nat) (w : World) (e : Ending) (w' : World) : Prop :=
 ∃ a cap, e = .returned (fval gen a rows.length cap) ∧ VRow w' a (u64s rows) ∧ (∀ ad, a = some ad → w.heap.size ≤ ad.block ∧ ad.block < w'.heap.size) ∧ Below w.heap.size w w'
set_option maxHeartbeats 2000000 in
theorem canonR_is (a : Option Addr) (cap gen : Nat) (rows : List Nat) (w : World) (hf : FAt w a gen rows) (ys : List Nat) (hys : canonL gen rows = ys) :
  Calls Try.prog 94 #[fval gen a rows.length cap] w (FOne gen ys w) := by
 have HF := Lib.hid hf
 have hgen := hf.gen
 have hlen := hf.len
 have HY := Lib.hid hys
 obtain ⟨i0, hi, hz0, hz1, hz2⟩ := info_parts infoU
 obtain ⟨len, hl⟩ : ∃ len, rows.length = len := ⟨_, rfl⟩
 have HL := Lib.hid hl
 rw [hl] at hlen ⊢
 unfold fval
 clear hf hl hys
 go_enter Try.func94, Try.ntmps94
 go_wp2_with fail
 go_loopw [4] (fun i wr => ∃ (k : Nat) (v : Value), k ≤ len ∧ i = .int .i64 k ∧ Hid (wr.heap[w.heap.size]? = some (.cells #[.int .u64 (gen : Int), .slice a len cap] 41 (0, 0))) ∧ Hid (wr.heap[w.heap.size + 1]? = some (.cells #[.int .u64 0, .slice none 0 0] 41 (0, 0))) ∧ Hid (wr.heap[w.heap.size + 1 + 1]? = some (.cells #[.int .u64 (gen : Int), v] 41 (0, 0))) ∧ Hid (wr.ownsRow w.heap.size 38 1 v k (u64s (ys.take k))) ∧ Below w.heap.size w wr) (fun i _ => len - (intOf i).toNat)
 case atStart =>
  refine ⟨0, .slice none 0 0, Nat.zero_le _, rfl, ?_, ?_, ?_, World.ownsRow_nil _ _ _ _, (((Below.refl _ _).alloc (Nat.le_refl _) _).alloc (by simp) _).alloc (by simp; omega) _⟩
  ·show _ = _
   exact heap_allocd (heap_allocd (heapV_new _ _) _) _
  ·show _ = _
   have := heap_allocd (heapV_new (w.alloc (.cells #[.int .u64 (gen : Int), .slice a len cap] 41)) (.cells #[.int .u64 0, .slice none 0 0] 41)) (.cells #[.int .u64 (gen : Int), .slice none 0 0] 41)
   rwa [World.size_alloc] at this
  ·show _ = _
   have := heapV_new ((w.alloc (.cells #[.int .u64 (gen : Int), .slice a len cap] 41)).alloc (.cells #[.int .u64 0, .slice none 0 0] 41)) (.cells #[.int .u64 (gen : Int), .slice none 0 0] 41)
   rwa [World.size_alloc, World.size_alloc] at this
 case round =>
  obtain ⟨k, v, hk, rfl, B0, B1, B2, HO, hb⟩ := hrel
  obtain ⟨c0, c1, cf⟩ := two_cells B0.out
  obtain ⟨e0, e1, ef⟩ := two_cells B2.out
  have ef1 := ef 1
  by_cases hlt : k < len
  ·obtain ⟨ba, offa, x, rfl, hx, hx64, hba, a0⟩ := (HF.out.below hb).at_ (by rw [HL.out]; exact hlt)
   have g0 : (0 : Int) ≤ (k : Int) := by omega
   have g1 : (k : Int) < (len : Int) := by omega
   have hag := andn_go x gen hx64 hgen
   obtain ⟨y, hy⟩ : ∃ y, andn x gen = y := ⟨_, rfl⟩
   rw [hy] at hag
   have HT : Hid (ys.take (k + 1) = ys.take k ++ [y]) := by show _ = _; rw [← HY.out, canonL_take hx, hy]
   clear hx hy cf ef
   go_wp2_with fail
   have q1 : (wr.alloc (.cells #[.int .u64 (y : Int)] 38)).cell? ⟨w.heap.size + 1 + 1, 1, none⟩ = some v := (two_cells (heap_allocd B2.out _)).2.1
   go_region_law (first | (refine step_append_lies (wr.drew.alloc (.cells #[.int .u64 (y : Int)] 38)) ?_ (.tmp 16) (.tmp 25) 39 ?_ w.heap.size 38 i0 _ 1 8 Try.underlying39 hi hz0 hz1 hz2 ?_ ?_ v k (u64s (ys.take k)) ?_ ?_ ⟨wr.heap.size, 0, none⟩ 1 1 [.int .u64 (y : Int)] ?_ ?_ ?_ ?_ ?_ ?_ ?_ ?_ (wr.heap.size + 1) ?_ ?_; rfl; rfl; rfl; omega; rfl; exact (HO.out : (wr.drew).ownsRow _ _ _ _ _ _).alloc _; rfl; rfl; exact (World.news_of_block (cs := #[.int .u64 (y : Int)]) (t := 38) (fr := (0, 0)) (heapV_new wr.drew _)); simp [Value.oneCell']; omega; (unfold maxLen; omega); omega; (have := hb.size; simp; omega); simp; intro gg cp w5 hown1 hgrow hat hlt5; have hB4 : Below w.heap.size w w5 := (hb.drew.alloc hb.size _).grown hgrow (by have := hb.size; simp; omega) (fun j e => (HO.out.lt j e).1); have D0 := Lib.hid (heap_grown (heap_allocd (w := wr.drew) B0.out (.cells #[.int .u64 (y : Int)] 38)) (by decide) ((HO.out : (wr.drew).ownsRow _ _ _ _ _ _).alloc _) hgrow); have D1 := Lib.hid (heap_grown (heap_allocd (w := wr.drew) B1.out (.cells #[.int .u64 (y : Int)] 38)) (by decide) ((HO.out : (wr.drew).ownsRow _ _ _ _ _ _).alloc _) hgrow); have D2 := Lib.hid (heap_grown (heap_allocd (w := wr.drew) B2.out (.cells #[.int .u64 (y : Int)] 38)) (by decide) ((HO.out : (wr.drew).ownsRow _ _ _ _ _ _).alloc _) hgrow); obtain ⟨_, d1, df⟩ := two_cells D2.out; have df1 := df 1; clear df) | fail)
   all_goals
    have HO5 := Lib.hid (show (w5.setCell ⟨w.heap.size + 1 + 1, 1, none⟩ (.slice (some ⟨gg, 0, none⟩) (k + 1) cp)).ownsRow w.heap.size 38 1 (.slice (some ⟨gg, 0, none⟩) (k + 1) cp) (k + 1) (u64s (ys.take (k + 1))) by
     rw [HT.out, u64s_snoc]; exact hown1.kept (grownBy_set w5 _ _ _) (.inr (not_row D2.out (by decide) hown1).symm))
    have N0 := Lib.hid (heap_other (B := w.heap.size + 1 + 1) (j := 1) (c := .slice (some ⟨gg, 0, none⟩) (k + 1) cp) D0.out (by omega))
    have N1 := Lib.hid (heap_other (B := w.heap.size + 1 + 1) (j := 1) (c := .slice (some ⟨gg, 0, none⟩) (k + 1) cp) D1.out (by omega))
    have N2 := Lib.hid (two_set1 (c := .slice (some ⟨gg, 0, none⟩) (k + 1) cp) D2.out)
    have NB := Lib.hid (hB4.setCell (p := ⟨w.heap.size + 1 + 1, 1, none⟩) (by simp; omega) (.slice (some ⟨gg, 0, none⟩) (k + 1) cp))
    clear hown1 hgrow hat d1 df1 q1 c0 c1 e0 e1 ef1
    go_wp2
    go_roundw
    case rel => exact ⟨k + 1, _, by omega, by go_num, N0, N1, N2, HO5, NB.out⟩
    case measure => simp [intOf]; omega
  ·obtain rfl : k = len := by omega
   obtain ⟨r0, r1, rf⟩ := two_cells B1.out
   have rf0 := rf 0; have rf1 := rf 1
   have HYL : Hid (ys.length = k) := by show _ = _; rw [← HY.out, canonL_length, HL.out]
   have HO2 : Hid (wr.ownsRow w.heap.size 38 1 v k (u64s ys)) := by
    have := HO.out
    rwa [List.take_of_length_le (by rw [HYL.out]; exact Nat.le_refl _)] at this
   obtain ⟨hvn, a3, cap3, hv3, hr3, hf3⟩ := VRow.of_own HO2.out
   subst hv3
   have HR3 := Lib.hid hr3; have HF3 := Lib.hid hf3
   have N1 := Lib.hid (two_set1 (c := .slice a3 (u64s ys).length cap3) (two_set0 (c := .int .u64 (gen : Int)) B1.out))
   have NR := Lib.hid (vrow_set (vrow_set HR3.out (B := w.heap.size + 1) (j := 0) (v := .int .u64 (gen : Int)) (fun ad e x => not_row B1.out (by decide) HO2.out (by rw [e]; show _ = some _; rw [x]))) (B := w.heap.size + 1) (j := 1) (v := .slice a3 (u64s ys).length cap3) (fun ad e x => not_row B1.out (by decide) HO2.out (by rw [e]; show _ = some _; rw [x])))
   have NB := Lib.hid ((hb.setCell (p := ⟨w.heap.size + 1, 0, none⟩) (by simp) (.int .u64 (gen : Int))).setCell (p := ⟨w.heap.size + 1, 1, none⟩) (by simp) (.slice a3 (u64s ys).length cap3))
   obtain ⟨s0, s1, _⟩ := two_cells N1.out
   clear cf ef hvn hr3 hf3
   go_wp2
   refine bodyPost_ret (v := .agg #[.int .u64 (gen : Int), .slice a3 (u64s ys).length cap3]) ?_ rfl ⟨a3, cap3, by rw [fval, u64s_length], NR.out, fun ad e => ⟨(HF3.out ad e).1, by simpa [World.setCell] using (HF3.out ad e).2⟩, NB.out⟩
   simp [results, Try.results94, go_sem, s0, s1]
end Go.Proofs.Ytpkcaabbcoiiiaa
namespace Go.Proofs.Ytpkcaabbcoiiiaa
open Go.RowKit
def URow (w : World) (a : Option Addr) (xs : List Nat) : Prop := VRow w a (u64s xs)
theorem URow.at_ {w : World} {a : Option Addr} {xs : List Nat} (h : URow w a xs) {i : Nat} (hi : i < xs.length) :
  ∃ b off r, a = some ⟨b, off, none⟩ ∧ xs[i]? = some r ∧ b < w.heap.size ∧ w.cell? ⟨b, off + i, none⟩ = some (.int .u64 (r : Int)) := by
 obtain ⟨b, off, v, ha, hv, hb, hc⟩ := VRow.at_ h (i := i) (by rw [u64s_length]; exact hi)
 obtain ⟨r, hr, rfl⟩ := u64s_at hv
 exact ⟨b, off, r, ha, hr, hb, hc⟩
theorem list_eq_of {xs ys : List Nat} (hl : xs.length = ys.length) (h : ∀ (i x y : Nat), xs[i]? = some x → ys[i]? = some y → x = y) : xs = ys := by
 apply List.ext_getElem hl
 intro i h1 h2
 exact h i _ _ (List.getElem?_eq_getElem h1) (List.getElem?_eq_getElem h2)
def sameB (ga : Nat) (xs : List Nat) (gb : Nat) (ys : List Nat) : Bool := ga == gb && xs == ys
theorem two_boxes (w : World) (a b : Array Value) (T : TypeId) : ((w.alloc (.cells a T)).alloc (.cells b T)).heap[w.heap.size]? = some (.cells a T (0, 0)) ∧ ((w.alloc (.cells a T)).alloc (.cells b T)).heap[w.heap.size + 1]? = some (.cells b T (0, 0)) := by
 refine ⟨heap_allocd (heapV_new _ _) _, ?_⟩
 have := heapV_new (w.alloc (.cells a T)) (.cells b T)
 rwa [World.size_alloc] at this
set_option maxHeartbeats 1000000 in
theorem sameR_is (a b : Option Addr) (capa capb ga gb : Nat) (xs ys : List Nat) (w : World) (hx : xs.length ≤ 100) (hy : ys.length ≤ 100) (hra : URow w a xs) (hrb : URow w b ys) (r : Bool) (hr : sameB ga xs gb ys = r) (n m : Nat) (hn : xs.length = n) (hm : ys.length = m) :
  Calls Try.prog 38 #[fval ga a n capa, fval gb b m capb] w fun e w' => e = .returned (.bool r) ∧ Below w.heap.size w w' := by
 unfold fval
 have hB0 : Below w.heap.size w ((w.alloc (.cells #[.int .u64 (ga : Int), .slice a n capa] 41)).alloc (.cells #[.int .u64 (gb : Int), .slice b m capb] 41)) := ((Below.refl _ _).alloc (Nat.le_refl _) _).alloc (by simp) _
 have HA := Lib.hid hra; have HB := Lib.hid hrb; have HN := Lib.hid hn; have HM := Lib.hid hm
 obtain ⟨t0, t1⟩ := two_boxes w #[.int .u64 (ga : Int), .slice a n capa] #[.int .u64 (gb : Int), .slice b m capb] 41
 have T0 := Lib.hid t0; have T1 := Lib.hid t1
 rw [hn] at hx; rw [hm] at hy
 by_cases hg : ga = gb
 ·subst hg
  have HR : Hid ((xs == ys) = r) := by show _ = _; rw [← hr, sameB]; simp
  clear hra hrb hr hn hm t0 t1
  by_cases hnm : n = m
  ·subst hnm
   go_enter Try.func38, Try.ntmps38
   go_wp2_with fail
   go_loopw [5] (fun i wr => ∃ k : Nat, k ≤ n ∧ i = .int .i64 k ∧ Hid (∀ i x y, i < k → xs[i]? = some x → ys[i]? = some y → x = y) ∧ Hid (wr.heap[w.heap.size]? = some (.cells #[.int .u64 (ga : Int), .slice a n capa] 41 (0, 0))) ∧ Hid (wr.heap[w.heap.size + 1]? = some (.cells #[.int .u64 (ga : Int), .slice b n capb] 41 (0, 0))) ∧ Below w.heap.size w wr) (fun i _ => n - (intOf i).toNat)
   case atStart => exact ⟨0, Nat.zero_le _, rfl, fun i x y h => by omega, T0, T1, hB0⟩
   case round =>
    obtain ⟨k, hk, rfl, HK, B0, B1, hb⟩ := hrel
    obtain ⟨c0, c1, _⟩ := two_cells B0.out
    obtain ⟨d0, d1, _⟩ := two_cells B1.out
    by_cases hlt : k < n
    ·obtain ⟨ba, offa, x, rfl, hx1, hba, a0⟩ := URow.at_ (VRow.below HA.out hb) (i := k) (by rw [HN.out]; exact hlt)
     obtain ⟨bb, offb, y, rfl, hy1, hbb, b0⟩ := URow.at_ (VRow.below HB.out hb) (i := k) (by rw [HM.out]; exact hlt)
     have g0 : (0 : Int) ≤ (k : Int) := by omega
     have g1 : (k : Int) < (n : Int) := by omega
     by_cases hxy : x = y
     ·subst hxy
      have HNX : Hid (∀ i x y, i < k + 1 → xs[i]? = some x → ys[i]? = some y → x = y) := fun i u v hi hu hv => by
       by_cases e : i = k
       ·subst e; rw [hx1] at hu; rw [hy1] at hv; cases hu; cases hv; rfl
       ·exact HK.out i u v (by omega) hu hv
      clear hx1 hy1
      go_wp2_with fail
      go_quiet (fail)
      go_wp2
      go_roundw
      case rel => exact ⟨k + 1, by omega, by go_num, HNX, B0, B1, below_drewN hb _⟩
      case measure => simp [intOf]; omega
     ·have hne : ((x : Int) != (y : Int)) = true := by simp; omega
      have HX : Hid (false = r) := by
       show _ = _
       rw [← HR.out]
       symm
       rw [beq_eq_false_iff_ne]
       rintro rfl
       rw [hx1] at hy1; cases hy1; exact hxy rfl
      clear hx1 hy1 hxy
      go_wp2_with fail
      go_quiet (fail)
      go_wp2
      go_ret
      exact ⟨rbool HX.out, below_drewN hb _⟩
    ·have HX : Hid (true = r) := by
      show _ = _
      rw [← HR.out]
      symm
      rw [beq_iff_eq]
      refine list_eq_of (by rw [HN.out, HM.out]) fun i x y hi hj => ?_
      have := (List.getElem?_eq_some_iff.1 hi).1
      rw [HN.out] at this
      exact HK.out i x y (by omega) hi hj
     go_wp2
     go_ret
     exact ⟨rbool HX.out, hb⟩
  ·have HX : Hid (false = r) := by
    show _ = _
    rw [← HR.out]
    symm
    rw [beq_eq_false_iff_ne]
    rintro rfl
    exact hnm (HN.out.symm.trans HM.out)
   have hne : ((n : Int) != (m : Int)) = true := by simp; omega
   clear hnm
   go_enter Try.func38, Try.ntmps38
   go_wp2
   go_ret
   exact ⟨rbool HX.out, hB0⟩
 ·have HR : Hid (false = r) := by show _ = _; rw [← hr, sameB, beq_eq_false_iff_ne.2 hg]; rfl
  have hne : ((ga : Int) != (gb : Int)) = true := by simp; omega
  clear hra hrb hr hn hm hg t0 t1
  go_enter Try.func38, Try.ntmps38
  go_wp2
  go_ret
  exact ⟨rbool HR.out, hB0⟩
end Go.Proofs.Ytpkcaabbcoiiiaa
namespace Go.Proofs.Ytpkcaabbcoiiiaa
open Go.RowKit
def clearB (gen : Nat) (rows : List Nat) : Bool := rows.all fun r => r &&& gen == 0
def checkE (n : Int) (gen : Nat) (rows : List Nat) : Int := if dimB n = true then (if (shapeB n.toNat gen rows && clearB gen rows) = true then 0 else 30) else 31
theorem check_shaped {n : Int} {gen : Nat} {rows : List Nat} {e : Int} (h : shapedE n gen rows = e) (he : e ≠ 0) : checkE n gen rows = e := by
 unfold shapedE at h
 unfold checkE
 split at h
 ·rename_i hd
  rw [if_pos hd]
  split at h
  ·exact absurd h.symm he
  ·rename_i hs
   rw [if_neg (by intro x; rw [Bool.and_eq_true] at x; exact hs x.1)]
   exact h
 ·rename_i hd
  rw [if_neg hd]; exact h
theorem check_clear {n : Int} {gen : Nat} {rows : List Nat} (h : shapedE n gen rows = 0) : checkE n gen rows = if clearB gen rows = true then 0 else 30 := by
 unfold shapedE at h
 unfold checkE
 split at h
 ·rename_i hd
  rw [if_pos hd]
  split at h
  ·rename_i hs
   rw [hs, Bool.true_and]
  ·cases h
 ·cases h
set_option maxHeartbeats 1000000 in
theorem checkA_is (n : Int) (a : Option Addr) (cap gen : Nat) (rows : List Nat) (w : World) (hf : FAt w a gen rows) (r : Int) (hr : checkE n gen rows = r) (len : Nat) (hl : rows.length = len) :
  Calls Try.prog 108 #[.int .i64 n, fval gen a len cap] w fun e w' => e = .returned (.int .i64 r) ∧ Below w.heap.size w w' := by
 have HF := Lib.hid hf
 have hgen := hf.gen
 have hlen := hf.len
 have hB0 : Below w.heap.size w (w.alloc (.cells #[.int .u64 (gen : Int), .slice a len cap] 41)) := (Below.refl _ _).alloc (Nat.le_refl _) _
 have HF1 : Hid (FAt (w.alloc (.cells #[.int .u64 (gen : Int), .slice a len cap] 41)) a gen rows) := hf.below hB0
 have T0 := Lib.hid (heapV_new w (.cells #[.int .u64 (gen : Int), .slice a len cap] 41))
 have HL := Lib.hid hl
 rw [hl] at hlen
 obtain ⟨s, hs⟩ : ∃ s, shapedE n gen rows = s := ⟨_, rfl⟩
 have HS := Lib.hid hs
 unfold fval
 clear hf hl
 have call : ∀ W, FAt W a gen rows → Calls Try.prog 114 #[.int .i64 n, fval gen a len cap] W fun e w' => e = .returned (.int .i64 s) ∧ Below W.heap.size W w' := fun W hW => by
  have := shaped_is n a cap gen rows W hW s HS.out
  rwa [HL.out] at this
 unfold fval at call
 have HCALL := Lib.hid call
 clear call
 by_cases h0 : s = 0
 ·subst h0
  have HRR : Hid ((if clearB gen rows = true then (0 : Int) else 30) = r) := by show _ = _; rw [← hr, check_clear hs]
  clear hr hs
  go_enter Try.func108, Try.ntmps108
  go_wp2_with fail
  refine (HCALL.out _ HF1.out).mono ?_
  rintro e w1 ⟨rfl, hb1⟩
  have hB1 := hB0.trans (hb1.mono hB0.size)
  have T1 := Lib.hid (heap_old T0.out hb1)
  obtain ⟨c0, c1, _⟩ := two_cells T1.out
  have HF2 := Lib.hid (HF1.out.below hb1)
  go_wp2_with fail
  go_loopw [17] (fun i wr => ∃ k : Nat, k ≤ len ∧ i = .int .i64 k ∧ Hid (∀ (i : Nat) x, i < k → rows[i]? = some x → (x &&& gen == 0) = true) ∧ w1 = wr) (fun i _ => len - (intOf i).toNat)
  case atStart => exact ⟨0, Nat.zero_le _, rfl, fun i x h => by omega, rfl⟩
  case round =>
   obtain ⟨k, hk, rfl, HK, rfl⟩ := hrel
   by_cases hlt : k < len
   ·obtain ⟨ba, offa, x, rfl, hx, hx64, hba, a0⟩ := HF2.out.at_ (by rw [HL.out]; exact hlt)
    have g0 : (0 : Int) ≤ (k : Int) := by omega
    have g1 : (k : Int) < (len : Int) := by omega
    have hax := u64_and_nat x gen hx64 hgen
    obtain ⟨q, hq⟩ : ∃ q, x &&& gen = q := ⟨_, rfl⟩
    rw [hq] at hax
    by_cases hq0 : q = 0
    ·have HN : Hid (∀ (i : Nat) y, i < k + 1 → rows[i]? = some y → (y &&& gen == 0) = true) := fun i y hi hy => by
      by_cases e : i = k
      ·subst e; rw [hx] at hy; cases hy; rw [hq, hq0]; rfl
      ·exact HK.out i y (by omega) hy
     subst hq0
     clear hx hq
     go_wp2
     go_roundw
     case rel => exact ⟨k + 1, by omega, by go_num, HN, by trivial⟩
     case measure => simp [intOf]; omega
    ·have HR : Hid (30 = r) := by
      show _ = _
      have : clearB gen rows = false := all_bad (p := fun r => r &&& gen == 0) hx (by simp only [hq]; simpa using hq0)
      rw [← HRR.out, this]; rfl
     have hne : ((q : Int) != 0) = true := by simp; omega
     clear hx hq hq0
     go_wp2
     go_ret
     exact ⟨rint HR.out, hB1⟩
   ·have HR : Hid (0 = r) := by
     show _ = _
     have : clearB gen rows = true := all_drop (p := fun r => r &&& gen == 0) HK.out (by rw [HL.out]; omega)
     rw [← HRR.out, this]; rfl
    go_wp2
    go_ret
    exact ⟨rint HR.out, hB1⟩
 ·have HR : Hid (s = r) := by show _ = _; rw [← hr, check_shaped hs h0]
  have hne : (s != 0) = true := by simpa using h0
  clear hr hs h0
  go_enter Try.func108, Try.ntmps108
  go_wp2_with fail
  refine (HCALL.out _ HF1.out).mono ?_
  rintro e w1 ⟨rfl, hb1⟩
  go_wp2
  go_ret
  exact ⟨rint HR.out, hB0.trans (hb1.mono hB0.size)⟩
theorem andn_same {r gen : Nat} (hr : r < 18446744073709551616) (hg : gen < 18446744073709551616) : (andn r gen = r) ↔ (r &&& gen = 0) := by
 constructor
 ·intro h
  apply Nat.eq_of_testBit_eq
  intro j
  have := congrArg (fun z => Nat.testBit z j) h
  simp only [andn_bit hr hg] at this
  rw [Nat.testBit_and, Nat.zero_testBit]
  cases h1 : r.testBit j
  ·rfl
  ·rw [h1] at this; simp at this; rw [this]; rfl
 ·intro h
  apply Nat.eq_of_testBit_eq
  intro j
  rw [andn_bit hr hg]
  have := congrArg (fun z => Nat.testBit z j) h
  simp only [Nat.testBit_and, Nat.zero_testBit] at this
  cases h1 : r.testBit j
  ·rfl
  ·rw [h1] at this; simp at this; rw [this]; rfl
theorem canonL_same {gen : Nat} {rows : List Nat} (hg : gen < 18446744073709551616) (ha : ∀ r ∈ rows, r < 18446744073709551616) : (canonL gen rows == rows) = clearB gen rows := by
 rw [Bool.eq_iff_iff, beq_iff_eq]
 unfold clearB canonL
 rw [List.all_eq_true]
 constructor
 ·intro h x hx
  obtain ⟨i, hi⟩ := List.getElem?_of_mem hx
  have : (rows.map fun r => andn r gen)[i]? = some x := by rw [h]; exact hi
  rw [List.getElem?_map, hi] at this
  have h2 : andn x gen = x := Option.some.inj this
  rw [(andn_same (ha x hx) hg).1 h2]; rfl
 ·intro h
  have : ∀ r ∈ rows, andn r gen = r := fun r hr => (andn_same (ha r hr) hg).2 (by have := h r hr; simpa using this)
  conv => rhs; rw [← List.map_id rows]
  exact List.map_congr_left this
set_option maxHeartbeats 2000000 in
theorem checkR_is (n : Int) (a : Option Addr) (cap gen : Nat) (rows : List Nat) (w : World) (hf : FAt w a gen rows) (r : Int) (hr : checkE n gen rows = r) (len : Nat) (hl : rows.length = len) :
  Calls Try.prog 90 #[.int .i64 n, fval gen a len cap] w fun e w' => e = .returned (.int .i64 r) ∧ Below w.heap.size w w' := by
 have HF := Lib.hid hf
 have hgen := hf.gen
 have hlen := hf.len
 have hB0 : Below w.heap.size w (w.alloc (.cells #[.int .u64 (gen : Int), .slice a len cap] 41)) := (Below.refl _ _).alloc (Nat.le_refl _) _
 have HF1 : Hid (FAt (w.alloc (.cells #[.int .u64 (gen : Int), .slice a len cap] 41)) a gen rows) := hf.below hB0
 have T0 := Lib.hid (heapV_new w (.cells #[.int .u64 (gen : Int), .slice a len cap] 41))
 have HL := Lib.hid hl
 unfold fval
 cases hd : dimB n
 ·have HR : Hid (31 = r) := by show _ = _; rw [← hr, checkE, hd]; rfl
  have HD := Lib.hid hd
  clear hr hd hf hl
  go_enter Try.func90, Try.ntmps90
  go_wp2_with fail
  refine (dim_is n false HD.out _).mono ?_
  rintro e w1 ⟨rfl, rfl⟩
  go_wp2
  go_ret
  exact ⟨rint HR.out, hB0⟩
 ·have HD := Lib.hid hd
  obtain ⟨m, rfl, hm⟩ := dim_nat hd
  have HRR : Hid ((if (shapeB m gen rows && clearB gen rows) = true then (0 : Int) else 30) = r) := by show _ = _; rw [← hr, checkE, hd, if_pos rfl, Int.toNat_natCast]
  have hcs := canonL_same hf.gen hf.all
  have HCS := Lib.hid hcs
  have hcl := canonL_length gen rows
  obtain ⟨ys, hys⟩ : ∃ ys, canonL gen rows = ys := ⟨_, rfl⟩
  rw [hys] at HCS hcl
  have HYS := Lib.hid hys
  have HYL : Hid (ys.length = len) := hcl.trans hl
  have shp : ∀ (W : World) (b : Bool), shapeB m gen rows = b → FAt W a gen rows → Calls Try.prog 104 #[.int .i64 m, .agg #[.int .u64 (gen : Int), .slice a len cap]] W fun e w' => e = .returned (.bool b) ∧ Below W.heap.size W w' := fun W b hb hW => by
   have := shape_is m hm a cap gen rows W hW b hb
   rwa [hl] at this
  have can : ∀ (W : World), FAt W a gen rows → Calls Try.prog 94 #[.agg #[.int .u64 (gen : Int), .slice a len cap]] W (FOne gen ys W) := fun W hW => by
   have := canonR_is a cap gen rows W hW ys hys
   rwa [hl] at this
  have HSHP := Lib.hid shp; have HCAN := Lib.hid can
  rw [hl] at hlen
  have hylen : Hid (ys.length ≤ 100) := by show _ ≤ _; rw [HYL.out]; exact hlen
  have hrlen : Hid (rows.length ≤ 100) := by show _ ≤ _; rw [HL.out]; exact hlen
  clear hr hd hf hl hcs hcl hys shp can
  cases hsh : shapeB m gen rows
  ·have HR : Hid (30 = r) := by show _ = _; rw [← HRR.out, hsh]; rfl
   have HSH := Lib.hid hsh
   obtain ⟨c0, c1, _⟩ := two_cells T0.out
   clear hsh
   go_enter Try.func90, Try.ntmps90
   go_wp2_with fail
   refine (dim_is m true HD.out _).mono ?_
   rintro e w1 ⟨rfl, rfl⟩
   go_wp2_with fail
   go_region_with (go_at_call 104; refine (HSHP.out _ false HSH.out (HF1.out.below (by first | exact Below.refl _ _ | exact (Below.refl _ _).drew))).mono ?_; rintro e w3 ⟨rfl, hb3⟩; have hB3 : Below w.heap.size w w3 := hB0.trans (Below.mono (by first | exact hb3 | exact Below.trans ((Below.refl _ _).drew) hb3) hB0.size))
   all_goals
    go_wp2
    go_ret
    exact ⟨rint HR.out, hB3⟩
  ·have HSH := Lib.hid hsh
   obtain ⟨b, hb⟩ : ∃ b, clearB gen rows = b := ⟨_, rfl⟩
   have HSM : Hid (sameB gen ys gen rows = b) := by show _ = _; rw [sameB, HCS.out, hb]; simp
   have HR : Hid ((if b = true then (0 : Int) else 30) = r) := by show _ = _; rw [← HRR.out, hsh, hb]; rfl
   obtain ⟨c0, c1, _⟩ := two_cells T0.out
   clear hsh hb
   go_enter Try.func90, Try.ntmps90
   go_wp2_with fail
   refine (dim_is m true HD.out _).mono ?_
   rintro e w1 ⟨rfl, rfl⟩
   go_wp2_with fail
   go_region_with (first | (go_at_call 104; refine (HSHP.out _ true HSH.out (HF1.out.below (by first | exact Below.refl _ _ | exact (Below.refl _ _).drew))).mono ?_; rintro e w3 ⟨rfl, hb3⟩; have hB3 : Below w.heap.size w w3 := hB0.trans (Below.mono (by first | exact hb3 | exact Below.trans ((Below.refl _ _).drew) hb3) hB0.size); have HF3 := Lib.hid (HF.out.below hB3); obtain ⟨d0, d1, _⟩ := two_cells (heap_old T0.out (show Below _ _ w3 from (by first | exact hb3 | exact Below.trans ((Below.refl _ _).drew) hb3)))) | (go_at_call 94; refine (HCAN.out _ HF3.out).mono ?_; rintro e w4 ⟨a4, cap4, rfl, hr4, hf4, hb4⟩; have hB4 := hB3.trans (hb4.mono hB3.size); have HF4 := Lib.hid (HF3.out.below hb4); have HR4 := Lib.hid hr4; have k0 := (hb4.cell (p := ⟨w.heap.size, 0, none⟩) (cell_lt d0)).trans d0; have k1 := (hb4.cell (p := ⟨w.heap.size, 1, none⟩) (cell_lt d1)).trans d1) | (go_at_call 38; refine (sameR_is a4 a cap4 cap gen gen ys rows _ hylen.out hrlen.out HR4.out HF4.out.row b HSM.out _ len rfl HL.out).mono ?_; rintro e w5 ⟨rfl, hb5⟩; have hB5 := hB4.trans (hb5.mono hB4.size)))
   all_goals
    cases b
    ·go_wp2
     go_ret
     exact ⟨rint HR.out, hB5⟩
    ·go_wp2
     go_ret
     exact ⟨rint HR.out, hB5⟩
end Go.Proofs.Ytpkcaabbcoiiiaa
namespace Go.Proofs.Ytpkcaabbcoiiiaa
open Go.RowKit
theorem ce_rint {k : IntKind} {a b : Int} (h : a = b) : Ending.returned (.int k a) = .returned (.int k b) := by rw [h]
theorem ce_rbool {a b : Bool} (h : a = b) : Ending.returned (.bool a) = .returned (.bool b) := by rw [h]
theorem ce_cast_div_pow (f d : Nat) : ((f : Int) / 2 ^ d) = ((f / 2 ^ d : Nat) : Int) := by
 rw [Int.natCast_ediv]; congr 1
def inside (d f : Nat) : Bool := f / 2 ^ d == 0
def kindOk (f : Nat) (k v : Int) : Bool := if k = 0 then v == 0 else if k = 1 then true else if k = 2 then v == 0 && f == 0 else false
def cellOk (d f : Nat) (k v : Int) : Bool := inside d f && kindOk f k v
theorem cast_ne (f d : Nat) : ((f : Int) / 2 ^ d != 0) = !inside d f := by
 rw [ce_cast_div_pow]; unfold inside
 generalize f / 2 ^ d = q
 rw [Bool.eq_iff_iff, bne_iff_ne, Bool.not_eq_true', beq_eq_false_iff_ne]; omega
theorem inside64 {d f : Nat} (h : 64 ≤ d) (hf : f < 18446744073709551616) : inside d f = true := by
 unfold inside
 have e : (2 : Nat) ^ 64 ≤ 2 ^ d := Nat.pow_le_pow_right (by decide) h
 have : f < 2 ^ d := Nat.lt_of_lt_of_le hf e
 simp [Nat.div_eq_of_lt this]
theorem mayBe_any (d f : Nat) (k v : Int) (w : World) (hf : f < 18446744073709551616) (hd : d ≤ 64) : Calls Try.prog 116 #[.int .i64 d, .agg #[.int .u64 f, .int .i64 k, .int .i64 v]] w fun e w' => e = .returned (.bool (cellOk d f k v)) ∧ Below w.heap.size w w' := by
 cases hi : inside d f
 ·have hlt : d < 64 := by
   rcases Nat.lt_or_ge d 64 with h | h
   ·exact h
   ·rw [inside64 h hf] at hi; cases hi
  have h0 : ((f : Int) / 2 ^ d != 0) = true := by rw [cast_ne, hi]; rfl
  have H := Lib.hid (show cellOk d f k v = false by simp [cellOk, hi])
  clear hi
  go_enter Try.func116, Try.ntmps116
  go_wp2
  go_ret
  exact ⟨ce_rbool H.out.symm, (Below.refl _ _).alloc (Nat.le_refl _) _⟩
 ·have h0 : ((f : Int) / 2 ^ d != 0) = false := by rw [cast_ne, hi]; rfl
  have hc : cellOk d f k v = kindOk f k v := by simp [cellOk, hi]
  rw [hc]
  clear hi hc
  by_cases hlt : d < 64
  all_goals
   by_cases k0 : k = 0
   ·subst k0
    have H := Lib.hid (show kindOk f 0 v = (v == 0) by simp [kindOk])
    go_enter Try.func116, Try.ntmps116
    go_wp2
    go_ret
    exact ⟨ce_rbool H.out.symm, (Below.refl _ _).alloc (Nat.le_refl _) _⟩
   by_cases k1 : k = 1
   ·subst k1
    have H := Lib.hid (show kindOk f 1 v = true by simp [kindOk])
    go_enter Try.func116, Try.ntmps116
    go_wp2
    go_ret
    exact ⟨ce_rbool H.out.symm, (Below.refl _ _).alloc (Nat.le_refl _) _⟩
   by_cases k2 : k = 2
   ·subst k2
    by_cases v0 : v = 0
    ·subst v0
     have H := Lib.hid (show kindOk f 2 0 = ((f : Int) == 0) by simp [kindOk]; rw [Bool.eq_iff_iff]; simp)
     go_enter Try.func116, Try.ntmps116
     go_wp2
     go_ret
     exact ⟨ce_rbool H.out.symm, (Below.refl _ _).alloc (Nat.le_refl _) _⟩
    ·have H := Lib.hid (show kindOk f 2 v = false by simp [kindOk, v0])
     have hv : (v == 0) = false := by simp [v0]
     clear v0
     go_enter Try.func116, Try.ntmps116
     go_wp2
     go_ret
     exact ⟨ce_rbool H.out.symm, (Below.refl _ _).alloc (Nat.le_refl _) _⟩
   ·have H := Lib.hid (show kindOk f k v = false by simp [kindOk, k0, k1, k2])
    have e0 : (k == 0) = false := by simp [k0]
    have e1 : (k == 1) = false := by simp [k1]
    have e2 : (k == 2) = false := by simp [k2]
    clear k0 k1 k2
    go_enter Try.func116, Try.ntmps116
    go_wp2
    go_ret
    exact ⟨ce_rbool H.out.symm, (Below.refl _ _).alloc (Nat.le_refl _) _⟩
end Go.Proofs.Ytpkcaabbcoiiiaa
namespace Go.Proofs.Ytpkcaabbcoiiiaa
open Go.RowKit
structure Cl where
 f : Nat
 k : Int
 v : Int
abbrev Cl.val (c : Cl) : Value := .agg #[.int .u64 (c.f : Int), .int .i64 c.k, .int .i64 c.v]
def CRow (w : World) (a : Option Addr) (cs : List Cl) : Prop :=
 cs = [] ∨ ∃ b off, a = some ⟨b, off, none⟩ ∧ ∀ i c, cs[i]? = some c → w.cell? ⟨b, off + i * 3, none⟩ = some (.int .u64 (c.f : Int)) ∧ w.cell? ⟨b, off + i * 3 + 1, none⟩ = some (.int .i64 c.k) ∧ w.cell? ⟨b, off + i * 3 + 2, none⟩ = some (.int .i64 c.v)
def Bits (cs : List Cl) : Prop := ∀ c, c ∈ cs → c.f < 18446744073709551616
theorem ce_cell_lt {w : World} {a : Addr} {v : Value} (h : w.cell? a = some v) : a.block < w.heap.size := by
 rcases Nat.lt_or_ge a.block w.heap.size with h' | h'
 ·exact h'
 ·simp [World.cell?, Array.getElem?_eq_none h'] at h
theorem CRow.below {w w' : World} {a : Option Addr} {cs : List Cl} (h : CRow w a cs) (hb : Below w.heap.size w w') : CRow w' a cs := by
 rcases h with h | ⟨b, off, rfl, hc⟩
 ·exact .inl h
 ·refine .inr ⟨b, off, rfl, fun i c hi => ?_⟩
  obtain ⟨h1, h2, h3⟩ := hc i c hi
  exact ⟨(hb.cell (ce_cell_lt h1)).trans h1, (hb.cell (ce_cell_lt h2)).trans h2, (hb.cell (ce_cell_lt h3)).trans h3⟩
theorem CRow.at_ {w : World} {a : Option Addr} {cs : List Cl} (h : CRow w a cs) {k : Nat} (hk : k < cs.length) :
  ∃ b off c, a = some ⟨b, off, none⟩ ∧ cs[k]? = some c ∧ b < w.heap.size ∧ w.cell? ⟨b, off + k * 3, none⟩ = some (.int .u64 (c.f : Int)) ∧ w.cell? ⟨b, off + k * 3 + 1, none⟩ = some (.int .i64 c.k) ∧ w.cell? ⟨b, off + k * 3 + 2, none⟩ = some (.int .i64 c.v) := by
 rcases h with h | ⟨b, off, rfl, hc⟩
 ·subst h; simp at hk
 ·have e : cs[k]? = some cs[k] := List.getElem?_eq_getElem hk
  obtain ⟨h1, h2, h3⟩ := hc k _ e
  exact ⟨b, off, cs[k], rfl, e, ce_cell_lt h1, h1, h2, h3⟩
def okAt (d : Nat) (c : Cl) : Bool := cellOk d c.f c.k c.v
def chkC (d : Int) (cs : List Cl) : Int := if d < 0 ∨ 64 < d then 41 else if (cs.length : Int) ≠ d then 40 else if cs.all (okAt d.toNat) then 0 else 40
def dimC (d : Int) : Int := if d < 0 ∨ 64 < d then 41 else 0
theorem checkDim_any (d : Int) (w : World) : Calls Try.prog 115 #[.int .i64 d] w fun e w' => e = .returned (.int .i64 (dimC d)) ∧ w = w' := by
 by_cases h0 : d < 0
 ·have H := Lib.hid (show dimC d = 41 by simp [dimC, h0])
  go_enter Try.func115, Try.ntmps115
  go_wp2
  go_ret
  exact ⟨ce_rint H.out.symm, rfl⟩
 by_cases h1 : 64 < d
 ·have H := Lib.hid (show dimC d = 41 by simp [dimC, h1])
  go_enter Try.func115, Try.ntmps115
  go_wp2
  go_ret
  exact ⟨ce_rint H.out.symm, rfl⟩
 ·have H := Lib.hid (show dimC d = 0 by simp [dimC, h0, h1])
  go_enter Try.func115, Try.ntmps115
  go_wp2
  go_ret
  exact ⟨ce_rint H.out.symm, rfl⟩
theorem checkDim_is (d : Int) (w : World) (c : Int) (hc : dimC d = c) : Calls Try.prog 115 #[.int .i64 d] w fun e w' => e = .returned (.int .i64 c) ∧ w = w' := by subst hc; exact checkDim_any d w
theorem ce_take_all_succ {α : Type} {p : α → Bool} {zs : List α} {k : Nat} {z : α} (hz : zs[k]? = some z) (h : (zs.take k).all p = true) (hp : p z = true) : (zs.take (k + 1)).all p = true := by
 obtain ⟨hk, e⟩ := List.getElem?_eq_some_iff.1 hz
 rw [List.take_succ_eq_append_getElem hk, List.all_append, h]
 simp [e, hp]
theorem ce_all_false {α : Type} {p : α → Bool} {zs : List α} {k : Nat} {z : α} (hz : zs[k]? = some z) (hp : p z = false) : zs.all p = false := by
 obtain ⟨hk, e⟩ := List.getElem?_eq_some_iff.1 hz
 rw [List.all_eq_false]
 exact ⟨z, by rw [← e]; exact List.getElem_mem hk, by rw [hp]; simp⟩
theorem chkC_bad {n : Nat} {cs : List Cl} {k : Nat} {c : Cl} (hn : n ≤ 64) (hl : cs.length = n) (hz : cs[k]? = some c) (hp : okAt n c = false) : chkC n cs = 40 := by
 unfold chkC
 rw [if_neg (by omega), if_neg (by omega), Int.toNat_natCast, ce_all_false hz hp]; rfl
theorem chkC_good {n : Nat} {cs : List Cl} {k : Nat} (hn : n ≤ 64) (hl : cs.length = n) (hk : cs.length ≤ k) (h : (cs.take k).all (okAt n) = true) : chkC n cs = 0 := by
 rw [List.take_of_length_le hk] at h
 unfold chkC
 rw [if_neg (by omega), if_neg (by omega), Int.toNat_natCast, h]; rfl
set_option maxHeartbeats 1000000 in
theorem ce_check_any (d : Int) (a : Option Addr) (cap : Nat) (cs : List Cl) (w : World) (hm : cs.length ≤ maxLen) (hrow : CRow w a cs) (hbits : Bits cs) :
  Calls Try.prog 109 #[.int .i64 d, .slice a cs.length cap] w fun e w' => e = .returned (.int .i64 (chkC d cs)) ∧ Below w.heap.size w w' := by
 unfold maxLen at hm
 have HROW := Lib.hid hrow
 have HBITS := Lib.hid hbits
 clear hrow hbits
 by_cases hd : d < 0 ∨ 64 < d
 ·have H := Lib.hid (show chkC d cs = 41 by simp [chkC, hd])
  have H2 := Lib.hid (show dimC d = 41 by simp [dimC, hd])
  clear hd
  go_enter Try.func109, Try.ntmps109
  go_wp2_with (go_at_call 115; refine (checkDim_is _ _ 41 H2.out).mono ?_; rintro e w' ⟨rfl, rfl⟩)
  go_ret
  exact ⟨ce_rint H.out.symm, Below.refl _ _⟩
 obtain ⟨n, rfl⟩ : ∃ n : Nat, d = n := ⟨d.toNat, by omega⟩
 have hn : n ≤ 64 := by omega
 have H2 := Lib.hid (show dimC n = 0 by simp [dimC, hd])
 clear hd
 by_cases hl : cs.length = n
 ·have HL := Lib.hid hl
  have hne : ((cs.length : Int) != (n : Int)) = false := by simp [hl]
  have hn' : cs.length ≤ 64 := by omega
  clear hl
  go_enter Try.func109, Try.ntmps109
  go_wp2_with (go_at_call 115; refine (checkDim_is _ _ 0 H2.out).mono ?_; rintro e w' ⟨rfl, rfl⟩)
  go_loopw [19] (fun i wr => ∃ k : Nat, k ≤ cs.length ∧ i = .int .i64 k ∧ Hid ((cs.take k).all (okAt n) = true) ∧ Below w.heap.size w wr) (fun i _ => cs.length - (intOf i).toNat)
  case atStart => exact ⟨0, Nat.zero_le _, rfl, by simp [Hid], Below.refl _ _⟩
  case round =>
   obtain ⟨k, hk, rfl, HA, hb⟩ := hrel
   by_cases hlt : k < cs.length
   ·obtain ⟨b, off, c, rfl, hz, hblt, c0, c1, c2⟩ := (HROW.out.below hb).at_ hlt
    have hf : c.f < 18446744073709551616 := HBITS.out c (List.mem_of_getElem? hz)
    have HZ := Lib.hid hz
    clear hz
    cases hok : okAt n c
    ·have H := Lib.hid (chkC_bad hn HL.out HZ.out hok)
     have HOK : Hid (cellOk n c.f c.k c.v = false) := hok
     clear hok
     go_wp2_with (go_at_call 116; refine (mayBe_any n c.f c.k c.v _ hf hn).mono ?_; rintro e w3 ⟨rfl, hb3⟩; rw [HOK.out])
     go_ret
     exact ⟨ce_rint H.out.symm, (hb.alloc hb.size _).trans (hb3.mono (by have := hb.size; simp; omega))⟩
    ·have H := Lib.hid (ce_take_all_succ HZ.out HA.out hok)
     have HOK : Hid (cellOk n c.f c.k c.v = true) := hok
     clear hok
     go_wp2_with (go_at_call 116; refine (mayBe_any n c.f c.k c.v _ hf hn).mono ?_; rintro e w3 ⟨rfl, hb3⟩; rw [HOK.out])
     go_roundw
     case rel => exact ⟨k + 1, by omega, by go_num, H, (hb.alloc hb.size _).trans (hb3.mono (by have := hb.size; simp; omega))⟩
     case measure => simp [intOf]; omega
   ·have H := Lib.hid (chkC_good hn HL.out (by omega) HA.out)
    go_wp2
    go_ret
    exact ⟨ce_rint H.out.symm, hb⟩
 ·have H := Lib.hid (show chkC n cs = 40 by simp [chkC]; omega)
  have hne : ((cs.length : Int) != (n : Int)) = true := by simp; omega
  clear hl
  go_enter Try.func109, Try.ntmps109
  go_wp2_with (go_at_call 115; refine (checkDim_is _ _ 0 H2.out).mono ?_; rintro e w' ⟨rfl, rfl⟩)
  go_ret
  exact ⟨ce_rint H.out.symm, Below.refl _ _⟩
end Go.Proofs.Ytpkcaabbcoiiiaa
namespace Go.Proofs.Ytpkcaabbcoiiiaa
open Go.RowKit
structure SF where
 tag : Int
 dim : Int
 a : Option Addr
 len : Nat
 cap : Nat
abbrev SF.val (f : SF) : Value := .agg #[.int .i64 f.tag, .int .i64 f.dim, .slice f.a f.len f.cap]
inductive SV where
 | mk (f : SF) (ps : List SV)
def SV.f : SV → SF | .mk f _ => f
def SV.ps : SV → List SV | .mk _ ps => ps
def S3 (w : World) (b o : Nat) (f : SF) : Prop := w.cell? ⟨b, o, none⟩ = some (.int .i64 f.tag) ∧ w.cell? ⟨b, o + 1, none⟩ = some (.int .i64 f.dim) ∧ w.cell? ⟨b, o + 2, none⟩ = some (.slice f.a f.len f.cap)
def SRow (w : World) (a : Option Addr) (ps : List SV) : Prop :=
 ps = [] ∨ ∃ b off, a = some ⟨b, off, none⟩ ∧ ∀ (i : Nat) p, ps[i]? = some p → S3 w b (off + i * 3) p.f
def SIn (w : World) : Nat → SV → Prop
 | 0, _ => False
 | d + 1, .mk f ps => ps.length = f.len ∧ SRow w f.a ps ∧ ∀ p ∈ ps, SIn w d p
theorem cell_old {w w' : World} {p : Addr} {v : Value} (h : w.cell? p = some v) (hb : Below w.heap.size w w') : w'.cell? p = some v := (hb.cell (cell_lt h)).trans h
theorem S3.below {w w' : World} {b o : Nat} {f : SF} (h : S3 w b o f) (hb : Below w.heap.size w w') : S3 w' b o f := ⟨cell_old h.1 hb, cell_old h.2.1 hb, cell_old h.2.2 hb⟩
theorem SRow.below {w w' : World} {a : Option Addr} {ps : List SV} (h : SRow w a ps) (hb : Below w.heap.size w w') : SRow w' a ps := by
 rcases h with h | ⟨b, off, rfl, hc⟩
 ·exact .inl h
 ·exact .inr ⟨b, off, rfl, fun i p hi => (hc i p hi).below hb⟩
theorem SIn.below {w w' : World} (hb : Below w.heap.size w w') : ∀ {d : Nat} {s : SV}, SIn w d s → SIn w' d s
 | 0, _, h => h.elim
 | d + 1, .mk f ps, ⟨h1, h2, h3⟩ => ⟨h1, h2.below hb, fun p hp => SIn.below hb (h3 p hp)⟩
structure WF where
 z : Bool
 c : Int
 g : Nat
 ra : Option Addr
 rl : Nat
 rc : Nat
 rows : List Nat
 ca : Option Addr
 cl : Nat
 cc : Nat
 cells : List Cl
 pa : Option Addr
 pl : Nat
 pc : Nat
abbrev WF.val (f : WF) : Value := .agg #[.bool f.z, .int .i64 f.c, .int .u64 (f.g : Int), .slice f.ra f.rl f.rc, .slice f.ca f.cl f.cc, .slice f.pa f.pl f.pc]
abbrev WF.six (f : WF) : List Value := [.bool f.z, .int .i64 f.c, .int .u64 (f.g : Int), .slice f.ra f.rl f.rc, .slice f.ca f.cl f.cc, .slice f.pa f.pl f.pc]
structure WF.At (w : World) (f : WF) : Prop where
 rows : VRow w f.ra (u64s f.rows)
 rl : f.rows.length = f.rl
 g64 : f.g < 18446744073709551616
 r64 : ∀ r ∈ f.rows, r < 18446744073709551616
 cells : CRow w f.ca f.cells
 cl : f.cells.length = f.cl
 bits : Bits f.cells
 cmax : f.cl ≤ maxLen
theorem WF.At.below {w w' : World} {f : WF} (h : f.At w) (hb : Below w.heap.size w w') : f.At w' := ⟨h.rows.below hb, h.rl, h.g64, h.r64, h.cells.below hb, h.cl, h.bits, h.cmax⟩
inductive WV where
 | mk (f : WF) (ps : List WV)
def WV.f : WV → WF | .mk f _ => f
def WV.ps : WV → List WV | .mk _ ps => ps
def W6 (w : World) (b o : Nat) (f : WF) : Prop := w.cell? ⟨b, o, none⟩ = some (.bool f.z) ∧ w.cell? ⟨b, o + 1, none⟩ = some (.int .i64 f.c) ∧ w.cell? ⟨b, o + 2, none⟩ = some (.int .u64 (f.g : Int)) ∧ w.cell? ⟨b, o + 3, none⟩ = some (.slice f.ra f.rl f.rc) ∧ w.cell? ⟨b, o + 4, none⟩ = some (.slice f.ca f.cl f.cc) ∧ w.cell? ⟨b, o + 5, none⟩ = some (.slice f.pa f.pl f.pc)
def PRow (w : World) (a : Option Addr) (ps : List WV) : Prop :=
 ps = [] ∨ ∃ b off, a = some ⟨b, off, none⟩ ∧ ∀ (i : Nat) p, ps[i]? = some p → W6 w b (off + i * 6) p.f
def WIn (w : World) : Nat → WV → Prop
 | 0, _ => False
 | d + 1, .mk f ps => f.At w ∧ ps.length = f.pl ∧ PRow w f.pa ps ∧ ∀ p ∈ ps, WIn w d p
theorem W6.below {w w' : World} {b o : Nat} {f : WF} (h : W6 w b o f) (hb : Below w.heap.size w w') : W6 w' b o f := ⟨cell_old h.1 hb, cell_old h.2.1 hb, cell_old h.2.2.1 hb, cell_old h.2.2.2.1 hb, cell_old h.2.2.2.2.1 hb, cell_old h.2.2.2.2.2 hb⟩
theorem PRow.below {w w' : World} {a : Option Addr} {ps : List WV} (h : PRow w a ps) (hb : Below w.heap.size w w') : PRow w' a ps := by
 rcases h with h | ⟨b, off, rfl, hc⟩
 ·exact .inl h
 ·exact .inr ⟨b, off, rfl, fun i p hi => (hc i p hi).below hb⟩
theorem WIn.below {w w' : World} (hb : Below w.heap.size w w') : ∀ {d : Nat} {s : WV}, WIn w d s → WIn w' d s
 | 0, _, h => h.elim
 | d + 1, .mk f ps, ⟨h0, h1, h2, h3⟩ => ⟨h0.below hb, h1, h2.below hb, fun p hp => WIn.below hb (h3 p hp)⟩
def plainB (t n : Int) (l : Nat) : Bool := decide (l = 0) && (if t = 1 then decide (n = 0) else if t = 2 then decide (0 ≤ n) && decide (n ≤ 1048576) else if t = 3 ∨ t = 4 then decide (0 ≤ n) && decide (n ≤ 64) else false)
theorem sbox (w : World) (v : Array Value) (T : TypeId) : Below w.heap.size w (w.alloc (.cells v T)) := (Below.refl _ _).alloc (Nat.le_refl _) _
set_option maxHeartbeats 2000000 in
theorem plain_is (t n : Int) (a : Option Addr) (l c : Nat) (r : Bool) (hr : plainB t n l = r) (w : World) :
  Calls Try.prog 81 #[.agg #[.int .i64 t, .int .i64 n, .slice a l c]] w fun e w' => e = .returned (.bool r) ∧ Below w.heap.size w w' := by
 have hB := Lib.hid (sbox w #[.int .i64 t, .int .i64 n, .slice a l c] 25)
 by_cases ht : t = 1 ∨ t = 2 ∨ t = 3 ∨ t = 4
 ·by_cases hl : l = 0
  ·subst hl
   by_cases h0 : 0 ≤ n
   ·rcases ht with rfl | rfl | rfl | rfl
    ·by_cases hm : n ≤ 0
     ·obtain rfl : n = 0 := by omega
      have HR : Hid (true = r) := by show _ = _; rw [← hr]; simp [plainB]
      clear hr
      go_enter Try.func81, Try.ntmps81
      go_wp2
      go_ret
      exact ⟨rbool HR.out, hB.out⟩
     ·have HR : Hid (false = r) := by show _ = _; rw [← hr]; simp [plainB]; omega
      clear hr
      go_enter Try.func81, Try.ntmps81
      go_wp2
      go_ret
      exact ⟨rbool HR.out, hB.out⟩
    ·by_cases hm : n ≤ 1048576
     ·have HR : Hid (true = r) := by show _ = _; rw [← hr]; simp [plainB, h0, hm]
      clear hr
      go_enter Try.func81, Try.ntmps81
      go_wp2
      go_ret
      exact ⟨rbool HR.out, hB.out⟩
     ·have HR : Hid (false = r) := by show _ = _; rw [← hr]; simp [plainB, hm]
      clear hr
      go_enter Try.func81, Try.ntmps81
      go_wp2
      go_ret
      exact ⟨rbool HR.out, hB.out⟩
    all_goals
     by_cases hm : n ≤ 64
     ·have HR : Hid (true = r) := by show _ = _; rw [← hr]; simp [plainB, h0, hm]
      clear hr
      go_enter Try.func81, Try.ntmps81
      go_wp2
      go_ret
      exact ⟨rbool HR.out, hB.out⟩
     ·have HR : Hid (false = r) := by show _ = _; rw [← hr]; simp [plainB, hm]
      clear hr
      go_enter Try.func81, Try.ntmps81
      go_wp2
      go_ret
      exact ⟨rbool HR.out, hB.out⟩
   ·have HR : Hid (false = r) := by show _ = _; rw [← hr]; rcases ht with rfl | rfl | rfl | rfl <;> simp [plainB] <;> omega
    clear hr
    rcases ht with rfl | rfl | rfl | rfl
    all_goals
     go_enter Try.func81, Try.ntmps81
     go_wp2
     go_ret
     exact ⟨rbool HR.out, hB.out⟩
  ·have HR : Hid (false = r) := by show _ = _; rw [← hr]; simp [plainB, hl]
   have hl2 : ((l : Int) == 0) = false := by simp; omega
   clear hr
   rcases ht with rfl | rfl | rfl | rfl
   all_goals
    go_enter Try.func81, Try.ntmps81
    go_wp2
    go_ret
    exact ⟨rbool HR.out, hB.out⟩
 ·have HR : Hid (false = r) := by show _ = _; rw [← hr]; simp only [not_or] at ht; simp [plainB, ht]
  have e1 : (t == 1) = false := by simp; omega
  have e2 : (t == 2) = false := by simp; omega
  have e3 : (t == 3) = false := by simp; omega
  have e4 : (t == 4) = false := by simp; omega
  clear hr ht
  go_enter Try.func81, Try.ntmps81
  go_wp2
  go_ret
  exact ⟨rbool HR.out, hB.out⟩
def SV.pl (s : SV) : Bool := plainB s.f.tag s.f.dim s.f.len
def spaceE : SV → Int
 | .mk f ps => if plainB f.tag f.dim f.len = true then 0 else if f.tag = 5 ∧ f.dim = 0 ∧ ps.length = 2 ∧ ps.all SV.pl = true then 0 else 50
end Go.Proofs.Ytpkcaabbcoiiiaa
namespace Go.Proofs.Ytpkcaabbcoiiiaa
open Go.RowKit
theorem bcell {w : World} {B : Nat} {cs : Array Value} {T : TypeId} (h : w.heap[B]? = some (.cells cs T (0, 0))) {j : Nat} {v : Value} (hj : cs[j]? = some v) : w.cell? ⟨B, j, none⟩ = some v := by
 unfold World.cell?; simp only [h]; exact hj
theorem tri_cells {w : World} {B : Nat} {a b c : Value} {T : TypeId} (h : w.heap[B]? = some (.cells #[a, b, c] T (0, 0))) : w.cell? ⟨B, 0, none⟩ = some a ∧ w.cell? ⟨B, 1, none⟩ = some b ∧ w.cell? ⟨B, 2, none⟩ = some c := ⟨bcell h rfl, bcell h rfl, bcell h rfl⟩
theorem six_cells {w : World} {B : Nat} {a b c d e f : Value} {T : TypeId} (h : w.heap[B]? = some (.cells #[a, b, c, d, e, f] T (0, 0))) : w.cell? ⟨B, 0, none⟩ = some a ∧ w.cell? ⟨B, 1, none⟩ = some b ∧ w.cell? ⟨B, 2, none⟩ = some c ∧ w.cell? ⟨B, 3, none⟩ = some d ∧ w.cell? ⟨B, 4, none⟩ = some e ∧ w.cell? ⟨B, 5, none⟩ = some f := ⟨bcell h rfl, bcell h rfl, bcell h rfl, bcell h rfl, bcell h rfl, bcell h rfl⟩
theorem SIn.two {w : World} {d : Nat} {f : SF} {p q : SV} (h : SIn w (d + 1) (.mk f [p, q])) : f.len = 2 ∧ ∃ b off, f.a = some ⟨b, off, none⟩ ∧ b < w.heap.size ∧ S3 w b off p.f ∧ S3 w b (off + 3) q.f ∧ SIn w d p ∧ SIn w d q := by
 obtain ⟨h1, h2, h3⟩ := h
 refine ⟨h1.symm, ?_⟩
 rcases h2 with h2 | ⟨b, off, ha, hc⟩
 ·cases h2
 ·have c0 := hc 0 p rfl
  have c1 := hc 1 q rfl
  simp only [Nat.zero_mul, Nat.add_zero, Nat.one_mul] at c0 c1
  exact ⟨b, off, ha, cell_lt c0.1, c0, c1, h3 p (by simp), h3 q (by simp)⟩
theorem two_of {α : Type} {l : List α} (h : l.length = 2) : ∃ p q, l = [p, q] := by
 match l, h with
 | [p, q], _ => exact ⟨p, q, rfl⟩
set_option maxHeartbeats 2000000 in
theorem spaceA_is (d : Nat) (s : SV) (e0 : Int) (w : World) (hs : SIn w d s) (he : spaceE s = e0) :
  Calls Try.prog 56 #[s.f.val] w fun e w' => e = .returned (.int .i64 e0) ∧ Below w.heap.size w w' := by
 match d, s, hs with
 | d + 1, .mk ⟨t, n, a, l, c⟩ ps, hs =>
 show Calls Try.prog 56 #[.agg #[.int .i64 t, .int .i64 n, .slice a l c]] w _
 have hl : ps.length = l := hs.1
 have hB := Lib.hid (sbox w #[.int .i64 t, .int .i64 n, .slice a l c] 25)
 have BX := Lib.hid (heapV_new w (.cells #[.int .i64 t, .int .i64 n, .slice a l c] 25))
 obtain ⟨r, hr⟩ : ∃ r, plainB t n l = r := ⟨_, rfl⟩
 have HR := Lib.hid hr
 cases r
 ·by_cases ht : t = 5
  ·subst ht
   by_cases hn : n = 0
   ·subst hn
    by_cases hl2 : l = 2
    ·subst hl2
     obtain ⟨p, q, rfl⟩ := two_of hl
     obtain ⟨_, b, off, ha, hb, hp, hq, _, _⟩ := hs.two
     obtain rfl : a = some ⟨b, off, none⟩ := ha
     obtain ⟨⟨pt, pn, pa, pl, pc⟩, pps⟩ := p
     obtain ⟨⟨qt, qn, qa, ql, qc⟩, qps⟩ := q
     have HP := Lib.hid hp; have HQ := Lib.hid hq
     obtain ⟨r1, hr1⟩ : ∃ r, plainB pt pn pl = r := ⟨_, rfl⟩
     obtain ⟨r2, hr2⟩ : ∃ r, plainB qt qn ql = r := ⟨_, rfl⟩
     have HR1 := Lib.hid hr1; have HR2 := Lib.hid hr2
     have HE : Hid ((if r1 = true ∧ r2 = true then (0 : Int) else 50) = e0) := by
      show _ = _
      rw [← he]; simp [spaceE, hr, SV.pl, SV.f, hr1, hr2]
     clear hr hs hl hp hq hr1 hr2 he
     cases r1
     ·have HE2 : Hid ((50 : Int) = e0) := by show _ = _; rw [← HE.out]; simp
      clear HE
      go_enter Try.func56, Try.ntmps56
      go_wp2_with fail
      refine (plain_is 5 0 _ 2 c false HR.out _).mono ?_
      rintro e w1 ⟨rfl, hb1⟩
      obtain ⟨x0, x1, x2⟩ := tri_cells (heap_old BX.out hb1)
      obtain ⟨y0, y1, y2⟩ := (HP.out.below hB.out).below hb1
      dsimp only [SV.f] at y0 y1 y2
      go_wp2_with fail
      refine (plain_is pt pn _ pl pc false HR1.out _).mono ?_
      rintro e w2 ⟨rfl, hb2⟩
      go_wp2
      go_ret
      exact ⟨rint HE2.out, (hB.out.trans (hb1.mono hB.out.size)).trans (hb2.mono (hB.out.trans (hb1.mono hB.out.size)).size)⟩
     ·have HE2 : Hid ((if r2 = true then (0 : Int) else 50) = e0) := by show _ = _; rw [← HE.out]; simp
      clear HE
      go_enter Try.func56, Try.ntmps56
      go_wp2_with fail
      refine (plain_is 5 0 _ 2 c false HR.out _).mono ?_
      rintro e w1 ⟨rfl, hb1⟩
      have hB1 := hB.out.trans (hb1.mono hB.out.size)
      obtain ⟨x0, x1, x2⟩ := tri_cells (heap_old BX.out hb1)
      obtain ⟨y0, y1, y2⟩ := (HP.out.below hB.out).below hb1
      dsimp only [SV.f] at y0 y1 y2
      go_wp2_with fail
      refine (plain_is pt pn _ pl pc true HR1.out _).mono ?_
      rintro e w2 ⟨rfl, hb2⟩
      have hB2 := hB1.trans (hb2.mono hB1.size)
      clear x0 x1 x2 y0 y1 y2
      obtain ⟨x0, x1, x2⟩ := tri_cells (heap_old (heap_old BX.out hb1) hb2)
      obtain ⟨y0, y1, y2⟩ := ((HQ.out.below hB.out).below hb1).below hb2
      dsimp only [SV.f] at y0 y1 y2
      simp only [Nat.add_assoc, Nat.reduceAdd] at y1 y2
      go_wp2_with fail
      refine (plain_is qt qn _ ql qc r2 HR2.out _).mono ?_
      rintro e w3 ⟨rfl, hb3⟩
      have hB3 := hB2.trans (hb3.mono hB2.size)
      cases r2
      all_goals
       go_wp2
       go_ret
       exact ⟨rint HE2.out, hB3⟩
    ·have HE : Hid ((50 : Int) = e0) := by
      show _ = _
      rw [← he]; simp [spaceE, hr, hl, hl2]
     have hl3 : ((l : Int) == 2) = false := by simp; omega
     clear hr hs hl he hl2
     go_enter Try.func56, Try.ntmps56
     go_wp2_with fail
     refine (plain_is 5 0 a l c false HR.out _).mono ?_
     rintro e w1 ⟨rfl, hb1⟩
     obtain ⟨x0, x1, x2⟩ := tri_cells (heap_old BX.out hb1)
     go_wp2
     go_ret
     exact ⟨rint HE.out, hB.out.trans (hb1.mono hB.out.size)⟩
   ·have HE : Hid ((50 : Int) = e0) := by show _ = _; rw [← he]; simp [spaceE, hr, hn]
    have hn3 : (n == 0) = false := by simp [hn]
    clear hr hs hl he hn
    go_enter Try.func56, Try.ntmps56
    go_wp2_with fail
    refine (plain_is 5 n a l c false HR.out _).mono ?_
    rintro e w1 ⟨rfl, hb1⟩
    obtain ⟨x0, x1, x2⟩ := tri_cells (heap_old BX.out hb1)
    go_wp2
    go_ret
    exact ⟨rint HE.out, hB.out.trans (hb1.mono hB.out.size)⟩
  ·have HE : Hid ((50 : Int) = e0) := by show _ = _; rw [← he]; simp [spaceE, hr, ht]
   have hn3 : (t == 5) = false := by simp [ht]
   clear hr hs hl he ht
   go_enter Try.func56, Try.ntmps56
   go_wp2_with fail
   refine (plain_is t n a l c false HR.out _).mono ?_
   rintro e w1 ⟨rfl, hb1⟩
   obtain ⟨x0, x1, x2⟩ := tri_cells (heap_old BX.out hb1)
   go_wp2
   go_ret
   exact ⟨rint HE.out, hB.out.trans (hb1.mono hB.out.size)⟩
 ·have HE : Hid ((0 : Int) = e0) := by show _ = _; rw [← he]; simp [spaceE, hr]
  clear hr hs hl he
  go_enter Try.func56, Try.ntmps56
  go_wp2_with fail
  refine (plain_is t n a l c true HR.out _).mono ?_
  rintro e w1 ⟨rfl, hb1⟩
  go_wp2
  go_ret
  exact ⟨rint HE.out, hB.out.trans (hb1.mono hB.out.size)⟩
theorem spaceE_flat {f : SF} {ps : List SV} (h : f.tag ≠ 5) : spaceE (.mk f ps) = if plainB f.tag f.dim f.len = true then 0 else 50 := by simp [spaceE, h]
set_option maxHeartbeats 2000000 in
theorem spaceR_flat (t n : Int) (a : Option Addr) (l c : Nat) (ht : t ≠ 5) (r : Bool) (hr : plainB t n l = r) (w : World) :
  Calls Try.prog 34 #[.agg #[.int .i64 t, .int .i64 n, .slice a l c]] w fun e w' => e = .returned (.int .i64 (if r = true then 0 else 50)) ∧ Below w.heap.size w w' := by
 have hB := Lib.hid (sbox w #[.int .i64 t, .int .i64 n, .slice a l c] 25)
 have e5 : (t == 5) = false := by simp [ht]
 by_cases ht2 : t = 1 ∨ t = 2 ∨ t = 3 ∨ t = 4
 ·by_cases hl : l = 0
  ·subst hl
   by_cases h0 : 0 ≤ n
   ·rcases ht2 with rfl | rfl | rfl | rfl
    ·by_cases hm : n = 0
     ·subst hm
      obtain rfl : true = r := by rw [← hr]; simp [plainB]
      clear hr
      go_enter Try.func34, Try.ntmps34
      go_wp2_with fail
      go_ret
      exact ⟨by simp, hB.out⟩
     ·obtain rfl : false = r := by rw [← hr]; simp [plainB]; omega
      have hm2 : (n == 0) = false := by simp [hm]
      clear hr
      go_enter Try.func34, Try.ntmps34
      go_wp2_with fail
      go_ret
      exact ⟨by simp, hB.out⟩
    ·by_cases hm : n ≤ 1048576
     ·obtain rfl : true = r := by rw [← hr]; simp [plainB, h0, hm]
      clear hr
      go_enter Try.func34, Try.ntmps34
      go_wp2_with fail
      go_ret
      exact ⟨by simp, hB.out⟩
     ·obtain rfl : false = r := by rw [← hr]; simp [plainB, hm]
      clear hr
      go_enter Try.func34, Try.ntmps34
      go_wp2_with fail
      go_ret
      exact ⟨by simp, hB.out⟩
    all_goals
     by_cases hm : n ≤ 64
     ·obtain rfl : true = r := by rw [← hr]; simp [plainB, h0, hm]
      clear hr
      go_enter Try.func34, Try.ntmps34
      go_wp2_with fail
      go_ret
      exact ⟨by simp, hB.out⟩
     ·obtain rfl : false = r := by rw [← hr]; simp [plainB, hm]
      clear hr
      go_enter Try.func34, Try.ntmps34
      go_wp2_with fail
      go_ret
      exact ⟨by simp, hB.out⟩
   ·obtain rfl : false = r := by rw [← hr]; rcases ht2 with rfl | rfl | rfl | rfl <;> simp [plainB] <;> omega
    have hn0 : (n == 0) = false := by simp; omega
    clear hr
    rcases ht2 with rfl | rfl | rfl | rfl
    all_goals
     go_enter Try.func34, Try.ntmps34
     go_wp2_with fail
     go_ret
     exact ⟨by simp, hB.out⟩
  ·obtain rfl : false = r := by rw [← hr]; simp [plainB, hl]
   have hl2 : ((l : Int) == 0) = false := by simp; omega
   clear hr
   rcases ht2 with rfl | rfl | rfl | rfl
   ·by_cases hm : n = 0
    ·subst hm
     go_enter Try.func34, Try.ntmps34
     go_wp2_with fail
     go_ret
     exact ⟨by simp, hB.out⟩
    ·have hm2 : (n == 0) = false := by simp [hm]
     go_enter Try.func34, Try.ntmps34
     go_wp2_with fail
     go_ret
     exact ⟨by simp, hB.out⟩
   all_goals
    by_cases h0 : 0 ≤ n
    ·by_cases hm : n ≤ 64
     ·have hm3 : n ≤ 1048576 := by omega
      go_enter Try.func34, Try.ntmps34
      go_wp2_with fail
      go_ret
      exact ⟨by simp, hB.out⟩
     ·by_cases hm3 : n ≤ 1048576
      all_goals
       go_enter Try.func34, Try.ntmps34
       go_wp2_with fail
       go_ret
       exact ⟨by simp, hB.out⟩
    ·go_enter Try.func34, Try.ntmps34
     go_wp2_with fail
     go_ret
     exact ⟨by simp, hB.out⟩
 ·obtain rfl : false = r := by rw [← hr]; simp only [not_or] at ht2; simp [plainB, ht2]
  have e1 : (t == 1) = false := by simp; omega
  have e2 : (t == 2) = false := by simp; omega
  have e3 : (t == 3) = false := by simp; omega
  have e4 : (t == 4) = false := by simp; omega
  clear hr ht2 ht
  go_enter Try.func34, Try.ntmps34
  go_wp2_with fail
  go_ret
  exact ⟨by simp, hB.out⟩
end Go.Proofs.Ytpkcaabbcoiiiaa
namespace Go.Proofs.Ytpkcaabbcoiiiaa
open Go.RowKit
def onlyB (cost facts cells parts : Bool) (f : WF) : Bool := (cost || decide (f.c = 0)) && ((facts || (decide (f.g = 0) && decide (f.rl = 0))) && ((cells || decide (f.cl = 0)) && (parts || decide (f.pl = 0))))
def bareB (t : Int) (f : WF) : Bool := onlyB (!f.z && decide (t = 2)) (!f.z && decide (t = 3)) (!f.z && decide (t = 4)) (!f.z && decide (t = 5)) f
theorem wbox (w : World) (a b : Array Value) (S T : TypeId) : Below w.heap.size w ((w.alloc (.cells a S)).alloc (.cells b T)) := ((Below.refl _ _).alloc (Nat.le_refl _) _).alloc (by simp) _
theorem two_boxes2 (w : World) (a b : Array Value) (S T : TypeId) : ((w.alloc (.cells a S)).alloc (.cells b T)).heap[w.heap.size]? = some (.cells a S (0, 0)) ∧ ((w.alloc (.cells a S)).alloc (.cells b T)).heap[w.heap.size + 1]? = some (.cells b T (0, 0)) := by
 refine ⟨heap_allocd (heapV_new w _) _, ?_⟩
 have := heapV_new (w.alloc (.cells a S)) (.cells b T)
 rwa [World.size_alloc] at this
theorem nat_eq0 (n : Nat) : ((n : Int) == 0) = decide (n = 0) := by
 rw [Bool.eq_iff_iff]; simp
theorem int_eq0 (n : Int) : (n == 0) = decide (n = 0) := by
 rw [Bool.eq_iff_iff]; simp
theorem bare_is (t n : Int) (a : Option Addr) (l c0 : Nat) (f : WF) (r : Bool) (hr : bareB t f = r) (w : World) :
  Calls Try.prog 107 #[.agg #[.int .i64 t, .int .i64 n, .slice a l c0], f.val] w fun e w' => e = .returned (.bool r) ∧ Below w.heap.size w w' := by
 obtain ⟨z, c, g, ra, rl, rc, rows, ca, cl, cc, cells, pa, pl, pc⟩ := f
 show Calls Try.prog 107 #[.agg #[.int .i64 t, .int .i64 n, .slice a l c0], .agg #[.bool z, .int .i64 c, .int .u64 (g : Int), .slice ra rl rc, .slice ca cl cc, .slice pa pl pc]] w _
 have hB := Lib.hid (wbox w #[.int .i64 t, .int .i64 n, .slice a l c0] #[.bool z, .int .i64 c, .int .u64 (g : Int), .slice ra rl rc, .slice ca cl cc, .slice pa pl pc] 25 45)
 obtain ⟨t0, t1⟩ := two_boxes2 w #[.int .i64 t, .int .i64 n, .slice a l c0] #[.bool z, .int .i64 c, .int .u64 (g : Int), .slice ra rl rc, .slice ca cl cc, .slice pa pl pc] 25 45
 obtain ⟨x0, x1, x2⟩ := tri_cells t0
 obtain ⟨y0, y1, y2, y3, y4, y5⟩ := six_cells t1
 obtain ⟨W0, hW0⟩ : ∃ W, (w.alloc (.cells #[.int .i64 t, .int .i64 n, .slice a l c0] 25)).alloc (.cells #[.bool z, .int .i64 c, .int .u64 (g : Int), .slice ra rl rc, .slice ca cl cc, .slice pa pl pc] 45) = W := ⟨_, rfl⟩
 rw [hW0] at hB x0 x1 x2 y0 y1 y2 y3 y4 y5
 obtain ⟨b1, h1⟩ : ∃ b, (c == 0) = b := ⟨_, rfl⟩
 obtain ⟨b2, h2⟩ : ∃ b, (decide (g = 0) && decide (rl = 0)) = b := ⟨_, rfl⟩
 obtain ⟨b3, h3⟩ : ∃ b, ((cl : Int) == 0) = b := ⟨_, rfl⟩
 obtain ⟨b4, h4⟩ : ∃ b, ((pl : Int) == 0) = b := ⟨_, rfl⟩
 have H2 := Lib.hid h2
 have HR : Hid ((((!z && decide (t = 2)) || b1) && (((!z && decide (t = 3)) || b2) && (((!z && decide (t = 4)) || b3) && ((!z && decide (t = 5)) || b4)))) = r) := by
  show _ = _
  rw [← hr, ← h1, ← h2, ← h3, ← h4, nat_eq0, nat_eq0, int_eq0]; rfl
 clear hr t0 t1 h2
 have hg : ((g : Int) == 0) = decide (g = 0) := nat_eq0 g
 have hrl : ((rl : Int) == 0) = decide (rl = 0) := nat_eq0 rl
 have HZ : ∀ (b : Bool), b2 = b → Hid (b2 = b) := fun _ h => h
 have h2 := H2.out
 have ht : t = 2 ∨ t = 3 ∨ t = 4 ∨ t = 5 ∨ ((t == 2) = false ∧ (t == 3) = false ∧ (t == 4) = false ∧ (t == 5) = false ∧ decide (t = 2) = false ∧ decide (t = 3) = false ∧ decide (t = 4) = false ∧ decide (t = 5) = false) := by
  by_cases e2 : t = 2
  ·exact .inl e2
  by_cases e3 : t = 3
  ·exact .inr (.inl e3)
  by_cases e4 : t = 4
  ·exact .inr (.inr (.inl e4))
  by_cases e5 : t = 5
  ·exact .inr (.inr (.inr (.inl e5)))
  ·exact .inr (.inr (.inr (.inr ⟨by simp [e2], by simp [e3], by simp [e4], by simp [e5], by simp [e2], by simp [e3], by simp [e4], by simp [e5]⟩)))
 have HTT := Lib.hid ht
 clear ht
 by_cases hg0 : g = 0
 ·have hg1 : ((g : Int) == 0) = true := by simp [hg0]
  have h2' : (decide (rl = 0)) = b2 := by simpa [hg0] using h2
  rw [h2'] at hrl
  clear h2 h2' hg HZ hg0
  cases z
  ·rcases HTT.out with rfl | rfl | rfl | rfl | ⟨e2, e3, e4, e5, d2, d3, d4, d5⟩
   case inr.inr.inr.inr =>
    have D := Lib.hid (And.intro d2 (And.intro d3 (And.intro d4 d5)))
    clear d2 d3 d4 d5
    go_enter Try.func107, Try.ntmps107
    go_upto_region 15 with fail
    clear h1 h3 h4 hrl
    cases b1 <;> cases b2 <;> cases b3 <;> cases b4 <;> (go_wp2; go_ret; exact ⟨rbool (by rw [← HR.out, D.out.1, D.out.2.1, D.out.2.2.1, D.out.2.2.2]; rfl), hB.out⟩)
   all_goals
    go_enter Try.func107, Try.ntmps107
    go_upto_region 15 with fail
    clear h1 h3 h4 hrl
    cases b1 <;> cases b2 <;> cases b3 <;> cases b4 <;> (go_wp2; go_ret; exact ⟨rbool (by rw [← HR.out]; rfl), hB.out⟩)
  ·go_enter Try.func107, Try.ntmps107
   go_upto_region 15 with fail
   clear h1 h3 h4 hrl
   cases b1 <;> cases b2 <;> cases b3 <;> cases b4 <;> (go_wp2; go_ret; exact ⟨rbool (by rw [← HR.out]; rfl), hB.out⟩)
 ·have hg1 : ((g : Int) == 0) = false := by simp [hg0]
  obtain rfl : b2 = false := by rw [← h2]; simp [hg0]
  clear h2 hg HZ hrl hg0
  cases z
  ·rcases HTT.out with rfl | rfl | rfl | rfl | ⟨e2, e3, e4, e5, d2, d3, d4, d5⟩
   case inr.inr.inr.inr =>
    have D := Lib.hid (And.intro d2 (And.intro d3 (And.intro d4 d5)))
    clear d2 d3 d4 d5
    go_enter Try.func107, Try.ntmps107
    go_upto_region 15 with fail
    clear h1 h3 h4 hg1
    cases b1 <;> cases b3 <;> cases b4 <;> (go_wp2; go_ret; exact ⟨rbool (by rw [← HR.out, D.out.1, D.out.2.1, D.out.2.2.1, D.out.2.2.2]; rfl), hB.out⟩)
   all_goals
    go_enter Try.func107, Try.ntmps107
    go_upto_region 15 with fail
    clear h1 h3 h4 hg1
    cases b1 <;> cases b3 <;> cases b4 <;> (go_wp2; go_ret; exact ⟨rbool (by rw [← HR.out]; rfl), hB.out⟩)
  ·go_enter Try.func107, Try.ntmps107
   go_upto_region 15 with fail
   clear h1 h3 h4 hg1
   cases b1 <;> cases b3 <;> cases b4 <;> (go_wp2; go_ret; exact ⟨rbool (by rw [← HR.out]; rfl), hB.out⟩)
end Go.Proofs.Ytpkcaabbcoiiiaa
namespace Go.Proofs.Ytpkcaabbcoiiiaa
open Go.RowKit
theorem value_any (f k v : Int) (w : World) : Calls Try.prog 134 #[.agg #[.int .u64 f, .int .i64 k, .int .i64 v]] w fun e w' => e = .returned (.agg #[.int .u64 0, .int .i64 k, .int .i64 v]) ∧ (w.alloc (.cells #[.int .u64 0, .int .i64 k, .int .i64 v] 96)).alloc (.cells #[.int .u64 0, .int .i64 k, .int .i64 v] 96) = w' := by
 go_enter Try.func134, Try.ntmps134
 go_wp2
 refine bodyPost_ret (v := .agg #[.int .u64 0, .int .i64 k, .int .i64 v]) (by simp [results, Try.results134, go_sem]) rfl ⟨rfl, rfl⟩
set_option maxHeartbeats 1000000 in
theorem joined_00 (f f2 : Int) (w : World) : Calls Try.prog 133 #[.agg #[.int .u64 f, .int .i64 0, .int .i64 0], .agg #[.int .u64 f2, .int .i64 0, .int .i64 0]] w fun e w' => e = .returned (.agg #[.int .u64 (bits .or .u64 f f2), .int .i64 0, .int .i64 0]) ∧ Below w.heap.size w w' := by
 go_enter Try.func133, Try.ntmps133
 go_wp2
 go_region_with (go_at_call 134; refine (value_any _ _ _ _).mono ?_; rintro e w' ⟨rfl, rfl⟩)
 all_goals go_wp2
 all_goals refine bodyPost_ret (v := .agg #[.int .u64 (bits .or .u64 f f2), .int .i64 0, .int .i64 0]) (by simp [results, Try.results133, go_sem]) rfl ⟨rfl, ?_⟩
 all_goals repeat (first | exact Below.refl _ _ | refine Below.drew ?_ | (refine Below.setCell ?_ (by simp) _) | (refine Below.alloc ?_ (by simp; try omega) _))
set_option maxHeartbeats 1000000 in
theorem joined_01 (f f2 : Int) (v2 : Int) (w : World) : Calls Try.prog 133 #[.agg #[.int .u64 f, .int .i64 0, .int .i64 0], .agg #[.int .u64 f2, .int .i64 1, .int .i64 v2]] w fun e w' => e = .returned (.agg #[.int .u64 (bits .or .u64 f f2), .int .i64 1, .int .i64 v2]) ∧ Below w.heap.size w w' := by
 go_enter Try.func133, Try.ntmps133
 go_wp2
 go_region_with (go_at_call 134; refine (value_any _ _ _ _).mono ?_; rintro e w' ⟨rfl, rfl⟩)
 all_goals go_wp2
 all_goals refine bodyPost_ret (v := .agg #[.int .u64 (bits .or .u64 f f2), .int .i64 1, .int .i64 v2]) (by simp [results, Try.results133, go_sem]) rfl ⟨rfl, ?_⟩
 all_goals repeat (first | exact Below.refl _ _ | refine Below.drew ?_ | (refine Below.setCell ?_ (by simp) _) | (refine Below.alloc ?_ (by simp; try omega) _))
set_option maxHeartbeats 1000000 in
theorem joined_02 (f f2 : Int) (w : World) : Calls Try.prog 133 #[.agg #[.int .u64 f, .int .i64 0, .int .i64 0], .agg #[.int .u64 f2, .int .i64 2, .int .i64 0]] w fun e w' => e = .returned (.agg #[.int .u64 0, .int .i64 2, .int .i64 0]) ∧ Below w.heap.size w w' := by
 go_enter Try.func133, Try.ntmps133
 go_wp2
 go_region_with (go_at_call 134; refine (value_any _ _ _ _).mono ?_; rintro e w' ⟨rfl, rfl⟩)
 all_goals go_wp2
 all_goals refine bodyPost_ret (v := .agg #[.int .u64 0, .int .i64 2, .int .i64 0]) (by simp [results, Try.results133, go_sem]) rfl ⟨rfl, ?_⟩
 all_goals repeat (first | exact Below.refl _ _ | refine Below.drew ?_ | (refine Below.setCell ?_ (by simp) _) | (refine Below.alloc ?_ (by simp; try omega) _))
set_option maxHeartbeats 1000000 in
theorem joined_10 (f f2 : Int) (v : Int) (w : World) : Calls Try.prog 133 #[.agg #[.int .u64 f, .int .i64 1, .int .i64 v], .agg #[.int .u64 f2, .int .i64 0, .int .i64 0]] w fun e w' => e = .returned (.agg #[.int .u64 (bits .or .u64 f f2), .int .i64 1, .int .i64 v]) ∧ Below w.heap.size w w' := by
 go_enter Try.func133, Try.ntmps133
 go_wp2
 go_region_with (go_at_call 134; refine (value_any _ _ _ _).mono ?_; rintro e w' ⟨rfl, rfl⟩)
 all_goals go_wp2
 all_goals refine bodyPost_ret (v := .agg #[.int .u64 (bits .or .u64 f f2), .int .i64 1, .int .i64 v]) (by simp [results, Try.results133, go_sem]) rfl ⟨rfl, ?_⟩
 all_goals repeat (first | exact Below.refl _ _ | refine Below.drew ?_ | (refine Below.setCell ?_ (by simp) _) | (refine Below.alloc ?_ (by simp; try omega) _))
set_option maxHeartbeats 1000000 in
theorem joined_11 (f f2 : Int) (v : Int) (w : World) : Calls Try.prog 133 #[.agg #[.int .u64 f, .int .i64 1, .int .i64 v], .agg #[.int .u64 f2, .int .i64 1, .int .i64 v]] w fun e w' => e = .returned (.agg #[.int .u64 (bits .or .u64 f f2), .int .i64 1, .int .i64 v]) ∧ Below w.heap.size w w' := by
 go_enter Try.func133, Try.ntmps133
 go_wp2
 go_region_with (go_at_call 134; refine (value_any _ _ _ _).mono ?_; rintro e w' ⟨rfl, rfl⟩)
 all_goals go_wp2
 all_goals refine bodyPost_ret (v := .agg #[.int .u64 (bits .or .u64 f f2), .int .i64 1, .int .i64 v]) (by simp [results, Try.results133, go_sem]) rfl ⟨rfl, ?_⟩
 all_goals repeat (first | exact Below.refl _ _ | refine Below.drew ?_ | (refine Below.setCell ?_ (by simp) _) | (refine Below.alloc ?_ (by simp; try omega) _))
set_option maxHeartbeats 1000000 in
theorem joined_1x (f f2 : Int) (v v2 : Int) (hv : (v == v2) = false) (w : World) : Calls Try.prog 133 #[.agg #[.int .u64 f, .int .i64 1, .int .i64 v], .agg #[.int .u64 f2, .int .i64 1, .int .i64 v2]] w fun e w' => e = .returned (.agg #[.int .u64 0, .int .i64 2, .int .i64 0]) ∧ Below w.heap.size w w' := by
 go_enter Try.func133, Try.ntmps133
 go_wp2
 go_region_with (go_at_call 134; refine (value_any _ _ _ _).mono ?_; rintro e w' ⟨rfl, rfl⟩)
 all_goals go_wp2
 all_goals refine bodyPost_ret (v := .agg #[.int .u64 0, .int .i64 2, .int .i64 0]) (by simp [results, Try.results133, go_sem]) rfl ⟨rfl, ?_⟩
 all_goals repeat (first | exact Below.refl _ _ | refine Below.drew ?_ | (refine Below.setCell ?_ (by simp) _) | (refine Below.alloc ?_ (by simp; try omega) _))
set_option maxHeartbeats 1000000 in
theorem joined_12 (f f2 : Int) (v : Int) (w : World) : Calls Try.prog 133 #[.agg #[.int .u64 f, .int .i64 1, .int .i64 v], .agg #[.int .u64 f2, .int .i64 2, .int .i64 0]] w fun e w' => e = .returned (.agg #[.int .u64 0, .int .i64 2, .int .i64 0]) ∧ Below w.heap.size w w' := by
 go_enter Try.func133, Try.ntmps133
 go_wp2
 go_region_with (go_at_call 134; refine (value_any _ _ _ _).mono ?_; rintro e w' ⟨rfl, rfl⟩)
 all_goals go_wp2
 all_goals refine bodyPost_ret (v := .agg #[.int .u64 0, .int .i64 2, .int .i64 0]) (by simp [results, Try.results133, go_sem]) rfl ⟨rfl, ?_⟩
 all_goals repeat (first | exact Below.refl _ _ | refine Below.drew ?_ | (refine Below.setCell ?_ (by simp) _) | (refine Below.alloc ?_ (by simp; try omega) _))
set_option maxHeartbeats 1000000 in
theorem joined_20 (f f2 : Int) (w : World) : Calls Try.prog 133 #[.agg #[.int .u64 f, .int .i64 2, .int .i64 0], .agg #[.int .u64 f2, .int .i64 0, .int .i64 0]] w fun e w' => e = .returned (.agg #[.int .u64 0, .int .i64 2, .int .i64 0]) ∧ Below w.heap.size w w' := by
 go_enter Try.func133, Try.ntmps133
 go_wp2
 go_region_with (go_at_call 134; refine (value_any _ _ _ _).mono ?_; rintro e w' ⟨rfl, rfl⟩)
 all_goals go_wp2
 all_goals refine bodyPost_ret (v := .agg #[.int .u64 0, .int .i64 2, .int .i64 0]) (by simp [results, Try.results133, go_sem]) rfl ⟨rfl, ?_⟩
 all_goals repeat (first | exact Below.refl _ _ | refine Below.drew ?_ | (refine Below.setCell ?_ (by simp) _) | (refine Below.alloc ?_ (by simp; try omega) _))
set_option maxHeartbeats 1000000 in
theorem joined_21 (f f2 : Int) (v2 : Int) (w : World) : Calls Try.prog 133 #[.agg #[.int .u64 f, .int .i64 2, .int .i64 0], .agg #[.int .u64 f2, .int .i64 1, .int .i64 v2]] w fun e w' => e = .returned (.agg #[.int .u64 0, .int .i64 2, .int .i64 0]) ∧ Below w.heap.size w w' := by
 go_enter Try.func133, Try.ntmps133
 go_wp2
 go_region_with (go_at_call 134; refine (value_any _ _ _ _).mono ?_; rintro e w' ⟨rfl, rfl⟩)
 all_goals go_wp2
 all_goals refine bodyPost_ret (v := .agg #[.int .u64 0, .int .i64 2, .int .i64 0]) (by simp [results, Try.results133, go_sem]) rfl ⟨rfl, ?_⟩
 all_goals repeat (first | exact Below.refl _ _ | refine Below.drew ?_ | (refine Below.setCell ?_ (by simp) _) | (refine Below.alloc ?_ (by simp; try omega) _))
set_option maxHeartbeats 1000000 in
theorem joined_22 (f f2 : Int) (w : World) : Calls Try.prog 133 #[.agg #[.int .u64 f, .int .i64 2, .int .i64 0], .agg #[.int .u64 f2, .int .i64 2, .int .i64 0]] w fun e w' => e = .returned (.agg #[.int .u64 0, .int .i64 2, .int .i64 0]) ∧ Below w.heap.size w w' := by
 go_enter Try.func133, Try.ntmps133
 go_wp2
 go_region_with (go_at_call 134; refine (value_any _ _ _ _).mono ?_; rintro e w' ⟨rfl, rfl⟩)
 all_goals go_wp2
 all_goals refine bodyPost_ret (v := .agg #[.int .u64 0, .int .i64 2, .int .i64 0]) (by simp [results, Try.results133, go_sem]) rfl ⟨rfl, ?_⟩
 all_goals repeat (first | exact Below.refl _ _ | refine Below.drew ?_ | (refine Below.setCell ?_ (by simp) _) | (refine Below.alloc ?_ (by simp; try omega) _))
end Go.Proofs.Ytpkcaabbcoiiiaa
namespace Go.Proofs.Ytpkcaabbcoiiiaa
open Go.RowKit
def Cl.ok (c : Cl) : Prop := c.f < 18446744073709551616 ∧ kindOk c.f c.k c.v = true
def joinK (k v k2 v2 : Int) : Int := if k = 0 then k2 else if k2 = 0 then k else if k = 1 ∧ k2 = 1 ∧ v = v2 then 1 else 2
def joinV (k v k2 v2 : Int) : Int := if k = 0 then v2 else if k2 = 0 then v else if k = 1 ∧ k2 = 1 ∧ v = v2 then v else 0
def join (a b : Cl) : Cl := ⟨if joinK a.k a.v b.k b.v = 2 then 0 else a.f ||| b.f, joinK a.k a.v b.k b.v, joinV a.k a.v b.k b.v⟩
theorem kind_cases {f : Nat} {k v : Int} (h : kindOk f k v = true) : (k = 0 ∧ v = 0) ∨ k = 1 ∨ (k = 2 ∧ v = 0) := by
 unfold kindOk at h
 split at h
 ·left; simp at h; exact ⟨by assumption, h⟩
 ·split at h
  ·right; left; assumption
  ·split at h
   ·right; right; simp at h; exact ⟨by assumption, h.1⟩
   ·cases h
theorem or_cast (a b : Nat) (ha : a < 18446744073709551616) (hb : b < 18446744073709551616) : bits .or .u64 (a : Int) (b : Int) = ((a ||| b : Nat) : Int) := bits_or_u64_nat a b ha hb
def JoinPost (a b : Cl) (w : World) (e : Ending) (w' : World) : Prop := e = .returned (join a b).val ∧ Below w.heap.size w w'
theorem to_post {f f2 : Nat} {k v k2 v2 : Int} {F K V : Int} {w : World} (hF : F = ((if joinK k v k2 v2 = 2 then 0 else f ||| f2 : Nat) : Int)) (hK : K = joinK k v k2 v2) (hV : V = joinV k v k2 v2) :
  ∀ e w', (e = Ending.returned (.agg #[.int .u64 F, .int .i64 K, .int .i64 V]) ∧ Below w.heap.size w w') → JoinPost ⟨f, k, v⟩ ⟨f2, k2, v2⟩ w e w' := by
 rintro e w' ⟨rfl, hb⟩
 exact ⟨by simp only [join, Cl.val]; rw [hF, hK, hV], hb⟩
theorem joined_any (a b : Cl) (ha : a.ok) (hb : b.ok) (w : World) : Calls Try.prog 133 #[a.val, b.val] w (JoinPost a b w) := by
 obtain ⟨f, k, v⟩ := a
 obtain ⟨f2, k2, v2⟩ := b
 obtain ⟨hf, hk⟩ := ha
 obtain ⟨hf2, hk2⟩ := hb
 simp only at hf hk hf2 hk2
 have ho := or_cast f f2 hf hf2
 rcases kind_cases hk with ⟨rfl, rfl⟩ | rfl | ⟨rfl, rfl⟩ <;> rcases kind_cases hk2 with ⟨rfl, rfl⟩ | rfl | ⟨rfl, rfl⟩
 ·exact (joined_00 f f2 w).mono (to_post (by simp [joinK, ho]) (by simp [joinK]) (by simp [joinV]))
 ·exact (joined_01 f f2 v2 w).mono (to_post (by simp [joinK, ho]) (by simp [joinK]) (by simp [joinV]))
 ·exact (joined_02 f f2 w).mono (to_post (by simp [joinK]) (by simp [joinK]) (by simp [joinV]))
 ·exact (joined_10 f f2 v w).mono (to_post (by simp [joinK, ho]) (by simp [joinK]) (by simp [joinV]))
 ·by_cases hv : v = v2
  ·subst hv
   exact (joined_11 f f2 v w).mono (to_post (by simp [joinK, ho]) (by simp [joinK]) (by simp [joinV]))
  ·exact (joined_1x f f2 v v2 (by simp [hv]) w).mono (to_post (by simp [joinK, hv]) (by simp [joinK, hv]) (by simp [joinV, hv]))
 ·exact (joined_12 f f2 v w).mono (to_post (by simp [joinK]) (by simp [joinK]) (by simp [joinV]))
 ·exact (joined_20 f f2 w).mono (to_post (by simp [joinK]) (by simp [joinK]) (by simp [joinV]))
 ·exact (joined_21 f f2 v2 w).mono (to_post (by simp [joinK]) (by simp [joinK]) (by simp [joinV]))
 ·exact (joined_22 f f2 w).mono (to_post (by simp [joinK]) (by simp [joinK]) (by simp [joinV]))
theorem check_is (d : Int) (a : Option Addr) (len cap : Nat) (cs : List Cl) (w : World) (c : Int) (hl : cs.length = len) (hm : cs.length ≤ maxLen) (hrow : CRow w a cs) (hbits : Bits cs) (hc : chkC d cs = c) :
  Calls Try.prog 109 #[.int .i64 d, .slice a len cap] w fun e w' => e = .returned (.int .i64 c) ∧ Below w.heap.size w w' := by
 subst hl; subst hc; exact ce_check_any d a cap cs w hm hrow hbits
def chk2C (d : Int) (xs ys : List Cl) : Int := if chkC d xs = 0 then chkC d ys else chkC d xs
theorem checkBoth_any (d : Int) (a b : Option Addr) (capa capb : Nat) (xs ys : List Cl) (w : World) (hma : xs.length ≤ maxLen) (hmb : ys.length ≤ maxLen) (hra : CRow w a xs) (hrb : CRow w b ys) (hba : Bits xs) (hbb : Bits ys) (c : Int) (hc : chk2C d xs ys = c) :
  Calls Try.prog 129 #[.int .i64 d, .slice a xs.length capa, .slice b ys.length capb] w fun e w' => e = .returned (.int .i64 c) ∧ Below w.heap.size w w' := by
 have HMA := Lib.hid hma; have HMB := Lib.hid hmb; have HRA := Lib.hid hra; have HRB := Lib.hid hrb; have HBA := Lib.hid hba; have HBB := Lib.hid hbb
 clear hma hmb hra hrb hba hbb
 by_cases h0 : chkC d xs = 0
 ·have H0 := Lib.hid h0
  have H1 := Lib.hid (show chkC d ys = c by simpa [chk2C, h0] using hc)
  clear h0 hc
  go_enter Try.func129, Try.ntmps129
  go_wp2_with fail
  refine (check_is _ _ _ _ xs _ 0 rfl HMA.out HRA.out HBA.out H0.out).mono ?_
  rintro e w1 ⟨rfl, hb1⟩
  go_wp2_with fail
  refine (check_is _ _ _ _ ys _ c rfl HMB.out (HRB.out.below hb1) HBB.out H1.out).mono ?_
  rintro e w2 ⟨rfl, hb2⟩
  go_wp2
  go_ret
  exact ⟨rfl, hb1.trans (hb2.mono hb1.size)⟩
 ·have H1 := Lib.hid (show chkC d xs = c by simpa [chk2C, h0] using hc)
  have hne : (c != 0) = true := by rw [← H1.out]; simpa using h0
  clear h0 hc
  go_enter Try.func129, Try.ntmps129
  go_wp2_with fail
  refine (check_is _ _ _ _ xs _ c rfl HMA.out HRA.out HBA.out H1.out).mono ?_
  rintro e w1 ⟨rfl, hb1⟩
  go_wp2
  go_ret
  exact ⟨rfl, hb1⟩
end Go.Proofs.Ytpkcaabbcoiiiaa
namespace Go.Proofs.Ytpkcaabbcoiiiaa
open Go.RowKit
def pwOk (t n : Int) (f : WF) : Bool := bareB t f && (f.z || (if t = 2 then decide (0 ≤ f.c) && decide (f.c ≤ n) else if t = 3 then decide (checkE n f.g f.rows = 0) else if t = 4 then decide (chkC n f.cells = 0) else true))
theorem plainB_tag {t n : Int} {l : Nat} (h : plainB t n l = true) : l = 0 ∧ (t = 1 ∨ t = 2 ∨ t = 3 ∨ t = 4) := by
 simp only [plainB, Bool.and_eq_true, decide_eq_true_eq] at h
 refine ⟨h.1, ?_⟩
 rcases h with ⟨_, h⟩
 by_cases h1 : t = 1
 ·exact .inl h1
 by_cases h2 : t = 2
 ·exact .inr (.inl h2)
 by_cases h3 : t = 3
 ·exact .inr (.inr (.inl h3))
 by_cases h4 : t = 4
 ·exact .inr (.inr (.inr h4))
 ·simp [h1, h2, h3, h4] at h
theorem plainB_dim {t n : Int} {l : Nat} (h : plainB t n l = true) : 0 ≤ n ∧ n ≤ 1048576 ∧ (t = 1 → n = 0) ∧ ((t = 3 ∨ t = 4) → n ≤ 64) := by
 have ht := (plainB_tag h).2
 simp only [plainB, Bool.and_eq_true, decide_eq_true_eq] at h
 rcases h with ⟨_, h⟩
 rcases ht with rfl | rfl | rfl | rfl <;> simp at h <;> omega
theorem WF.At.fat {w : World} {f : WF} (h : f.At w) (hs : f.rl ≤ 100) : FAt w f.ra f.g f.rows := ⟨h.rows, h.g64, h.r64, by rw [h.rl]; exact hs⟩
theorem isA_plain (t n : Int) (a : Option Addr) (l c0 : Nat) (f : WF) (hp : plainB t n l = true) (hs : f.rl ≤ 100) (w : World) (hf : f.At w) (r : Bool) (hr : pwOk t n f = r) :
  Calls Try.prog 100 #[.agg #[.int .i64 t, .int .i64 n, .slice a l c0], f.val] w fun e w' => e = .returned (.bool r) ∧ Below w.heap.size w w' := by
 have HF0 := Lib.hid hf; have HS := Lib.hid hs
 obtain ⟨z, c, g, ra, rl, rc, rows, ca, cl, cc, cells, pa, pl, pc⟩ := f
 show Calls Try.prog 100 #[.agg #[.int .i64 t, .int .i64 n, .slice a l c0], .agg #[.bool z, .int .i64 c, .int .u64 (g : Int), .slice ra rl rc, .slice ca cl cc, .slice pa pl pc]] w _
 obtain ⟨bb, hbb⟩ : ∃ b, bareB t ⟨z, c, g, ra, rl, rc, rows, ca, cl, cc, cells, pa, pl, pc⟩ = b := ⟨_, rfl⟩
 have HBB := Lib.hid hbb
 have hB := Lib.hid (wbox w #[.int .i64 t, .int .i64 n, .slice a l c0] #[.bool z, .int .i64 c, .int .u64 (g : Int), .slice ra rl rc, .slice ca cl cc, .slice pa pl pc] 25 45)
 obtain ⟨t0, t1⟩ := two_boxes2 w #[.int .i64 t, .int .i64 n, .slice a l c0] #[.bool z, .int .i64 c, .int .u64 (g : Int), .slice ra rl rc, .slice ca cl cc, .slice pa pl pc] 25 45
 have T0 := Lib.hid t0; have T1 := Lib.hid t1
 obtain ⟨W0, hW0⟩ : ∃ W, (w.alloc (.cells #[.int .i64 t, .int .i64 n, .slice a l c0] 25)).alloc (.cells #[.bool z, .int .i64 c, .int .u64 (g : Int), .slice ra rl rc, .slice ca cl cc, .slice pa pl pc] 45) = W := ⟨_, rfl⟩
 rw [hW0] at hB T0 T1
 obtain ⟨x0, x1, x2⟩ := tri_cells T0.out
 obtain ⟨y0, y1, y2, y3, y4, y5⟩ := six_cells T1.out
 have ht := (plainB_tag hp).2
 clear hf hs t0 t1 hbb hp
 cases bb
 ·have HR : Hid (false = r) := by show _ = _; rw [← hr, pwOk, HBB.out]; rfl
  clear hr ht
  go_enter Try.func100, Try.ntmps100
  go_wp2_with fail
  refine (bare_is t n a l c0 ⟨z, c, g, ra, rl, rc, rows, ca, cl, cc, cells, pa, pl, pc⟩ false HBB.out _).mono ?_
  rintro e w1 ⟨rfl, hb1⟩
  go_wp2
  go_ret
  exact ⟨rbool HR.out, hB.out.trans (hb1.mono hB.out.size)⟩
 have HX : Hid (∀ W : World, Below W0.heap.size W0 W → Hid ((W.cell? ⟨w.heap.size, 0, none⟩ = some (.int .i64 t) ∧ W.cell? ⟨w.heap.size, 1, none⟩ = some (.int .i64 n) ∧ W.cell? ⟨w.heap.size, 2, none⟩ = some (.slice a l c0)) ∧ (W.cell? ⟨w.heap.size + 1, 0, none⟩ = some (.bool z) ∧ W.cell? ⟨w.heap.size + 1, 1, none⟩ = some (.int .i64 c) ∧ W.cell? ⟨w.heap.size + 1, 2, none⟩ = some (.int .u64 (g : Int)) ∧ W.cell? ⟨w.heap.size + 1, 3, none⟩ = some (.slice ra rl rc) ∧ W.cell? ⟨w.heap.size + 1, 4, none⟩ = some (.slice ca cl cc) ∧ W.cell? ⟨w.heap.size + 1, 5, none⟩ = some (.slice pa pl pc)))) := fun W h => ⟨tri_cells (heap_old T0.out h), six_cells (heap_old T1.out h)⟩
 have HR : Hid ((z || (if t = 2 then decide (0 ≤ c) && decide (c ≤ n) else if t = 3 then decide (checkE n g rows = 0) else if t = 4 then decide (chkC n cells = 0) else true)) = r) := by show _ = _; rw [← hr, pwOk, HBB.out]; rfl
 have he5 : (t == 5) = false := by simp; omega
 clear hr T0 T1
 cases z
 ·rcases ht with rfl | rfl | rfl | rfl
  ·have HR2 : Hid (true = r) := by show _ = _; rw [← HR.out]; simp
   go_enter Try.func100, Try.ntmps100
   go_wp2_with fail
   refine (bare_is _ n a l c0 ⟨false, c, g, ra, rl, rc, rows, ca, cl, cc, cells, pa, pl, pc⟩ true HBB.out _).mono ?_
   rintro e w1 ⟨rfl, hb1⟩
   obtain ⟨⟨p0, p1, p2⟩, q0, q1, q2, q3, q4, q5⟩ := (HX.out _ hb1).out
   go_wp2_with fail
   go_ret
   exact ⟨rbool HR2.out, hB.out.trans (hb1.mono hB.out.size)⟩
  ·by_cases hc0 : 0 ≤ c
   ·have HR2 : Hid (decide (c ≤ n) = r) := by show _ = _; rw [← HR.out]; simp [hc0]
    go_enter Try.func100, Try.ntmps100
    go_wp2_with fail
    refine (bare_is _ n a l c0 ⟨false, c, g, ra, rl, rc, rows, ca, cl, cc, cells, pa, pl, pc⟩ true HBB.out _).mono ?_
    rintro e w1 ⟨rfl, hb1⟩
    obtain ⟨⟨p0, p1, p2⟩, q0, q1, q2, q3, q4, q5⟩ := (HX.out _ hb1).out
    go_wp2_with fail
    go_ret
    exact ⟨rbool HR2.out, hB.out.trans (hb1.mono hB.out.size)⟩
   ·have HR3 : Hid (false = r) := by show _ = _; rw [← HR.out]; simp [hc0]
    go_enter Try.func100, Try.ntmps100
    go_wp2_with fail
    refine (bare_is _ n a l c0 ⟨false, c, g, ra, rl, rc, rows, ca, cl, cc, cells, pa, pl, pc⟩ true HBB.out _).mono ?_
    rintro e w1 ⟨rfl, hb1⟩
    obtain ⟨⟨p0, p1, p2⟩, q0, q1, q2, q3, q4, q5⟩ := (HX.out _ hb1).out
    go_wp2_with fail
    go_ret
    exact ⟨rbool HR3.out, hB.out.trans (hb1.mono hB.out.size)⟩
  ·obtain ⟨ck, hck⟩ : ∃ k, checkE n g rows = k := ⟨_, rfl⟩
   have HCK := Lib.hid hck
   have HR3 : Hid ((ck == 0) = r) := by show _ = _; rw [← HR.out, hck, int_eq0]; simp
   clear hck
   go_enter Try.func100, Try.ntmps100
   go_wp2_with fail
   refine (bare_is _ n a l c0 ⟨false, c, g, ra, rl, rc, rows, ca, cl, cc, cells, pa, pl, pc⟩ true HBB.out _).mono ?_
   rintro e w1 ⟨rfl, hb1⟩
   obtain ⟨⟨p0, p1, p2⟩, q0, q1, q2, q3, q4, q5⟩ := (HX.out _ hb1).out
   have hB1 := hB.out.trans (hb1.mono hB.out.size)
   go_wp2_with fail
   refine (checkA_is n ra rc g rows _ ((HF0.out.below hB1).fat HS.out) ck HCK.out rl HF0.out.rl).mono ?_
   rintro e w2 ⟨rfl, hb2⟩
   go_wp2_with fail
   go_ret
   exact ⟨rbool HR3.out, hB1.trans (hb2.mono hB1.size)⟩
  ·obtain ⟨ck, hck⟩ : ∃ k, chkC n cells = k := ⟨_, rfl⟩
   have HCK := Lib.hid hck
   have HR3 : Hid ((ck == 0) = r) := by show _ = _; rw [← HR.out, hck, int_eq0]; simp
   clear hck
   go_enter Try.func100, Try.ntmps100
   go_wp2_with fail
   refine (bare_is _ n a l c0 ⟨false, c, g, ra, rl, rc, rows, ca, cl, cc, cells, pa, pl, pc⟩ true HBB.out _).mono ?_
   rintro e w1 ⟨rfl, hb1⟩
   obtain ⟨⟨p0, p1, p2⟩, q0, q1, q2, q3, q4, q5⟩ := (HX.out _ hb1).out
   have hB1 := hB.out.trans (hb1.mono hB.out.size)
   go_wp2_with fail
   refine (check_is n ca cl cc cells _ ck HF0.out.cl (by rw [HF0.out.cl]; exact HF0.out.cmax) (HF0.out.below hB1).cells HF0.out.bits HCK.out).mono ?_
   rintro e w2 ⟨rfl, hb2⟩
   go_wp2_with fail
   go_ret
   exact ⟨rbool HR3.out, hB1.trans (hb2.mono hB1.size)⟩
 ·have HR2 : Hid (true = r) := by show _ = _; rw [← HR.out]; rfl
  clear HR ht
  go_enter Try.func100, Try.ntmps100
  go_wp2_with fail
  refine (bare_is _ n a l c0 ⟨true, c, g, ra, rl, rc, rows, ca, cl, cc, cells, pa, pl, pc⟩ true HBB.out _).mono ?_
  rintro e w1 ⟨rfl, hb1⟩
  obtain ⟨⟨p0, p1, p2⟩, q0, q1, q2, q3, q4, q5⟩ := (HX.out _ hb1).out
  go_wp2_with fail
  go_ret
  exact ⟨rbool HR2.out, hB.out.trans (hb1.mono hB.out.size)⟩
end Go.Proofs.Ytpkcaabbcoiiiaa
namespace Go.Proofs.Ytpkcaabbcoiiiaa
open Go Go.RowKit
theorem big_no {n : Int} (h : fullE n ≠ 0) : (if dimB n = true then (30 : Int) else 31) = 31 := by
 by_cases hd : dimB n = true
 ·exfalso; apply h
  simp only [dimB, Bool.and_eq_true, decide_eq_true_eq] at hd
  unfold fullE; rw [if_pos (by omega)]
 ·rw [if_neg hd]
theorem big_yes {n : Int} (h : ¬ fullE n ≠ 0) : dimB n = true ∧ n ≤ 64 := by
 have h' : fullE n = 0 := by omega
 unfold fullE at h'
 split at h'
 ·rename_i hn
  refine ⟨?_, by omega⟩
  simp only [dimB, Bool.and_eq_true, decide_eq_true_eq]; omega
 ·omega
theorem big_ne {n : Int} : (if dimB n = true then (30 : Int) else 31) ≠ 0 := by
 split <;> omega
theorem dimB_le {n : Int} (h : dimB n = true) : n ≤ 64 := by
 simp only [dimB, Bool.and_eq_true, decide_eq_true_eq] at h; omega
theorem shapedA_big (n : Int) (a : Option Addr) (len cap gen : Nat) (w : World) (hl : 100 < len) :
  Calls Try.prog 114 #[.int .i64 n, .agg #[.int .u64 (gen : Int), .slice a len cap]] w (fun e w' => e = .returned (.int .i64 (if dimB n = true then 30 else 31)) ∧ Below w.heap.size w w') := by
 refine enterF (args := [.int .i64 n, .agg #[.int .u64 (gen : Int), .slice a len cap]]) Try.func114 rfl Try.ntmps114 rfl ?_
 have hS := St.start w
 refine seqF (regF ?_)
 refine op_box (cs := [_, _]) hS rfl rfl rfl ?_
 clear hS; intro B1 W1 hS
 refine op_assign rfl rfl ?_
 refine endF (XF.thenN ?_)
 refine seqF (regF ?_)
 refine op_move rfl rfl ?_
 refine op_call (vs := [_]) hS goes_122 rfl (fullA_is n _ _ rfl rfl _) rfl ?_
 rintro e W2 ⟨rfl, rfl⟩
 refine ⟨_, rfl, Below.refl _ _, fun hS' => ?_⟩
 clear hS; have hS := hS'; clear hS'
 refine op_move rfl rfl ?_
 refine op_extract rfl rfl rfl ?_
 refine op_extract rfl rfl rfl ?_
 refine op_assign rfl rfl ?_
 refine op_assign rfl rfl ?_
 refine endF (XF.thenN ?_)
 refine seqF ?_
 refine seqF (regF ?_)
 refine op_move rfl rfl ?_
 refine op_neq rfl rfl rfl ?_
 refine endF (XF.thenN ?_)
 refine condF rfl (fun hc => ?_) (fun hc => ?_)
 ·have hc15 := of_decide_eq_true hc; clear hc
  refine seqF (regF ?_)
  refine op_assign rfl rfl ?_
  refine endF (XF.thenN ?_)
  refine retF ?_
  refine XF.thenR ?_
  refine XF.res (res1 Try.results114 rfl) ?_
  exact ⟨by rw [big_no hc15], hS.below⟩
 ·have hc15 := of_decide_eq_false hc; clear hc
  obtain ⟨hd, hd2⟩ := big_yes hc15
  refine skipF ?_
  refine XF.thenN ?_
  refine seqF ?_
  refine seqF (regF ?_)
  refine op_field (o' := 1) fa_41_1 rfl rfl rfl ?_
  refine op_load Try.isAgg39 rfl (cell_own (hS.at_ 0 rfl) rfl) rfl ?_
  refine op_len Try.underlying39 rfl rfl ?_
  refine op_move rfl rfl ?_
  refine op_neq rfl rfl rfl ?_
  refine op_move rfl rfl ?_
  refine op_cases (d := 21) rfl (fun hc => ?_) (fun hc => absurd (of_decide_eq_false hc) (by omega))
  have hc := of_decide_eq_true hc
  refine op_notF (d := 21) rfl rfl rfl rfl ?_
  refine op_notF (d := 21) rfl rfl rfl rfl ?_
  refine op_notF (d := 21) rfl rfl rfl rfl ?_
  refine op_notF (d := 21) rfl rfl rfl rfl ?_
  refine op_notF (d := 21) rfl rfl rfl rfl ?_
  refine op_pickT rfl rfl rfl ?_
  refine endF (XF.thenN ?_)
  refine condT rfl ?_
  refine seqF (regF ?_)
  refine op_assign rfl rfl ?_
  refine endF (XF.thenN ?_)
  refine retF ?_
  refine XF.thenR ?_
  refine XF.res (res1 Try.results114 rfl) ?_
  exact ⟨by rw [if_pos hd], hS.below⟩
theorem checkA_big (n : Int) (a : Option Addr) (len cap gen : Nat) (w : World) (hl : 100 < len) :
  Calls Try.prog 108 #[.int .i64 n, .agg #[.int .u64 (gen : Int), .slice a len cap]] w (fun e w' => e = .returned (.int .i64 (if dimB n = true then 30 else 31)) ∧ Below w.heap.size w w') := by
 refine enterF (args := [.int .i64 n, .agg #[.int .u64 (gen : Int), .slice a len cap]]) Try.func108 rfl Try.ntmps108 rfl ?_
 have hS := St.start w
 refine seqF (regF ?_)
 refine op_box (cs := [_, _]) hS rfl rfl rfl ?_
 clear hS; intro B1 W1 hS
 refine op_assign rfl rfl ?_
 refine endF (XF.thenN ?_)
 refine seqF ?_
 refine seqF (regF ?_)
 refine op_move rfl rfl ?_
 refine op_loadA (vs := [_, _]) Try.isAgg41 Try.sizeOf41 rfl (CellsAt.own (j := 0) (m := 2) (hS.at_ 0 rfl) rfl) rfl ?_
 refine op_call (vs := [_, _]) hS goes_114 rfl (shapedA_big n a len cap gen _ hl) rfl ?_
 rintro e W2 ⟨rfl, hb⟩
 refine ⟨_, rfl, hb, fun hS' => ?_⟩
 clear hS; have hS := hS'; clear hS' hb
 refine op_assign rfl rfl ?_
 refine endF (XF.thenN ?_)
 refine seqF (regF ?_)
 refine op_move rfl rfl ?_
 refine op_neq rfl rfl rfl ?_
 refine endF (XF.thenN ?_)
 refine condF rfl (fun hc => ?_) (fun hc => absurd (of_decide_eq_false hc) (by exact fun h => h big_ne))
 have hc := of_decide_eq_true hc
 refine seqF (regF ?_)
 refine op_move rfl rfl ?_
 refine op_assign rfl rfl ?_
 refine endF (XF.thenN ?_)
 refine retF ?_
 refine XF.thenR ?_
 refine XF.res (res1 Try.results108 rfl) ?_
 exact ⟨rfl, hS.below⟩
theorem checkE_big {n : Int} {gen : Nat} {rows : List Nat} (h : 100 < rows.length) : checkE n gen rows = (if dimB n = true then 30 else 31) := by
 unfold checkE
 by_cases hd : dimB n = true
 ·have h64 := dimB_le hd
  have e : shapeB n.toNat gen rows = false := by
   unfold shapeB
   rw [decide_eq_false (by omega)]; rfl
  rw [if_pos hd, if_pos hd, e]; rfl
 ·rw [if_neg hd, if_neg hd]
theorem checkA_any (n : Int) (a : Option Addr) (cap gen : Nat) (rows : List Nat) (w : World) {f : WF} (hf : f.At w) (r : Int) (hr : checkE n gen rows = r) (len : Nat) (hl : rows.length = len) (ha : f.ra = a := by rfl) (hg : f.g = gen := by rfl) (hrr : f.rows = rows := by rfl) :
  Calls Try.prog 108 #[.int .i64 n, .agg #[.int .u64 (gen : Int), .slice a len cap]] w fun e w' => e = .returned (.int .i64 r) ∧ Below w.heap.size w w' := by
 subst ha; subst hg; subst hrr
 by_cases h : f.rows.length ≤ 100
 ·exact checkA_is n _ cap _ _ w ⟨hf.rows, hf.g64, hf.r64, h⟩ r hr len hl
 ·rw [← hr, checkE_big (by omega)]
  exact checkA_big n _ len cap _ w (by omega)
end Go.Proofs.Ytpkcaabbcoiiiaa
namespace Go.Proofs.Ytpkcaabbcoiiiaa
open Go.RowKit
theorem plainR_0 (f : WF) (r : Bool) (hr : onlyB false false false false f = r) (w : World) :
  Calls Try.prog 89 #[f.val, .bool false, .bool false, .bool false, .bool false] w fun e w' => e = .returned (.bool r) ∧ Below w.heap.size w w' := by
 obtain ⟨z, c, g, ra, rl, rc, rows, ca, cl, cc, cells, pa, pl, pc⟩ := f
 show Calls Try.prog 89 #[.agg #[.bool z, .int .i64 c, .int .u64 (g : Int), .slice ra rl rc, .slice ca cl cc, .slice pa pl pc], .bool false, .bool false, .bool false, .bool false] w _
 have hB := Lib.hid (sbox w #[.bool z, .int .i64 c, .int .u64 (g : Int), .slice ra rl rc, .slice ca cl cc, .slice pa pl pc] 45)
 obtain ⟨b1, h1⟩ : ∃ b, (c == 0) = b := ⟨_, rfl⟩
 obtain ⟨b2, h2⟩ : ∃ b, ((g : Int) == 0) = b := ⟨_, rfl⟩
 obtain ⟨b3, h3⟩ : ∃ b, ((rl : Int) == 0) = b := ⟨_, rfl⟩
 obtain ⟨b4, h4⟩ : ∃ b, ((cl : Int) == 0) = b := ⟨_, rfl⟩
 obtain ⟨b5, h5⟩ : ∃ b, ((pl : Int) == 0) = b := ⟨_, rfl⟩
 have HR : Hid (((false || b1) && ((false || (b2 && b3)) && ((false || b4) && (false || b5)))) = r) := by
  show _ = _
  rw [← hr, ← h1, ← h2, ← h3, ← h4, ← h5, nat_eq0, nat_eq0, nat_eq0, nat_eq0, int_eq0]; rfl
 clear hr
 cases b1
 ·go_enter Try.func89, Try.ntmps89
  go_wp2_with fail
  go_ret
  exact ⟨rbool (by rw [← HR.out]; simp), hB.out⟩
 cases b2
 ·go_enter Try.func89, Try.ntmps89
  go_wp2_with fail
  go_ret
  exact ⟨rbool (by rw [← HR.out]; simp), hB.out⟩
 cases b3
 ·go_enter Try.func89, Try.ntmps89
  go_wp2_with fail
  go_ret
  exact ⟨rbool (by rw [← HR.out]; simp), hB.out⟩
 cases b4
 ·go_enter Try.func89, Try.ntmps89
  go_wp2_with fail
  go_ret
  exact ⟨rbool (by rw [← HR.out]; simp), hB.out⟩
 cases b5
 ·go_enter Try.func89, Try.ntmps89
  go_wp2_with fail
  go_ret
  exact ⟨rbool (by rw [← HR.out]; simp), hB.out⟩
 go_enter Try.func89, Try.ntmps89
 go_wp2_with fail
 go_ret
 exact ⟨rbool (by rw [← HR.out]; simp), hB.out⟩
theorem plainR_1 (f : WF) (r : Bool) (hr : onlyB true false false false f = r) (w : World) :
  Calls Try.prog 89 #[f.val, .bool true, .bool false, .bool false, .bool false] w fun e w' => e = .returned (.bool r) ∧ Below w.heap.size w w' := by
 obtain ⟨z, c, g, ra, rl, rc, rows, ca, cl, cc, cells, pa, pl, pc⟩ := f
 show Calls Try.prog 89 #[.agg #[.bool z, .int .i64 c, .int .u64 (g : Int), .slice ra rl rc, .slice ca cl cc, .slice pa pl pc], .bool true, .bool false, .bool false, .bool false] w _
 have hB := Lib.hid (sbox w #[.bool z, .int .i64 c, .int .u64 (g : Int), .slice ra rl rc, .slice ca cl cc, .slice pa pl pc] 45)
 obtain ⟨b1, h1⟩ : ∃ b, (c == 0) = b := ⟨_, rfl⟩
 obtain ⟨b2, h2⟩ : ∃ b, ((g : Int) == 0) = b := ⟨_, rfl⟩
 obtain ⟨b3, h3⟩ : ∃ b, ((rl : Int) == 0) = b := ⟨_, rfl⟩
 obtain ⟨b4, h4⟩ : ∃ b, ((cl : Int) == 0) = b := ⟨_, rfl⟩
 obtain ⟨b5, h5⟩ : ∃ b, ((pl : Int) == 0) = b := ⟨_, rfl⟩
 have HR : Hid (((true || b1) && ((false || (b2 && b3)) && ((false || b4) && (false || b5)))) = r) := by
  show _ = _
  rw [← hr, ← h1, ← h2, ← h3, ← h4, ← h5, nat_eq0, nat_eq0, nat_eq0, nat_eq0, int_eq0]; rfl
 clear hr
 cases b2
 ·go_enter Try.func89, Try.ntmps89
  go_wp2_with fail
  go_ret
  exact ⟨rbool (by rw [← HR.out]; simp), hB.out⟩
 cases b3
 ·go_enter Try.func89, Try.ntmps89
  go_wp2_with fail
  go_ret
  exact ⟨rbool (by rw [← HR.out]; simp), hB.out⟩
 cases b4
 ·go_enter Try.func89, Try.ntmps89
  go_wp2_with fail
  go_ret
  exact ⟨rbool (by rw [← HR.out]; simp), hB.out⟩
 cases b5
 ·go_enter Try.func89, Try.ntmps89
  go_wp2_with fail
  go_ret
  exact ⟨rbool (by rw [← HR.out]; simp), hB.out⟩
 go_enter Try.func89, Try.ntmps89
 go_wp2_with fail
 go_ret
 exact ⟨rbool (by rw [← HR.out]; simp), hB.out⟩
theorem plainR_2 (f : WF) (r : Bool) (hr : onlyB false true false false f = r) (w : World) :
  Calls Try.prog 89 #[f.val, .bool false, .bool true, .bool false, .bool false] w fun e w' => e = .returned (.bool r) ∧ Below w.heap.size w w' := by
 obtain ⟨z, c, g, ra, rl, rc, rows, ca, cl, cc, cells, pa, pl, pc⟩ := f
 show Calls Try.prog 89 #[.agg #[.bool z, .int .i64 c, .int .u64 (g : Int), .slice ra rl rc, .slice ca cl cc, .slice pa pl pc], .bool false, .bool true, .bool false, .bool false] w _
 have hB := Lib.hid (sbox w #[.bool z, .int .i64 c, .int .u64 (g : Int), .slice ra rl rc, .slice ca cl cc, .slice pa pl pc] 45)
 obtain ⟨b1, h1⟩ : ∃ b, (c == 0) = b := ⟨_, rfl⟩
 obtain ⟨b2, h2⟩ : ∃ b, ((g : Int) == 0) = b := ⟨_, rfl⟩
 obtain ⟨b3, h3⟩ : ∃ b, ((rl : Int) == 0) = b := ⟨_, rfl⟩
 obtain ⟨b4, h4⟩ : ∃ b, ((cl : Int) == 0) = b := ⟨_, rfl⟩
 obtain ⟨b5, h5⟩ : ∃ b, ((pl : Int) == 0) = b := ⟨_, rfl⟩
 have HR : Hid (((false || b1) && ((true || (b2 && b3)) && ((false || b4) && (false || b5)))) = r) := by
  show _ = _
  rw [← hr, ← h1, ← h2, ← h3, ← h4, ← h5, nat_eq0, nat_eq0, nat_eq0, nat_eq0, int_eq0]; rfl
 clear hr
 cases b1
 ·go_enter Try.func89, Try.ntmps89
  go_wp2_with fail
  go_ret
  exact ⟨rbool (by rw [← HR.out]; simp), hB.out⟩
 cases b4
 ·go_enter Try.func89, Try.ntmps89
  go_wp2_with fail
  go_ret
  exact ⟨rbool (by rw [← HR.out]; simp), hB.out⟩
 cases b5
 ·go_enter Try.func89, Try.ntmps89
  go_wp2_with fail
  go_ret
  exact ⟨rbool (by rw [← HR.out]; simp), hB.out⟩
 go_enter Try.func89, Try.ntmps89
 go_wp2_with fail
 go_ret
 exact ⟨rbool (by rw [← HR.out]; simp), hB.out⟩
theorem plainR_3 (f : WF) (r : Bool) (hr : onlyB false false true false f = r) (w : World) :
  Calls Try.prog 89 #[f.val, .bool false, .bool false, .bool true, .bool false] w fun e w' => e = .returned (.bool r) ∧ Below w.heap.size w w' := by
 obtain ⟨z, c, g, ra, rl, rc, rows, ca, cl, cc, cells, pa, pl, pc⟩ := f
 show Calls Try.prog 89 #[.agg #[.bool z, .int .i64 c, .int .u64 (g : Int), .slice ra rl rc, .slice ca cl cc, .slice pa pl pc], .bool false, .bool false, .bool true, .bool false] w _
 have hB := Lib.hid (sbox w #[.bool z, .int .i64 c, .int .u64 (g : Int), .slice ra rl rc, .slice ca cl cc, .slice pa pl pc] 45)
 obtain ⟨b1, h1⟩ : ∃ b, (c == 0) = b := ⟨_, rfl⟩
 obtain ⟨b2, h2⟩ : ∃ b, ((g : Int) == 0) = b := ⟨_, rfl⟩
 obtain ⟨b3, h3⟩ : ∃ b, ((rl : Int) == 0) = b := ⟨_, rfl⟩
 obtain ⟨b4, h4⟩ : ∃ b, ((cl : Int) == 0) = b := ⟨_, rfl⟩
 obtain ⟨b5, h5⟩ : ∃ b, ((pl : Int) == 0) = b := ⟨_, rfl⟩
 have HR : Hid (((false || b1) && ((false || (b2 && b3)) && ((true || b4) && (false || b5)))) = r) := by
  show _ = _
  rw [← hr, ← h1, ← h2, ← h3, ← h4, ← h5, nat_eq0, nat_eq0, nat_eq0, nat_eq0, int_eq0]; rfl
 clear hr
 cases b1
 ·go_enter Try.func89, Try.ntmps89
  go_wp2_with fail
  go_ret
  exact ⟨rbool (by rw [← HR.out]; simp), hB.out⟩
 cases b2
 ·go_enter Try.func89, Try.ntmps89
  go_wp2_with fail
  go_ret
  exact ⟨rbool (by rw [← HR.out]; simp), hB.out⟩
 cases b3
 ·go_enter Try.func89, Try.ntmps89
  go_wp2_with fail
  go_ret
  exact ⟨rbool (by rw [← HR.out]; simp), hB.out⟩
 cases b5
 ·go_enter Try.func89, Try.ntmps89
  go_wp2_with fail
  go_ret
  exact ⟨rbool (by rw [← HR.out]; simp), hB.out⟩
 go_enter Try.func89, Try.ntmps89
 go_wp2_with fail
 go_ret
 exact ⟨rbool (by rw [← HR.out]; simp), hB.out⟩
theorem plainR_4 (f : WF) (r : Bool) (hr : onlyB false false false true f = r) (w : World) :
  Calls Try.prog 89 #[f.val, .bool false, .bool false, .bool false, .bool true] w fun e w' => e = .returned (.bool r) ∧ Below w.heap.size w w' := by
 obtain ⟨z, c, g, ra, rl, rc, rows, ca, cl, cc, cells, pa, pl, pc⟩ := f
 show Calls Try.prog 89 #[.agg #[.bool z, .int .i64 c, .int .u64 (g : Int), .slice ra rl rc, .slice ca cl cc, .slice pa pl pc], .bool false, .bool false, .bool false, .bool true] w _
 have hB := Lib.hid (sbox w #[.bool z, .int .i64 c, .int .u64 (g : Int), .slice ra rl rc, .slice ca cl cc, .slice pa pl pc] 45)
 obtain ⟨b1, h1⟩ : ∃ b, (c == 0) = b := ⟨_, rfl⟩
 obtain ⟨b2, h2⟩ : ∃ b, ((g : Int) == 0) = b := ⟨_, rfl⟩
 obtain ⟨b3, h3⟩ : ∃ b, ((rl : Int) == 0) = b := ⟨_, rfl⟩
 obtain ⟨b4, h4⟩ : ∃ b, ((cl : Int) == 0) = b := ⟨_, rfl⟩
 obtain ⟨b5, h5⟩ : ∃ b, ((pl : Int) == 0) = b := ⟨_, rfl⟩
 have HR : Hid (((false || b1) && ((false || (b2 && b3)) && ((false || b4) && (true || b5)))) = r) := by
  show _ = _
  rw [← hr, ← h1, ← h2, ← h3, ← h4, ← h5, nat_eq0, nat_eq0, nat_eq0, nat_eq0, int_eq0]; rfl
 clear hr
 cases b1
 ·go_enter Try.func89, Try.ntmps89
  go_wp2_with fail
  go_ret
  exact ⟨rbool (by rw [← HR.out]; simp), hB.out⟩
 cases b2
 ·go_enter Try.func89, Try.ntmps89
  go_wp2_with fail
  go_ret
  exact ⟨rbool (by rw [← HR.out]; simp), hB.out⟩
 cases b3
 ·go_enter Try.func89, Try.ntmps89
  go_wp2_with fail
  go_ret
  exact ⟨rbool (by rw [← HR.out]; simp), hB.out⟩
 cases b4
 ·go_enter Try.func89, Try.ntmps89
  go_wp2_with fail
  go_ret
  exact ⟨rbool (by rw [← HR.out]; simp), hB.out⟩
 go_enter Try.func89, Try.ntmps89
 go_wp2_with fail
 go_ret
 exact ⟨rbool (by rw [← HR.out]; simp), hB.out⟩
end Go.Proofs.Ytpkcaabbcoiiiaa
namespace Go.Proofs.Ytpkcaabbcoiiiaa
open Go.RowKit
theorem inside_ins {m s : Nat} (hm : m ≤ 64) (hs : s < 18446744073709551616) : insN m s = inside m s := by
 rw [Bool.eq_iff_iff, insN_iff hm hs, inside, beq_iff_eq, Nat.div_eq_zero_iff_lt (Nat.two_pow_pos m)]
set_option maxHeartbeats 2000000 in
theorem cellR_is (m : Nat) (hm : m ≤ 64) (f : Nat) (k v : Int) (hf : f < 18446744073709551616) (r : Bool) (hr : okAt m ⟨f, k, v⟩ = r) (w : World) :
  Calls Try.prog 91 #[.int .i64 m, .agg #[.int .u64 f, .int .i64 k, .int .i64 v]] w fun e w' => e = .returned (.bool r) ∧ Below w.heap.size w w' := by
 have hB := Lib.hid (sbox w #[.int .u64 f, .int .i64 k, .int .i64 v] 96)
 obtain ⟨i, hi⟩ : ∃ i, inside m f = i := ⟨_, rfl⟩
 have HI : Hid (insI m f = i) := by
  show _ = _
  have hd : dimB (m : Int) = true := by simp [dimB]; omega
  rw [insI, if_pos hd, Int.toNat_natCast, inside_ins hm hf, hi]
 have HR : Hid ((i && kindOk f k v) = r) := by show _ = _; rw [← hr, okAt, cellOk, hi]
 clear hr hi
 cases i
 ·have HR2 : Hid (false = r) := by show _ = _; rw [← HR.out]; rfl
  go_enter Try.func91, Try.ntmps91
  go_wp2_with fail
  refine (inside_is m f hf false HI.out _).mono ?_
  rintro e w1 ⟨rfl, rfl⟩
  go_wp2_with fail
  go_ret
  exact ⟨rbool HR2.out, hB.out⟩
 by_cases k0 : k = 0
 ·subst k0
  have HR2 : Hid ((v == 0) = r) := by show _ = _; rw [← HR.out]; simp [kindOk]
  go_enter Try.func91, Try.ntmps91
  go_wp2_with fail
  refine (inside_is m f hf true HI.out _).mono ?_
  rintro e w1 ⟨rfl, rfl⟩
  go_wp2_with fail
  go_ret
  exact ⟨rbool HR2.out, hB.out⟩
 by_cases k1 : k = 1
 ·subst k1
  have HR2 : Hid (true = r) := by show _ = _; rw [← HR.out]; simp [kindOk]
  clear k0
  go_enter Try.func91, Try.ntmps91
  go_wp2_with fail
  refine (inside_is m f hf true HI.out _).mono ?_
  rintro e w1 ⟨rfl, rfl⟩
  go_wp2_with fail
  go_ret
  exact ⟨rbool HR2.out, hB.out⟩
 by_cases k2 : k = 2
 ·subst k2
  clear k0 k1
  by_cases v0 : v = 0
  ·subst v0
   have HR2 : Hid (((f : Int) == 0) = r) := by show _ = _; rw [← HR.out, nat_eq0, Bool.eq_iff_iff]; simp [kindOk]
   go_enter Try.func91, Try.ntmps91
   go_wp2_with fail
   refine (inside_is m f hf true HI.out _).mono ?_
   rintro e w1 ⟨rfl, rfl⟩
   go_wp2_with fail
   go_ret
   exact ⟨rbool HR2.out, hB.out⟩
  ·have HR2 : Hid (false = r) := by show _ = _; rw [← HR.out]; simp [kindOk, v0]
   have hv : (v == 0) = false := by simp [v0]
   go_enter Try.func91, Try.ntmps91
   go_wp2_with fail
   refine (inside_is m f hf true HI.out _).mono ?_
   rintro e w1 ⟨rfl, rfl⟩
   go_wp2_with fail
   go_ret
   exact ⟨rbool HR2.out, hB.out⟩
 ·have HR2 : Hid (false = r) := by show _ = _; rw [← HR.out]; simp [kindOk, k0, k1, k2]
  have e0 : (k == 0) = false := by simp [k0]
  have e1 : (k == 1) = false := by simp [k1]
  have e2 : (k == 2) = false := by simp [k2]
  clear k0 k1 k2
  go_enter Try.func91, Try.ntmps91
  go_wp2_with fail
  refine (inside_is m f hf true HI.out _).mono ?_
  rintro e w1 ⟨rfl, rfl⟩
  go_wp2_with fail
  go_ret
  exact ⟨rbool HR2.out, hB.out⟩
theorem chkC_iff {n : Int} {cs : List Cl} (h : 0 ≤ n ∧ n ≤ 64) : (decide (chkC n cs = 0)) = (decide ((cs.length : Int) = n) && cs.all (okAt n.toNat)) := by
 rw [Bool.eq_iff_iff]
 unfold chkC
 rw [if_neg (by omega)]
 by_cases hl : (cs.length : Int) = n
 ·cases ha : cs.all (okAt n.toNat) <;> simp [hl]
 ·simp [hl]
theorem all_upto {α : Type} {l : List α} {p : α → Bool} {k : Nat} (h : ∀ (i : Nat) x, i < k → l[i]? = some x → p x = true) (hk : l.length ≤ k) : l.all p = true := by
 rw [List.all_eq_true]; intro x hx
 obtain ⟨i, hi⟩ := List.getElem?_of_mem hx
 exact h i x (by have := (List.getElem?_eq_some_iff.1 hi).1; omega) hi
theorem isR_plain (t n : Int) (a : Option Addr) (l c0 : Nat) (f : WF) (hp : plainB t n l = true) (hs : f.rl ≤ 100) (w : World) (hf : f.At w) (r : Bool) (hr : pwOk t n f = r) :
  Calls Try.prog 66 #[.agg #[.int .i64 t, .int .i64 n, .slice a l c0], f.val] w fun e w' => e = .returned (.bool r) ∧ Below w.heap.size w w' := by
 have HF0 := Lib.hid hf; have HS := Lib.hid hs
 obtain ⟨z, c, g, ra, rl, rc, rows, ca, cl, cc, cells, pa, pl, pc⟩ := f
 show Calls Try.prog 66 #[.agg #[.int .i64 t, .int .i64 n, .slice a l c0], .agg #[.bool z, .int .i64 c, .int .u64 (g : Int), .slice ra rl rc, .slice ca cl cc, .slice pa pl pc]] w _
 obtain ⟨bb, hbb⟩ : ∃ b, bareB t ⟨z, c, g, ra, rl, rc, rows, ca, cl, cc, cells, pa, pl, pc⟩ = b := ⟨_, rfl⟩
 have HBB := Lib.hid hbb
 have hB := Lib.hid (wbox w #[.int .i64 t, .int .i64 n, .slice a l c0] #[.bool z, .int .i64 c, .int .u64 (g : Int), .slice ra rl rc, .slice ca cl cc, .slice pa pl pc] 25 45)
 obtain ⟨t0, t1⟩ := two_boxes2 w #[.int .i64 t, .int .i64 n, .slice a l c0] #[.bool z, .int .i64 c, .int .u64 (g : Int), .slice ra rl rc, .slice ca cl cc, .slice pa pl pc] 25 45
 have T0 := Lib.hid t0; have T1 := Lib.hid t1
 obtain ⟨W0, hW0⟩ : ∃ W, (w.alloc (.cells #[.int .i64 t, .int .i64 n, .slice a l c0] 25)).alloc (.cells #[.bool z, .int .i64 c, .int .u64 (g : Int), .slice ra rl rc, .slice ca cl cc, .slice pa pl pc] 45) = W := ⟨_, rfl⟩
 rw [hW0] at hB T0 T1
 obtain ⟨x0, x1, x2⟩ := tri_cells T0.out
 obtain ⟨y0, y1, y2, y3, y4, y5⟩ := six_cells T1.out
 have ht := (plainB_tag hp).2
 have HDIM := Lib.hid (plainB_dim hp)
 clear hf hs t0 t1 hp
 have HX : Hid (∀ W : World, Below W0.heap.size W0 W → Hid ((W.cell? ⟨w.heap.size, 0, none⟩ = some (.int .i64 t) ∧ W.cell? ⟨w.heap.size, 1, none⟩ = some (.int .i64 n) ∧ W.cell? ⟨w.heap.size, 2, none⟩ = some (.slice a l c0)) ∧ (W.cell? ⟨w.heap.size + 1, 0, none⟩ = some (.bool z) ∧ W.cell? ⟨w.heap.size + 1, 1, none⟩ = some (.int .i64 c) ∧ W.cell? ⟨w.heap.size + 1, 2, none⟩ = some (.int .u64 (g : Int)) ∧ W.cell? ⟨w.heap.size + 1, 3, none⟩ = some (.slice ra rl rc) ∧ W.cell? ⟨w.heap.size + 1, 4, none⟩ = some (.slice ca cl cc) ∧ W.cell? ⟨w.heap.size + 1, 5, none⟩ = some (.slice pa pl pc)))) := fun W h => ⟨tri_cells (heap_old T0.out h), six_cells (heap_old T1.out h)⟩
 have HR : Hid ((bb && (z || (if t = 2 then decide (0 ≤ c) && decide (c ≤ n) else if t = 3 then decide (checkE n g rows = 0) else if t = 4 then decide (chkC n cells = 0) else true))) = r) := by show _ = _; rw [← hr, pwOk, hbb]
 have ht5 : (t != 5) = true := by simp; omega
 clear hr T0 T1
 cases z
 ·rcases ht with rfl | rfl | rfl | rfl
  ·have HO : Hid (onlyB false false false false ⟨false, c, g, ra, rl, rc, rows, ca, cl, cc, cells, pa, pl, pc⟩ = bb) := hbb
   have HR2 : Hid (bb = r) := by show _ = _; rw [← HR.out]; simp
   clear hbb
   go_enter Try.func66, Try.ntmps66
   go_wp2_with fail
   refine (plainR_0 ⟨false, c, g, ra, rl, rc, rows, ca, cl, cc, cells, pa, pl, pc⟩ bb HO.out _).mono ?_
   rintro e w1 ⟨rfl, hb1⟩
   go_wp2_with fail
   go_ret
   exact ⟨rbool HR2.out, hB.out.trans (hb1.mono hB.out.size)⟩
  ·have HO : Hid (onlyB true false false false ⟨false, c, g, ra, rl, rc, rows, ca, cl, cc, cells, pa, pl, pc⟩ = bb) := hbb
   clear hbb
   cases bb
   ·have HR2 : Hid (false = r) := by show _ = _; rw [← HR.out]; simp
    go_enter Try.func66, Try.ntmps66
    go_wp2_with fail
    refine (plainR_1 ⟨false, c, g, ra, rl, rc, rows, ca, cl, cc, cells, pa, pl, pc⟩ false HO.out _).mono ?_
    rintro e w1 ⟨rfl, hb1⟩
    go_wp2_with fail
    go_ret
    exact ⟨rbool HR2.out, hB.out.trans (hb1.mono hB.out.size)⟩
   by_cases hc0 : 0 ≤ c
   ·have HR2 : Hid (decide (c ≤ n) = r) := by show _ = _; rw [← HR.out]; simp [hc0]
    go_enter Try.func66, Try.ntmps66
    go_wp2_with fail
    refine (plainR_1 ⟨false, c, g, ra, rl, rc, rows, ca, cl, cc, cells, pa, pl, pc⟩ true HO.out _).mono ?_
    rintro e w1 ⟨rfl, hb1⟩
    obtain ⟨⟨p0, p1, p2⟩, q0, q1, q2, q3, q4, q5⟩ := (HX.out _ hb1).out
    go_wp2_with fail
    go_ret
    exact ⟨rbool HR2.out, hB.out.trans (hb1.mono hB.out.size)⟩
   ·have HR2 : Hid (false = r) := by show _ = _; rw [← HR.out]; simp [hc0]
    go_enter Try.func66, Try.ntmps66
    go_wp2_with fail
    refine (plainR_1 ⟨false, c, g, ra, rl, rc, rows, ca, cl, cc, cells, pa, pl, pc⟩ true HO.out _).mono ?_
    rintro e w1 ⟨rfl, hb1⟩
    obtain ⟨⟨p0, p1, p2⟩, q0, q1, q2, q3, q4, q5⟩ := (HX.out _ hb1).out
    go_wp2_with fail
    go_ret
    exact ⟨rbool HR2.out, hB.out.trans (hb1.mono hB.out.size)⟩
  ·have HO : Hid (onlyB false true false false ⟨false, c, g, ra, rl, rc, rows, ca, cl, cc, cells, pa, pl, pc⟩ = bb) := hbb
   clear hbb
   cases bb
   ·have HR2 : Hid (false = r) := by show _ = _; rw [← HR.out]; simp
    go_enter Try.func66, Try.ntmps66
    go_wp2_with fail
    refine (plainR_2 ⟨false, c, g, ra, rl, rc, rows, ca, cl, cc, cells, pa, pl, pc⟩ false HO.out _).mono ?_
    rintro e w1 ⟨rfl, hb1⟩
    go_wp2_with fail
    go_ret
    exact ⟨rbool HR2.out, hB.out.trans (hb1.mono hB.out.size)⟩
   obtain ⟨ck, hck⟩ : ∃ k, checkE n g rows = k := ⟨_, rfl⟩
   have HCK := Lib.hid hck
   have HR3 : Hid ((ck == 0) = r) := by show _ = _; rw [← HR.out, hck, int_eq0]; simp
   clear hck
   go_enter Try.func66, Try.ntmps66
   go_wp2_with fail
   refine (plainR_2 ⟨false, c, g, ra, rl, rc, rows, ca, cl, cc, cells, pa, pl, pc⟩ true HO.out _).mono ?_
   rintro e w1 ⟨rfl, hb1⟩
   obtain ⟨⟨p0, p1, p2⟩, q0, q1, q2, q3, q4, q5⟩ := (HX.out _ hb1).out
   have hB1 := hB.out.trans (hb1.mono hB.out.size)
   go_wp2_with fail
   refine (checkR_is n ra rc g rows _ ((HF0.out.below hB1).fat HS.out) ck HCK.out rl HF0.out.rl).mono ?_
   rintro e w2 ⟨rfl, hb2⟩
   go_wp2_with fail
   go_ret
   exact ⟨rbool HR3.out, hB1.trans (hb2.mono hB1.size)⟩
  ·have HO : Hid (onlyB false false true false ⟨false, c, g, ra, rl, rc, rows, ca, cl, cc, cells, pa, pl, pc⟩ = bb) := hbb
   clear hbb
   obtain ⟨m, rfl⟩ : ∃ m : Nat, n = m := ⟨n.toNat, by have := HDIM.out.1; omega⟩
   have hm64 : m ≤ 64 := by have := HDIM.out.2.2.2 (.inr rfl); omega
   have hclen := HF0.out.cl
   dsimp only at hclen
   cases bb
   ·have HR2 : Hid (false = r) := by show _ = _; rw [← HR.out]; simp
    go_enter Try.func66, Try.ntmps66
    go_wp2_with fail
    refine (plainR_3 ⟨false, c, g, ra, rl, rc, rows, ca, cl, cc, cells, pa, pl, pc⟩ false HO.out _).mono ?_
    rintro e w1 ⟨rfl, hb1⟩
    go_wp2_with fail
    go_ret
    exact ⟨rbool HR2.out, hB.out.trans (hb1.mono hB.out.size)⟩
   have HR3 : Hid ((decide (cl = m) && cells.all (okAt m)) = r) := by
    show _ = _
    rw [← HR.out]
    have e := chkC_iff (cs := cells) (n := (m : Int)) ⟨by omega, by omega⟩
    rw [Int.toNat_natCast, hclen] at e
    simp [e]
    congr 1; rw [Bool.eq_iff_iff, decide_eq_true_eq, decide_eq_true_eq]; omega
   clear HDIM HR
   by_cases hlm : cl = m
   ·subst hlm
    have HRA : Hid (cells.all (okAt cl) = r) := by show _ = _; rw [← HR3.out]; simp
    have HL := Lib.hid hclen
    clear hclen HR3
    go_enter Try.func66, Try.ntmps66
    go_wp2_with fail
    refine (plainR_3 ⟨false, c, g, ra, rl, rc, rows, ca, cl, cc, cells, pa, pl, pc⟩ true HO.out _).mono ?_
    rintro e w1 ⟨rfl, hb1⟩
    obtain ⟨⟨p0, p1, p2⟩, q0, q1, q2, q3, q4, q5⟩ := (HX.out _ hb1).out
    clear x0 x1 x2 y0 y1 y2 y3 y4 y5
    go_wp2_with fail
    clear p0 p1 p2 q0 q1 q2 q3 q4 q5
    go_loopw [5] (fun i wr => ∃ k : Nat, k ≤ cl ∧ i = .int .i64 k ∧ Hid (∀ (i : Nat) x, i < k → cells[i]? = some x → okAt cl x = true) ∧ Below W0.heap.size W0 wr) (fun i _ => cl - (intOf i).toNat)
    case atStart => exact ⟨0, Nat.zero_le _, rfl, fun i x h => by omega, hb1⟩
    case round =>
     obtain ⟨k, hk, rfl, HK, hb⟩ := hrel
     obtain ⟨⟨p0, p1, p2⟩, q0, q1, q2, q3, q4, q5⟩ := (HX.out _ hb).out
     by_cases hlt : k < cl
     ·have hB2 := hB.out.trans (hb.mono hB.out.size)
      obtain ⟨b, off, ⟨cf, ck, cv⟩, rfl, hx, hbl, d0, d1, d2⟩ := (HF0.out.below hB2).cells.at_ (k := k) (by show k < cells.length; rw [HL.out]; exact hlt)
      have hcf : cf < 18446744073709551616 := HF0.out.bits _ (List.mem_of_getElem? hx)
      obtain ⟨ok, hok⟩ : ∃ o, okAt cl ⟨cf, ck, cv⟩ = o := ⟨_, rfl⟩
      have HOK := Lib.hid hok
      have g0 : (0 : Int) ≤ (k : Int) := by omega
      have g1 : (k : Int) < (cl : Int) := by omega
      have HBB2 := Lib.hid hb
      have HSS : Hid (∀ W : World, Below wr.heap.size wr W → (W.cell? ⟨w.heap.size, 1, none⟩ = some (.int .i64 cl) ∧ W.cell? ⟨w.heap.size + 1, 4, none⟩ = some (.slice (some ⟨b, off, none⟩) cl cc) ∧ W.cell? ⟨b, off + k * 3, none⟩ = some (.int .u64 (cf : Int)) ∧ W.cell? ⟨b, off + k * 3 + 1, none⟩ = some (.int .i64 ck) ∧ W.cell? ⟨b, off + k * 3 + 2, none⟩ = some (.int .i64 cv))) := fun W h => ⟨cell_old p1 h, cell_old q4 h, cell_old d0 h, cell_old d1 h, cell_old d2 h⟩
      cases ok
      ·have HRF : Hid (false = r) := by show _ = _; rw [← HRA.out, eq_comm, List.all_eq_false]; exact ⟨_, List.mem_of_getElem? hx, by rw [hok]; simp⟩
       clear hx hok
       go_wp2_with fail
       go_region_held3 (fun w' => w'.cell? ⟨w.heap.size, 1, none⟩ = some (.int .i64 cl) ∧ w'.cell? ⟨w.heap.size + 1, 4, none⟩ = some (.slice (some ⟨b, off, none⟩) cl cc) ∧ w'.cell? ⟨b, off + k * 3, none⟩ = some (.int .u64 (cf : Int)) ∧ w'.cell? ⟨b, off + k * 3 + 1, none⟩ = some (.int .i64 ck) ∧ w'.cell? ⟨b, off + k * 3 + 2, none⟩ = some (.int .i64 cv))
        (first | exact HSS.out _ (Below.refl _ _).drew | exact HSS.out _ (Below.refl _ _) | exact HSS.out _ D1.out | fail)
        (first | (go_at_call 91; refine (cellR_is cl hm64 cf ck cv hcf false HOK.out _).mono ?_; rintro e w3 ⟨rfl, hb3⟩; have D1 : Hid (Below wr.heap.size wr w3) := (Below.refl _ _).drew.trans hb3) | fail)
       all_goals
        go_wp2_with fail
        go_ret
        exact ⟨rbool HRF.out, hB2.trans (D1.out.mono hB2.size)⟩
      ·have HN : Hid (∀ (i : Nat) x, i < k + 1 → cells[i]? = some x → okAt cl x = true) := fun i y hi hy => by
        by_cases e : i = k
        ·subst e; rw [hx] at hy; cases hy; exact hok
        ·exact HK.out i y (by omega) hy
       clear hx hok
       go_wp2_with fail
       go_region_held3 (fun w' => w'.cell? ⟨w.heap.size, 1, none⟩ = some (.int .i64 cl) ∧ w'.cell? ⟨w.heap.size + 1, 4, none⟩ = some (.slice (some ⟨b, off, none⟩) cl cc) ∧ w'.cell? ⟨b, off + k * 3, none⟩ = some (.int .u64 (cf : Int)) ∧ w'.cell? ⟨b, off + k * 3 + 1, none⟩ = some (.int .i64 ck) ∧ w'.cell? ⟨b, off + k * 3 + 2, none⟩ = some (.int .i64 cv))
        (first | exact HSS.out _ (Below.refl _ _).drew | exact HSS.out _ (Below.refl _ _) | exact HSS.out _ D1.out | fail)
        (first | (go_at_call 91; refine (cellR_is cl hm64 cf ck cv hcf true HOK.out _).mono ?_; rintro e w3 ⟨rfl, hb3⟩; have D1 : Hid (Below wr.heap.size wr w3) := (Below.refl _ _).drew.trans hb3) | fail)
       all_goals
        go_wp2_with fail
        go_roundw
        case rel => exact ⟨k + 1, by omega, by go_num, HN, HBB2.out.trans (D1.out.mono HBB2.out.size)⟩
        case measure => simp [intOf]; omega
     ·have HRT : Hid (true = r) := by show _ = _; rw [← HRA.out, all_upto HK.out (by rw [HL.out]; omega)]
      have g1 : (cl : Int) ≤ (k : Int) := by omega
      go_wp2_with fail
      go_ret
      exact ⟨rbool HRT.out, hB.out.trans (hb.mono hB.out.size)⟩
   ·have HR2 : Hid (false = r) := by show _ = _; rw [← HR3.out]; simp [hlm]
    have hne : ((cl : Int) != (m : Int)) = true := by simp; omega
    clear hlm hclen
    go_enter Try.func66, Try.ntmps66
    go_wp2_with fail
    refine (plainR_3 ⟨false, c, g, ra, rl, rc, rows, ca, cl, cc, cells, pa, pl, pc⟩ true HO.out _).mono ?_
    rintro e w1 ⟨rfl, hb1⟩
    obtain ⟨⟨p0, p1, p2⟩, q0, q1, q2, q3, q4, q5⟩ := (HX.out _ hb1).out
    go_wp2_with fail
    go_ret
    exact ⟨rbool HR2.out, hB.out.trans (hb1.mono hB.out.size)⟩
 ·have HO : Hid (onlyB false false false false ⟨true, c, g, ra, rl, rc, rows, ca, cl, cc, cells, pa, pl, pc⟩ = bb) := hbb
  have HR2 : Hid (bb = r) := by show _ = _; rw [← HR.out]; simp
  clear hbb HR ht
  go_enter Try.func66, Try.ntmps66
  go_wp2_with fail
  refine (plainR_0 ⟨true, c, g, ra, rl, rc, rows, ca, cl, cc, cells, pa, pl, pc⟩ bb HO.out _).mono ?_
  rintro e w1 ⟨rfl, hb1⟩
  go_wp2_with fail
  go_ret
  exact ⟨rbool HR2.out, hB.out.trans (hb1.mono hB.out.size)⟩
end Go.Proofs.Ytpkcaabbcoiiiaa
