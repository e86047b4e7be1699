import Derived.Orders
import Derived.Below
import Derived.Deep.RegionHeld
import Derived.WalkKit
import Derived.KernelRfl
import Derived.Laws.Rows
import Derived.Laws.AppendOwn
import Derived.Laws.Strings
import Derived.Laws.Small
import Derived.Lib.Hide
import Derived.IntWalk
import Derived.Laws.Tables
import Derived.Laws.Concat
import Derived.Laws.MakeOwn
import Derived.Lib.OwnBridge
import Derived.WideKeyEntry
import Derived.DeepKeys4
import Derived.Lib.AppendZeros
import Derived.Test.YtpkcaabbcoiiiaaProg
import Derived.Test.YtpkcaabbcoiiiaaRows
import Derived.Lib.LaidTab
import Derived.Lib.ItoaNum
import Derived.Lib.TrailingZeros
import Derived.Stop.LaidErr
import Derived.WalkSmall
import Derived.LaidMore
import Derived.Shelf.Spec.TrailingZeros
import Derived.Laws.BitsAllLaws
import Derived.Laws.Bits64
import Derived.Deep.QuietTactic
import Derived.BigQuiet
import Derived.RegionTactic
import Derived.BigRegion
import Derived.Deep.RegionHeld3
import Derived.ChangeAlike
import Derived.RangeFuncNested
import Derived.RangeFuncBound
import Derived.RangeFuncCalls
import Derived.RangeFuncLeaves
import Derived.Shelf.Abstract
import Derived.Shelf.RegionOpen
import Derived.OwnWalkIn
import Derived.TacticsInMore
import Derived.LoopNIn
import Derived.LoopIn
import Derived.Laws.Bits128
import Derived.Deep.AppendLies
import Derived.Maps.AppendAt
import Derived.Ground.Names2Prog
import Derived.Shelf.Slices.Clone
import Derived.Sort.Grow
import Derived.Lib.OthersKept
import Derived.Laws.IdiomStrings
import Derived.StillTailTactics
import Derived.Deep.RegionLaw
import Derived.Deep.DeepCutAuto
import Derived.Deep.CutRange
import Derived.Deep.RegionWith
import Derived.Laws.Bits64b
import Derived.Deep.DrawnRows
import Derived.Lib.SliceRun
import Derived.Laws.OwnMore
import Derived.OwnWalk
import Derived.WalkSpells
import Derived.Lib.Join
import Derived.Test.YtpkcaabbcoiiiaaPsA
import Derived.Test.YtpkcaabbcoiiiaaPsB
import Derived.Test.YtpkcaabbcoiiiaaPsC
set_option maxRecDepth 100000
set_option maxHeartbeats 4000000
set_option linter.unusedVariables false
set_option linter.unusedVariables false
set_option linter.unusedSimpArgs false
set_option linter.unusedSectionVars false
set_option linter.unnecessarySimpa false
namespace Go.Proofs.Ytpkcaabbcoiiiaa
open Go.RowKit
def FOwn (gen : Nat) (rows : List Nat) (err : Int) (w : World) (e : Ending) (w' : World) : Prop :=
 ∃ v, e = .returned (.tuple #[.agg #[.int .u64 (gen : Int), v], .int .i64 err]) ∧ w'.ownsRow w.heap.size 38 1 v rows.length (u64s rows) ∧ Below w.heap.size w w'
theorem fown_nil {w w' : World} (err : Int) (hb : Below w.heap.size w w') : FOwn 0 [] err w (.returned (.tuple #[.agg #[.int .u64 0, .slice none 0 0], .int .i64 err])) w' :=
 ⟨_, rfl, World.ownsRow_nil _ _ _ _, hb⟩
theorem fown_own {w w' : World} {gen n : Nat} {v : Value} {rows : List Nat} (h : w'.ownsRow w.heap.size 38 1 v n (u64s rows)) (hb : Below w.heap.size w w') (err : Int) : FOwn gen rows err w (.returned (.tuple #[.agg #[.int .u64 (gen : Int), v], .int .i64 err])) w' := by
 have hn : n = rows.length := by have := h.1; rw [u64s_length] at this; omega
 subst hn
 exact ⟨v, rfl, h, hb⟩
theorem FOwn.ret {gen : Nat} {rows : List Nat} {err : Int} {w w' : World} {e : Ending} (h : FOwn gen rows err w e w') : FRet gen rows err w e w' := by
 obtain ⟨v, rfl, ho, hb⟩ := h
 exact fret_own (Nat.le_refl _) ho hb err
def onesL (m : Nat) : List Nat := (List.range m).map fun i => 2 ^ i
theorem onesL_length (m : Nat) : (onesL m).length = m := by simp [onesL]
theorem onesL_at {m k : Nat} (h : k < m) : (onesL m)[k]? = some (2 ^ k) := by
 unfold onesL
 rw [List.getElem?_map, List.getElem?_range h]; rfl
def oneV (n : Int) : List Nat := if dimB n = true then onesL n.toNat else []
def oneE (n : Int) : Int := if dimB n = true then 0 else 31
set_option maxHeartbeats 2000000 in
theorem oneA_is (n : Int) (w : World) (e0 : Int) (he : oneE n = e0) (ys : List Nat) (hys : oneV n = ys) :
  Calls Try.prog 111 #[.int .i64 n] w (FOwn 0 ys e0 w) := by
 have hB0 : Below w.heap.size w (w.alloc (.cells #[.int .u64 0, .slice none 0 0] 41)) := (Below.refl _ _).alloc (Nat.le_refl _) _
 have T0 := Lib.hid (heapV_new w (.cells #[.int .u64 0, .slice none 0 0] 41))
 obtain ⟨i0, hi, hz0, hz1, hz2⟩ := info_parts infoU
 cases hd : dimB n
 ·obtain rfl : 31 = e0 := by rw [← he, oneE, hd]; rfl
  obtain rfl : [] = ys := by rw [← hys, oneV, hd]; rfl
  obtain ⟨d0, d1, df⟩ := two_cells T0.out
  have f0 := df 0; have f1 := df 1
  have hx : n < 0 ∨ 64 < n := by
   by_cases h : n < 0
   ·exact .inl h
   ·simp [dimB, show 0 ≤ n by omega] at hd; exact .inr hd
  clear df hd he hys
  rcases hx with hx | hx
  all_goals
   go_enter Try.func111, Try.ntmps111
   go_wp2
   refine bodyPost_ret (v := .tuple #[.agg #[.int .u64 0, .slice none 0 0], .int .i64 31]) ?_ rfl (fown_nil 31 hB0)
   simp [results, Try.results111, go_sem, d0, d1]
 ·obtain ⟨m, rfl, hm⟩ := dim_nat hd
  obtain rfl : 0 = e0 := by rw [← he, oneE, hd]; rfl
  have HY : Hid (onesL m = ys) := by show _ = _; rw [← hys, oneV, hd, if_pos rfl, Int.toNat_natCast]
  have hm0 : (0 : Int) ≤ (m : Int) := by omega
  have hm64 : (m : Int) ≤ 64 := by omega
  clear hd he hys
  go_enter Try.func111, Try.ntmps111
  go_wp2_with (at_make; go_loud (refine wpList_make_full _ rfl (.tmp 13) (.tmp 13) 39 rfl w.heap.size 38 i0 _ 1 Try.underlying39 hi hz0 hz1 .i64 .i64 (m : Int) (m : Int) m rfl rfl rfl rfl (by rw [hz2]; omega) (by unfold maxLen; omega) hB0.size ?_; intro w2 hown2 hgrow2))
  have hbl : (w.alloc (.cells #[.int .u64 0, .slice none 0 0] 41)).heap.size = w.heap.size + 1 := by simp
  have hzz : Hid (w2.ownsRow w.heap.size 38 1 (.slice (some ⟨w.heap.size + 1, 0, none⟩) m m) m (u64s (mixL (onesL m) (List.replicate m 0) 0))) := by
   rw [mixL_zero, ← hbl]
   have e : u64s (List.replicate m 0) = List.replicate m (.int .u64 0) := by simp [u64s]
   have e2 : (madeCells (Value.int IntKind.u64 0).cells (m * 1)).toList = List.replicate m (.int .u64 0) := by
    rw [Nat.mul_one]
    apply List.ext_getElem
    ·simp [madeCells]
    ·intro i h1 h2
     simp [madeCells, Value.cells, Nat.mod_one]
   rw [e, ← e2]
   exact hown2
  have U0 := Lib.hid ((hgrow2.block _ (Array.getElem?_eq_some_iff.1 T0.out).1 (by simp)).trans T0.out)
  have hB2 : Below w.heap.size w w2 := hB0.grown hgrow2 hB0.size (fun j e => by cases e)
  clear hown2
  go_wp2_with fail
  go_loopw [17] (fun i wr => ∃ k : Nat, k ≤ m ∧ i = .int .i64 k ∧ Hid (wr.ownsRow w.heap.size 38 1 (.slice (some ⟨w.heap.size + 1, 0, none⟩) m m) m (u64s (mixL (onesL m) (List.replicate m 0) k))) ∧ Hid (wr.heap[w.heap.size]? = some (.cells #[.int .u64 0, .slice none 0 0] 41 (0, 0))) ∧ Below w.heap.size w wr) (fun i _ => m - (intOf i).toNat)
  case atStart => exact ⟨0, Nat.zero_le _, rfl, hzz, U0, hB2⟩
  case round =>
   obtain ⟨k, hk, rfl, HO, HR, hb⟩ := hrel
   by_cases hlt : k < m
   ·have hsh : IntKind.u64.wrap ((2 : Int) ^ k) = ((2 ^ k : Nat) : Int) := by
     have hpw : 2 ^ k ≤ 9223372036854775808 := pow_lt64 (by omega)
     rw [IntKind.wrap_u64]
     have e : ((2 : Int) ^ k) = ((2 ^ k : Nat) : Int) := by simp
     rw [e]
     generalize 2 ^ k = q at *
     omega
    have hxk : (List.replicate m 0)[k]? = some 0 := by simp [hlt]
    have HM := Lib.hid (mixL_set (onesL_at hlt) hxk)
    obtain ⟨q, hq⟩ : ∃ q : Nat, 2 ^ k = q := ⟨_, rfl⟩
    rw [hq] at hsh HM
    have q0 := HO.out.frozenAt k
    have d0 := (HO.out.cellAt k (by omega)).trans (u64s_get (mixL_at (by rw [onesL_length]; simp) hxk))
    have g0 : (0 : Int) ≤ (k : Int) := by omega
    have g3 : (k : Int) < (m : Int) := by omega
    have HO2 : Hid ((wr.setCell ⟨w.heap.size + 1, k, none⟩ (.int .u64 (q : Int))).ownsRow w.heap.size 38 1 (.slice (some ⟨w.heap.size + 1, 0, none⟩) m m) m (u64s (mixL (onesL m) (List.replicate m 0) (k + 1)))) := by
     rw [← HM.out, ← u64s_set]
     exact (HO.out.stored k _).1
    have HR2 := Lib.hid (heap_other (B := w.heap.size + 1) (j := k) (c := .int .u64 (q : Int)) HR.out (by omega))
    have hb2 := hb.setCell (p := ⟨w.heap.size + 1, k, none⟩) (by simp) (.int .u64 (q : Int))
    clear hxk hq
    go_wp2
    go_roundw
    case rel => exact ⟨k + 1, by omega, by go_num, HO2, HR2, hb2⟩
    case measure => simp [intOf]; omega
   ·obtain rfl : k = m := by omega
    have HO2 : Hid (wr.ownsRow w.heap.size 38 1 (.slice (some ⟨w.heap.size + 1, 0, none⟩) k k) k (u64s ys)) := by
     have := HO.out
     have e : mixL (onesL k) (List.replicate k 0) k = onesL k := by
      have := mixL_all (ys := onesL k) (xs := List.replicate k 0) (by rw [onesL_length]; simp)
      simpa using this
     rwa [e, HY.out] at this
    obtain ⟨r0, r1, rf⟩ := two_cells HR.out
    have rf0 := rf 0; have rf1 := rf 1
    have N1 := Lib.hid (two_set1 (c := .slice (some ⟨w.heap.size + 1, 0, none⟩) k k) (two_set0 (c := .int .u64 0) HR.out))
    obtain ⟨s0, s1, _⟩ := two_cells N1.out
    have HO5 := Lib.hid ((HO2.out.kept (grownBy_set _ _ 0 (.int .u64 0)) (.inr (not_row HR.out (by decide) HO2.out).symm)).kept (grownBy_set _ w.heap.size 1 (.slice (some ⟨w.heap.size + 1, 0, none⟩) k k)) (.inr (not_row HR.out (by decide) HO2.out).symm))
    have HB5 := Lib.hid ((hb.setCell (p := ⟨w.heap.size, 0, none⟩) (Nat.le_refl _) (.int .u64 0)).setCell (p := ⟨w.heap.size, 1, none⟩) (Nat.le_refl _) (.slice (some ⟨w.heap.size + 1, 0, none⟩) k k))
    clear rf
    go_wp2
    refine bodyPost_ret (v := .tuple #[.agg #[.int .u64 0, .slice (some ⟨w.heap.size + 1, 0, none⟩) k k], .int .i64 0]) ?_ rfl (fown_own (gen := 0) HO5.out HB5.out 0)
    simp [results, Try.results111, go_sem, s0, s1]
theorem oneR_is (n : Int) (w : World) (e0 : Int) (he : oneE n = e0) (ys : List Nat) (hys : oneV n = ys) :
  Calls Try.prog 64 #[.int .i64 n] w (FOwn 0 ys e0 w) := by
 have hB0 : Below w.heap.size w (w.alloc (.cells #[.int .u64 0, .slice none 0 0] 41)) := (Below.refl _ _).alloc (Nat.le_refl _) _
 have T0 := Lib.hid (heapV_new w (.cells #[.int .u64 0, .slice none 0 0] 41))
 obtain ⟨i0, hi, hz0, hz1, hz2⟩ := info_parts infoU
 cases hd : dimB n
 ·obtain rfl : 31 = e0 := by rw [← he, oneE, hd]; rfl
  obtain rfl : [] = ys := by rw [← hys, oneV, hd]; rfl
  have HD := Lib.hid hd
  obtain ⟨d0, d1, df⟩ := two_cells T0.out
  have f0 := df 0; have f1 := df 1
  clear df hd he hys
  go_enter Try.func64, Try.ntmps64
  go_wp2_with fail
  refine (dim_is n false HD.out _).mono ?_
  rintro e w1 ⟨rfl, rfl⟩
  go_wp2
  refine bodyPost_ret (v := .tuple #[.agg #[.int .u64 0, .slice none 0 0], .int .i64 31]) ?_ rfl (fown_nil 31 hB0)
  simp [results, Try.results64, go_sem, d0, d1]
 ·have HD := Lib.hid hd
  obtain ⟨m, rfl, hm⟩ := dim_nat hd
  obtain rfl : 0 = e0 := by rw [← he, oneE, hd]; rfl
  have HY : Hid (onesL m = ys) := by show _ = _; rw [← hys, oneV, hd, if_pos rfl, Int.toNat_natCast]
  have HYL : Hid (ys.length = m) := by show _ = _; rw [← HY.out, onesL_length]
  clear hd he hys
  obtain ⟨t0, t1⟩ := two_boxes w #[.int .u64 0, .slice none 0 0] #[.int .u64 0, .slice none 0 0] 41
  have A0 := Lib.hid t0; have A1 := Lib.hid t1
  clear t0 t1
  go_enter Try.func64, Try.ntmps64
  go_wp2_with fail
  refine (dim_is m true HD.out _).mono ?_
  rintro e w1 ⟨rfl, rfl⟩
  go_wp2_with fail
  go_loopw [5] (fun i wr => ∃ (k : Nat) (v : Value), k ≤ m ∧ i = .int .i64 k ∧ Hid (wr.heap[w.heap.size]? = some (.cells #[.int .u64 0, .slice none 0 0] 41 (0, 0))) ∧ Hid (wr.heap[w.heap.size + 1]? = some (.cells #[.int .u64 0, v] 41 (0, 0))) ∧ Hid (wr.ownsRow w.heap.size 38 1 v k (u64s (ys.take k))) ∧ Below w.heap.size w wr) (fun i _ => m - (intOf i).toNat)
  case atStart => exact ⟨0, .slice none 0 0, Nat.zero_le _, rfl, A0, A1, World.ownsRow_nil _ _ _ _, hB0.alloc (by simp) _⟩
  case round =>
   obtain ⟨k, v, hk, rfl, B1, B2, HO, hb⟩ := hrel
   obtain ⟨e0, e1, ef⟩ := two_cells B2.out
   have ef1 := ef 1
   by_cases hlt : k < m
   ·obtain ⟨y, hy⟩ : ∃ y : Nat, 2 ^ k = y := ⟨_, rfl⟩
    have HYK := Lib.hid hy
    have HT : Hid (ys.take (k + 1) = ys.take k ++ [y]) := by
     show _ = _
     have h2 : ys[k]? = some y := by rw [← HY.out, onesL_at hlt, hy]
     obtain ⟨hk2, e⟩ := List.getElem?_eq_some_iff.1 h2
     rw [List.take_succ_eq_append_getElem hk2, e]
    have q1 : (wr.alloc (.cells #[.int .u64 (y : Int)] 38)).cell? ⟨w.heap.size + 1, 1, none⟩ = some v := (two_cells (heap_allocd B2.out _)).2.1
    clear hy ef
    go_wp2_with fail
    go_region_law (first | (refine step_append_lies (wr.drew.alloc (.cells #[.int .u64 (y : Int)] 38)) ?_ (.tmp 17) (.tmp 20) 39 ?_ w.heap.size 38 i0 _ 1 8 Try.underlying39 hi hz0 hz1 hz2 ?_ ?_ v k (u64s (ys.take k)) ?_ ?_ ⟨wr.heap.size, 0, none⟩ 1 1 [.int .u64 (y : Int)] ?_ ?_ ?_ ?_ ?_ ?_ ?_ ?_ (wr.heap.size + 1) ?_ ?_; rfl; rfl; rfl; omega; rfl; exact (HO.out : (wr.drew).ownsRow _ _ _ _ _ _).alloc _; rfl; rfl; exact (World.news_of_block (cs := #[.int .u64 (y : Int)]) (t := 38) (fr := (0, 0)) (heapV_new wr.drew _)); simp [Value.oneCell']; omega; (unfold maxLen; omega); omega; (have := hb.size; simp; omega); simp; intro gg cp w5 hown1 hgrow hat hlt5; have hB4 : Below w.heap.size w w5 := (hb.drew.alloc hb.size _).grown hgrow (by have := hb.size; simp; omega) (fun j e => (HO.out.lt j e).1); have D1 := Lib.hid (heap_grown (heap_allocd (w := wr.drew) B1.out (.cells #[.int .u64 (y : Int)] 38)) (by decide) ((HO.out : (wr.drew).ownsRow _ _ _ _ _ _).alloc _) hgrow); have D2 := Lib.hid (heap_grown (heap_allocd (w := wr.drew) B2.out (.cells #[.int .u64 (y : Int)] 38)) (by decide) ((HO.out : (wr.drew).ownsRow _ _ _ _ _ _).alloc _) hgrow); obtain ⟨_, d1, df⟩ := two_cells D2.out; have df1 := df 1; clear df) | (go_simp; go_at_call 65; refine (worth_at k k y rfl HYK.out (by omega) _).mono ?_; rintro e w3 ⟨rfl, rfl⟩) | fail)
    all_goals
     have HO5 := Lib.hid (show (w5.setCell ⟨w.heap.size + 1, 1, none⟩ (.slice (some ⟨gg, 0, none⟩) (k + 1) cp)).ownsRow w.heap.size 38 1 (.slice (some ⟨gg, 0, none⟩) (k + 1) cp) (k + 1) (u64s (ys.take (k + 1))) by
      rw [HT.out, u64s_snoc]; exact hown1.kept (grownBy_set w5 _ _ _) (.inr (not_row D2.out (by decide) hown1).symm))
     have N1 := Lib.hid (heap_other (B := w.heap.size + 1) (j := 1) (c := .slice (some ⟨gg, 0, none⟩) (k + 1) cp) D1.out (by omega))
     have N2 := Lib.hid (two_set1 (c := .slice (some ⟨gg, 0, none⟩) (k + 1) cp) D2.out)
     have NB := Lib.hid (hB4.setCell (p := ⟨w.heap.size + 1, 1, none⟩) (by simp) (.slice (some ⟨gg, 0, none⟩) (k + 1) cp))
     clear hown1 hgrow hat d1 df1 q1 e0 e1 ef1
     go_wp2
     go_roundw
     case rel => exact ⟨k + 1, _, by omega, by go_num, N1, N2, HO5, NB.out⟩
     case measure => simp [intOf]; omega
   ·obtain rfl : k = m := by omega
    obtain ⟨r0, r1, rf⟩ := two_cells B1.out
    have rf0 := rf 0; have rf1 := rf 1
    have HO2 : Hid (wr.ownsRow w.heap.size 38 1 v k (u64s ys)) := by
     have := HO.out
     rwa [List.take_of_length_le (by rw [HYL.out]; exact Nat.le_refl _)] at this
    obtain ⟨a3, cap3, hv3⟩ := own_slice HO2.out
    subst hv3
    have N1 := Lib.hid (two_set1 (c := .slice a3 k cap3) (two_set0 (c := .int .u64 0) B1.out))
    obtain ⟨s0, s1, _⟩ := two_cells N1.out
    have HO5 := Lib.hid ((HO2.out.kept (grownBy_set _ _ 0 (.int .u64 0)) (.inr (not_row B1.out (by decide) HO2.out).symm)).kept (grownBy_set _ w.heap.size 1 (.slice a3 k cap3)) (.inr (not_row B1.out (by decide) HO2.out).symm))
    have HB5 := Lib.hid ((hb.setCell (p := ⟨w.heap.size, 0, none⟩) (Nat.le_refl _) (.int .u64 0)).setCell (p := ⟨w.heap.size, 1, none⟩) (Nat.le_refl _) (.slice a3 k cap3))
    clear rf ef
    go_wp2
    refine bodyPost_ret (v := .tuple #[.agg #[.int .u64 0, .slice a3 k cap3], .int .i64 0]) ?_ rfl (fown_own (gen := 0) HO5.out HB5.out 0)
    simp [results, Try.results64, go_sem, s0, s1]
end Go.Proofs.Ytpkcaabbcoiiiaa
namespace Go.Proofs.Ytpkcaabbcoiiiaa
open Go.RowKit
theorem u64_nat {a : Int} (h : (Lit.int .u64 a).wf = true) : ∃ n : Nat, a = n ∧ n < 18446744073709551616 := by
 simp only [Lit.wf, IntKind.min, IntKind.max, IntKind.signed, IntKind.bits, Bool.and_eq_true, decide_eq_true_eq] at h
 simp at h
 exact ⟨a.toNat, by omega, by omega⟩
end Go.Proofs.Ytpkcaabbcoiiiaa
namespace Go.Proofs.Ytpkcaabbcoiiiaa
open Go.RowKit
theorem same_self (g : Nat) (zs : List Nat) : sameB g zs g zs = true := by simp [sameB]
end Go.Proofs.Ytpkcaabbcoiiiaa
namespace Go.Proofs.Ytpkcaabbcoiiiaa
open Go.RowKit
theorem mem_iff {s i : Nat} : i ∈ mem s ↔ i < 64 ∧ s.testBit i = true := ⟨fun h => ⟨mem_lt h, mem_bit h⟩, fun h => mem_of_bit h.1 h.2⟩
theorem acc_bit (rows : List Nat) (j : Nat) : ∀ (l : List Nat) (g : Nat), (accF rows g l).testBit j = true ↔ g.testBit j = true ∨ ∃ i ∈ l, (rows.getD i 0).testBit j = true
 | [], g => by simp [accF]
 | x :: l, g => by
  have := acc_bit rows j l (g ||| rows.getD x 0)
  rw [show accF rows g (x :: l) = accF rows (g ||| rows.getD x 0) l from rfl, this, Nat.testBit_or, Bool.or_eq_true]
  simp only [List.mem_cons, exists_eq_or_imp]
  exact or_assoc
theorem made_bit {g s j : Nat} {rows : List Nat} : (madeF g rows s).testBit j = true ↔ g.testBit j = true ∨ ∃ i, (i < 64 ∧ s.testBit i = true) ∧ (rows.getD i 0).testBit j = true := by
 rw [madeF, acc_bit]
 simp only [mem_iff]
theorem bit_ext {a b : Nat} (h : ∀ j, a.testBit j = true ↔ b.testBit j = true) : a = b := by
 apply Nat.eq_of_testBit_eq
 intro j
 rw [Bool.eq_iff_iff]; exact h j
theorem andn_iff {a b j : Nat} (ha : a < 18446744073709551616) (hb : b < 18446744073709551616) : (andn a b).testBit j = true ↔ a.testBit j = true ∧ ¬ b.testBit j = true := by
 rw [andn_bit ha hb]; simp
theorem getD_lt {rows : List Nat} (h : ∀ r ∈ rows, r < 18446744073709551616) (i : Nat) : rows.getD i 0 < 18446744073709551616 := by
 rw [List.getD_eq_getElem?_getD]
 cases hx : rows[i]? with
 | none => simp
 | some y => exact h y (List.mem_of_getElem? hx)
theorem getD_canon {g : Nat} {rows : List Nat} (i : Nat) : (canonL g rows).getD i 0 = andn (rows.getD i 0) g := by
 rw [List.getD_eq_getElem?_getD, List.getD_eq_getElem?_getD, canonL, List.getElem?_map]
 cases rows[i]? <;> simp [andn]
theorem made_canon {g : Nat} {rows : List Nat} (hg : g < 18446744073709551616) (hr : ∀ r ∈ rows, r < 18446744073709551616) (s : Nat) : madeF g (canonL g rows) s = madeF g rows s := by
 apply bit_ext; intro j
 rw [made_bit, made_bit]
 constructor
 ·rintro (h | ⟨i, hi, h⟩)
  ·exact .inl h
  ·rw [getD_canon, andn_iff (getD_lt hr i) hg] at h
   exact .inr ⟨i, hi, h.1⟩
 ·rintro (h | ⟨i, hi, h⟩)
  ·exact .inl h
  ·by_cases hj : g.testBit j = true
   ·exact .inl hj
   ·exact .inr ⟨i, hi, by rw [getD_canon, andn_iff (getD_lt hr i) hg]; exact ⟨h, hj⟩⟩
theorem getD_map {f : Nat → Nat} {xs : List Nat} (i : Nat) : (xs.map f).getD i 0 = if i < xs.length then f (xs.getD i 0) else 0 := by
 rw [List.getD_eq_getElem?_getD, List.getD_eq_getElem?_getD, List.getElem?_map]
 split
 ·rename_i h; rw [List.getElem?_eq_getElem h]; rfl
 ·rename_i h; rw [List.getElem?_eq_none (by omega)]; rfl
theorem made_then {ga gb : Nat} {xs ys : List Nat} (s : Nat) : madeF (madeF gb ys ga) (xs.map (madeF gb ys)) s = madeF gb ys (madeF ga xs s) := by
 apply bit_ext; intro j
 rw [made_bit, made_bit, made_bit]
 simp only [made_bit]
 constructor
 ·rintro ((h | ⟨k, ⟨hk, hk2⟩, h⟩) | ⟨i, hi, h⟩)
  ·exact .inl h
  ·exact .inr ⟨k, ⟨hk, .inl hk2⟩, h⟩
  ·rw [getD_map] at h
   split at h
   ·rw [made_bit] at h
    rcases h with h | ⟨k, ⟨hk, hk2⟩, h⟩
    ·exact .inl h
    ·exact .inr ⟨k, ⟨hk, .inr ⟨i, hi, hk2⟩⟩, h⟩
   ·simp at h
 ·rintro (h | ⟨k, ⟨hk, (hk2 | ⟨i, hi, hk2⟩)⟩, h⟩)
  ·exact .inl (.inl h)
  ·exact .inl (.inr ⟨k, ⟨hk, hk2⟩, h⟩)
  ·refine .inr ⟨i, hi, ?_⟩
   rw [getD_map]
   split
   ·rw [made_bit]; exact .inr ⟨k, ⟨hk, hk2⟩, h⟩
   ·rename_i hn
    rw [List.getD_eq_getElem?_getD, List.getElem?_eq_none (by omega)] at hk2
    simp at hk2
structure Good (m : Nat) (g : Nat) (rows : List Nat) : Prop where
 hm : m ≤ 64
 hl : rows.length = m
 hg : g < 2 ^ m
 hr : ∀ r ∈ rows, r < 2 ^ m
 hc : ∀ r ∈ rows, r &&& g = 0
theorem Good.g64 {m g : Nat} {rows : List Nat} (h : Good m g rows) : g < 18446744073709551616 := Nat.lt_of_lt_of_le h.hg (pow_le64 h.hm)
theorem Good.r64 {m g : Nat} {rows : List Nat} (h : Good m g rows) : ∀ r ∈ rows, r < 18446744073709551616 := fun r hr => Nat.lt_of_lt_of_le (h.hr r hr) (pow_le64 h.hm)
theorem good_check {m g : Nat} {rows : List Nat} (h : Good m g rows) : checkE m g rows = 0 := by
 have hd : dimB m = true := by simp [dimB]; have := h.hm; omega
 have h1 : shapeB m g rows = true := by
  unfold shapeB
  simp only [Bool.and_eq_true, decide_eq_true_eq, List.all_eq_true]
  exact ⟨h.hl, (insN_iff h.hm h.g64).2 h.hg, fun r hr => (insN_iff h.hm (h.r64 r hr)).2 (h.hr r hr)⟩
 have h2 : clearB g rows = true := by
  unfold clearB
  rw [List.all_eq_true]
  intro r hr
  have := h.hc r hr
  simp [this]
 unfold checkE
 rw [if_pos hd, Int.toNat_natCast, h1, h2]; rfl
theorem check_good {n : Int} {g : Nat} {rows : List Nat} (hg : g < 18446744073709551616) (hr : ∀ r ∈ rows, r < 18446744073709551616) (h : checkE n g rows = 0) : ∃ m : Nat, n = m ∧ Good m g rows := by
 obtain ⟨hd, hs, hc⟩ := checkE_ok h
 obtain ⟨m, rfl, hm⟩ := dim_nat hd
 rw [Int.toNat_natCast] at hs
 obtain ⟨hl, ig, ir⟩ := shapeB_len hs
 unfold clearB at hc
 rw [List.all_eq_true] at hc
 exact ⟨m, rfl, hm, hl, (insN_iff hm hg).1 ig, fun r h => (insN_iff hm (hr r h)).1 (ir r h), fun r h => by simpa using hc r h⟩
theorem canon_good {m g : Nat} {rows : List Nat} (hm : m ≤ 64) (hl : rows.length = m) (hg : g < 2 ^ m) (hr : ∀ r ∈ rows, r < 2 ^ m) : Good m g (canonL g rows) where
 hm := hm
 hl := by rw [canonL_length, hl]
 hg := hg
 hr := fun r h => by
  obtain ⟨x, hx, rfl⟩ := List.mem_map.1 h
  exact Nat.lt_of_le_of_lt Nat.and_le_left (hr x hx)
 hc := fun r h => by
  obtain ⟨x, hx, rfl⟩ := List.mem_map.1 h
  have h1 := Nat.lt_of_lt_of_le (hr x hx) (pow_le64 hm)
  have h2 := Nat.lt_of_lt_of_le hg (pow_le64 hm)
  apply Nat.eq_of_testBit_eq
  intro j
  rw [Nat.testBit_and, andn_bit h1 h2, Nat.zero_testBit]
  cases x.testBit j <;> cases g.testBit j <;> rfl
theorem acc_small {m : Nat} {rows : List Nat} (hr : ∀ r ∈ rows, r < 2 ^ m) : ∀ (l : List Nat) (g : Nat), g < 2 ^ m → accF rows g l < 2 ^ m
 | [], g, h => h
 | x :: l, g, h => by
  have : rows.getD x 0 < 2 ^ m := by
   rw [List.getD_eq_getElem?_getD]
   cases hx : rows[x]? with
   | none => exact Nat.two_pow_pos m
   | some y => exact hr y (List.mem_of_getElem? hx)
  exact acc_small hr l _ (Nat.or_lt_two_pow h this)
theorem Good.made {m g : Nat} {rows : List Nat} (h : Good m g rows) (s : Nat) : madeF g rows s < 2 ^ m := acc_small h.hr _ _ h.hg
theorem Good.comb {m ga gb : Nat} {xs ys : List Nat} (ha : Good m ga xs) (hb : Good m gb ys) : Good m (ga ||| gb) (canonL (ga ||| gb) (orL xs ys)) :=
 canon_good ha.hm (by rw [orL_len (by rw [ha.hl, hb.hl]), ha.hl]) (Nat.or_lt_two_pow ha.hg hb.hg) (fun r hr => by
  obtain ⟨i, hi⟩ := List.getElem?_of_mem hr
  unfold orL at hi
  rw [List.getElem?_zipWith] at hi
  cases h1 : xs[i]? with
  | none => rw [h1] at hi; simp at hi
  | some a =>
   cases h2 : ys[i]? with
   | none => rw [h1, h2] at hi; simp at hi
   | some b =>
    rw [h1, h2] at hi
    have : a ||| b = r := by simpa using hi
    rw [← this]
    exact Nat.or_lt_two_pow (ha.hr a (List.mem_of_getElem? h1)) (hb.hr b (List.mem_of_getElem? h2)))
theorem Good.ext {m ga gb : Nat} {xs ys : List Nat} (ha : Good m ga xs) (hb : Good m gb ys) : Good m (madeF gb ys ga) (canonL (madeF gb ys ga) (xs.map (madeF gb ys))) :=
 canon_good ha.hm (by rw [List.length_map, ha.hl]) (hb.made ga) (fun r hr => by
  obtain ⟨x, _, rfl⟩ := List.mem_map.1 hr
  exact hb.made x)
theorem both_good {m ga gb : Nat} {xs ys : List Nat} (ha : Good m ga xs) (hb : Good m gb ys) : bothE m ga xs gb ys = 0 := by
 rw [bothE, if_pos (good_check ha)]; exact good_check hb
theorem combG_good {m ga gb : Nat} {xs ys : List Nat} (ha : Good m ga xs) (hb : Good m gb ys) : combG m ga xs gb ys = ga ||| gb := by rw [combG, if_pos (both_good ha hb)]
theorem combV_good {m ga gb : Nat} {xs ys : List Nat} (ha : Good m ga xs) (hb : Good m gb ys) : combV m ga xs gb ys = canonL (ga ||| gb) (orL xs ys) := by rw [combV, if_pos (both_good ha hb)]
theorem extG_good {m ga gb : Nat} {xs ys : List Nat} (ha : Good m ga xs) (hb : Good m gb ys) : extG m ga xs gb ys = madeF gb ys ga := by rw [extG, if_pos (both_good ha hb)]
theorem extV_good {m ga gb : Nat} {xs ys : List Nat} (ha : Good m ga xs) (hb : Good m gb ys) : extV m ga xs gb ys = canonL (madeF gb ys ga) (xs.map (madeF gb ys)) := by rw [extV, if_pos (both_good ha hb)]
theorem Good.combT {m ga gb : Nat} {xs ys : List Nat} (ha : Good m ga xs) (hb : Good m gb ys) : Good m (combG m ga xs gb ys) (combV m ga xs gb ys) := by rw [combG_good ha hb, combV_good ha hb]; exact ha.comb hb
theorem Good.extT {m ga gb : Nat} {xs ys : List Nat} (ha : Good m ga xs) (hb : Good m gb ys) : Good m (extG m ga xs gb ys) (extV m ga xs gb ys) := by rw [extG_good ha hb, extV_good ha hb]; exact ha.ext hb
theorem made_ext {m ga gb : Nat} {xs ys : List Nat} (ha : Good m ga xs) (hb : Good m gb ys) (s : Nat) : madeF (extG m ga xs gb ys) (extV m ga xs gb ys) s = madeF gb ys (madeF ga xs s) := by
 rw [extG_good ha hb, extV_good ha hb, made_canon (madeF_lt hb.r64 hb.g64) (fun r hr => by obtain ⟨x, _, rfl⟩ := List.mem_map.1 hr; exact madeF_lt hb.r64 hb.g64), made_then]
theorem made_zero (g : Nat) (rows : List Nat) : madeF g rows 0 = g := by rw [madeF, mem_zero]; rfl
theorem made_one {m g : Nat} {rows : List Nat} (h : Good m g rows) {i r : Nat} (hi : rows[i]? = some r) : madeF g rows (2 ^ i) = g ||| r := by
 have hil := (List.getElem?_eq_some_iff.1 hi).1
 have hi64 : i < 64 := by have := h.hl; have := h.hm; omega
 apply bit_ext; intro j
 rw [made_bit, Nat.testBit_or, Bool.or_eq_true]
 constructor
 ·rintro (h1 | ⟨k, ⟨hk, h2⟩, h3⟩)
  ·exact .inl h1
  ·rw [Nat.testBit_two_pow] at h2
   have e : i = k := by simpa using h2
   subst e
   rw [List.getD_eq_getElem?_getD, hi] at h3
   exact .inr h3
 ·rintro (h1 | h1)
  ·exact .inl h1
  ·exact .inr ⟨i, ⟨hi64, by rw [Nat.testBit_two_pow]; simp⟩, by rw [List.getD_eq_getElem?_getD, hi]; exact h1⟩
theorem good_ext {m g h : Nat} {xs ys : List Nat} (hx : Good m g xs) (hy : Good m h ys) (e : ∀ s, madeF g xs s = madeF h ys s) : g = h ∧ xs = ys := by
 have e0 := e 0
 rw [made_zero, made_zero] at e0
 subst e0
 refine ⟨rfl, list_eq_of (by rw [hx.hl, hy.hl]) fun i x y hi hj => ?_⟩
 have e1 := e (2 ^ i)
 rw [made_one hx hi, made_one hy hj] at e1
 have c1 := hx.hc x (List.mem_of_getElem? hi)
 have c2 := hy.hc y (List.mem_of_getElem? hj)
 apply Nat.eq_of_testBit_eq
 intro j
 have b1 := congrArg (fun n => n.testBit j) e1
 have b2 := congrArg (fun n => n.testBit j) c1
 have b3 := congrArg (fun n => n.testBit j) c2
 simp only [Nat.testBit_or, Nat.testBit_and, Nat.zero_testBit] at b1 b2 b3
 cases h1 : x.testBit j <;> cases h2 : y.testBit j <;> cases h3 : g.testBit j <;> simp_all
end Go.Proofs.Ytpkcaabbcoiiiaa
namespace Go.Proofs.Ytpkcaabbcoiiiaa
open Go.RowKit
theorem ones_bit {m i j : Nat} : ((onesL m).getD i 0).testBit j = true ↔ i < m ∧ i = j := by
 rw [List.getD_eq_getElem?_getD]
 rcases Nat.lt_or_ge i m with h | h
 ·rw [onesL_at h]
  simp only [Option.getD_some, Nat.testBit_two_pow, decide_eq_true_eq]
  exact ⟨fun e => ⟨h, e⟩, fun e => e.2⟩
 ·rw [List.getElem?_eq_none (by rw [onesL_length]; exact h)]
  simp only [Option.getD_none, Nat.zero_testBit]
  exact ⟨fun e => (Bool.false_ne_true e).elim, fun e => (by omega)⟩
theorem made_ones {m s : Nat} (hm : m ≤ 64) (hs : s < 2 ^ m) : madeF 0 (onesL m) s = s := by
 apply bit_ext; intro j
 rw [made_bit]
 simp only [ones_bit, Nat.zero_testBit]
 constructor
 ·rintro (h | ⟨i, ⟨_, h2⟩, _, rfl⟩)
  ·cases h
  ·exact h2
 ·intro h
  have hj : j < m := by
   rcases Nat.lt_or_ge j m with h1 | h1
   ·exact h1
   ·rw [Nat.testBit_lt_two_pow (Nat.lt_of_lt_of_le hs (Nat.pow_le_pow_right (by omega) h1))] at h; cases h
  exact .inr ⟨j, ⟨by omega, h⟩, hj, rfl⟩
theorem ones_good {m : Nat} (hm : m ≤ 64) : Good m 0 (onesL m) where
 hm := hm
 hl := onesL_length m
 hg := Nat.two_pow_pos m
 hr := fun r hr => by
  obtain ⟨i, hi, rfl⟩ := List.mem_map.1 hr
  exact Nat.pow_lt_pow_right (by omega) (List.mem_range.1 hi)
 hc := fun r _ => Nat.and_zero r
theorem one_good {m : Nat} (hm : m ≤ 64) : oneE m = 0 ∧ oneV m = onesL m := by
 have hd : dimB m = true := by simp [dimB]; omega
 exact ⟨by rw [oneE, if_pos hd], by rw [oneV, if_pos hd, Int.toNat_natCast]⟩
section
variable {m ga gb gc : Nat} {xs ys zs : List Nat}
theorem mem_cut {m s : Nat} (hm : m ≤ 64) (g : Nat) (rows : List Nat) (hl : rows.length = m) : madeF g rows s = madeF g rows (s % 2 ^ m) := by
 apply bit_ext; intro j
 rw [made_bit, made_bit]
 constructor
 ·rintro (h | ⟨i, ⟨hi, h2⟩, h3⟩)
  ·exact .inl h
  ·have him : i < m := by
    rcases Nat.lt_or_ge i m with h1 | h1
    ·exact h1
    ·rw [List.getD_eq_getElem?_getD, List.getElem?_eq_none (by omega)] at h3; simp at h3
   exact .inr ⟨i, ⟨hi, by rw [Nat.testBit_mod_two_pow]; simp [him, h2]⟩, h3⟩
 ·rintro (h | ⟨i, ⟨hi, h2⟩, h3⟩)
  ·exact .inl h
  ·rw [Nat.testBit_mod_two_pow, Bool.and_eq_true] at h2
   exact .inr ⟨i, ⟨hi, h2.2⟩, h3⟩
theorem ring_oneL (a : Good m ga xs) : extG m 0 (onesL m) ga xs = ga ∧ extV m 0 (onesL m) ga xs = xs :=
 good_ext ((ones_good a.hm).extT a) a fun s => by
  rw [made_ext (ones_good a.hm) a, mem_cut a.hm 0 (onesL m) (onesL_length m), made_ones a.hm (Nat.mod_lt _ (Nat.two_pow_pos m)), ← mem_cut a.hm ga xs a.hl]
theorem ring_oneR (a : Good m ga xs) : extG m ga xs 0 (onesL m) = ga ∧ extV m ga xs 0 (onesL m) = xs :=
 good_ext (a.extT (ones_good a.hm)) a fun s => by rw [made_ext a (ones_good a.hm), made_ones a.hm (a.made s)]
end
end Go.Proofs.Ytpkcaabbcoiiiaa
namespace Go.Proofs.Ytpkcaabbcoiiiaa
open Go.RowKit
def vals (c : Cl) : List Value := [.int .u64 (c.f : Int), .int .i64 c.k, .int .i64 c.v]
def flat (cs : List Cl) : List Value := cs.flatMap vals
theorem flat_length (cs : List Cl) : (flat cs).length = cs.length * 3 := by
 induction cs with
 | nil => rfl
 | cons c r ih => simp [flat, vals] at ih ⊢; omega
theorem flat_cons (c : Cl) (r : List Cl) : flat (c :: r) = vals c ++ flat r := by simp [flat]
theorem flat_snoc (cs : List Cl) (c : Cl) : flat (cs ++ [c]) = flat cs ++ vals c := by simp [flat]
theorem flat_at : ∀ {cs : List Cl} {i : Nat} {c : Cl}, cs[i]? = some c → (flat cs)[i * 3]? = some (.int .u64 (c.f : Int)) ∧ (flat cs)[i * 3 + 1]? = some (.int .i64 c.k) ∧ (flat cs)[i * 3 + 2]? = some (.int .i64 c.v)
 | [], i, c, h => by simp at h
 | x :: r, 0, c, h => by
  simp at h; subst h
  simp [flat_cons, vals]
 | x :: r, i + 1, c, h => by
  simp at h
  have ih := flat_at (cs := r) (i := i) h
  have e0 : (i + 1) * 3 = i * 3 + 3 := by omega
  have e1 : (i + 1) * 3 + 1 = (i * 3 + 1) + 3 := by omega
  have e2 : (i + 1) * 3 + 2 = (i * 3 + 2) + 3 := by omega
  rw [e1, e2, e0, flat_cons]
  simp only [vals, List.cons_append, List.nil_append, List.getElem?_cons_succ]
  exact ih
theorem flat_set : ∀ (cs : List Cl) (i : Nat) (c : Cl), i < cs.length → (((flat cs).set (i * 3) (.int .u64 (c.f : Int))).set (i * 3 + 1) (.int .i64 c.k)).set (i * 3 + 2) (.int .i64 c.v) = flat (cs.set i c)
 | [], i, c, h => by simp at h
 | x :: r, 0, c, h => by simp [flat_cons, vals]
 | x :: r, i + 1, c, h => by
  have ih := flat_set r i c (by simpa using h)
  have e0 : (i + 1) * 3 = i * 3 + 3 := by omega
  have e1 : (i + 1) * 3 + 1 = (i * 3 + 1) + 3 := by omega
  have e2 : (i + 1) * 3 + 2 = (i * 3 + 2) + 3 := by omega
  rw [e1, e2, e0, flat_cons, List.set_cons_succ, flat_cons, ← ih]
  simp [vals]
theorem own_below {w w' : World} {base size n : Nat} {E : Nat} {v : Value} {xs : List Value} (h : w.ownsRow base E size v n xs) (hb : Below w.heap.size w w') : w'.ownsRow base E size v n xs := by
 refine ⟨h.1, ?_⟩
 rcases h.2 with h2 | ⟨g, cap, cur, hv, hg, hh, r⟩
 ·exact .inl h2
 ·exact .inr ⟨g, cap, cur, hv, hg, by rw [hb.block g (Array.getElem?_eq_some_iff.1 hh).1]; exact hh, r⟩
theorem crow_of_own {w : World} {base : Nat} {E : Nat} {v : Value} {n : Nat} {cs : List Cl} (h : w.ownsRow base E 3 v n (flat cs)) :
  n = cs.length ∧ ∃ a cap, v = .slice a n cap ∧ CRow w a cs ∧ ∀ ad, a = some ad → base ≤ ad.block ∧ ad.off = 0 ∧ ad.block < w.heap.size := by
 have hl := h.1
 rw [flat_length] at hl
 have hn : n = cs.length := by omega
 refine ⟨hn, ?_⟩
 rcases h.2 with ⟨rfl, h0⟩ | ⟨g, cap, cur, rfl, hg, hh, hnc, hcm, hcs, ht⟩
 ·subst h0
  have : cs = [] := List.length_eq_zero_iff.1 hn.symm
  exact ⟨none, 0, rfl, .inl this, fun ad e => by cases e⟩
 ·refine ⟨some ⟨g, 0, none⟩, cap, rfl, .inr ⟨g, 0, rfl, fun i c hi => ?_⟩, fun ad e => by cases e; exact ⟨hg, rfl, (Array.getElem?_eq_some_iff.1 hh).1⟩⟩
  obtain ⟨f0, f1, f2⟩ := flat_at hi
  have hi2 : i < cs.length := (List.getElem?_eq_some_iff.1 hi).1
  have c0 := h.cellAt (i * 3) (by omega)
  have c1 := h.cellAt (i * 3 + 1) (by omega)
  have c2 := h.cellAt (i * 3 + 2) (by omega)
  rw [Nat.zero_add]
  exact ⟨c0.trans f0, c1.trans f1, c2.trans f2⟩
def CellsRet (cs : List Cl) (err : Int) (w : World) (e : Ending) (w' : World) : Prop :=
 ∃ a cap, e = .returned (.tuple #[.slice a cs.length cap, .int .i64 err]) ∧ CRow w' a cs ∧ (∀ ad, a = some ad → w.heap.size ≤ ad.block ∧ ad.block < w'.heap.size) ∧ Below w.heap.size w w'
theorem cellsRet_nil (err : Int) {w w' : World} (hb : Below w.heap.size w w') : CellsRet [] err w (.returned (.tuple #[.slice none 0 0, .int .i64 err])) w' :=
 ⟨none, 0, rfl, .inl rfl, (fun ad e => by cases e), hb⟩
def CellsRet1 (cs : List Cl) (w : World) (e : Ending) (w' : World) : Prop :=
 ∃ v, e = .returned v ∧ w'.ownsRow w.heap.size 96 3 v cs.length (flat cs) ∧ Below w.heap.size w w'
theorem infoC : (Try.prog.info? 96).map (fun i => (i.zero, i.size, i.bytes)) = some (some (.agg #[.int .u64 0, .int .i64 0, .int .i64 0]), 3, 24) := by kernel_rfl
end Go.Proofs.Ytpkcaabbcoiiiaa
namespace Go.Proofs.Ytpkcaabbcoiiiaa
open Go.RowKit
def bothC (xs ys : List Cl) : List Cl := List.zipWith join xs ys
theorem okAt_ok {n : Nat} {c : Cl} (hf : c.f < 18446744073709551616) (h : okAt n c = true) : c.ok := by
 unfold okAt cellOk at h
 simp only [Bool.and_eq_true] at h
 exact ⟨hf, h.2⟩
theorem chkC_zero {d : Int} {cs : List Cl} (h : chkC d cs = 0) : 0 ≤ d ∧ d ≤ 64 ∧ (cs.length : Int) = d ∧ cs.all (okAt d.toNat) = true := by
 unfold chkC at h
 split at h
 ·omega
 ·split at h
  ·omega
  ·cases hz : cs.all (okAt d.toNat) <;> rw [hz] at h <;> simp at h
   exact ⟨by omega, by omega, by omega, rfl⟩
theorem chk2C_zero {d : Int} {xs ys : List Cl} (h : chk2C d xs ys = 0) : chkC d xs = 0 ∧ chkC d ys = 0 := by
 unfold chk2C at h
 split at h
 ·exact ⟨by assumption, h⟩
 ·exact absurd h (by assumption)
theorem ok_get {n : Nat} {cs : List Cl} (hb : Bits cs) (h : cs.all (okAt n) = true) {i : Nat} {c : Cl} (hi : cs[i]? = some c) : c.ok := by
 rw [List.all_eq_true] at h
 exact okAt_ok (hb c (List.mem_of_getElem? hi)) (h c (List.mem_of_getElem? hi))
theorem zip_snoc {xs ys : List Cl} {k : Nat} {x y : Cl} (hx : xs[k]? = some x) (hy : ys[k]? = some y) : (bothC xs ys).take (k + 1) = (bothC xs ys).take k ++ [join x y] := by
 have h : (bothC xs ys)[k]? = some (join x y) := by simp [bothC, List.getElem?_zipWith, hx, hy]
 obtain ⟨hk, e⟩ := List.getElem?_eq_some_iff.1 h
 rw [List.take_succ_eq_append_getElem hk, e]
def bothR (d : Int) (xs ys : List Cl) : List Cl := if chk2C d xs ys = 0 then bothC xs ys else []
theorem joined_is (x y z : Cl) (hx : x.ok) (hy : y.ok) (hz : join x y = z) (w : World) : Calls Try.prog 133 #[x.val, y.val] w fun e w' => e = .returned z.val ∧ Below w.heap.size w w' := by
 subst hz; exact joined_any x y hx hy w
end Go.Proofs.Ytpkcaabbcoiiiaa
namespace Go.Proofs.Ytpkcaabbcoiiiaa
open Go.RowKit
theorem flat_cells {w : World} {b off : Nat} {cs : List Cl} (h : ∀ i c, cs[i]? = some c → w.cell? ⟨b, off + i * 3, none⟩ = some (.int .u64 (c.f : Int)) ∧ w.cell? ⟨b, off + i * 3 + 1, none⟩ = some (.int .i64 c.k) ∧ w.cell? ⟨b, off + i * 3 + 2, none⟩ = some (.int .i64 c.v)) :
  ∀ j u, (flat cs)[j]? = some u → w.cell? ((⟨b, off, none⟩ : Addr).add j) = some u := by
 intro j u hj
 have hlt : j < cs.length * 3 := by rw [← flat_length]; exact (List.getElem?_eq_some_iff.1 hj).1
 obtain ⟨i, r, hr, rfl⟩ : ∃ i r, r < 3 ∧ j = i * 3 + r := ⟨j / 3, j % 3, by omega, by omega⟩
 have hi : i < cs.length := by omega
 obtain ⟨h0, h1, h2⟩ := h i cs[i] (List.getElem?_eq_getElem hi)
 obtain ⟨f0, f1, f2⟩ := flat_at (List.getElem?_eq_getElem hi)
 have e : ((⟨b, off, none⟩ : Addr).add (i * 3 + r)) = ⟨b, off + (i * 3 + r), none⟩ := by
  simp only [Addr.add]; split <;> simp_all
 rw [e]
 match r, hr with
 | 0, _ => rw [Nat.add_zero] at hj ⊢; rw [f0] at hj; rw [h0]; exact hj
 | 1, _ => rw [f1] at hj; rw [← Nat.add_assoc, h1]; exact hj
 | 2, _ => rw [f2] at hj; rw [← Nat.add_assoc, h2]; exact hj
theorem crow_news {w : World} {ad : Addr} {cs : List Cl} (h : CRow w (some ad) cs) : ∀ j u, (flat cs)[j]? = some u → w.cell? (ad.add j) = some u := by
 rcases h with h | ⟨b, off, e, hc⟩
 ·subst h; intro j u hj; simp [flat] at hj
 ·cases e; exact flat_cells hc
theorem flat_one (cs : List Cl) : ∀ u ∈ flat cs, u.oneCell' = true := by
 intro u hu
 simp only [flat, List.mem_flatMap, vals] at hu
 obtain ⟨c, _, hu⟩ := hu
 simp at hu
 rcases hu with rfl | rfl | rfl <;> rfl
set_option maxHeartbeats 1000000 in
theorem clone_any (a : Option Addr) (cap : Nat) (cs : List Cl) (w : World) (hm : cs.length ≤ 64) (hrow : CRow w a cs) :
  Calls Try.prog 124 #[.slice a cs.length cap] w (CellsRet1 cs w) := by
 obtain ⟨i0, hi, hz0, hz1, hz2⟩ := info_parts infoC
 have q22 : ∀ (w : World) (a : Option Addr) (n c n' c' : Nat), (binOp .eql 42 (.slice a n c) (.slice none n' c')).run Try.prog w = .ok (.bool a.isNone) w := fun w a n c n' c' => Lib.run_eql_slice_nil w _ _ a n c n' c' Try.underlying42
 cases a with
 | none =>
  have hcs : cs = [] := by
   rcases hrow with h | ⟨b, off, e, _⟩
   ·exact h
   ·cases e
  subst hcs
  clear hrow
  go_enter Try.func124, Try.ntmps124
  go_wp2
  go_ret
  exact ⟨_, rfl, World.ownsRow_nil _ _ _ _, Below.refl _ _⟩
 | some ad =>
  have HN := Lib.hid (fun (o : Obj) => crow_news (hrow.below ((Below.refl _ w).alloc (Nat.le_refl _) o)))
  have hown : (w.alloc (.cells #[] 96)).ownsRow w.heap.size 96 3 (.slice (some ⟨w.heap.size, 0, none⟩) 0 0) 0 [] := World.ownsRow_lit w #[] 0 (Nat.le_refl _) (by simp) rfl
  have HO := Lib.hid hown
  clear hrow hown
  go_enter Try.func124, Try.ntmps124
  go_wp2_with (at_builtin; refine wpList_append_own _ rfl (.tmp 5) (.tmp 6) 42 rfl w.heap.size 96 i0 _ 3 24 Try.underlying42 hi hz0 hz1 hz2 rfl (by decide) _ _ _ rfl HO.out ad cs.length cap (flat cs) rfl (flat_length cs) (HN.out _) (flat_one cs) (by unfold maxLen; omega) (by omega) (by simp) ?_; intro v' w2 hown2 hgrow hnil)
  go_ret
  refine ⟨v', rfl, by simpa using hown2, ?_⟩
  exact ((Below.refl _ _).alloc (Nat.le_refl _) _).grown hgrow (by simp) (fun j e => by cases e; exact Nat.le_refl _)
theorem own_store3 {w : World} {base g n cap k : Nat} {E : Nat} {cs : List Cl} (h : w.ownsRow base E 3 (.slice (some ⟨g, 0, none⟩) n cap) n (flat cs)) (hk : k < cs.length) (z : Cl) :
  (((w.setCell ⟨g, k * 3, none⟩ (.int .u64 (z.f : Int))).setCell ⟨g, k * 3 + 1, none⟩ (.int .i64 z.k)).setCell ⟨g, k * 3 + 2, none⟩ (.int .i64 z.v)).ownsRow base E 3 (.slice (some ⟨g, 0, none⟩) n cap) n (flat (cs.set k z)) := by
 rw [← flat_set cs k z hk]
 exact ((((h.stored (k * 3) _).1.stored (k * 3 + 1) _).1.stored (k * 3 + 2) _).1)
theorem mix_step {xs ys : List Cl} {k : Nat} {x y z : Cl} (hx : xs[k]? = some x) (hy : ys[k]? = some y) (hz : join x y = z) : (((bothC xs ys).take k ++ xs.drop k).set k z) = (bothC xs ys).take (k + 1) ++ xs.drop (k + 1) := by
 obtain ⟨hk, ex⟩ := List.getElem?_eq_some_iff.1 hx
 obtain ⟨hk2, ey⟩ := List.getElem?_eq_some_iff.1 hy
 have hl : ((bothC xs ys).take k).length = k := by simp [bothC]; omega
 rw [zip_snoc hx hy, hz, List.set_append_right _ _ (by omega), hl, Nat.sub_self, List.drop_eq_getElem_cons hk, List.set_cons_zero, List.append_assoc]
 rfl
theorem mix_at {xs ys : List Cl} {k : Nat} {x y : Cl} (hx : xs[k]? = some x) (hy : ys[k]? = some y) : ((bothC xs ys).take k ++ xs.drop k)[k]? = some x := by
 obtain ⟨hk, ex⟩ := List.getElem?_eq_some_iff.1 hx
 obtain ⟨hk2, ey⟩ := List.getElem?_eq_some_iff.1 hy
 have hl : ((bothC xs ys).take k).length = k := by simp [bothC]; omega
 rw [List.getElem?_append_right (by omega), hl, Nat.sub_self, List.getElem?_drop, Nat.add_zero, hx]
theorem mix_len {xs ys : List Cl} {k : Nat} (hl : ys.length = xs.length) (hk : k ≤ xs.length) : ((bothC xs ys).take k ++ xs.drop k).length = xs.length := by simp [bothC]; omega
set_option maxHeartbeats 2000000 in
theorem both_any (a b : Option Addr) (capa capb : Nat) (xs ys : List Cl) (w : World) (hm : xs.length ≤ 64) (hl : ys.length = xs.length) (hra : CRow w a xs) (hrb : CRow w b ys) (hoa : ∀ (i : Nat) c, xs[i]? = some c → c.ok) (hob : ∀ (i : Nat) c, ys[i]? = some c → c.ok) :
  Calls Try.prog 130 #[.slice a xs.length capa, .slice b ys.length capb] w (CellsRet1 (bothC xs ys) w) := by
 have HRA := Lib.hid hra; have HRB := Lib.hid hrb; have HOA := Lib.hid hoa; have HOB := Lib.hid hob; have HL := Lib.hid hl
 have g1 : ys.length ≤ xs.length := by omega
 have g2 : xs.length ≤ ys.length := by omega
 clear hra hrb hoa hob hl
 go_enter Try.func130, Try.ntmps130
 go_wp2_with fail
 refine (clone_any a capa xs _ hm HRA.out).mono ?_
 rintro e w1 ⟨v, rfl, hown1, hb1⟩
 have HO1 := Lib.hid hown1
 clear hown1
 go_wp2_with fail
 go_loopw [12] (fun i wr => ∃ k : Nat, k ≤ xs.length ∧ i = .int .i64 k ∧ Hid (wr.ownsRow w.heap.size 96 3 v xs.length (flat ((bothC xs ys).take k ++ xs.drop k))) ∧ Below w.heap.size w wr) (fun i _ => xs.length - (intOf i).toNat)
 case atStart => exact ⟨0, Nat.zero_le _, rfl, HO1.out, hb1⟩
 case round =>
  obtain ⟨k, hk, rfl, HO, hb⟩ := hrel
  by_cases hlt : k < xs.length
  ·obtain ⟨bb, offb, y, rfl, hy, hbb, b0, b1, b2⟩ := HRB.out.at_ (show k < ys.length by omega)
   obtain ⟨x, hx⟩ : ∃ x, xs[k]? = some x := ⟨_, List.getElem?_eq_getElem hlt⟩
   have c0 := (hb.cell (p := ⟨bb, offb + k * 3, none⟩) hbb).trans b0
   have c1 := (hb.cell (p := ⟨bb, offb + k * 3 + 1, none⟩) hbb).trans b1
   have c2 := (hb.cell (p := ⟨bb, offb + k * 3 + 2, none⟩) hbb).trans b2
   clear b0 b1 b2
   obtain ⟨z, hz⟩ : ∃ z, join x y = z := ⟨_, rfl⟩
   have OX := Lib.hid (HOA.out k x hx)
   have OY := Lib.hid (HOB.out k y hy)
   have HJ := Lib.hid hz
   have HM := Lib.hid (mix_step hx hy hz)
   have HA := Lib.hid (mix_at hx hy)
   have HLEN := Lib.hid (mix_len HL.out hk)
   clear hx hy hz
   obtain ⟨g, capg, hv, hbg, hgl⟩ := HO.out.form (show 0 < xs.length by omega)
   subst hv
   obtain ⟨f0, f1, f2⟩ := flat_at HA.out
   have d0 := (HO.out.cellAt (k * 3) (by omega)).trans f0
   have d1 := (HO.out.cellAt (k * 3 + 1) (by omega)).trans f1
   have d2 := (HO.out.cellAt (k * 3 + 2) (by omega)).trans f2
   have F0 := Lib.hid f0; have F1 := Lib.hid f1; have F2 := Lib.hid f2
   clear f0 f1 f2
   have g0 : (0 : Int) ≤ (k : Int) := by omega
   have g3 : (k : Int) < (xs.length : Int) := by omega
   have g4 : (k : Int) < (ys.length : Int) := by omega
   go_wp2_with fail
   go_region_with (go_at_call 133; refine (joined_is x y z OX.out OY.out HJ.out _).mono ?_; rintro e w3 ⟨rfl, hb3⟩; have hB3 : Below wr.heap.size wr w3 := Below.trans (by repeat (first | exact Below.refl _ _ | refine Below.drew ?_ | refine Below.alloc ?_ (Nat.le_refl _) _)) (hb3.mono (by simp)); have o3 := own_below HO.out hB3; have e0 := (o3.cellAt (k * 3) (by omega)).trans F0.out; have e1 := (o3.cellAt (k * 3 + 1) (by omega)).trans F1.out; have e2 := (o3.cellAt (k * 3 + 2) (by omega)).trans F2.out; have q0 := o3.frozenAt (k * 3); have q1 := o3.frozenAt (k * 3 + 1); have q2 := o3.frozenAt (k * 3 + 2); have O3 := Lib.hid o3; clear o3)
   all_goals
    have HS := Lib.hid (own_store3 O3.out (by rw [HLEN.out]; exact hlt) z)
    rw [HM.out] at HS
    have HB : Hid (Below w.heap.size w (((w3.setCell ⟨g, k * 3, none⟩ (.int .u64 (z.f : Int))).setCell ⟨g, k * 3 + 1, none⟩ (.int .i64 z.k)).setCell ⟨g, k * 3 + 2, none⟩ (.int .i64 z.v))) := (((hb.trans (hB3.mono hb.size)).setCell (p := ⟨g, k * 3, none⟩) hbg _).setCell (p := ⟨g, k * 3 + 1, none⟩) hbg _).setCell (p := ⟨g, k * 3 + 2, none⟩) hbg _
    clear e0 e1 e2 q0 q1 q2 O3
    go_wp2
    go_roundw
    case rel => exact ⟨k + 1, by omega, by go_num, HS, HB.out⟩
    case measure => simp [intOf]; omega
  ·obtain rfl : k = xs.length := by omega
   have HE : Hid (wr.ownsRow w.heap.size 96 3 v (bothC xs ys).length (flat (bothC xs ys))) := by
    have h := HO.out
    have hlen : (bothC xs ys).length = xs.length := by simp [bothC, HL.out]
    rw [List.take_of_length_le (by omega), List.drop_of_length_le (Nat.le_refl _), List.append_nil] at h
    rw [hlen]; exact h
   go_wp2
   go_ret
   exact ⟨v, rfl, HE.out, hb⟩
end Go.Proofs.Ytpkcaabbcoiiiaa
namespace Go.Proofs.Ytpkcaabbcoiiiaa
open Go.RowKit
theorem both_ok {d : Int} {xs ys : List Cl} (h : chk2C d xs ys = 0) (hx : Bits xs) (hy : Bits ys) :
  xs.length ≤ 64 ∧ ys.length = xs.length ∧ (∀ (i : Nat) c, xs[i]? = some c → c.ok) ∧ (∀ (i : Nat) c, ys[i]? = some c → c.ok) := by
 obtain ⟨k1, k2⟩ := chk2C_zero h
 obtain ⟨d0, d1, la, oka⟩ := chkC_zero k1
 obtain ⟨_, _, lb, okb⟩ := chkC_zero k2
 exact ⟨by omega, by omega, fun i c hi => ok_get hx oka hi, fun i c hi => ok_get hy okb hi⟩
theorem bothP_any (d : Int) (a b : Option Addr) (capa capb : Nat) (xs ys : List Cl) (w : World) (hma : xs.length ≤ maxLen) (hmb : ys.length ≤ maxLen) (hra : CRow w a xs) (hrb : CRow w b ys) (hba : Bits xs) (hbb : Bits ys) (c : Int) (hc : chk2C d xs ys = c) :
  Calls Try.prog 120 #[.int .i64 d, .slice a xs.length capa, .slice b ys.length capb] w (CellsRet (bothR d xs ys) c w) := by
 have HMA := Lib.hid hma; have HMB := Lib.hid hmb; have HRA := Lib.hid hra; have HRB := Lib.hid hrb; have HBA := Lib.hid hba; have HBB := Lib.hid hbb
 have HC := Lib.hid hc
 clear hma hmb hra hrb hba hbb
 by_cases h0 : c = 0
 ·subst h0
  obtain ⟨k1, k2, k3, k4⟩ := both_ok hc HBA.out HBB.out
  have K2 := Lib.hid k2; have K3 := Lib.hid k3; have K4 := Lib.hid k4
  have HR := Lib.hid (show bothR d xs ys = bothC xs ys by simp [bothR, hc])
  clear hc k2 k3 k4
  go_enter Try.func120, Try.ntmps120
  go_wp2_with fail
  refine (checkBoth_any _ a b capa capb xs ys _ HMA.out HMB.out HRA.out HRB.out HBA.out HBB.out 0 HC.out).mono ?_
  rintro e w1 ⟨rfl, hb1⟩
  go_wp2_with fail
  refine (both_any a b capa capb xs ys _ k1 K2.out (HRA.out.below hb1) (HRB.out.below hb1) K3.out K4.out).mono ?_
  rintro e w2 ⟨v, rfl, hown, hb2⟩
  have HO := Lib.hid hown
  clear hown
  go_wp2
  go_ret2
  rw [HR.out]
  obtain ⟨_, a2, cap2, rfl, hr2, hf2⟩ := crow_of_own HO.out
  exact ⟨a2, cap2, rfl, hr2, fun ad e => ⟨Nat.le_trans hb1.size (hf2 ad e).1, (hf2 ad e).2.2⟩, hb1.trans (hb2.mono hb1.size)⟩
 ·have HR := Lib.hid (show bothR d xs ys = [] by simp [bothR, hc, h0])
  have hne : (c != 0) = true := by simpa using h0
  clear hc h0
  go_enter Try.func120, Try.ntmps120
  go_wp2_with fail
  refine (checkBoth_any _ a b capa capb xs ys _ HMA.out HMB.out HRA.out HRB.out HBA.out HBB.out c HC.out).mono ?_
  rintro e w1 ⟨rfl, hb1⟩
  go_wp2
  go_ret2
  rw [HR.out]
  exact cellsRet_nil c hb1
def sameCl (x y : Cl) : Bool := decide (x.f = y.f) && decide (x.k = y.k) && decide (x.v = y.v)
end Go.Proofs.Ytpkcaabbcoiiiaa
namespace Go.Proofs.Ytpkcaabbcoiiiaa
open Go.RowKit
theorem run_neq_cell (f f2 : Nat) (k k2 v v2 : Int) (w : World) :
  (binOp .neq 96 (.agg #[.int .u64 (f : Int), .int .i64 k, .int .i64 v]) (.agg #[.int .u64 (f2 : Int), .int .i64 k2, .int .i64 v2])).run Try.prog w = .ok (.bool (!sameCl ⟨f, k, v⟩ ⟨f2, k2, v2⟩)) w := by
 by_cases h1 : f = f2
 ·subst h1
  by_cases h2 : k = k2
  ·subst h2
   by_cases h3 : v = v2
   ·subst h3
    simp [sameCl, go_sem]
   ·have h3' : (v == v2) = false := by simp [h3]
    simp [sameCl, go_sem, h3]
  ·simp [sameCl, go_sem, h2]
 ·simp [sameCl, go_sem, h1]
  intro h; omega
theorem neq_is (x y : Cl) (s : Bool) (h : sameCl x y = s) (w : World) : (binOp .neq 96 x.val y.val).run Try.prog w = .ok (.bool (!s)) w := by
 subst h; exact run_neq_cell _ _ _ _ _ _ w
end Go.Proofs.Ytpkcaabbcoiiiaa
namespace Go.Proofs.Ytpkcaabbcoiiiaa
open Go.RowKit
def ofStep (row : List Cl) (c : Cl) (out : Cl) (i : Nat) : Cl := if c.f.testBit i then (match row[i]? with | some a => join out a | none => out) else out
def ofTo (row : List Cl) (c : Cl) (n : Nat) : Cl := (List.range n).foldl (ofStep row c) ⟨0, c.k, c.v⟩
def ofC (row : List Cl) (c : Cl) : Cl := ofTo row c row.length
theorem ofTo_succ (row : List Cl) (c : Cl) (n : Nat) : ofTo row c (n + 1) = ofStep row c (ofTo row c n) n := by
 simp [ofTo, List.range_succ]
theorem ofTo_yes {row : List Cl} {c x : Cl} {n : Nat} (hb : c.f.testBit n = true) (hx : row[n]? = some x) : ofTo row c (n + 1) = join (ofTo row c n) x := by
 rw [ofTo_succ, ofStep, if_pos hb, hx]
theorem ofTo_no {row : List Cl} {c : Cl} {n : Nat} (hb : c.f.testBit n = false) : ofTo row c (n + 1) = ofTo row c n := by
 rw [ofTo_succ, ofStep, if_neg (by rw [hb]; simp)]
theorem ofTo_skip {row : List Cl} {c : Cl} {k : Nat} : ∀ {n : Nat}, k ≤ n → (∀ i, k ≤ i → i < n → c.f.testBit i = false) → ofTo row c n = ofTo row c k
 | 0, h, _ => by
  obtain rfl : k = 0 := by omega
  rfl
 | n + 1, h, hb => by
  by_cases e : k = n + 1
  ·subst e; rfl
  ·rw [ofTo_no (hb n (by omega) (by omega))]
   exact ofTo_skip (by omega) (fun i h1 h2 => hb i h1 (by omega))
theorem kindOk_zero {f : Nat} {k v : Int} (h : kindOk f k v = true) : kindOk 0 k v = true := by
 unfold kindOk at *
 split
 ·rw [if_pos (by assumption)] at h; exact h
 ·rw [if_neg (by assumption)] at h
  split
  ·rfl
  ·rw [if_neg (by assumption)] at h
   split
   ·rw [if_pos (by assumption)] at h; simp at h ⊢; exact h.1
   ·rw [if_neg (by assumption)] at h; cases h
theorem join_ok {a b : Cl} (ha : a.ok) (hb : b.ok) : (join a b).ok := by
 obtain ⟨f, k, v⟩ := a
 obtain ⟨f2, k2, v2⟩ := b
 obtain ⟨hf, hk⟩ := ha
 obtain ⟨hf2, hk2⟩ := hb
 simp only at hf hk hf2 hk2
 have hor : f ||| f2 < 18446744073709551616 := Nat.or_lt_two_pow (n := 64) hf hf2
 refine ⟨?_, ?_⟩
 ·show (if joinK k v k2 v2 = 2 then 0 else f ||| f2) < _
  split <;> omega
 ·show kindOk (if joinK k v k2 v2 = 2 then 0 else f ||| f2) (joinK k v k2 v2) (joinV k v k2 v2) = true
  rcases kind_cases hk with ⟨rfl, rfl⟩ | rfl | ⟨rfl, rfl⟩ <;> rcases kind_cases hk2 with ⟨rfl, rfl⟩ | rfl | ⟨rfl, rfl⟩
  all_goals (try (simp [joinK, joinV, kindOk]; done))
  by_cases hv : v = v2 <;> simp [joinK, joinV, kindOk, hv]
theorem ofTo_ok {row : List Cl} {c : Cl} (hc : c.ok) (hr : ∀ (i : Nat) x, row[i]? = some x → x.ok) : ∀ n, (ofTo row c n).ok
 | 0 => ⟨by simp [ofTo], kindOk_zero hc.2⟩
 | n + 1 => by
  rw [ofTo_succ, ofStep]
  split
  ·split
   ·rename_i a h; exact join_ok (ofTo_ok hc hr n) (hr n a h)
   ·exact ofTo_ok hc hr n
  ·exact ofTo_ok hc hr n
end Go.Proofs.Ytpkcaabbcoiiiaa
namespace Go.Proofs.Ytpkcaabbcoiiiaa
open Go.RowKit
def thenC (xs ys : List Cl) : List Cl := ys.map (ofC xs)
end Go.Proofs.Ytpkcaabbcoiiiaa
namespace Go.Proofs.Ytpkcaabbcoiiiaa
open Go.RowKit
def z0 : Cl := ⟨0, 0, 0⟩
theorem made_flat (n : Nat) : (madeCells (Value.agg #[.int .u64 0, .int .i64 0, .int .i64 0]).cells (n * 3)).toList = flat (List.replicate n z0) := by
 have hc : (Value.agg #[.int .u64 0, .int .i64 0, .int .i64 0]).cells = #[.int .u64 0, .int .i64 0, .int .i64 0] := rfl
 rw [hc]
 apply List.ext_getElem?
 intro j
 by_cases hj : j < n * 3
 ·have e : (List.replicate n z0)[j / 3]? = some z0 := by rw [List.getElem?_replicate, if_pos (by omega)]
  obtain ⟨f0, f1, f2⟩ := flat_at e
  have hr : j % 3 = 0 ∨ j % 3 = 1 ∨ j % 3 = 2 := by omega
  have hlt : j < (madeCells #[Value.int .u64 0, .int .i64 0, .int .i64 0] (n * 3)).toList.length := by simp [madeCells]; exact hj
  rcases hr with h | h | h
  ·have ej : j = j / 3 * 3 := by omega
   rw [← ej] at f0
   rw [f0, List.getElem?_eq_getElem hlt]
   simp [madeCells, h, z0]
  ·have ej : j = j / 3 * 3 + 1 := by omega
   rw [← ej] at f1
   rw [f1, List.getElem?_eq_getElem hlt]
   simp [madeCells, h, z0]
  ·have ej : j = j / 3 * 3 + 2 := by omega
   rw [← ej] at f2
   rw [f2, List.getElem?_eq_getElem hlt]
   simp [madeCells, h, z0]
 ·rw [List.getElem?_eq_none (by simp [madeCells]; omega), List.getElem?_eq_none (by rw [flat_length]; simp; omega)]
theorem fill_step {full : List Cl} {n k : Nat} {z : Cl} (hl : full.length = n) (hz : full[k]? = some z) : (full.take k ++ List.replicate (n - k) z0).set k z = full.take (k + 1) ++ List.replicate (n - (k + 1)) z0 := by
 obtain ⟨hk, ex⟩ := List.getElem?_eq_some_iff.1 hz
 have hl2 : (full.take k).length = k := by simp; omega
 rw [List.set_append_right _ _ (by omega), hl2, Nat.sub_self, show n - k = (n - (k + 1)) + 1 by omega, List.replicate_succ, List.set_cons_zero, List.take_succ_eq_append_getElem hk, List.append_assoc, ex]
 rfl
theorem fill_at {full : List Cl} {n k : Nat} (hl : full.length = n) (hk : k < n) : (full.take k ++ List.replicate (n - k) z0)[k]? = some z0 := by
 have hl2 : (full.take k).length = k := by simp; omega
 rw [List.getElem?_append_right (by omega), hl2, Nat.sub_self, List.getElem?_replicate, if_pos (by omega)]
end Go.Proofs.Ytpkcaabbcoiiiaa
namespace Go.Proofs.Ytpkcaabbcoiiiaa
open Go.RowKit
def oneAt (k : Nat) : Cl := ⟨2 ^ k, 0, 0⟩
def unitC (n : Nat) : List Cl := (List.range n).map oneAt
def unitR (d : Int) : List Cl := if dimC d = 0 then unitC d.toNat else []
theorem unit_length (n : Nat) : (unitC n).length = n := by simp [unitC]
theorem unit_at {n k : Nat} (hk : k < n) : (unitC n)[k]? = some (oneAt k) := by
 simp [unitC, List.getElem?_range hk]
theorem unit_snoc {n k : Nat} (hk : k < n) : (unitC n).take (k + 1) = (unitC n).take k ++ [oneAt k] := by
 obtain ⟨h, e⟩ := List.getElem?_eq_some_iff.1 (unit_at hk)
 rw [List.take_succ_eq_append_getElem h, e]
theorem pow_u64 {k : Nat} (hk : k < 64) : IntKind.u64.wrap (2 ^ k : Int) = ((2 ^ k : Nat) : Int) := by
 have h : 2 ^ k < 18446744073709551616 := Nat.lt_of_lt_of_le (Nat.pow_lt_pow_right (by decide) hk) (by decide)
 have e : (2 ^ k : Int) = ((2 ^ k : Nat) : Int) := by simp
 rw [e]
 generalize 2 ^ k = q at h
 simp [IntKind.wrap, IntKind.signed, IntKind.bits]
 omega
end Go.Proofs.Ytpkcaabbcoiiiaa
namespace Go.Proofs.Ytpkcaabbcoiiiaa
open Go.RowKit
theorem flat_set1 : ∀ (cs : List Cl) (i : Nat) (f f' : Nat), cs[i]? = some ⟨f, 0, 0⟩ → (flat cs).set (i * 3) (.int .u64 (f' : Int)) = flat (cs.set i ⟨f', 0, 0⟩)
 | [], i, f, f', h => by simp at h
 | x :: r, 0, f, f', h => by
  simp at h; subst h
  simp [flat_cons, vals]
 | x :: r, i + 1, f, f', h => by
  have ih := flat_set1 r i f f' (by simpa using h)
  have e0 : (i + 1) * 3 = i * 3 + 3 := by omega
  rw [e0, flat_cons, List.set_cons_succ, flat_cons, ← ih]
  simp [vals]
theorem own_store1 {w : World} {base g n cap k : Nat} {E : Nat} {cs : List Cl} {f : Nat} (h : w.ownsRow base E 3 (.slice (some ⟨g, 0, none⟩) n cap) n (flat cs)) (hk : cs[k]? = some ⟨f, 0, 0⟩) (f' : Nat) :
  (w.setCell ⟨g, k * 3, none⟩ (.int .u64 (f' : Int))).ownsRow base E 3 (.slice (some ⟨g, 0, none⟩) n cap) n (flat (cs.set k ⟨f', 0, 0⟩)) := by
 rw [← flat_set1 cs k f f' hk]
 exact (h.stored (k * 3) _).1
set_option maxHeartbeats 2000000 in
theorem unit_any (n : Nat) (w : World) (hn : n ≤ 64) : Calls Try.prog 121 #[.int .i64 n] w (CellsRet1 (unitC n) w) := by
 obtain ⟨i0, hi, hz0, hz1, hz2⟩ := info_parts infoC
 have HN := Lib.hid (unit_length n)
 go_enter Try.func121, Try.ntmps121
 go_wp2_with (at_make; refine wpList_make_full _ rfl (.tmp 5) (.tmp 5) 42 rfl w.heap.size 96 i0 _ 3 Try.underlying42 hi hz0 hz1 .i64 .i64 (n : Int) (n : Int) n rfl rfl rfl rfl (by rw [hz2]; omega) (by unfold maxLen; omega) (Nat.le_refl _) ?_; intro w2 hown2 hgrow2)
 have HO1 : Hid (w2.ownsRow w.heap.size 96 3 (.slice (some ⟨w.heap.size, 0, none⟩) n n) n (flat ((unitC n).take 0 ++ List.replicate (n - 0) z0))) := by
  rw [List.take_zero, List.nil_append, Nat.sub_zero, ← made_flat]; exact hown2
 have hb2 : Below w.heap.size w w2 := (Below.refl _ _).grown hgrow2 (Nat.le_refl _) (fun j e => by cases e)
 clear hown2
 go_wp2_with fail
 go_loopw [8] (fun i wr => ∃ k : Nat, k ≤ n ∧ i = .int .i64 k ∧ Hid (wr.ownsRow w.heap.size 96 3 (.slice (some ⟨w.heap.size, 0, none⟩) n n) n (flat ((unitC n).take k ++ List.replicate (n - k) z0))) ∧ Below w.heap.size w wr) (fun i _ => n - (intOf i).toNat)
 case atStart => exact ⟨0, Nat.zero_le _, rfl, HO1, hb2⟩
 case round =>
  obtain ⟨k, hk, rfl, HO, hb⟩ := hrel
  by_cases hlt : k < n
  ·have HZ := Lib.hid (fill_step (full := unitC n) (n := n) (k := k) HN.out (unit_at hlt))
   have HA := Lib.hid (fill_at (full := unitC n) (n := n) HN.out hlt)
   have HW := Lib.hid (pow_u64 (k := k) (by omega))
   have f3 := flat_at HA.out
   have e0 := (HO.out.cellAt (k * 3) (by omega)).trans f3.1
   have q0 := HO.out.frozenAt (k * 3)
   clear f3
   have g0 : (0 : Int) ≤ (k : Int) := by omega
   have g1 : k < 64 := by omega
   have g2 : (k : Int) < 64 := by omega
   have g3 : (k : Int) < (n : Int) := by omega
   have HS := Lib.hid (own_store1 HO.out HA.out (2 ^ k))
   rw [show (⟨2 ^ k, 0, 0⟩ : Cl) = oneAt k from rfl, HZ.out, ← HW.out] at HS
   have HB : Hid (Below w.heap.size w (wr.setCell ⟨w.heap.size, k * 3, none⟩ (.int .u64 (IntKind.u64.wrap (2 ^ k))))) := hb.setCell (p := ⟨w.heap.size, k * 3, none⟩) (Nat.le_refl _) _
   go_wp2
   go_roundw
   case rel => exact ⟨k + 1, by omega, by go_num, HS, HB.out⟩
   case measure => simp [intOf]; omega
  ·obtain rfl : n = k := by omega
   have HE : Hid (wr.ownsRow w.heap.size 96 3 (.slice (some ⟨w.heap.size, 0, none⟩) n n) n (flat (unitC n))) := by
    have := HO.out
    rw [List.take_of_length_le (by rw [HN.out]; exact Nat.le_refl _), Nat.sub_self, List.replicate_zero, List.append_nil] at this
    exact this
   go_wp2
   go_ret
   exact ⟨_, rfl, by rw [HN.out]; exact HE.out, hb⟩
theorem cellsRet_of1 {cs : List Cl} {w w1 w2 : World} {v : Value} (hb1 : Below w.heap.size w w1) (hown : w2.ownsRow w1.heap.size 96 3 v cs.length (flat cs)) (hb2 : Below w1.heap.size w1 w2) (err : Int) : CellsRet cs err w (.returned (.tuple #[v, .int .i64 err])) w2 := by
 obtain ⟨_, a2, cap2, rfl, hr2, hf2⟩ := crow_of_own hown
 exact ⟨a2, cap2, rfl, hr2, fun ad e => ⟨Nat.le_trans hb1.size (hf2 ad e).1, (hf2 ad e).2.2⟩, hb1.trans (hb2.mono hb1.size)⟩
theorem ce_dim_nat {d : Int} (h : dimC d = 0) : ∃ n : Nat, d = n ∧ n ≤ 64 := by
 by_cases hd : d < 0 ∨ 64 < d
 ·simp [dimC, hd] at h
 ·exact ⟨d.toNat, by omega, by omega⟩
set_option maxHeartbeats 2000000 in
theorem one_any (d : Int) (w : World) (c : Int) (hc : dimC d = c) :
  Calls Try.prog 112 #[.int .i64 d] w (CellsRet (unitR d) c w) := by
 have HC := Lib.hid hc
 by_cases h0 : c = 0
 ·subst h0
  obtain ⟨n, rfl, hn⟩ := ce_dim_nat hc
  have HR := Lib.hid (show unitR n = unitC n by simp [unitR, hc])
  clear hc
  go_enter Try.func112, Try.ntmps112
  go_wp2_with (go_at_call 115; refine (checkDim_is _ _ 0 HC.out).mono ?_; rintro e w' ⟨rfl, rfl⟩)
  refine (unit_any n _ hn).mono ?_
  rintro e w2 ⟨v, rfl, hown, hb2⟩
  have HO := Lib.hid hown
  clear hown
  go_wp2
  go_ret2
  rw [HR.out]
  exact cellsRet_of1 (Below.refl _ _) HO.out hb2 0
 ·have HR := Lib.hid (show unitR d = [] by simp [unitR, hc, h0])
  have hne : (c != 0) = true := by simpa using h0
  clear hc h0
  go_enter Try.func112, Try.ntmps112
  go_wp2_with (go_at_call 115; refine (checkDim_is _ _ c HC.out).mono ?_; rintro e w' ⟨rfl, rfl⟩)
  go_ret2
  rw [HR.out]
  exact cellsRet_nil c (Below.refl _ _)
end Go.Proofs.Ytpkcaabbcoiiiaa
namespace Go.Proofs.Ytpkcaabbcoiiiaa
open Go.RowKit
structure IsCells (w : World) (a : Option Addr) (len cap : Nat) (xs : List Cl) : Prop where
 len : len = xs.length
 max : xs.length ≤ maxLen
 row : CRow w a xs
 bits : Bits xs
end Go.Proofs.Ytpkcaabbcoiiiaa
namespace Go.Proofs.Ytpkcaabbcoiiiaa
open Go.RowKit
set_option linter.unusedSimpArgs false
def manyC : Cl := ⟨0, 2, 0⟩
theorem ok_cases {c : Cl} (h : c.ok) : (∃ f, c = ⟨f, 0, 0⟩) ∨ (∃ f v, c = ⟨f, 1, v⟩) ∨ c = manyC := by
 obtain ⟨f, k, v⟩ := c
 obtain ⟨_, h⟩ := h
 simp only at h
 unfold kindOk at h
 split at h
 ·rename_i h2; left; simp at h; subst h; subst h2; exact ⟨f, rfl⟩
 ·split at h
  ·rename_i h2; right; left; subst h2; exact ⟨f, v, rfl⟩
  ·split at h
   ·rename_i h2; right; right; subst h2; simp at h; obtain ⟨rfl, rfl⟩ := h; rfl
   ·cases h
def Oks (xs : List Cl) : Prop := ∀ (i : Nat) x, xs[i]? = some x → x.ok
end Go.Proofs.Ytpkcaabbcoiiiaa
namespace Go.Proofs.Ytpkcaabbcoiiiaa
open Go.RowKit
set_option linter.unusedSimpArgs false
theorem okAt_iff {n : Nat} {c : Cl} : okAt n c = true ↔ c.f < 2 ^ n ∧ kindOk c.f c.k c.v = true := by
 unfold okAt cellOk inside
 rw [Bool.and_eq_true, beq_iff_eq, Nat.div_eq_zero_iff]
 constructor
 ·rintro ⟨h | h, h2⟩
  ·have := Nat.two_pow_pos n; omega
  ·exact ⟨h, h2⟩
 ·rintro ⟨h, h2⟩; exact ⟨.inr h, h2⟩
theorem ce_pow_le64 {n f : Nat} (hn : n ≤ 64) (h : f < 2 ^ n) : f < 18446744073709551616 :=
 Nat.lt_of_lt_of_le h (Nat.le_trans (Nat.pow_le_pow_right (by decide) hn) (by decide))
structure Val (n : Nat) (xs : List Cl) : Prop where
 le : n ≤ 64
 len : xs.length = n
 ok : ∀ (i : Nat) c, xs[i]? = some c → okAt n c = true
theorem Val.oks {n : Nat} {xs : List Cl} (h : Val n xs) : Oks xs := fun i c hi => by
 obtain ⟨h1, h2⟩ := okAt_iff.1 (h.ok i c hi)
 exact ⟨ce_pow_le64 h.le h1, h2⟩
theorem Val.bits {n : Nat} {xs : List Cl} (h : Val n xs) : Bits xs := fun c hc => by
 obtain ⟨i, hi, e⟩ := List.mem_iff_getElem.1 hc
 exact (h.oks i c (by rw [← e]; exact List.getElem?_eq_getElem hi)).1
theorem Val.chk {n : Nat} {xs : List Cl} (h : Val n xs) : chkC n xs = 0 := by
 refine chkC_good h.le h.len (Nat.le_refl _) ?_
 rw [List.take_length, List.all_eq_true]
 intro c hc
 obtain ⟨i, hi, e⟩ := List.mem_iff_getElem.1 hc
 exact h.ok i c (by rw [← e]; exact List.getElem?_eq_getElem hi)
theorem Val.chk2 {n : Nat} {xs ys : List Cl} (h : Val n xs) (h2 : Val n ys) : chk2C n xs ys = 0 := by
 unfold chk2C
 rw [h.chk, h2.chk]; rfl
theorem val_of {d : Int} {xs : List Cl} (h : chkC d xs = 0) : ∃ n : Nat, d = n ∧ Val n xs := by
 obtain ⟨d0, d1, la, oka⟩ := chkC_zero h
 refine ⟨d.toNat, by omega, by omega, by omega, fun i c hi => ?_⟩
 exact List.all_eq_true.1 oka c (List.mem_of_getElem? hi)
theorem okAt_join {n : Nat} {a b : Cl} (ha : okAt n a = true) (hb : okAt n b = true) (hn : n ≤ 64) : okAt n (join a b) = true := by
 obtain ⟨h1, h2⟩ := okAt_iff.1 ha
 obtain ⟨h3, h4⟩ := okAt_iff.1 hb
 have h5 := join_ok (a := a) (b := b) ⟨ce_pow_le64 hn h1, h2⟩ ⟨ce_pow_le64 hn h3, h4⟩
 refine okAt_iff.2 ⟨?_, h5.2⟩
 show (if joinK a.k a.v b.k b.v = 2 then 0 else a.f ||| b.f) < 2 ^ n
 split
 ·exact Nat.two_pow_pos n
 ·exact Nat.or_lt_two_pow h1 h3
theorem val_both {n : Nat} {xs ys : List Cl} (hx : Val n xs) (hy : Val n ys) : Val n (bothC xs ys) := by
 refine ⟨hx.le, by simp [bothC, hx.len, hy.len], fun i c hi => ?_⟩
 simp [bothC, List.getElem?_zipWith] at hi
 split at hi
 ·rename_i a b ha hb
  cases hi
  exact okAt_join (hx.ok i a ha) (hy.ok i b hb) hx.le
 ·cases hi
theorem okAt_ofTo {n : Nat} {xs : List Cl} (hx : Val n xs) {c : Cl} (hc : okAt n c = true) : ∀ m, okAt n (ofTo xs c m) = true
 | 0 => okAt_iff.2 ⟨Nat.two_pow_pos n, kindOk_zero (okAt_iff.1 hc).2⟩
 | m + 1 => by
  have ih := okAt_ofTo hx hc m
  rw [ofTo_succ, ofStep]
  split
  ·split
   ·rename_i a h; exact okAt_join ih (hx.ok m a h) hx.le
   ·exact ih
  ·exact ih
theorem val_then {n : Nat} {xs ys : List Cl} (hx : Val n xs) (hy : Val n ys) : Val n (thenC xs ys) := by
 refine ⟨hx.le, by simp [thenC, hy.len], fun i c hi => ?_⟩
 simp [thenC] at hi
 obtain ⟨y, h1, rfl⟩ := hi
 exact okAt_ofTo hx (hy.ok i y h1) _
theorem val_unit {n : Nat} (hn : n ≤ 64) : Val n (unitC n) := by
 refine ⟨hn, unit_length n, fun i c hi => ?_⟩
 have h1 : i < n := by rw [← unit_length n]; exact (List.getElem?_eq_some_iff.1 hi).1
 rw [unit_at h1] at hi
 cases hi
 exact okAt_iff.2 ⟨Nat.pow_lt_pow_right (by decide) h1, by simp [kindOk, oneAt]⟩
theorem ofTo_unit {n : Nat} {c : Cl} (hc : okAt n c = true) : ∀ m, m ≤ n → ofTo (unitC n) c m = ⟨c.f % 2 ^ m, c.k, c.v⟩
 | 0, _ => by simp [ofTo, Nat.mod_one]
 | m + 1, hm => by
  have ih := ofTo_unit hc m (by omega)
  have hrow : (unitC n)[m]? = some (oneAt m) := unit_at (by omega)
  rw [ofTo_succ, ofStep, ih]
  cases hb : c.f.testBit m
  ·rw [if_neg (by simp)]
   congr 1
   apply Nat.eq_of_testBit_eq
   intro i
   rw [Nat.testBit_mod_two_pow, Nat.testBit_mod_two_pow]
   rcases Nat.lt_or_ge i m with h | h
   ·simp [h, Nat.lt_succ_of_lt h]
   ·rcases Nat.eq_or_lt_of_le h with h2 | h2
    ·subst h2; simp [hb]
    ·have e1 : ¬ i < m := by omega
     have e2 : ¬ i < m + 1 := by omega
     simp [e1, e2]
  ·rw [if_pos rfl, hrow]
   have hk : ¬ c.k = 2 := by
    intro h2
    have := (okAt_iff.1 hc).2
    simp [kindOk, h2] at this
    rw [this.2] at hb; simp at hb
   have hk0 : c.k = 0 → c.v = 0 := by
    intro h2
    have := (okAt_iff.1 hc).2
    simpa [kindOk, h2] using this
   have hf : c.f % 2 ^ m ||| 2 ^ m = c.f % 2 ^ (m + 1) := by
    apply Nat.eq_of_testBit_eq
    intro i
    rw [Nat.testBit_or, Nat.testBit_mod_two_pow, Nat.testBit_mod_two_pow, Nat.testBit_two_pow]
    rcases Nat.lt_or_ge i m with h | h
    ·have e3 : ¬ m = i := by omega
     simp [h, Nat.lt_succ_of_lt h, e3]
    ·rcases Nat.eq_or_lt_of_le h with h2 | h2
     ·subst h2; simp [hb]
     ·have e1 : ¬ i < m := by omega
      have e2 : ¬ i < m + 1 := by omega
      have e3 : ¬ m = i := by omega
      simp [e1, e2, e3]
   by_cases h0 : c.k = 0
   ·simp [join, joinK, joinV, oneAt, hk, hf, h0, hk0 h0]
   ·simp [join, joinK, joinV, oneAt, hk, hf, h0]
theorem unit_then {n : Nat} {xs : List Cl} (hx : Val n xs) : thenC (unitC n) xs = xs := by
 apply List.ext_getElem?
 intro i
 simp only [thenC, List.getElem?_map]
 rcases h : xs[i]? with _ | c
 ·rfl
 ·have h2 := ofTo_unit (hx.ok i c h) n (Nat.le_refl _)
  simp
  unfold ofC
  rw [unit_length, h2, Nat.mod_eq_of_lt (okAt_iff.1 (hx.ok i c h)).1]
theorem join_none {c : Cl} (h : c.ok) : join ⟨0, 0, 0⟩ c = c := by
 rcases ok_cases h with ⟨f, rfl⟩ | ⟨f, v, rfl⟩ | rfl <;> simp [join, joinK, joinV, manyC]
theorem ofTo_oneAt {xs : List Cl} {i : Nat} : ∀ m, m ≤ i → ofTo xs (oneAt i) m = ⟨0, 0, 0⟩
 | 0, _ => rfl
 | m + 1, h => by
  rw [ofTo_no (by simp [oneAt, Nat.testBit_two_pow]; omega)]
  exact ofTo_oneAt m (by omega)
theorem ofC_oneAt {n : Nat} {xs : List Cl} (hx : Val n xs) {i : Nat} {c : Cl} (hi : xs[i]? = some c) : ofC xs (oneAt i) = c := by
 have h1 : i < xs.length := (List.getElem?_eq_some_iff.1 hi).1
 have h2 : ofTo xs (oneAt i) (i + 1) = c := by
  rw [ofTo_yes (by simp [oneAt, Nat.testBit_two_pow]) hi, ofTo_oneAt i (Nat.le_refl _), join_none (hx.oks i c hi)]
 unfold ofC
 rw [ofTo_skip (k := i + 1) (by omega) (fun j h3 h4 => by simp [oneAt, Nat.testBit_two_pow]; omega), h2]
theorem then_unit {n : Nat} {xs : List Cl} (hx : Val n xs) : thenC xs (unitC n) = xs := by
 apply List.ext_getElem?
 intro i
 simp only [thenC, List.getElem?_map]
 rcases Nat.lt_or_ge i n with h | h
 ·have e : xs[i]? = some (xs[i]'(by rw [hx.len]; exact h)) := List.getElem?_eq_getElem _
  rw [unit_at h, e]
  simp [ofC_oneAt hx e]
 ·rw [List.getElem?_eq_none (by rw [unit_length]; exact h), List.getElem?_eq_none (by rw [hx.len]; exact h)]
  rfl
end Go.Proofs.Ytpkcaabbcoiiiaa
namespace Go.Proofs.Ytpkcaabbcoiiiaa
open Go.RowKit
structure PF where
 z : Bool
 c : Int
 g : Nat
 rows : List Nat
 cells : List Cl
def WF.pf (f : WF) : PF := ⟨f.z, f.c, f.g, f.rows, f.cells⟩
def zeroP : PF := ⟨true, 0, 0, [], []⟩
def pC (c : Int) : PF := ⟨false, c, 0, [], []⟩
def pF (g : Nat) (rows : List Nat) : PF := ⟨false, 0, g, rows, []⟩
def pX (cs : List Cl) : PF := ⟨false, 0, 0, [], cs⟩
inductive OkP (t n : Int) : PF → Prop
 | zero : OkP t n zeroP
 | bool (h : t = 1) : OkP t n (pC 0)
 | cost (c : Int) (h : t = 2) (h0 : 0 ≤ c) (h1 : c ≤ n) : OkP t n (pC c)
 | facts (m g : Nat) (rows : List Nat) (h : t = 3) (hn : n = (m : Int)) (hg : Good m g rows) : OkP t n (pF g rows)
 | cells (m : Nat) (cs : List Cl) (h : t = 4) (hn : n = (m : Int)) (hv : Val m cs) : OkP t n (pX cs)
def combP (t n : Int) (a b : PF) : PF :=
 if a.z = true then b else if b.z = true then a else if t = 2 then pC (min a.c b.c) else if t = 3 then pF (combG n a.g a.rows b.g b.rows) (combV n a.g a.rows b.g b.rows) else if t = 4 then pX (bothC a.cells b.cells) else pC 0
def extP (t n : Int) (a b : PF) : PF :=
 if a.z = true then zeroP else if b.z = true then zeroP else if t = 2 then pC (min (a.c + b.c) n) else if t = 3 then pF (extG n a.g a.rows b.g b.rows) (extV n a.g a.rows b.g b.rows) else if t = 4 then pX (thenC a.cells b.cells) else pC 0
def oneP (t n : Int) : PF := if t = 3 then pF 0 (onesL n.toNat) else if t = 4 then pX (unitC n.toNat) else pC 0
theorem okP_1 {n : Int} {a : PF} (h : OkP 1 n a) : a = zeroP ∨ a = pC 0 := by
 cases h with
 | zero => exact .inl rfl
 | bool h => exact .inr rfl
 | cost c h h0 h1 => omega
 | facts m g rows h => omega
 | cells m cs h => omega
theorem okP_2 {n : Int} {a : PF} (h : OkP 2 n a) : a = zeroP ∨ ∃ c, a = pC c ∧ 0 ≤ c ∧ c ≤ n := by
 cases h with
 | zero => exact .inl rfl
 | bool h => omega
 | cost c h h0 h1 => exact .inr ⟨c, rfl, h0, h1⟩
 | facts m g rows h => omega
 | cells m cs h => omega
theorem okP_3 {m : Nat} {a : PF} (h : OkP 3 m a) : a = zeroP ∨ ∃ g rows, a = pF g rows ∧ Good m g rows := by
 cases h with
 | zero => exact .inl rfl
 | bool h => omega
 | cost c h h0 h1 => omega
 | facts k g rows h hn hg =>
  obtain rfl : m = k := by omega
  exact .inr ⟨g, rows, rfl, hg⟩
 | cells m cs h => omega
theorem okP_4 {m : Nat} {a : PF} (h : OkP 4 m a) : a = zeroP ∨ ∃ cs, a = pX cs ∧ Val m cs := by
 cases h with
 | zero => exact .inl rfl
 | bool h => omega
 | cost c h h0 h1 => omega
 | facts k g rows h hn hg => omega
 | cells k cs h hn hv =>
  obtain rfl : m = k := by omega
  exact .inr ⟨cs, rfl, hv⟩
theorem plainB_cases {t n : Int} {l : Nat} (h : plainB t n l = true) : l = 0 ∧ ((t = 1 ∧ n = 0) ∨ (t = 2 ∧ 0 ≤ n ∧ n ≤ 1048576) ∨ (t = 3 ∧ ∃ m : Nat, n = m ∧ m ≤ 64) ∨ (t = 4 ∧ ∃ m : Nat, n = m ∧ m ≤ 64)) := by
 obtain ⟨h0, ht⟩ := plainB_tag h
 obtain ⟨d0, d1, d2, d3⟩ := plainB_dim h
 refine ⟨h0, ?_⟩
 rcases ht with rfl | rfl | rfl | rfl
 ·exact .inl ⟨rfl, d2 rfl⟩
 ·exact .inr (.inl ⟨rfl, d0, d1⟩)
 ·exact .inr (.inr (.inl ⟨rfl, n.toNat, by omega, by have := d3 (.inl rfl); omega⟩))
 ·exact .inr (.inr (.inr ⟨rfl, n.toNat, by omega, by have := d3 (.inr rfl); omega⟩))
section
variable {t n : Int} {l : Nat} {a b c : PF}
theorem comb_zl : combP t n zeroP a = a := by simp [combP, zeroP]
theorem comb_zr (ha : OkP t n a) : combP t n a zeroP = a := by cases ha <;> simp [combP, zeroP, pC, pF, pX]
theorem ext_zl : extP t n zeroP a = zeroP := by simp [extP, zeroP]
theorem ext_zr : extP t n a zeroP = zeroP := by simp [extP, zeroP]
theorem comb_1 : combP 1 n (pC 0) (pC 0) = pC 0 := by simp [combP, pC]
theorem comb_2 (x y : Int) : combP 2 n (pC x) (pC y) = pC (min x y) := by simp [combP, pC]
theorem comb_3 (g h : Nat) (xs ys : List Nat) : combP 3 n (pF g xs) (pF h ys) = pF (combG n g xs h ys) (combV n g xs h ys) := by simp [combP, pF]
theorem comb_4 (xs ys : List Cl) : combP 4 n (pX xs) (pX ys) = pX (bothC xs ys) := by simp [combP, pX]
theorem ext_1 : extP 1 n (pC 0) (pC 0) = pC 0 := by simp [extP, pC]
theorem ext_2 (x y : Int) : extP 2 n (pC x) (pC y) = pC (min (x + y) n) := by simp [extP, pC]
theorem ext_3 (g h : Nat) (xs ys : List Nat) : extP 3 n (pF g xs) (pF h ys) = pF (extG n g xs h ys) (extV n g xs h ys) := by simp [extP, pF]
theorem ext_4 (xs ys : List Cl) : extP 4 n (pX xs) (pX ys) = pX (thenC xs ys) := by simp [extP, pX]
theorem one_1 : oneP 1 n = pC 0 := by simp [oneP]
theorem one_2 : oneP 2 n = pC 0 := by simp [oneP]
theorem one_3 (m : Nat) : oneP 3 m = pF 0 (onesL m) := by simp [oneP]
theorem one_4 (m : Nat) : oneP 4 m = pX (unitC m) := by simp [oneP]
theorem one_okP (h : plainB t n l = true) : OkP t n (oneP t n) := by
 rcases (plainB_cases h).2 with ⟨rfl, hn⟩ | ⟨rfl, h0, h1⟩ | ⟨rfl, m, rfl, hm⟩ | ⟨rfl, m, rfl, hm⟩
 ·rw [one_1]; exact .bool rfl
 ·rw [one_2]; exact .cost 0 rfl (by omega) h0
 ·rw [one_3]; exact .facts m 0 _ rfl rfl (ones_good hm)
 ·rw [one_4]; exact .cells m _ rfl rfl (val_unit hm)
theorem one_ext (h : plainB t n l = true) (ha : OkP t n a) : extP t n (oneP t n) a = a := by
 by_cases za : a = zeroP
 ·subst za; rw [ext_zr]
 rcases (plainB_cases h).2 with ⟨rfl, hn⟩ | ⟨rfl, h0, h1⟩ | ⟨rfl, m, rfl, hm⟩ | ⟨rfl, m, rfl, hm⟩
 ·obtain rfl := (okP_1 ha).resolve_left za
  rw [one_1, ext_1]
 ·obtain ⟨x, rfl, hx⟩ := (okP_2 ha).resolve_left za
  rw [one_2, ext_2]; congr 1; omega
 ·obtain ⟨g, x, rfl, hx⟩ := (okP_3 ha).resolve_left za
  rw [one_3, ext_3, (ring_oneL hx).1, (ring_oneL hx).2]
 ·obtain ⟨x, rfl, hx⟩ := (okP_4 ha).resolve_left za
  rw [one_4, ext_4, unit_then hx]
theorem ext_one (h : plainB t n l = true) (ha : OkP t n a) : extP t n a (oneP t n) = a := by
 by_cases za : a = zeroP
 ·subst za; rw [ext_zl]
 rcases (plainB_cases h).2 with ⟨rfl, hn⟩ | ⟨rfl, h0, h1⟩ | ⟨rfl, m, rfl, hm⟩ | ⟨rfl, m, rfl, hm⟩
 ·obtain rfl := (okP_1 ha).resolve_left za
  rw [one_1, ext_1]
 ·obtain ⟨x, rfl, hx⟩ := (okP_2 ha).resolve_left za
  rw [one_2, ext_2]; congr 1; omega
 ·obtain ⟨g, x, rfl, hx⟩ := (okP_3 ha).resolve_left za
  rw [one_3, ext_3, (ring_oneR hx).1, (ring_oneR hx).2]
 ·obtain ⟨x, rfl, hx⟩ := (okP_4 ha).resolve_left za
  rw [one_4, ext_4, then_unit hx]
end
inductive PS where
 | one (t n : Int)
 | two (t n u m : Int)
def PS.ok : PS → Prop
 | .one t n => plainB t n 0 = true
 | .two t n u m => plainB t n 0 = true ∧ plainB u m 0 = true
inductive PX where
 | one (a : PF)
 | two (a b : PF)
def OkX : PS → PX → Prop
 | .one t n, .one a => OkP t n a
 | .two t n u m, .two a b => OkP t n a ∧ OkP u m b
 | _, _ => False
def combX : PS → PX → PX → PX
 | .one t n, .one a, .one b => .one (combP t n a b)
 | .two t n u m, .two a b, .two c d => .two (combP t n a c) (combP u m b d)
 | _, x, _ => x
def extX : PS → PX → PX → PX
 | .one t n, .one a, .one b => .one (extP t n a b)
 | .two t n u m, .two a b, .two c d => .two (extP t n a c) (extP u m b d)
 | _, x, _ => x
def oneX : PS → PX
 | .one t n => .one (oneP t n)
 | .two t n u m => .two (oneP t n) (oneP u m)
def zeroX : PS → PX
 | .one _ _ => .one zeroP
 | .two _ _ _ _ => .two zeroP zeroP
section
variable {S : PS} {x y v : PX}
theorem one_okX (h : S.ok) : OkX S (oneX S) := by
 cases S with
 | one t n => exact one_okP h
 | two t n u m => exact ⟨one_okP h.1, one_okP h.2⟩
theorem combX_zero (hx : OkX S x) : combX S (zeroX S) x = x := by
 cases S <;> cases x <;> first | exact hx.elim | (simp only [combX, zeroX, comb_zl])
theorem oneX_ext (h : S.ok) (hx : OkX S x) : extX S (oneX S) x = x := by
 cases S <;> cases x <;> first | exact hx.elim | exact congrArg PX.one (one_ext h hx) | (simp only [extX, oneX]; rw [one_ext h.1 hx.1, one_ext h.2 hx.2])
theorem extX_one (h : S.ok) (hx : OkX S x) : extX S x (oneX S) = x := by
 cases S <;> cases x <;> first | exact hx.elim | exact congrArg PX.one (ext_one h hx) | (simp only [extX, oneX]; rw [ext_one h.1 hx.1, ext_one h.2 hx.2])
end
structure PIs (w : World) (t n : Int) (f : WF) (a : PF) : Prop where
 at_ : f.At w
 pf : f.pf = a
 ok : OkP t n a
 pl : f.pl = 0
theorem PIs.below {w w' : World} {t n : Int} {f : WF} {a : PF} (h : PIs w t n f a) (hb : Below w.heap.size w w') : PIs w' t n f a := ⟨h.at_.below hb, h.pf, h.ok, h.pl⟩
def XIs (w : World) : PS → WF → PX → Prop
 | .one t n, f, .one a => PIs w t n f a
 | .two t n u m, f, .two a b => f.pf = pC 0 ∧ f.rl = 0 ∧ f.cl = 0 ∧ f.pl = 2 ∧ ∃ blk off g h, f.pa = some ⟨blk, off, none⟩ ∧ W6 w blk off g ∧ W6 w blk (off + 6) h ∧ PIs w t n g a ∧ PIs w u m h b
 | _, _, _ => False
theorem XIs.below {w w' : World} {S : PS} {f : WF} {x : PX} (h : XIs w S f x) (hb : Below w.heap.size w w') : XIs w' S f x := by
 cases S <;> cases x <;> first | exact h.elim | exact PIs.below h hb | skip
 obtain ⟨h1, h2, h3, h4, blk, off, g, k, h5, h6, h7, h8, h9⟩ := h
 exact ⟨h1, h2, h3, h4, blk, off, g, k, h5, h6.below hb, h7.below hb, h8.below hb, h9.below hb⟩
theorem XIs.ok {w : World} {S : PS} {f : WF} {x : PX} (h : XIs w S f x) : OkX S x := by
 cases S <;> cases x <;> first | exact h.elim | exact PIs.ok h | skip
 obtain ⟨_, _, _, _, _, _, _, _, _, _, _, h8, h9⟩ := h
 exact ⟨h8.ok, h9.ok⟩
theorem PIs.of {w : World} {t n : Int} {f : WF} (hp : plainB t n 0 = true) (hf : f.At w) (h : pwOk t n f = true) : PIs w t n f f.pf := by
 have hrl := hf.rl; have hcl := hf.cl; have hg := hf.g64; have hr := hf.r64
 obtain ⟨z, c, g, ra, rl, rc, rows, ca, cl, cc, cells, pa, pl, pc⟩ := f
 dsimp only at hrl hcl hg hr
 subst hrl hcl
 simp only [pwOk, Bool.and_eq_true, Bool.or_eq_true, bareB, onlyB, decide_eq_true_eq, Bool.not_eq_true'] at h
 obtain ⟨⟨h1, h2, h3, h4⟩, h5⟩ := h
 have ht5 : t ≠ 5 := by rintro rfl; simp [plainB] at hp
 have hpl : pl = 0 := by
  rcases h4 with ⟨_, h4⟩ | h4
  ·exact absurd h4 ht5
  ·exact h4
 refine ⟨hf, rfl, ?_, hpl⟩
 show OkP t n ⟨z, c, g, rows, cells⟩
 cases z
 ·have h1' : t = 2 ∨ c = 0 := by simpa using h1
  have h2' : t = 3 ∨ (g = 0 ∧ rows.length = 0) := by simpa using h2
  have h3' : t = 4 ∨ cells.length = 0 := by simpa using h3
  simp only [Bool.false_eq_true, false_or] at h5
  rcases (plainB_cases hp).2 with ⟨rfl, hn⟩ | ⟨rfl, h0, h1⟩ | ⟨rfl, m, rfl, hm⟩ | ⟨rfl, m, rfl, hm⟩
  ·obtain rfl : c = 0 := by omega
   obtain ⟨rfl, hr0⟩ : g = 0 ∧ rows.length = 0 := by
    rcases h2' with h | h
    ·omega
    ·exact h
   obtain rfl := List.eq_nil_of_length_eq_zero hr0
   obtain rfl := List.eq_nil_of_length_eq_zero (h3'.resolve_left (by decide))
   exact .bool rfl
  ·obtain ⟨rfl, hr0⟩ := h2'.resolve_left (by decide)
   obtain rfl := List.eq_nil_of_length_eq_zero hr0
   obtain rfl := List.eq_nil_of_length_eq_zero (h3'.resolve_left (by decide))
   simp only [if_true, Bool.and_eq_true, decide_eq_true_eq] at h5
   exact .cost c rfl h5.1 h5.2
  ·obtain rfl : c = 0 := by omega
   obtain rfl := List.eq_nil_of_length_eq_zero (h3'.resolve_left (by decide))
   have h6 : checkE (m : Int) g rows = 0 := by simpa using h5
   obtain ⟨k, hk, hgood⟩ := check_good hg hr h6
   exact .facts k g rows rfl hk hgood
  ·obtain rfl : c = 0 := by omega
   obtain ⟨rfl, hr0⟩ := h2'.resolve_left (by decide)
   obtain rfl := List.eq_nil_of_length_eq_zero hr0
   have h6 : chkC (m : Int) cells = 0 := by simpa using h5
   obtain ⟨k, hk, hv⟩ := val_of h6
   exact .cells k cells rfl hk hv
 ·obtain rfl : c = 0 := by simpa using h1
  obtain ⟨rfl, hr0⟩ : g = 0 ∧ rows.length = 0 := by simpa using h2
  have hc0 : cells.length = 0 := by simpa using h3
  obtain rfl := List.eq_nil_of_length_eq_zero hr0
  obtain rfl := List.eq_nil_of_length_eq_zero hc0
  exact .zero
end Go.Proofs.Ytpkcaabbcoiiiaa
namespace Go.Proofs.Ytpkcaabbcoiiiaa
open Go.RowKit
def pairF (blk : Nat) : WF := ⟨false, 0, 0, none, 0, 0, [], none, 0, 0, [], some ⟨blk, 0, none⟩, 2, 2⟩
def zeroF : WF := ⟨true, 0, 0, none, 0, 0, [], none, 0, 0, [], none, 0, 0⟩
set_option maxHeartbeats 2000000 in
theorem pair_is (f g : WF) (w : World) :
  Calls Try.prog 101 #[f.val, g.val] w fun e w' => ∃ blk, e = .returned (pairF blk).val ∧ W6 w' blk 0 f ∧ W6 w' blk 6 g ∧ w.heap.size ≤ blk ∧ Below w.heap.size w w' := by
 obtain ⟨z, c, g0, ra, rl, rc, rows, ca, cl, cc, cells, pa, pl, pc⟩ := f
 obtain ⟨z2, c2, g2, ra2, rl2, rc2, rows2, ca2, cl2, cc2, cells2, pa2, pl2, pc2⟩ := g
 show Calls Try.prog 101 #[.agg #[.bool z, .int .i64 c, .int .u64 (g0 : Int), .slice ra rl rc, .slice ca cl cc, .slice pa pl pc], .agg #[.bool z2, .int .i64 c2, .int .u64 (g2 : Int), .slice ra2 rl2 rc2, .slice ca2 cl2 cc2, .slice pa2 pl2 pc2]] w _
 obtain ⟨W2, hW2⟩ : ∃ W, (w.alloc (.cells #[.bool z, .int .i64 c, .int .u64 (g0 : Int), .slice ra rl rc, .slice ca cl cc, .slice pa pl pc] 45)).alloc (.cells #[.bool z2, .int .i64 c2, .int .u64 (g2 : Int), .slice ra2 rl2 rc2, .slice ca2 cl2 cc2, .slice pa2 pl2 pc2] 45) = W := ⟨_, rfl⟩
 have hs2 : W2.heap.size = w.heap.size + 1 + 1 := by rw [← hW2]; simp
 have B2 : Below w.heap.size w W2 := by rw [← hW2]; exact wbox _ _ _ _ _
 obtain ⟨t0, t1⟩ := two_boxes2 W2 #[.bool false, .int .i64 0, .int .u64 0, .slice none 0 0, .slice none 0 0, .slice (some ⟨w.heap.size + 1 + 1 + 1, 0, none⟩) 2 2] #[.bool z, .int .i64 c, .int .u64 (g0 : Int), .slice ra rl rc, .slice ca cl cc, .slice pa pl pc, .bool z2, .int .i64 c2, .int .u64 (g2 : Int), .slice ra2 rl2 rc2, .slice ca2 cl2 cc2, .slice pa2 pl2 pc2] 45 45
 have B4 : Below w.heap.size w ((W2.alloc (.cells #[.bool false, .int .i64 0, .int .u64 0, .slice none 0 0, .slice none 0 0, .slice (some ⟨w.heap.size + 1 + 1 + 1, 0, none⟩) 2 2] 45)).alloc (.cells #[.bool z, .int .i64 c, .int .u64 (g0 : Int), .slice ra rl rc, .slice ca cl cc, .slice pa pl pc, .bool z2, .int .i64 c2, .int .u64 (g2 : Int), .slice ra2 rl2 rc2, .slice ca2 cl2 cc2, .slice pa2 pl2 pc2] 45)) := B2.trans ((wbox _ _ _ _ _).mono B2.size)
 rw [hs2] at t0 t1
 obtain ⟨s0, s1, s2, s3, s4, s5⟩ := six_cells t0
 have T1 := Lib.hid t1
 have HB4 := Lib.hid B4
 clear t0 t1 B2 B4 hs2
 subst hW2
 go_enter Try.func101, Try.ntmps101
 go_wp2_with fail
 refine bodyPost_ret (v := .agg #[.bool false, .int .i64 0, .int .u64 0, .slice none 0 0, .slice none 0 0, .slice (some ⟨w.heap.size + 1 + 1 + 1, 0, none⟩) 2 2]) ?_ rfl ?_
 rotate_left
 ·exact ⟨w.heap.size + 1 + 1 + 1, rfl, ⟨bcell T1.out rfl, bcell T1.out rfl, bcell T1.out rfl, bcell T1.out rfl, bcell T1.out rfl, bcell T1.out rfl⟩, ⟨bcell T1.out rfl, bcell T1.out rfl, bcell T1.out rfl, bcell T1.out rfl, bcell T1.out rfl, bcell T1.out rfl⟩, by omega, HB4.out⟩
 simp [results, Try.results101, go_sem, s0, s1, s2, s3, s4, s5]
set_option maxHeartbeats 2000000 in
theorem zeroA_plain (t n : Int) (a : Option Addr) (l c0 : Nat) (ht : t ≠ 5) (w : World) :
  Calls Try.prog 85 #[.agg #[.int .i64 t, .int .i64 n, .slice a l c0]] w fun e w' => e = .returned zeroF.val ∧ Below w.heap.size w w' := by
 have e5 : (t == 5) = false := by simp [ht]
 clear ht
 obtain ⟨t0, t1⟩ := two_boxes2 w #[.int .i64 t, .int .i64 n, .slice a l c0] #[.bool true, .int .i64 0, .int .u64 0, .slice none 0 0, .slice none 0 0, .slice none 0 0] 25 45
 obtain ⟨s0, s1, s2, s3, s4, s5⟩ := six_cells t1
 clear t0 t1
 go_enter Try.func85, Try.ntmps85
 go_wp2_with fail
 refine bodyPost_ret (v := .agg #[.bool true, .int .i64 0, .int .u64 0, .slice none 0 0, .slice none 0 0, .slice none 0 0]) ?_ rfl ⟨rfl, wbox _ _ _ _ _⟩
 simp [results, Try.results85, go_sem, s0, s1, s2, s3, s4, s5]
end Go.Proofs.Ytpkcaabbcoiiiaa
namespace Go.Proofs.Ytpkcaabbcoiiiaa
open Go.RowKit
theorem pl_pair {t n : Int} {l : Nat} (h : plainB t n l = true) : t ≠ 5 := by
 rintro rfl; simp [plainB] at h
set_option maxHeartbeats 2000000 in
theorem spaceR_is (d : Nat) (s : SV) (e0 : Int) (w : World) (hs : SIn w d s) (he : spaceE s = e0) :
  Calls Try.prog 34 #[s.f.val] w fun e w' => e = .returned (.int .i64 e0) ∧ Below w.heap.size w w' := by
 match d, s, hs with
 | d + 1, .mk ⟨t, n, a, l, c⟩ ps, hs =>
 show Calls Try.prog 34 #[.agg #[.int .i64 t, .int .i64 n, .slice a l c]] w _
 have hl : ps.length = l := hs.1
 by_cases ht : t = 5
 ·subst ht
  have hB := Lib.hid (sbox w #[.int .i64 5, .int .i64 n, .slice a l c] 25)
  have BX := Lib.hid (heapV_new w (.cells #[.int .i64 5, .int .i64 n, .slice a l c] 25))
  have hpl : plainB 5 n l = false := by simp [plainB]
  by_cases h0 : n = 0 ∧ l = 2
  ·obtain ⟨rfl, rfl⟩ := h0
   obtain ⟨p, q, rfl⟩ := two_of hl
   obtain ⟨_, b, off, ha, hb, hp, hq, _, _⟩ := hs.two
   obtain rfl : a = some ⟨b, off, none⟩ := ha
   obtain ⟨⟨pt, pn, pa, pl, pc⟩, pps⟩ := p
   obtain ⟨⟨qt, qn, qa, ql, qc⟩, qps⟩ := q
   have HP := Lib.hid (hp.below hB.out); have HQ := Lib.hid (hq.below hB.out)
   obtain ⟨r1, hr1⟩ : ∃ r, plainB pt pn pl = r := ⟨_, rfl⟩
   obtain ⟨r2, hr2⟩ : ∃ r, plainB qt qn ql = r := ⟨_, rfl⟩
   have HR1 := Lib.hid hr1; have HR2 := Lib.hid hr2
   have HE : Hid ((if r1 = true ∧ r2 = true then (0 : Int) else 50) = e0) := by
    show _ = _
    rw [← he]; simp [spaceE, hpl, SV.pl, SV.f, hr1, hr2]
   obtain ⟨W0, hW0⟩ : ∃ W, w.alloc (.cells #[.int .i64 5, .int .i64 0, .slice (some ⟨b, off, none⟩) 2 c] 25) = W := ⟨_, rfl⟩
   rw [hW0] at BX HP HQ hB
   clear hs hl hp hq hr1 hr2 he hpl
   have NX : ∀ W : World, Below W0.heap.size W0 W → Hid (W.cell? ⟨w.heap.size, 0, none⟩ = some (.int .i64 5) ∧ W.cell? ⟨w.heap.size, 1, none⟩ = some (.int .i64 0) ∧ W.cell? ⟨w.heap.size, 2, none⟩ = some (.slice (some ⟨b, off, none⟩) 2 c)) := fun _ h => tri_cells (heap_old BX.out h)
   have NNX := Lib.hid NX
   clear NX
   obtain ⟨z0, z1, z2⟩ := (NNX.out _ (Below.refl _ _)).out
   go_enter Try.func34, Try.ntmps34
   go_wp2_with fail
   clear z0 z1 z2
   go_loopw [3, 4] (fun o i wr => Below W0.heap.size W0 wr ∧ ((i = .int .i64 0 ∧ o = .bool true) ∨ (i = .int .i64 1 ∧ o = .bool r1) ∨ (i = .int .i64 2 ∧ r1 = true ∧ o = .bool r2))) (fun _ i _ => 2 - (intOf i).toNat)
   case atStart => exact ⟨Below.refl _ _, .inl ⟨rfl, rfl⟩⟩
   case round =>
    obtain ⟨hb1, hrel⟩ := hrel
    obtain ⟨x0, x1, x2⟩ := (NNX.out _ hb1).out
    obtain ⟨y0, y1, y2⟩ := HP.out.below hb1
    obtain ⟨v0, v1, v2⟩ := HQ.out.below hb1
    dsimp only [SV.f] at y0 y1 y2 v0 v1 v2
    simp only [Nat.add_assoc, Nat.reduceAdd] at v1 v2
    rcases hrel with ⟨rfl, rfl⟩ | ⟨rfl, rfl⟩ | ⟨rfl, hr, rfl⟩
    ·by_cases hp5 : pt = 5
     ·subst hp5
      have HF : Hid (r1 = false) := by show _ = _; rw [← HR1.out]; simp [plainB]
      go_wp2_with fail
      go_roundw
      case rel => exact ⟨hb1, .inr (.inl ⟨rfl, by rw [HF.out]⟩)⟩
      case measure => simp [intOf]
     ·have hp6 : (pt != 5) = true := by simp [hp5]
      go_wp2_with fail
      refine (spaceR_flat pt pn pa pl pc hp5 r1 HR1.out _).mono ?_
      rintro e w3 ⟨rfl, hb3⟩
      cases r1
      all_goals
       simp only [Bool.false_eq_true, if_false, if_true]
       go_wp2_with fail
       go_roundw
       case rel => exact ⟨hb1.trans (hb3.mono hb1.size), .inr (.inl ⟨rfl, rfl⟩)⟩
       case measure => simp [intOf]
    ·cases r1
     ·have HE2 : Hid ((50 : Int) = e0) := by show _ = _; rw [← HE.out]; simp
      go_wp2_with fail
      go_ret
      exact ⟨rint HE2.out, hB.out.trans (hb1.mono hB.out.size)⟩
     ·by_cases hp5 : qt = 5
      ·subst hp5
       have HF : Hid (r2 = false) := by show _ = _; rw [← HR2.out]; simp [plainB]
       go_wp2_with fail
       go_roundw
       case rel => exact ⟨hb1, .inr (.inr ⟨by first | rfl | trivial, by first | rfl | trivial, by first | rfl | (rw [HF.out])⟩)⟩
       case measure => simp [intOf]
      ·have hp6 : (qt != 5) = true := by simp [hp5]
       go_wp2_with fail
       refine (spaceR_flat qt qn qa ql qc hp5 r2 HR2.out _).mono ?_
       rintro e w3 ⟨rfl, hb3⟩
       cases r2
       all_goals
        simp only [Bool.false_eq_true, if_false, if_true]
        go_wp2_with fail
        go_roundw
        case rel => exact ⟨hb1.trans (hb3.mono hb1.size), .inr (.inr ⟨by first | rfl | trivial, by first | rfl | trivial, by first | rfl | trivial⟩)⟩
        case measure => simp [intOf]
    ·have HE2 : Hid ((if r2 = true then (0 : Int) else 50) = e0) := by show _ = _; rw [← HE.out, hr]; simp
     cases r2
     all_goals
      go_wp2_with fail
      go_ret
      exact ⟨rint HE2.out, hB.out.trans (hb1.mono hB.out.size)⟩
  ·have HE : Hid ((50 : Int) = e0) := by
    show _ = _
    rw [← he, spaceE, hpl, if_neg (by simp), if_neg]
    rintro ⟨_, h1, h2, _⟩
    exact h0 ⟨h1, by omega⟩
   obtain ⟨W0, hW0⟩ : ∃ W, w.alloc (.cells #[.int .i64 5, .int .i64 n, .slice a l c] 25) = W := ⟨_, rfl⟩
   rw [hW0] at BX hB
   obtain ⟨x0, x1, x2⟩ := tri_cells BX.out
   clear hs hl he hpl
   have hc : (n = 0 ∧ ((n == 0) = true) ∧ ((l : Int) == 2) = false) ∨ ((n == 0) = false) := by
    by_cases hn : n = 0
    ·exact .inl ⟨hn, by simp [hn], by simp; omega⟩
    ·exact .inr (by simp [hn])
   clear h0
   rcases hc with ⟨rfl, c1, c2⟩ | c1
   all_goals
    go_enter Try.func34, Try.ntmps34
    go_wp2_with fail
    go_loopw [3, 4] (fun o i wr => i = .int .i64 0 ∧ o = .bool false ∧ W0 = wr) (fun _ i _ => 0)
    case atStart => exact ⟨rfl, rfl, rfl⟩
    case round =>
     obtain ⟨rfl, rfl, rfl⟩ := hrel
     by_cases hl0 : 0 < l
     ·have g1 : (0 : Int) < (l : Int) := by omega
      go_wp2_with fail
      go_ret
      exact ⟨rint HE.out, hB.out⟩
     ·obtain rfl : l = 0 := by omega
      go_wp2_with fail
      go_ret
      exact ⟨rint HE.out, hB.out⟩
 ·obtain ⟨r, hr⟩ : ∃ r, plainB t n l = r := ⟨_, rfl⟩
  refine (spaceR_flat t n a l c ht r hr w).mono ?_
  rintro e w1 ⟨rfl, hb⟩
  refine ⟨?_, hb⟩
  rw [← he, spaceE_flat ht, hr]
end Go.Proofs.Ytpkcaabbcoiiiaa
namespace Go.Proofs.Ytpkcaabbcoiiiaa
open Go.RowKit
theorem six_frozen {w : World} {B : Nat} {cs : Array Value} {T : TypeId} (h : w.heap[B]? = some (.cells cs T (0, 0))) (j : Nat) : w.frozen? ⟨B, j, none⟩ = false := by
 unfold World.frozen?; simp [h]
theorem six_set {w : World} {B : Nat} {a b c d e f v0 v1 v2 v3 v4 v5 : Value} {T : TypeId} (h : w.heap[B]? = some (.cells #[a, b, c, d, e, f] T (0, 0))) :
  ((((((w.setCell ⟨B, 0, none⟩ v0).setCell ⟨B, 1, none⟩ v1).setCell ⟨B, 2, none⟩ v2).setCell ⟨B, 3, none⟩ v3).setCell ⟨B, 4, none⟩ v4).setCell ⟨B, 5, none⟩ v5).heap[B]? = some (.cells #[v0, v1, v2, v3, v4, v5] T (0, 0)) :=
 heap_setCell_same _ B 5 _ _ _ (heap_setCell_same _ B 4 _ _ _ (heap_setCell_same _ B 3 _ _ _ (heap_setCell_same _ B 2 _ _ _ (heap_setCell_same _ B 1 _ _ _ (heap_setCell_same w B 0 _ _ _ h)))))
theorem put6_below {n : Nat} {w0 w : World} {B : Nat} (v0 v1 v2 v3 v4 v5 : Value) (h : Below n w0 w) (hB : n ≤ B) :
  Below n w0 ((((((w.setCell ⟨B, 0, none⟩ v0).setCell ⟨B, 1, none⟩ v1).setCell ⟨B, 2, none⟩ v2).setCell ⟨B, 3, none⟩ v3).setCell ⟨B, 4, none⟩ v4).setCell ⟨B, 5, none⟩ v5) :=
 (((((h.setCell (p := ⟨B, 0, none⟩) hB _).setCell (p := ⟨B, 1, none⟩) hB _).setCell (p := ⟨B, 2, none⟩) hB _).setCell (p := ⟨B, 3, none⟩) hB _).setCell (p := ⟨B, 4, none⟩) hB _).setCell (p := ⟨B, 5, none⟩) hB _
def Above (n : Nat) (w w' : World) : Prop := ∀ k, n ≤ k → w'.heap[k]? = w.heap[k]?
theorem Above.refl (n : Nat) (w : World) : Above n w w := fun _ _ => rfl
theorem Above.setCell {n : Nat} {a w : World} (h : Above n a w) {p : Addr} (hp : p.block < n) (u : Value) : Above n a (w.setCell p u) := fun k hk => (Below.heap_setCell _ _ _ _ (by omega)).trans (h k hk)
theorem Above.cell {n : Nat} {w w' : World} (h : Above n w w') {p : Addr} (hp : n ≤ p.block) : w'.cell? p = w.cell? p := World.cell?_of_block (w := w) (h p.block hp)
theorem put6_above {n : Nat} {w0 w : World} {B : Nat} (v0 v1 v2 v3 v4 v5 : Value) (h : Above n w0 w) (hB : B < n) :
  Above n w0 ((((((w.setCell ⟨B, 0, none⟩ v0).setCell ⟨B, 1, none⟩ v1).setCell ⟨B, 2, none⟩ v2).setCell ⟨B, 3, none⟩ v3).setCell ⟨B, 4, none⟩ v4).setCell ⟨B, 5, none⟩ v5) :=
 (((((h.setCell (p := ⟨B, 0, none⟩) hB _).setCell (p := ⟨B, 1, none⟩) hB _).setCell (p := ⟨B, 2, none⟩) hB _).setCell (p := ⟨B, 3, none⟩) hB _).setCell (p := ⟨B, 4, none⟩) hB _).setCell (p := ⟨B, 5, none⟩) hB _
theorem VRow.above {w w' : World} {n : Nat} {a : Option Addr} {vs : List Value} (h : VRow w a vs) (hn : ∀ ad, a = some ad → n ≤ ad.block) (hb : Above n w w') : VRow w' a vs := by
 rcases h with h | ⟨b, off, rfl, hc⟩
 ·exact .inl h
 ·exact .inr ⟨b, off, rfl, fun i v hi => (hb.cell (p := ⟨b, off + i, none⟩) (hn ⟨b, off, none⟩ rfl)).trans (hc i v hi)⟩
theorem CRow.above {w w' : World} {n : Nat} {a : Option Addr} {cs : List Cl} (h : CRow w a cs) (hn : ∀ ad, a = some ad → n ≤ ad.block) (hb : Above n w w') : CRow w' a cs := by
 rcases h with h | ⟨b, off, rfl, hc⟩
 ·exact .inl h
 ·exact .inr ⟨b, off, rfl, fun i v hi => ⟨(hb.cell (p := ⟨b, off + i * 3, none⟩) (hn ⟨b, off, none⟩ rfl)).trans (hc i v hi).1, (hb.cell (p := ⟨b, off + i * 3 + 1, none⟩) (hn ⟨b, off, none⟩ rfl)).trans (hc i v hi).2.1, (hb.cell (p := ⟨b, off + i * 3 + 2, none⟩) (hn ⟨b, off, none⟩ rfl)).trans (hc i v hi).2.2⟩⟩
theorem W6.above {w w' : World} {n b o : Nat} {f : WF} (h : W6 w b o f) (hn : n ≤ b) (hb : Above n w w') : W6 w' b o f :=
 ⟨(hb.cell hn).trans h.1, (hb.cell hn).trans h.2.1, (hb.cell hn).trans h.2.2.1, (hb.cell hn).trans h.2.2.2.1, (hb.cell hn).trans h.2.2.2.2.1, (hb.cell hn).trans h.2.2.2.2.2⟩
structure PNew (n : Nat) (w : World) (t d : Int) (f : WF) (a : PF) : Prop where
 is : PIs w t d f a
 ra : ∀ ad, f.ra = some ad → n ≤ ad.block
 ca : ∀ ad, f.ca = some ad → n ≤ ad.block
theorem PNew.below {n : Nat} {w w' : World} {t d : Int} {f : WF} {a : PF} (h : PNew n w t d f a) (hb : Below w.heap.size w w') : PNew n w' t d f a := ⟨h.is.below hb, h.ra, h.ca⟩
theorem PNew.mono {n m : Nat} {w : World} {t d : Int} {f : WF} {a : PF} (h : PNew n w t d f a) (hm : m ≤ n) : PNew m w t d f a := ⟨h.is, fun ad e => Nat.le_trans hm (h.ra ad e), fun ad e => Nat.le_trans hm (h.ca ad e)⟩
def XNew (n : Nat) (w : World) : PS → WF → PX → Prop
 | .one t d, f, .one a => PNew n w t d f a
 | .two t d u m, f, .two a b => f.pf = pC 0 ∧ f.rl = 0 ∧ f.cl = 0 ∧ f.pl = 2 ∧ ∃ blk g h, f.pa = some ⟨blk, 0, none⟩ ∧ n ≤ blk ∧ W6 w blk 0 g ∧ W6 w blk 6 h ∧ PNew n w t d g a ∧ PNew n w u m h b
 | _, _, _ => False
theorem XNew.is {n : Nat} {w : World} {S : PS} {f : WF} {x : PX} (h : XNew n w S f x) : XIs w S f x := by
 cases S <;> cases x <;> first | exact h.elim | exact PNew.is h | skip
 obtain ⟨h1, h2, h3, h4, blk, g, k, h5, _, h6, h7, h8, h9⟩ := h
 exact ⟨h1, h2, h3, h4, blk, 0, g, k, h5, h6, by simpa using h7, h8.is, h9.is⟩
theorem XNew.below {n : Nat} {w w' : World} {S : PS} {f : WF} {x : PX} (h : XNew n w S f x) (hb : Below w.heap.size w w') : XNew n w' S f x := by
 cases S <;> cases x <;> first | exact h.elim | exact PNew.below h hb | skip
 obtain ⟨h1, h2, h3, h4, blk, g, k, h5, h0, h6, h7, h8, h9⟩ := h
 exact ⟨h1, h2, h3, h4, blk, g, k, h5, h0, h6.below hb, h7.below hb, h8.below hb, h9.below hb⟩
theorem XNew.mono {n m : Nat} {w : World} {S : PS} {f : WF} {x : PX} (h : XNew n w S f x) (hm : m ≤ n) : XNew m w S f x := by
 cases S <;> cases x <;> first | exact h.elim | exact PNew.mono h hm | skip
 obtain ⟨h1, h2, h3, h4, blk, g, k, h5, h0, h6, h7, h8, h9⟩ := h
 exact ⟨h1, h2, h3, h4, blk, g, k, h5, Nat.le_trans hm h0, h6, h7, h8.mono hm, h9.mono hm⟩
def WRet (S : PS) (x : PX) (w : World) (e : Ending) (w' : World) : Prop := ∃ f : WF, e = .returned f.val ∧ XNew w.heap.size w' S f x ∧ Below w.heap.size w w'
theorem zero_new (n : Nat) (w : World) (t d : Int) : PNew n w t d zeroF zeroP :=
 ⟨⟨⟨.inl rfl, rfl, by decide, (fun r hr => by cases hr), .inl rfl, rfl, (fun c hc => by cases hc), by decide⟩, rfl, .zero, rfl⟩, (fun ad e => by cases e), (fun ad e => by cases e)⟩
theorem pair_new {n : Nat} {w : World} {t d u m : Int} {blk : Nat} {g h : WF} {a b : PF} (h6 : W6 w blk 0 g) (h7 : W6 w blk 6 h) (hn : n ≤ blk) (ha : PNew n w t d g a) (hb : PNew n w u m h b) : XNew n w (.two t d u m) (pairF blk) (.two a b) :=
 ⟨rfl, rfl, rfl, rfl, blk, g, h, rfl, hn, h6, h7, ha, hb⟩
end Go.Proofs.Ytpkcaabbcoiiiaa
namespace Go.Proofs.Ytpkcaabbcoiiiaa
open Go.RowKit
theorem co_rint {k : IntKind} {a b : Int} (h : a = b) : Ending.returned (.int k a) = .returned (.int k b) := by rw [h]
def Row (w : World) (a : Option Addr) (zs : List Int) : Prop :=
 zs = [] ∨ ∃ b off, a = some ⟨b, off, none⟩ ∧ ∀ i, i < zs.length → w.cell? ⟨b, off + i, none⟩ = some (.int .i64 (zs.getD i 0))
def okc (limit c : Int) : Bool := decide (-1 ≤ c) && decide (c ≤ limit)
def chk (limit : Int) (zs : List Int) : Int := if limit < 0 ∨ 1048576 < limit then 20 else if zs.all (okc limit) then 0 else 21
def lesser (a b : Int) : Int := if a = -1 then b else if b = -1 then a else min a b
def added (limit a b : Int) : Int := if a = -1 ∨ b = -1 then -1 else min (a + b) limit
theorem lesser_any (a b : Int) (w : World) : Calls Try.prog 126 #[.int .i64 a, .int .i64 b] w fun e w' => e = .returned (.int .i64 (lesser a b)) ∧ w = w' := by
 by_cases ha : a = -1
 ·have h1 : (a == -1) = true := by simp [ha]
  have e1 : lesser a b = b := by simp [lesser, ha]
  have H := Lib.hid e1; clear e1 ha
  go_enter Try.func126, Try.ntmps126
  go_wp2
  go_ret
  exact ⟨co_rint H.out.symm, rfl⟩
 ·have h1 : (a == -1) = false := by simp [ha]
  by_cases hb : b = -1
  ·have h2 : (b == -1) = true := by simp [hb]
   have e1 : lesser a b = a := by simp [lesser, ha, hb]
   have H := Lib.hid e1; clear e1 ha hb
   go_enter Try.func126, Try.ntmps126
   go_wp2
   go_ret
   exact ⟨co_rint H.out.symm, rfl⟩
  ·have h2 : (b == -1) = false := by simp [hb]
   have e1 : lesser a b = min a b := by simp [lesser, ha, hb]
   have H := Lib.hid e1; clear e1 ha hb
   go_enter Try.func126, Try.ntmps126
   go_wp2
   all_goals go_ret
   all_goals exact ⟨co_rint (by rw [H.out] <;> omega), rfl⟩
end Go.Proofs.Ytpkcaabbcoiiiaa
namespace Go.Proofs.Ytpkcaabbcoiiiaa
open Go.RowKit
theorem co_take_all_succ {p : Int → Bool} {zs : List Int} {k : Nat} {z : Int} (hk : k < zs.length) (hz : z = zs.getD k 0) (h : (zs.take k).all p = true) (hp : p z = true) : (zs.take (k + 1)).all p = true := by
 rw [List.take_succ_eq_append_getElem hk, List.all_append, h]
 have : zs.getD k 0 = zs[k] := by simp [List.getD, hk]
 rw [this] at hz
 simp [← hz, hp]
theorem co_all_false {p : Int → Bool} {zs : List Int} {k : Nat} {z : Int} (hk : k < zs.length) (hz : z = zs.getD k 0) (hp : p z = false) : zs.all p = false := by
 have : zs.getD k 0 = zs[k] := by simp [List.getD, hk]
 rw [this] at hz
 rw [List.all_eq_false]
 exact ⟨zs[k], List.getElem_mem hk, by rw [← hz, hp]; simp⟩
theorem chk_bad {limit : Int} {zs : List Int} {k : Nat} {z : Int} (h0 : 0 ≤ limit) (h1 : limit ≤ 1048576) (hk : k < zs.length) (hz : z = zs.getD k 0) (hp : okc limit z = false) : chk limit zs = 21 := by
 unfold chk; rw [if_neg (by omega), co_all_false hk hz hp]; rfl
theorem chk_good {limit : Int} {zs : List Int} {k : Nat} (h0 : 0 ≤ limit) (h1 : limit ≤ 1048576) (hk : zs.length ≤ k) (h : (zs.take k).all (okc limit) = true) : chk limit zs = 0 := by
 rw [List.take_of_length_le hk] at h
 unfold chk; rw [if_neg (by omega), h]; rfl
theorem okc_lo {l z : Int} (h : z < -1) : okc l z = false := by simp [okc]; omega
theorem okc_hi {l z : Int} (h : l < z) : okc l z = false := by simp [okc]; omega
theorem okc_in {l z : Int} (h : -1 ≤ z) (h2 : z ≤ l) : okc l z = true := by simp [okc]; omega
set_option maxHeartbeats 400000 in
theorem checkAll_any (limit : Int) (a : Option Addr) (cap : Nat) (zs : List Int) (w : World) (hm : zs.length ≤ maxLen) (hrow : Row w a zs) :
  Calls Try.prog 125 #[.int .i64 limit, .slice a zs.length cap] w fun e w' => e = .returned (.int .i64 (chk limit zs)) ∧ w = w' := by
 unfold maxLen at hm
 by_cases h0 : limit < 0
 ·have e1 : chk limit zs = 20 := by simp [chk, h0]
  have H := Lib.hid e1; clear e1
  go_enter Try.func125, Try.ntmps125
  go_wp2
  go_ret
  exact ⟨co_rint H.out.symm, rfl⟩
 by_cases h1 : 1048576 < limit
 ·have e1 : chk limit zs = 20 := by simp [chk, h1]
  have H := Lib.hid e1; clear e1
  go_enter Try.func125, Try.ntmps125
  go_wp2
  go_ret
  exact ⟨co_rint H.out.symm, rfl⟩
 have h0' : 0 ≤ limit := by omega
 have h1' : limit ≤ 1048576 := by omega
 clear h0 h1
 go_enter Try.func125, Try.ntmps125
 go_wp2
 go_loop [15] (fun i => ∃ k : Nat, k ≤ zs.length ∧ i = .int .i64 k ∧ Hid ((zs.take k).all (okc limit) = true)) (fun i => zs.length - (intOf i).toNat)
 case atStart => exact ⟨0, Nat.zero_le _, rfl, by simp [Hid]⟩
 case round =>
  obtain ⟨k, hk, rfl, HA⟩ := hrel
  by_cases hlt : k < zs.length
  ·rcases hrow with h | ⟨b, off, rfl, hc⟩
   ·subst h; simp at hlt
   have hck := hc k hlt
   obtain ⟨z, hz⟩ : ∃ z, z = zs.getD k 0 := ⟨_, rfl⟩
   rw [← hz] at hck
   have HZ := Lib.hid hz; clear hz hc
   by_cases h2 : z < -1
   ·have H := Lib.hid (chk_bad h0' h1' hlt HZ.out (okc_lo h2))
    go_wp2
    go_ret
    exact ⟨co_rint H.out.symm, rfl⟩
   by_cases h3 : limit < z
   ·have H := Lib.hid (chk_bad h0' h1' hlt HZ.out (okc_hi h3))
    go_wp2
    go_ret
    exact ⟨co_rint H.out.symm, rfl⟩
   have H := Lib.hid (co_take_all_succ hlt HZ.out HA.out (okc_in (by omega) (by omega)))
   have h2' : -1 ≤ z := by omega
   have h3' : z ≤ limit := by omega
   clear h2 h3
   go_wp2
   go_round
   case rel => exact ⟨k + 1, by omega, by go_num, H⟩
   case measure => simp [intOf]; omega
  ·have H := Lib.hid (chk_good h0' h1' (by omega) HA.out)
   go_wp2
   go_ret
   exact ⟨co_rint H.out.symm, rfl⟩
end Go.Proofs.Ytpkcaabbcoiiiaa
namespace Go.Proofs.Ytpkcaabbcoiiiaa
open Go.RowKit
def leastOf (zs : List Int) : Int := zs.foldl lesser (-1)
def sumOf (limit : Int) (zs : List Int) : Int := zs.foldl (added limit) 0
def leastR (limit : Int) (zs : List Int) : Int := if chk limit zs = 0 then leastOf zs else 0
def sumR (limit : Int) (zs : List Int) : Int := if chk limit zs = 0 then sumOf limit zs else 0
theorem chk_zero {limit : Int} {zs : List Int} (h : chk limit zs = 0) : 0 ≤ limit ∧ limit ≤ 1048576 ∧ zs.all (okc limit) = true := by
 unfold chk at h
 split at h
 ·omega
 ·cases hz : zs.all (okc limit) <;> rw [hz] at h <;> simp at h
  exact ⟨by omega, by omega, rfl⟩
theorem take_snoc {zs : List Int} {k : Nat} {z : Int} (hk : k < zs.length) (hz : z = zs.getD k 0) : zs.take (k + 1) = zs.take k ++ [z] := by
 rw [List.take_succ_eq_append_getElem hk]
 have : zs.getD k 0 = zs[k] := by simp [List.getD, hk]
 rw [hz, this]
theorem fold_snoc {f : Int → Int → Int} {s : Int} {zs : List Int} {k : Nat} {z : Int} (hk : k < zs.length) (hz : z = zs.getD k 0) : (zs.take (k + 1)).foldl f s = f ((zs.take k).foldl f s) z := by
 rw [take_snoc hk hz, List.foldl_append]; rfl
theorem okc_get {limit : Int} {zs : List Int} {k : Nat} {z : Int} (h : zs.all (okc limit) = true) (hk : k < zs.length) (hz : z = zs.getD k 0) : -1 ≤ z ∧ z ≤ limit := by
 have e : zs.getD k 0 = zs[k] := by simp [List.getD, hk]
 rw [List.all_eq_true] at h
 have := h z (by rw [hz, e]; exact List.getElem_mem hk)
 simp [okc] at this; exact this
theorem rtwo {k k2 : IntKind} {a b c d : Int} (h : a = b) (h2 : c = d) : Ending.returned (.tuple #[.int k a, .int k2 c]) = .returned (.tuple #[.int k b, .int k2 d]) := by rw [h, h2]
theorem lesser_ok {a b l : Int} (ha : -1 ≤ a) (ha2 : a ≤ 1048576) (hb : -1 ≤ b) (hb2 : b ≤ l) (hl : l ≤ 1048576) : -1 ≤ lesser a b ∧ lesser a b ≤ 1048576 := by
 unfold lesser; split
 ·omega
 ·split <;> omega
set_option maxHeartbeats 400000 in
theorem least_any (limit : Int) (a : Option Addr) (cap : Nat) (zs : List Int) (w : World) (hm : zs.length ≤ maxLen) (hrow : Row w a zs) :
  Calls Try.prog 118 #[.int .i64 limit, .slice a zs.length cap] w fun e w' => e = .returned (.tuple #[.int .i64 (leastR limit zs), .int .i64 (chk limit zs)]) ∧ w = w' := by
 have HM := Lib.hid hm
 unfold maxLen at hm
 by_cases hc0 : chk limit zs = 0
 ·obtain ⟨hl0, hl1, hall⟩ := chk_zero hc0
  have e1 : leastR limit zs = leastOf zs := by simp [leastR, hc0]
  have H1 := Lib.hid e1
  have H0 := Lib.hid hc0
  have HALL := Lib.hid hall
  have HROW := Lib.hid hrow
  clear e1 hc0 hall hrow
  go_enter Try.func118, Try.ntmps118
  go_wp2_with (go_at_call 125; refine (checkAll_any _ _ _ _ _ HM.out HROW.out).mono ?_; rintro e w' ⟨rfl, rfl⟩; rw [H0.out])
  go_loop [7, 18] (fun m i => ∃ k : Nat, k ≤ zs.length ∧ i = .int .i64 k ∧ ∃ s : Int, m = .int .i64 s ∧ -1 ≤ s ∧ s ≤ 1048576 ∧ Hid (s = (zs.take k).foldl lesser (-1))) (fun _ i => zs.length - (intOf i).toNat)
  case atStart => exact ⟨0, Nat.zero_le _, rfl, _, rfl, by omega, by omega, by simp [Hid]⟩
  case round =>
   obtain ⟨k, hk, rfl, s, rfl, hs1, hs2, HS⟩ := hrel
   by_cases hlt : k < zs.length
   ·rcases HROW.out with h | ⟨b, off, rfl, hc⟩
    ·subst h; simp at hlt
    have hck := hc k hlt
    obtain ⟨z, hz⟩ : ∃ z, z = zs.getD k 0 := ⟨_, rfl⟩
    rw [← hz] at hck
    obtain ⟨hz1, hz2⟩ := okc_get HALL.out hlt hz
    have hs' : -1 ≤ lesser s z ∧ lesser s z ≤ 1048576 := lesser_ok hs1 hs2 hz1 hz2 hl1
    have HZ := Lib.hid hz; clear hz hc HROW
    go_wp2_with (go_at_call 126; refine (lesser_any _ _ _).mono ?_; rintro e w' ⟨rfl, rfl⟩)
    go_round
    case rel => exact ⟨k + 1, by omega, by go_num, _, rfl, hs'.1, hs'.2, by rw [HS.out]; exact (fold_snoc hlt HZ.out).symm⟩
    case measure => simp [intOf]; omega
   ·have HE : Hid (s = leastR limit zs) := by rw [H1.out, HS.out, List.take_of_length_le (by omega)]; rfl
    have HROW2 := HROW
    clear HROW
    go_wp2
    go_ret2
    exact ⟨rtwo HE.out H0.out.symm, rfl⟩
 ·have e1 : leastR limit zs = 0 := by simp [leastR, hc0]
  have H1 := Lib.hid e1
  have HROW := Lib.hid hrow
  have hne : (chk limit zs != 0) = true := by simpa using hc0
  obtain ⟨c, hcc⟩ : ∃ c, c = chk limit zs := ⟨_, rfl⟩
  rw [← hcc] at hne
  have HC := Lib.hid hcc
  clear e1 hc0 hrow hcc
  go_enter Try.func118, Try.ntmps118
  go_wp2_with (go_at_call 125; refine (checkAll_any _ _ _ _ _ HM.out HROW.out).mono ?_; rintro e w' ⟨rfl, rfl⟩; rw [← HC.out])
  go_ret2
  exact ⟨rtwo H1.out.symm HC.out, rfl⟩
end Go.Proofs.Ytpkcaabbcoiiiaa
namespace Go.Proofs.Ytpkcaabbcoiiiaa
open Go.RowKit
theorem co_cell_lt {w : World} {a : Addr} {v : Value} (h : w.cell? a = some v) : a.block < w.heap.size := by
 rcases Nat.lt_or_ge a.block w.heap.size with h' | h'
 ·exact h'
 ·simp [World.cell?, Array.getElem?_eq_none h'] at h
theorem Row.below {w w' : World} {a : Option Addr} {zs : List Int} (h : Row w a zs) (hb : Below w.heap.size w w') : Row w' a zs := by
 rcases h with h | ⟨b, off, rfl, hc⟩
 ·exact .inl h
 ·refine .inr ⟨b, off, rfl, fun i hi => ?_⟩
  have h1 := hc i hi
  rw [hb.cell]
  ·exact h1
  ·exact co_cell_lt h1
end Go.Proofs.Ytpkcaabbcoiiiaa
namespace Go.Proofs.Ytpkcaabbcoiiiaa
open Go.RowKit
theorem Row.take {w : World} {a : Option Addr} {zs : List Int} (h : Row w a zs) (n : Nat) : Row w a (zs.take n) := by
 rcases h with h | ⟨b, off, rfl, hc⟩
 ·exact .inl (by simp [h])
 ·refine .inr ⟨b, off, rfl, fun i hi => ?_⟩
  simp only [List.length_take] at hi
  have := hc i (by omega)
  rw [this]
  simp [List.getD, show i < n by omega]
end Go.Proofs.Ytpkcaabbcoiiiaa
namespace Go.Proofs.Ytpkcaabbcoiiiaa
open Go.RowKit
theorem least_two {limit a b : Int} (h : chk limit [a, b] = 0) : leastR limit [a, b] = lesser a b := by
 have h3 : lesser (-1) a = a := by simp [lesser]
 simp [leastR, h, leastOf, h3]
theorem sum_two {limit a b : Int} (h : chk limit [a, b] = 0) : sumR limit [a, b] = added limit a b := by
 have h2 := (chk_zero h).2.2
 simp [okc] at h2
 have h3 : added limit 0 a = a := by unfold added; split <;> omega
 simp [sumR, h, sumOf, h3]
theorem chk2_iff {limit a b : Int} : chk limit [a, b] = 0 ↔ (0 ≤ limit ∧ limit ≤ 1048576 ∧ (-1 ≤ a ∧ a ≤ limit) ∧ (-1 ≤ b ∧ b ≤ limit)) := by
 constructor
 ·intro h
  have := chk_zero h
  simp [okc] at this
  omega
 ·intro h
  have : [a, b].all (okc limit) = true := by simp [okc]; omega
  simp only [chk, this]
  rw [if_neg (by omega)]; rfl
end Go.Proofs.Ytpkcaabbcoiiiaa
namespace Go.Proofs.Ytpkcaabbcoiiiaa
open Go Go.RowKit
theorem VRow.agree {A W : World} {lo : Nat} {a : Option Addr} {vs : List Value} (h : VRow A a vs) (hl : ∀ ad, a = some ad → lo ≤ ad.block) (hg : Agree lo A W) : VRow W a vs := by
 rcases h with h | ⟨b, off, rfl, hc⟩
 ·exact .inl h
 ·exact .inr ⟨b, off, rfl, fun i v hi => hg.cell (p := ⟨b, off + i, none⟩) (hl ⟨b, off, none⟩ rfl) (hc i v hi)⟩
theorem CRow.agree {A W : World} {lo : Nat} {a : Option Addr} {cs : List Cl} (h : CRow A a cs) (hl : ∀ ad, a = some ad → lo ≤ ad.block) (hg : Agree lo A W) : CRow W a cs := by
 rcases h with h | ⟨b, off, rfl, hc⟩
 ·exact .inl h
 ·exact .inr ⟨b, off, rfl, fun i c hi => ⟨hg.cell (p := ⟨b, _, none⟩) (hl ⟨b, off, none⟩ rfl) (hc i c hi).1, hg.cell (p := ⟨b, _, none⟩) (hl ⟨b, off, none⟩ rfl) (hc i c hi).2.1, hg.cell (p := ⟨b, _, none⟩) (hl ⟨b, off, none⟩ rfl) (hc i c hi).2.2⟩⟩
theorem W6.agree {A W : World} {lo b o : Nat} {f : WF} (h : W6 A b o f) (hb : lo ≤ b) (hg : Agree lo A W) : W6 W b o f :=
 ⟨hg.cell hb h.1, hg.cell hb h.2.1, hg.cell hb h.2.2.1, hg.cell hb h.2.2.2.1, hg.cell hb h.2.2.2.2.1, hg.cell hb h.2.2.2.2.2⟩
theorem PNew.agree {n : Nat} {A W : World} {t d : Int} {f : WF} {a : PF} (h : PNew n A t d f a) (hg : Agree n A W) : PNew n W t d f a :=
 ⟨⟨⟨h.is.at_.rows.agree h.ra hg, h.is.at_.rl, h.is.at_.g64, h.is.at_.r64, h.is.at_.cells.agree h.ca hg, h.is.at_.cl, h.is.at_.bits, h.is.at_.cmax⟩, h.is.pf, h.is.ok, h.is.pl⟩, h.ra, h.ca⟩
theorem XNew.agree {n : Nat} {A W : World} {S : PS} {f : WF} {x : PX} (h : XNew n A S f x) (hg : Agree n A W) : XNew n W S f x := by
 cases S <;> cases x <;> first | exact h.elim | exact PNew.agree h hg | skip
 obtain ⟨h1, h2, h3, h4, blk, g, k, h5, h0, h6, h7, h8, h9⟩ := h
 exact ⟨h1, h2, h3, h4, blk, g, k, h5, h0, h6.agree h0 hg, h7.agree h0 hg, h8.agree hg, h9.agree hg⟩
theorem W6.cells {w : World} {b o : Nat} {f : WF} (h : W6 w b o f) : CellsAt w b o f.six := ⟨h.1, h.2.1, h.2.2.1, h.2.2.2.1, h.2.2.2.2.1, h.2.2.2.2.2, trivial⟩
theorem W6.of_cells {w : World} {b o : Nat} {f : WF} (h : CellsAt w b o f.six) : W6 w b o f := ⟨h.1, h.2.1, h.2.2.1, h.2.2.2.1, h.2.2.2.2.1, h.2.2.2.2.2.1⟩
abbrev SF.three (f : SF) : List Value := [.int .i64 f.tag, .int .i64 f.dim, .slice f.a f.len f.cap]
theorem S3.cells {w : World} {b o : Nat} {f : SF} (h : S3 w b o f) : CellsAt w b o f.three := ⟨h.1, h.2.1, h.2.2, trivial⟩
abbrev costF (c : Int) : WF := ⟨false, c, 0, none, 0, 0, [], none, 0, 0, [], none, 0, 0⟩
abbrev factsF (g : Nat) (a : Option Addr) (cap : Nat) (rows : List Nat) : WF := ⟨false, 0, g, a, rows.length, cap, rows, none, 0, 0, [], none, 0, 0⟩
abbrev cellsF (a : Option Addr) (cap : Nat) (cs : List Cl) : WF := ⟨false, 0, 0, none, 0, 0, [], a, cs.length, cap, cs, none, 0, 0⟩
theorem new_cost {n : Nat} {W : World} {t d c : Int} (h : OkP t d (pC c)) : PNew n W t d (costF c) (pC c) :=
 ⟨⟨⟨.inl rfl, rfl, (by show (0 : Nat) < _; decide), (fun r hr => by cases hr), .inl rfl, rfl, (fun c hc => by cases hc), (by show (0 : Nat) ≤ _; decide)⟩, rfl, h, rfl⟩, (fun ad e => by cases e), (fun ad e => by cases e)⟩
theorem new_facts {n : Nat} {W : World} {t d : Int} {g : Nat} {a : Option Addr} {cap : Nat} {rows : List Nat} (h : OkP t d (pF g rows)) (hg : g < 18446744073709551616) (hr : ∀ r ∈ rows, r < 18446744073709551616) (hv : VRow W a (u64s rows)) (hl : ∀ ad, a = some ad → n ≤ ad.block) : PNew n W t d (factsF g a cap rows) (pF g rows) :=
 ⟨⟨⟨hv, rfl, hg, hr, .inl rfl, rfl, (fun c hc => by cases hc), by simp [maxLen]⟩, rfl, h, rfl⟩, hl, (fun ad e => by cases e)⟩
theorem new_cells {n : Nat} {W : World} {t d : Int} {a : Option Addr} {cap : Nat} {cs : List Cl} (h : OkP t d (pX cs)) (hb : Bits cs) (hm : cs.length ≤ maxLen) (hv : CRow W a cs) (hl : ∀ ad, a = some ad → n ≤ ad.block) : PNew n W t d (cellsF a cap cs) (pX cs) :=
 ⟨⟨⟨.inl rfl, rfl, (by show (0 : Nat) < _; decide), (fun r hr => by cases hr), hv, rfl, hb, hm⟩, rfl, h, rfl⟩, (fun ad e => by cases e), hl⟩
theorem PIs.z {w : World} {t n : Int} {f : WF} {x : PF} (h : PIs w t n f x) : x.z = f.z := by rw [← h.pf]; rfl
theorem PIs.zero {w : World} {t n : Int} {f : WF} {x : PF} (h : PIs w t n f x) (hz : f.z = true) : x = zeroP := by
 have h1 := h.z; have h2 := h.ok
 rw [hz] at h1
 cases h2 <;> first | rfl | cases h1
theorem pf_inj {f : WF} {x : PF} (h : f.pf = x) : f.z = x.z ∧ f.c = x.c ∧ f.g = x.g ∧ f.rows = x.rows ∧ f.cells = x.cells := by subst h; exact ⟨rfl, rfl, rfl, rfl, rfl⟩
theorem PIs.k1 {w : World} {n : Int} {f : WF} {x : PF} (h : PIs w 1 n f x) (hz : f.z = false) : x = pC 0 := by
 rcases okP_1 h.ok with rfl | rfl
 ·rw [(pf_inj h.pf).1] at hz; cases hz
 ·rfl
theorem PIs.k2 {w : World} {n : Int} {f : WF} {x : PF} (h : PIs w 2 n f x) (hz : f.z = false) : x = pC f.c ∧ 0 ≤ f.c ∧ f.c ≤ n := by
 rcases okP_2 h.ok with rfl | ⟨c, rfl, h0, h1⟩
 ·rw [(pf_inj h.pf).1] at hz; cases hz
 ·have : f.c = c := (pf_inj h.pf).2.1
  subst this; exact ⟨rfl, h0, h1⟩
theorem PIs.k3 {w : World} {m : Nat} {f : WF} {x : PF} (h : PIs w 3 m f x) (hz : f.z = false) : x = pF f.g f.rows ∧ Good m f.g f.rows := by
 rcases okP_3 h.ok with rfl | ⟨g, rows, rfl, h0⟩
 ·rw [(pf_inj h.pf).1] at hz; cases hz
 ·have h1 : f.g = g := (pf_inj h.pf).2.2.1
  have h2 : f.rows = rows := (pf_inj h.pf).2.2.2.1
  subst h1; subst h2; exact ⟨rfl, h0⟩
theorem PIs.k4 {w : World} {m : Nat} {f : WF} {x : PF} (h : PIs w 4 m f x) (hz : f.z = false) : x = pX f.cells ∧ Val m f.cells := by
 rcases okP_4 h.ok with rfl | ⟨cs, rfl, h0⟩
 ·rw [(pf_inj h.pf).1] at hz; cases hz
 ·have h1 : f.cells = cs := (pf_inj h.pf).2.2.2.2
  subst h1; exact ⟨rfl, h0⟩
theorem row_own {W : World} {B : Nat} {T : TypeId} {a b : Int} (h : W.heap[B]? = some (.cells (List.toArray [.int .i64 a, .int .i64 b]) T (0, 0))) : Row W (some ⟨B, 0, none⟩) [a, b] := by
 refine .inr ⟨B, 0, rfl, fun i hi => ?_⟩
 match i, hi with
 | 0, _ => exact cell_own h rfl
 | 1, _ => exact cell_own h rfl
theorem plain_ne5 {t n : Int} {l : Nat} (h : plainB t n l = true) : t ≠ 5 := pl_pair h
section
variable {w W : World} {k : Nat} {n : Int} {f g : WF} {x y : PF}
theorem wret_one {t : Int} {f : WF} {x : PF} (h : PNew w.heap.size W t n f x) (hb : Below w.heap.size w W) : WRet (.one t n) (.one x) w (.returned f.val) W := ⟨f, rfl, h, hb⟩
theorem ext_zL {t : Int} (hx : PIs w t n f x) (hz : f.z = true) (hb : Below w.heap.size w W) : WRet (.one t n) (.one (extP t n x y)) w (.returned zeroF.val) W := by
 rw [hx.zero hz, ext_zl]; exact wret_one (zero_new _ _ _ _) hb
theorem ext_zR {t : Int} (hy : PIs w t n g y) (hz : g.z = true) (hb : Below w.heap.size w W) : WRet (.one t n) (.one (extP t n x y)) w (.returned zeroF.val) W := by
 rw [hy.zero hz, ext_zr]; exact wret_one (zero_new _ _ _ _) hb
theorem ext_f1 (hx : PIs w 1 n f x) (hy : PIs w 1 n g y) (hf : f.z = false) (hg : g.z = false) : PNew k W 1 n (costF 0) (extP 1 n x y) := by
 rw [hx.k1 hf, hy.k1 hg, ext_1]; exact new_cost (.bool rfl)
theorem ext_f2 (hp : plainB 2 n 0 = true) (hx : PIs w 2 n f x) (hy : PIs w 2 n g y) (hf : f.z = false) (hg : g.z = false) : PNew k W 2 n (costF (sumR n [f.c, g.c])) (extP 2 n x y) := by
 obtain ⟨rfl, h0, h1⟩ := hx.k2 hf
 obtain ⟨rfl, h2, h3⟩ := hy.k2 hg
 obtain ⟨d0, d1, _⟩ := plainB_dim hp
 have hs : sumR n [f.c, g.c] = min (f.c + g.c) n := by
  rw [sum_two (chk2_iff.2 ⟨d0, d1, ⟨by omega, by omega⟩, by omega, by omega⟩)]
  unfold added; rw [if_neg (by omega)]
 rw [ext_2, hs]
 exact new_cost (.cost _ rfl (by omega) (by omega))
theorem ext_f3 {m : Nat} {a : Option Addr} {cap : Nat} (hx : PIs w 3 m f x) (hy : PIs w 3 m g y) (hf : f.z = false) (hg : g.z = false) (hv : VRow W a (u64s (extV m f.g f.rows g.g g.rows))) (hl : ∀ ad, a = some ad → k ≤ ad.block) : PNew k W 3 m (factsF (extG m f.g f.rows g.g g.rows) a cap (extV m f.g f.rows g.g g.rows)) (extP 3 m x y) := by
 obtain ⟨hx', h0⟩ := hx.k3 hf
 obtain ⟨hy', h1⟩ := hy.k3 hg
 rw [hx', hy', ext_3]
 exact new_facts (.facts m _ _ rfl rfl (h0.extT h1)) (h0.extT h1).g64 (h0.extT h1).r64 hv hl
theorem comb_f1 (hx : PIs w 1 n f x) (hy : PIs w 1 n g y) (hf : f.z = false) (hg : g.z = false) : PNew k W 1 n (costF 0) (combP 1 n x y) := by
 rw [hx.k1 hf, hy.k1 hg, comb_1]; exact new_cost (.bool rfl)
theorem comb_f2 (hp : plainB 2 n 0 = true) (hx : PIs w 2 n f x) (hy : PIs w 2 n g y) (hf : f.z = false) (hg : g.z = false) : PNew k W 2 n (costF (leastR n [f.c, g.c])) (combP 2 n x y) := by
 obtain ⟨rfl, h0, h1⟩ := hx.k2 hf
 obtain ⟨rfl, h2, h3⟩ := hy.k2 hg
 obtain ⟨d0, d1, _⟩ := plainB_dim hp
 have hs : leastR n [f.c, g.c] = min f.c g.c := by
  rw [least_two (chk2_iff.2 ⟨d0, d1, ⟨by omega, by omega⟩, by omega, by omega⟩)]
  unfold lesser; rw [if_neg (by omega), if_neg (by omega)]
 rw [comb_2, hs]
 exact new_cost (.cost _ rfl (by omega) (by omega))
theorem comb_f3 {m : Nat} {a : Option Addr} {cap : Nat} (hx : PIs w 3 m f x) (hy : PIs w 3 m g y) (hf : f.z = false) (hg : g.z = false) (hv : VRow W a (u64s (combV m f.g f.rows g.g g.rows))) (hl : ∀ ad, a = some ad → k ≤ ad.block) : PNew k W 3 m (factsF (combG m f.g f.rows g.g g.rows) a cap (combV m f.g f.rows g.g g.rows)) (combP 3 m x y) := by
 obtain ⟨hx', h0⟩ := hx.k3 hf
 obtain ⟨hy', h1⟩ := hy.k3 hg
 rw [hx', hy', comb_3]
 exact new_facts (.facts m _ _ rfl rfl (h0.combT h1)) (h0.combT h1).g64 (h0.combT h1).r64 hv hl
theorem comb_f4 {m : Nat} {a : Option Addr} {cap : Nat} (hx : PIs w 4 m f x) (hy : PIs w 4 m g y) (hf : f.z = false) (hg : g.z = false) (hv : CRow W a (bothR m f.cells g.cells)) (hl : ∀ ad, a = some ad → k ≤ ad.block) : PNew k W 4 m (cellsF a cap (bothR m f.cells g.cells)) (combP 4 m x y) := by
 obtain ⟨hx', h0⟩ := hx.k4 hf
 obtain ⟨hy', h1⟩ := hy.k4 hg
 have e : bothR m f.cells g.cells = bothC f.cells g.cells := by unfold bothR; rw [if_pos (h0.chk2 h1)]
 have hv2 := val_both h0 h1
 rw [e] at hv ⊢
 rw [hx', hy', comb_4]
 exact new_cells (.cells m _ rfl rfl hv2) hv2.bits (by have := hv2.le; have := hv2.len; unfold maxLen; omega) hv hl
theorem one_f1 {t : Int} (hp : plainB t n 0 = true) (h3 : t ≠ 3) (h4 : t ≠ 4) : PNew k W t n (costF 0) (oneP t n) := by
 have h := one_okP hp
 have e : oneP t n = pC 0 := by unfold oneP; rw [if_neg h3, if_neg h4]
 rw [e] at h ⊢
 exact new_cost h
theorem one_f3 {m : Nat} {a : Option Addr} {cap : Nat} (hm : m ≤ 64) (hv : VRow W a (u64s (onesL m))) (hl : ∀ ad, a = some ad → k ≤ ad.block) : PNew k W 3 m (factsF 0 a cap (onesL m)) (oneP 3 m) := by
 rw [one_3]
 exact new_facts (.facts m _ _ rfl rfl (ones_good hm)) (by decide) (ones_good hm).r64 hv hl
theorem one_f4 {m : Nat} {a : Option Addr} {cap : Nat} (hm : m ≤ 64) (hv : CRow W a (unitC m)) (hl : ∀ ad, a = some ad → k ≤ ad.block) : PNew k W 4 m (cellsF a cap (unitC m)) (oneP 4 m) := by
 have h := val_unit hm
 rw [one_4]
 exact new_cells (.cells m _ rfl rfl h) h.bits (by have := h.len; unfold maxLen; omega) hv hl
theorem dim3 {t : Int} {l : Nat} (h : plainB t n l = true) (ht : t = 3 ∨ t = 4) : ∃ m : Nat, n = m ∧ m ≤ 64 := by
 obtain ⟨d0, _, _, d3⟩ := plainB_dim h
 exact ⟨n.toNat, by omega, by have := d3 ht; omega⟩
end
def SIs (w : World) : PS → SF → Prop
 | .one t n, f => ∃ a c, f = ⟨t, n, a, 0, c⟩
 | .two t n u m, f => ∃ b off c a1 c1 a2 c2, f = ⟨5, 0, some ⟨b, off, none⟩, 2, c⟩ ∧ S3 w b off ⟨t, n, a1, 0, c1⟩ ∧ S3 w b (off + 3) ⟨u, m, a2, 0, c2⟩
theorem SIs.below {w w' : World} {S : PS} {f : SF} (h : SIs w S f) (hb : Below w.heap.size w w') : SIs w' S f := by
 cases S with
 | one t n => exact h
 | two t n u m =>
  obtain ⟨b, off, c, a1, c1, a2, c2, h1, h2, h3⟩ := h
  exact ⟨b, off, c, a1, c1, a2, c2, h1, h2.below hb, h3.below hb⟩
def isNew (lo : Nat) (S : PS) (x : PX) : Asr := fun v w => ∃ f : WF, v = f.val ∧ XNew lo w S f x
theorem stab_isNew {lo : Nat} {S : PS} {x : PX} : Stab (isNew lo S x) := fun v w w' ⟨f, h1, h2⟩ hb => ⟨f, h1, h2.below hb⟩
theorem wret_gives {P : Program} {f : FuncId} {vs : Array Value} {w : World} {S : PS} {x : PX} {lo : Nat} (hlo : lo ≤ w.heap.size) (h : Calls P f vs w (WRet S x w)) : Calls P f vs w (Gives (isNew lo S x) w) := h.mono fun e w' ⟨f, he, hn, hb⟩ => ⟨f.val, he, ⟨f, rfl, hn.mono hlo⟩, hb⟩
theorem holds2 {p q : Asr} {vs : List Value} {w : World} (h : Holds [p, q] vs w) : ∃ a b, vs = [a, b] ∧ p a w ∧ q b w := by
 match vs, h with
 | [a, b], h => exact ⟨a, b, rfl, h.1, h.2.1⟩
theorem pair_gives {w : World} {lo : Nat} {t n u m : Int} {a b : PF} {vs : List Value} (hlo : lo ≤ w.heap.size) (h : Holds [isNew lo (.one t n) (.one a), isNew lo (.one u m) (.one b)] vs w) : Calls Try.prog 101 vs.toArray w (Gives (isNew lo (.two t n u m) (.two a b)) w) := by
 obtain ⟨v1, v2, rfl, ⟨f, rfl, hf⟩, g, rfl, hg⟩ := holds2 h
 refine (pair_is f g w).mono ?_
 rintro e w' ⟨blk, rfl, h6, h7, hb1, hb⟩
 exact ⟨_, rfl, ⟨pairF blk, rfl, pair_new h6 h7 (Nat.le_trans hlo hb1) (PNew.below hf hb) (PNew.below hg hb)⟩, hb⟩
end Go.Proofs.Ytpkcaabbcoiiiaa
namespace Go.Proofs.Ytpkcaabbcoiiiaa
open Go.RowKit
attribute [local go_sem ↓] Go.wp_at_zero Go.wp_at_succ
theorem urow_of_own {w : World} {base : Nat} {v : Value} {n : Nat} {rows : List Nat} (h : w.ownsRow base 38 1 v n (u64s rows)) :
  n = rows.length ∧ ∃ a cap, v = .slice a n cap ∧ VRow w a (u64s rows) ∧ ∀ ad, a = some ad → base ≤ ad.block := by
 have hl := h.1
 rw [u64s_length] at hl
 refine ⟨by omega, ?_⟩
 rcases h.2 with ⟨rfl, hn⟩ | ⟨g, cap, cur, rfl, hg, hh, h1, h2, h3, h4⟩
 ·have : rows = [] := List.length_eq_zero_iff.1 (by omega)
  subst this
  exact ⟨none, 0, by rw [hn], .inl rfl, fun ad e => by cases e⟩
 ·refine ⟨some ⟨g, 0, none⟩, cap, rfl, .inr ⟨g, 0, rfl, fun i u hi => ?_⟩, fun ad e => by cases e; exact hg⟩
  rw [← h4] at hi
  rw [List.getElem?_take] at hi
  split at hi
  ·unfold World.cell?
   simp only [hh, Nat.zero_add]
   simpa using hi
  ·cases hi
theorem PIs.rows64 {w : World} {t n : Int} {l : Nat} {f : WF} {a : PF} (h : PIs w t n f a) : f.rl ≤ 64 ∧ f.cl ≤ 64 := by
 have h1 := h.at_.rl; have h2 := h.at_.cl; have h3 := h.pf; have h4 := h.ok
 subst h3
 unfold WF.pf at h4
 generalize hr : f.rows = rows at *
 generalize hc : f.cells = cells at *
 generalize f.g = g at *
 generalize f.z = z at *
 generalize f.c = c at *
 have key : rows.length ≤ 64 ∧ cells.length ≤ 64 := by
  generalize hp : (⟨z, c, g, rows, cells⟩ : PF) = p at h4
  cases h4 with
  | zero => cases hp; exact ⟨by decide, by decide⟩
  | bool h => cases hp; exact ⟨by decide, by decide⟩
  | cost c h h0 h1 => cases hp; exact ⟨by decide, by decide⟩
  | facts m g rows h hn hg => cases hp; exact ⟨by rw [hg.hl]; exact hg.hm, by decide⟩
  | cells m cs h hn hv => cases hp; exact ⟨by decide, by rw [hv.len]; exact hv.le⟩
 omega
theorem cclone_is (a : Option Addr) (cap : Nat) (cs : List Cl) (w : World) (hm : cs.length ≤ 64) (hrow : CRow w a cs) (n : Nat) (hn : cs.length = n) :
  Calls Try.prog 124 #[.slice a n cap] w fun e w' => ∃ a2 c2, e = .returned (.slice a2 n c2) ∧ CRow w' a2 cs ∧ (∀ ad, a2 = some ad → w.heap.size ≤ ad.block) ∧ Below w.heap.size w w' := by
 subst hn
 refine (clone_any a cap cs w hm hrow).mono ?_
 rintro e w' ⟨v, rfl, hown, hb⟩
 obtain ⟨_, a2, c2, rfl, hr, hl⟩ := crow_of_own hown
 exact ⟨a2, c2, rfl, hr, fun ad e => (hl ad e).1, hb⟩
theorem copied_plain (t n : Int) (f : WF) (x : PF) (w : World) (h : PIs w t n f x) :
  Calls Try.prog 117 #[f.val] w fun e w' => ∃ g : WF, e = .returned g.val ∧ PNew w.heap.size w' t n g x ∧ Below w.heap.size w w' := by
 obtain ⟨r64, c64⟩ := h.rows64 (l := 0)
 have HI := Lib.hid h
 have hrl := h.at_.rl; have hcl := h.at_.cl; have hpl := h.pl
 obtain ⟨z, c, g, ra, rl, rc, rows, ca, cl, cc, cells, pa, pl, pc⟩ := f
 dsimp only at hrl hcl hpl r64 c64
 subst hpl
 show Calls Try.prog 117 #[.agg #[.bool z, .int .i64 c, .int .u64 (g : Int), .slice ra rl rc, .slice ca cl cc, .slice pa 0 pc]] w _
 have HRL := Lib.hid hrl; have HCL := Lib.hid hcl
 obtain ⟨t0, t1⟩ := two_boxes2 w #[.bool z, .int .i64 c, .int .u64 (g : Int), .slice ra rl rc, .slice ca cl cc, .slice pa 0 pc] #[.bool false, .int .i64 0, .int .u64 0, .slice none 0 0, .slice none 0 0, .slice none 0 0] 45 45
 have T0 := Lib.hid t0; have T1 := Lib.hid t1
 have hB := Lib.hid (wbox w #[.bool z, .int .i64 c, .int .u64 (g : Int), .slice ra rl rc, .slice ca cl cc, .slice pa 0 pc] #[.bool false, .int .i64 0, .int .u64 0, .slice none 0 0, .slice none 0 0, .slice none 0 0] 45 45)
 have hsz : ((w.alloc (.cells #[.bool z, .int .i64 c, .int .u64 (g : Int), .slice ra rl rc, .slice ca cl cc, .slice pa 0 pc] 45)).alloc (.cells #[.bool false, .int .i64 0, .int .u64 0, .slice none 0 0, .slice none 0 0, .slice none 0 0] 45)).heap.size = w.heap.size + 1 + 1 := by simp
 obtain ⟨W0, hW0⟩ : ∃ W, (w.alloc (.cells #[.bool z, .int .i64 c, .int .u64 (g : Int), .slice ra rl rc, .slice ca cl cc, .slice pa 0 pc] 45)).alloc (.cells #[.bool false, .int .i64 0, .int .u64 0, .slice none 0 0, .slice none 0 0, .slice none 0 0] 45) = W := ⟨_, rfl⟩
 rw [hW0] at hB T0 T1 hsz
 have HSZ := Lib.hid hsz
 obtain ⟨x0, x1, x2, x3, x4, x5⟩ := six_cells T0.out
 have HAT : Hid (WF.At w ⟨z, c, g, ra, rl, rc, rows, ca, cl, cc, cells, pa, 0, pc⟩) := h.at_
 have R64 := Lib.hid r64; have C64 := Lib.hid c64
 clear t0 t1 hsz h hrl hcl r64 c64
 go_enter Try.func117, Try.ntmps117
 go_wp2_with fail
 refine (clone_is ra rc rows _ (by rw [HRL.out]; exact Nat.le_trans R64.out (by decide)) (HAT.out.rows.below hB.out) rl HRL.out).mono ?_
 rintro e w1 ⟨v, rfl, hown, hb1⟩
 obtain ⟨a1, c1, rfl, hv1, hl1⟩ := (urow_of_own hown).2
 have HV1 := Lib.hid hv1; have HL1 := Lib.hid hl1
 clear hown hv1 hl1 x0 x1 x2 x3 x4 x5
 have U0 := Lib.hid (heap_old T0.out hb1); have U1 := Lib.hid (heap_old T1.out hb1)
 have hB1 := Lib.hid (hB.out.trans (hb1.mono hB.out.size))
 obtain ⟨x0, x1, x2, x3, x4, x5⟩ := six_cells U0.out
 have f3 := six_frozen U0.out 3
 have V0 := Lib.hid (heap_setCell_same w1 w.heap.size 3 _ _ (.slice a1 rl c1) U0.out)
 have hne : w.heap.size + 1 ≠ w.heap.size := by omega
 have V1 := Lib.hid (heap_other (B := w.heap.size) (j := 3) (c := .slice a1 rl c1) U1.out hne)
 have hB2 := Lib.hid (hB1.out.setCell (p := ⟨w.heap.size, 3, none⟩) (Nat.le_refl _) (.slice a1 rl c1))
 have hs1 : W0.heap.size ≤ (w1.setCell ⟨w.heap.size, 3, none⟩ (.slice a1 rl c1)).heap.size := by simpa [World.setCell] using hb1.size
 have HS1 := Lib.hid hs1
 obtain ⟨W1, hW1⟩ : ∃ W, w1.setCell ⟨w.heap.size, 3, none⟩ (.slice a1 rl c1) = W := ⟨_, rfl⟩
 have HA1 := Lib.hid (HV1.out.above HL1.out ((Above.refl W0.heap.size w1).setCell (p := ⟨w.heap.size, 3, none⟩) (by have := HSZ.out; show w.heap.size < _; omega) (.slice a1 rl c1)))
 rw [hW1] at V0 V1 hB2 HS1 HA1
 clear hs1 hne x0 x1 x2 x4 x5
 obtain ⟨y0, y1, y2, y3, y4, y5⟩ := six_cells V0.out
 go_wp2_with fail
 refine (cclone_is ca cc cells _ (by rw [HCL.out]; exact C64.out) (HAT.out.cells.below hB2.out) cl HCL.out).mono ?_
 rintro e w2 ⟨a2, c2, rfl, hv2, hl2, hb2⟩
 have HV2 := Lib.hid hv2; have HL2 := Lib.hid hl2
 clear hv2 hl2 x3 y0 y1 y2 y3 y4 y5 f3
 have Y0 := Lib.hid (heap_old V0.out hb2); have Y1 := Lib.hid (heap_old V1.out hb2)
 obtain ⟨x0, x1, x2, x3, x4, x5⟩ := six_cells Y0.out
 have f4 := six_frozen Y0.out 4
 have hB3 := Lib.hid (hB2.out.trans (hb2.mono hB2.out.size))
 have Z0 := Lib.hid (heap_setCell_same w2 w.heap.size 4 _ _ (.slice a2 cl c2) Y0.out)
 have hne : w.heap.size + 1 ≠ w.heap.size := by omega
 have Z1 := Lib.hid (heap_other (B := w.heap.size) (j := 4) (c := .slice a2 cl c2) Y1.out hne)
 have hB4 := Lib.hid (hB3.out.setCell (p := ⟨w.heap.size, 4, none⟩) (Nat.le_refl _) (.slice a2 cl c2))
 have HR1 := Lib.hid ((HA1.out.below hb2).above HL1.out ((Above.refl W0.heap.size w2).setCell (p := ⟨w.heap.size, 4, none⟩) (by have := HSZ.out; show w.heap.size < _; omega) (.slice a2 cl c2)))
 have HL3 : Hid (∀ ad, a2 = some ad → W0.heap.size ≤ ad.block) := fun ad e => Nat.le_trans HS1.out (HL2.out ad e)
 have HR2 := Lib.hid (HV2.out.above HL3.out ((Above.refl W0.heap.size w2).setCell (p := ⟨w.heap.size, 4, none⟩) (by have := HSZ.out; show w.heap.size < _; omega) (.slice a2 cl c2)))
 obtain ⟨W2, hW2⟩ : ∃ W, w2.setCell ⟨w.heap.size, 4, none⟩ (.slice a2 cl c2) = W := ⟨_, rfl⟩
 rw [hW2] at Z0 Z1 hB4 HR1 HR2
 clear hne
 obtain ⟨p0, p1, p2, p3, p4, p5⟩ := six_cells Z0.out
 have f5 := six_frozen Z0.out 5
 go_wp2_with fail
 go_loopw [3, 19] (fun p i wr => p = .slice none 0 0 ∧ i = .int .i64 0 ∧ W2 = wr) (fun _ _ _ => 0)
 case atStart => exact ⟨rfl, rfl, rfl⟩
 case round =>
  obtain ⟨rfl, rfl, rfl⟩ := hrel
  have N0 := Lib.hid (heap_setCell_same W2 w.heap.size 5 _ _ (.slice none 0 0) Z0.out)
  have hne : w.heap.size + 1 ≠ w.heap.size := by omega
  have N1 := Lib.hid (heap_other (B := w.heap.size) (j := 5) (c := .slice none 0 0) Z1.out hne)
  obtain ⟨W3, hW3⟩ : ∃ W, W2.setCell ⟨w.heap.size, 5, none⟩ (.slice none 0 0) = W := ⟨_, rfl⟩
  rw [hW3] at N0 N1
  have K0 := N0.out
  obtain ⟨q0, q1, q2, q3, q4, q5⟩ := six_cells N0.out
  obtain ⟨r0, r1, r2, r3, r4, r5⟩ := six_cells N1.out
  have g0 := six_frozen N1.out 0; have g1 := six_frozen N1.out 1; have g2 := six_frozen N1.out 2; have g3 := six_frozen N1.out 3; have g4 := six_frozen N1.out 4; have g5 := six_frozen N1.out 5
  have hA3 : Above W0.heap.size W2 W3 := by rw [← hW3]; exact (Above.refl W0.heap.size W2).setCell (p := ⟨w.heap.size, 5, none⟩) (by have := HSZ.out; show w.heap.size < _; omega) _
  have HA3 := Lib.hid hA3
  have hB5 : Hid (Below w.heap.size w W3) := by show Below _ _ _; rw [← hW3]; exact hB4.out.setCell (p := ⟨w.heap.size, 5, none⟩) (Nat.le_refl _) _
  clear K0 hne hA3
  go_wp2_with fail
  have NS := Lib.hid (six_set (v0 := .bool z) (v1 := .int .i64 c) (v2 := .int .u64 (g : Int)) (v3 := .slice a1 rl c1) (v4 := .slice a2 cl c2) (v5 := .slice none 0 0) N1.out)
  obtain ⟨s0, s1, s2, s3, s4, s5⟩ := six_cells NS.out
  have hlt := HSZ.out
  refine bodyPost_ret (v := .agg #[.bool z, .int .i64 c, .int .u64 (g : Int), .slice a1 rl c1, .slice a2 cl c2, .slice none 0 0]) ?_ rfl ⟨⟨z, c, g, a1, rl, c1, rows, a2, cl, c2, cells, none, 0, 0⟩, rfl, ?_, put6_below _ _ _ _ _ _ hB5.out (Nat.le_succ _)⟩
  rotate_left
  ·have hA6 := put6_above (.bool z) (.int .i64 c) (.int .u64 (g : Int)) (.slice a1 rl c1) (.slice a2 cl c2) (.slice none 0 0) HA3.out (B := w.heap.size + 1) (by omega)
   have hAt := WF.At.mk (f := ⟨z, c, g, a1, rl, c1, rows, a2, cl, c2, cells, none, 0, 0⟩) (HR1.out.above HL1.out hA6) HRL.out HAT.out.g64 HAT.out.r64 (HR2.out.above HL3.out hA6) HCL.out HAT.out.bits HAT.out.cmax
   have hPf : WF.pf ⟨z, c, g, a1, rl, c1, rows, a2, cl, c2, cells, none, 0, 0⟩ = x := HI.out.pf
   exact (PNew.mk (n := W0.heap.size) ⟨hAt, hPf, HI.out.ok, rfl⟩ HL1.out HL3.out).mono (by omega)
  ·simp [results, Try.results117, go_sem, s0, s1, s2, s3, s4, s5]
end Go.Proofs.Ytpkcaabbcoiiiaa
namespace Go.Proofs.Ytpkcaabbcoiiiaa
open Go Go.RowKit
theorem both_is (d : Int) (a b : Option Addr) (capa capb : Nat) (xs ys : List Cl) (w : World) (hma : xs.length ≤ maxLen) (hmb : ys.length ≤ maxLen) (hra : CRow w a xs) (hrb : CRow w b ys) (hba : Bits xs) (hbb : Bits ys) (c : Int) (hc : chk2C d xs ys = c) (la lb : Nat) (hla : xs.length = la) (hlb : ys.length = lb) :
  Calls Try.prog 120 #[.int .i64 d, .slice a la capa, .slice b lb capb] w (CellsRet (bothR d xs ys) c w) := by
 subst hla; subst hlb; exact bothP_any d a b capa capb xs ys w hma hmb hra hrb hba hbb c hc
theorem one4_is (m : Nat) (hm : m ≤ 64) (w : World) : Calls Try.prog 112 #[.int .i64 (m : Int)] w (CellsRet (unitC m) 0 w) := by
 have h0 : dimC (m : Int) = 0 := by unfold dimC; rw [if_neg (by omega)]
 have := one_any (m : Int) w 0 h0
 rwa [show unitR (m : Int) = unitC m by unfold unitR; rw [if_pos h0, Int.toNat_natCast]] at this
theorem combA_plain (t n : Int) (sa : Option Addr) (sc : Nat) (f g : WF) (x y : PF) (w : World) (hp : plainB t n 0 = true) (hx : PIs w t n f x) (hy : PIs w t n g y) (ht : Tabs w) :
  Calls Try.prog 110 #[.agg #[.int .i64 t, .int .i64 n, .slice sa 0 sc], f.val, g.val] w (WRet (.one t n) (.one (combP t n x y)) w) := by
 refine enterF (args := [.agg #[.int .i64 t, .int .i64 n, .slice sa 0 sc], f.val, g.val]) Try.func110 rfl Try.ntmps110 rfl ?_
 have hS := St.start w
 refine seqF (regF ?_)
 refine op_box (cs := [_, _, _]) hS rfl rfl rfl ?_
 clear hS; intro B1 W1 hS
 refine op_box (cs := [_, _, _, _, _, _]) hS rfl rfl rfl ?_
 clear hS; intro B2 W2 hS
 refine op_box (cs := [_, _, _, _, _, _]) hS rfl rfl rfl ?_
 clear hS; intro B3 W3 hS
 refine op_alloc (cs := [_, _, _, _, _, _]) hS Try.zeroValue45 rfl rfl ?_
 clear hS; intro B4 W4 hS
 refine endF (XF.thenN ?_)
 refine seqF ?_
 refine seqF (regF ?_)
 refine op_field (o' := 0) fa_45_0 rfl rfl rfl ?_
 refine op_load Try.isAgg4 rfl (cell_own (hS.at_ 2 rfl) rfl) rfl ?_
 refine endF (XF.thenN ?_)
 refine condF rfl (fun hc => ?_) (fun hc => ?_)
 ·have hc9 := hc; clear hc
  have hz := hc9
  refine seqF (regF ?_)
  refine op_loadA (vs := [_, _, _, _, _, _]) Try.isAgg45 Try.sizeOf45 rfl (CellsAt.own (j := 0) (m := 6) (hS.at_ 1 rfl) rfl) rfl ?_
  have hsz := hS.below.size
  refine op_call (vs := [_]) hS goes_117 rfl (copied_plain t n g _ _ (hy.below hS.below)) rfl ?_
  rintro e W5 ⟨h1, rfl, hn, hb⟩
  refine ⟨_, rfl, hb, fun hS' => ?_⟩
  clear hS; have hS := hS'; clear hS'
  refine op_storeA (i := 0) (vs := [_, _, _, _, _, _]) (cs' := [_, _, _, _, _, _]) (O' := [_, _, _, _]) hS Try.sizeOf45 rfl rfl rfl rfl rfl rfl rfl ?_
  clear hS; intro W6 hS
  refine endF (XF.thenN ?_)
  refine retF ?_
  refine XF.thenR ?_
  refine XF.res (resC1 (vs := [_, _, _, _, _, _]) Try.results110 Try.isAgg45 Try.sizeOf45 rfl (CellsAt.own (j := 0) (m := 6) (hS.at_ 0 rfl) rfl)) ?_
  rw [hx.zero hz, comb_zl]
  exact wret_one ((hn.agree (hS.since 0 rfl)).mono hsz) hS.below
 ·have hc9 := hc; clear hc
  have hf := hc9
  refine skipF ?_
  refine XF.thenN ?_
  refine seqF ?_
  refine seqF (regF ?_)
  refine op_field (o' := 0) fa_45_0 rfl rfl rfl ?_
  refine op_load Try.isAgg4 rfl (cell_own (hS.at_ 1 rfl) rfl) rfl ?_
  refine endF (XF.thenN ?_)
  refine condF rfl (fun hc => ?_) (fun hc => ?_)
  ·have hc13 := hc; clear hc
   refine seqF (regF ?_)
   refine op_loadA (vs := [_, _, _, _, _, _]) Try.isAgg45 Try.sizeOf45 rfl (CellsAt.own (j := 0) (m := 6) (hS.at_ 2 rfl) rfl) rfl ?_
   have hsz := hS.below.size
   refine op_call (vs := [_]) hS goes_117 rfl (copied_plain t n f _ _ (hx.below hS.below)) rfl ?_
   rintro e W7 ⟨h1, rfl, hn, hb⟩
   refine ⟨_, rfl, hb, fun hS' => ?_⟩
   clear hS; have hS := hS'; clear hS'
   refine op_storeA (i := 0) (vs := [_, _, _, _, _, _]) (cs' := [_, _, _, _, _, _]) (O' := [_, _, _, _]) hS Try.sizeOf45 rfl rfl rfl rfl rfl rfl rfl ?_
   clear hS; intro W8 hS
   refine endF (XF.thenN ?_)
   refine retF ?_
   refine XF.thenR ?_
   refine XF.res (resC1 (vs := [_, _, _, _, _, _]) Try.results110 Try.isAgg45 Try.sizeOf45 rfl (CellsAt.own (j := 0) (m := 6) (hS.at_ 0 rfl) rfl)) ?_
   rw [hy.zero hc13, comb_zr hx.ok]
   exact wret_one ((hn.agree (hS.since 0 rfl)).mono hsz) hS.below
  ·have hc13 := hc; clear hc
   have hg := hc13
   refine skipF ?_
   refine XF.thenN ?_
   refine seqF (regF ?_)
   refine op_alloc (cs := [_, _, _, _, _, _]) hS Try.zeroValue45 rfl rfl ?_
   clear hS; intro B9 W9 hS
   refine endF (XF.thenN ?_)
   refine seqF ?_
   refine seqF (regF ?_)
   refine op_field (o' := 0) fa_25_0 rfl rfl rfl ?_
   refine op_load Try.isAgg22 rfl (cell_own (hS.at_ 4 rfl) rfl) rfl ?_
   refine endF (XF.thenN ?_)
   refine blockF ?_
   refine seqF (regF ?_)
   refine op_eql rfl rfl rfl ?_
   refine op_assign rfl rfl ?_
   refine endF (XF.thenN ?_)
   refine condF rfl (fun hc => ?_) (fun hc => ?_)
   ·have hc18 := of_decide_eq_true hc; clear hc
    have e2 : t = 2 := hc18
    subst e2
    refine regF ?_
    refine op_field (o' := 1) fa_25_1 rfl rfl rfl ?_
    refine op_load Try.isAgg3 rfl (cell_own (hS.at_ 4 rfl) rfl) rfl ?_
    refine op_field (o' := 1) fa_45_1 rfl rfl rfl ?_
    refine op_load Try.isAgg3 rfl (cell_own (hS.at_ 3 rfl) rfl) rfl ?_
    refine op_field (o' := 1) fa_45_1 rfl rfl rfl ?_
    refine op_load Try.isAgg3 rfl (cell_own (hS.at_ 2 rfl) rfl) rfl ?_
    refine op_buildSlice (us := [(0, .int .i64 _), (1, .int .i64 _)]) hS Try.underlying29 Try.sizeOf3 Try.zeroValue3 rfl rfl rfl (bs_29_2 _ _) rfl ?_
    clear hS; intro B10 W10 hS
    refine op_call (vs := [_, _]) hS goes_118 rfl (least_any n (some ⟨_, 0, none⟩) 2 [f.c, g.c] _ (by simp [maxLen]) (row_own (hS.at_ 0 rfl))) rfl ?_
    rintro e W11 ⟨rfl, rfl⟩
    refine ⟨_, rfl, Below.refl _ _, fun hS' => ?_⟩
    clear hS; have hS := hS'; clear hS'
    refine op_move rfl rfl ?_
    refine op_extract rfl rfl rfl ?_
    refine op_extract rfl rfl rfl ?_
    refine op_field (o' := 1) fa_45_1 rfl rfl rfl ?_
    refine op_store (i := 1) (cs' := [_, _, _, _, _, _]) (O' := [_, _, _, _, _, _]) hS Try.sizeOf3 rfl rfl rfl rfl rfl rfl rfl ?_
    clear hS; intro W12 hS
    refine endF ?_
    refine XF.blkN ?_
    refine XF.thenN ?_
    refine seqF (regF ?_)
    refine op_loadA (vs := [_, _, _, _, _, _]) Try.isAgg45 Try.sizeOf45 rfl (CellsAt.own (j := 0) (m := 6) (hS.at_ 1 rfl) rfl) rfl ?_
    refine op_storeA (i := 2) (vs := [_, _, _, _, _, _]) (cs' := [_, _, _, _, _, _]) (O' := [_, _, _, _, _, _]) hS Try.sizeOf45 rfl rfl rfl rfl rfl rfl rfl ?_
    clear hS; intro W13 hS
    refine endF (XF.thenN ?_)
    refine retF ?_
    refine XF.res (resC1 (vs := [_, _, _, _, _, _]) Try.results110 Try.isAgg45 Try.sizeOf45 rfl (CellsAt.own (j := 0) (m := 6) (hS.at_ 2 rfl) rfl)) ?_
    exact wret_one (comb_f2 hp hx hy hf hg) hS.below
   ·have hc18 := of_decide_eq_false hc; clear hc
    refine seqF (regF ?_)
    refine op_eql rfl rfl rfl ?_
    refine op_assign rfl rfl ?_
    refine endF (XF.thenN ?_)
    refine condF rfl (fun hc => ?_) (fun hc => ?_)
    ·have hc32 := of_decide_eq_true hc; clear hc
     have e3 : t = 3 := hc32
     subst e3
     obtain ⟨m, rfl, hm⟩ := dim3 hp (.inl rfl)
     refine regF ?_
     refine op_field (o' := 1) fa_25_1 rfl rfl rfl ?_
     refine op_load Try.isAgg3 rfl (cell_own (hS.at_ 4 rfl) rfl) rfl ?_
     refine op_field (o' := 2) fa_45_2 rfl rfl rfl ?_
     refine op_loadA (vs := [_, _]) Try.isAgg41 Try.sizeOf41 rfl (CellsAt.own (j := 2) (m := 2) (hS.at_ 3 rfl) rfl) rfl ?_
     refine op_field (o' := 2) fa_45_2 rfl rfl rfl ?_
     refine op_loadA (vs := [_, _]) Try.isAgg41 Try.sizeOf41 rfl (CellsAt.own (j := 2) (m := 2) (hS.at_ 2 rfl) rfl) rfl ?_
     have hsz := hS.below.size
     refine op_call (vs := [_, _, _]) hS goes_119 rfl (combA_is _ _ _ _ _ _ _ _ _ _ (hx.at_.fat (by have := hx.rows64 (l := 0); omega) |>.below hS.below) (hy.at_.fat (by have := hy.rows64 (l := 0); omega) |>.below hS.below) _ rfl _ rfl _ rfl _ _ hx.at_.rl hy.at_.rl) rfl ?_
     rintro e W14 ⟨a1, c1, rfl, hv, hl, hb⟩
     refine ⟨_, rfl, hb, fun hS' => ?_⟩
     clear hS; have hS := hS'; clear hS'
     refine op_move rfl rfl ?_
     refine op_extract rfl rfl rfl ?_
     refine op_extract rfl rfl rfl ?_
     refine op_field (o' := 2) fa_45_2 rfl rfl rfl ?_
     refine op_storeA (i := 0) (vs := [_, _]) (cs' := [_, _, _, _, _, _]) (O' := [_, _, _, _, _]) hS Try.sizeOf41 rfl rfl rfl rfl rfl rfl rfl ?_
     clear hS; intro W15 hS
     refine endF ?_
     refine XF.blkN ?_
     refine XF.thenN ?_
     refine seqF (regF ?_)
     refine op_loadA (vs := [_, _, _, _, _, _]) Try.isAgg45 Try.sizeOf45 rfl (CellsAt.own (j := 0) (m := 6) (hS.at_ 0 rfl) rfl) rfl ?_
     refine op_storeA (i := 1) (vs := [_, _, _, _, _, _]) (cs' := [_, _, _, _, _, _]) (O' := [_, _, _, _, _]) hS Try.sizeOf45 rfl rfl rfl rfl rfl rfl rfl ?_
     clear hS; intro W16 hS
     refine endF (XF.thenN ?_)
     refine retF ?_
     refine XF.res (resC1 (vs := [_, _, _, _, _, _]) Try.results110 Try.isAgg45 Try.sizeOf45 rfl (CellsAt.own (j := 0) (m := 6) (hS.at_ 1 rfl) rfl)) ?_
     exact wret_one (comb_f3 hx hy hf hg (hv.agree (fun ad e => (hl ad e).1) (hS.since 0 rfl)) (fun ad e => Nat.le_trans hsz (hl ad e).1)) hS.below
    ·have hc32 := of_decide_eq_false hc; clear hc
     refine seqF (regF ?_)
     refine op_eql rfl rfl rfl ?_
     refine op_assign rfl rfl ?_
     refine endF (XF.thenN ?_)
     refine condF rfl (fun hc => ?_) (fun hc => ?_)
     ·have hc45 := of_decide_eq_true hc; clear hc
      have e4 : t = 4 := hc45
      subst e4
      obtain ⟨m, rfl, hm⟩ := dim3 hp (.inr rfl)
      refine regF ?_
      refine op_field (o' := 1) fa_25_1 rfl rfl rfl ?_
      refine op_load Try.isAgg3 rfl (cell_own (hS.at_ 4 rfl) rfl) rfl ?_
      refine op_field (o' := 4) fa_45_3 rfl rfl rfl ?_
      refine op_load Try.isAgg42 rfl (cell_own (hS.at_ 3 rfl) rfl) rfl ?_
      refine op_field (o' := 4) fa_45_3 rfl rfl rfl ?_
      refine op_load Try.isAgg42 rfl (cell_own (hS.at_ 2 rfl) rfl) rfl ?_
      have hsz := hS.below.size
      refine op_call (vs := [_, _, _]) hS goes_120 rfl (both_is _ _ _ _ _ _ _ _ (by rw [hx.at_.cl]; exact hx.at_.cmax) (by rw [hy.at_.cl]; exact hy.at_.cmax) (hx.at_.cells.below hS.below) (hy.at_.cells.below hS.below) hx.at_.bits hy.at_.bits _ rfl _ _ hx.at_.cl hy.at_.cl) rfl ?_
      rintro e W17 ⟨a1, c1, rfl, hv, hl, hb⟩
      refine ⟨_, rfl, hb, fun hS' => ?_⟩
      clear hS; have hS := hS'; clear hS'
      refine op_move rfl rfl ?_
      refine op_extract rfl rfl rfl ?_
      refine op_extract rfl rfl rfl ?_
      refine op_field (o' := 4) fa_45_3 rfl rfl rfl ?_
      refine op_store (i := 0) (cs' := [_, _, _, _, _, _]) (O' := [_, _, _, _, _]) hS Try.sizeOf42 rfl rfl rfl rfl rfl rfl rfl ?_
      clear hS; intro W18 hS
      refine endF ?_
      refine XF.blkN ?_
      refine XF.thenN ?_
      refine seqF (regF ?_)
      refine op_loadA (vs := [_, _, _, _, _, _]) Try.isAgg45 Try.sizeOf45 rfl (CellsAt.own (j := 0) (m := 6) (hS.at_ 0 rfl) rfl) rfl ?_
      refine op_storeA (i := 1) (vs := [_, _, _, _, _, _]) (cs' := [_, _, _, _, _, _]) (O' := [_, _, _, _, _]) hS Try.sizeOf45 rfl rfl rfl rfl rfl rfl rfl ?_
      clear hS; intro W19 hS
      refine endF (XF.thenN ?_)
      refine retF ?_
      refine XF.res (resC1 (vs := [_, _, _, _, _, _]) Try.results110 Try.isAgg45 Try.sizeOf45 rfl (CellsAt.own (j := 0) (m := 6) (hS.at_ 1 rfl) rfl)) ?_
      exact wret_one (comb_f4 hx hy hf hg (hv.agree (fun ad e => (hl ad e).1) (hS.since 0 rfl)) (fun ad e => Nat.le_trans hsz (hl ad e).1)) hS.below
     ·have hc45 := of_decide_eq_false hc; clear hc
      refine seqF (regF ?_)
      refine op_eql rfl rfl rfl ?_
      refine op_assign rfl rfl ?_
      refine endF (XF.thenN ?_)
      refine condF rfl (fun hc => absurd (of_decide_eq_true hc) (by exact plain_ne5 hp)) (fun hc => ?_)
      have hc := of_decide_eq_false hc
      have e1 : t = 1 := by
       have := (plainB_tag hp).2
       omega
      subst e1
      refine skipF ?_
      refine XF.blkN ?_
      refine XF.thenN ?_
      refine seqF (regF ?_)
      refine op_loadA (vs := [_, _, _, _, _, _]) Try.isAgg45 Try.sizeOf45 rfl (CellsAt.own (j := 0) (m := 6) (hS.at_ 0 rfl) rfl) rfl ?_
      refine op_storeA (i := 1) (vs := [_, _, _, _, _, _]) (cs' := [_, _, _, _, _, _]) (O' := [_, _, _, _, _]) hS Try.sizeOf45 rfl rfl rfl rfl rfl rfl rfl ?_
      clear hS; intro W20 hS
      refine endF (XF.thenN ?_)
      refine retF ?_
      refine XF.res (resC1 (vs := [_, _, _, _, _, _]) Try.results110 Try.isAgg45 Try.sizeOf45 rfl (CellsAt.own (j := 0) (m := 6) (hS.at_ 1 rfl) rfl)) ?_
      exact wret_one (comb_f1 hx hy hf hg) hS.below
theorem oneA_plain (t n : Int) (sa : Option Addr) (sc : Nat) (w : World) (hp : plainB t n 0 = true) :
  Calls Try.prog 103 #[.agg #[.int .i64 t, .int .i64 n, .slice sa 0 sc]] w (WRet (.one t n) (.one (oneP t n)) w) := by
 refine enterF (args := [.agg #[.int .i64 t, .int .i64 n, .slice sa 0 sc]]) Try.func103 rfl Try.ntmps103 rfl ?_
 have hS := St.start w
 refine seqF (regF ?_)
 refine op_box (cs := [_, _, _]) hS rfl rfl rfl ?_
 clear hS; intro B1 W1 hS
 refine op_alloc (cs := [_, _, _, _, _, _]) hS Try.zeroValue45 rfl rfl ?_
 clear hS; intro B2 W2 hS
 refine endF (XF.thenN ?_)
 refine seqF (regF ?_)
 refine op_alloc (cs := [_, _, _, _, _, _]) hS Try.zeroValue45 rfl rfl ?_
 clear hS; intro B3 W3 hS
 refine endF (XF.thenN ?_)
 refine seqF ?_
 refine seqF (regF ?_)
 refine op_field (o' := 0) fa_25_0 rfl rfl rfl ?_
 refine op_load Try.isAgg22 rfl (cell_own (hS.at_ 2 rfl) rfl) rfl ?_
 refine endF (XF.thenN ?_)
 refine blockF ?_
 refine seqF (regF ?_)
 refine op_eql rfl rfl rfl ?_
 refine op_assign rfl rfl ?_
 refine endF (XF.thenN ?_)
 refine condF rfl (fun hc => ?_) (fun hc => ?_)
 ·have hc6 := of_decide_eq_true hc; clear hc
  have e3 : t = 3 := hc6
  subst e3
  obtain ⟨m, rfl, hm⟩ := dim3 hp (.inl rfl)
  refine regF ?_
  refine op_field (o' := 1) fa_25_1 rfl rfl rfl ?_
  refine op_load Try.isAgg3 rfl (cell_own (hS.at_ 2 rfl) rfl) rfl ?_
  have hsz := hS.below.size
  refine op_call (vs := [_]) hS goes_111 rfl ((oneA_is m _ _ (one_good hm).1 _ (one_good hm).2).mono fun _ _ h => FOwn.ret h) rfl ?_
  rintro e W4 ⟨a1, c1, rfl, hv, hl, hb⟩
  refine ⟨_, rfl, hb, fun hS' => ?_⟩
  clear hS; have hS := hS'; clear hS'
  refine op_move rfl rfl ?_
  refine op_extract rfl rfl rfl ?_
  refine op_extract rfl rfl rfl ?_
  refine op_field (o' := 2) fa_45_2 rfl rfl rfl ?_
  refine op_storeA (i := 0) (vs := [_, _]) (cs' := [_, _, _, _, _, _]) (O' := [_, _, _]) hS Try.sizeOf41 rfl rfl rfl rfl rfl rfl rfl ?_
  clear hS; intro W5 hS
  refine endF ?_
  refine XF.blkN ?_
  refine XF.thenN ?_
  refine seqF (regF ?_)
  refine op_loadA (vs := [_, _, _, _, _, _]) Try.isAgg45 Try.sizeOf45 rfl (CellsAt.own (j := 0) (m := 6) (hS.at_ 0 rfl) rfl) rfl ?_
  refine op_storeA (i := 1) (vs := [_, _, _, _, _, _]) (cs' := [_, _, _, _, _, _]) (O' := [_, _, _]) hS Try.sizeOf45 rfl rfl rfl rfl rfl rfl rfl ?_
  clear hS; intro W6 hS
  refine endF (XF.thenN ?_)
  refine retF ?_
  refine XF.res (resC1 (vs := [_, _, _, _, _, _]) Try.results103 Try.isAgg45 Try.sizeOf45 rfl (CellsAt.own (j := 0) (m := 6) (hS.at_ 1 rfl) rfl)) ?_
  exact wret_one (one_f3 hm (hv.agree (fun ad e => (hl ad e).1) (hS.since 0 rfl)) (fun ad e => Nat.le_trans hsz (hl ad e).1)) hS.below
 ·have hc6 := of_decide_eq_false hc; clear hc
  refine seqF (regF ?_)
  refine op_eql rfl rfl rfl ?_
  refine op_assign rfl rfl ?_
  refine endF (XF.thenN ?_)
  refine condF rfl (fun hc => ?_) (fun hc => ?_)
  ·have hc15 := of_decide_eq_true hc; clear hc
   have e4 : t = 4 := hc15
   subst e4
   obtain ⟨m, rfl, hm⟩ := dim3 hp (.inr rfl)
   refine regF ?_
   refine op_field (o' := 1) fa_25_1 rfl rfl rfl ?_
   refine op_load Try.isAgg3 rfl (cell_own (hS.at_ 2 rfl) rfl) rfl ?_
   have hsz := hS.below.size
   refine op_call (vs := [_]) hS goes_112 rfl (one4_is m hm _) rfl ?_
   rintro e W7 ⟨a1, c1, rfl, hv, hl, hb⟩
   refine ⟨_, rfl, hb, fun hS' => ?_⟩
   clear hS; have hS := hS'; clear hS'
   refine op_move rfl rfl ?_
   refine op_extract rfl rfl rfl ?_
   refine op_extract rfl rfl rfl ?_
   refine op_field (o' := 4) fa_45_3 rfl rfl rfl ?_
   refine op_store (i := 0) (cs' := [_, _, _, _, _, _]) (O' := [_, _, _]) hS Try.sizeOf42 rfl rfl rfl rfl rfl rfl rfl ?_
   clear hS; intro W8 hS
   refine endF ?_
   refine XF.blkN ?_
   refine XF.thenN ?_
   refine seqF (regF ?_)
   refine op_loadA (vs := [_, _, _, _, _, _]) Try.isAgg45 Try.sizeOf45 rfl (CellsAt.own (j := 0) (m := 6) (hS.at_ 0 rfl) rfl) rfl ?_
   refine op_storeA (i := 1) (vs := [_, _, _, _, _, _]) (cs' := [_, _, _, _, _, _]) (O' := [_, _, _]) hS Try.sizeOf45 rfl rfl rfl rfl rfl rfl rfl ?_
   clear hS; intro W9 hS
   refine endF (XF.thenN ?_)
   refine retF ?_
   refine XF.res (resC1 (vs := [_, _, _, _, _, _]) Try.results103 Try.isAgg45 Try.sizeOf45 rfl (CellsAt.own (j := 0) (m := 6) (hS.at_ 1 rfl) rfl)) ?_
   exact wret_one (one_f4 hm (hv.agree (fun ad e => (hl ad e).1) (hS.since 0 rfl)) (fun ad e => Nat.le_trans hsz (hl ad e).1)) hS.below
  ·have hc15 := of_decide_eq_false hc; clear hc
   refine seqF (regF ?_)
   refine op_eql rfl rfl rfl ?_
   refine op_assign rfl rfl ?_
   refine endF (XF.thenN ?_)
   refine condF rfl (fun hc => absurd (of_decide_eq_true hc) (by exact plain_ne5 hp)) (fun hc => ?_)
   have hc := of_decide_eq_false hc
   refine skipF ?_
   refine XF.blkN ?_
   refine XF.thenN ?_
   refine seqF (regF ?_)
   refine op_loadA (vs := [_, _, _, _, _, _]) Try.isAgg45 Try.sizeOf45 rfl (CellsAt.own (j := 0) (m := 6) (hS.at_ 0 rfl) rfl) rfl ?_
   refine op_storeA (i := 1) (vs := [_, _, _, _, _, _]) (cs' := [_, _, _, _, _, _]) (O' := [_, _, _]) hS Try.sizeOf45 rfl rfl rfl rfl rfl rfl rfl ?_
   clear hS; intro W10 hS
   refine endF (XF.thenN ?_)
   refine retF ?_
   refine XF.res (resC1 (vs := [_, _, _, _, _, _]) Try.results103 Try.isAgg45 Try.sizeOf45 rfl (CellsAt.own (j := 0) (m := 6) (hS.at_ 1 rfl) rfl)) ?_
   exact wret_one (one_f1 hp hc6 hc15) hS.below
end Go.Proofs.Ytpkcaabbcoiiiaa
namespace Go.Proofs.Ytpkcaabbcoiiiaa
open Go Go.RowKit
theorem oneA_pair (t n u m : Int) (a1 a2 : Option Addr) (c1 c2 b off sc : Nat) (w : World) (hs1 : S3 w b off ⟨t, n, a1, 0, c1⟩) (hs2 : S3 w b (off + 3) ⟨u, m, a2, 0, c2⟩) (hp1 : plainB t n 0 = true) (hp2 : plainB u m 0 = true) :
  Calls Try.prog 103 #[.agg #[.int .i64 5, .int .i64 0, .slice (some ⟨b, off, none⟩) 2 sc]] w (WRet (.two t n u m) (.two (oneP t n) (oneP u m)) w) := by
 refine enterF (args := [.agg #[.int .i64 5, .int .i64 0, .slice (some ⟨b, off, none⟩) 2 sc]]) Try.func103 rfl Try.ntmps103 rfl ?_
 have hS := St.start w
 refine seqF (regF ?_)
 refine op_box (cs := [_, _, _]) hS rfl rfl rfl ?_
 clear hS; intro B1 W1 hS
 refine op_alloc (cs := [_, _, _, _, _, _]) hS Try.zeroValue45 rfl rfl ?_
 clear hS; intro B2 W2 hS
 refine endF (XF.thenN ?_)
 refine seqF (regF ?_)
 refine op_alloc (cs := [_, _, _, _, _, _]) hS Try.zeroValue45 rfl rfl ?_
 clear hS; intro B3 W3 hS
 refine endF (XF.thenN ?_)
 refine seqF ?_
 refine seqF (regF ?_)
 refine op_field (o' := 0) fa_25_0 rfl rfl rfl ?_
 refine op_load Try.isAgg22 rfl (cell_own (hS.at_ 2 rfl) rfl) rfl ?_
 refine endF (XF.thenN ?_)
 refine blockF ?_
 refine seqF (regF ?_)
 refine op_eql rfl rfl rfl ?_
 refine op_assign rfl rfl ?_
 refine endF (XF.thenN ?_)
 refine condF rfl (fun hc => absurd (of_decide_eq_true hc) (by omega)) (fun hc => ?_)
 have hc := of_decide_eq_false hc
 refine seqF (regF ?_)
 refine op_eql rfl rfl rfl ?_
 refine op_assign rfl rfl ?_
 refine endF (XF.thenN ?_)
 refine condF rfl (fun hc => absurd (of_decide_eq_true hc) (by omega)) (fun hc => ?_)
 have hc := of_decide_eq_false hc
 refine seqF (regF ?_)
 refine op_eql rfl rfl rfl ?_
 refine op_assign rfl rfl ?_
 refine endF (XF.thenN ?_)
 refine condF rfl (fun hc => ?_) (fun hc => absurd (of_decide_eq_false hc) (by omega))
 have hc := of_decide_eq_true hc
 have hsz := hS.below.size
 have k1 := CellsAt.agree hS.agree (Nat.zero_le _) hs1.cells
 have k2 := CellsAt.agree hS.agree (Nat.zero_le _) hs2.cells
 refine regBK followsM 11 hS rfl rfl (by kernel_rfl) (by kernel_rfl) (by kernel_rfl) (fun d hd => by cases hd) ?_
 refine bl_cons 1 rfl (isV _) (stab_isV _) (rgV (li := [(1, _)]) rfl (w_free rfl) ⟨g_fr (by kernel_rfl) rfl, trivial⟩ (fun w hw => rn_field (o' := 2) fa_25_2 rfl rfl) (at_top rfl)) ?_
 refine bl_cons 2 rfl (isV _) (stab_isV _) (rgV (li := [(26, _)]) rfl (w_free rfl) ⟨g_dep 0 (by kernel_rfl) (at_dep rfl rfl rfl), trivial⟩ (fun w hw => rn_load Try.isAgg23 rfl ((below_agree hw 0).cell (Nat.zero_le _) (cell_own (hS.at_ 2 rfl) rfl))) (at_top rfl)) ?_
 refine bl_cons 3 rfl (isV _) (stab_isV _) (rgV (li := [(27, _)]) rfl (w_free rfl) ⟨g_dep 1 (by kernel_rfl) (at_dep rfl rfl rfl), trivial⟩ (fun w hw => rn_indexA (j := 0) Try.underlying23 Try.sizeOf25 rfl rfl rfl (by omega) (Nat.add_zero _)) (at_top rfl)) ?_
 refine bl_cons 4 rfl (isV _) (stab_isV _) (rgV (li := [(28, _)]) rfl (w_free rfl) ⟨g_dep 2 (by kernel_rfl) (at_dep rfl rfl rfl), trivial⟩ (fun w hw => rn_loadA (vs := [_, _, _]) Try.isAgg25 Try.sizeOf25 rfl (CellsAt.agree (below_agree hw 0) (Nat.zero_le _) (by assumption))) (at_top rfl)) ?_
 refine bl_cons 5 rfl (isNew W3.heap.size (.one t n) (.one (oneP t n))) (stab_isNew) (rg_call [isV _] rfl goes_103 (w_free rfl) ⟨p_tmp (g_dep 3 (by kernel_rfl) (at_dep rfl rfl rfl)), trivial⟩ (fun vs w' hb hh => by have e := holds_isV (us := [_]) hh; subst e; exact wret_gives hb.size (oneA_plain _ _ _ _ _ hp1)) (at_top rfl)) ?_
 refine bl_cons 6 rfl (isV _) (stab_isV _) (rgV (li := [(1, _)]) rfl (w_free rfl) ⟨g_fr (by kernel_rfl) rfl, trivial⟩ (fun w hw => rn_field (o' := 2) fa_25_2 rfl rfl) (at_top rfl)) ?_
 refine bl_cons 7 rfl (isV _) (stab_isV _) (rgV (li := [(31, _)]) rfl (w_free rfl) ⟨g_dep 5 (by kernel_rfl) (at_dep rfl rfl rfl), trivial⟩ (fun w hw => rn_load Try.isAgg23 rfl ((below_agree hw 0).cell (Nat.zero_le _) (cell_own (hS.at_ 2 rfl) rfl))) (at_top rfl)) ?_
 refine bl_cons 8 rfl (isV _) (stab_isV _) (rgV (li := [(32, _)]) rfl (w_free rfl) ⟨g_dep 6 (by kernel_rfl) (at_dep rfl rfl rfl), trivial⟩ (fun w hw => rn_indexA (j := 1) Try.underlying23 Try.sizeOf25 rfl rfl rfl (by omega) rfl) (at_top rfl)) ?_
 refine bl_cons 9 rfl (isV _) (stab_isV _) (rgV (li := [(33, _)]) rfl (w_free rfl) ⟨g_dep 7 (by kernel_rfl) (at_dep rfl rfl rfl), trivial⟩ (fun w hw => rn_loadA (vs := [_, _, _]) Try.isAgg25 Try.sizeOf25 rfl (CellsAt.agree (below_agree hw 0) (Nat.zero_le _) (by assumption))) (at_top rfl)) ?_
 refine bl_cons 10 rfl (isNew W3.heap.size (.one u m) (.one (oneP u m))) (stab_isNew) (rg_call [isV _] rfl goes_103 (w_free rfl) ⟨p_tmp (g_dep 8 (by kernel_rfl) (at_dep rfl rfl rfl)), trivial⟩ (fun vs w' hb hh => by have e := holds_isV (us := [_]) hh; subst e; exact wret_gives hb.size (oneA_plain _ _ _ _ _ hp2)) (at_top rfl)) ?_
 refine bl_cons 11 rfl (isNew W3.heap.size (.two t n u m) (.two (oneP t n) (oneP u m))) (stab_isNew) (rg_call [isNew _ (.one t n) (.one (oneP t n)), isNew _ (.one u m) (.one (oneP u m))] rfl goes_101 (w_free rfl) ⟨p_tmp (g_dep 4 (by kernel_rfl) (at_dep rfl rfl rfl)), p_tmp (g_dep 9 (by kernel_rfl) (at_dep rfl rfl rfl)), trivial⟩ (fun vs w' hb hh => pair_gives hb.size hh) (at_top rfl)) ?_
 refine bl_nil ?_
 intro W4 hbR hS'
 clear hS; have hS := hS'; clear hS'
 refine fin_v ?_
 refine fin_v ?_
 refine fin_v ?_
 refine fin_v ?_
 refine fin_p ?_; rintro _ ⟨v1, rfl, hn1⟩
 refine fin_v ?_
 refine fin_v ?_
 refine fin_v ?_
 refine fin_v ?_
 refine fin_p ?_; rintro _ ⟨v2, rfl, hn2⟩
 refine fin_p ?_; rintro _ ⟨v3, rfl, hn3⟩
 refine fin_nil ?_
 refine op_storeA (i := 0) (vs := [_, _, _, _, _, _]) (cs' := [_, _, _, _, _, _]) (O' := [_, _, _]) hS Try.sizeOf45 rfl rfl rfl rfl rfl rfl rfl ?_
 clear hS; intro W5 hS
 refine endF ?_
 refine XF.blkN ?_
 refine XF.thenN ?_
 refine seqF (regF ?_)
 refine op_loadA (vs := [_, _, _, _, _, _]) Try.isAgg45 Try.sizeOf45 rfl (CellsAt.own (j := 0) (m := 6) (hS.at_ 0 rfl) rfl) rfl ?_
 refine op_storeA (i := 1) (vs := [_, _, _, _, _, _]) (cs' := [_, _, _, _, _, _]) (O' := [_, _, _]) hS Try.sizeOf45 rfl rfl rfl rfl rfl rfl rfl ?_
 clear hS; intro W6 hS
 refine endF (XF.thenN ?_)
 refine retF ?_
 refine XF.res (resC1 (vs := [_, _, _, _, _, _]) Try.results103 Try.isAgg45 Try.sizeOf45 rfl (CellsAt.own (j := 0) (m := 6) (hS.at_ 1 rfl) rfl)) ?_
 exact ⟨v3, rfl, (hn3.agree (hS.since 0 rfl)).mono hsz, hS.below⟩
theorem combA_pair (t n u m : Int) (a1 a2 : Option Addr) (c1 c2 b off sc : Nat) (w : World) (hs1 : S3 w b off ⟨t, n, a1, 0, c1⟩) (hs2 : S3 w b (off + 3) ⟨u, m, a2, 0, c2⟩) (hp1 : plainB t n 0 = true) (hp2 : plainB u m 0 = true)(fra fca : Option Addr) (frc fcc fpc fb fo : Nat) (f1 f2 : WF) (x1 x2 : PF) (hf6 : W6 w fb fo f1) (hf7 : W6 w fb (fo + 6) f2) (hx1 : PIs w t n f1 x1) (hx2 : PIs w u m f2 x2)(gra gca : Option Addr) (grc gcc gpc gb go : Nat) (g1 g2 : WF) (y1 y2 : PF) (hg6 : W6 w gb go g1) (hg7 : W6 w gb (go + 6) g2) (hy1 : PIs w t n g1 y1) (hy2 : PIs w u m g2 y2)(ht : Tabs w) :
  Calls Try.prog 110 #[.agg #[.int .i64 5, .int .i64 0, .slice (some ⟨b, off, none⟩) 2 sc], .agg #[.bool false, .int .i64 0, .int .u64 0, .slice fra 0 frc, .slice fca 0 fcc, .slice (some ⟨fb, fo, none⟩) 2 fpc], .agg #[.bool false, .int .i64 0, .int .u64 0, .slice gra 0 grc, .slice gca 0 gcc, .slice (some ⟨gb, go, none⟩) 2 gpc]] w (WRet (.two t n u m) (.two (combP t n x1 y1) (combP u m x2 y2)) w) := by
 refine enterF (args := [.agg #[.int .i64 5, .int .i64 0, .slice (some ⟨b, off, none⟩) 2 sc], .agg #[.bool false, .int .i64 0, .int .u64 0, .slice fra 0 frc, .slice fca 0 fcc, .slice (some ⟨fb, fo, none⟩) 2 fpc], .agg #[.bool false, .int .i64 0, .int .u64 0, .slice gra 0 grc, .slice gca 0 gcc, .slice (some ⟨gb, go, none⟩) 2 gpc]]) Try.func110 rfl Try.ntmps110 rfl ?_
 have hS := St.start w
 refine seqF (regF ?_)
 refine op_box (cs := [_, _, _]) hS rfl rfl rfl ?_
 clear hS; intro B1 W1 hS
 refine op_box (cs := [_, _, _, _, _, _]) hS rfl rfl rfl ?_
 clear hS; intro B2 W2 hS
 refine op_box (cs := [_, _, _, _, _, _]) hS rfl rfl rfl ?_
 clear hS; intro B3 W3 hS
 refine op_alloc (cs := [_, _, _, _, _, _]) hS Try.zeroValue45 rfl rfl ?_
 clear hS; intro B4 W4 hS
 refine endF (XF.thenN ?_)
 refine seqF ?_
 refine seqF (regF ?_)
 refine op_field (o' := 0) fa_45_0 rfl rfl rfl ?_
 refine op_load Try.isAgg4 rfl (cell_own (hS.at_ 2 rfl) rfl) rfl ?_
 refine endF (XF.thenN ?_)
 refine condF rfl (fun hc => absurd hc (by decide)) (fun hc => ?_)
 skip
 refine skipF ?_
 refine XF.thenN ?_
 refine seqF ?_
 refine seqF (regF ?_)
 refine op_field (o' := 0) fa_45_0 rfl rfl rfl ?_
 refine op_load Try.isAgg4 rfl (cell_own (hS.at_ 1 rfl) rfl) rfl ?_
 refine endF (XF.thenN ?_)
 refine condF rfl (fun hc => absurd hc (by decide)) (fun hc => ?_)
 skip
 refine skipF ?_
 refine XF.thenN ?_
 refine seqF (regF ?_)
 refine op_alloc (cs := [_, _, _, _, _, _]) hS Try.zeroValue45 rfl rfl ?_
 clear hS; intro B5 W5 hS
 refine endF (XF.thenN ?_)
 refine seqF ?_
 refine seqF (regF ?_)
 refine op_field (o' := 0) fa_25_0 rfl rfl rfl ?_
 refine op_load Try.isAgg22 rfl (cell_own (hS.at_ 4 rfl) rfl) rfl ?_
 refine endF (XF.thenN ?_)
 refine blockF ?_
 refine seqF (regF ?_)
 refine op_eql rfl rfl rfl ?_
 refine op_assign rfl rfl ?_
 refine endF (XF.thenN ?_)
 refine condF rfl (fun hc => absurd (of_decide_eq_true hc) (by omega)) (fun hc => ?_)
 have hc := of_decide_eq_false hc
 refine seqF (regF ?_)
 refine op_eql rfl rfl rfl ?_
 refine op_assign rfl rfl ?_
 refine endF (XF.thenN ?_)
 refine condF rfl (fun hc => absurd (of_decide_eq_true hc) (by omega)) (fun hc => ?_)
 have hc := of_decide_eq_false hc
 refine seqF (regF ?_)
 refine op_eql rfl rfl rfl ?_
 refine op_assign rfl rfl ?_
 refine endF (XF.thenN ?_)
 refine condF rfl (fun hc => absurd (of_decide_eq_true hc) (by omega)) (fun hc => ?_)
 have hc := of_decide_eq_false hc
 refine seqF (regF ?_)
 refine op_eql rfl rfl rfl ?_
 refine op_assign rfl rfl ?_
 refine endF (XF.thenN ?_)
 refine condF rfl (fun hc => ?_) (fun hc => absurd (of_decide_eq_false hc) (by omega))
 have hc := of_decide_eq_true hc
 have hsz := hS.below.size
 have k1 := CellsAt.agree hS.agree (Nat.zero_le _) hs1.cells
 have k2 := CellsAt.agree hS.agree (Nat.zero_le _) hs2.cells
 have kf1 := CellsAt.agree hS.agree (Nat.zero_le _) hf6.cells
 have kf2 := CellsAt.agree hS.agree (Nat.zero_le _) hf7.cells
 have kg1 := CellsAt.agree hS.agree (Nat.zero_le _) hg6.cells
 have kg2 := CellsAt.agree hS.agree (Nat.zero_le _) hg7.cells
 refine regBK followsM 27 hS rfl rfl (by kernel_rfl) (by kernel_rfl) (by kernel_rfl) (fun d hd => by cases hd) ?_
 refine bl_cons 1 rfl (isV _) (stab_isV _) (rgV (li := [(3, _)]) rfl (w_free rfl) ⟨g_fr (by kernel_rfl) rfl, trivial⟩ (fun w hw => rn_field (o' := 2) fa_25_2 rfl rfl) (at_top rfl)) ?_
 refine bl_cons 2 rfl (isV _) (stab_isV _) (rgV (li := [(60, _)]) rfl (w_free rfl) ⟨g_dep 0 (by kernel_rfl) (at_dep rfl rfl rfl), trivial⟩ (fun w hw => rn_load Try.isAgg23 rfl ((below_agree hw 0).cell (Nat.zero_le _) (cell_own (hS.at_ 4 rfl) rfl))) (at_top rfl)) ?_
 refine bl_cons 3 rfl (isV _) (stab_isV _) (rgV (li := [(61, _)]) rfl (w_free rfl) ⟨g_dep 1 (by kernel_rfl) (at_dep rfl rfl rfl), trivial⟩ (fun w hw => rn_indexA (j := 0) Try.underlying23 Try.sizeOf25 rfl rfl rfl (by omega) (Nat.add_zero _)) (at_top rfl)) ?_
 refine bl_cons 4 rfl (isV _) (stab_isV _) (rgV (li := [(62, _)]) rfl (w_free rfl) ⟨g_dep 2 (by kernel_rfl) (at_dep rfl rfl rfl), trivial⟩ (fun w hw => rn_loadA (vs := [_, _, _]) Try.isAgg25 Try.sizeOf25 rfl (CellsAt.agree (below_agree hw 0) (Nat.zero_le _) (by assumption))) (at_top rfl)) ?_
 refine bl_cons 5 rfl (isV _) (stab_isV _) (rgV (li := [(4, _)]) rfl (w_free rfl) ⟨g_fr (by kernel_rfl) rfl, trivial⟩ (fun w hw => rn_field (o' := 5) fa_45_4 rfl rfl) (at_top rfl)) ?_
 refine bl_cons 6 rfl (isV _) (stab_isV _) (rgV (li := [(64, _)]) rfl (w_free rfl) ⟨g_dep 4 (by kernel_rfl) (at_dep rfl rfl rfl), trivial⟩ (fun w hw => rn_load Try.isAgg43 rfl ((below_agree hw 0).cell (Nat.zero_le _) (cell_own (hS.at_ 3 rfl) rfl))) (at_top rfl)) ?_
 refine bl_cons 7 rfl (isV _) (stab_isV _) (rgV (li := [(65, _)]) rfl (w_free rfl) ⟨g_dep 5 (by kernel_rfl) (at_dep rfl rfl rfl), trivial⟩ (fun w hw => rn_indexA (j := 0) Try.underlying43 Try.sizeOf45 rfl rfl rfl (by omega) (Nat.add_zero _)) (at_top rfl)) ?_
 refine bl_cons 8 rfl (isV _) (stab_isV _) (rgV (li := [(66, _)]) rfl (w_free rfl) ⟨g_dep 6 (by kernel_rfl) (at_dep rfl rfl rfl), trivial⟩ (fun w hw => rn_loadA (vs := [_, _, _, _, _, _]) Try.isAgg45 Try.sizeOf45 rfl (CellsAt.agree (below_agree hw 0) (Nat.zero_le _) (by assumption))) (at_top rfl)) ?_
 refine bl_cons 9 rfl (isV _) (stab_isV _) (rgV (li := [(5, _)]) rfl (w_free rfl) ⟨g_fr (by kernel_rfl) rfl, trivial⟩ (fun w hw => rn_field (o' := 5) fa_45_4 rfl rfl) (at_top rfl)) ?_
 refine bl_cons 10 rfl (isV _) (stab_isV _) (rgV (li := [(68, _)]) rfl (w_free rfl) ⟨g_dep 8 (by kernel_rfl) (at_dep rfl rfl rfl), trivial⟩ (fun w hw => rn_load Try.isAgg43 rfl ((below_agree hw 0).cell (Nat.zero_le _) (cell_own (hS.at_ 2 rfl) rfl))) (at_top rfl)) ?_
 refine bl_cons 11 rfl (isV _) (stab_isV _) (rgV (li := [(69, _)]) rfl (w_free rfl) ⟨g_dep 9 (by kernel_rfl) (at_dep rfl rfl rfl), trivial⟩ (fun w hw => rn_indexA (j := 0) Try.underlying43 Try.sizeOf45 rfl rfl rfl (by omega) (Nat.add_zero _)) (at_top rfl)) ?_
 refine bl_cons 12 rfl (isV _) (stab_isV _) (rgV (li := [(70, _)]) rfl (w_free rfl) ⟨g_dep 10 (by kernel_rfl) (at_dep rfl rfl rfl), trivial⟩ (fun w hw => rn_loadA (vs := [_, _, _, _, _, _]) Try.isAgg45 Try.sizeOf45 rfl (CellsAt.agree (below_agree hw 0) (Nat.zero_le _) (by assumption))) (at_top rfl)) ?_
 refine bl_cons 13 rfl (isNew W5.heap.size (.one t n) (.one (combP t n x1 y1))) (stab_isNew) (rg_call [isV _, isV _, isV _] rfl goes_110 (w_free rfl) ⟨p_tmp (g_dep 3 (by kernel_rfl) (at_dep rfl rfl rfl)), p_tmp (g_dep 7 (by kernel_rfl) (at_dep rfl rfl rfl)), p_tmp (g_dep 11 (by kernel_rfl) (at_dep rfl rfl rfl)), trivial⟩ (fun vs w' hb hh => by have e := holds_isV (us := [_, _, _]) hh; subst e; exact wret_gives hb.size (combA_plain _ _ _ _ _ _ _ _ _ hp1 (hx1.below (hS.below.trans (hb.mono hS.below.size))) (hy1.below (hS.below.trans (hb.mono hS.below.size))) (ht.below (hS.below.trans (hb.mono hS.below.size))))) (at_top rfl)) ?_
 refine bl_cons 14 rfl (isV _) (stab_isV _) (rgV (li := [(3, _)]) rfl (w_free rfl) ⟨g_fr (by kernel_rfl) rfl, trivial⟩ (fun w hw => rn_field (o' := 2) fa_25_2 rfl rfl) (at_top rfl)) ?_
 refine bl_cons 15 rfl (isV _) (stab_isV _) (rgV (li := [(73, _)]) rfl (w_free rfl) ⟨g_dep 13 (by kernel_rfl) (at_dep rfl rfl rfl), trivial⟩ (fun w hw => rn_load Try.isAgg23 rfl ((below_agree hw 0).cell (Nat.zero_le _) (cell_own (hS.at_ 4 rfl) rfl))) (at_top rfl)) ?_
 refine bl_cons 16 rfl (isV _) (stab_isV _) (rgV (li := [(74, _)]) rfl (w_free rfl) ⟨g_dep 14 (by kernel_rfl) (at_dep rfl rfl rfl), trivial⟩ (fun w hw => rn_indexA (j := 1) Try.underlying23 Try.sizeOf25 rfl rfl rfl (by omega) rfl) (at_top rfl)) ?_
 refine bl_cons 17 rfl (isV _) (stab_isV _) (rgV (li := [(75, _)]) rfl (w_free rfl) ⟨g_dep 15 (by kernel_rfl) (at_dep rfl rfl rfl), trivial⟩ (fun w hw => rn_loadA (vs := [_, _, _]) Try.isAgg25 Try.sizeOf25 rfl (CellsAt.agree (below_agree hw 0) (Nat.zero_le _) (by assumption))) (at_top rfl)) ?_
 refine bl_cons 18 rfl (isV _) (stab_isV _) (rgV (li := [(4, _)]) rfl (w_free rfl) ⟨g_fr (by kernel_rfl) rfl, trivial⟩ (fun w hw => rn_field (o' := 5) fa_45_4 rfl rfl) (at_top rfl)) ?_
 refine bl_cons 19 rfl (isV _) (stab_isV _) (rgV (li := [(77, _)]) rfl (w_free rfl) ⟨g_dep 17 (by kernel_rfl) (at_dep rfl rfl rfl), trivial⟩ (fun w hw => rn_load Try.isAgg43 rfl ((below_agree hw 0).cell (Nat.zero_le _) (cell_own (hS.at_ 3 rfl) rfl))) (at_top rfl)) ?_
 refine bl_cons 20 rfl (isV _) (stab_isV _) (rgV (li := [(78, _)]) rfl (w_free rfl) ⟨g_dep 18 (by kernel_rfl) (at_dep rfl rfl rfl), trivial⟩ (fun w hw => rn_indexA (j := 1) Try.underlying43 Try.sizeOf45 rfl rfl rfl (by omega) rfl) (at_top rfl)) ?_
 refine bl_cons 21 rfl (isV _) (stab_isV _) (rgV (li := [(79, _)]) rfl (w_free rfl) ⟨g_dep 19 (by kernel_rfl) (at_dep rfl rfl rfl), trivial⟩ (fun w hw => rn_loadA (vs := [_, _, _, _, _, _]) Try.isAgg45 Try.sizeOf45 rfl (CellsAt.agree (below_agree hw 0) (Nat.zero_le _) (by assumption))) (at_top rfl)) ?_
 refine bl_cons 22 rfl (isV _) (stab_isV _) (rgV (li := [(5, _)]) rfl (w_free rfl) ⟨g_fr (by kernel_rfl) rfl, trivial⟩ (fun w hw => rn_field (o' := 5) fa_45_4 rfl rfl) (at_top rfl)) ?_
 refine bl_cons 23 rfl (isV _) (stab_isV _) (rgV (li := [(81, _)]) rfl (w_free rfl) ⟨g_dep 21 (by kernel_rfl) (at_dep rfl rfl rfl), trivial⟩ (fun w hw => rn_load Try.isAgg43 rfl ((below_agree hw 0).cell (Nat.zero_le _) (cell_own (hS.at_ 2 rfl) rfl))) (at_top rfl)) ?_
 refine bl_cons 24 rfl (isV _) (stab_isV _) (rgV (li := [(82, _)]) rfl (w_free rfl) ⟨g_dep 22 (by kernel_rfl) (at_dep rfl rfl rfl), trivial⟩ (fun w hw => rn_indexA (j := 1) Try.underlying43 Try.sizeOf45 rfl rfl rfl (by omega) rfl) (at_top rfl)) ?_
 refine bl_cons 25 rfl (isV _) (stab_isV _) (rgV (li := [(83, _)]) rfl (w_free rfl) ⟨g_dep 23 (by kernel_rfl) (at_dep rfl rfl rfl), trivial⟩ (fun w hw => rn_loadA (vs := [_, _, _, _, _, _]) Try.isAgg45 Try.sizeOf45 rfl (CellsAt.agree (below_agree hw 0) (Nat.zero_le _) (by assumption))) (at_top rfl)) ?_
 refine bl_cons 26 rfl (isNew W5.heap.size (.one u m) (.one (combP u m x2 y2))) (stab_isNew) (rg_call [isV _, isV _, isV _] rfl goes_110 (w_free rfl) ⟨p_tmp (g_dep 16 (by kernel_rfl) (at_dep rfl rfl rfl)), p_tmp (g_dep 20 (by kernel_rfl) (at_dep rfl rfl rfl)), p_tmp (g_dep 24 (by kernel_rfl) (at_dep rfl rfl rfl)), trivial⟩ (fun vs w' hb hh => by have e := holds_isV (us := [_, _, _]) hh; subst e; exact wret_gives hb.size (combA_plain _ _ _ _ _ _ _ _ _ hp2 (hx2.below (hS.below.trans (hb.mono hS.below.size))) (hy2.below (hS.below.trans (hb.mono hS.below.size))) (ht.below (hS.below.trans (hb.mono hS.below.size))))) (at_top rfl)) ?_
 refine bl_cons 27 rfl (isNew W5.heap.size (.two t n u m) (.two (combP t n x1 y1) (combP u m x2 y2))) (stab_isNew) (rg_call [isNew _ (.one t n) (.one (combP t n x1 y1)), isNew _ (.one u m) (.one (combP u m x2 y2))] rfl goes_101 (w_free rfl) ⟨p_tmp (g_dep 12 (by kernel_rfl) (at_dep rfl rfl rfl)), p_tmp (g_dep 25 (by kernel_rfl) (at_dep rfl rfl rfl)), trivial⟩ (fun vs w' hb hh => pair_gives hb.size hh) (at_top rfl)) ?_
 refine bl_nil ?_
 intro W6 hbR hS'
 clear hS; have hS := hS'; clear hS'
 refine fin_v ?_
 refine fin_v ?_
 refine fin_v ?_
 refine fin_v ?_
 refine fin_v ?_
 refine fin_v ?_
 refine fin_v ?_
 refine fin_v ?_
 refine fin_v ?_
 refine fin_v ?_
 refine fin_v ?_
 refine fin_v ?_
 refine fin_p ?_; rintro _ ⟨v1, rfl, hn1⟩
 refine fin_v ?_
 refine fin_v ?_
 refine fin_v ?_
 refine fin_v ?_
 refine fin_v ?_
 refine fin_v ?_
 refine fin_v ?_
 refine fin_v ?_
 refine fin_v ?_
 refine fin_v ?_
 refine fin_v ?_
 refine fin_v ?_
 refine fin_p ?_; rintro _ ⟨v2, rfl, hn2⟩
 refine fin_p ?_; rintro _ ⟨v3, rfl, hn3⟩
 refine fin_nil ?_
 refine op_storeA (i := 0) (vs := [_, _, _, _, _, _]) (cs' := [_, _, _, _, _, _]) (O' := [_, _, _, _, _]) hS Try.sizeOf45 rfl rfl rfl rfl rfl rfl rfl ?_
 clear hS; intro W7 hS
 refine endF ?_
 refine XF.blkN ?_
 refine XF.thenN ?_
 refine seqF (regF ?_)
 refine op_loadA (vs := [_, _, _, _, _, _]) Try.isAgg45 Try.sizeOf45 rfl (CellsAt.own (j := 0) (m := 6) (hS.at_ 0 rfl) rfl) rfl ?_
 refine op_storeA (i := 1) (vs := [_, _, _, _, _, _]) (cs' := [_, _, _, _, _, _]) (O' := [_, _, _, _, _]) hS Try.sizeOf45 rfl rfl rfl rfl rfl rfl rfl ?_
 clear hS; intro W8 hS
 refine endF (XF.thenN ?_)
 refine retF ?_
 refine XF.res (resC1 (vs := [_, _, _, _, _, _]) Try.results110 Try.isAgg45 Try.sizeOf45 rfl (CellsAt.own (j := 0) (m := 6) (hS.at_ 1 rfl) rfl)) ?_
 exact ⟨v3, rfl, (hn3.agree (hS.since 0 rfl)).mono hsz, hS.below⟩
end Go.Proofs.Ytpkcaabbcoiiiaa
namespace Go.Proofs.Ytpkcaabbcoiiiaa
open Go.RowKit
attribute [local go_sem ↓] Go.wp_at_zero Go.wp_at_succ
theorem zeroA_lit (t n : Int) (a : Option Addr) (l c0 : Nat) (ht : t ≠ 5) (w : World) :
  Calls Try.prog 85 #[.agg #[.int .i64 t, .int .i64 n, .slice a l c0]] w fun e w' => e = .returned (.agg #[.bool true, .int .i64 0, .int .u64 0, .slice none 0 0, .slice none 0 0, .slice none 0 0]) ∧ Below w.heap.size w w' := zeroA_plain t n a l c0 ht w
theorem pair_zero (w : World) :
  Calls Try.prog 101 #[.agg #[.bool true, .int .i64 0, .int .u64 0, .slice none 0 0, .slice none 0 0, .slice none 0 0], .agg #[.bool true, .int .i64 0, .int .u64 0, .slice none 0 0, .slice none 0 0, .slice none 0 0]] w fun e w' => ∃ blk, e = .returned (.agg #[.bool false, .int .i64 0, .int .u64 0, .slice none 0 0, .slice none 0 0, .slice (some ⟨blk, 0, none⟩) 2 2]) ∧ W6 w' blk 0 zeroF ∧ W6 w' blk 6 zeroF ∧ w.heap.size ≤ blk ∧ Below w.heap.size w w' := pair_is zeroF zeroF w
set_option maxHeartbeats 8000000 in
theorem zeroA_pair (d : Nat) (sa : Option Addr) (sc : Nat) (p q : SV) (w : World) (hsp : SIn w (d + 1) (.mk ⟨5, 0, sa, 2, sc⟩ [p, q])) (hp : p.pl = true) (hq : q.pl = true) :
  Calls Try.prog 85 #[.agg #[.int .i64 5, .int .i64 0, .slice sa 2 sc]] w (WRet (.two p.f.tag p.f.dim q.f.tag q.f.dim) (.two zeroP zeroP) w) := by
 obtain ⟨_, b, off, ha, hb, hp3, hq3, _, _⟩ := hsp.two
 obtain rfl : sa = some ⟨b, off, none⟩ := ha
 obtain ⟨⟨pt, pn, pa, pl, pc⟩, pps⟩ := p
 obtain ⟨⟨qt, qn, qa, ql, qc⟩, qps⟩ := q
 have hp5 := Lib.hid (pl_pair (show plainB pt pn pl = true from hp)); have hq5 := Lib.hid (pl_pair (show plainB qt qn ql = true from hq))
 obtain ⟨t0, t1⟩ := two_boxes2 w #[.int .i64 5, .int .i64 0, .slice (some ⟨b, off, none⟩) 2 sc] #[.bool false, .int .i64 0, .int .u64 0, .slice none 0 0, .slice none 0 0, .slice none 0 0] 25 45
 have T0 := Lib.hid t0; have T1 := Lib.hid t1
 have hB := Lib.hid (wbox w #[.int .i64 5, .int .i64 0, .slice (some ⟨b, off, none⟩) 2 sc] #[.bool false, .int .i64 0, .int .u64 0, .slice none 0 0, .slice none 0 0, .slice none 0 0] 25 45)
 have hsz : ((w.alloc (.cells #[.int .i64 5, .int .i64 0, .slice (some ⟨b, off, none⟩) 2 sc] 25)).alloc (.cells #[.bool false, .int .i64 0, .int .u64 0, .slice none 0 0, .slice none 0 0, .slice none 0 0] 45)).heap.size = w.heap.size + 1 + 1 := by simp
 have n1 : ¬ (w.heap.size + 1 = w.heap.size) := by omega
 have n2 : ¬ (w.heap.size + 1 = b) := by omega
 obtain ⟨W0, hW0⟩ : ∃ W, (w.alloc (.cells #[.int .i64 5, .int .i64 0, .slice (some ⟨b, off, none⟩) 2 sc] 25)).alloc (.cells #[.bool false, .int .i64 0, .int .u64 0, .slice none 0 0, .slice none 0 0, .slice none 0 0] 45) = W := ⟨_, rfl⟩
 rw [hW0] at hB T0 T1 hsz
 have HSZ := Lib.hid hsz
 have HP3 := Lib.hid (S3.below hp3 hB.out); have HQ3 := Lib.hid (S3.below hq3 hB.out)
 obtain ⟨x0, x1, x2⟩ := tri_cells T0.out
 obtain ⟨y0, y1, y2, y3, y4, y5⟩ := six_cells T1.out
 have EN : Hid (∀ W : World, Below W0.heap.size W0 W → W.cell? ⟨w.heap.size, 2, none⟩ = some (.slice (some ⟨b, off, none⟩) 2 sc) ∧ W.cell? ⟨b, off, none⟩ = some (.int .i64 pt) ∧ W.cell? ⟨b, off + 1, none⟩ = some (.int .i64 pn) ∧ W.cell? ⟨b, off + 2, none⟩ = some (.slice pa pl pc) ∧ W.cell? ⟨b, off + 3, none⟩ = some (.int .i64 qt) ∧ W.cell? ⟨b, off + 4, none⟩ = some (.int .i64 qn) ∧ W.cell? ⟨b, off + 5, none⟩ = some (.slice qa ql qc)) := fun W h => by
  obtain ⟨a0, a1, a2⟩ := tri_cells (heap_old T0.out h)
  obtain ⟨d0, d1, d2⟩ := HP3.out.below h; obtain ⟨e0, e1, e2⟩ := HQ3.out.below h
  exact ⟨a2, d0, d1, d2, e0, e1, e2⟩
 obtain ⟨m0, m1, m2, m3, m4, m5, m6⟩ := EN.out _ (Below.refl _ _)
 clear hsp hp hq hp3 hq3 t0 t1 hsz hb
 have D0 : Hid (Below W0.heap.size W0 W0.drew) := (Below.refl _ _).drew
 go_enter Try.func85, Try.ntmps85
 go_wp2_with fail
 go_region_held3 (fun w' => w'.cell? ⟨w.heap.size, 2, none⟩ = some (.slice (some ⟨b, off, none⟩) 2 sc) ∧ w'.cell? ⟨b, off, none⟩ = some (.int .i64 pt) ∧ w'.cell? ⟨b, off + 1, none⟩ = some (.int .i64 pn) ∧ w'.cell? ⟨b, off + 2, none⟩ = some (.slice pa pl pc) ∧ w'.cell? ⟨b, off + 3, none⟩ = some (.int .i64 qt) ∧ w'.cell? ⟨b, off + 4, none⟩ = some (.int .i64 qn) ∧ w'.cell? ⟨b, off + 5, none⟩ = some (.slice qa ql qc))
  (first | (simp only [World.cell?_setCell_far, ne_eq, n1, n2, not_false_eq_true]; with_reducible exact EN.out _ D3.out) | with_reducible exact EN.out _ D0.out | with_reducible exact EN.out _ D1.out | with_reducible exact EN.out _ D2.out | with_reducible exact EN.out _ D3.out | with_reducible exact EN.out _ (Below.refl _ _) | fail)
  (first | (go_at_call 85; with_reducible refine (zeroA_lit pt pn pa pl pc hp5.out W0.drew).mono ?_; rintro e z1 ⟨rfl, hz1⟩; have D1 := Lib.hid (D0.out.trans (hz1.mono D0.out.size))) | (go_at_call 85; with_reducible refine (zeroA_lit qt qn qa ql qc hq5.out z1).mono ?_; rintro e z2 ⟨rfl, hz2⟩; have D2 := Lib.hid (D1.out.trans (hz2.mono D1.out.size))) | (go_at_call 101; with_reducible refine (pair_zero z2).mono ?_; rintro e z3 ⟨blk, rfl, hx6, hy6, hge, hz3⟩; have D3 := Lib.hid (D2.out.trans (hz3.mono D2.out.size)); have XO := Lib.hid (heap_old T1.out D3.out); obtain ⟨o0, o1, o2, o3, o4, o5⟩ := six_cells XO.out; have f0 := six_frozen XO.out 0; have f1 := six_frozen XO.out 1; have f2 := six_frozen XO.out 2; have f3 := six_frozen XO.out 3; have f4 := six_frozen XO.out 4; have f5 := six_frozen XO.out 5) | fail)
 all_goals
  have NS := Lib.hid (six_set (v0 := .bool false) (v1 := .int .i64 0) (v2 := .int .u64 0) (v3 := .slice none 0 0) (v4 := .slice none 0 0) (v5 := .slice (some ⟨blk, 0, none⟩) 2 2) XO.out)
  obtain ⟨s0, s1, s2, s3, s4, s5⟩ := six_cells NS.out
  have hle := D2.out.size
  have hge2 : w.heap.size + 1 + 1 ≤ blk := by have := HSZ.out; omega
  have HX6 := Lib.hid hx6; have HY6 := Lib.hid hy6
  have HB3 := Lib.hid (hB.out.trans (D3.out.mono hB.out.size))
  clear hx6 hy6 f0 f1 f2 f3 f4 f5 o0 o1 o2 o3 o4 o5
  go_wp2_with fail
  refine bodyPost_ret (v := .agg #[.bool false, .int .i64 0, .int .u64 0, .slice none 0 0, .slice none 0 0, .slice (some ⟨blk, 0, none⟩) 2 2]) ?_ rfl ⟨pairF blk, rfl, ?_, ?_⟩
  rotate_left
  ·exact (pair_new (HX6.out.above (n := w.heap.size + 1 + 1) hge2 (put6_above _ _ _ _ _ _ (Above.refl _ _) (by omega))) (HY6.out.above (n := w.heap.size + 1 + 1) hge2 (put6_above _ _ _ _ _ _ (Above.refl _ _) (by omega))) hge2 (zero_new _ _ _ _) (zero_new _ _ _ _)).mono (by omega)
  ·exact put6_below _ _ _ _ _ _ HB3.out (by omega)
  ·simp [results, Try.results85, go_sem, s0, s1, s2, s3, s4, s5]
end Go.Proofs.Ytpkcaabbcoiiiaa
namespace Go.Proofs.Ytpkcaabbcoiiiaa
open Go Go.RowKit
theorem PIs.pw {w : World} {t n : Int} {f : WF} {x : PF} (h : PIs w t n f x) : pwOk t n f = true := by
 obtain ⟨ez, ec, eg, er, ex⟩ := pf_inj h.pf
 have hrl := h.at_.rl; have hcl := h.at_.cl; have hpl := h.pl
 rw [er] at hrl; rw [ex] at hcl
 unfold pwOk bareB onlyB
 rw [ez, ec, eg, er, ex, hpl, ← hrl, ← hcl]
 cases h.ok with
 | zero => simp [zeroP]
 | bool ht => rw [ht]; simp [pC]
 | cost c ht h0 h1 => rw [ht]; simp [pC, h0, h1]
 | facts m g rows ht hn hg => rw [ht, hn]; simp [pF, good_check hg]
 | cells m cs ht hn hv => rw [ht, hn]; simp [pX, hv.chk]
theorem PIs.rl100 {w : World} {t n : Int} {f : WF} {x : PF} (h : PIs w t n f x) : f.rl ≤ 100 := by have := h.rows64 (l := 0); omega
theorem SIs.sin {w : World} {S : PS} {f : SF} (h : SIs w S f) (hok : S.ok) : ∃ s : SV, s.f = f ∧ SIn w 2 s ∧ spaceE s = 0 := by
 cases S with
 | one t n =>
  obtain ⟨a, c, rfl⟩ := h
  exact ⟨.mk ⟨t, n, a, 0, c⟩ [], rfl, ⟨rfl, .inl rfl, by simp⟩, by
   show (if plainB t n 0 = true then (0 : Int) else _) = 0
   rw [if_pos (show plainB t n 0 = true from hok)]⟩
 | two t n u m =>
  obtain ⟨b, off, c, a1, c1, a2, c2, rfl, h1, h2⟩ := h
  refine ⟨.mk ⟨5, 0, some ⟨b, off, none⟩, 2, c⟩ [.mk ⟨t, n, a1, 0, c1⟩ [], .mk ⟨u, m, a2, 0, c2⟩ []], rfl, ⟨rfl, .inr ⟨b, off, rfl, fun i p hi => ?_⟩, ?_⟩, ?_⟩
  ·match i, hi with
   | 0, hi => simp at hi; subst hi; simpa [SV.f] using h1
   | 1, hi => simp at hi; subst hi; simpa [SV.f] using h2
  ·intro p hp
   simp at hp
   rcases hp with rfl | rfl <;> exact ⟨rfl, .inl rfl, by simp⟩
  ·have e1 : SV.pl (.mk ⟨t, n, a1, 0, c1⟩ []) = true := hok.1
   have e2 : SV.pl (.mk ⟨u, m, a2, 0, c2⟩ []) = true := hok.2
   simp only [spaceE]
   rw [if_neg (by simp [plainB]), if_pos ⟨trivial, trivial, rfl, by simp [e1, e2]⟩]
theorem XIs.two {w : World} {t n u m : Int} {f : WF} {a b : PF} (h : XIs w (.two t n u m) f (.two a b)) : ∃ (ra ca : Option Addr) (rc cc pc fb fo : Nat) (f1 f2 : WF), f = ⟨false, 0, 0, ra, 0, rc, [], ca, 0, cc, [], some ⟨fb, fo, none⟩, 2, pc⟩ ∧ W6 w fb fo f1 ∧ W6 w fb (fo + 6) f2 ∧ PIs w t n f1 a ∧ PIs w u m f2 b := by
 obtain ⟨h1, h2, h3, h4, blk, off, g, k, h5, h6, h7, h8, h9⟩ := h
 obtain ⟨z, c, gg, ra, rl, rc, rows, ca, cl, cc, cells, pa, pl, pc⟩ := f
 simp only [WF.pf, pC, PF.mk.injEq] at h1
 obtain ⟨rfl, rfl, rfl, rfl, rfl⟩ := h1
 dsimp only at h2 h3 h4 h5
 subst h2; subst h3; subst h4; subst h5
 exact ⟨ra, ca, rc, cc, pc, blk, off, g, k, rfl, h6, h7, h8, h9⟩
theorem two_win {w : World} {t n u m : Int} {ra ca : Option Addr} {rc cc pc fb fo : Nat} {f1 f2 : WF} {a b : PF} (h6 : W6 w fb fo f1) (h7 : W6 w fb (fo + 6) f2) (h8 : PIs w t n f1 a) (h9 : PIs w u m f2 b) :
  WIn w 2 (.mk ⟨false, 0, 0, ra, 0, rc, [], ca, 0, cc, [], some ⟨fb, fo, none⟩, 2, pc⟩ [.mk f1 [], .mk f2 []]) := by
 refine ⟨⟨.inl rfl, rfl, (by show (0 : Nat) < _; decide), (fun r hr => by cases hr), .inl rfl, rfl, (fun c hc => by cases hc), (by show (0 : Nat) ≤ _; decide)⟩, rfl, .inr ⟨fb, fo, rfl, fun i p hi => ?_⟩, fun p hp => ?_⟩
 ·match i, hi with
  | 0, hi => simp at hi; subst hi; simpa [WV.f] using h6
  | 1, hi => simp at hi; subst hi; simpa [WV.f] using h7
 ·simp at hp
  rcases hp with rfl | rfl
  ·exact ⟨h8.at_, h8.pl.symm, .inl rfl, by simp⟩
  ·exact ⟨h9.at_, h9.pl.symm, .inl rfl, by simp⟩
theorem two_pairOk {w : World} {t n u m : Int} {ra ca : Option Addr} {a1 a2 : Option Addr} {c1 c2 rc cc pc fb fo : Nat} {f1 f2 : WF} {a b : PF} (h8 : PIs w t n f1 a) (h9 : PIs w u m f2 b) :
  pairOk (.mk ⟨t, n, a1, 0, c1⟩ []) (.mk ⟨u, m, a2, 0, c2⟩ []) ⟨false, 0, 0, ra, 0, rc, [], ca, 0, cc, [], some ⟨fb, fo, none⟩, 2, pc⟩ [.mk f1 [], .mk f2 []] = true := by
 have e1 : pwOk t n f1 = true := h8.pw
 have e2 : pwOk u m f2 = true := h9.pw
 simp [pairOk, bareB, onlyB, pwAt, SV.f, WV.f, e1, e2]
section
variable {w : World} {S : PS} {sf : SF} {f g : WF} {x y : PX}
theorem sin_two {t n u m : Int} {b off sc : Nat} {a1 a2 : Option Addr} {c1 c2 : Nat} (h1 : S3 w b off ⟨t, n, a1, 0, c1⟩) (h2 : S3 w b (off + 3) ⟨u, m, a2, 0, c2⟩) : SIn w 2 (.mk ⟨5, 0, some ⟨b, off, none⟩, 2, sc⟩ [.mk ⟨t, n, a1, 0, c1⟩ [], .mk ⟨u, m, a2, 0, c2⟩ []]) := by
 refine ⟨rfl, .inr ⟨b, off, rfl, fun i p hi => ?_⟩, ?_⟩
 ·match i, hi with
  | 0, hi => simp at hi; subst hi; simpa [SV.f] using h1
  | 1, hi => simp at hi; subst hi; simpa [SV.f] using h2
 ·intro p hp
  simp at hp
  rcases hp with rfl | rfl <;> exact ⟨rfl, .inl rfl, by simp⟩
theorem isA_ok (hs : SIs w S sf) (hok : S.ok) (hx : XIs w S f x) : Calls Try.prog 100 #[sf.val, f.val] w fun e w' => e = .returned (.bool true) ∧ Below w.heap.size w w' := by
 cases S <;> cases x <;> first | exact hx.elim | skip
 ·obtain ⟨a, c, rfl⟩ := hs
  exact isA_plain _ _ _ _ _ _ hok (PIs.rl100 hx) w (PIs.at_ hx) true (PIs.pw hx)
 ·obtain ⟨b, off, c, a1, c1, a2, c2, rfl, h1, h2⟩ := hs
  obtain ⟨ra, ca, rc, cc, pc, fb, fo, f1, f2, rfl, h6, h7, h8, h9⟩ := hx.two
  exact isA_pair 1 _ _ _ _ _ _ w (sin_two h1 h2) hok.1 hok.2 1 (two_win h6 h7 h8 h9) (by intro p hp; simp at hp; rcases hp with rfl | rfl <;> first | exact h8.rl100 | exact h9.rl100) true (two_pairOk h8 h9)
theorem spaceA_ok (hs : SIs w S sf) (hok : S.ok) : Calls Try.prog 56 #[sf.val] w fun e w' => e = .returned (.int .i64 0) ∧ Below w.heap.size w w' := by
 obtain ⟨s, rfl, h1, h2⟩ := hs.sin hok
 exact spaceA_is 2 s 0 w h1 h2
theorem oneA_ok (hs : SIs w S sf) (hok : S.ok) : Calls Try.prog 103 #[sf.val] w (WRet S (oneX S) w) := by
 cases S with
 | one t n =>
  obtain ⟨a, c, rfl⟩ := hs
  exact oneA_plain _ _ _ _ _ hok
 | two t n u m =>
  obtain ⟨b, off, c, a1, c1, a2, c2, rfl, h1, h2⟩ := hs
  exact oneA_pair _ _ _ _ _ _ _ _ _ _ _ _ h1 h2 hok.1 hok.2
theorem zeroA_ok (hs : SIs w S sf) (hok : S.ok) : Calls Try.prog 85 #[sf.val] w (WRet S (zeroX S) w) := by
 cases S with
 | one t n =>
  obtain ⟨a, c, rfl⟩ := hs
  refine (zeroA_plain t n a 0 c (pl_pair hok) w).mono ?_
  rintro e w' ⟨rfl, hb⟩
  exact ⟨zeroF, rfl, zero_new _ _ _ _, hb⟩
 | two t n u m =>
  obtain ⟨b, off, c, a1, c1, a2, c2, rfl, h1, h2⟩ := hs
  exact zeroA_pair 1 _ _ _ _ w (sin_two h1 h2) hok.1 hok.2
end
end Go.Proofs.Ytpkcaabbcoiiiaa
namespace Go.Proofs.Ytpkcaabbcoiiiaa
open Go Go.RowKit
section
variable {w : World} {S : PS} {sf : SF} {f g : WF} {x y : PX}
theorem wComb_is (hs : SIs w S sf) (hok : S.ok) (hx : XIs w S f x) (hy : XIs w S g y) (ht : Tabs w) : Calls Try.prog 110 #[sf.val, f.val, g.val] w (WRet S (combX S x y) w) := by
 cases S <;> cases x <;> cases y <;> first | exact hx.elim | exact hy.elim | skip
 ·obtain ⟨a, c, rfl⟩ := hs
  exact combA_plain _ _ _ _ _ _ _ _ _ hok hx hy ht
 ·obtain ⟨b, off, c, a1, c1, a2, c2, rfl, h1, h2⟩ := hs
  obtain ⟨ra, ca, rc, cc, pc, fb, fo, f1, f2, rfl, h6, h7, h8, h9⟩ := hx.two
  obtain ⟨ra', ca', rc', cc', pc', gb, go, g1, g2, rfl, h6', h7', h8', h9'⟩ := hy.two
  exact combA_pair _ _ _ _ _ _ _ _ _ _ _ _ h1 h2 hok.1 hok.2 _ _ _ _ _ _ _ _ _ _ _ h6 h7 h8 h9 _ _ _ _ _ _ _ _ _ _ _ h6' h7' h8' h9' ht
end
def FRow (w : World) (a : Option Addr) (fs : List WF) : Prop := fs = [] ∨ ∃ b off, a = some ⟨b, off, none⟩ ∧ ∀ (i : Nat) f, fs[i]? = some f → W6 w b (off + i * 6) f
theorem FRow.at_ {w : World} {a : Option Addr} {fs : List WF} (h : FRow w a fs) {i : Nat} {f : WF} (hi : fs[i]? = some f) : ∃ b off, a = some ⟨b, off, none⟩ ∧ W6 w b (off + i * 6) f := by
 rcases h with rfl | ⟨b, off, ha, hc⟩
 ·simp at hi
 ·exact ⟨b, off, ha, hc i f hi⟩
def XL (w : World) (S : PS) (fs : List WF) (xs : List PX) : Prop := fs.length = xs.length ∧ ∀ (i : Nat) f x, fs[i]? = some f → xs[i]? = some x → XIs w S f x
theorem XL.at_ {w : World} {S : PS} {fs : List WF} {xs : List PX} (h : XL w S fs xs) {k : Nat} (hk : k < fs.length) : ∃ f x, fs[k]? = some f ∧ xs[k]? = some x ∧ XIs w S f x :=
 ⟨fs[k], xs[k]'(by have := h.1; omega), by simp [hk], by have := h.1; simp [show k < xs.length by omega], h.2 k _ _ (by simp [hk]) (by have := h.1; simp [show k < xs.length by omega])⟩
def WRet2 (S : PS) (x : PX) (e0 : Int) (w : World) (e : Ending) (w' : World) : Prop := ∃ f : WF, e = .returned (.tuple #[f.val, .int .i64 e0]) ∧ XNew w.heap.size w' S f x ∧ Below w.heap.size w w'
theorem take_fold {α β : Type} {f : β → α → β} {b : β} {xs : List α} {k : Nat} {x : α} (h : xs[k]? = some x) : (xs.take (k + 1)).foldl f b = f ((xs.take k).foldl f b) x := by
 rw [List.take_add_one, h]; simp [List.foldl_append]
theorem FRow.below {w w' : World} {a : Option Addr} {fs : List WF} (h : FRow w a fs) (hb : Below w.heap.size w w') : FRow w' a fs := by
 rcases h with h | ⟨b, off, rfl, hc⟩
 ·exact .inl h
 ·exact .inr ⟨b, off, rfl, fun i f hi => (hc i f hi).below hb⟩
theorem XL.below {w w' : World} {S : PS} {fs : List WF} {xs : List PX} (h : XL w S fs xs) (hb : Below w.heap.size w w') : XL w' S fs xs := ⟨h.1, fun i f x hf hx => (h.2 i f x hf hx).below hb⟩
theorem checkAllW_ok (S : PS) (sf : SF) (w : World) (hs : SIs w S sf) (hok : S.ok) (a : Option Addr) (c m : Nat) (fs : List WF) (xs : List PX) (hr : FRow w a fs) (hx : XL w S fs xs) (hm : fs.length = m) (hmx : m ≤ 9223372036854775807) :
  Calls Try.prog 84 #[sf.val, .slice a m c] w (fun e w' => e = .returned (.int .i64 0) ∧ Below w.heap.size w w') := by
 refine enterF (args := [sf.val, .slice a m c]) Try.func84 rfl Try.ntmps84 rfl ?_
 have hS := St.start w
 refine seqF (regF ?_)
 refine op_box (cs := [_, _, _]) hS rfl rfl rfl ?_
 clear hS; intro B1 W1 hS
 refine op_assign rfl rfl ?_
 refine endF (XF.thenN ?_)
 refine seqF ?_
 refine seqF (regF ?_)
 refine op_loadA (vs := [_, _, _]) Try.isAgg25 Try.sizeOf25 rfl (CellsAt.own (j := 0) (m := 3) (hS.at_ 0 rfl) rfl) rfl ?_
 refine op_call (vs := [_]) hS goes_56 rfl (spaceA_ok (hs.below hS.below) hok) rfl ?_
 rintro e W2 ⟨rfl, hb⟩
 refine ⟨_, rfl, hb, fun hS' => ?_⟩
 clear hS; have hS := hS'; clear hS' hb
 refine op_assign rfl rfl ?_
 refine endF (XF.thenN ?_)
 refine seqF (regF ?_)
 refine op_move rfl rfl ?_
 refine op_neq rfl rfl rfl ?_
 refine endF (XF.thenN ?_)
 refine condF rfl (fun hc => absurd (of_decide_eq_true hc) (by omega)) (fun hc => ?_)
 have hc := of_decide_eq_false hc
 refine skipF ?_
 refine XF.thenN ?_
 refine seqF ?_
 refine seqF (regF ?_)
 refine op_move rfl rfl ?_
 refine op_len Try.underlying43 rfl rfl ?_
 refine op_move rfl rfl ?_
 refine endF (XF.thenN ?_)
 refine blockF ?_
 refine loopF (fun q l W => ∃ k : Nat, k ≤ m ∧ q = m - k ∧ l = [(2, .pointer (some ⟨B1, 0, none⟩)), (13, .slice a m c), (14, .int .i64 (m : Int)), (15, .int .i64 (k : Int))] ∧ St w [(B1, [.int .i64 sf.tag, .int .i64 sf.dim, .slice sf.a sf.len sf.cap], 25)] [] [] W) (m - 0) ([(2, _), (13, _), (14, _), (15, _)]) ⟨rfl, rfl, rfl, rfl, trivial⟩ (⟨0, Nat.zero_le _, rfl, rfl, hS.clear⟩) ?_
 clear hS
 rintro q l W ⟨k, hkm, rfl, rfl, hS⟩
 refine seqF (regF ?_)
 refine op_lss rfl rfl rfl ?_
 refine endF (XF.thenN ?_)
 refine seqF ?_
 refine condF rfl (fun hc => ?_) (fun hc => ?_)
 ·have hc16 := of_decide_eq_true hc; clear hc
  have hk : k < m := by omega
  obtain ⟨f, x, hf, hxk, hxx⟩ := hx.at_ (k := k) (by omega)
  obtain ⟨b, off, rfl, h6⟩ := hr.at_ hf
  have k1 := CellsAt.agree hS.agree (Nat.zero_le _) h6.cells
  refine skipF ?_
  refine XF.thenN ?_
  refine seqF ?_
  refine blockF ?_
  refine seqF (regF ?_)
  refine op_indexA  Try.underlying43 Try.sizeOf45 rfl rfl rfl (by omega) rfl rfl ?_
  refine op_loadA (vs := [_, _, _, _, _, _]) Try.isAgg45 Try.sizeOf45 rfl (by assumption) rfl ?_
  refine op_alloc (cs := [_, _, _, _, _, _]) hS Try.zeroValue45 rfl rfl ?_
  clear hS; intro B3 W3 hS
  refine op_storeA (i := 0) (vs := [_, _, _, _, _, _]) (cs' := [_, _, _, _, _, _]) (O' := [_, _]) hS Try.sizeOf45 rfl rfl rfl rfl rfl rfl rfl ?_
  clear hS; intro W4 hS
  refine endF (XF.thenN ?_)
  refine seqF (regF ?_)
  refine op_loadA (vs := [_, _, _]) Try.isAgg25 Try.sizeOf25 rfl (CellsAt.own (j := 0) (m := 3) (hS.at_ 1 rfl) rfl) rfl ?_
  refine op_loadA (vs := [_, _, _, _, _, _]) Try.isAgg45 Try.sizeOf45 rfl (CellsAt.own (j := 0) (m := 6) (hS.at_ 0 rfl) rfl) rfl ?_
  refine op_call (vs := [_, _]) hS goes_100 rfl (isA_ok (hs.below hS.below) hok (hxx.below hS.below)) rfl ?_
  rintro e W5 ⟨rfl, hb⟩
  refine ⟨_, rfl, hb, fun hS' => ?_⟩
  clear hS; have hS := hS'; clear hS' hb
  refine op_not rfl rfl ?_
  refine endF (XF.thenN ?_)
  refine condN rfl ?_
  refine skipF ?_
  refine XF.blkN ?_
  refine XF.thenN ?_
  refine regF ?_
  refine op_add rfl rfl (IntWalk.i64_in _ (by omega)) rfl ?_
  refine op_move rfl rfl ?_
  refine endF ?_
  exact XF.round (m - (k + 1)) [(2, _), (13, _), (14, _), (15, _)] (by omega) ⟨rfl, rfl, rfl, rfl, trivial⟩ ⟨k + 1, by omega, rfl, rfl, hS.tail.clear⟩
 ·have hc16 := of_decide_eq_false hc; clear hc
  refine exitF ?_
  refine XF.thenX ?_
  refine XF.thenX ?_
  refine XF.blkX ?_
  refine XF.thenN ?_
  refine seqF (regF ?_)
  refine op_assign rfl rfl ?_
  refine endF (XF.thenN ?_)
  refine retF ?_
  refine XF.res (res1 Try.results84 rfl) ?_
  exact ⟨rfl, hS.below⟩
theorem CombineW_ok (S : PS) (sf : SF) (w : World) (hs : SIs w S sf) (hok : S.ok) (a : Option Addr) (c m : Nat) (fs : List WF) (xs : List PX) (hr : FRow w a fs) (hx : XL w S fs xs) (hm : fs.length = m) (hmx : m ≤ 9223372036854775807) (ht : Tabs w) :
  Calls Try.prog 102 #[sf.val, .slice a m c] w (WRet2 S (xs.foldl (combX S) (zeroX S)) 0 w) := by
 refine enterF (args := [sf.val, .slice a m c]) Try.func102 rfl Try.ntmps102 rfl ?_
 have hS := St.start w
 refine seqF (regF ?_)
 refine op_box (cs := [_, _, _]) hS rfl rfl rfl ?_
 clear hS; intro B1 W1 hS
 refine op_alloc (cs := [_, _, _, _, _, _]) hS Try.zeroValue45 rfl rfl ?_
 clear hS; intro B2 W2 hS
 refine op_assign rfl rfl ?_
 refine endF (XF.thenN ?_)
 refine seqF ?_
 refine seqF (regF ?_)
 refine op_loadA (vs := [_, _, _]) Try.isAgg25 Try.sizeOf25 rfl (CellsAt.own (j := 0) (m := 3) (hS.at_ 1 rfl) rfl) rfl ?_
 refine op_move rfl rfl ?_
 refine op_call (vs := [_, _]) hS goes_84 rfl (checkAllW_ok S sf _ (hs.below hS.below) hok a c m fs xs (hr.below hS.below) (hx.below hS.below) hm hmx) rfl ?_
 rintro e W3 ⟨rfl, hb⟩
 refine ⟨_, rfl, hb, fun hS' => ?_⟩
 clear hS; have hS := hS'; clear hS' hb
 refine op_assign rfl rfl ?_
 refine endF (XF.thenN ?_)
 refine seqF (regF ?_)
 refine op_move rfl rfl ?_
 refine op_neq rfl rfl rfl ?_
 refine endF (XF.thenN ?_)
 refine condF rfl (fun hc => absurd (of_decide_eq_true hc) (by omega)) (fun hc => ?_)
 have hc := of_decide_eq_false hc
 refine skipF ?_
 refine XF.thenN ?_
 refine seqF (regF ?_)
 refine op_loadA (vs := [_, _, _]) Try.isAgg25 Try.sizeOf25 rfl (CellsAt.own (j := 0) (m := 3) (hS.at_ 1 rfl) rfl) rfl ?_
 have hsz := hS.below.size
 refine op_call (vs := [_]) hS goes_85 rfl (zeroA_ok (hs.below hS.below) hok) rfl ?_
 rintro e W4 ⟨f0, rfl, hn, hb⟩
 refine ⟨_, rfl, hb, fun hS' => ?_⟩
 clear hS; have hS := hS'; clear hS'
 refine op_alloc (cs := [_, _, _, _, _, _]) hS Try.zeroValue45 rfl rfl ?_
 clear hS; intro B5 W5 hS
 refine op_storeA (i := 0) (vs := [_, _, _, _, _, _]) (cs' := [_, _, _, _, _, _]) (O' := [_, _, _]) hS Try.sizeOf45 rfl rfl rfl rfl rfl rfl rfl ?_
 clear hS; intro W6 hS
 refine endF (XF.thenN ?_)
 refine seqF ?_
 refine seqF (regF ?_)
 refine op_move rfl rfl ?_
 refine op_len Try.underlying43 rfl rfl ?_
 refine op_move rfl rfl ?_
 refine endF (XF.thenN ?_)
 refine blockF ?_
 refine loopF (fun q l W => ∃ (k : Nat) (f0 : WF) (lo : Nat) (A : World), k ≤ m ∧ q = m - k ∧ l = [(2, .pointer (some ⟨B1, 0, none⟩)), (4, .pointer (some ⟨B2, 0, none⟩)), (7, .pointer (some ⟨B5, 0, none⟩)), (19, .slice a m c), (20, .int .i64 (m : Int)), (21, .int .i64 (k : Int))] ∧ w.heap.size ≤ lo ∧ XNew lo A S f0 ((xs.take k).foldl (combX S) (zeroX S)) ∧ St w [(B5, f0.six, 45), (B2, [.bool false, .int .i64 0, .int .u64 0, .slice none 0 0, .slice none 0 0, .slice none 0 0], 45), (B1, [.int .i64 sf.tag, .int .i64 sf.dim, .slice sf.a sf.len sf.cap], 25)] [] [(lo, A)] W) (m - 0) ([(2, _), (4, _), (7, _), (19, _), (20, _), (21, _)]) ⟨rfl, rfl, rfl, rfl, rfl, rfl, trivial⟩ (⟨0, f0, _, _, Nat.zero_le _, rfl, rfl, hsz, hn, hS.keep [_] (fun q hq => by simp at hq; subst hq; exact List.mem_cons_self)⟩) ?_
 clear hS
 rintro q l W ⟨k, f0, lo, A, hkm, rfl, rfl, hlo, hn0, hS⟩
 refine seqF (regF ?_)
 refine op_lss rfl rfl rfl ?_
 refine endF (XF.thenN ?_)
 refine seqF ?_
 refine condF rfl (fun hc => ?_) (fun hc => ?_)
 ·have hc22 := of_decide_eq_true hc; clear hc
  have hk : k < m := by omega
  obtain ⟨f, x, hf, hxk, hxx⟩ := hx.at_ (k := k) (by omega)
  obtain ⟨b, off, rfl, h6⟩ := hr.at_ hf
  have k1 := CellsAt.agree hS.agree (Nat.zero_le _) h6.cells
  refine skipF ?_
  refine XF.thenN ?_
  refine seqF ?_
  refine blockF ?_
  refine seqF (regF ?_)
  refine op_indexA  Try.underlying43 Try.sizeOf45 rfl rfl rfl (by omega) rfl rfl ?_
  refine op_loadA (vs := [_, _, _, _, _, _]) Try.isAgg45 Try.sizeOf45 rfl (by assumption) rfl ?_
  refine op_alloc (cs := [_, _, _, _, _, _]) hS Try.zeroValue45 rfl rfl ?_
  clear hS; intro B7 W7 hS
  refine op_storeA (i := 0) (vs := [_, _, _, _, _, _]) (cs' := [_, _, _, _, _, _]) (O' := [_, _, _, _]) hS Try.sizeOf45 rfl rfl rfl rfl rfl rfl rfl ?_
  clear hS; intro W8 hS
  refine endF (XF.thenN ?_)
  refine regF ?_
  refine op_loadA (vs := [_, _, _]) Try.isAgg25 Try.sizeOf25 rfl (CellsAt.own (j := 0) (m := 3) (hS.at_ 3 rfl) rfl) rfl ?_
  refine op_loadA (vs := [_, _, _, _, _, _]) Try.isAgg45 Try.sizeOf45 rfl (CellsAt.own (j := 0) (m := 6) (hS.at_ 1 rfl) rfl) rfl ?_
  refine op_loadA (vs := [_, _, _, _, _, _]) Try.isAgg45 Try.sizeOf45 rfl (CellsAt.own (j := 0) (m := 6) (hS.at_ 0 rfl) rfl) rfl ?_
  have hsz2 := hS.below.size
  have hb0 := hS.below
  refine op_call (vs := [_, _, _]) hS goes_110 rfl (wComb_is (hs.below hS.below) hok ((hn0.agree (hS.since 0 rfl)).is) (hxx.below hS.below) (ht.below hS.below)) rfl ?_
  rintro e W9 ⟨f2, rfl, hn2, hb⟩
  refine ⟨_, rfl, hb, fun hS' => ?_⟩
  clear hS; have hS := hS'; clear hS'
  refine op_storeA (i := 1) (vs := [_, _, _, _, _, _]) (cs' := [_, _, _, _, _, _]) (O' := [_, _, _, _]) hS Try.sizeOf45 rfl rfl rfl rfl rfl rfl rfl ?_
  clear hS; intro W10 hS
  refine endF ?_
  refine XF.blkN ?_
  refine XF.thenN ?_
  refine regF ?_
  refine op_add rfl rfl (IntWalk.i64_in _ (by omega)) rfl ?_
  refine op_move rfl rfl ?_
  refine endF ?_
  exact XF.round (m - (k + 1)) [(2, _), (4, _), (7, _), (19, _), (20, _), (21, _)] (by omega) ⟨rfl, rfl, rfl, rfl, rfl, rfl, trivial⟩ ⟨k + 1, f2, _, _, by omega, rfl, rfl, hsz2, by rw [take_fold hxk]; exact hn2, hS.tail.keep [_] (fun q hq => by simp at hq; subst hq; exact List.mem_cons_self)⟩
 ·have hc22 := of_decide_eq_false hc; clear hc
  refine exitF ?_
  refine XF.thenX ?_
  refine XF.thenX ?_
  refine XF.blkX ?_
  refine XF.thenN ?_
  refine seqF (regF ?_)
  refine op_loadA (vs := [_, _, _, _, _, _]) Try.isAgg45 Try.sizeOf45 rfl (CellsAt.own (j := 0) (m := 6) (hS.at_ 0 rfl) rfl) rfl ?_
  refine op_storeA (i := 1) (vs := [_, _, _, _, _, _]) (cs' := [_, _, _, _, _, _]) (O' := [_, _, _]) hS Try.sizeOf45 rfl rfl rfl rfl rfl rfl rfl ?_
  clear hS; intro W11 hS
  refine op_assign rfl rfl ?_
  refine endF (XF.thenN ?_)
  refine retF ?_
  refine XF.res (resCT (vs := [_, _, _, _, _, _]) Try.results102 Try.isAgg45 Try.sizeOf45 rfl (CellsAt.own (j := 0) (m := 6) (hS.at_ 1 rfl) rfl) rfl) ?_
  have e1 : xs.take k = xs := List.take_of_length_le (by have := hx.1; omega)
  rw [e1] at hn0
  exact ⟨f0, rfl, (hn0.agree (hS.since 0 rfl)).mono hlo, hS.below⟩
end Go.Proofs.Ytpkcaabbcoiiiaa
namespace Go.Proofs.Ytpkcaabbcoiiiaa
open Go Go.RowKit
theorem OneW_ok (S : PS) (sf : SF) (w : World) (hs : SIs w S sf) (hok : S.ok) :
  Calls Try.prog 87 #[sf.val] w (WRet2 S (oneX S) 0 w) := by
 refine enterF (args := [sf.val]) Try.func87 rfl Try.ntmps87 rfl ?_
 have hS := St.start w
 refine seqF (regF ?_)
 refine op_box (cs := [_, _, _]) hS rfl rfl rfl ?_
 clear hS; intro B1 W1 hS
 refine op_alloc (cs := [_, _, _, _, _, _]) hS Try.zeroValue45 rfl rfl ?_
 clear hS; intro B2 W2 hS
 refine op_assign rfl rfl ?_
 refine endF (XF.thenN ?_)
 refine seqF ?_
 refine seqF (regF ?_)
 refine op_loadA (vs := [_, _, _]) Try.isAgg25 Try.sizeOf25 rfl (CellsAt.own (j := 0) (m := 3) (hS.at_ 1 rfl) rfl) rfl ?_
 refine op_call (vs := [_]) hS goes_56 rfl (spaceA_ok (hs.below hS.below) hok) rfl ?_
 rintro e W3 ⟨rfl, hb⟩
 refine ⟨_, rfl, hb, fun hS' => ?_⟩
 clear hS; have hS := hS'; clear hS' hb
 refine op_assign rfl rfl ?_
 refine endF (XF.thenN ?_)
 refine seqF (regF ?_)
 refine op_move rfl rfl ?_
 refine op_neq rfl rfl rfl ?_
 refine endF (XF.thenN ?_)
 refine condF rfl (fun hc => absurd (of_decide_eq_true hc) (by omega)) (fun hc => ?_)
 have hc := of_decide_eq_false hc
 refine skipF ?_
 refine XF.thenN ?_
 refine seqF (regF ?_)
 refine op_loadA (vs := [_, _, _]) Try.isAgg25 Try.sizeOf25 rfl (CellsAt.own (j := 0) (m := 3) (hS.at_ 1 rfl) rfl) rfl ?_
 have hsz := hS.below.size
 refine op_call (vs := [_]) hS goes_103 rfl (oneA_ok (hs.below hS.below) hok) rfl ?_
 rintro e W4 ⟨f, rfl, hn, hb⟩
 refine ⟨_, rfl, hb, fun hS' => ?_⟩
 clear hS; have hS := hS'; clear hS'
 refine op_storeA (i := 0) (vs := [_, _, _, _, _, _]) (cs' := [_, _, _, _, _, _]) (O' := [_, _]) hS Try.sizeOf45 rfl rfl rfl rfl rfl rfl rfl ?_
 clear hS; intro W5 hS
 refine op_assign rfl rfl ?_
 refine endF (XF.thenN ?_)
 refine retF ?_
 refine XF.res (resCT (vs := [_, _, _, _, _, _]) Try.results87 Try.isAgg45 Try.sizeOf45 rfl (CellsAt.own (j := 0) (m := 6) (hS.at_ 0 rfl) rfl) rfl) ?_
 exact ⟨f, rfl, (hn.agree (hS.since 0 rfl)).mono hsz, hS.below⟩
theorem ZeroW_ok (S : PS) (sf : SF) (w : World) (hs : SIs w S sf) (hok : S.ok) :
  Calls Try.prog 59 #[sf.val] w (WRet2 S (zeroX S) 0 w) := by
 refine enterF (args := [sf.val]) Try.func59 rfl Try.ntmps59 rfl ?_
 have hS := St.start w
 refine seqF (regF ?_)
 refine op_box (cs := [_, _, _]) hS rfl rfl rfl ?_
 clear hS; intro B1 W1 hS
 refine op_alloc (cs := [_, _, _, _, _, _]) hS Try.zeroValue45 rfl rfl ?_
 clear hS; intro B2 W2 hS
 refine op_assign rfl rfl ?_
 refine endF (XF.thenN ?_)
 refine seqF ?_
 refine seqF (regF ?_)
 refine op_loadA (vs := [_, _, _]) Try.isAgg25 Try.sizeOf25 rfl (CellsAt.own (j := 0) (m := 3) (hS.at_ 1 rfl) rfl) rfl ?_
 refine op_call (vs := [_]) hS goes_56 rfl (spaceA_ok (hs.below hS.below) hok) rfl ?_
 rintro e W3 ⟨rfl, hb⟩
 refine ⟨_, rfl, hb, fun hS' => ?_⟩
 clear hS; have hS := hS'; clear hS' hb
 refine op_assign rfl rfl ?_
 refine endF (XF.thenN ?_)
 refine seqF (regF ?_)
 refine op_move rfl rfl ?_
 refine op_neq rfl rfl rfl ?_
 refine endF (XF.thenN ?_)
 refine condF rfl (fun hc => absurd (of_decide_eq_true hc) (by omega)) (fun hc => ?_)
 have hc := of_decide_eq_false hc
 refine skipF ?_
 refine XF.thenN ?_
 refine seqF (regF ?_)
 refine op_loadA (vs := [_, _, _]) Try.isAgg25 Try.sizeOf25 rfl (CellsAt.own (j := 0) (m := 3) (hS.at_ 1 rfl) rfl) rfl ?_
 have hsz := hS.below.size
 refine op_call (vs := [_]) hS goes_85 rfl (zeroA_ok (hs.below hS.below) hok) rfl ?_
 rintro e W4 ⟨f, rfl, hn, hb⟩
 refine ⟨_, rfl, hb, fun hS' => ?_⟩
 clear hS; have hS := hS'; clear hS'
 refine op_storeA (i := 0) (vs := [_, _, _, _, _, _]) (cs' := [_, _, _, _, _, _]) (O' := [_, _]) hS Try.sizeOf45 rfl rfl rfl rfl rfl rfl rfl ?_
 clear hS; intro W5 hS
 refine op_assign rfl rfl ?_
 refine endF (XF.thenN ?_)
 refine retF ?_
 refine XF.res (resCT (vs := [_, _, _, _, _, _]) Try.results59 Try.isAgg45 Try.sizeOf45 rfl (CellsAt.own (j := 0) (m := 6) (hS.at_ 0 rfl) rfl) rfl) ?_
 exact ⟨f, rfl, (hn.agree (hS.since 0 rfl)).mono hsz, hS.below⟩
end Go.Proofs.Ytpkcaabbcoiiiaa
namespace Go.Proofs.Ytpkcaabbcoiiiaa
open Go Go.RowKit
theorem all_false_at {α : Type} {l : List α} {q : α → Bool} {i : Nat} {x : α} (h : l[i]? = some x) (hq : q x = false) : l.all q = false := by
 rw [List.all_eq_false]; exact ⟨x, List.mem_of_getElem? h, by rw [hq]; decide⟩
theorem all_take_at {α : Type} {l : List α} {q : α → Bool} {i : Nat} {x : α} (h : l[i]? = some x) (ha : (l.take i).all q = true) (hq : q x = true) : (l.take (i + 1)).all q = true := by
 rw [List.take_add_one, h]; simp [ha, hq]
def okW (s : SV) (x : WV) : Bool := if plainB s.f.tag s.f.dim s.f.len = true then pwOk s.f.tag s.f.dim x.f else match s.ps with | [p, q] => pairOk p q x.f x.ps | _ => false
def chkW (s : SV) (x : WV) : Int := if spaceE s = 0 then (if okW s x = true then 0 else 51) else spaceE s
end Go.Proofs.Ytpkcaabbcoiiiaa
namespace Go.Proofs.Ytpkcaabbcoiiiaa
open Go Go.RowKit
theorem r_false {r : Bool} {C : Prop} (hr : r = true ↔ C) (h : ¬ C) : false = r := by
 cases r
 ·rfl
 ·exact absurd (hr.1 rfl) h
theorem r_true {r : Bool} {C : Prop} (hr : r = true ↔ C) (h : C) : true = r := (hr.2 h).symm
theorem sameW_one (az : Bool) (ac : Int) (ag : Nat) (ara : Option Addr) (arl arc : Nat) (arows : List Nat) (aca : Option Addr) (acl acc : Nat) (acells : List Cl) (apa : Option Addr) (apc : Nat)(bz : Bool) (bc : Int) (bg : Nat) (bra : Option Addr) (brl brc : Nat) (brows : List Nat) (bca : Option Addr) (bcl bcc : Nat) (bcells : List Cl) (bpa : Option Addr) (bpc : Nat)(w : World) (hra : VRow w ara (u64s arows)) (hla : arows.length = arl) (hma : arl ≤ 100) (hca : CRow w aca acells) (hka : acells.length = acl) (hna : acl ≤ 100)(hrb : VRow w bra (u64s brows)) (hlb : brows.length = brl) (hmb : brl ≤ 100) (hcb : CRow w bca bcells) (hkb : bcells.length = bcl) (hnb : bcl ≤ 100)(r : Bool) (hr : r = true ↔ (az = bz ∧ ac = bc ∧ ag = bg ∧ arows = brows ∧ acells = bcells)) :
  Calls Try.prog 14 #[.agg #[.bool az, .int .i64 ac, .int .u64 (ag : Int), .slice ara arl arc, .slice aca acl acc, .slice apa 0 apc], .agg #[.bool bz, .int .i64 bc, .int .u64 (bg : Int), .slice bra brl brc, .slice bca bcl bcc, .slice bpa 0 bpc]] w (fun e w' => e = .returned (.bool r) ∧ Below w.heap.size w w') := by
 refine enterF (args := [.agg #[.bool az, .int .i64 ac, .int .u64 (ag : Int), .slice ara arl arc, .slice aca acl acc, .slice apa 0 apc], .agg #[.bool bz, .int .i64 bc, .int .u64 (bg : Int), .slice bra brl brc, .slice bca bcl bcc, .slice bpa 0 bpc]]) Try.func14 rfl Try.ntmps14 rfl ?_
 have hS := St.start w
 refine seqF (regF ?_)
 refine op_box (cs := [_, _, _, _, _, _]) hS rfl rfl rfl ?_
 clear hS; intro B1 W1 hS
 refine op_box (cs := [_, _, _, _, _, _]) hS rfl rfl rfl ?_
 clear hS; intro B2 W2 hS
 refine op_assign rfl rfl ?_
 refine endF (XF.thenN ?_)
 refine seqF ?_
 refine seqF (regF ?_)
 refine op_field (o' := 0) fa_45_0 rfl rfl rfl ?_
 refine op_load Try.isAgg4 rfl (cell_own (hS.at_ 1 rfl) rfl) rfl ?_
 refine op_field (o' := 0) fa_45_0 rfl rfl rfl ?_
 refine op_load Try.isAgg4 rfl (cell_own (hS.at_ 0 rfl) rfl) rfl ?_
 refine op_neqB Try.underlying4 rfl rfl rfl ?_
 refine op_move rfl rfl ?_
 refine op_cases (d := 12) rfl (fun hc => ?_) (fun hc => ?_)
 ·have hg12 := hc; clear hc
  refine op_notF (d := 12) rfl rfl rfl rfl ?_
  refine op_notF (d := 12) rfl rfl rfl rfl ?_
  refine op_notF (d := 12) rfl rfl rfl rfl ?_
  refine op_notF (d := 12) rfl rfl rfl rfl ?_
  refine op_notF (d := 12) rfl rfl rfl rfl ?_
  refine op_pickT rfl rfl rfl ?_
  refine op_move rfl rfl ?_
  refine op_notF (d := 19) rfl rfl rfl rfl ?_
  refine op_notF (d := 19) rfl rfl rfl rfl ?_
  refine op_notF (d := 19) rfl rfl rfl rfl ?_
  refine op_notF (d := 19) rfl rfl rfl rfl ?_
  refine op_notF (d := 19) rfl rfl rfl rfl ?_
  refine op_notF (d := 19) rfl rfl rfl rfl ?_
  refine op_pickT rfl rfl rfl ?_
  refine op_move rfl rfl ?_
  refine op_notF (d := 27) rfl rfl rfl rfl ?_
  refine op_notF (d := 27) rfl rfl rfl rfl ?_
  refine op_notF (d := 27) rfl rfl rfl rfl ?_
  refine op_notF (d := 27) rfl rfl rfl rfl ?_
  refine op_notF (d := 27) rfl rfl rfl rfl ?_
  refine op_notF (d := 27) rfl rfl rfl rfl ?_
  refine op_notF (d := 27) rfl rfl rfl rfl ?_
  refine op_pickT rfl rfl rfl ?_
  refine op_move rfl rfl ?_
  refine op_notF (d := 36) rfl rfl rfl rfl ?_
  refine op_notF (d := 36) rfl rfl rfl rfl ?_
  refine op_notF (d := 36) rfl rfl rfl rfl ?_
  refine op_notF (d := 36) rfl rfl rfl rfl ?_
  refine op_notF (d := 36) rfl rfl rfl rfl ?_
  refine op_notF (d := 36) rfl rfl rfl rfl ?_
  refine op_notF (d := 36) rfl rfl rfl rfl ?_
  refine op_pickT rfl rfl rfl ?_
  refine endF (XF.thenN ?_)
  refine condT rfl ?_
  refine seqF (regF ?_)
  refine op_assign rfl rfl ?_
  refine endF (XF.thenN ?_)
  refine retF ?_
  refine XF.thenR ?_
  refine XF.res (res1 Try.results14 rfl) ?_
  exact ⟨rbool (r_false hr (fun h => by have h1 := h.1; subst h1; simp at hg12)), hS.below⟩
 ·have hg12 := hc; clear hc
  refine op_wantedF (d := 12) rfl rfl ?_
  refine op_field (o' := 1) fa_45_1 rfl rfl rfl ?_
  refine op_wantedF (d := 12) rfl rfl ?_
  refine op_load Try.isAgg3 rfl (cell_own (hS.at_ 1 rfl) rfl) rfl ?_
  refine op_wantedF (d := 12) rfl rfl ?_
  refine op_field (o' := 1) fa_45_1 rfl rfl rfl ?_
  refine op_wantedF (d := 12) rfl rfl ?_
  refine op_load Try.isAgg3 rfl (cell_own (hS.at_ 0 rfl) rfl) rfl ?_
  refine op_wantedF (d := 12) rfl rfl ?_
  refine op_neq rfl rfl rfl ?_
  refine op_pickF rfl rfl rfl ?_
  refine op_move rfl rfl ?_
  refine op_cases (d := 19) rfl (fun hc => ?_) (fun hc => ?_)
  ·have hg19 := of_decide_eq_true hc; clear hc
   refine op_notF (d := 19) rfl rfl rfl rfl ?_
   refine op_notF (d := 19) rfl rfl rfl rfl ?_
   refine op_notF (d := 19) rfl rfl rfl rfl ?_
   refine op_notF (d := 19) rfl rfl rfl rfl ?_
   refine op_notF (d := 19) rfl rfl rfl rfl ?_
   refine op_notF (d := 19) rfl rfl rfl rfl ?_
   refine op_pickT rfl rfl rfl ?_
   refine op_move rfl rfl ?_
   refine op_notF (d := 27) rfl rfl rfl rfl ?_
   refine op_notF (d := 27) rfl rfl rfl rfl ?_
   refine op_notF (d := 27) rfl rfl rfl rfl ?_
   refine op_notF (d := 27) rfl rfl rfl rfl ?_
   refine op_notF (d := 27) rfl rfl rfl rfl ?_
   refine op_notF (d := 27) rfl rfl rfl rfl ?_
   refine op_notF (d := 27) rfl rfl rfl rfl ?_
   refine op_pickT rfl rfl rfl ?_
   refine op_move rfl rfl ?_
   refine op_notF (d := 36) rfl rfl rfl rfl ?_
   refine op_notF (d := 36) rfl rfl rfl rfl ?_
   refine op_notF (d := 36) rfl rfl rfl rfl ?_
   refine op_notF (d := 36) rfl rfl rfl rfl ?_
   refine op_notF (d := 36) rfl rfl rfl rfl ?_
   refine op_notF (d := 36) rfl rfl rfl rfl ?_
   refine op_notF (d := 36) rfl rfl rfl rfl ?_
   refine op_pickT rfl rfl rfl ?_
   refine endF (XF.thenN ?_)
   refine condT rfl ?_
   refine seqF (regF ?_)
   refine op_assign rfl rfl ?_
   refine endF (XF.thenN ?_)
   refine retF ?_
   refine XF.thenR ?_
   refine XF.res (res1 Try.results14 rfl) ?_
   exact ⟨rbool (r_false hr (fun h => hg19 h.2.1)), hS.below⟩
  ·have hg19 := of_decide_eq_false hc; clear hc
   refine op_wantedF (d := 19) rfl rfl ?_
   refine op_field (o' := 2) fa_45_2 rfl rfl rfl ?_
   refine op_wantedF (d := 19) rfl rfl ?_
   refine op_loadA (vs := [_, _]) Try.isAgg41 Try.sizeOf41 rfl (CellsAt.own (j := 2) (m := 2) (hS.at_ 1 rfl) rfl) rfl ?_
   refine op_wantedF (d := 19) rfl rfl ?_
   refine op_field (o' := 2) fa_45_2 rfl rfl rfl ?_
   refine op_wantedF (d := 19) rfl rfl ?_
   refine op_loadA (vs := [_, _]) Try.isAgg41 Try.sizeOf41 rfl (CellsAt.own (j := 2) (m := 2) (hS.at_ 0 rfl) rfl) rfl ?_
   refine op_wantedF (d := 19) rfl rfl ?_
   refine op_call (vs := [_, _]) hS goes_38 rfl (sameR_is _ _ _ _ _ _ _ _ _ (by omega) (by omega) (VRow.below hra hS.below) (VRow.below hrb hS.below) _ rfl _ _ hla hlb) rfl ?_
   rintro e W3 ⟨rfl, hb⟩
   refine ⟨_, rfl, hb, fun hS' => ?_⟩
   clear hS; have hS := hS'; clear hS' hb
   refine op_wantedF (d := 19) rfl rfl ?_
   refine op_not rfl rfl ?_
   refine op_pickF rfl rfl rfl ?_
   refine op_move rfl rfl ?_
   refine op_cases (d := 27) rfl (fun hc => ?_) (fun hc => ?_)
   ·have hg27 := hc; clear hc
    refine op_notF (d := 27) rfl rfl rfl rfl ?_
    refine op_notF (d := 27) rfl rfl rfl rfl ?_
    refine op_notF (d := 27) rfl rfl rfl rfl ?_
    refine op_notF (d := 27) rfl rfl rfl rfl ?_
    refine op_notF (d := 27) rfl rfl rfl rfl ?_
    refine op_notF (d := 27) rfl rfl rfl rfl ?_
    refine op_notF (d := 27) rfl rfl rfl rfl ?_
    refine op_pickT rfl rfl rfl ?_
    refine op_move rfl rfl ?_
    refine op_notF (d := 36) rfl rfl rfl rfl ?_
    refine op_notF (d := 36) rfl rfl rfl rfl ?_
    refine op_notF (d := 36) rfl rfl rfl rfl ?_
    refine op_notF (d := 36) rfl rfl rfl rfl ?_
    refine op_notF (d := 36) rfl rfl rfl rfl ?_
    refine op_notF (d := 36) rfl rfl rfl rfl ?_
    refine op_notF (d := 36) rfl rfl rfl rfl ?_
    refine op_pickT rfl rfl rfl ?_
    refine endF (XF.thenN ?_)
    refine condT rfl ?_
    refine seqF (regF ?_)
    refine op_assign rfl rfl ?_
    refine endF (XF.thenN ?_)
    refine retF ?_
    refine XF.thenR ?_
    refine XF.res (res1 Try.results14 rfl) ?_
    exact ⟨rbool (r_false hr (fun h => by obtain ⟨_, _, h3, h4, _⟩ := h; subst h3; subst h4; rw [same_self] at hg27; cases hg27)), hS.below⟩
   ·have hg27 := hc; clear hc
    refine op_wantedF (d := 27) rfl rfl ?_
    refine op_field (o' := 4) fa_45_3 rfl rfl rfl ?_
    refine op_wantedF (d := 27) rfl rfl ?_
    refine op_load Try.isAgg42 rfl (cell_own (hS.at_ 1 rfl) rfl) rfl ?_
    refine op_wantedF (d := 27) rfl rfl ?_
    refine op_len Try.underlying42 rfl rfl ?_
    refine op_wantedF (d := 27) rfl rfl ?_
    refine op_field (o' := 4) fa_45_3 rfl rfl rfl ?_
    refine op_wantedF (d := 27) rfl rfl ?_
    refine op_load Try.isAgg42 rfl (cell_own (hS.at_ 0 rfl) rfl) rfl ?_
    refine op_wantedF (d := 27) rfl rfl ?_
    refine op_len Try.underlying42 rfl rfl ?_
    refine op_wantedF (d := 27) rfl rfl ?_
    refine op_neq rfl rfl rfl ?_
    refine op_pickF rfl rfl rfl ?_
    refine op_move rfl rfl ?_
    refine op_cases (d := 36) rfl (fun hc => ?_) (fun hc => ?_)
    ·have hg36 := of_decide_eq_true hc; clear hc
     refine op_notF (d := 36) rfl rfl rfl rfl ?_
     refine op_notF (d := 36) rfl rfl rfl rfl ?_
     refine op_notF (d := 36) rfl rfl rfl rfl ?_
     refine op_notF (d := 36) rfl rfl rfl rfl ?_
     refine op_notF (d := 36) rfl rfl rfl rfl ?_
     refine op_notF (d := 36) rfl rfl rfl rfl ?_
     refine op_notF (d := 36) rfl rfl rfl rfl ?_
     refine op_pickT rfl rfl rfl ?_
     refine endF (XF.thenN ?_)
     refine condT rfl ?_
     refine seqF (regF ?_)
     refine op_assign rfl rfl ?_
     refine endF (XF.thenN ?_)
     refine retF ?_
     refine XF.thenR ?_
     refine XF.res (res1 Try.results14 rfl) ?_
     exact ⟨rbool (r_false hr (fun h => by have h5 := h.2.2.2.2; subst h5; omega)), hS.below⟩
    ·have hg36 := of_decide_eq_false hc; clear hc
     have hz : az = bz := by simpa using hg12
     have hcc : ac = bc := by omega
     have hff : ag = bg ∧ arows = brows := by simpa [sameB] using hg27
     have hcl : acl = bcl := by omega
     refine op_wantedF (d := 36) rfl rfl ?_
     refine op_field (o' := 5) fa_45_4 rfl rfl rfl ?_
     refine op_wantedF (d := 36) rfl rfl ?_
     refine op_load Try.isAgg43 rfl (cell_own (hS.at_ 1 rfl) rfl) rfl ?_
     refine op_wantedF (d := 36) rfl rfl ?_
     refine op_len Try.underlying43 rfl rfl ?_
     refine op_wantedF (d := 36) rfl rfl ?_
     refine op_field (o' := 5) fa_45_4 rfl rfl rfl ?_
     refine op_wantedF (d := 36) rfl rfl ?_
     refine op_load Try.isAgg43 rfl (cell_own (hS.at_ 0 rfl) rfl) rfl ?_
     refine op_wantedF (d := 36) rfl rfl ?_
     refine op_len Try.underlying43 rfl rfl ?_
     refine op_wantedF (d := 36) rfl rfl ?_
     refine op_neq rfl rfl rfl ?_
     refine op_pickF rfl rfl rfl ?_
     refine endF (XF.thenN ?_)
     refine condF rfl (fun hc => absurd (of_decide_eq_true hc) (by omega)) (fun hc => ?_)
     have hc := of_decide_eq_false hc
     refine skipF ?_
     refine XF.thenN ?_
     refine seqF ?_
     refine seqF (regF ?_)
     refine op_assign rfl rfl ?_
     refine endF (XF.thenN ?_)
     refine blockF ?_
     refine loopF (fun q l W => ∃ i : Nat, i ≤ acl ∧ q = acl - i ∧ l = [(2, .pointer (some ⟨B1, 0, none⟩)), (3, .pointer (some ⟨B2, 0, none⟩)), (5, .int .i64 (i : Int))] ∧ acells.take i = bcells.take i ∧ St w [(B2, [.bool bz, .int .i64 bc, .int .u64 (bg : Int), .slice bra brl brc, .slice bca bcl bcc, .slice bpa 0 bpc], 45), (B1, [.bool az, .int .i64 ac, .int .u64 (ag : Int), .slice ara arl arc, .slice aca acl acc, .slice apa 0 apc], 45)] [] [] W) (acl - 0) ([(2, _), (3, _), (5, _)]) ⟨rfl, rfl, rfl, trivial⟩ (⟨0, Nat.zero_le _, rfl, rfl, rfl, hS.clear⟩) ?_
     clear hS
     rintro q l W ⟨i, hi, rfl, rfl, hall, hS⟩
     refine seqF ?_
     refine seqF (regF ?_)
     refine op_move rfl rfl ?_
     refine op_field (o' := 4) fa_45_3 rfl rfl rfl ?_
     refine op_load Try.isAgg42 rfl (cell_own (hS.at_ 1 rfl) rfl) rfl ?_
     refine op_len Try.underlying42 rfl rfl ?_
     refine op_lss rfl rfl rfl ?_
     refine endF (XF.thenN ?_)
     refine condF rfl (fun hc => ?_) (fun hc => ?_)
     ·have hc49 := of_decide_eq_true hc; clear hc
      have hk : i < acl := by omega
      obtain ⟨b1, o1, x, hx1, hx2, _, x0, x1, x2⟩ := hca.at_ (k := i) (by omega)
      obtain ⟨b2, o2, y, hy1, hy2, _, y0, y1, y2⟩ := hcb.at_ (k := i) (by omega)
      subst hx1; subst hy1
      have k1 : CellsAt W b1 (o1 + i * 3) [.int .u64 (x.f : Int), .int .i64 x.k, .int .i64 x.v] := CellsAt.agree hS.agree (Nat.zero_le _) ⟨x0, x1, x2, trivial⟩
      have k2 : CellsAt W b2 (o2 + i * 3) [.int .u64 (y.f : Int), .int .i64 y.k, .int .i64 y.v] := CellsAt.agree hS.agree (Nat.zero_le _) ⟨y0, y1, y2, trivial⟩
      refine skipF ?_
      refine XF.thenN ?_
      refine seqF ?_
      refine blockF ?_
      refine seqF ?_
      refine regB (m := 11) followsM hS (by kernel_rfl) (by kernel_rfl) rfl ?_
      refine bl_cons 1 rfl (isV _) (stab_isV _) (rgV (li := [(2, _)]) rfl (w_free rfl) ⟨g_fr (by kernel_rfl) rfl, trivial⟩ (fun w hw => rn_field (o' := 4) fa_45_3 rfl rfl) (at_top rfl)) ?_
      refine bl_cons 2 rfl (isV _) (stab_isV _) (rgV (li := [(52, _)]) rfl (w_free rfl) ⟨g_dep 0 (by kernel_rfl) (at_dep rfl rfl rfl), trivial⟩ (fun w hw => rn_load Try.isAgg42 rfl ((below_agree hw 0).cell (Nat.zero_le _) (cell_own (hS.at_ 1 rfl) rfl))) (at_top rfl)) ?_
      refine bl_cons 3 rfl (isV _) (stab_isV _) (rgV (li := [(5, _)]) rfl (w_free rfl) ⟨g_fr (by kernel_rfl) rfl, trivial⟩ (fun w hw => rn_move rfl) (at_top rfl)) ?_
      refine bl_cons 4 rfl (isV _) (stab_isV _) (rgV (li := [(53, _), (54, _)]) rfl (w_free rfl) ⟨g_dep 1 (by kernel_rfl) (at_dep rfl rfl rfl), g_dep 2 (by kernel_rfl) (at_dep rfl rfl rfl), trivial⟩ (fun w hw => rn_indexA  Try.underlying42 Try.sizeOf96 rfl rfl rfl (by omega) rfl) (at_top rfl)) ?_
      refine bl_cons 5 rfl (isV _) (stab_isV _) (rgV (li := [(55, _)]) rfl (w_free rfl) ⟨g_dep 3 (by kernel_rfl) (at_dep rfl rfl rfl), trivial⟩ (fun w hw => rn_loadA (vs := [_, _, _]) Try.isAgg96 Try.sizeOf96 rfl (CellsAt.agree (below_agree hw 0) (Nat.zero_le _) (by assumption))) (at_top rfl)) ?_
      refine bl_cons 6 rfl (isV _) (stab_isV _) (rgV (li := [(3, _)]) rfl (w_free rfl) ⟨g_fr (by kernel_rfl) rfl, trivial⟩ (fun w hw => rn_field (o' := 4) fa_45_3 rfl rfl) (at_top rfl)) ?_
      refine bl_cons 7 rfl (isV _) (stab_isV _) (rgV (li := [(57, _)]) rfl (w_free rfl) ⟨g_dep 5 (by kernel_rfl) (at_dep rfl rfl rfl), trivial⟩ (fun w hw => rn_load Try.isAgg42 rfl ((below_agree hw 0).cell (Nat.zero_le _) (cell_own (hS.at_ 0 rfl) rfl))) (at_top rfl)) ?_
      refine bl_cons 8 rfl (isV _) (stab_isV _) (rgV (li := [(5, _)]) rfl (w_free rfl) ⟨g_fr (by kernel_rfl) rfl, trivial⟩ (fun w hw => rn_move rfl) (at_top rfl)) ?_
      refine bl_cons 9 rfl (isV _) (stab_isV _) (rgV (li := [(58, _), (59, _)]) rfl (w_free rfl) ⟨g_dep 6 (by kernel_rfl) (at_dep rfl rfl rfl), g_dep 7 (by kernel_rfl) (at_dep rfl rfl rfl), trivial⟩ (fun w hw => rn_indexA  Try.underlying42 Try.sizeOf96 rfl rfl rfl (by omega) rfl) (at_top rfl)) ?_
      refine bl_cons 10 rfl (isV _) (stab_isV _) (rgV (li := [(60, _)]) rfl (w_free rfl) ⟨g_dep 8 (by kernel_rfl) (at_dep rfl rfl rfl), trivial⟩ (fun w hw => rn_loadA (vs := [_, _, _]) Try.isAgg96 Try.sizeOf96 rfl (CellsAt.agree (below_agree hw 0) (Nat.zero_le _) (by assumption))) (at_top rfl)) ?_
      refine bl_cons 11 rfl (isV _) (stab_isV _) (rgV (li := [(56, _), (61, _)]) rfl (w_free rfl) ⟨g_dep 4 (by kernel_rfl) (at_dep rfl rfl rfl), g_dep 9 (by kernel_rfl) (at_dep rfl rfl rfl), trivial⟩ (fun w hw => rn_binG rfl rfl (run_eqGuard_agg _ _ _ _ _ _ _ (by kernel_rfl)) (neq_is x y _ rfl w)) (at_top rfl)) ?_
      refine bl_nil ?_
      intro W4 hbR hS'
      clear hS; have hS := hS'; clear hS'
      refine fin_v ?_
      refine fin_v ?_
      refine fin_v ?_
      refine fin_v ?_
      refine fin_v ?_
      refine fin_v ?_
      refine fin_v ?_
      refine fin_v ?_
      refine fin_v ?_
      refine fin_v ?_
      refine fin_v ?_
      refine fin_nil ?_
      refine XF.thenN ?_
      refine condF rfl (fun hc => ?_) (fun hc => ?_)
      ·have hc62 := hc; clear hc
       refine seqF (regF ?_)
       refine op_assign rfl rfl ?_
       refine endF (XF.thenN ?_)
       refine retF ?_
       refine XF.blkR ?_
       refine XF.thenR ?_
       refine XF.thenR ?_
       refine XF.blkR ?_
       refine XF.thenR ?_
       refine XF.res (res1 Try.results14 rfl) ?_
       exact ⟨rbool (r_false hr (fun h => by have h5 := h.2.2.2.2; subst h5; rw [hx2] at hy2; cases hy2; simp [sameCl] at hc62)), hS.below⟩
      ·have hc62 := hc; clear hc
       have hxy : x = y := by
        obtain ⟨xf, xk, xv⟩ := x
        obtain ⟨yf, yk, yv⟩ := y
        simp [sameCl] at hc62
        simp [hc62]
       subst hxy
       refine skipF ?_
       refine XF.blkN ?_
       refine XF.thenN ?_
       refine regF ?_
       refine op_move rfl rfl ?_
       refine op_add rfl rfl (IntWalk.i64_in _ (by omega)) rfl ?_
       refine op_assign rfl rfl ?_
       refine endF ?_
       exact XF.round (acl - (i + 1)) [(2, _), (3, _), (5, _)] (by omega) ⟨rfl, rfl, rfl, trivial⟩ ⟨i + 1, by omega, rfl, rfl, by rw [List.take_add_one, List.take_add_one, hx2, hy2, hall], hS.clear⟩
     ·have hc49 := of_decide_eq_false hc; clear hc
      have hce : acells = bcells := by
       rw [List.take_of_length_le (by omega), List.take_of_length_le (by omega)] at hall
       exact hall
      refine exitF ?_
      refine XF.thenX ?_
      refine XF.thenX ?_
      refine XF.blkX ?_
      refine XF.thenN ?_
      refine seqF ?_
      refine seqF (regF ?_)
      refine op_assign rfl rfl ?_
      refine endF (XF.thenN ?_)
      refine blockF ?_
      refine loopF (fun q l W => l = [(2, .pointer (some ⟨B1, 0, none⟩)), (3, .pointer (some ⟨B2, 0, none⟩)), (6, .int .i64 0)] ∧ St w [(B2, [.bool bz, .int .i64 bc, .int .u64 (bg : Int), .slice bra brl brc, .slice bca bcl bcc, .slice bpa 0 bpc], 45), (B1, [.bool az, .int .i64 ac, .int .u64 (ag : Int), .slice ara arl arc, .slice aca acl acc, .slice apa 0 apc], 45)] [] [] W) (0) ([(2, _), (3, _), (6, _)]) ⟨rfl, rfl, rfl, trivial⟩ (⟨rfl, hS⟩) ?_
      clear hS
      rintro q l W ⟨rfl, hS⟩
      refine seqF ?_
      refine seqF (regF ?_)
      refine op_move rfl rfl ?_
      refine op_field (o' := 5) fa_45_4 rfl rfl rfl ?_
      refine op_load Try.isAgg43 rfl (cell_own (hS.at_ 1 rfl) rfl) rfl ?_
      refine op_len Try.underlying43 rfl rfl ?_
      refine op_lss rfl rfl rfl ?_
      refine endF (XF.thenN ?_)
      refine condF rfl (fun hc => absurd (of_decide_eq_true hc) (by omega)) (fun hc => ?_)
      have hc := of_decide_eq_false hc
      refine exitF ?_
      refine XF.thenX ?_
      refine XF.thenX ?_
      refine XF.blkX ?_
      refine XF.thenN ?_
      refine seqF (regF ?_)
      refine op_assign rfl rfl ?_
      refine endF (XF.thenN ?_)
      refine retF ?_
      refine XF.res (res1 Try.results14 rfl) ?_
      exact ⟨rbool (r_true hr ⟨hz, hcc, hff.1, hff.2, hce⟩), hS.below⟩
theorem sameW_plain {w : World} {t n : Int} {f g : WF} {x y : PF} (hx : PIs w t n f x) (hy : PIs w t n g y) (r : Bool) (hr : r = true ↔ x = y) : Calls Try.prog 14 #[f.val, g.val] w fun e w' => e = .returned (.bool r) ∧ Below w.heap.size w w' := by
 have h1 := hx.rows64 (l := 0); have h2 := hy.rows64 (l := 0)
 have e1 := hx.pl; have e2 := hy.pl
 have a1 := hx.at_; have a2 := hy.at_
 obtain rfl := hx.pf
 obtain rfl := hy.pf
 obtain ⟨az, ac, ag, ara, arl, arc, arows, aca, acl, acc, acells, apa, apl, apc⟩ := f
 obtain ⟨bz, bc, bg, bra, brl, brc, brows, bca, bcl, bcc, bcells, bpa, bpl, bpc⟩ := g
 dsimp only at e1 e2 h1 h2
 subst e1; subst e2
 refine sameW_one _ _ _ _ _ _ _ _ _ _ _ _ _ _ _ _ _ _ _ _ _ _ _ _ _ _ w a1.rows a1.rl (by dsimp only; omega) a1.cells a1.cl (by dsimp only; omega) a2.rows a2.rl (by dsimp only; omega) a2.cells a2.cl (by dsimp only; omega) r ?_
 rw [hr]
 simp [WF.pf]
theorem sameW_two (t n u m : Int) (fra fca : Option Addr) (frc fcc fpc fb fo : Nat) (f1 f2 : WF)(gra gca : Option Addr) (grc gcc gpc gb go : Nat) (g1 g2 : WF)(x1 x2 y1 y2 : PF) (w : World) (hf6 : W6 w fb fo f1) (hf7 : W6 w fb (fo + 6) f2) (hg6 : W6 w gb go g1) (hg7 : W6 w gb (go + 6) g2) (hx1 : PIs w t n f1 x1) (hx2 : PIs w u m f2 x2) (hy1 : PIs w t n g1 y1) (hy2 : PIs w u m g2 y2) (r r1 r2 : Bool) (hr : r = true ↔ (x1 = y1 ∧ x2 = y2)) (hr1 : r1 = true ↔ x1 = y1) (hr2 : r2 = true ↔ x2 = y2) :
  Calls Try.prog 14 #[.agg #[.bool false, .int .i64 0, .int .u64 0, .slice fra 0 frc, .slice fca 0 fcc, .slice (some ⟨fb, fo, none⟩) 2 fpc], .agg #[.bool false, .int .i64 0, .int .u64 0, .slice gra 0 grc, .slice gca 0 gcc, .slice (some ⟨gb, go, none⟩) 2 gpc]] w (fun e w' => e = .returned (.bool r) ∧ Below w.heap.size w w') := by
 refine enterF (args := [.agg #[.bool false, .int .i64 0, .int .u64 0, .slice fra 0 frc, .slice fca 0 fcc, .slice (some ⟨fb, fo, none⟩) 2 fpc], .agg #[.bool false, .int .i64 0, .int .u64 0, .slice gra 0 grc, .slice gca 0 gcc, .slice (some ⟨gb, go, none⟩) 2 gpc]]) Try.func14 rfl Try.ntmps14 rfl ?_
 have hS := St.start w
 refine seqF (regF ?_)
 refine op_box (cs := [_, _, _, _, _, _]) hS rfl rfl rfl ?_
 clear hS; intro B1 W1 hS
 refine op_box (cs := [_, _, _, _, _, _]) hS rfl rfl rfl ?_
 clear hS; intro B2 W2 hS
 refine op_assign rfl rfl ?_
 refine endF (XF.thenN ?_)
 refine seqF ?_
 refine seqF (regF ?_)
 refine op_field (o' := 0) fa_45_0 rfl rfl rfl ?_
 refine op_load Try.isAgg4 rfl (cell_own (hS.at_ 1 rfl) rfl) rfl ?_
 refine op_field (o' := 0) fa_45_0 rfl rfl rfl ?_
 refine op_load Try.isAgg4 rfl (cell_own (hS.at_ 0 rfl) rfl) rfl ?_
 refine op_neqB Try.underlying4 rfl rfl rfl ?_
 refine op_move rfl rfl ?_
 refine op_cases (d := 12) rfl (fun hc => absurd hc (by decide)) (fun hc => ?_)
 skip
 refine op_wantedF (d := 12) rfl rfl ?_
 refine op_field (o' := 1) fa_45_1 rfl rfl rfl ?_
 refine op_wantedF (d := 12) rfl rfl ?_
 refine op_load Try.isAgg3 rfl (cell_own (hS.at_ 1 rfl) rfl) rfl ?_
 refine op_wantedF (d := 12) rfl rfl ?_
 refine op_field (o' := 1) fa_45_1 rfl rfl rfl ?_
 refine op_wantedF (d := 12) rfl rfl ?_
 refine op_load Try.isAgg3 rfl (cell_own (hS.at_ 0 rfl) rfl) rfl ?_
 refine op_wantedF (d := 12) rfl rfl ?_
 refine op_neq rfl rfl rfl ?_
 refine op_pickF rfl rfl rfl ?_
 refine op_move rfl rfl ?_
 refine op_cases (d := 19) rfl (fun hc => absurd (of_decide_eq_true hc) (by omega)) (fun hc => ?_)
 have hc := of_decide_eq_false hc
 refine op_wantedF (d := 19) rfl rfl ?_
 refine op_field (o' := 2) fa_45_2 rfl rfl rfl ?_
 refine op_wantedF (d := 19) rfl rfl ?_
 refine op_loadA (vs := [_, _]) Try.isAgg41 Try.sizeOf41 rfl (CellsAt.own (j := 2) (m := 2) (hS.at_ 1 rfl) rfl) rfl ?_
 refine op_wantedF (d := 19) rfl rfl ?_
 refine op_field (o' := 2) fa_45_2 rfl rfl rfl ?_
 refine op_wantedF (d := 19) rfl rfl ?_
 refine op_loadA (vs := [_, _]) Try.isAgg41 Try.sizeOf41 rfl (CellsAt.own (j := 2) (m := 2) (hS.at_ 0 rfl) rfl) rfl ?_
 refine op_wantedF (d := 19) rfl rfl ?_
 refine op_call (vs := [_, _]) hS goes_38 rfl (sameR_is _ _ _ _ 0 0 [] [] _ (by simp) (by simp) (.inl rfl) (.inl rfl) true rfl _ _ rfl rfl) rfl ?_
 rintro e W3 ⟨rfl, hb⟩
 refine ⟨_, rfl, hb, fun hS' => ?_⟩
 clear hS; have hS := hS'; clear hS' hb
 refine op_wantedF (d := 19) rfl rfl ?_
 refine op_not rfl rfl ?_
 refine op_pickF rfl rfl rfl ?_
 refine op_move rfl rfl ?_
 refine op_cases (d := 27) rfl (fun hc => absurd hc (by decide)) (fun hc => ?_)
 skip
 refine op_wantedF (d := 27) rfl rfl ?_
 refine op_field (o' := 4) fa_45_3 rfl rfl rfl ?_
 refine op_wantedF (d := 27) rfl rfl ?_
 refine op_load Try.isAgg42 rfl (cell_own (hS.at_ 1 rfl) rfl) rfl ?_
 refine op_wantedF (d := 27) rfl rfl ?_
 refine op_len Try.underlying42 rfl rfl ?_
 refine op_wantedF (d := 27) rfl rfl ?_
 refine op_field (o' := 4) fa_45_3 rfl rfl rfl ?_
 refine op_wantedF (d := 27) rfl rfl ?_
 refine op_load Try.isAgg42 rfl (cell_own (hS.at_ 0 rfl) rfl) rfl ?_
 refine op_wantedF (d := 27) rfl rfl ?_
 refine op_len Try.underlying42 rfl rfl ?_
 refine op_wantedF (d := 27) rfl rfl ?_
 refine op_neq rfl rfl rfl ?_
 refine op_pickF rfl rfl rfl ?_
 refine op_move rfl rfl ?_
 refine op_cases (d := 36) rfl (fun hc => absurd (of_decide_eq_true hc) (by omega)) (fun hc => ?_)
 have hc := of_decide_eq_false hc
 refine op_wantedF (d := 36) rfl rfl ?_
 refine op_field (o' := 5) fa_45_4 rfl rfl rfl ?_
 refine op_wantedF (d := 36) rfl rfl ?_
 refine op_load Try.isAgg43 rfl (cell_own (hS.at_ 1 rfl) rfl) rfl ?_
 refine op_wantedF (d := 36) rfl rfl ?_
 refine op_len Try.underlying43 rfl rfl ?_
 refine op_wantedF (d := 36) rfl rfl ?_
 refine op_field (o' := 5) fa_45_4 rfl rfl rfl ?_
 refine op_wantedF (d := 36) rfl rfl ?_
 refine op_load Try.isAgg43 rfl (cell_own (hS.at_ 0 rfl) rfl) rfl ?_
 refine op_wantedF (d := 36) rfl rfl ?_
 refine op_len Try.underlying43 rfl rfl ?_
 refine op_wantedF (d := 36) rfl rfl ?_
 refine op_neq rfl rfl rfl ?_
 refine op_pickF rfl rfl rfl ?_
 refine endF (XF.thenN ?_)
 refine condF rfl (fun hc => absurd (of_decide_eq_true hc) (by omega)) (fun hc => ?_)
 have hc := of_decide_eq_false hc
 refine skipF ?_
 refine XF.thenN ?_
 refine seqF ?_
 refine seqF (regF ?_)
 refine op_assign rfl rfl ?_
 refine endF (XF.thenN ?_)
 refine blockF ?_
 refine loopF (fun q l W => l = [(2, .pointer (some ⟨B1, 0, none⟩)), (3, .pointer (some ⟨B2, 0, none⟩)), (5, .int .i64 0)] ∧ St w [(B2, [.bool false, .int .i64 0, .int .u64 0, .slice gra 0 grc, .slice gca 0 gcc, .slice (some ⟨gb, go, none⟩) 2 gpc], 45), (B1, [.bool false, .int .i64 0, .int .u64 0, .slice fra 0 frc, .slice fca 0 fcc, .slice (some ⟨fb, fo, none⟩) 2 fpc], 45)] [] [] W) (0) ([(2, _), (3, _), (5, _)]) ⟨rfl, rfl, rfl, trivial⟩ (⟨rfl, hS.clear⟩) ?_
 clear hS
 rintro q l W ⟨rfl, hS⟩
 refine seqF ?_
 refine seqF (regF ?_)
 refine op_move rfl rfl ?_
 refine op_field (o' := 4) fa_45_3 rfl rfl rfl ?_
 refine op_load Try.isAgg42 rfl (cell_own (hS.at_ 1 rfl) rfl) rfl ?_
 refine op_len Try.underlying42 rfl rfl ?_
 refine op_lss rfl rfl rfl ?_
 refine endF (XF.thenN ?_)
 refine condF rfl (fun hc => absurd (of_decide_eq_true hc) (by omega)) (fun hc => ?_)
 have hc := of_decide_eq_false hc
 refine exitF ?_
 refine XF.thenX ?_
 refine XF.thenX ?_
 refine XF.blkX ?_
 refine XF.thenN ?_
 refine seqF ?_
 refine seqF (regF ?_)
 refine op_assign rfl rfl ?_
 refine endF (XF.thenN ?_)
 refine blockF ?_
 refine loopF (fun q l W => (q = 2 ∧ l = [(2, .pointer (some ⟨B1, 0, none⟩)), (3, .pointer (some ⟨B2, 0, none⟩)), (6, .int .i64 0)] ∧ St w [(B2, [.bool false, .int .i64 0, .int .u64 0, .slice gra 0 grc, .slice gca 0 gcc, .slice (some ⟨gb, go, none⟩) 2 gpc], 45), (B1, [.bool false, .int .i64 0, .int .u64 0, .slice fra 0 frc, .slice fca 0 fcc, .slice (some ⟨fb, fo, none⟩) 2 fpc], 45)] [] [] W) ∨ (q = 1 ∧ l = [(2, .pointer (some ⟨B1, 0, none⟩)), (3, .pointer (some ⟨B2, 0, none⟩)), (6, .int .i64 1)] ∧ r1 = true ∧ St w [(B2, [.bool false, .int .i64 0, .int .u64 0, .slice gra 0 grc, .slice gca 0 gcc, .slice (some ⟨gb, go, none⟩) 2 gpc], 45), (B1, [.bool false, .int .i64 0, .int .u64 0, .slice fra 0 frc, .slice fca 0 fcc, .slice (some ⟨fb, fo, none⟩) 2 fpc], 45)] [] [] W) ∨ (q = 0 ∧ l = [(2, .pointer (some ⟨B1, 0, none⟩)), (3, .pointer (some ⟨B2, 0, none⟩)), (6, .int .i64 2)] ∧ r1 = true ∧ r2 = true ∧ St w [(B2, [.bool false, .int .i64 0, .int .u64 0, .slice gra 0 grc, .slice gca 0 gcc, .slice (some ⟨gb, go, none⟩) 2 gpc], 45), (B1, [.bool false, .int .i64 0, .int .u64 0, .slice fra 0 frc, .slice fca 0 fcc, .slice (some ⟨fb, fo, none⟩) 2 fpc], 45)] [] [] W)) (2) ([(2, _), (3, _), (6, _)]) ⟨rfl, rfl, rfl, trivial⟩ (.inl ⟨rfl, rfl, hS⟩) ?_
 clear hS
 rintro q l W (⟨rfl, rfl, hS⟩ | ⟨rfl, rfl, hq1, hS⟩ | ⟨rfl, rfl, hq1, hq2, hS⟩)
 ·have k1 := CellsAt.agree hS.agree (Nat.zero_le _) hf6.cells
  have k2 := CellsAt.agree hS.agree (Nat.zero_le _) hg6.cells
  refine seqF ?_
  refine seqF (regF ?_)
  refine op_move rfl rfl ?_
  refine op_field (o' := 5) fa_45_4 rfl rfl rfl ?_
  refine op_load Try.isAgg43 rfl (cell_own (hS.at_ 1 rfl) rfl) rfl ?_
  refine op_len Try.underlying43 rfl rfl ?_
  refine op_lss rfl rfl rfl ?_
  refine endF (XF.thenN ?_)
  refine condF rfl (fun hc => ?_) (fun hc => absurd (of_decide_eq_false hc) (by omega))
  have hc := of_decide_eq_true hc
  refine skipF ?_
  refine XF.thenN ?_
  refine seqF ?_
  refine blockF ?_
  refine seqF ?_
  refine regB (m := 12) followsM hS (by kernel_rfl) (by kernel_rfl) rfl ?_
  refine bl_cons 1 rfl (isV _) (stab_isV _) (rgV (li := [(2, _)]) rfl (w_free rfl) ⟨g_fr (by kernel_rfl) rfl, trivial⟩ (fun w hw => rn_field (o' := 5) fa_45_4 rfl rfl) (at_top rfl)) ?_
  refine bl_cons 2 rfl (isV _) (stab_isV _) (rgV (li := [(70, _)]) rfl (w_free rfl) ⟨g_dep 0 (by kernel_rfl) (at_dep rfl rfl rfl), trivial⟩ (fun w hw => rn_load Try.isAgg43 rfl ((below_agree hw 0).cell (Nat.zero_le _) (cell_own (hS.at_ 1 rfl) rfl))) (at_top rfl)) ?_
  refine bl_cons 3 rfl (isV _) (stab_isV _) (rgV (li := [(6, _)]) rfl (w_free rfl) ⟨g_fr (by kernel_rfl) rfl, trivial⟩ (fun w hw => rn_move rfl) (at_top rfl)) ?_
  refine bl_cons 4 rfl (isV _) (stab_isV _) (rgV (li := [(71, _), (72, _)]) rfl (w_free rfl) ⟨g_dep 1 (by kernel_rfl) (at_dep rfl rfl rfl), g_dep 2 (by kernel_rfl) (at_dep rfl rfl rfl), trivial⟩ (fun w hw => rn_indexA (j := 0) Try.underlying43 Try.sizeOf45 rfl rfl rfl (by omega) (Nat.add_zero _)) (at_top rfl)) ?_
  refine bl_cons 5 rfl (isV _) (stab_isV _) (rgV (li := [(73, _)]) rfl (w_free rfl) ⟨g_dep 3 (by kernel_rfl) (at_dep rfl rfl rfl), trivial⟩ (fun w hw => rn_loadA (vs := [_, _, _, _, _, _]) Try.isAgg45 Try.sizeOf45 rfl (CellsAt.agree (below_agree hw 0) (Nat.zero_le _) (by assumption))) (at_top rfl)) ?_
  refine bl_cons 6 rfl (isV _) (stab_isV _) (rgV (li := [(3, _)]) rfl (w_free rfl) ⟨g_fr (by kernel_rfl) rfl, trivial⟩ (fun w hw => rn_field (o' := 5) fa_45_4 rfl rfl) (at_top rfl)) ?_
  refine bl_cons 7 rfl (isV _) (stab_isV _) (rgV (li := [(75, _)]) rfl (w_free rfl) ⟨g_dep 5 (by kernel_rfl) (at_dep rfl rfl rfl), trivial⟩ (fun w hw => rn_load Try.isAgg43 rfl ((below_agree hw 0).cell (Nat.zero_le _) (cell_own (hS.at_ 0 rfl) rfl))) (at_top rfl)) ?_
  refine bl_cons 8 rfl (isV _) (stab_isV _) (rgV (li := [(6, _)]) rfl (w_free rfl) ⟨g_fr (by kernel_rfl) rfl, trivial⟩ (fun w hw => rn_move rfl) (at_top rfl)) ?_
  refine bl_cons 9 rfl (isV _) (stab_isV _) (rgV (li := [(76, _), (77, _)]) rfl (w_free rfl) ⟨g_dep 6 (by kernel_rfl) (at_dep rfl rfl rfl), g_dep 7 (by kernel_rfl) (at_dep rfl rfl rfl), trivial⟩ (fun w hw => rn_indexA (j := 0) Try.underlying43 Try.sizeOf45 rfl rfl rfl (by omega) (Nat.add_zero _)) (at_top rfl)) ?_
  refine bl_cons 10 rfl (isV _) (stab_isV _) (rgV (li := [(78, _)]) rfl (w_free rfl) ⟨g_dep 8 (by kernel_rfl) (at_dep rfl rfl rfl), trivial⟩ (fun w hw => rn_loadA (vs := [_, _, _, _, _, _]) Try.isAgg45 Try.sizeOf45 rfl (CellsAt.agree (below_agree hw 0) (Nat.zero_le _) (by assumption))) (at_top rfl)) ?_
  refine bl_cons 11 rfl (isV (.bool r1)) (stab_isV _) (rg_call [isV _, isV _] rfl goes_14 (w_free rfl) ⟨p_tmp (g_dep 4 (by kernel_rfl) (at_dep rfl rfl rfl)), p_tmp (g_dep 9 (by kernel_rfl) (at_dep rfl rfl rfl)), trivial⟩ (fun vs w' hb hh => by have e := holds_isV (us := [_, _]) hh; subst e; exact (sameW_plain (hx1.below (hS.below.trans (hb.mono hS.below.size))) (hy1.below (hS.below.trans (hb.mono hS.below.size))) r1 hr1).mono fun e w2 h => ⟨.bool r1, h.1, rfl, h.2⟩) (at_top rfl)) ?_
  refine bl_cons 12 rfl (isV _) (stab_isV _) (rgV (li := [(80, _)]) rfl (w_free rfl) ⟨g_dep 10 (by kernel_rfl) (at_dep rfl rfl rfl), trivial⟩ (fun w hw => rn_not rfl) (at_top rfl)) ?_
  refine bl_nil ?_
  intro W4 hbR hS'
  clear hS; have hS := hS'; clear hS'
  refine fin_v ?_
  refine fin_v ?_
  refine fin_v ?_
  refine fin_v ?_
  refine fin_v ?_
  refine fin_v ?_
  refine fin_v ?_
  refine fin_v ?_
  refine fin_v ?_
  refine fin_v ?_
  refine fin_v ?_
  refine fin_v ?_
  refine fin_nil ?_
  refine XF.thenN ?_
  refine condF rfl (fun hc => ?_) (fun hc => ?_)
  ·have hc81 := hc; clear hc
   refine seqF (regF ?_)
   refine op_assign rfl rfl ?_
   refine endF (XF.thenN ?_)
   refine retF ?_
   refine XF.blkR ?_
   refine XF.thenR ?_
   refine XF.thenR ?_
   refine XF.blkR ?_
   refine XF.thenR ?_
   refine XF.res (res1 Try.results14 rfl) ?_
   exact ⟨rbool (r_false hr (fun h => by rw [hr1.2 h.1] at hc81; cases hc81)), hS.below⟩
  ·have hc81 := hc; clear hc
   refine skipF ?_
   refine XF.blkN ?_
   refine XF.thenN ?_
   refine regF ?_
   refine op_move rfl rfl ?_
   refine op_add rfl rfl (IntWalk.i64_in _ (by omega)) rfl ?_
   refine op_assign rfl rfl ?_
   refine endF ?_
   exact XF.round 1 [(2, _), (3, _), (6, _)] (by omega) ⟨rfl, rfl, rfl, trivial⟩ (.inr (.inl ⟨rfl, rfl, by simpa using hc81, hS.clear⟩))
 ·have k1 := CellsAt.agree hS.agree (Nat.zero_le _) hf7.cells
  have k2 := CellsAt.agree hS.agree (Nat.zero_le _) hg7.cells
  refine seqF ?_
  refine seqF (regF ?_)
  refine op_move rfl rfl ?_
  refine op_field (o' := 5) fa_45_4 rfl rfl rfl ?_
  refine op_load Try.isAgg43 rfl (cell_own (hS.at_ 1 rfl) rfl) rfl ?_
  refine op_len Try.underlying43 rfl rfl ?_
  refine op_lss rfl rfl rfl ?_
  refine endF (XF.thenN ?_)
  refine condF rfl (fun hc => ?_) (fun hc => absurd (of_decide_eq_false hc) (by omega))
  have hc := of_decide_eq_true hc
  refine skipF ?_
  refine XF.thenN ?_
  refine seqF ?_
  refine blockF ?_
  refine seqF ?_
  refine regB (m := 12) followsM hS (by kernel_rfl) (by kernel_rfl) rfl ?_
  refine bl_cons 1 rfl (isV _) (stab_isV _) (rgV (li := [(2, _)]) rfl (w_free rfl) ⟨g_fr (by kernel_rfl) rfl, trivial⟩ (fun w hw => rn_field (o' := 5) fa_45_4 rfl rfl) (at_top rfl)) ?_
  refine bl_cons 2 rfl (isV _) (stab_isV _) (rgV (li := [(70, _)]) rfl (w_free rfl) ⟨g_dep 0 (by kernel_rfl) (at_dep rfl rfl rfl), trivial⟩ (fun w hw => rn_load Try.isAgg43 rfl ((below_agree hw 0).cell (Nat.zero_le _) (cell_own (hS.at_ 1 rfl) rfl))) (at_top rfl)) ?_
  refine bl_cons 3 rfl (isV _) (stab_isV _) (rgV (li := [(6, _)]) rfl (w_free rfl) ⟨g_fr (by kernel_rfl) rfl, trivial⟩ (fun w hw => rn_move rfl) (at_top rfl)) ?_
  refine bl_cons 4 rfl (isV _) (stab_isV _) (rgV (li := [(71, _), (72, _)]) rfl (w_free rfl) ⟨g_dep 1 (by kernel_rfl) (at_dep rfl rfl rfl), g_dep 2 (by kernel_rfl) (at_dep rfl rfl rfl), trivial⟩ (fun w hw => rn_indexA (j := 1) Try.underlying43 Try.sizeOf45 rfl rfl rfl (by omega) rfl) (at_top rfl)) ?_
  refine bl_cons 5 rfl (isV _) (stab_isV _) (rgV (li := [(73, _)]) rfl (w_free rfl) ⟨g_dep 3 (by kernel_rfl) (at_dep rfl rfl rfl), trivial⟩ (fun w hw => rn_loadA (vs := [_, _, _, _, _, _]) Try.isAgg45 Try.sizeOf45 rfl (CellsAt.agree (below_agree hw 0) (Nat.zero_le _) (by assumption))) (at_top rfl)) ?_
  refine bl_cons 6 rfl (isV _) (stab_isV _) (rgV (li := [(3, _)]) rfl (w_free rfl) ⟨g_fr (by kernel_rfl) rfl, trivial⟩ (fun w hw => rn_field (o' := 5) fa_45_4 rfl rfl) (at_top rfl)) ?_
  refine bl_cons 7 rfl (isV _) (stab_isV _) (rgV (li := [(75, _)]) rfl (w_free rfl) ⟨g_dep 5 (by kernel_rfl) (at_dep rfl rfl rfl), trivial⟩ (fun w hw => rn_load Try.isAgg43 rfl ((below_agree hw 0).cell (Nat.zero_le _) (cell_own (hS.at_ 0 rfl) rfl))) (at_top rfl)) ?_
  refine bl_cons 8 rfl (isV _) (stab_isV _) (rgV (li := [(6, _)]) rfl (w_free rfl) ⟨g_fr (by kernel_rfl) rfl, trivial⟩ (fun w hw => rn_move rfl) (at_top rfl)) ?_
  refine bl_cons 9 rfl (isV _) (stab_isV _) (rgV (li := [(76, _), (77, _)]) rfl (w_free rfl) ⟨g_dep 6 (by kernel_rfl) (at_dep rfl rfl rfl), g_dep 7 (by kernel_rfl) (at_dep rfl rfl rfl), trivial⟩ (fun w hw => rn_indexA (j := 1) Try.underlying43 Try.sizeOf45 rfl rfl rfl (by omega) rfl) (at_top rfl)) ?_
  refine bl_cons 10 rfl (isV _) (stab_isV _) (rgV (li := [(78, _)]) rfl (w_free rfl) ⟨g_dep 8 (by kernel_rfl) (at_dep rfl rfl rfl), trivial⟩ (fun w hw => rn_loadA (vs := [_, _, _, _, _, _]) Try.isAgg45 Try.sizeOf45 rfl (CellsAt.agree (below_agree hw 0) (Nat.zero_le _) (by assumption))) (at_top rfl)) ?_
  refine bl_cons 11 rfl (isV (.bool r2)) (stab_isV _) (rg_call [isV _, isV _] rfl goes_14 (w_free rfl) ⟨p_tmp (g_dep 4 (by kernel_rfl) (at_dep rfl rfl rfl)), p_tmp (g_dep 9 (by kernel_rfl) (at_dep rfl rfl rfl)), trivial⟩ (fun vs w' hb hh => by have e := holds_isV (us := [_, _]) hh; subst e; exact (sameW_plain (hx2.below (hS.below.trans (hb.mono hS.below.size))) (hy2.below (hS.below.trans (hb.mono hS.below.size))) r2 hr2).mono fun e w2 h => ⟨.bool r2, h.1, rfl, h.2⟩) (at_top rfl)) ?_
  refine bl_cons 12 rfl (isV _) (stab_isV _) (rgV (li := [(80, _)]) rfl (w_free rfl) ⟨g_dep 10 (by kernel_rfl) (at_dep rfl rfl rfl), trivial⟩ (fun w hw => rn_not rfl) (at_top rfl)) ?_
  refine bl_nil ?_
  intro W5 hbR hS'
  clear hS; have hS := hS'; clear hS'
  refine fin_v ?_
  refine fin_v ?_
  refine fin_v ?_
  refine fin_v ?_
  refine fin_v ?_
  refine fin_v ?_
  refine fin_v ?_
  refine fin_v ?_
  refine fin_v ?_
  refine fin_v ?_
  refine fin_v ?_
  refine fin_v ?_
  refine fin_nil ?_
  refine XF.thenN ?_
  refine condF rfl (fun hc => ?_) (fun hc => ?_)
  ·have hc81 := hc; clear hc
   refine seqF (regF ?_)
   refine op_assign rfl rfl ?_
   refine endF (XF.thenN ?_)
   refine retF ?_
   refine XF.blkR ?_
   refine XF.thenR ?_
   refine XF.thenR ?_
   refine XF.blkR ?_
   refine XF.thenR ?_
   refine XF.res (res1 Try.results14 rfl) ?_
   exact ⟨rbool (r_false hr (fun h => by rw [hr2.2 h.2] at hc81; cases hc81)), hS.below⟩
  ·have hc81 := hc; clear hc
   refine skipF ?_
   refine XF.blkN ?_
   refine XF.thenN ?_
   refine regF ?_
   refine op_move rfl rfl ?_
   refine op_add rfl rfl (IntWalk.i64_in _ (by omega)) rfl ?_
   refine op_assign rfl rfl ?_
   refine endF ?_
   exact XF.round 0 [(2, _), (3, _), (6, _)] (by omega) ⟨rfl, rfl, rfl, trivial⟩ (.inr (.inr ⟨rfl, rfl, hq1, by simpa using hc81, hS.clear⟩))
 ·skip
  refine seqF ?_
  refine seqF (regF ?_)
  refine op_move rfl rfl ?_
  refine op_field (o' := 5) fa_45_4 rfl rfl rfl ?_
  refine op_load Try.isAgg43 rfl (cell_own (hS.at_ 1 rfl) rfl) rfl ?_
  refine op_len Try.underlying43 rfl rfl ?_
  refine op_lss rfl rfl rfl ?_
  refine endF (XF.thenN ?_)
  refine condF rfl (fun hc => absurd (of_decide_eq_true hc) (by omega)) (fun hc => ?_)
  have hc := of_decide_eq_false hc
  refine exitF ?_
  refine XF.thenX ?_
  refine XF.thenX ?_
  refine XF.blkX ?_
  refine XF.thenN ?_
  refine seqF (regF ?_)
  refine op_assign rfl rfl ?_
  refine endF (XF.thenN ?_)
  refine retF ?_
  refine XF.res (res1 Try.results14 rfl) ?_
  exact ⟨rbool (r_true hr ⟨hr1.1 hq1, hr2.1 hq2⟩), hS.below⟩
theorem sameW_is {w : World} {S : PS} {f g : WF} {x y : PX} (hx : XIs w S f x) (hy : XIs w S g y) (r : Bool) (hr : r = true ↔ x = y) : Calls Try.prog 14 #[f.val, g.val] w fun e w' => e = .returned (.bool r) ∧ Below w.heap.size w w' := by
 classical
 cases S <;> cases x <;> cases y <;> first | exact hx.elim | exact hy.elim | skip
 ·exact sameW_plain hx hy r (by rw [hr]; simp)
 ·obtain ⟨ra, ca, rc, cc, pc, fb, fo, f1, f2, rfl, h6, h7, h8, h9⟩ := hx.two
  obtain ⟨ra', ca', rc', cc', pc', gb, go, g1, g2, rfl, h6', h7', h8', h9'⟩ := hy.two
  exact sameW_two _ _ _ _ _ _ _ _ _ _ _ _ _ _ _ _ _ _ _ _ _ _ _ _ _ _ w h6 h7 h6' h7' h8 h9 h8' h9' r (decide _) (decide _) (by rw [hr]; simp) decide_eq_true_iff decide_eq_true_iff
end Go.Proofs.Ytpkcaabbcoiiiaa
namespace Go.Proofs.Ytpkcaabbcoiiiaa
open Go Go.RowKit
theorem frow2 {W : World} {B : Nat} {T : TypeId} {f g : WF} (h : W.heap[B]? = some (.cells (List.toArray (f.six ++ g.six)) T (0, 0))) : FRow W (some ⟨B, 0, none⟩) [f, g] :=
 .inr ⟨B, 0, rfl, fun i k hi => by
  match i, hi with
  | 0, hi => simp at hi; subst hi; exact W6.of_cells (CellsAt.own (j := 0) (m := 6) h rfl)
  | 1, hi => simp at hi; subst hi; exact W6.of_cells (CellsAt.own (j := 6) (m := 6) h rfl)⟩
end Go.Proofs.Ytpkcaabbcoiiiaa
namespace Go.Proofs.Ytpkcaabbcoiiiaa
open Go.RowKit
set_option linter.unusedSimpArgs false
def pc : Nat → Nat → Nat
 | 0, _ => 0
 | n + 1, f => pc n f + (if f.testBit n then 1 else 0)
end Go.Proofs.Ytpkcaabbcoiiiaa
namespace Go.Proofs.Ytpkcaabbcoiiiaa
open Go Go.RowKit
theorem spaceR_ok {S : PS} {sf : SF} {w : World} (hs : SIs w S sf) (hok : S.ok) : Calls Try.prog 34 #[sf.val] w fun e w' => e = .returned (.int .i64 0) ∧ Below w.heap.size w w' := by
 obtain ⟨s, rfl, h, he⟩ := SIs.sin hs hok
 exact spaceR_is 2 s 0 w h he
end Go.Proofs.Ytpkcaabbcoiiiaa
namespace Go.Proofs.Ytpkcaabbcoiiiaa
open Go.RowKit
attribute [local go_sem ↓] Go.wp_at_zero Go.wp_at_succ
theorem isA_genY {w : World} {ds da : Nat} {s : SV} {x : WV} (hs : SIn w ds s) (hse : spaceE s = 0) (hx : WIn w da x) :
  Calls Try.prog 100 #[s.f.val, x.f.val] w fun e w' => e = .returned (.bool (okW s x)) ∧ Below w.heap.size w w' := by
 match ds, da, s, x, hs, hx with
 | ds + 1, da + 1, .mk f ps, .mk g qs, hs, hx =>
  by_cases hp : plainB f.tag f.dim f.len = true
  ·refine isA_plainY f.tag f.dim f.a f.len f.cap g hp (Nat.zero_le _) w hx.1 _ ?_
   unfold okW; exact (if_pos hp).symm
  ·have hse' : (if plainB f.tag f.dim f.len = true then (0 : Int) else if f.tag = 5 ∧ f.dim = 0 ∧ ps.length = 2 ∧ ps.all SV.pl = true then 0 else 50) = 0 := hse
   rw [if_neg hp] at hse'
   split at hse'
   ·rename_i hq
    obtain ⟨h5, h0, h2, hall⟩ := hq
    obtain ⟨t, n, a, l, c⟩ := f
    dsimp only at h5 h0 hp
    subst h5; subst h0
    obtain ⟨p, q, rfl⟩ := two_of h2
    have hl : 2 = l := hs.1
    subst hl
    simp only [List.all_cons, List.all_nil, Bool.and_true, Bool.and_eq_true] at hall
    refine isA_pairY ds a c p q g qs w hs hall.1 hall.2 da hx (fun _ _ => Nat.zero_le _) _ ?_
    unfold okW; exact (if_neg hp).symm
   ·cases hse'
end Go.Proofs.Ytpkcaabbcoiiiaa
namespace Go.Proofs.Ytpkcaabbcoiiiaa
open Go Go.RowKit
structure RV where
 p : Int
 g : Int
 q : Int
 wa : Option Addr
 wl : Nat
 wc : Nat
 ws : List Int
 x : WV
abbrev RV.val (r : RV) : Value := .agg #[.int .i64 r.p, .int .i64 r.g, .int .i64 r.q, .slice r.wa r.wl r.wc, .bool r.x.f.z, .int .i64 r.x.f.c, .int .u64 (r.x.f.g : Int), .slice r.x.f.ra r.x.f.rl r.x.f.rc, .slice r.x.f.ca r.x.f.cl r.x.f.cc, .slice r.x.f.pa r.x.f.pl r.x.f.pc]
abbrev RV.ten (r : RV) : List Value := [.int .i64 r.p, .int .i64 r.g, .int .i64 r.q, .slice r.wa r.wl r.wc, .bool r.x.f.z, .int .i64 r.x.f.c, .int .u64 (r.x.f.g : Int), .slice r.x.f.ra r.x.f.rl r.x.f.rc, .slice r.x.f.ca r.x.f.cl r.x.f.cc, .slice r.x.f.pa r.x.f.pl r.x.f.pc]
structure RIn (w : World) (d : Nat) (r : RV) : Prop where
 row : Row w r.wa r.ws
 len : r.ws.length = r.wl
 x : WIn w d r.x
def RRow (w : World) (a : Option Addr) (rs : List RV) : Prop :=
 rs = [] ∨ ∃ b off, a = some ⟨b, off, none⟩ ∧ ∀ (i : Nat) r, rs[i]? = some r → CellsAt w b (off + i * 10) r.ten
structure PV where
 s : SV
 st : Int
 sy : Int
 ra : Option Addr
 rl : Nat
 rc : Nat
 rs : List RV
abbrev PV.val (p : PV) : Value := .agg #[.int .i64 p.s.f.tag, .int .i64 p.s.f.dim, .slice p.s.f.a p.s.f.len p.s.f.cap, .int .i64 p.st, .int .i64 p.sy, .slice p.ra p.rl p.rc]
abbrev PV.six (p : PV) : List Value := [.int .i64 p.s.f.tag, .int .i64 p.s.f.dim, .slice p.s.f.a p.s.f.len p.s.f.cap, .int .i64 p.st, .int .i64 p.sy, .slice p.ra p.rl p.rc]
structure PvIn (w : World) (ds d : Nat) (p : PV) : Prop where
 s : SIn w ds p.s
 row : RRow w p.ra p.rs
 len : p.rs.length = p.rl
 rin : ∀ r ∈ p.rs, RIn w d r
theorem RIn.below {w w' : World} {d : Nat} {r : RV} (h : RIn w d r) (hb : Below w.heap.size w w') : RIn w' d r := ⟨h.row.below hb, h.len, WIn.below hb h.x⟩
theorem RRow.at_ {w : World} {a : Option Addr} {rs : List RV} (h : RRow w a rs) {i : Nat} {r : RV} (hi : rs[i]? = some r) : ∃ b off, a = some ⟨b, off, none⟩ ∧ CellsAt w b (off + i * 10) r.ten := by
 rcases h with rfl | ⟨b, off, ha, hc⟩
 ·simp at hi
 ·exact ⟨b, off, ha, hc i r hi⟩
theorem RRow.below {w w' : World} {a : Option Addr} {rs : List RV} (h : RRow w a rs) (hb : Below w.heap.size w w') : RRow w' a rs := by
 rcases h with h | ⟨b, off, rfl, hc⟩
 ·exact .inl h
 ·exact .inr ⟨b, off, rfl, fun i r hi => CellsAt.agree (below_agree hb 0) (Nat.zero_le _) (hc i r hi)⟩
theorem PvIn.below {w w' : World} {ds d : Nat} {p : PV} (h : PvIn w ds d p) (hb : Below w.heap.size w w') : PvIn w' ds d p := ⟨SIn.below hb h.s, h.row.below hb, h.len, fun r hr => (h.rin r hr).below hb⟩
theorem Row.at1 {w : World} {a : Option Addr} {zs : List Int} (h : Row w a zs) {i : Nat} (hi : i < zs.length) : ∃ b off y, a = some ⟨b, off, none⟩ ∧ zs[i]? = some y ∧ w.cell? ⟨b, off + i * 1, none⟩ = some (.int .i64 y) := by
 rcases h with rfl | ⟨b, off, ha, hc⟩
 ·simp at hi
 ·refine ⟨b, off, zs[i], ha, by simp [hi], ?_⟩
  rw [Nat.mul_one]
  have := hc i hi
  rw [this]; simp [List.getD, List.getElem?_eq_getElem hi]
def inQ (x n : Int) : Bool := decide (0 ≤ x) && decide (x < n)
def ruleB (st sy : Int) (r : RV) : Bool := inQ r.p st && (inQ r.q st && (inQ r.g sy && (decide (r.wl ≤ 4096) && r.ws.all (fun y => inQ y sy))))
def wtE (s : SV) : List RV → Int
 | [] => 0
 | r :: rs => if chkW s r.x = 0 then wtE s rs else chkW s r.x
theorem wtE_at {s : SV} : ∀ {rs : List RV} {i : Nat} {r : RV}, rs[i]? = some r → (rs.take i).all (fun r => decide (chkW s r.x = 0)) = true → chkW s r.x ≠ 0 → wtE s rs = chkW s r.x
 | [], _, _, h, _, _ => by simp at h
 | a :: rs, 0, r, h, _, hn => by
  simp at h; subst h
  unfold wtE; rw [if_neg hn]
 | a :: rs, i + 1, r, h, ha, hn => by
  simp only [List.take_succ_cons, List.all_cons, Bool.and_eq_true, decide_eq_true_eq] at ha
  unfold wtE; rw [if_pos ha.1]
  exact wtE_at (by simpa using h) ha.2 hn
theorem wtE_all {s : SV} : ∀ {rs : List RV}, rs.all (fun r => decide (chkW s r.x = 0)) = true → wtE s rs = 0
 | [], _ => rfl
 | a :: rs, h => by
  simp only [List.all_cons, Bool.and_eq_true, decide_eq_true_eq] at h
  unfold wtE; rw [if_pos h.1]
  exact wtE_all h.2
def pdsE (p : PV) : Int :=
 if spaceE p.s ≠ 0 then spaceE p.s else if 16384 < p.rl then 3 else if p.st < 0 ∨ 4096 < p.st ∨ p.sy < 0 ∨ 4096 < p.sy then 110 else if p.rs.all (ruleB p.st p.sy) then wtE p.s p.rs else 110
end Go.Proofs.Ytpkcaabbcoiiiaa
