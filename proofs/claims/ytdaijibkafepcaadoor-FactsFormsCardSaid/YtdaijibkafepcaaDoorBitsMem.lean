/-
  THE BITS LAYER: the members of a set, rising; the iterator over them.
-/
import Derived.Test.YtdaijibkafepcaaDoorBitsBase
import Derived.Test.YtdaijibkafepcaaDoorRangeCell
namespace Go.Proofs.YtdaijibkafepcaaDoor
open Go.RowKit Go.Shelf
attribute [local go_sem] Oper.semAt_some
set_option linter.unusedVariables false

def mem (s : Nat) : List Nat := (List.range 64).filter s.testBit
theorem mem_zero : mem 0 = [] := by simp [mem]
theorem mem_cons {s : Nat} (h0 : s ≠ 0) (h : s < 18446744073709551616) : mem s = Lib.ctz 64 s :: mem (s &&& (s - 1)) := by
  obtain ⟨_, _, hk⟩ := low_form s h0 h
  have hb := low_bit h0 h
  have hn := fun {i} => @low_none s h0 h i
  have hc := clear_low h0 h
  generalize Lib.ctz 64 s = k at *
  obtain ⟨m, hm⟩ : ∃ m, 64 = k + (m + 1) := ⟨63 - k, by omega⟩
  unfold mem
  rw [hm, List.range_add, List.filter_append, List.filter_append, List.range_succ_eq_map, List.map_cons, List.filter_cons, List.filter_cons]
  have e1 : ∀ t : Nat → Bool, (∀ i, i < k → t i = false) → (List.range k).filter t = [] := fun t ht => by
    rw [List.filter_eq_nil_iff]
    intro a ha
    rw [ht a (List.mem_range.1 ha)]; simp
  rw [e1 _ (fun i hi => hn hi), e1 _ (fun i hi => by rw [hc, hn hi]; rfl)]
  simp only [Nat.add_zero, hb, if_true, List.nil_append, hc, decide_not]
  simp only [ne_eq, not_true_eq_false, decide_true, Bool.not_true, Bool.and_false]
  congr 1
  apply List.filter_congr
  intro a ha
  simp only [List.mem_map, List.mem_range] at ha
  obtain ⟨b, ⟨c, _, rfl⟩, rfl⟩ := ha
  show s.testBit _ = (s &&& (s - 1)).testBit _
  rw [hc]; simp
theorem mem_lt {s x : Nat} (h : x ∈ mem s) : x < 64 := by
  unfold mem at h
  rw [List.mem_filter] at h
  exact List.mem_range.1 h.1
theorem mem_bit {s x : Nat} (h : x ∈ mem s) : s.testBit x = true := by
  unfold mem at h
  rw [List.mem_filter] at h
  exact h.2
theorem mem_length (s : Nat) : (mem s).length ≤ 64 := by
  unfold mem
  exact Nat.le_trans (List.length_filter_le _ _) (by simp)
theorem mem_count (s : Nat) : (mem s).length = ones s := by rw [ones_pop, ← pop_filter]; rfl

set_option maxRecDepth 100000 in
set_option maxHeartbeats 1000000 in
theorem members1 (n : Nat) (hn : 1 ≤ n) (l B s : Nat) (hs : s < 18446744073709551616) (J : List Nat → World → Prop) (hA : Abide B J) (hT : ∀ pre X, J pre X → Tabs X)
    (hY : ∀ (pre : List Nat) (x : Nat) (rest : List Nat) X, mem s = pre ++ x :: rest → J pre X → YieldAt Fence.wide (n - 1) Tryd.prog l #[.int .i64 x] X fun e X' => e = .returned (.bool true) ∧ J (pre ++ [x]) X' ∧ X'.heap[B]? = X.heap[B]?)
    (W : World) (hB : Boxed W B 23 (.int .u64 s)) (h0 : J [] W) :
    CallsIn Fence.wide n Tryd.prog 83 #[.func (.yield l) #[] #[], .pointer (some ⟨B, 0, none⟩)] W fun e W' => (∃ v, e = .returned v) ∧ J (mem s) W' := by
  have HY := Lib.hid hY
  clear hY
  refine callsIn_of_wp Tryd.func83 rfl trivial ?_ rfl
  simp only [Tryd.ntmps83, List.size_toArray, List.length_cons, List.length_nil, Nat.reduceAdd, Nat.reduceSub, Array.replicate_succ, Array.replicate_zero, List.push_toArray, List.append_toArray, List.nil_append, List.cons_append]
  gi_wp2
  gi_loopw [] (fun wr => ∃ (pre : List Nat) (cur : Nat), mem s = pre ++ mem cur ∧ cur < 18446744073709551616 ∧ Boxed wr B 23 (.int .u64 cur) ∧ J pre wr)
    (fun wr => (intOf ((wr.cell? ⟨B, 0, none⟩).getD (.int .u64 0))).toNat)
  case atStart => exact ⟨[], s, rfl, hs, hB, h0⟩
  case round =>
    obtain ⟨pre, cur, hm, hcur, hb, hJ⟩ := hrel
    have hc := hb.cell
    have hM := Lib.hid hm
    have HJ := Lib.hid hJ
    have HB := Lib.hid hb
    clear hm hJ
    by_cases hz : cur = 0
    · subst hz
      have hall : Hid (pre = mem s) := by show _ = _; rw [hM.out, mem_zero, List.append_nil]
      clear hb
      gi_wp2
      go_end0
      exact ⟨⟨_, rfl⟩, by rw [← hall.out]; exact HJ.out⟩
    · have hne : ((cur : Int) != 0) = true := by simp; omega
      have hcons := mem_cons hz hcur
      obtain ⟨x, hx⟩ : ∃ x, Lib.ctz 64 cur = x := ⟨_, rfl⟩
      obtain ⟨nx, hnx⟩ : ∃ nx, cur &&& (cur - 1) = nx := ⟨_, rfl⟩
      rw [hx, hnx] at hcons
      have hlt : nx < cur := by rw [← hnx]; exact clear_lt hz
      have HX := Lib.hid hx
      have hM2 : Hid (mem s = pre ++ x :: mem nx) := by show _ = _; rw [hM.out, hcons]
      have hM3 : Hid (mem s = (pre ++ [x]) ++ mem nx) := by show _ = _; rw [hM2.out]; simp
      obtain ⟨fn, tmps, assign, body, hy, hR⟩ := HY.out pre x (mem nx) wr hM2.out HJ.out
      have hws : IntKind.u64.wrap ((cur : Int) - 1) = ((cur - 1 : Nat) : Int) := by rw [IntKind.wrap_u64]; omega
      have hand : bits BinOp.and IntKind.u64 (cur : Int) ((cur - 1 : Nat) : Int) = (nx : Int) := by
        rw [u64_and_nat _ _ hcur (by omega), hnx]
      have hsub : ((cur - 1 : Nat) : Int) = (cur : Int) - 1 := by omega
      rw [hsub] at hand
      clear hcons hx hnx hb hws hsub
      gi_wp2_with (refine ⟨trivial, ?_⟩; gi_at_call 64; refine (callsIn_wide.2 (ctz_calls cur hz hcur _ (hT _ _ HJ.out))).mono ?_; rintro e w' ⟨rfl, rfl⟩; rw [HX.out])
      refine hR.mono ?_
      rintro e W3 ⟨rfl, hJ3, hk3⟩
      have hb3 : Boxed W3 B 23 (.int .u64 cur) := hk3.trans HB.out
      have hc3 := hb3.cell
      have hf3 := hb3.frozen
      have HJ3 := Lib.hid hJ3
      have HB3 := Lib.hid hb3
      clear hk3 hJ3 hb3
      gi_wp2
      go_roundw
      case rel => exact ⟨pre ++ [x], nx, hM3.out, by omega, HB3.out.set _, hA.cell _ _ _ HJ3.out⟩
      case measure => 
        have e1 := (HB3.out.set (.int .u64 nx)).cell
        have e2 := HB.out.cell
        simp only [e1, e2, Option.getD_some, intOf]
        omega

theorem members_any (n : Nat) (s : Nat) (w : World) :
    Calls Tryd.prog 63 #[.int .u64 s] w fun e w' => e = .returned (.func (.func 83) #[] #[.pointer (some ⟨w.heap.size, 0, none⟩)]) ∧ w' = w.alloc (.cells #[.int .u64 s] 23) := by
  go_enter Tryd.func63, Tryd.ntmps63
  go_wp2
  go_ret
  exact ⟨rfl, rfl⟩

theorem members_seq (n : Nat) (hn : 1 ≤ n) (B s : Nat) (hs : s < 18446744073709551616) (w : World) (hB : Boxed w B 23 (.int .u64 s)) :
    SeqCell Fence.wide n Tryd.prog 83 #[.pointer (some ⟨B, 0, none⟩)] (fun x : Nat => #[Value.int .i64 x]) (mem s) B Tabs w :=
  fun l J W hW hA hT hY h0 => members1 n hn l B s hs J hA hT hY W (hW.trans hB) h0
end Go.Proofs.YtdaijibkafepcaaDoor
