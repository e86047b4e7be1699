/-
  THE FACTS LAYER: the iterator over the facts of a set; made of both.
-/
import Derived.Test.YtdaijibkafepcaaDoorFactsCanonA
import Derived.Test.YtdaijibkafepcaaDoorTabC
namespace Go.Proofs.YtdaijibkafepcaaDoor
open Go.RowKit Go.Shelf
set_option linter.unusedVariables false

def NextOf (rest : List Nat) (r : Int) (b : Bool) : Prop := (rest = [] ∧ r = 0 ∧ b = false) ∨ (∃ x l, rest = x :: l ∧ r = (x : Int) ∧ b = true)
theorem mem_of_bit {s j : Nat} (hj : j < 64) (h : s.testBit j = true) : j ∈ mem s := by
  unfold mem
  rw [List.mem_filter]
  exact ⟨List.mem_range.2 hj, h⟩
theorem mem_sorted (s : Nat) : (mem s).Pairwise (· < ·) := List.Pairwise.filter _ List.pairwise_lt_range
theorem next_rest {s : Nat} {pre rest : List Nat} {i r : Int} {b : Bool} (hm : mem s = pre ++ rest) (hp : ∀ p ∈ pre, (p : Int) < i) (hr : ∀ q ∈ rest, i ≤ (q : Int)) (h : IsNext s i r b) : NextOf rest r b := by
  have hs := mem_sorted s
  rw [hm, List.pairwise_append] at hs
  cases rest with
  | nil =>
    have : IsNext s i 0 false := .inr ⟨rfl, rfl, fun j hj hij => by
      cases hb : s.testBit j
      · rfl
      · have := mem_of_bit hj hb
        rw [hm, List.append_nil] at this
        have := hp j this
        omega⟩
    obtain ⟨e1, e2⟩ := isNext_uniq h this
    exact .inl ⟨rfl, e1, e2⟩
  | cons y l =>
    have hy : y ∈ mem s := by rw [hm]; simp
    have hyl : ∀ q ∈ l, y < q := fun q hq => (List.pairwise_cons.1 hs.2.1).1 q hq
    have : IsNext s i y true := .inl ⟨rfl, y, rfl, mem_lt hy, hr y (by simp), mem_bit hy, fun j hj hij => by
      cases hb : s.testBit j
      · rfl
      · have hj64 := mem_lt hy
        have := mem_of_bit (by omega) hb
        rw [hm, List.mem_append, List.mem_cons] at this
        rcases this with h1 | h1 | h1
        · have := hp j h1; omega
        · omega
        · have := hyl j h1; omega⟩
    obtain ⟨e1, e2⟩ := isNext_uniq h this
    exact .inr ⟨y, l, rfl, e1, e2⟩
theorem next_step {s : Nat} {pre l : List Nat} {x : Nat} (hm : mem s = pre ++ x :: l) {r : Int} {b : Bool} (h : IsNext s ((x : Int) + 1) r b) : NextOf l r b := by
  have hs := mem_sorted s
  rw [hm, List.pairwise_append] at hs
  refine next_rest (pre := pre ++ [x]) (by rw [hm]; simp) (fun p hp => ?_) (fun q hq => ?_) h
  · rw [List.mem_append, List.mem_singleton] at hp
    rcases hp with hp | rfl
    · have := hs.2.2 p hp x (by simp); omega
    · omega
  · have := (List.pairwise_cons.1 hs.2.1).1 q hq
    omega
def boolOf : Value → Bool
  | .bool b => b
  | _ => false
section iter
attribute [local go_sem] Oper.semAt_some
set_option maxRecDepth 100000 in
set_option maxHeartbeats 1000000 in
theorem fmembers1 (n : Nat) (hn : 1 ≤ n) (l B s : Nat) (hs : s < 18446744073709551616) (J : List Nat → World → Prop) (hA : Abide B J) (hT : ∀ pre X, J pre X → TabC X)
    (hY : ∀ (pre : List Nat) (x : Nat) (rest : List Nat) X, mem s = pre ++ x :: rest → J pre X → YieldAt Fence.wide (n - 1) Tryd.prog l #[.int .i64 x] X fun e X' => e = .returned (.bool true) ∧ J (pre ++ [x]) X' ∧ X'.heap[B]? = X.heap[B]?)
    (W : World) (hB : Boxed W B 23 (.int .u64 s)) (h0 : J [] W) :
    CallsIn Fence.wide n Tryd.prog 93 #[.func (.yield l) #[] #[], .pointer (some ⟨B, 0, none⟩)] W fun e W' => (∃ v, e = .returned v) ∧ J (mem s) W' := by
  have HY := Lib.hid hY
  have HJ0 := Lib.hid h0
  have HB0 := Lib.hid hB
  have hc0 := hB.cell
  obtain ⟨r0, b0, hn0⟩ := isNext_ex s 0
  have HN0 := Lib.hid hn0
  have HNR := Lib.hid (next_rest (pre := []) (rest := mem s) rfl (by simp) (fun q _ => by omega) hn0)
  clear hY h0 hB hn0
  refine callsIn_of_wp Tryd.func93 rfl trivial ?_ rfl
  simp only [Tryd.ntmps93, List.size_toArray, List.length_cons, List.length_nil, Nat.reduceAdd, Nat.reduceSub, Array.replicate_succ, Array.replicate_zero, List.push_toArray, List.append_toArray, List.nil_append, List.cons_append]
  gi_wp2_with (refine ⟨trivial, ?_⟩; gi_at_call 22; refine (callsIn_wide.2 (nextC_is s 0 r0 b0 HN0.out hs _ (hT _ _ HJ0.out))).mono ?_; rintro e w' ⟨rfl, rfl⟩)
  gi_loopw [3, 4] (fun i ok wr => ∃ (pre rest : List Nat) (r : Int) (b : Bool), i = .int .i64 r ∧ ok = .bool b ∧ Hid (mem s = pre ++ rest) ∧ Hid (NextOf rest r b) ∧ Hid (Boxed wr B 23 (.int .u64 s)) ∧ Hid (J pre wr))
    (fun i ok _ => if boolOf ok = true then 65 - (intOf i).toNat else 0)
  case atStart => exact ⟨[], mem s, r0, b0, rfl, rfl, rfl, HNR.out, HB0.out, HJ0.out⟩
  case round =>
    obtain ⟨pre, rest, r, b, rfl, rfl, hm, hnx, hb, hJ⟩ := hrel
    have hc := hb.out.cell
    rcases hnx.out with ⟨rfl, rfl, rfl⟩ | ⟨x, tl, rfl, rfl, rfl⟩
    · have hall : Hid (pre = mem s) := by show _ = _; rw [hm.out, List.append_nil]
      gi_wp2
      go_end0
      exact ⟨⟨_, rfl⟩, by rw [← hall.out]; exact hJ.out⟩
    · have hx64 : x < 64 := mem_lt (s := s) (by rw [hm.out]; simp)
      obtain ⟨r2, b2, hn2⟩ := isNext_ex s ((x : Int) + 1)
      have HN2 := Lib.hid hn2
      have HNR2 := Lib.hid (next_step hm.out hn2)
      have hM3 : Hid (mem s = (pre ++ [x]) ++ tl) := by show _ = _; rw [hm.out]; simp
      obtain ⟨fn, tmps, assign, body, hy, hR⟩ := HY.out pre x tl wr hm.out hJ.out
      have hmx : Hid (∀ y l2, tl = y :: l2 → x < y) := fun y l2 e => by
        have hs := mem_sorted s
        rw [hm.out, List.pairwise_append] at hs
        exact (List.pairwise_cons.1 hs.2.1).1 y (by rw [e]; simp)
      clear hn2
      gi_wp2
      refine hR.mono ?_
      rintro e W3 ⟨rfl, hJ3, hk3⟩
      have HB3 : Hid (Boxed W3 B 23 (.int .u64 s)) := hk3.trans hb.out
      have HJ3 := Lib.hid hJ3
      have hc3 := HB3.out.cell
      clear hk3 hJ3
      gi_wp2_with (refine ⟨trivial, ?_⟩; gi_at_call 22; refine (callsIn_wide.2 (nextC_is s ((x : Int) + 1) r2 b2 HN2.out hs _ (hT _ _ HJ3.out))).mono ?_; rintro e w' ⟨rfl, rfl⟩)
      go_roundw
      case rel => exact ⟨pre ++ [x], tl, r2, b2, rfl, rfl, hM3, HNR2, HB3, HJ3⟩
      case measure =>
        rcases HNR2.out with ⟨_, rfl, rfl⟩ | ⟨y, l2, e, rfl, rfl⟩
        · simp [intOf, boolOf]; omega
        · have := hmx.out y l2 e
          simp [intOf, boolOf]; omega
end iter
theorem fmembers_any (s : Nat) (w : World) :
    Calls Tryd.prog 88 #[.int .u64 s] w fun e w' => e = .returned (.func (.func 93) #[] #[.pointer (some ⟨w.heap.size, 0, none⟩)]) ∧ w' = w.alloc (.cells #[.int .u64 s] 23) := by
  go_enter Tryd.func88, Tryd.ntmps88
  go_wp2
  go_ret
  exact ⟨rfl, rfl⟩
theorem fmembers_seq (n : Nat) (hn : 1 ≤ n) (B s : Nat) (hs : s < 18446744073709551616) (w : World) (hB : Boxed w B 23 (.int .u64 s)) :
    SeqCell Fence.wide n Tryd.prog 93 #[.pointer (some ⟨B, 0, none⟩)] (fun x : Nat => #[Value.int .i64 x]) (mem s) B TabC w :=
  fun l J W hW hA hT hY h0 => fmembers1 n hn l B s hs J hA hT hY W (hW.trans hB) h0

def accF (rows : List Nat) (gen : Nat) (l : List Nat) : Nat := l.foldl (fun c i => c ||| rows.getD i 0) gen
def madeF (gen : Nat) (rows : List Nat) (s : Nat) : Nat := accF rows gen (mem s)
theorem accF_snoc (rows : List Nat) (gen : Nat) (l : List Nat) (x : Nat) : accF rows gen (l ++ [x]) = accF rows gen l ||| rows.getD x 0 := by
  unfold accF; rw [List.foldl_append]; rfl
theorem or64 {a b : Nat} (ha : a < 18446744073709551616) (hb : b < 18446744073709551616) : a ||| b < 18446744073709551616 := by
  have e : (18446744073709551616 : Nat) = 2 ^ 64 := rfl
  rw [e] at *; exact Nat.or_lt_two_pow ha hb
theorem accF_lt {rows : List Nat} (hr : ∀ r ∈ rows, r < 18446744073709551616) : ∀ (l : List Nat) (gen : Nat), gen < 18446744073709551616 → accF rows gen l < 18446744073709551616
  | [], gen, h => h
  | x :: l, gen, h => by
    have : rows.getD x 0 < 18446744073709551616 := by
      rw [List.getD_eq_getElem?_getD]
      cases hx : rows[x]? with
      | none => simp
      | some y => exact hr y (List.mem_of_getElem? hx)
    exact accF_lt hr l _ (or64 h this)
theorem madeF_lt {rows : List Nat} {gen s : Nat} (hr : ∀ r ∈ rows, r < 18446744073709551616) (hg : gen < 18446744073709551616) : madeF gen rows s < 18446744073709551616 := accF_lt hr _ _ hg
end Go.Proofs.YtdaijibkafepcaaDoor
