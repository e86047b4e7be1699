import Derived.Test.YtjcminoaiieckaaGreatDoorRows
import Derived.Lib.LaidTab
import Derived.Lib.ItoaNum
import Derived.Lib.TrailingZeros
import Derived.Stop.LaidErr
import Derived.WalkSmall
import Derived.LaidMore
import Derived.WalkKit
import Derived.Shelf.Spec.TrailingZeros
import Derived.Test.YtjcminoaiieckaaGreatDoorProg
import Derived.Laws.BitsAllLaws
import Derived.Laws.Bits64
import Derived.Lib.Hide
import Derived.Deep.QuietTactic
import Derived.BigQuiet
import Derived.RegionTactic
import Derived.BigRegion
import Derived.Deep.RegionHeld3
import Derived.ChangeAlike
import Derived.RangeFuncNested
import Derived.RangeFuncBound
import Derived.RangeFuncCalls
import Derived.RangeFuncLeaves
import Derived.Shelf.Abstract
import Derived.Shelf.RegionOpen
import Derived.OwnWalkIn
import Derived.TacticsInMore
import Derived.LoopNIn
import Derived.LoopIn
import Derived.Maps.AppendAt
import Derived.Deep.AppendLies
import Derived.Laws.Bits128
import Derived.Below
import Derived.Shelf.Strings.Builder1
import Derived.Shelf.Strings.Builder2
import Derived.Shelf.Strings.OnBuilder
import Derived.Shelf.Strconv.Itoa0
import Derived.Shelf.Strconv.Itoa1
import Derived.Shelf.LaysM
import Derived.Shelf.Strconv.Itoa2
import Derived.Shelf.Strconv.Itoa3
import Derived.Shelf.Strconv.Itoa4
import Derived.Shelf.Strings.Search1
import Derived.Shelf.Strings.Search2
import Derived.Shelf.Strings.Search3
import Derived.Shelf.Strings.Cut
import Derived.Shelf.Strings.Count
import Derived.Shelf.Strings.Shaped
import Derived.Shelf.Strconv.AppendUint10
import Derived.Shelf.Strconv.AppendInt10
import Derived.Shelf.Strconv.AppendIntPublic10
import Derived.Shelf.Unicode.DecodeSlow
import Derived.Lib.OthersKept
import Derived.Laws.IdiomStrings
import Derived.StillTailTactics
import Derived.Deep.RegionLaw
import Derived.Deep.DeepCutAuto
import Derived.Deep.CutRange
import Derived.Deep.RegionWith
import Derived.Laws.Bits64b
import Derived.Lib.SliceRun
import Derived.Laws.OwnMore
import Derived.OwnWalk
set_option linter.unusedVariables false
set_option linter.unusedSimpArgs false
set_option linter.unusedSectionVars false
set_option linter.unnecessarySimpa false
namespace Go.Proofs.YtjcminoaiieckaaGreatDoor
open Go.RowKit
def tab64 : List Int := Lib.deBruijn64tab.map Int.ofNat
structure Tabs (W : World) : Prop where
  pow : Lib.TabIs Tryz.prog W "internal/strconv.uint64pow10" .u64 Lib.pow10Tab
  ctz : Lib.TabIs Tryz.prog W "math/bits.deBruijn64tab" .u8 tab64

theorem gPow : Tryz.prog.globalNamed "internal/strconv.uint64pow10" = some 1 := by kernel_rfl
theorem gCtz : Tryz.prog.globalNamed "math/bits.deBruijn64tab" = some 0 := by kernel_rfl
theorem tPow : (Tryz.prog.globals[1]?).map (·.type) = some 195 := by kernel_rfl
theorem tCtz : (Tryz.prog.globals[0]?).map (·.type) = some 191 := by kernel_rfl
theorem cellsPow : Tryz.prog.cellsOf 195 = 20 := by kernel_rfl
theorem cellsCtz : Tryz.prog.cellsOf 191 = 64 := by kernel_rfl
theorem cells64 : Tryz.prog.cellsOf 26 = 1 := by kernel_rfl
theorem cells8 : Tryz.prog.cellsOf 5 = 1 := by kernel_rfl

theorem var_lt {P : Program} {W : World} {n : String} {g : Nat} {cs : Array Value} (hg : P.globalNamed n = some g) (h : W.var? P n = some cs) : g < W.heap.size := by
  unfold World.var? at h
  simp only [hg, Option.bind_some] at h
  rcases Nat.lt_or_ge g W.heap.size with h' | h'
  · exact h'
  · simp [Array.getElem?_eq_none h'] at h
theorem Tabs.below {W W' : World} (h : Tabs W) (hb : Below W.heap.size W W') : Tabs W' :=
  ⟨var?_below hb gPow (var_lt gPow h.pow) h.pow, var?_below hb gCtz (var_lt gCtz h.ctz) h.ctz⟩

theorem tabs_of {W : World} (h : laidMet Tryz.prog [("math/bits.deBruijn32tab", Rows.laid_math_bits_deBruijn32tab), ("math/bits.deBruijn64tab", Rows.laid_math_bits_deBruijn64tab), ("internal/strconv.uint64pow10", Rows.laid_internal_strconv_uint64pow10)] W) : Tabs W :=
  ⟨Lib.tabIs_of_head (rest := []) gPow tPow Tryz.underlying195 Tryz.underlying26 cells64 cellsPow (show laidMet Tryz.prog (("internal/strconv.uint64pow10", Lib.tabData .u64 Lib.pow10Tab) :: []) W from h.tail.tail),
   Lib.tabIs_of_head (rest := [("internal/strconv.uint64pow10", Rows.laid_internal_strconv_uint64pow10)]) gCtz tCtz Tryz.underlying191 Tryz.underlying5 cells8 cellsCtz (show laidMet Tryz.prog (("math/bits.deBruijn64tab", Lib.tabData .u8 tab64) :: [("internal/strconv.uint64pow10", Rows.laid_internal_strconv_uint64pow10)]) W from h.tail)⟩
end Go.Proofs.YtjcminoaiieckaaGreatDoor
namespace Go.Proofs.YtjcminoaiieckaaGreatDoor
open Go.RowKit
set_option linter.unusedVariables false
theorem tz_core (x k idx : Nat) (w : World) (hx0 : ((x : Int) == 0) = false)
    (key : IntKind.u64.wrap (bits BinOp.and IntKind.u64 (x : Int) (IntKind.u64.wrap (-(x : Int))) * 285870213051353865) / 288230376151711744 = (idx : Int))
    (hi : idx < 64) (hk : k < 64) (hcell : w.cell? ⟨0, idx, none⟩ = some (.int .u8 k)) :
    Calls Tryz.prog 145 #[.int .u64 x] w fun e w' => e = .returned (.int .i64 k) ∧ w = w' := by
  go_enter Tryz.func145, Tryz.ntmps145
  go_wp2_with (simp only [key])
  go_ret
  exact ⟨rfl, rfl⟩
theorem ctz_calls (x : Nat) (hx0 : x ≠ 0) (hx : x < 18446744073709551616) (w : World) (ht : Tabs w) :
    Calls Tryz.prog 145 #[.int .u64 x] w fun e w' => e = .returned (.int .i64 (Lib.ctz 64 x)) ∧ w = w' := by
  obtain ⟨hlow, hk⟩ := Lib.lowest_bit 64 x hx0 hx
  obtain ⟨hi, htab⟩ := Lib.deBruijn64_at _ hk
  have hcell := ht.ctz.cell gCtz _ (by rw [tab64, List.length_map]; exact hi)
  have e : tab64.getD (2 ^ Lib.ctz 64 x * 285870213051353865 % 18446744073709551616 / 288230376151711744) 0 = ((Lib.ctz 64 x : Nat) : Int) := by
    have : tab64.getD (2 ^ Lib.ctz 64 x * 285870213051353865 % 18446744073709551616 / 288230376151711744) 0 = Int.ofNat (Lib.deBruijn64tab.getD (2 ^ Lib.ctz 64 x * 285870213051353865 % 18446744073709551616 / 288230376151711744) 0) := by
      simp only [tab64, List.getD, List.getElem?_map]
      cases Lib.deBruijn64tab[2 ^ Lib.ctz 64 x * 285870213051353865 % 18446744073709551616 / 288230376151711744]? <;> rfl
    rw [this, htab]; rfl
  rw [e] at hcell
  exact tz_core x _ _ w (by simp; omega) (Go.Proofs.tz64_key x _ hx hx0 hlow) hi hk hcell
end Go.Proofs.YtjcminoaiieckaaGreatDoor
namespace Go.Proofs.YtjcminoaiieckaaGreatDoor
theorem low_form (x : Nat) (h0 : x ≠ 0) (h : x < 18446744073709551616) : ∃ m, x = 2 ^ Lib.ctz 64 x * (2 * m + 1) ∧ Lib.ctz 64 x < 64 := by
  have := Lib.ctzFrom_spec 64 x (by omega) h
  unfold Lib.ctz
  rw [if_neg h0]
  exact this
theorem low_bit {x : Nat} (h0 : x ≠ 0) (h : x < 18446744073709551616) : x.testBit (Lib.ctz 64 x) = true := by
  obtain ⟨m, hm, _⟩ := low_form x h0 h
  generalize Lib.ctz 64 x = k at *
  rw [hm, Nat.mul_comm, Nat.testBit_mul_two_pow]
  simp
theorem low_none {x : Nat} (h0 : x ≠ 0) (h : x < 18446744073709551616) {i : Nat} (hi : i < Lib.ctz 64 x) : x.testBit i = false := by
  obtain ⟨m, hm, _⟩ := low_form x h0 h
  generalize Lib.ctz 64 x = k at *
  rw [hm, Nat.mul_comm, Nat.testBit_mul_two_pow]
  simp; omega
theorem clear_low {x : Nat} (h0 : x ≠ 0) (h : x < 18446744073709551616) (i : Nat) : (x &&& (x - 1)).testBit i = (x.testBit i && decide (i ≠ Lib.ctz 64 x)) := by
  obtain ⟨m, hm, _⟩ := low_form x h0 h
  generalize Lib.ctz 64 x = k at *
  have hp : 0 < 2 ^ k := Nat.two_pow_pos k
  have e1 : x - 1 = 2 ^ k * (2 * m) + (2 ^ k - 1) := by
    rw [hm, Nat.mul_add]; omega
  have e2 : x = 2 ^ k * (2 * m + 1) + 0 := by omega
  rw [Nat.testBit_and, e1, Nat.testBit_two_pow_mul_add _ (by omega)]
  rw [e2, Nat.testBit_two_pow_mul_add _ hp]
  by_cases hi : i < k
  · simp [hi]
  · simp only [hi, if_false]
    by_cases he : i = k
    · subst he; simp
    · obtain ⟨j, rfl⟩ : ∃ j, i = k + (j + 1) := ⟨i - k - 1, by omega⟩
      have e3 : k + (j + 1) - k = j + 1 := by omega
      rw [e3, Nat.testBit_succ, Nat.testBit_succ]
      have d1 : (2 * m + 1) / 2 = m := by omega
      have d2 : 2 * m / 2 = m := by omega
      rw [d1, d2]
      simp
theorem clear_lt {x : Nat} (h0 : x ≠ 0) : x &&& (x - 1) < x := Nat.lt_of_le_of_lt Nat.and_le_right (by omega)
end Go.Proofs.YtjcminoaiieckaaGreatDoor
namespace Go.Proofs.YtjcminoaiieckaaGreatDoor
def y1 (b : Nat) : Nat := ((b / 2) &&& 85) + (b &&& 85)
def z1 (b : Nat) : Nat := (y1 b / 4 &&& 51) + (y1 b &&& 51)
def v1 (b : Nat) : Nat := (z1 b / 16 + z1 b) &&& 15
end Go.Proofs.YtjcminoaiieckaaGreatDoor
namespace Go.Proofs.YtjcminoaiieckaaGreatDoor
open Go.RowKit
set_option linter.unusedVariables false
theorem rint {k : IntKind} {a b : Int} (h : a = b) : Ending.returned (.int k a) = .returned (.int k b) := by rw [h]
theorem rbool {a b : Bool} (h : a = b) : Ending.returned (.bool a) = .returned (.bool b) := by rw [h]
theorem rii {k m : IntKind} {a b c d : Int} (h : a = b) (h2 : c = d) : Ending.returned (.tuple #[.int k a, .int m c]) = .returned (.tuple #[.int k b, .int m d]) := by rw [h, h2]

theorem within_is (n a b : Int) (r : Bool) (hr : (decide (a ≤ n) && decide (n ≤ b)) = r) (w : World) : Calls Tryz.prog 181 #[.int .i64 n, .int .i64 a, .int .i64 b] w fun e w' => e = .returned (.bool r) ∧ w = w' := by
  subst hr
  by_cases h1 : a ≤ n
  · by_cases h2 : n ≤ b
    · have H : Hid ((decide (a ≤ n) && decide (n ≤ b)) = true) := by show _ = _; simp [h1, h2]
      rw [H.out]
      go_enter Tryz.func181, Tryz.ntmps181
      go_wp2
      go_ret
      exact ⟨rfl, rfl⟩
    · have H : Hid ((decide (a ≤ n) && decide (n ≤ b)) = false) := by show _ = _; simp [h1, h2]
      rw [H.out]
      go_enter Tryz.func181, Tryz.ntmps181
      go_wp2
      go_ret
      exact ⟨rfl, rfl⟩
  · have H : Hid ((decide (a ≤ n) && decide (n ≤ b)) = false) := by show _ = _; simp [h1]
    rw [H.out]
    go_enter Tryz.func181, Tryz.ntmps181
    go_wp2
    go_ret
    exact ⟨rfl, rfl⟩

theorem pow_le64 {n : Nat} (hn : n ≤ 64) : 2 ^ n ≤ 18446744073709551616 := Nat.pow_le_pow_right (by decide : 1 ≤ 2) hn
theorem pow_lt64 {n : Nat} (hn : n ≤ 63) : 2 ^ n ≤ 9223372036854775808 := Nat.pow_le_pow_right (by decide : 1 ≤ 2) hn
theorem mask_num (n : Nat) (hn : n ≤ 64) : IntKind.u64.wrap (IntKind.u64.wrap ((2 : Int) ^ n) - 1) = ((2 ^ n - 1 : Nat) : Int) := by
  have e : ((2 : Int) ^ n) = ((2 ^ n : Nat) : Int) := by simp
  have h := pow_le64 hn
  have h1 : 1 ≤ 2 ^ n := Nat.one_le_two_pow
  rw [e]
  generalize 2 ^ n = q at *
  rw [IntKind.wrap_u64, IntKind.wrap_u64]
  omega
theorem mask_any (n : Nat) (hn : n ≤ 64) (w : World) : Calls Tryz.prog 182 #[.int .i64 n] w fun e w' => e = .returned (.int .u64 ((2 ^ n - 1 : Nat) : Int)) ∧ w = w' := by
  have H := Lib.hid (mask_num n hn)
  go_enter Tryz.func182, Tryz.ntmps182
  go_wp2
  go_ret
  exact ⟨rint H.out, rfl⟩

theorem worth_step (k : Nat) (hk : k < 63) : IntKind.u64.wrap (((2 ^ k : Nat) : Int) * 2) = ((2 ^ (k + 1) : Nat) : Int) := by
  have h := pow_lt64 (show k + 1 ≤ 63 by omega)
  rw [Nat.pow_succ] at *
  generalize 2 ^ k = q at *
  rw [IntKind.wrap_u64]; omega
theorem worth_any (i : Int) (hi : i ≤ 63) (w : World) : Calls Tryz.prog 69 #[.int .i64 i] w fun e w' => e = .returned (.int .u64 ((2 ^ i.toNat : Nat) : Int)) ∧ w = w' := by
  go_enter Tryz.func69, Tryz.ntmps69
  go_wp2_with fail
  go_loop [0, 3] (fun j v => ∃ (k : Nat) (q : Int), k ≤ i.toNat ∧ q = i - (k : Int) ∧ j = .int .i64 q ∧ ∃ p : Int, v = .int .u64 p ∧ Hid (((2 ^ k : Nat) : Int) = p)) (fun j _ => (intOf j).toNat)
  case atStart => exact ⟨0, i, Nat.zero_le _, by omega, rfl, 1, rfl, rfl⟩
  case round =>
    obtain ⟨k, q, hk, hq, rfl, p, rfl, HP⟩ := hrel
    by_cases hlt : 0 < q
    · have HN : Hid (((2 ^ (k + 1) : Nat) : Int) = IntKind.u64.wrap (p * 2)) := by show _ = _; rw [← HP.out]; exact (worth_step k (by omega)).symm
      have g : IntKind.i64.wrap (q - 1) = q - 1 := by simp [IntKind.wrap, IntKind.signed, IntKind.bits]; omega
      go_wp2
      go_round
      case rel => exact ⟨k + 1, q - 1, by omega, by omega, by congr 1; omega, _, rfl, HN⟩
      case measure => simp [intOf]; omega
    · have HE : Hid (p = ((2 ^ i.toNat : Nat) : Int)) := by show _ = _; rw [← HP.out, show k = i.toNat by omega]
      go_wp2
      go_ret
      exact ⟨rint HE.out, rfl⟩

end Go.Proofs.YtjcminoaiieckaaGreatDoor
namespace Go.Proofs.YtjcminoaiieckaaGreatDoor
open Go.RowKit Go.Shelf
set_option linter.unusedVariables false
structure Abide {α : Type} (B : Nat) (J : List α → World → Prop) : Prop where
  cell : ∀ pre X v, J pre X → J pre (X.setCell ⟨B, 0, none⟩ v)
  drew : ∀ pre X m, J pre X → J pre (X.drewN m)

def SeqCell {α : Type} (F : Fence) (n : Nat) (P : Program) (g : Nat) (lb : Array Value) (encs : α → Array Value) (xs : List α) (B : Nat) (Kw : World → Prop) (w : World) : Prop :=
  ∀ (l : Nat) (J : List α → World → Prop) (W : World), W.heap[B]? = w.heap[B]? → Abide B J → (∀ pre X, J pre X → Kw X) →
    (∀ pre x rest X, xs = pre ++ x :: rest → J pre X → YieldAt F (n - 1) P l (encs x) X fun e X' => e = .returned (.bool true) ∧ J (pre ++ [x]) X' ∧ X'.heap[B]? = X.heap[B]?) →
    J [] W →
    CallsIn F n P g (#[.func (.yield l) #[] #[]] ++ lb) W fun e W' => (∃ v, e = .returned v) ∧ J xs W'

def cellPost {α : Type} (A B : Nat) (I : List α → World → Prop) (ys : List α) (W : World) : Exit → Act → World → Prop
  | .normal, _, W' => KeepsFrom A W W' ∧ W'.heap[B]? = W.heap[B]? ∧ I ys W'
  | _, _, _ => False

variable {F : Fence} {n : Nat} {P : Program}
theorem range_cell {α : Type} {g : Operand} {ps : Array Tmp} {assign body : Code} {Q : Exit → Act → World → Prop} {a : Act} {w : World}
    (hro : F.round = none) (h1 : 1 ≤ n) {gf : Nat} {lb : Array Value} (hg : a.eval g = .func (.func gf) #[] lb) (hFg : F.fn gf) (eg : ∀ args w, (callFunc gf args).run P w = .ok (.enter gf args) w)
    {encs : α → Array Value} {xs : List α} {B : Nat} {Kw : World → Prop} (hB : B < w.heap.size) (hseq : SeqCell F (n - 1) P gf lb encs xs B Kw w) (hps : ∀ x, (encs x).size = ps.size)
    (I : List α → World → Prop) (hI : OwnFrom w.heap.size I) (hA : Abide B I) (hKw : ∀ pre X, I pre X → Kw X) (h0 : I [] w) (a₁ : α → Act)
    (hassign : ∀ (l : Nat) (x : α) (W : World) (K : Act → World → Prop), K (a₁ x) W →
      assign.wpIn (F.inRound l) (n - 1 - 1) P (Exit.then K (fun _ _ _ => False)) { tmps := (ps.zip (encs x)).foldl (fun t (p, v) => t.setIfInBounds p v) a.tmps, defers := [] } W)
    (hbody : ∀ (l : Nat) (pre : List α) (x : α) (rest : List α) (W : World), xs = pre ++ x :: rest → I pre W → body.wpIn (F.inRound l) (n - 1 - 1) P (cellPost w.heap.size B I (pre ++ [x]) W) (a₁ x) W)
    (hdone : ∀ (D : Nat) (W : World), w.heap.size ≤ D → I xs W → W.heap[D]? = some (.deferred (some [])) → Q .normal { a with defers := { target := .collected D, args := #[] } :: a.defers } W) :
    (Code.rangeFunc g ps assign body).wpIn F n P Q a w := by
  refine wpIn_rangeFunc fun fn hfn => ?_
  rw [hro]
  let rec_ : LoopState → Loop := fun st => { state := st, pending := none, fn, tmps := a.tmps, params := ps, assign, body, defers := w.heap.size }
  have hsz0 : (w.alloc (.deferred (some []))).heap.size = w.heap.size + 1 := by simp
  obtain ⟨W1, hW1⟩ : ∃ W1, (w.alloc (.deferred (some []))).alloc (.loop (rec_ .ready)) = W1 := ⟨_, rfl⟩
  have hL1 : W1.heap[w.heap.size + 1]? = some (.loop (rec_ .ready)) := by
    rw [← hW1, ← hsz0]; exact World.alloc_heap_new _ _
  have hK1 : W1.heap[w.heap.size]? = some (.deferred (some [])) := by
    rw [← hW1]; exact (Below.heap_alloc _ _ _ (by simp)).trans (World.alloc_heap_new w _)
  have hI1 : I [] W1 := by
    rw [← hW1]
    exact hI _ _ _ none (hI _ _ _ none h0 (World.grownBy_alloc w _ none) (fun r e => by cases e)) (World.grownBy_alloc _ _ none) (fun r e => by cases e)
  have hB1 : W1.heap[B]? = w.heap[B]? := by
    rw [← hW1]; exact (Below.heap_alloc _ _ _ (by simp; omega)).trans (Below.heap_alloc _ _ _ hB)
  refine ⟨w.heap.size + 1, [{ target := .collected w.heap.size, args := #[] }], W1, { target := .fn (.func gf) lb, args := #[.func (.yield (w.heap.size + 1)) #[] #[]] }, W1, gf,
    #[.func (.yield (w.heap.size + 1)) #[] #[]] ++ lb, W1, ?_, ?_, ?_, ?_, fun _ => h1, ?_⟩
  · rw [← hW1]; exact run_enterLoop_outer _ _ _ _ _
  · simp only [resolve, hg]
    simp [go_sem]
  · intro f' hf'; simp [Target.leads] at hf'; subst hf'; exact hFg
  · simp [invoke, go_sem, eg]
  have other : ∀ (X : World) (v : Value) (k : Nat), B < w.heap.size → w.heap.size ≤ k → (X.setCell ⟨B, 0, none⟩ v).heap[k]? = X.heap[k]? := fun X v k h1 h2 => Below.heap_setCell _ _ _ _ (by show k ≠ B; omega)
  refine (hseq (w.heap.size + 1) (fun pre W => I pre W ∧ W.heap[w.heap.size + 1]? = some (.loop (rec_ .ready)) ∧ W.heap[w.heap.size]? = some (.deferred (some []))) W1 hB1
    ⟨fun pre X v h => ⟨hA.cell _ _ _ h.1, (other X v _ hB (by omega)).trans h.2.1, (other X v _ hB (by omega)).trans h.2.2⟩, fun pre X m h => ⟨hA.drew _ _ _ h.1, h.2.1, h.2.2⟩⟩ (fun pre X h => hKw _ _ h.1) ?_ ⟨hI1, hL1, hK1⟩).mono ?_
  · rintro pre x rest W hx ⟨hi, hl, hk⟩
    have hlt : w.heap.size + 1 < W.heap.size := (Array.getElem?_eq_some_iff.1 hl).1
    have hy := run_yield (P := P) (args := encs x) hl (hps x)
    refine ⟨fn, _, assign, body, hy, roundIn_of_wpIn hfn (hassign _ x W _ ⟨_, run_beginRound hl rfl, ?_⟩)⟩
    have hl2 : (W.putObj (w.heap.size + 1) (.loop (rec_ .busy))).heap[w.heap.size + 1]? = some (.loop (rec_ .busy)) := World.putObj_heap_same hlt
    have hk2 : (W.putObj (w.heap.size + 1) (.loop (rec_ .busy))).heap[w.heap.size]? = some (.deferred (some [])) := (World.putObj_heap_other (by omega)).trans hk
    refine wpIn_mono (hbody _ pre x rest _ hx (hI.putObj _ hi (by omega) hl rfl)) ?_
    rintro e a3 W3 hp
    cases e with
    | normal =>
      obtain ⟨hk3, hb3, hi3⟩ := hp
      have hl3 := hk3.same _ _ (by omega) hl2 rfl
      have hq3 := hk3.same _ _ (Nat.le_refl _) hk2 rfl
      have hr := run_endRound (P := P) none hl3
      refine ⟨_, _, hr, rfl, ⟨hI.putObj _ hi3 (by omega) hl3 rfl, World.putObj_heap_same (Array.getElem?_eq_some_iff.1 hl3).1, (World.putObj_heap_other (by omega)).trans hq3⟩, ?_⟩
      exact (World.putObj_heap_other (by omega)).trans (hb3.trans (World.putObj_heap_other (by omega)))
    | ret => exact hp.elim
    | exit id => exact hp.elim
    | goto t => exact hp.elim
    | panic ch => exact hp.elim
    | outgrown => exact hp.elim
  · rintro e W2 ⟨⟨v, rfl⟩, hi, hl, hk⟩
    exact ⟨none, _, run_endLoop (P := P) hl (by simp [rec_]), hdone _ _ (Nat.le_refl _) (hI.putObj _ hi (by omega) hl rfl) ((World.putObj_heap_other (by omega)).trans hk)⟩
end Go.Proofs.YtjcminoaiieckaaGreatDoor
namespace Go.Proofs.YtjcminoaiieckaaGreatDoor
open Go.RowKit Go.Shelf
attribute [local go_sem] Oper.semAt_some
set_option linter.unusedVariables false
def mem (s : Nat) : List Nat := (List.range 64).filter s.testBit
theorem mem_zero : mem 0 = [] := by simp [mem]
theorem mem_cons {s : Nat} (h0 : s ≠ 0) (h : s < 18446744073709551616) : mem s = Lib.ctz 64 s :: mem (s &&& (s - 1)) := by
  obtain ⟨_, _, hk⟩ := low_form s h0 h
  have hb := low_bit h0 h
  have hn := fun {i} => @low_none s h0 h i
  have hc := clear_low h0 h
  generalize Lib.ctz 64 s = k at *
  obtain ⟨m, hm⟩ : ∃ m, 64 = k + (m + 1) := ⟨63 - k, by omega⟩
  unfold mem
  rw [hm, List.range_add, List.filter_append, List.filter_append, List.range_succ_eq_map, List.map_cons, List.filter_cons, List.filter_cons]
  have e1 : ∀ t : Nat → Bool, (∀ i, i < k → t i = false) → (List.range k).filter t = [] := fun t ht => by
    rw [List.filter_eq_nil_iff]
    intro a ha
    rw [ht a (List.mem_range.1 ha)]; simp
  rw [e1 _ (fun i hi => hn hi), e1 _ (fun i hi => by rw [hc, hn hi]; rfl)]
  simp only [Nat.add_zero, hb, if_true, List.nil_append, hc, decide_not]
  simp only [ne_eq, not_true_eq_false, decide_true, Bool.not_true, Bool.and_false]
  congr 1
  apply List.filter_congr
  intro a ha
  simp only [List.mem_map, List.mem_range] at ha
  obtain ⟨b, ⟨c, _, rfl⟩, rfl⟩ := ha
  show s.testBit _ = (s &&& (s - 1)).testBit _
  rw [hc]; simp
theorem mem_lt {s x : Nat} (h : x ∈ mem s) : x < 64 := by
  unfold mem at h
  rw [List.mem_filter] at h
  exact List.mem_range.1 h.1
theorem mem_bit {s x : Nat} (h : x ∈ mem s) : s.testBit x = true := by
  unfold mem at h
  rw [List.mem_filter] at h
  exact h.2
theorem mem_length (s : Nat) : (mem s).length ≤ 64 := by
  unfold mem
  exact Nat.le_trans (List.length_filter_le _ _) (by simp)
set_option maxRecDepth 100000 in
set_option maxHeartbeats 1000000 in
theorem members1 (n : Nat) (hn : 1 ≤ n) (l B s : Nat) (hs : s < 18446744073709551616) (J : List Nat → World → Prop) (hA : Abide B J) (hT : ∀ pre X, J pre X → Tabs X)
    (hY : ∀ (pre : List Nat) (x : Nat) (rest : List Nat) X, mem s = pre ++ x :: rest → J pre X → YieldAt Fence.wide (n - 1) Tryz.prog l #[.int .i64 x] X fun e X' => e = .returned (.bool true) ∧ J (pre ++ [x]) X' ∧ X'.heap[B]? = X.heap[B]?)
    (W : World) (hB : Boxed W B 26 (.int .u64 s)) (h0 : J [] W) :
    CallsIn Fence.wide n Tryz.prog 166 #[.func (.yield l) #[] #[], .pointer (some ⟨B, 0, none⟩)] W fun e W' => (∃ v, e = .returned v) ∧ J (mem s) W' := by
  have HY := Lib.hid hY
  clear hY
  refine callsIn_of_wp Tryz.func166 rfl trivial ?_ rfl
  simp only [Tryz.ntmps166, List.size_toArray, List.length_cons, List.length_nil, Nat.reduceAdd, Nat.reduceSub, Array.replicate_succ, Array.replicate_zero, List.push_toArray, List.append_toArray, List.nil_append, List.cons_append]
  gi_wp2
  gi_loopw [] (fun wr => ∃ (pre : List Nat) (cur : Nat), mem s = pre ++ mem cur ∧ cur < 18446744073709551616 ∧ Boxed wr B 26 (.int .u64 cur) ∧ J pre wr)
    (fun wr => (intOf ((wr.cell? ⟨B, 0, none⟩).getD (.int .u64 0))).toNat)
  case atStart => exact ⟨[], s, rfl, hs, hB, h0⟩
  case round =>
    obtain ⟨pre, cur, hm, hcur, hb, hJ⟩ := hrel
    have hc := hb.cell
    have hM := Lib.hid hm
    have HJ := Lib.hid hJ
    have HB := Lib.hid hb
    clear hm hJ
    by_cases hz : cur = 0
    · subst hz
      have hall : Hid (pre = mem s) := by show _ = _; rw [hM.out, mem_zero, List.append_nil]
      clear hb
      gi_wp2
      go_end0
      exact ⟨⟨_, rfl⟩, by rw [← hall.out]; exact HJ.out⟩
    · have hne : ((cur : Int) != 0) = true := by simp; omega
      have hcons := mem_cons hz hcur
      obtain ⟨x, hx⟩ : ∃ x, Lib.ctz 64 cur = x := ⟨_, rfl⟩
      obtain ⟨nx, hnx⟩ : ∃ nx, cur &&& (cur - 1) = nx := ⟨_, rfl⟩
      rw [hx, hnx] at hcons
      have hlt : nx < cur := by rw [← hnx]; exact clear_lt hz
      have HX := Lib.hid hx
      have hM2 : Hid (mem s = pre ++ x :: mem nx) := by show _ = _; rw [hM.out, hcons]
      have hM3 : Hid (mem s = (pre ++ [x]) ++ mem nx) := by show _ = _; rw [hM2.out]; simp
      obtain ⟨fn, tmps, assign, body, hy, hR⟩ := HY.out pre x (mem nx) wr hM2.out HJ.out
      have hws : IntKind.u64.wrap ((cur : Int) - 1) = ((cur - 1 : Nat) : Int) := by rw [IntKind.wrap_u64]; omega
      have hand : bits BinOp.and IntKind.u64 (cur : Int) ((cur - 1 : Nat) : Int) = (nx : Int) := by
        rw [u64_and_nat _ _ hcur (by omega), hnx]
      have hsub : ((cur - 1 : Nat) : Int) = (cur : Int) - 1 := by omega
      rw [hsub] at hand
      clear hcons hx hnx hb hws hsub
      gi_wp2_with (refine ⟨trivial, ?_⟩; gi_at_call 145; refine (callsIn_wide.2 (ctz_calls cur hz hcur _ (hT _ _ HJ.out))).mono ?_; rintro e w' ⟨rfl, rfl⟩; rw [HX.out])
      refine hR.mono ?_
      rintro e W3 ⟨rfl, hJ3, hk3⟩
      have hb3 : Boxed W3 B 26 (.int .u64 cur) := hk3.trans HB.out
      have hc3 := hb3.cell
      have hf3 := hb3.frozen
      have HJ3 := Lib.hid hJ3
      have HB3 := Lib.hid hb3
      clear hk3 hJ3 hb3
      gi_wp2
      go_roundw
      case rel => exact ⟨pre ++ [x], nx, hM3.out, by omega, HB3.out.set _, hA.cell _ _ _ HJ3.out⟩
      case measure => 
        have e1 := (HB3.out.set (.int .u64 nx)).cell
        have e2 := HB.out.cell
        simp only [e1, e2, Option.getD_some, intOf]
        omega

theorem members_any (n : Nat) (s : Nat) (w : World) :
    Calls Tryz.prog 146 #[.int .u64 s] w fun e w' => e = .returned (.func (.func 166) #[] #[.pointer (some ⟨w.heap.size, 0, none⟩)]) ∧ w' = w.alloc (.cells #[.int .u64 s] 26) := by
  go_enter Tryz.func146, Tryz.ntmps146
  go_wp2
  go_ret
  exact ⟨rfl, rfl⟩

theorem members_seq (n : Nat) (hn : 1 ≤ n) (B s : Nat) (hs : s < 18446744073709551616) (w : World) (hB : Boxed w B 26 (.int .u64 s)) :
    SeqCell Fence.wide n Tryz.prog 166 #[.pointer (some ⟨B, 0, none⟩)] (fun x : Nat => #[Value.int .i64 x]) (mem s) B Tabs w :=
  fun l J W hW hA hT hY h0 => members1 n hn l B s hs J hA hT hY W (hW.trans hB) h0
end Go.Proofs.YtjcminoaiieckaaGreatDoor
namespace Go.Proofs.YtjcminoaiieckaaGreatDoor
open Go.RowKit Go.Shelf
set_option linter.unusedVariables false
theorem abide_holds {n₀ B C : Nat} {t e : TypeId} {k : List Nat → Nat} {f : List Nat → List Value} {w : World} (hBC : B ≠ C) (hBn : w.heap.size ≤ B) {tB : TypeId} (hte : tB ≠ e) :
    Abide B (fun pre W => (∃ vB, Boxed W B tB vB) ∧ (∃ v, Boxed W C t v ∧ W.ownsRow n₀ e 1 v (k pre) (f pre)) ∧ Below w.heap.size w W) where
  cell := by
    rintro pre X u ⟨⟨vB, hB⟩, ⟨v, hv, hr⟩, hb⟩
    exact ⟨⟨u, hB.set u⟩, ⟨v, hv.other hBC.symm _, hr.kept (grownBy_setCell' X B u) (.inr (hB.not_row hte hr).symm)⟩, hb.setCell (p := ⟨B, 0, none⟩) hBn _⟩
  drew := by
    rintro pre X m ⟨⟨vB, hB⟩, ⟨v, hv, hr⟩, hb⟩
    exact ⟨⟨vB, hB⟩, ⟨v, hv, hr⟩, below_drewN hb m⟩
theorem own_holds {n₀ B C : Nat} {t tB e : TypeId} {k : List Nat → Nat} {f : List Nat → List Value} {w : World} {D : Nat} (hD : w.heap.size ≤ D) :
    OwnFrom D (fun pre W => (∃ vB, Boxed W B tB vB) ∧ (∃ v, Boxed W C t v ∧ W.ownsRow n₀ e 1 v (k pre) (f pre)) ∧ Below w.heap.size w W) := by
  rintro s X Y row ⟨⟨vB, hB⟩, ⟨v, hv, hr⟩, hb⟩ hg hrow
  have ne : ∀ (b : Nat) (tt : TypeId) (u : Value), Boxed X b tt u → some b ≠ row := fun b tt u hbx e' => by
    obtain ⟨_, o, ho, hc⟩ := hrow b e'.symm
    rw [show X.heap[b]? = _ from hbx] at ho; cases ho; cases hc
  refine ⟨⟨vB, hB.kept hg (ne _ _ _ hB)⟩, ⟨v, hv.kept hg (ne _ _ _ hv), hr.kept hg ?_⟩, hb.grown hg hb.size fun k e' => Nat.le_trans hD (hrow k e').1⟩
  rcases hr.2 with ⟨rfl, _⟩ | ⟨g, cap, cur, rfl, _, hgb, _⟩
  · exact .inl rfl
  · refine .inr fun e' => ?_
    obtain ⟨_, o, ho, hc⟩ := hrow g (by simpa [Value.ownBlock] using e'.symm)
    rw [hgb] at ho; cases ho; cases hc

section listA
attribute [local go_sem] Oper.semAt_some
end listA
end Go.Proofs.YtjcminoaiieckaaGreatDoor
namespace Go.Proofs.YtjcminoaiieckaaGreatDoor
open Go.RowKit
set_option linter.unusedVariables false
theorem not_bit (b j : Nat) (hb : b < 18446744073709551616) : (18446744073709551615 - b).testBit j = (decide (j < 64) && !b.testBit j) := by
  have e : 18446744073709551615 - b = 2 ^ 64 - (b + 1) := by omega
  rw [e, Nat.testBit_two_pow_sub_succ (by simpa using hb)]
theorem mask_bit (n j : Nat) : (2 ^ n - 1).testBit j = decide (j < n) := Nat.testBit_two_pow_sub_one n j
theorem mask_lt {n : Nat} (hn : n ≤ 64) : 2 ^ n - 1 < 18446744073709551616 := by have := pow_le64 hn; have := Nat.two_pow_pos n; omega
theorem bit_lt {x j : Nat} (hx : x < 18446744073709551616) (h : x.testBit j = true) : j < 64 := by
  rcases Nat.lt_or_ge j 64 with h1 | h1
  · exact h1
  · rw [Nat.testBit_lt_two_pow (Nat.lt_of_lt_of_le hx (Nat.pow_le_pow_right (by omega : 0 < 2) h1))] at h; cases h

def fullV (n : Int) : Int := if 0 ≤ n ∧ n ≤ 64 then ((2 ^ n.toNat - 1 : Nat) : Int) else 0
def fullE (n : Int) : Int := if 0 ≤ n ∧ n ≤ 64 then 0 else 10
theorem fullA_is (n : Int) (r e0 : Int) (hr : fullV n = r) (he : fullE n = e0) (w : World) : Calls Tryz.prog 163 #[.int .i64 n] w fun e w' => e = .returned (.tuple #[.int .u64 r, .int .i64 e0]) ∧ w = w' := by
  by_cases h : 0 ≤ n ∧ n ≤ 64
  · have HR : Hid (((2 ^ n.toNat - 1 : Nat) : Int) = r) := by show _ = _; rw [← hr, fullV, if_pos h]
    have HE : Hid (0 = e0) := by show _ = _; rw [← he, fullE, if_pos h]
    have hw := Lib.hid (show (decide ((0 : Int) ≤ n) && decide (n ≤ 64)) = true by simp [h.1, h.2])
    obtain ⟨m, rfl⟩ : ∃ m : Nat, n = m := ⟨n.toNat, by omega⟩
    have hm : m ≤ 64 := by omega
    clear hr he h
    go_enter Tryz.func163, Tryz.ntmps163
    go_wp2_with fail
    refine (within_is _ 0 64 true hw.out _).mono ?_
    rintro e w1 ⟨rfl, rfl⟩
    go_wp2_with fail
    refine (mask_any m hm _).mono ?_
    rintro e w1 ⟨rfl, rfl⟩
    go_wp2
    go_ret2
    exact ⟨rii (by simpa using HR.out) HE.out, rfl⟩
  · have HR : Hid (0 = r) := by show _ = _; rw [← hr, fullV, if_neg h]
    have HE : Hid (10 = e0) := by show _ = _; rw [← he, fullE, if_neg h]
    have hw := Lib.hid (show (decide ((0 : Int) ≤ n) && decide (n ≤ 64)) = false by simp; omega)
    clear hr he h
    go_enter Tryz.func163, Tryz.ntmps163
    go_wp2_with fail
    refine (within_is _ 0 64 false hw.out _).mono ?_
    rintro e w1 ⟨rfl, rfl⟩
    go_wp2
    go_ret2
    exact ⟨rii HR.out HE.out, rfl⟩
theorem full_step (k : Nat) (hk : k < 64) : IntKind.u64.wrap (((2 ^ k - 1 : Nat) : Int) + ((2 ^ k : Nat) : Int)) = ((2 ^ (k + 1) - 1 : Nat) : Int) := by
  have h := pow_lt64 (show k ≤ 63 by omega)
  have hp := Nat.two_pow_pos k
  rw [Nat.pow_succ] at *
  generalize 2 ^ k = q at *
  rw [IntKind.wrap_u64]; omega
theorem fullR_is (n : Int) (r e0 : Int) (hr : fullV n = r) (he : fullE n = e0) (w : World) : Calls Tryz.prog 141 #[.int .i64 n] w fun e w' => e = .returned (.tuple #[.int .u64 r, .int .i64 e0]) ∧ w = w' := by
  by_cases h : 0 ≤ n ∧ n ≤ 64
  · have HR : Hid (((2 ^ n.toNat - 1 : Nat) : Int) = r) := by show _ = _; rw [← hr, fullV, if_pos h]
    have HE : Hid (0 = e0) := by show _ = _; rw [← he, fullE, if_pos h]
    obtain ⟨m, rfl⟩ : ∃ m : Nat, n = m := ⟨n.toNat, by omega⟩
    have hm : m ≤ 64 := by omega
    clear hr he h
    go_enter Tryz.func141, Tryz.ntmps141
    go_wp2_with fail
    go_loop [4, 5] (fun s i => ∃ (k : Nat) (p : Int), k ≤ m ∧ i = .int .i64 k ∧ s = .int .u64 p ∧ Hid (((2 ^ k - 1 : Nat) : Int) = p)) (fun _ i => m - (intOf i).toNat)
    case atStart => exact ⟨0, 0, Nat.zero_le _, rfl, rfl, rfl⟩
    case round =>
      obtain ⟨k, p, hk, rfl, rfl, HP⟩ := hrel
      by_cases hlt : k < m
      · have HN : Hid (((2 ^ (k + 1) - 1 : Nat) : Int) = IntKind.u64.wrap (p + ((2 ^ k : Nat) : Int))) := by show _ = _; rw [← HP.out]; exact (full_step k (by omega)).symm
        obtain ⟨q, hq⟩ : ∃ q : Nat, 2 ^ k = q := ⟨_, rfl⟩
        have HQ := Lib.hid hq
        rw [hq] at HN
        clear hq
        go_wp2_with fail
        refine (worth_any k (by omega) _).mono ?_
        rintro e w1 ⟨rfl, rfl⟩
        rw [show (k : Int).toNat = k from rfl, HQ.out]
        go_wp2
        go_round
        case rel => exact ⟨k + 1, _, by omega, by go_num, rfl, HN⟩
        case measure => simp [intOf]; omega
      · have HF : Hid (p = r) := by show _ = _; rw [← HP.out, ← HR.out, show k = m by omega]; rfl
        go_wp2
        go_ret2
        exact ⟨rii HF.out HE.out, rfl⟩
  · have HR : Hid (0 = r) := by show _ = _; rw [← hr, fullV, if_neg h]
    have HE : Hid (10 = e0) := by show _ = _; rw [← he, fullE, if_neg h]
    clear hr he
    by_cases h0 : n < 0
    · clear h
      go_enter Tryz.func141, Tryz.ntmps141
      go_wp2
      go_ret2
      exact ⟨rii HR.out HE.out, rfl⟩
    · have h1 : 64 < n := by omega
      clear h
      go_enter Tryz.func141, Tryz.ntmps141
      go_wp2
      go_ret2
      exact ⟨rii HR.out HE.out, rfl⟩

def IsNext (f : Nat) (i : Int) (r : Int) (b : Bool) : Prop :=
  (b = true ∧ ∃ k : Nat, r = k ∧ k < 64 ∧ i ≤ k ∧ f.testBit k = true ∧ ∀ j : Nat, j < k → i ≤ j → f.testBit j = false) ∨
  (b = false ∧ r = 0 ∧ ∀ j : Nat, j < 64 → i ≤ j → f.testBit j = false)
theorem isNext_ex (f : Nat) (i : Int) : ∃ r b, IsNext f i r b := by
  by_cases h : ∃ k : Nat, k < 64 ∧ i ≤ k ∧ f.testBit k = true
  · have hm : ∀ n : Nat, (∃ k : Nat, k < n ∧ i ≤ k ∧ f.testBit k = true) → ∃ k : Nat, k < n ∧ i ≤ k ∧ f.testBit k = true ∧ ∀ j : Nat, j < k → i ≤ j → f.testBit j = false := by
      intro n
      induction n with
      | zero => rintro ⟨k, hk, _⟩; omega
      | succ n ih =>
        rintro ⟨k, hk, h1, h2⟩
        by_cases hx : ∃ k : Nat, k < n ∧ i ≤ k ∧ f.testBit k = true
        · obtain ⟨q, a, b, c, d⟩ := ih hx
          exact ⟨q, by omega, b, c, d⟩
        · refine ⟨k, hk, h1, h2, fun j hj hi => ?_⟩
          cases hb : f.testBit j
          · rfl
          · exact absurd ⟨j, by omega, hi, hb⟩ hx
    obtain ⟨k, a, b, c, d⟩ := hm 64 h
    exact ⟨k, true, .inl ⟨rfl, k, rfl, a, b, c, d⟩⟩
  · refine ⟨0, false, .inr ⟨rfl, rfl, fun j hj hi => ?_⟩⟩
    cases hb : f.testBit j
    · rfl
    · exact absurd ⟨j, hj, hi, hb⟩ h
theorem isNext_uniq {f : Nat} {i r r' : Int} {b b' : Bool} (h : IsNext f i r b) (h' : IsNext f i r' b') : r = r' ∧ b = b' := by
  rcases h with ⟨rfl, k, rfl, a1, a2, a3, a4⟩ | ⟨rfl, rfl, a⟩
  · rcases h' with ⟨rfl, k', rfl, b1, b2, b3, b4⟩ | ⟨rfl, rfl, b⟩
    · have : k = k' := by
        rcases Nat.lt_trichotomy k k' with h | h | h
        · have := b4 k h a2; rw [a3] at this; cases this
        · exact h
        · have := a4 k' h b2; rw [b3] at this; cases this
      exact ⟨by rw [this], rfl⟩
    · have := b k a1 a2; rw [a3] at this; cases this
  · rcases h' with ⟨rfl, k', rfl, b1, b2, b3, b4⟩ | ⟨rfl, rfl, b⟩
    · have := a k' b1 b2; rw [b3] at this; cases this
    · exact ⟨rfl, rfl⟩
def restN (f m : Nat) : Nat := f &&& (18446744073709551615 - (2 ^ m - 1))
theorem restN_bit (f m : Nat) (hm : m ≤ 64) (hf : f < 18446744073709551616) (j : Nat) : (restN f m).testBit j = (f.testBit j && decide (m ≤ j)) := by
  unfold restN
  rw [Nat.testBit_and, not_bit _ _ (mask_lt hm), mask_bit]
  cases hb : f.testBit j
  · rfl
  · have := bit_lt hf hb
    simp [this]
    by_cases h : m ≤ j
    · simp [h]
    · simp [h]; omega
theorem restN_lt (f m : Nat) (hf : f < 18446744073709551616) : restN f m < 18446744073709551616 := Nat.lt_of_le_of_lt Nat.and_le_left hf
theorem next_of_rest (f : Nat) (i : Int) (m : Nat) (hm : m ≤ 63) (hi : m = i.toNat) (hf : f < 18446744073709551616) (r : Int) (b : Bool) (h : IsNext f i r b) :
    (restN f m = 0 ∧ r = 0 ∧ b = false) ∨ (restN f m ≠ 0 ∧ r = (Lib.ctz 64 (restN f m) : Nat) ∧ b = true) := by
  by_cases h0 : restN f m = 0
  · left
    have : IsNext f i 0 false := .inr ⟨rfl, rfl, fun j hj hij => by
      have := restN_bit f m (by omega) hf j
      rw [h0, Nat.zero_testBit] at this
      cases hb : f.testBit j
      · rfl
      · rw [hb, Bool.true_and] at this
        have h9 := decide_eq_false_iff_not.1 this.symm
        omega⟩
    obtain ⟨e1, e2⟩ := isNext_uniq h this
    exact ⟨h0, e1, e2⟩
  · right
    have hlt := restN_lt f m hf
    have b1 := low_bit h0 hlt
    have b2 := fun {j} => @low_none _ h0 hlt j
    obtain ⟨k, hk⟩ : ∃ k, Lib.ctz 64 (restN f m) = k := ⟨_, rfl⟩
    rw [hk] at b1
    rw [restN_bit f m (by omega) hf] at b1
    simp only [Bool.and_eq_true, decide_eq_true_eq] at b1
    have : IsNext f i k true := .inl ⟨rfl, k, rfl, bit_lt hf b1.1, by omega, b1.1, fun j hj hij => by
      have := b2 (j := j) (by rw [hk]; exact hj)
      rw [restN_bit f m (by omega) hf] at this
      cases hb : f.testBit j
      · rfl
      · rw [hb, Bool.true_and] at this
        have h9 := decide_eq_false_iff_not.1 this
        omega⟩
    obtain ⟨e1, e2⟩ := isNext_uniq h this
    exact ⟨h0, by rw [hk]; exact e1, e2⟩
theorem rib {k : IntKind} {a b : Int} {c d : Bool} (h : a = b) (h2 : c = d) : Ending.returned (.tuple #[.int k a, .bool c]) = .returned (.tuple #[.int k b, .bool d]) := by rw [h, h2]
end Go.Proofs.YtjcminoaiieckaaGreatDoor
namespace Go.Proofs.YtjcminoaiieckaaGreatDoor
open Go.RowKit
set_option linter.unusedVariables false
def VRow (w : World) (a : Option Addr) (vs : List Value) : Prop :=
  vs = [] ∨ ∃ b off, a = some ⟨b, off, none⟩ ∧ ∀ (i : Nat) v, vs[i]? = some v → w.cell? ⟨b, off + i, none⟩ = some v
theorem cell_lt {w : World} {p : Addr} {v : Value} (h : w.cell? p = some v) : p.block < w.heap.size := by
  unfold World.cell? at h
  rcases Nat.lt_or_ge p.block w.heap.size with h' | h'
  · exact h'
  · simp [Array.getElem?_eq_none h'] at h
theorem VRow.below {w w' : World} {a : Option Addr} {vs : List Value} (h : VRow w a vs) (hb : Below w.heap.size w w') : VRow w' a vs := by
  rcases h with h | ⟨b, off, ha, hc⟩
  · exact .inl h
  · exact .inr ⟨b, off, ha, fun i v hi => (hb.cell (p := ⟨b, off + i, none⟩) (cell_lt (hc i v hi))).trans (hc i v hi)⟩
theorem VRow.at_ {w : World} {a : Option Addr} {vs : List Value} (h : VRow w a vs) {i : Nat} (hi : i < vs.length) :
    ∃ b off v, a = some ⟨b, off, none⟩ ∧ vs[i]? = some v ∧ b < w.heap.size ∧ w.cell? ⟨b, off + i, none⟩ = some v := by
  rcases h with h | ⟨b, off, ha, hc⟩
  · subst h; simp at hi
  · have e : vs[i]? = some vs[i] := by simp [hi]
    exact ⟨b, off, vs[i], ha, e, cell_lt (hc i _ e), hc i _ e⟩
theorem VRow.of_own {w : World} {base : Nat} {E : Nat} {v : Value} {n : Nat} {vs : List Value} (h : w.ownsRow base E 1 v n vs) :
    n = vs.length ∧ ∃ a cap, v = .slice a vs.length cap ∧ VRow w a vs ∧ ∀ ad, a = some ad → base ≤ ad.block ∧ ad.block < w.heap.size := by
  have hl := h.1
  have hn : n = vs.length := by omega
  refine ⟨hn, ?_⟩
  rcases h.2 with ⟨rfl, h0⟩ | ⟨g, cap, cur, rfl, hg, hh, hnc, hcm, hcs, ht⟩
  · have : vs = [] := List.length_eq_zero_iff.1 (by omega)
    subst this
    exact ⟨none, 0, rfl, .inl rfl, fun ad e => by cases e⟩
  · subst hn
    refine ⟨some ⟨g, 0, none⟩, cap, rfl, .inr ⟨g, 0, rfl, fun i x hi => ?_⟩, fun ad e => by cases e; exact ⟨hg, (Array.getElem?_eq_some_iff.1 hh).1⟩⟩
    have hi2 : i < vs.length := (List.getElem?_eq_some_iff.1 hi).1
    have c0 := h.cellAt i (by omega)
    rw [Nat.zero_add]
    exact c0.trans hi

theorem ownV_below {w w' : World} {base size n : Nat} {E : Nat} {v : Value} {xs : List Value} (h : w.ownsRow base E size v n xs) (hb : Below w.heap.size w w') : w'.ownsRow base E size v n xs := by
  refine ⟨h.1, ?_⟩
  rcases h.2 with h2 | ⟨g, cap, cur, hv, hg, hh, r⟩
  · exact .inl h2
  · exact .inr ⟨g, cap, cur, hv, hg, by rw [hb.block g (Array.getElem?_eq_some_iff.1 hh).1]; exact hh, r⟩
theorem heapV_new (w : World) (o : Obj) : (w.alloc o).heap[w.heap.size]? = some o := by
  show (w.heap.push o)[w.heap.size]? = some o
  simp
end Go.Proofs.YtjcminoaiieckaaGreatDoor
namespace Go.Proofs
open Go.Shelf
def Tryz.lays156_ren : Go.Shelf.Ren := ⟨fun | 156 => 126 | 165 => 148 | 166 => 149 | 169 => 150 | 240 => 168 | 241 => 169 | 276 => 184 | 277 => 185 | n => n, fun | 31 => 128 | 9 => 9 | 3 => 3 | 4 => 4 | 0 => 0 | 20 => 20 | 72 => 174 | 76 => 119 | 70 => 172 | 37 => 170 | 75 => 118 | 127 => 192 | 164 => 210 | 5 => 5 | 80 => 176 | n => n, fun | n => n⟩
theorem Tryz.lays156 : Go.Proofs.Lays.n156 Tryz.prog Tryz.lays156_ren := {
  mixed := by kernel_rfl
  f156 := Tryz.func126.trans (congrArg some (by kernel_rfl))
  f165 := Tryz.func148.trans (congrArg some (by kernel_rfl))
  f166 := Tryz.func149.trans (congrArg some (by kernel_rfl))
  f169 := Tryz.func150.trans (congrArg some (by kernel_rfl))
  f240 := Tryz.func168.trans (congrArg some (by kernel_rfl))
  f241 := Tryz.func169.trans (congrArg some (by kernel_rfl))
  f276 := Tryz.func184.trans (congrArg some (by kernel_rfl))
  f277 := Tryz.func185.trans (congrArg some (by kernel_rfl))
  t0 := Tryz.underlying0
  a0 := Tryz.isAgg0
  z0 := Tryz.sizeOf0
  v0 := Tryz.zeroValue0
  t3 := Tryz.underlying3
  a3 := Tryz.isAgg3
  z3 := Tryz.sizeOf3
  v3 := Tryz.zeroValue3
  t4 := Tryz.underlying4
  a4 := Tryz.isAgg4
  z4 := Tryz.sizeOf4
  v4 := Tryz.zeroValue4
  t9 := Tryz.underlying9
  a9 := Tryz.isAgg9
  z9 := Tryz.sizeOf9
  v9 := Tryz.zeroValue9
  t20 := Tryz.underlying20
  a20 := Tryz.isAgg20
  z20 := Tryz.sizeOf20
  v20 := Tryz.zeroValue20
  t31 := Tryz.underlying128
  a31 := Tryz.isAgg128
  z31 := Tryz.sizeOf128
  v31 := Tryz.zeroValue128
  t37 := Tryz.underlying170
  a37 := Tryz.isAgg170
  z37 := Tryz.sizeOf170
  v37 := Tryz.zeroValue170
  t70 := Tryz.underlying172
  a70 := Tryz.isAgg172
  z70 := Tryz.sizeOf172
  v70 := Tryz.zeroValue172
  t72 := Tryz.underlying174
  a72 := Tryz.isAgg174
  z72 := Tryz.sizeOf174
  v72 := Tryz.zeroValue174
  t75 := Tryz.underlying118
  a75 := Tryz.isAgg118
  z75 := Tryz.sizeOf118
  v75 := Tryz.zeroValue118
  t76 := Tryz.underlying119
  a76 := Tryz.isAgg119
  z76 := Tryz.sizeOf119
  v76 := Tryz.zeroValue119
  t127 := Tryz.underlying192
  a127 := Tryz.isAgg192
  z127 := Tryz.sizeOf192
  v127 := Tryz.zeroValue192
  t164 := Tryz.underlying210
  a164 := Tryz.isAgg210
  z164 := Tryz.sizeOf210
  v164 := Tryz.zeroValue210 }
theorem Tryz.Builder_Extra_156 : Builder.Extra Tryz.prog Tryz.lays156_ren := {
  sizeBuilder := by kernel_rfl
  liesBuilder := by kernel_rfl
  t5 := Tryz.underlying5
  a5 := Tryz.isAgg5
  z5 := Tryz.sizeOf5
  v5 := Tryz.zeroValue5
  infoByte := by kernel_rfl
  cellsByte := by kernel_rfl
  sizeByte := by kernel_rfl
  neB5 := by decide }
open Go.RowKit in
theorem Tryz.strings_Join (bk o c : Nat) (xs : List ByteArray) (sep : ByteArray) (w : World) (hcells : ∀ (j : Nat) x, xs[j]? = some x → w.cell? ⟨bk, o + j, none⟩ = some (.string x)) (hbk : bk < w.heap.size) (hN : xs.length ≤ 140737488355328) (hcap : xs.length ≤ c) (hlen : (Lib.join (xs.map (·.data.toList)) sep.data.toList).length ≤ 140737488355328) :
    Calls Tryz.prog 126 #[.slice (some ⟨bk, o, none⟩) xs.length c, .string sep] w fun e w' => e = .returned (.string ⟨(Lib.join (xs.map (·.data.toList)) sep.data.toList).toArray⟩) ∧ Below w.heap.size w w' := Any.strings_Join Tryz.lays156 Tryz.Builder_Extra_156 bk o c xs sep w hcells hbk hN hcap hlen
def Tryz.laysM246_ren : Go.Shelf.Ren := ⟨fun | 246 => 129 | 283 => 151 | 284 => 152 | 285 => 153 | 286 => 154 | 129 => 171 | 317 => 170 | 318 => 172 | 319 => 173 | 320 => 174 | 337 => 186 | 338 => 145 | n => n, fun | 2 => 2 | 3 => 3 | 9 => 9 | 4 => 4 | 171 => 177 | 0 => 0 | 53 => 26 | 37 => 170 | 5 => 5 | 173 => 179 | 212 => 195 | 51 => 196 | 20 => 20 | 213 => 197 | 46 => 131 | 232 => 221 | 233 => 191 | n => n, fun | 17 => 1 | 18 => 5 | 19 => 0 | n => n⟩
def Tryz.laysM173_ren : Go.Shelf.Ren := ⟨fun | 173 => 93 | 246 => 129 | 283 => 151 | 284 => 152 | 285 => 153 | 286 => 154 | 129 => 171 | 317 => 170 | 318 => 172 | 319 => 173 | 320 => 174 | 337 => 186 | 338 => 145 | n => n, fun | 2 => 2 | 3 => 3 | 9 => 9 | 4 => 4 | 171 => 177 | 0 => 0 | 53 => 26 | 37 => 170 | 5 => 5 | 173 => 179 | 212 => 195 | 51 => 196 | 20 => 20 | 213 => 197 | 46 => 131 | 232 => 221 | 233 => 191 | n => n, fun | 17 => 1 | 18 => 5 | 19 => 0 | n => n⟩
theorem Tryz.laysM173 : Go.Proofs.LaysM.n173 Tryz.prog Tryz.laysM173_ren := {
  mixed := by kernel_rfl
  f129 := Tryz.func171.trans (congrArg some (by kernel_rfl))
  f173 := Tryz.func93.trans (congrArg some (by kernel_rfl))
  f246 := Tryz.func129.trans (congrArg some (by kernel_rfl))
  f283 := Tryz.func151.trans (congrArg some (by kernel_rfl))
  f284 := Tryz.func152.trans (congrArg some (by kernel_rfl))
  f285 := Tryz.func153.trans (congrArg some (by kernel_rfl))
  f286 := Tryz.func154.trans (congrArg some (by kernel_rfl))
  f317 := Tryz.func170.trans (congrArg some (by kernel_rfl))
  f318 := Tryz.func172.trans (congrArg some (by kernel_rfl))
  f319 := Tryz.func173.trans (congrArg some (by kernel_rfl))
  f320 := Tryz.func174.trans (congrArg some (by kernel_rfl))
  f337 := Tryz.func186.trans (congrArg some (by kernel_rfl))
  f338 := Tryz.func145.trans (congrArg some (by kernel_rfl))
  t0 := Tryz.underlying0
  a0 := Tryz.isAgg0
  z0 := Tryz.sizeOf0
  v0 := Tryz.zeroValue0
  t2 := Tryz.underlying2
  a2 := Tryz.isAgg2
  z2 := Tryz.sizeOf2
  v2 := Tryz.zeroValue2
  t3 := Tryz.underlying3
  a3 := Tryz.isAgg3
  z3 := Tryz.sizeOf3
  v3 := Tryz.zeroValue3
  t4 := Tryz.underlying4
  a4 := Tryz.isAgg4
  z4 := Tryz.sizeOf4
  v4 := Tryz.zeroValue4
  t5 := Tryz.underlying5
  a5 := Tryz.isAgg5
  z5 := Tryz.sizeOf5
  v5 := Tryz.zeroValue5
  t9 := Tryz.underlying9
  a9 := Tryz.isAgg9
  z9 := Tryz.sizeOf9
  v9 := Tryz.zeroValue9
  t20 := Tryz.underlying20
  a20 := Tryz.isAgg20
  z20 := Tryz.sizeOf20
  v20 := Tryz.zeroValue20
  t37 := Tryz.underlying170
  a37 := Tryz.isAgg170
  z37 := Tryz.sizeOf170
  v37 := Tryz.zeroValue170
  t46 := Tryz.underlying131
  a46 := Tryz.isAgg131
  z46 := Tryz.sizeOf131
  v46 := Tryz.zeroValue131
  t51 := Tryz.underlying196
  a51 := Tryz.isAgg196
  z51 := Tryz.sizeOf196
  v51 := Tryz.zeroValue196
  t53 := Tryz.underlying26
  a53 := Tryz.isAgg26
  z53 := Tryz.sizeOf26
  v53 := Tryz.zeroValue26
  t171 := Tryz.underlying177
  a171 := Tryz.isAgg177
  z171 := Tryz.sizeOf177
  v171 := Tryz.zeroValue177
  t173 := Tryz.underlying179
  a173 := Tryz.isAgg179
  z173 := Tryz.sizeOf179
  v173 := Tryz.zeroValue179
  t212 := Tryz.underlying195
  a212 := Tryz.isAgg195
  z212 := Tryz.sizeOf195
  v212 := Tryz.zeroValue195
  t213 := Tryz.underlying197
  a213 := Tryz.isAgg197
  z213 := Tryz.sizeOf197
  t232 := Tryz.underlying221
  a232 := Tryz.isAgg221
  z232 := Tryz.sizeOf221
  v232 := Tryz.zeroValue221
  t233 := Tryz.underlying191
  a233 := Tryz.isAgg191
  z233 := Tryz.sizeOf191
  v233 := Tryz.zeroValue191
  g17 := by kernel_rfl
  g18 := by kernel_rfl
  g19 := by kernel_rfl
  i0 := by kernel_rfl
  i2 := by kernel_rfl
  i3 := by kernel_rfl
  i4 := by kernel_rfl
  i5 := by kernel_rfl
  i9 := by kernel_rfl
  i20 := by kernel_rfl
  i37 := by kernel_rfl
  i46 := by kernel_rfl
  i51 := by kernel_rfl
  i53 := by kernel_rfl
  i171 := by kernel_rfl
  i173 := by kernel_rfl
  i212 := by kernel_rfl
  i232 := by kernel_rfl
  i233 := by kernel_rfl
  m17 := by kernel_rfl
  m18 := by kernel_rfl
  m19 := by kernel_rfl }
open Go.RowKit Go.Sort Go.Lib in
theorem Tryz.strconv_FormatInt_10 (n : Int) (h0 : -9223372036854775808 ≤ n) (h1 : n ≤ 9223372036854775807) (w : World) (htab : Lib.TabIs Tryz.prog w "internal/strconv.uint64pow10" .u64 Lib.pow10Tab) :
    Calls Tryz.prog 93 #[.int .i64 n, .int .i64 10] w fun e w' => e = .returned (.string ⟨(Lib.itoa n).toArray⟩) ∧ ∃ k os, w' = grow (w.drewN k) os := Any.strconv_FormatInt_10 Tryz.laysM173 n h0 h1 w htab
def Tryz.laysM249_ren : Go.Shelf.Ren := ⟨fun | 249 => 167 | 288 => 183 | 283 => 151 | 284 => 152 | 285 => 153 | 286 => 154 | 129 => 171 | 317 => 170 | 318 => 172 | 319 => 173 | 320 => 174 | 337 => 186 | 338 => 145 | n => n, fun | 37 => 170 | 2 => 2 | 3 => 3 | 53 => 26 | 4 => 4 | 9 => 9 | 171 => 177 | 0 => 0 | 173 => 179 | 212 => 195 | 51 => 196 | 5 => 5 | 20 => 20 | 213 => 197 | 46 => 131 | 232 => 221 | 233 => 191 | n => n, fun | 17 => 1 | 18 => 5 | 19 => 0 | n => n⟩
def Tryz.laysM176_ren : Go.Shelf.Ren := ⟨fun | 176 => 147 | 249 => 167 | 288 => 183 | 283 => 151 | 284 => 152 | 285 => 153 | 286 => 154 | 129 => 171 | 317 => 170 | 318 => 172 | 319 => 173 | 320 => 174 | 337 => 186 | 338 => 145 | n => n, fun | 37 => 170 | 2 => 2 | 3 => 3 | 53 => 26 | 4 => 4 | 9 => 9 | 171 => 177 | 0 => 0 | 173 => 179 | 212 => 195 | 51 => 196 | 5 => 5 | 20 => 20 | 213 => 197 | 46 => 131 | 232 => 221 | 233 => 191 | n => n, fun | 17 => 1 | 18 => 5 | 19 => 0 | n => n⟩
theorem Tryz.laysM176 : Go.Proofs.LaysM.n176 Tryz.prog Tryz.laysM176_ren := {
  mixed := by kernel_rfl
  f129 := Tryz.func171.trans (congrArg some (by kernel_rfl))
  f176 := Tryz.func147.trans (congrArg some (by kernel_rfl))
  f249 := Tryz.func167.trans (congrArg some (by kernel_rfl))
  f283 := Tryz.func151.trans (congrArg some (by kernel_rfl))
  f284 := Tryz.func152.trans (congrArg some (by kernel_rfl))
  f285 := Tryz.func153.trans (congrArg some (by kernel_rfl))
  f286 := Tryz.func154.trans (congrArg some (by kernel_rfl))
  f288 := Tryz.func183.trans (congrArg some (by kernel_rfl))
  f317 := Tryz.func170.trans (congrArg some (by kernel_rfl))
  f318 := Tryz.func172.trans (congrArg some (by kernel_rfl))
  f319 := Tryz.func173.trans (congrArg some (by kernel_rfl))
  f320 := Tryz.func174.trans (congrArg some (by kernel_rfl))
  f337 := Tryz.func186.trans (congrArg some (by kernel_rfl))
  f338 := Tryz.func145.trans (congrArg some (by kernel_rfl))
  t0 := Tryz.underlying0
  a0 := Tryz.isAgg0
  z0 := Tryz.sizeOf0
  v0 := Tryz.zeroValue0
  t2 := Tryz.underlying2
  a2 := Tryz.isAgg2
  z2 := Tryz.sizeOf2
  v2 := Tryz.zeroValue2
  t3 := Tryz.underlying3
  a3 := Tryz.isAgg3
  z3 := Tryz.sizeOf3
  v3 := Tryz.zeroValue3
  t4 := Tryz.underlying4
  a4 := Tryz.isAgg4
  z4 := Tryz.sizeOf4
  v4 := Tryz.zeroValue4
  t5 := Tryz.underlying5
  a5 := Tryz.isAgg5
  z5 := Tryz.sizeOf5
  v5 := Tryz.zeroValue5
  t9 := Tryz.underlying9
  a9 := Tryz.isAgg9
  z9 := Tryz.sizeOf9
  v9 := Tryz.zeroValue9
  t20 := Tryz.underlying20
  a20 := Tryz.isAgg20
  z20 := Tryz.sizeOf20
  v20 := Tryz.zeroValue20
  t37 := Tryz.underlying170
  a37 := Tryz.isAgg170
  z37 := Tryz.sizeOf170
  v37 := Tryz.zeroValue170
  t46 := Tryz.underlying131
  a46 := Tryz.isAgg131
  z46 := Tryz.sizeOf131
  v46 := Tryz.zeroValue131
  t51 := Tryz.underlying196
  a51 := Tryz.isAgg196
  z51 := Tryz.sizeOf196
  v51 := Tryz.zeroValue196
  t53 := Tryz.underlying26
  a53 := Tryz.isAgg26
  z53 := Tryz.sizeOf26
  v53 := Tryz.zeroValue26
  t171 := Tryz.underlying177
  a171 := Tryz.isAgg177
  z171 := Tryz.sizeOf177
  v171 := Tryz.zeroValue177
  t173 := Tryz.underlying179
  a173 := Tryz.isAgg179
  z173 := Tryz.sizeOf179
  v173 := Tryz.zeroValue179
  t212 := Tryz.underlying195
  a212 := Tryz.isAgg195
  z212 := Tryz.sizeOf195
  v212 := Tryz.zeroValue195
  t213 := Tryz.underlying197
  a213 := Tryz.isAgg197
  z213 := Tryz.sizeOf197
  t232 := Tryz.underlying221
  a232 := Tryz.isAgg221
  z232 := Tryz.sizeOf221
  v232 := Tryz.zeroValue221
  t233 := Tryz.underlying191
  a233 := Tryz.isAgg191
  z233 := Tryz.sizeOf191
  v233 := Tryz.zeroValue191
  g17 := by kernel_rfl
  g18 := by kernel_rfl
  g19 := by kernel_rfl
  i0 := by kernel_rfl
  i2 := by kernel_rfl
  i3 := by kernel_rfl
  i4 := by kernel_rfl
  i5 := by kernel_rfl
  i9 := by kernel_rfl
  i20 := by kernel_rfl
  i37 := by kernel_rfl
  i46 := by kernel_rfl
  i51 := by kernel_rfl
  i53 := by kernel_rfl
  i171 := by kernel_rfl
  i173 := by kernel_rfl
  i212 := by kernel_rfl
  i232 := by kernel_rfl
  i233 := by kernel_rfl
  m17 := by kernel_rfl
  m18 := by kernel_rfl
  m19 := by kernel_rfl }
open Go.RowKit Go.Sort Go.Lib in
theorem Tryz.strconv_AppendInt_10 (B n : Nat) (i : Int) (h0 : -9223372036854775808 ≤ i) (h1 : i ≤ 9223372036854775807) (sv : Value) (xs : List Value) (w : World) (hown : w.ownsRow B 5 1 sv n xs) (hBw : B ≤ w.heap.size) (hlim : n + 21 ≤ 140737488355328) (htab : Lib.TabBelow Tryz.prog B w "internal/strconv.uint64pow10" .u64 Lib.pow10Tab) :
    Calls Tryz.prog 147 #[sv, .int .i64 i, .int .i64 10] w fun e w' => ∃ v', e = .returned v' ∧ w'.ownsRow B 5 1 v' (n + (Lib.itoa i).length) (xs ++ Lib.byteCells (Lib.itoa i)) ∧ Below B w w' ∧ Lib.OthersKept 5 none w w' := Any.strconv_AppendInt_10 Tryz.laysM176 B n i h0 h1 sv xs w hown hBw hlim htab
end Go.Proofs
namespace Go.Proofs.YtjcminoaiieckaaGreatDoor
open Go.RowKit Go.Shelf
set_option linter.unusedVariables false
def sepT (acc : List UInt8) : List UInt8 := if acc.isEmpty = true then [] else [44]
def stepT (acc : List UInt8) (x : Nat) : List UInt8 := acc ++ (sepT acc ++ Lib.itoa (x : Int))
def bodyT (l : List Nat) : List UInt8 := l.foldl stepT []
theorem bodyT_snoc (l : List Nat) (x : Nat) : bodyT (l ++ [x]) = bodyT l ++ (sepT (bodyT l) ++ Lib.itoa (x : Int)) := by
  unfold bodyT; rw [List.foldl_append]; rfl
theorem sepT_cons {acc : List UInt8} (h : 0 < acc.length) : sepT acc = [44] := by
  cases acc with
  | nil => simp at h
  | cons a l => rfl
theorem sepT_len (acc : List UInt8) : (sepT acc).length ≤ 1 := by unfold sepT; split <;> simp
theorem itoa_small : ∀ x : Fin 64, 1 ≤ (Lib.itoa ((x.1 : Nat) : Int)).length ∧ (Lib.itoa ((x.1 : Nat) : Int)).length ≤ 2 := by decide +kernel
theorem itoa_len {x : Nat} (h : x < 64) : 1 ≤ (Lib.itoa (x : Int)).length ∧ (Lib.itoa (x : Int)).length ≤ 2 := itoa_small ⟨x, h⟩
def textL (s : Nat) : List UInt8 := 123 :: (bodyT (mem s) ++ [125])
def textB (s : Nat) : ByteArray := ⟨(textL s).toArray⟩
theorem foldT_len : ∀ (l : List Nat) (acc : List UInt8), (∀ x ∈ l, x < 64) → (l.foldl stepT acc).length ≤ acc.length + 3 * l.length ∧ acc.length + l.length ≤ (l.foldl stepT acc).length
  | [], acc, _ => by simp
  | x :: l, acc, h => by
    have ih := foldT_len l (stepT acc x) (fun y hy => h y (by simp [hy]))
    obtain ⟨a, b⟩ := itoa_len (h x (by simp))
    have hs : (stepT acc x).length = acc.length + ((sepT acc).length + (Lib.itoa (x : Int)).length) := by simp [stepT]
    have := sepT_len acc
    simp only [List.foldl_cons, List.length_cons]
    omega
theorem bodyT_len (l : List Nat) (h : ∀ x ∈ l, x < 64) : (bodyT l).length ≤ 3 * l.length ∧ l.length ≤ (bodyT l).length := by
  have := foldT_len l [] h
  simpa [bodyT] using this
theorem infoB : (Tryz.prog.info? 5).map (fun i => (i.zero, i.size, i.bytes)) = some (some (.int .u8 0), 1, 1) := by kernel_rfl
theorem owns_first (w : World) (base : Nat) (h : base ≤ w.heap.size) (b : UInt8) : (w.alloc (.cells #[.int .u8 (b.toNat : Int)] 5)).ownsRow base 5 1 (.slice (some ⟨w.heap.size, 0, none⟩) 1 1) 1 (Lib.byteCells [b]) :=
  ⟨rfl, .inr ⟨w.heap.size, 1, _, rfl, h, heapV_new w _, Nat.le_refl _, by unfold maxLen; omega, rfl, rfl⟩⟩
theorem keeps_others {w w' : World} (hsz : w.heap.size ≤ w'.heap.size) (h : Lib.OthersKept 5 none w w') : KeepsOthers w w' :=
  ⟨hsz, fun k o hk ho => h k o hk (by simp) (fun c fz e => by rw [e] at ho; cases ho)⟩
theorem boxed_others {w w' : World} {b : Nat} {t : TypeId} {v : Value} (hb : Boxed w b t v) (ht : t ≠ 5) (h : Lib.OthersKept 5 none w w') : Boxed w' b t v :=
  h b _ hb (by simp) (fun c fz e => by cases e; exact ht rfl)

theorem addr_add (g j : Nat) : (⟨g, 0, none⟩ : Addr).add j = ⟨g, j, none⟩ := by simp only [Addr.add]; split <;> simp_all
section textA
attribute [local go_sem] Oper.semAt_some
set_option maxRecDepth 100000 in
set_option maxHeartbeats 4000000 in
theorem textA_in (s : Nat) (hs : s < 18446744073709551616) (w : World) (ht : Tabs w) :
    CallsIn Fence.wide 5 Tryz.prog 125 #[.int .u64 s] w fun e W' => e = .returned (.string (textB s)) ∧ Below w.heap.size w W' := by
  obtain ⟨i0, hi, hz0, hz1, hz2⟩ := info_parts infoB
  have hTB : Lib.TabBelow Tryz.prog w.heap.size w "internal/strconv.uint64pow10" .u64 Lib.pow10Tab := Lib.tabBelow_of_tabIs ht.pow
  refine callsIn_of_wp_marks Tryz.func125 rfl trivial ?_ rfl
  simp only [Tryz.ntmps125, List.size_toArray, List.length_cons, List.length_nil, Nat.reduceAdd, Nat.reduceSub, Array.replicate_succ, Array.replicate_zero, List.push_toArray, List.append_toArray, List.nil_append, List.cons_append]
  gi_wp2_with (refine ⟨trivial, ?_⟩; gi_at_call 146; refine (callsIn_wide.2 (members_any 3 s _)).mono ?_; rintro e w' ⟨rfl, rfl⟩)
  have bO := Boxed.new (w.alloc (.cells #[.int .u8 123] 5)) 170 (.slice (some ⟨w.heap.size, 0, none⟩) 1 1)
  have bN := Boxed.new ((w.alloc (.cells #[.int .u8 123] 5)).alloc (.cells #[.slice (some ⟨w.heap.size, 0, none⟩) 1 1] 170)) 26 (.int .u64 s)
  have o0 := ((owns_first w w.heap.size (Nat.le_refl _) 123).alloc (.cells #[.slice (some ⟨w.heap.size, 0, none⟩) 1 1] 170)).alloc (.cells #[.int .u64 s] 26)
  rw [World.size_alloc] at bO
  rw [World.size_alloc, World.size_alloc] at bN
  have hB0 : Below w.heap.size w (((w.alloc (.cells #[.int .u8 123] 5)).alloc (.cells #[.slice (some ⟨w.heap.size, 0, none⟩) 1 1] 170)).alloc (.cells #[.int .u64 s] 26)) := (((Below.refl _ w).alloc (Nat.le_refl _) _).alloc (by simp) _).alloc (by simp; omega) _
  refine range_cell (F := Fence.wide) (n := 5) rfl (by omega) (gf := 166) (lb := #[.pointer (some ⟨w.heap.size + 1 + 1, 0, none⟩)]) (by simp [go_sem]) trivial (enters_of Tryz.func166 (by kernel_rfl) rfl)
    (B := w.heap.size + 1 + 1) (Kw := Tabs) (by simp) (members_seq 4 (by omega) (w.heap.size + 1 + 1) s hs _ bN) (fun _ => rfl)
    (fun pre W => (∃ vB, Boxed W (w.heap.size + 1 + 1) 26 vB) ∧ (∃ v, Boxed W (w.heap.size + 1) 170 v ∧ W.ownsRow w.heap.size 5 1 v (1 + (bodyT pre).length) (Lib.byteCells (123 :: bodyT pre))) ∧ Below w.heap.size w W)
    (own_holds (by simp; omega)) (abide_holds (by omega) (by omega) (by decide)) (fun pre X h => ht.below h.2.2) ⟨⟨_, bN⟩, ⟨_, bO.alloc _, o0⟩, hB0⟩
    (fun x => { tmps := #[.int .u64 s, undef, .string ⟨#[]⟩, .pointer (some ⟨w.heap.size + 1, 0, none⟩), .int .i64 x, .slice (some ⟨w.heap.size, 0, none⟩) 1 1, .int .u64 s, .func (.func 166) #[] #[.pointer (some ⟨w.heap.size + 1 + 1, 0, none⟩)], .int .i64 x, undef, undef, undef, undef, undef, undef, undef, undef, undef, undef, undef, undef, undef], defers := [] }) ?assign ?body ?done
  case assign =>
    intro l x W K hK
    gi_wp2
    exact hK
  case body =>
    rintro l pre x rest W hx ⟨⟨vB, hvB⟩, ⟨v, hv, hrow⟩, hB⟩
    have hx64 : x < 64 := mem_lt (s := s) (by rw [hx]; simp)
    have hpl : (bodyT pre).length ≤ 192 := by
      have h1 := (bodyT_len pre (fun y hy => mem_lt (s := s) (by rw [hx]; simp [hy]))).1
      have h2 := mem_length s
      rw [hx] at h2
      simp at h2; omega
    obtain ⟨p, hp⟩ : ∃ p, (bodyT pre).length = p := ⟨_, rfl⟩
    rw [hp] at hrow hpl
    obtain ⟨n, hn⟩ : ∃ n, 1 + p = n := ⟨_, rfl⟩
    rw [hn] at hrow
    obtain ⟨g, cap, hvv, hvg, hvl⟩ := hrow.form (by omega)
    subst hvv
    have hc := hv.cell
    have hf := hv.frozen
    have hi64 : (Lib.itoa (x : Int)).length ≤ 2 := (itoa_len hx64).2
    have hi1 : 1 ≤ (Lib.itoa (x : Int)).length := (itoa_len hx64).1
    have HX : Hid ((123 : UInt8) :: bodyT (pre ++ [x]) = (123 :: bodyT pre) ++ (sepT (bodyT pre) ++ Lib.itoa (x : Int))) := by show _ = _; rw [bodyT_snoc]; rfl
    have HXL : Hid (1 + (bodyT (pre ++ [x])).length = n + ((sepT (bodyT pre)).length + (Lib.itoa (x : Int)).length)) := by show _ = _; rw [bodyT_snoc]; simp [hp]; omega
    have hx1 : -9223372036854775808 ≤ (x : Int) := by omega
    have hx2 : (x : Int) ≤ 9223372036854775807 := by omega
    by_cases hp0 : p = 0
    · subst hp0
      have hs0 : Hid (sepT (bodyT pre) = []) := by show _ = _; rw [List.length_eq_zero_iff.1 hp]; rfl
      obtain rfl : n = 1 := by omega
      gi_wp2_with (refine ⟨trivial, ?_⟩; gi_at_call 147; go_loud (refine (CallsIn.inRound l (callsIn_wide.2 (Tryz.strconv_AppendInt_10 w.heap.size 1 (x : Int) hx1 hx2 _ _ _ hrow hB.size (by omega) (hTB.on hB)))).mono ?_; rintro e W2 ⟨v2, rfl, hown2, hb2, hk2⟩; obtain ⟨g2, cap2, hv2, _, _⟩ := hown2.form (by omega); subst hv2; have hvC := boxed_others hv (by decide) hk2; have hc2 := hvC.cell; have hf2 := hvC.frozen))
      have hvB2 := (boxed_others hvB (by decide) hk2).other (B' := w.heap.size + 1) (by omega) (.slice (some ⟨g2, 0, none⟩) (1 + (Lib.itoa (x : Int)).length) cap2)
      refine ⟨((keeps_others hb2.size hk2).trans (KeepsOthers.setCell _ _ _)).from _, hvB2.trans hvB.symm, ⟨_, hvB2⟩, ⟨_, hvC.set _, ?_⟩, (hB.trans hb2).setCell (p := ⟨w.heap.size + 1, 0, none⟩) (by simp) _⟩
      rw [HX.out, HXL.out, hs0.out]
      have := hown2.kept (grownBy_setCell' W2 (w.heap.size + 1) (.slice (some ⟨g2, 0, none⟩) (1 + (Lib.itoa (x : Int)).length) cap2)) (.inr (hvC.not_row (by decide) hown2).symm)
      simpa [Lib.byteCells] using this
    · have hs1 : Hid (sepT (bodyT pre) = [44]) := sepT_cons (by omega)
      have hn1 : (1 : Int) < (n : Int) := by omega
      gi_wp2_with (first | (gi_at_builtin; refine wpListIn_append_own _ rfl _ _ 170 rfl w.heap.size 5 i0 (.int .u8 0) 1 1 Tryz.underlying170 hi hz0 hz1 hz2 rfl (by decide) _ _ _ rfl (hrow.alloc _) ⟨W.heap.size, 0, none⟩ 1 1 [.int .u8 44] rfl rfl (cell_one_new _ _ _) (by simp [Value.oneCell']) (by unfold maxLen; omega) (by omega) (by have := hB.size; simp; omega) ?_; intro v' w1 hown' hgrow _; obtain ⟨g', cap', rfl⟩ := ownsRow_succ hown'; obtain ⟨hv1, hv2, hr2, hk1, hb1⟩ := hv.appended (by decide) hrow hB.size (Nat.le_succ _) hown' hgrow; have hvB1 := ((hvB.alloc _).kept hgrow (hvB.not_row (by decide) hrow)).other (B' := w.heap.size + 1) (by omega) (.slice (some ⟨g', 0, none⟩) (n + 1) cap'); have hc1 := hv1.cell; have hf1 := hv1.frozen) | (refine ⟨trivial, ?_⟩; gi_at_call 147; go_loud (refine (CallsIn.inRound l (callsIn_wide.2 (Tryz.strconv_AppendInt_10 w.heap.size (n + 1) (x : Int) hx1 hx2 _ _ _ hr2 (hB.trans hb1).size (by omega) (hTB.on (hB.trans hb1))))).mono ?_; rintro e W2 ⟨v2, rfl, hown2, hb2, hk2⟩; obtain ⟨g2, cap2, hv9, _, _⟩ := hown2.form (by omega); subst hv9; have hvC := boxed_others hv2 (by decide) hk2; have hc2 := hvC.cell; have hf2 := hvC.frozen)))
      have hvB2 := (boxed_others hvB1 (by decide) hk2).other (B' := w.heap.size + 1) (by omega) (.slice (some ⟨g2, 0, none⟩) (n + 1 + (Lib.itoa (x : Int)).length) cap2)
      refine ⟨((hk1.trans (keeps_others hb2.size hk2)).trans (KeepsOthers.setCell _ _ _)).from _, hvB2.trans hvB.symm, ⟨_, hvB2⟩, ⟨_, hvC.set _, ?_⟩, ((hB.trans hb1).trans hb2).setCell (p := ⟨w.heap.size + 1, 0, none⟩) (by simp) _⟩
      rw [HX.out, HXL.out, hs1.out]
      have := hown2.kept (grownBy_setCell' W2 (w.heap.size + 1) (.slice (some ⟨g2, 0, none⟩) (n + 1 + (Lib.itoa (x : Int)).length) cap2)) (.inr (hvC.not_row (by decide) hown2).symm)
      simpa [Lib.byteCells, Nat.add_assoc] using this
  case done =>
    rintro D W hD ⟨⟨vB, hvB⟩, ⟨v, hv, hrow⟩, hB⟩ hK
    have hpl : (bodyT (mem s)).length ≤ 192 := by
      have h1 := (bodyT_len (mem s) (fun y hy => mem_lt hy)).1
      have h2 := mem_length s
      omega
    obtain ⟨n, hn⟩ : ∃ n, 1 + (bodyT (mem s)).length = n := ⟨_, rfl⟩
    have hrow' := hrow
    rw [hn] at hrow
    obtain ⟨g, cap, hvv, hvg, hvl⟩ := hrow.form (by omega)
    subst hvv
    have hc := hv.cell
    have hlen : n + 1 = (textL s).length := by simp [textL]; omega
    have hcells : Lib.byteCells (123 :: bodyT (mem s)) ++ [.int .u8 125] = Lib.byteCells (textL s) := by simp [Lib.byteCells, textL]
    have HLEN := Lib.hid hlen; have HCELLS := Lib.hid hcells
    clear hlen hcells
    gi_wp2_with (gi_at_builtin; go_loud (refine wpListIn_append_own _ rfl _ _ 170 rfl w.heap.size 5 i0 (.int .u8 0) 1 1 Tryz.underlying170 hi hz0 hz1 hz2 rfl (by decide) _ _ _ rfl (hrow.alloc _) ⟨W.heap.size, 0, none⟩ 1 1 [.int .u8 125] rfl rfl (cell_one_new _ _ _) (by simp [Value.oneCell']) (by unfold maxLen; omega) (by omega) (by have := hB.size; simp; omega) ?_; intro v' w1 hown' hgrow _; obtain ⟨g', cap', rfl⟩ := ownsRow_succ hown'; have hconv := run_convert_bytes_back (P := Tryz.prog) w1 170 9 5 ⟨g', 0, none⟩ cap' (textL s) Tryz.underlying170 Tryz.underlying5 Tryz.underlying9 (fun j hj => by have h9 := hown'.cellAt j (by rw [← HLEN.out] at hj; omega); rw [HCELLS.out] at h9; rw [addr_add, h9]; simp [Lib.byteCells, hj])); rw [← HLEN.out] at hconv)
    have hk1 : KeepsOthers W w1 := (KeepsOthers.alloc W _).trans (KeepsOthers.of_grownBy hgrow fun j o ej hj => by
      have ej2 : (Value.slice (some ⟨g, 0, none⟩) n cap).ownBlock = some j := ej
      rcases (hrow.alloc (.cells #[.int .u8 125] 5)).2 with ⟨h9, _⟩ | ⟨g9, cap9, cur9, h9, _, hgb9, _⟩
      · cases h9
      · rw [h9] at ej2
        obtain rfl : g9 = j := by simpa [Value.ownBlock] using ej2
        rw [hgb9] at hj; cases hj; rfl)
    have hB1 : Below w.heap.size w w1 := (hB.alloc hB.size _).grown hgrow (by have := hB.size; simp; omega) (fun j e => (hrow.lt j e).1)
    have hK1 := hk1.same D _ hK rfl
    refine ⟨by simp, .inl ⟨_, _, rfl, run_takeDeferred hK1, ?_⟩⟩
    exact ⟨_, results_tmp rfl _ _ _, rfl, hB1.trans (belowK_b (w := w) (Nat.le_refl _) w1 D _ _ (by simp at hD; omega) hK1 rfl rfl)⟩
end textA
theorem textA_any (s : Nat) (hs : s < 18446744073709551616) (w : World) (ht : Tabs w) :
    Calls Tryz.prog 125 #[.int .u64 s] w fun e W' => e = .returned (.string (textB s)) ∧ Below w.heap.size w W' :=
  callsIn_wide.1 (textA_in s hs w ht)
end Go.Proofs.YtjcminoaiieckaaGreatDoor
namespace Go.Proofs.YtjcminoaiieckaaGreatDoor
open Go.RowKit
set_option linter.unusedVariables false
def u64s (l : List Nat) : List Value := l.map fun r : Nat => Value.int .u64 (r : Int)
theorem u64s_length (l : List Nat) : (u64s l).length = l.length := by simp [u64s]
theorem u64s_snoc (l : List Nat) (x : Nat) : u64s (l ++ [x]) = u64s l ++ [Value.int .u64 (x : Int)] := by simp [u64s]
theorem u64s_at {l : List Nat} {i : Nat} {v : Value} (h : (u64s l)[i]? = some v) : ∃ r, l[i]? = some r ∧ v = .int .u64 (r : Int) := by
  unfold u64s at h
  rw [List.getElem?_map] at h
  cases hr : l[i]? with
  | none => rw [hr] at h; cases h
  | some r => rw [hr] at h; exact ⟨r, rfl, (Option.some.inj h).symm⟩
structure FAt (w : World) (a : Option Addr) (gen : Nat) (rows : List Nat) : Prop where
  row : VRow w a (u64s rows)
  gen : gen < 18446744073709551616
  all : ∀ r ∈ rows, r < 18446744073709551616
  len : rows.length ≤ 100
theorem FAt.below {w w' : World} {a : Option Addr} {gen : Nat} {rows : List Nat} (h : FAt w a gen rows) (hb : Below w.heap.size w w') : FAt w' a gen rows := ⟨h.row.below hb, h.gen, h.all, h.len⟩
theorem FAt.at_ {w : World} {a : Option Addr} {gen : Nat} {rows : List Nat} (h : FAt w a gen rows) {i : Nat} (hi : i < rows.length) :
    ∃ b off r, a = some ⟨b, off, none⟩ ∧ rows[i]? = some r ∧ r < 18446744073709551616 ∧ b < w.heap.size ∧ w.cell? ⟨b, off + i, none⟩ = some (.int .u64 (r : Int)) := by
  obtain ⟨b, off, v, ha, hv, hb, hc⟩ := h.row.at_ (i := i) (by rw [u64s_length]; exact hi)
  obtain ⟨r, hr, rfl⟩ := u64s_at hv
  exact ⟨b, off, r, ha, hr, h.all r (List.mem_of_getElem? hr), hb, hc⟩
def fval (gen : Nat) (a : Option Addr) (len cap : Nat) : Value := .agg #[.int .u64 (gen : Int), .slice a len cap]

def dimB (n : Int) : Bool := decide (0 ≤ n) && decide (n ≤ 64)
theorem dim_is (n : Int) (r : Bool) (hr : dimB n = r) (w : World) : Calls Tryz.prog 107 #[.int .i64 n] w fun e w' => e = .returned (.bool r) ∧ w = w' := by
  subst hr
  by_cases h1 : 0 ≤ n
  · by_cases h2 : n ≤ 64
    · have H : Hid (dimB n = true) := by show _ = _; simp [dimB, h1, h2]
      rw [H.out]
      go_enter Tryz.func107, Tryz.ntmps107
      go_wp2
      go_ret
      exact ⟨rfl, rfl⟩
    · have H : Hid (dimB n = false) := by show _ = _; simp [dimB, h2]
      rw [H.out]
      go_enter Tryz.func107, Tryz.ntmps107
      go_wp2
      go_ret
      exact ⟨rfl, rfl⟩
  · have H : Hid (dimB n = false) := by show _ = _; simp [dimB, h1]
    rw [H.out]
    go_enter Tryz.func107, Tryz.ntmps107
    go_wp2
    go_ret
    exact ⟨rfl, rfl⟩
def insN (m s : Nat) : Bool := restN s m == 0
theorem insN_iff {m s : Nat} (hm : m ≤ 64) (hs : s < 18446744073709551616) : insN m s = true ↔ s < 2 ^ m := by
  unfold insN
  rw [beq_iff_eq]
  constructor
  · intro h
    apply Nat.lt_pow_two_of_testBit
    intro i hi
    have := restN_bit s m hm hs i
    rw [h, Nat.zero_testBit] at this
    cases hb : s.testBit i
    · rfl
    · rw [hb] at this; simp at this; omega
  · intro h
    apply Nat.eq_of_testBit_eq
    intro i
    rw [restN_bit s m hm hs, Nat.zero_testBit]
    by_cases hi : m ≤ i
    · rw [Nat.testBit_lt_two_pow (Nat.lt_of_lt_of_le h (Nat.pow_le_pow_right (by omega) hi))]; rfl
    · simp [hi]
def insI (n : Int) (s : Nat) : Bool := if dimB n = true then insN n.toNat s else s == 0
theorem dim_full {n : Int} (h : dimB n = true) : fullV n = ((2 ^ n.toNat - 1 : Nat) : Int) ∧ fullE n = 0 := by
  simp only [dimB, Bool.and_eq_true, decide_eq_true_eq] at h
  exact ⟨by rw [fullV, if_pos h], by rw [fullE, if_pos h]⟩
theorem dim_full_no {n : Int} (h : dimB n = false) : fullV n = 0 ∧ fullE n = 10 := by
  have : ¬ (0 ≤ n ∧ n ≤ 64) := by intro x; simp [dimB, x.1, x.2] at h
  exact ⟨by rw [fullV, if_neg this], by rw [fullE, if_neg this]⟩
theorem andNot_mask (s m : Nat) (hs : s < 18446744073709551616) (hm : m ≤ 64) : bits BinOp.andNot IntKind.u64 (s : Int) ((2 ^ m - 1 : Nat) : Int) = ((restN s m : Nat) : Int) := u64_andNot_nat s _ hs (mask_lt hm)
theorem dim_nat {n : Int} (h : dimB n = true) : ∃ m : Nat, n = m ∧ m ≤ 64 := by
  simp only [dimB, Bool.and_eq_true, decide_eq_true_eq] at h
  exact ⟨n.toNat, by omega, by omega⟩
theorem andNot_zero (s : Nat) (hs : s < 18446744073709551616) : bits BinOp.andNot IntKind.u64 (s : Int) 0 = (s : Int) := by
  have h := u64_andNot_nat s 0 hs (by decide)
  have e : s &&& (18446744073709551615 - 0) = s := by
    apply Nat.eq_of_testBit_eq
    intro i
    rw [Nat.testBit_and, not_bit 0 i (by decide), Nat.zero_testBit]
    cases hb : s.testBit i
    · rfl
    · simp [bit_lt hs hb]
  rw [e] at h
  exact h
theorem inside_is (n : Int) (s : Nat) (hs : s < 18446744073709551616) (r : Bool) (hr : insI n s = r) (w : World) : Calls Tryz.prog 111 #[.int .i64 n, .int .u64 s] w fun e w' => e = .returned (.bool r) ∧ w = w' := by
  cases hd : dimB n
  · obtain ⟨f1, f2⟩ := dim_full_no hd
    have F1 := Lib.hid f1; have F2 := Lib.hid f2
    have HA := andNot_zero s hs
    have HR : Hid (((s : Int) == 0) = r) := by
      show _ = _
      rw [← hr, insI, hd]
      simp only [Bool.false_eq_true, if_false]
      rw [Bool.eq_iff_iff]; simp
    clear hd f1 f2 hr hs
    go_enter Tryz.func111, Tryz.ntmps111
    go_wp2_with fail
    refine (fullR_is n 0 10 F1.out F2.out _).mono ?_
    rintro e w1 ⟨rfl, rfl⟩
    go_wp2
    go_ret
    exact ⟨rbool HR.out, rfl⟩
  · obtain ⟨m, rfl, hm⟩ := dim_nat hd
    obtain ⟨f1, f2⟩ := dim_full hd
    have F1 := Lib.hid f1; have F2 := Lib.hid f2
    have HA := andNot_mask s m hs hm
    have HR : Hid ((((restN s m : Nat) : Int) == 0) = r) := by
      show _ = _
      rw [← hr, insI, hd, if_pos rfl]
      unfold insN
      rw [Int.toNat_natCast, Bool.eq_iff_iff]; simp
    obtain ⟨q, hq⟩ : ∃ q, restN s m = q := ⟨_, rfl⟩
    rw [hq] at HA HR
    obtain ⟨p, hp⟩ : ∃ p : Nat, 2 ^ m - 1 = p := ⟨_, rfl⟩
    rw [Int.toNat_natCast, hp] at F1
    rw [hp] at HA
    clear hd f1 f2 hr hs hq hp
    go_enter Tryz.func111, Tryz.ntmps111
    go_wp2_with fail
    refine (fullR_is m p 0 F1.out F2.out _).mono ?_
    rintro e w1 ⟨rfl, rfl⟩
    go_wp2
    go_ret
    exact ⟨rbool HR.out, rfl⟩

def shapeB (m gen : Nat) (rows : List Nat) : Bool := decide (rows.length = m) && (insN m gen && rows.all (insN m))
def shapedE (n : Int) (gen : Nat) (rows : List Nat) : Int := if dimB n = true then (if shapeB n.toNat gen rows = true then 0 else 30) else 31
theorem all_drop {l : List Nat} {p : Nat → Bool} {k : Nat} (h : ∀ i r, i < k → l[i]? = some r → p r = true) (hk : l.length ≤ k) : l.all p = true := by
  rw [List.all_eq_true]
  intro x hx
  obtain ⟨i, hi⟩ := List.getElem?_of_mem hx
  exact h i x (by have := (List.getElem?_eq_some_iff.1 hi).1; omega) hi
theorem all_bad {l : List Nat} {p : Nat → Bool} {i r : Nat} (h : l[i]? = some r) (hp : p r = false) : l.all p = false := by
  rw [List.all_eq_false]
  exact ⟨r, List.mem_of_getElem? h, by rw [hp]; simp⟩
set_option maxRecDepth 100000 in
set_option maxHeartbeats 1000000 in
theorem shaped_is (n : Int) (a : Option Addr) (cap gen : Nat) (rows : List Nat) (w : World) (hf : FAt w a gen rows) (r : Int) (hr : shapedE n gen rows = r) :
    Calls Tryz.prog 136 #[.int .i64 n, fval gen a rows.length cap] w fun e w' => e = .returned (.int .i64 r) ∧ Below w.heap.size w w' := by
  have HF := Lib.hid hf
  have hgen := hf.gen
  have hlen := hf.len
  have hB0 : Below w.heap.size w (w.alloc (.cells #[.int .u64 (gen : Int), .slice a rows.length cap] 29)) := (Below.refl _ _).alloc (Nat.le_refl _) _
  have HF1 : Hid (FAt (w.alloc (.cells #[.int .u64 (gen : Int), .slice a rows.length cap] 29)) a gen rows) := hf.below hB0
  obtain ⟨len, hl⟩ : ∃ len, rows.length = len := ⟨_, rfl⟩
  have HL := Lib.hid hl
  rw [hl] at hB0 HF1 hlen ⊢
  unfold fval
  clear hf hl
  cases hd : dimB n
  · obtain ⟨f1, f2⟩ := dim_full_no hd
    have F1 := Lib.hid f1; have F2 := Lib.hid f2
    have HR : Hid (31 = r) := by show _ = _; rw [← hr, shapedE, hd]; rfl
    clear hd f1 f2 hr
    go_enter Tryz.func136, Tryz.ntmps136
    go_wp2_with fail
    refine (fullA_is n 0 10 F1.out F2.out _).mono ?_
    rintro e w1 ⟨rfl, rfl⟩
    go_wp2
    go_ret
    exact ⟨rint HR.out, hB0⟩
  · obtain ⟨m, rfl, hm⟩ := dim_nat hd
    obtain ⟨f1, f2⟩ := dim_full hd
    have F1 := Lib.hid f1; have F2 := Lib.hid f2
    have HA := andNot_mask gen m hgen hm
    have HRR : Hid ((if shapeB m gen rows = true then (0 : Int) else 30) = r) := by show _ = _; rw [← hr, shapedE, hd, if_pos rfl, Int.toNat_natCast]
    have HAR : Hid (∀ r : Nat, r < 18446744073709551616 → bits BinOp.andNot IntKind.u64 (r : Int) ((2 ^ m - 1 : Nat) : Int) = ((restN r m : Nat) : Int)) := fun r hr => andNot_mask r m hr hm
    obtain ⟨p, hp⟩ : ∃ p : Nat, 2 ^ m - 1 = p := ⟨_, rfl⟩
    rw [Int.toNat_natCast, hp] at F1
    rw [hp] at HA HAR
    clear hd f1 f2 hr hp
    by_cases hlm : len = m
    · subst hlm
      cases hig : insN len gen
      · have HR : Hid (30 = r) := by show _ = _; rw [← HRR.out, shapeB, hig]; simp
        have hq0 : (((restN gen len : Nat) : Int) != 0) = true := by
          unfold insN at hig
          have : restN gen len ≠ 0 := by simpa using hig
          simp; omega
        obtain ⟨q, hq⟩ : ∃ q, restN gen len = q := ⟨_, rfl⟩
        rw [hq] at HA hq0
        clear hig hq
        go_enter Tryz.func136, Tryz.ntmps136
        go_wp2_with fail
        refine (fullA_is len p 0 F1.out F2.out _).mono ?_
        rintro e w1 ⟨rfl, rfl⟩
        go_wp2
        go_ret
        exact ⟨rint HR.out, hB0⟩
      · have HIG := Lib.hid hig
        have hq0 : restN gen len = 0 := by unfold insN at hig; simpa using hig
        rw [hq0] at HA
        clear hig hq0
        go_enter Tryz.func136, Tryz.ntmps136
        go_wp2_with fail
        refine (fullA_is len p 0 F1.out F2.out _).mono ?_
        rintro e w1 ⟨rfl, rfl⟩
        go_wp2_with fail
        go_loopw [31] (fun i wr => ∃ k : Nat, k ≤ len ∧ i = .int .i64 k ∧ Hid (∀ (i : Nat) x, i < k → rows[i]? = some x → insN len x = true) ∧ (w.alloc (.cells #[.int .u64 (gen : Int), .slice a len cap] 29)) = wr) (fun i _ => len - (intOf i).toNat)
        case atStart => exact ⟨0, Nat.zero_le _, rfl, fun i x h => by omega, rfl⟩
        case round =>
          obtain ⟨k, hk, rfl, HK, rfl⟩ := hrel
          by_cases hlt : k < len
          · obtain ⟨ba, offa, x, rfl, hx, hx64, hba, a0⟩ := HF1.out.at_ (by rw [HL.out]; exact hlt)
            have g0 : (0 : Int) ≤ (k : Int) := by omega
            have g1 : (k : Int) < (len : Int) := by omega
            have hax := HAR.out x hx64
            cases hin : insN len x
            · have HR : Hid (30 = r) := by show _ = _; rw [← HRR.out, shapeB, all_bad hx hin]; simp
              have hq0 : (((restN x len : Nat) : Int) != 0) = true := by
                unfold insN at hin
                have : restN x len ≠ 0 := by simpa using hin
                simp; omega
              obtain ⟨q, hq⟩ : ∃ q, restN x len = q := ⟨_, rfl⟩
              rw [hq] at hax hq0
              clear hin hq hx
              go_wp2
              go_ret
              exact ⟨rint HR.out, hB0⟩
            · have HN : Hid (∀ (i : Nat) y, i < k + 1 → rows[i]? = some y → insN len y = true) := fun i y hi hy => by
                by_cases e : i = k
                · subst e; rw [hx] at hy; cases hy; exact hin
                · exact HK.out i y (by omega) hy
              have hq0 : restN x len = 0 := by unfold insN at hin; simpa using hin
              rw [hq0] at hax
              clear hin hx hq0
              go_wp2
              go_roundw
              case rel => exact ⟨k + 1, by omega, by go_num, HN, by trivial⟩
              case measure => simp [intOf]; omega
          · have HR : Hid (0 = r) := by
              show _ = _
              have e1 : shapeB len gen rows = true := by
                unfold shapeB
                rw [HIG.out, all_drop HK.out (by rw [HL.out]; omega)]
                simp [HL.out]
              rw [← HRR.out, e1]; rfl
            go_wp2
            go_ret
            exact ⟨rint HR.out, hB0⟩
    · have HR : Hid (30 = r) := by
        show _ = _
        rw [← HRR.out, shapeB, decide_eq_false (by rw [HL.out]; exact hlm)]; rfl
      have hne : ((len : Int) != (m : Int)) = true := by simp; omega
      clear hlm
      go_enter Tryz.func136, Tryz.ntmps136
      go_wp2_with fail
      refine (fullA_is m p 0 F1.out F2.out _).mono ?_
      rintro e w1 ⟨rfl, rfl⟩
      go_wp2
      go_ret
      exact ⟨rint HR.out, hB0⟩
end Go.Proofs.YtjcminoaiieckaaGreatDoor
namespace Go.Proofs.YtjcminoaiieckaaGreatDoor
open Go.RowKit
set_option linter.unusedVariables false
theorem ce_rint {k : IntKind} {a b : Int} (h : a = b) : Ending.returned (.int k a) = .returned (.int k b) := by rw [h]
theorem ce_rbool {a b : Bool} (h : a = b) : Ending.returned (.bool a) = .returned (.bool b) := by rw [h]
theorem ce_cast_div_pow (f d : Nat) : ((f : Int) / 2 ^ d) = ((f / 2 ^ d : Nat) : Int) := by
  rw [Int.natCast_ediv]; congr 1
def inside (d f : Nat) : Bool := f / 2 ^ d == 0
def kindOk (f : Nat) (k v : Int) : Bool := if k = 0 then v == 0 else if k = 1 then true else if k = 2 then v == 0 && f == 0 else false
def cellOk (d f : Nat) (k v : Int) : Bool := inside d f && kindOk f k v

theorem cast_ne (f d : Nat) : ((f : Int) / 2 ^ d != 0) = !inside d f := by
  rw [ce_cast_div_pow]; unfold inside
  generalize f / 2 ^ d = q
  rw [Bool.eq_iff_iff, bne_iff_ne, Bool.not_eq_true', beq_eq_false_iff_ne]; omega
theorem inside64 {d f : Nat} (h : 64 ≤ d) (hf : f < 18446744073709551616) : inside d f = true := by
  unfold inside
  have e : (2 : Nat) ^ 64 ≤ 2 ^ d := Nat.pow_le_pow_right (by decide) h
  have : f < 2 ^ d := Nat.lt_of_lt_of_le hf e
  simp [Nat.div_eq_of_lt this]

theorem mayBe_any (d f : Nat) (k v : Int) (w : World) (hf : f < 18446744073709551616) (hd : d ≤ 64) : Calls Tryz.prog 137 #[.int .i64 d, .agg #[.int .u64 f, .int .i64 k, .int .i64 v]] w fun e w' => e = .returned (.bool (cellOk d f k v)) ∧ Below w.heap.size w w' := by
  cases hi : inside d f
  · have hlt : d < 64 := by
      rcases Nat.lt_or_ge d 64 with h | h
      · exact h
      · rw [inside64 h hf] at hi; cases hi
    have h0 : ((f : Int) / 2 ^ d != 0) = true := by rw [cast_ne, hi]; rfl
    have H := Lib.hid (show cellOk d f k v = false by simp [cellOk, hi])
    clear hi
    go_enter Tryz.func137, Tryz.ntmps137
    go_wp2
    go_ret
    exact ⟨ce_rbool H.out.symm, (Below.refl _ _).alloc (Nat.le_refl _) _⟩
  · have h0 : ((f : Int) / 2 ^ d != 0) = false := by rw [cast_ne, hi]; rfl
    have hc : cellOk d f k v = kindOk f k v := by simp [cellOk, hi]
    rw [hc]
    clear hi hc
    by_cases hlt : d < 64
    all_goals
      by_cases k0 : k = 0
      · subst k0
        have H := Lib.hid (show kindOk f 0 v = (v == 0) by simp [kindOk])
        go_enter Tryz.func137, Tryz.ntmps137
        go_wp2
        go_ret
        exact ⟨ce_rbool H.out.symm, (Below.refl _ _).alloc (Nat.le_refl _) _⟩
      by_cases k1 : k = 1
      · subst k1
        have H := Lib.hid (show kindOk f 1 v = true by simp [kindOk])
        go_enter Tryz.func137, Tryz.ntmps137
        go_wp2
        go_ret
        exact ⟨ce_rbool H.out.symm, (Below.refl _ _).alloc (Nat.le_refl _) _⟩
      by_cases k2 : k = 2
      · subst k2
        by_cases v0 : v = 0
        · subst v0
          have H := Lib.hid (show kindOk f 2 0 = ((f : Int) == 0) by simp [kindOk]; rw [Bool.eq_iff_iff]; simp)
          go_enter Tryz.func137, Tryz.ntmps137
          go_wp2
          go_ret
          exact ⟨ce_rbool H.out.symm, (Below.refl _ _).alloc (Nat.le_refl _) _⟩
        · have H := Lib.hid (show kindOk f 2 v = false by simp [kindOk, v0])
          have hv : (v == 0) = false := by simp [v0]
          clear v0
          go_enter Tryz.func137, Tryz.ntmps137
          go_wp2
          go_ret
          exact ⟨ce_rbool H.out.symm, (Below.refl _ _).alloc (Nat.le_refl _) _⟩
      · have H := Lib.hid (show kindOk f k v = false by simp [kindOk, k0, k1, k2])
        have e0 : (k == 0) = false := by simp [k0]
        have e1 : (k == 1) = false := by simp [k1]
        have e2 : (k == 2) = false := by simp [k2]
        clear k0 k1 k2
        go_enter Tryz.func137, Tryz.ntmps137
        go_wp2
        go_ret
        exact ⟨ce_rbool H.out.symm, (Below.refl _ _).alloc (Nat.le_refl _) _⟩

theorem inside_bits (d f : Nat) (hf : f < 18446744073709551616) : inside d f = true ↔ ∀ i, d ≤ i → i < 64 → f.testBit i = false := by
  unfold inside
  rw [beq_iff_eq, Nat.div_eq_zero_iff]
  constructor
  · intro h i hi _
    rcases h with h | h
    · exact absurd h (by have := Nat.two_pow_pos d; omega)
    · exact Nat.testBit_lt_two_pow (Nat.lt_of_lt_of_le h (Nat.pow_le_pow_right (by omega) hi))
  · intro h
    right
    apply Nat.lt_pow_two_of_testBit
    intro i hi
    by_cases h64 : i < 64
    · exact h i hi h64
    · have e : (2 : Nat) ^ 64 ≤ 2 ^ i := Nat.pow_le_pow_right (by decide) (by omega)
      exact Nat.testBit_lt_two_pow (Nat.lt_of_lt_of_le hf e)

end Go.Proofs.YtjcminoaiieckaaGreatDoor
namespace Go.Proofs.YtjcminoaiieckaaGreatDoor
open Go.RowKit
set_option linter.unusedVariables false
structure Cl where
  f : Nat
  k : Int
  v : Int
abbrev Cl.val (c : Cl) : Value := .agg #[.int .u64 (c.f : Int), .int .i64 c.k, .int .i64 c.v]
def CRow (w : World) (a : Option Addr) (cs : List Cl) : Prop :=
  cs = [] ∨ ∃ b off, a = some ⟨b, off, none⟩ ∧ ∀ i c, cs[i]? = some c → w.cell? ⟨b, off + i * 3, none⟩ = some (.int .u64 (c.f : Int)) ∧ w.cell? ⟨b, off + i * 3 + 1, none⟩ = some (.int .i64 c.k) ∧ w.cell? ⟨b, off + i * 3 + 2, none⟩ = some (.int .i64 c.v)
def Bits (cs : List Cl) : Prop := ∀ c, c ∈ cs → c.f < 18446744073709551616
theorem ce_cell_lt {w : World} {a : Addr} {v : Value} (h : w.cell? a = some v) : a.block < w.heap.size := by
  rcases Nat.lt_or_ge a.block w.heap.size with h' | h'
  · exact h'
  · simp [World.cell?, Array.getElem?_eq_none h'] at h
theorem CRow.below {w w' : World} {a : Option Addr} {cs : List Cl} (h : CRow w a cs) (hb : Below w.heap.size w w') : CRow w' a cs := by
  rcases h with h | ⟨b, off, rfl, hc⟩
  · exact .inl h
  · refine .inr ⟨b, off, rfl, fun i c hi => ?_⟩
    obtain ⟨h1, h2, h3⟩ := hc i c hi
    exact ⟨(hb.cell (ce_cell_lt h1)).trans h1, (hb.cell (ce_cell_lt h2)).trans h2, (hb.cell (ce_cell_lt h3)).trans h3⟩
theorem CRow.at_ {w : World} {a : Option Addr} {cs : List Cl} (h : CRow w a cs) {k : Nat} (hk : k < cs.length) :
    ∃ b off c, a = some ⟨b, off, none⟩ ∧ cs[k]? = some c ∧ b < w.heap.size ∧ w.cell? ⟨b, off + k * 3, none⟩ = some (.int .u64 (c.f : Int)) ∧ w.cell? ⟨b, off + k * 3 + 1, none⟩ = some (.int .i64 c.k) ∧ w.cell? ⟨b, off + k * 3 + 2, none⟩ = some (.int .i64 c.v) := by
  rcases h with h | ⟨b, off, rfl, hc⟩
  · subst h; simp at hk
  · have e : cs[k]? = some cs[k] := List.getElem?_eq_getElem hk
    obtain ⟨h1, h2, h3⟩ := hc k _ e
    exact ⟨b, off, cs[k], rfl, e, ce_cell_lt h1, h1, h2, h3⟩

def okAt (d : Nat) (c : Cl) : Bool := cellOk d c.f c.k c.v
def chkC (d : Int) (cs : List Cl) : Int := if d < 0 ∨ 64 < d then 41 else if (cs.length : Int) ≠ d then 40 else if cs.all (okAt d.toNat) then 0 else 40
def dimC (d : Int) : Int := if d < 0 ∨ 64 < d then 41 else 0

theorem checkDim_any (d : Int) (w : World) : Calls Tryz.prog 105 #[.int .i64 d] w fun e w' => e = .returned (.int .i64 (dimC d)) ∧ w = w' := by
  by_cases h0 : d < 0
  · have H := Lib.hid (show dimC d = 41 by simp [dimC, h0])
    go_enter Tryz.func105, Tryz.ntmps105
    go_wp2
    go_ret
    exact ⟨ce_rint H.out.symm, rfl⟩
  by_cases h1 : 64 < d
  · have H := Lib.hid (show dimC d = 41 by simp [dimC, h1])
    go_enter Tryz.func105, Tryz.ntmps105
    go_wp2
    go_ret
    exact ⟨ce_rint H.out.symm, rfl⟩
  · have H := Lib.hid (show dimC d = 0 by simp [dimC, h0, h1])
    go_enter Tryz.func105, Tryz.ntmps105
    go_wp2
    go_ret
    exact ⟨ce_rint H.out.symm, rfl⟩
theorem checkDim_is (d : Int) (w : World) (c : Int) (hc : dimC d = c) : Calls Tryz.prog 105 #[.int .i64 d] w fun e w' => e = .returned (.int .i64 c) ∧ w = w' := by subst hc; exact checkDim_any d w

theorem ce_take_all_succ {α : Type} {p : α → Bool} {zs : List α} {k : Nat} {z : α} (hz : zs[k]? = some z) (h : (zs.take k).all p = true) (hp : p z = true) : (zs.take (k + 1)).all p = true := by
  obtain ⟨hk, e⟩ := List.getElem?_eq_some_iff.1 hz
  rw [List.take_succ_eq_append_getElem hk, List.all_append, h]
  simp [e, hp]
theorem ce_all_false {α : Type} {p : α → Bool} {zs : List α} {k : Nat} {z : α} (hz : zs[k]? = some z) (hp : p z = false) : zs.all p = false := by
  obtain ⟨hk, e⟩ := List.getElem?_eq_some_iff.1 hz
  rw [List.all_eq_false]
  exact ⟨z, by rw [← e]; exact List.getElem_mem hk, by rw [hp]; simp⟩
theorem chkC_bad {n : Nat} {cs : List Cl} {k : Nat} {c : Cl} (hn : n ≤ 64) (hl : cs.length = n) (hz : cs[k]? = some c) (hp : okAt n c = false) : chkC n cs = 40 := by
  unfold chkC
  rw [if_neg (by omega), if_neg (by omega), Int.toNat_natCast, ce_all_false hz hp]; rfl
theorem chkC_good {n : Nat} {cs : List Cl} {k : Nat} (hn : n ≤ 64) (hl : cs.length = n) (hk : cs.length ≤ k) (h : (cs.take k).all (okAt n) = true) : chkC n cs = 0 := by
  rw [List.take_of_length_le hk] at h
  unfold chkC
  rw [if_neg (by omega), if_neg (by omega), Int.toNat_natCast, h]; rfl

set_option maxHeartbeats 1000000 in
theorem ce_check_any (d : Int) (a : Option Addr) (cap : Nat) (cs : List Cl) (w : World) (hm : cs.length ≤ maxLen) (hrow : CRow w a cs) (hbits : Bits cs) :
    Calls Tryz.prog 100 #[.int .i64 d, .slice a cs.length cap] w fun e w' => e = .returned (.int .i64 (chkC d cs)) ∧ Below w.heap.size w w' := by
  unfold maxLen at hm
  have HROW := Lib.hid hrow
  have HBITS := Lib.hid hbits
  clear hrow hbits
  by_cases hd : d < 0 ∨ 64 < d
  · have H := Lib.hid (show chkC d cs = 41 by simp [chkC, hd])
    have H2 := Lib.hid (show dimC d = 41 by simp [dimC, hd])
    clear hd
    go_enter Tryz.func100, Tryz.ntmps100
    go_wp2_with (go_at_call 105; refine (checkDim_is _ _ 41 H2.out).mono ?_; rintro e w' ⟨rfl, rfl⟩)
    go_ret
    exact ⟨ce_rint H.out.symm, Below.refl _ _⟩
  obtain ⟨n, rfl⟩ : ∃ n : Nat, d = n := ⟨d.toNat, by omega⟩
  have hn : n ≤ 64 := by omega
  have H2 := Lib.hid (show dimC n = 0 by simp [dimC, hd])
  clear hd
  by_cases hl : cs.length = n
  · have HL := Lib.hid hl
    have hne : ((cs.length : Int) != (n : Int)) = false := by simp [hl]
    have hn' : cs.length ≤ 64 := by omega
    clear hl
    go_enter Tryz.func100, Tryz.ntmps100
    go_wp2_with (go_at_call 105; refine (checkDim_is _ _ 0 H2.out).mono ?_; rintro e w' ⟨rfl, rfl⟩)
    go_loopw [19] (fun i wr => ∃ k : Nat, k ≤ cs.length ∧ i = .int .i64 k ∧ Hid ((cs.take k).all (okAt n) = true) ∧ Below w.heap.size w wr) (fun i _ => cs.length - (intOf i).toNat)
    case atStart => exact ⟨0, Nat.zero_le _, rfl, by simp [Hid], Below.refl _ _⟩
    case round =>
      obtain ⟨k, hk, rfl, HA, hb⟩ := hrel
      by_cases hlt : k < cs.length
      · obtain ⟨b, off, c, rfl, hz, hblt, c0, c1, c2⟩ := (HROW.out.below hb).at_ hlt
        have hf : c.f < 18446744073709551616 := HBITS.out c (List.mem_of_getElem? hz)
        have HZ := Lib.hid hz
        clear hz
        cases hok : okAt n c
        · have H := Lib.hid (chkC_bad hn HL.out HZ.out hok)
          have HOK : Hid (cellOk n c.f c.k c.v = false) := hok
          clear hok
          go_wp2_with (go_at_call 137; refine (mayBe_any n c.f c.k c.v _ hf hn).mono ?_; rintro e w3 ⟨rfl, hb3⟩; rw [HOK.out])
          go_ret
          exact ⟨ce_rint H.out.symm, (hb.alloc hb.size _).trans (hb3.mono (by have := hb.size; simp; omega))⟩
        · have H := Lib.hid (ce_take_all_succ HZ.out HA.out hok)
          have HOK : Hid (cellOk n c.f c.k c.v = true) := hok
          clear hok
          go_wp2_with (go_at_call 137; refine (mayBe_any n c.f c.k c.v _ hf hn).mono ?_; rintro e w3 ⟨rfl, hb3⟩; rw [HOK.out])
          go_roundw
          case rel => exact ⟨k + 1, by omega, by go_num, H, (hb.alloc hb.size _).trans (hb3.mono (by have := hb.size; simp; omega))⟩
          case measure => simp [intOf]; omega
      · have H := Lib.hid (chkC_good hn HL.out (by omega) HA.out)
        go_wp2
        go_ret
        exact ⟨ce_rint H.out.symm, hb⟩
  · have H := Lib.hid (show chkC n cs = 40 by simp [chkC]; omega)
    have hne : ((cs.length : Int) != (n : Int)) = true := by simp; omega
    clear hl
    go_enter Tryz.func100, Tryz.ntmps100
    go_wp2_with (go_at_call 105; refine (checkDim_is _ _ 0 H2.out).mono ?_; rintro e w' ⟨rfl, rfl⟩)
    go_ret
    exact ⟨ce_rint H.out.symm, Below.refl _ _⟩

end Go.Proofs.YtjcminoaiieckaaGreatDoor
namespace Go.Proofs.YtjcminoaiieckaaGreatDoor
open Go.RowKit
set_option linter.unusedVariables false
structure SF where
  tag : Int
  dim : Int
  a : Option Addr
  len : Nat
  cap : Nat
abbrev SF.val (f : SF) : Value := .agg #[.int .i64 f.tag, .int .i64 f.dim, .slice f.a f.len f.cap]
inductive SV where
  | mk (f : SF) (ps : List SV)
def SV.f : SV → SF | .mk f _ => f
def SV.ps : SV → List SV | .mk _ ps => ps
def S3 (w : World) (b o : Nat) (f : SF) : Prop := w.cell? ⟨b, o, none⟩ = some (.int .i64 f.tag) ∧ w.cell? ⟨b, o + 1, none⟩ = some (.int .i64 f.dim) ∧ w.cell? ⟨b, o + 2, none⟩ = some (.slice f.a f.len f.cap)
def SRow (w : World) (a : Option Addr) (ps : List SV) : Prop :=
  ps = [] ∨ ∃ b off, a = some ⟨b, off, none⟩ ∧ ∀ (i : Nat) p, ps[i]? = some p → S3 w b (off + i * 3) p.f
def SIn (w : World) : Nat → SV → Prop
  | 0, _ => False
  | d + 1, .mk f ps => ps.length = f.len ∧ SRow w f.a ps ∧ ∀ p ∈ ps, SIn w d p
theorem cell_old {w w' : World} {p : Addr} {v : Value} (h : w.cell? p = some v) (hb : Below w.heap.size w w') : w'.cell? p = some v := (hb.cell (cell_lt h)).trans h
theorem S3.below {w w' : World} {b o : Nat} {f : SF} (h : S3 w b o f) (hb : Below w.heap.size w w') : S3 w' b o f := ⟨cell_old h.1 hb, cell_old h.2.1 hb, cell_old h.2.2 hb⟩
theorem SRow.below {w w' : World} {a : Option Addr} {ps : List SV} (h : SRow w a ps) (hb : Below w.heap.size w w') : SRow w' a ps := by
  rcases h with h | ⟨b, off, rfl, hc⟩
  · exact .inl h
  · exact .inr ⟨b, off, rfl, fun i p hi => (hc i p hi).below hb⟩
theorem SIn.below {w w' : World} (hb : Below w.heap.size w w') : ∀ {d : Nat} {s : SV}, SIn w d s → SIn w' d s
  | 0, _, h => h.elim
  | d + 1, .mk f ps, ⟨h1, h2, h3⟩ => ⟨h1, h2.below hb, fun p hp => SIn.below hb (h3 p hp)⟩
theorem SRow.at_ {w : World} {a : Option Addr} {ps : List SV} (h : SRow w a ps) {i : Nat} {p : SV} (hi : ps[i]? = some p) : ∃ b off, a = some ⟨b, off, none⟩ ∧ b < w.heap.size ∧ S3 w b (off + i * 3) p.f := by
  rcases h with rfl | ⟨b, off, ha, hc⟩
  · simp at hi
  · exact ⟨b, off, ha, cell_lt (hc i p hi).1, hc i p hi⟩

structure WF where
  z : Bool
  c : Int
  g : Nat
  ra : Option Addr
  rl : Nat
  rc : Nat
  rows : List Nat
  ca : Option Addr
  cl : Nat
  cc : Nat
  cells : List Cl
  pa : Option Addr
  pl : Nat
  pc : Nat
abbrev WF.val (f : WF) : Value := .agg #[.bool f.z, .int .i64 f.c, .int .u64 (f.g : Int), .slice f.ra f.rl f.rc, .slice f.ca f.cl f.cc, .slice f.pa f.pl f.pc]
abbrev WF.six (f : WF) : List Value := [.bool f.z, .int .i64 f.c, .int .u64 (f.g : Int), .slice f.ra f.rl f.rc, .slice f.ca f.cl f.cc, .slice f.pa f.pl f.pc]
structure WF.At (w : World) (f : WF) : Prop where
  rows : VRow w f.ra (u64s f.rows)
  rl : f.rows.length = f.rl
  g64 : f.g < 18446744073709551616
  r64 : ∀ r ∈ f.rows, r < 18446744073709551616
  cells : CRow w f.ca f.cells
  cl : f.cells.length = f.cl
  bits : Bits f.cells
  cmax : f.cl ≤ maxLen
theorem WF.At.below {w w' : World} {f : WF} (h : f.At w) (hb : Below w.heap.size w w') : f.At w' := ⟨h.rows.below hb, h.rl, h.g64, h.r64, h.cells.below hb, h.cl, h.bits, h.cmax⟩
inductive WV where
  | mk (f : WF) (ps : List WV)
def WV.f : WV → WF | .mk f _ => f
def WV.ps : WV → List WV | .mk _ ps => ps
def W6 (w : World) (b o : Nat) (f : WF) : Prop := w.cell? ⟨b, o, none⟩ = some (.bool f.z) ∧ w.cell? ⟨b, o + 1, none⟩ = some (.int .i64 f.c) ∧ w.cell? ⟨b, o + 2, none⟩ = some (.int .u64 (f.g : Int)) ∧ w.cell? ⟨b, o + 3, none⟩ = some (.slice f.ra f.rl f.rc) ∧ w.cell? ⟨b, o + 4, none⟩ = some (.slice f.ca f.cl f.cc) ∧ w.cell? ⟨b, o + 5, none⟩ = some (.slice f.pa f.pl f.pc)
def PRow (w : World) (a : Option Addr) (ps : List WV) : Prop :=
  ps = [] ∨ ∃ b off, a = some ⟨b, off, none⟩ ∧ ∀ (i : Nat) p, ps[i]? = some p → W6 w b (off + i * 6) p.f
def WIn (w : World) : Nat → WV → Prop
  | 0, _ => False
  | d + 1, .mk f ps => f.At w ∧ ps.length = f.pl ∧ PRow w f.pa ps ∧ ∀ p ∈ ps, WIn w d p
theorem W6.below {w w' : World} {b o : Nat} {f : WF} (h : W6 w b o f) (hb : Below w.heap.size w w') : W6 w' b o f := ⟨cell_old h.1 hb, cell_old h.2.1 hb, cell_old h.2.2.1 hb, cell_old h.2.2.2.1 hb, cell_old h.2.2.2.2.1 hb, cell_old h.2.2.2.2.2 hb⟩
theorem PRow.below {w w' : World} {a : Option Addr} {ps : List WV} (h : PRow w a ps) (hb : Below w.heap.size w w') : PRow w' a ps := by
  rcases h with h | ⟨b, off, rfl, hc⟩
  · exact .inl h
  · exact .inr ⟨b, off, rfl, fun i p hi => (hc i p hi).below hb⟩
theorem WIn.below {w w' : World} (hb : Below w.heap.size w w') : ∀ {d : Nat} {s : WV}, WIn w d s → WIn w' d s
  | 0, _, h => h.elim
  | d + 1, .mk f ps, ⟨h0, h1, h2, h3⟩ => ⟨h0.below hb, h1, h2.below hb, fun p hp => WIn.below hb (h3 p hp)⟩
theorem PRow.at_ {w : World} {a : Option Addr} {ps : List WV} (h : PRow w a ps) {i : Nat} {p : WV} (hi : ps[i]? = some p) : ∃ b off, a = some ⟨b, off, none⟩ ∧ b < w.heap.size ∧ W6 w b (off + i * 6) p.f := by
  rcases h with rfl | ⟨b, off, ha, hc⟩
  · simp at hi
  · exact ⟨b, off, ha, cell_lt (hc i p hi).1, hc i p hi⟩

def plainB (t n : Int) (l : Nat) : Bool := decide (l = 0) && (if t = 1 then decide (n = 0) else if t = 2 then decide (0 ≤ n) && decide (n ≤ 1048576) else if t = 3 ∨ t = 4 then decide (0 ≤ n) && decide (n ≤ 64) else false)
theorem sbox (w : World) (v : Array Value) (T : TypeId) : Below w.heap.size w (w.alloc (.cells v T)) := (Below.refl _ _).alloc (Nat.le_refl _) _
set_option maxRecDepth 100000 in
set_option maxHeartbeats 2000000 in
theorem plain_is (t n : Int) (a : Option Addr) (l c : Nat) (r : Bool) (hr : plainB t n l = r) (w : World) :
    Calls Tryz.prog 44 #[.agg #[.int .i64 t, .int .i64 n, .slice a l c]] w fun e w' => e = .returned (.bool r) ∧ Below w.heap.size w w' := by
  have hB := Lib.hid (sbox w #[.int .i64 t, .int .i64 n, .slice a l c] 25)
  by_cases ht : t = 1 ∨ t = 2 ∨ t = 3 ∨ t = 4
  · by_cases hl : l = 0
    · subst hl
      by_cases h0 : 0 ≤ n
      · rcases ht with rfl | rfl | rfl | rfl
        · by_cases hm : n ≤ 0
          · obtain rfl : n = 0 := by omega
            have HR : Hid (true = r) := by show _ = _; rw [← hr]; simp [plainB]
            clear hr
            go_enter Tryz.func44, Tryz.ntmps44
            go_wp2
            go_ret
            exact ⟨rbool HR.out, hB.out⟩
          · have HR : Hid (false = r) := by show _ = _; rw [← hr]; simp [plainB]; omega
            clear hr
            go_enter Tryz.func44, Tryz.ntmps44
            go_wp2
            go_ret
            exact ⟨rbool HR.out, hB.out⟩
        · by_cases hm : n ≤ 1048576
          · have HR : Hid (true = r) := by show _ = _; rw [← hr]; simp [plainB, h0, hm]
            clear hr
            go_enter Tryz.func44, Tryz.ntmps44
            go_wp2
            go_ret
            exact ⟨rbool HR.out, hB.out⟩
          · have HR : Hid (false = r) := by show _ = _; rw [← hr]; simp [plainB, hm]
            clear hr
            go_enter Tryz.func44, Tryz.ntmps44
            go_wp2
            go_ret
            exact ⟨rbool HR.out, hB.out⟩
        all_goals
          by_cases hm : n ≤ 64
          · have HR : Hid (true = r) := by show _ = _; rw [← hr]; simp [plainB, h0, hm]
            clear hr
            go_enter Tryz.func44, Tryz.ntmps44
            go_wp2
            go_ret
            exact ⟨rbool HR.out, hB.out⟩
          · have HR : Hid (false = r) := by show _ = _; rw [← hr]; simp [plainB, hm]
            clear hr
            go_enter Tryz.func44, Tryz.ntmps44
            go_wp2
            go_ret
            exact ⟨rbool HR.out, hB.out⟩
      · have HR : Hid (false = r) := by show _ = _; rw [← hr]; rcases ht with rfl | rfl | rfl | rfl <;> simp [plainB] <;> omega
        clear hr
        rcases ht with rfl | rfl | rfl | rfl
        all_goals
          go_enter Tryz.func44, Tryz.ntmps44
          go_wp2
          go_ret
          exact ⟨rbool HR.out, hB.out⟩
    · have HR : Hid (false = r) := by show _ = _; rw [← hr]; simp [plainB, hl]
      have hl2 : ((l : Int) == 0) = false := by simp; omega
      clear hr
      rcases ht with rfl | rfl | rfl | rfl
      all_goals
        go_enter Tryz.func44, Tryz.ntmps44
        go_wp2
        go_ret
        exact ⟨rbool HR.out, hB.out⟩
  · have HR : Hid (false = r) := by show _ = _; rw [← hr]; simp only [not_or] at ht; simp [plainB, ht]
    have e1 : (t == 1) = false := by simp; omega
    have e2 : (t == 2) = false := by simp; omega
    have e3 : (t == 3) = false := by simp; omega
    have e4 : (t == 4) = false := by simp; omega
    clear hr ht
    go_enter Tryz.func44, Tryz.ntmps44
    go_wp2
    go_ret
    exact ⟨rbool HR.out, hB.out⟩
def SV.pl (s : SV) : Bool := plainB s.f.tag s.f.dim s.f.len
def spaceE : SV → Int
  | .mk f ps => if plainB f.tag f.dim f.len = true then 0 else if f.tag = 5 ∧ f.dim = 0 ∧ ps.length = 2 ∧ ps.all SV.pl = true then 0 else 50
end Go.Proofs.YtjcminoaiieckaaGreatDoor
namespace Go.Proofs.YtjcminoaiieckaaGreatDoor
open Go.RowKit
set_option linter.unusedVariables false
set_option maxRecDepth 100000 in
set_option maxHeartbeats 1000000 in
theorem shape_is (m : Nat) (hm : m ≤ 64) (a : Option Addr) (cap gen : Nat) (rows : List Nat) (w : World) (hf : FAt w a gen rows) (r : Bool) (hr : shapeB m gen rows = r) :
    Calls Tryz.prog 109 #[.int .i64 m, fval gen a rows.length cap] w fun e w' => e = .returned (.bool r) ∧ Below w.heap.size w w' := by
  have HF := Lib.hid hf
  have hgen := hf.gen
  have hlen := hf.len
  have HR := Lib.hid hr
  have hB0 : Below w.heap.size w (w.alloc (.cells #[.int .u64 (gen : Int), .slice a rows.length cap] 29)) := (Below.refl _ _).alloc (Nat.le_refl _) _
  have HF1 : Hid (FAt (w.alloc (.cells #[.int .u64 (gen : Int), .slice a rows.length cap] 29)) a gen rows) := hf.below hB0
  have HI : Hid (∀ s : Nat, insI (m : Int) s = insN m s) := fun s => by
    have : dimB (m : Int) = true := by simp [dimB]; omega
    rw [insI, this]; rfl
  obtain ⟨len, hl⟩ : ∃ len, rows.length = len := ⟨_, rfl⟩
  have HL := Lib.hid hl
  rw [hl] at hB0 HF1 hlen ⊢
  unfold fval
  clear hf hl hr
  by_cases hlm : len = m
  · subst hlm
    cases hig : insN len gen
    · have HX : Hid (false = r) := by show _ = _; rw [← HR.out, shapeB, hig]; simp
      have HG := Lib.hid hig
      clear hig
      go_enter Tryz.func109, Tryz.ntmps109
      go_wp2_with fail
      refine (inside_is len gen hgen false (by rw [HI.out]; exact HG.out) _).mono ?_
      rintro e w1 ⟨rfl, rfl⟩
      go_wp2
      go_ret
      exact ⟨rbool HX.out, hB0⟩
    · have HG := Lib.hid hig
      clear hig
      go_enter Tryz.func109, Tryz.ntmps109
      go_wp2_with fail
      refine (inside_is len gen hgen true (by rw [HI.out]; exact HG.out) _).mono ?_
      rintro e w1 ⟨rfl, rfl⟩
      go_wp2_with fail
      go_loopw [5] (fun i wr => ∃ k : Nat, k ≤ len ∧ i = .int .i64 k ∧ Hid (∀ (i : Nat) x, i < k → rows[i]? = some x → insN len x = true) ∧ (w.alloc (.cells #[.int .u64 (gen : Int), .slice a len cap] 29)) = wr) (fun i _ => len - (intOf i).toNat)
      case atStart => exact ⟨0, Nat.zero_le _, rfl, fun i x h => by omega, rfl⟩
      case round =>
        obtain ⟨k, hk, rfl, HK, rfl⟩ := hrel
        by_cases hlt : k < len
        · obtain ⟨ba, offa, x, rfl, hx, hx64, hba, a0⟩ := HF1.out.at_ (by rw [HL.out]; exact hlt)
          have g0 : (0 : Int) ≤ (k : Int) := by omega
          have g1 : (k : Int) < (len : Int) := by omega
          cases hin : insN len x
          · have HX : Hid (false = r) := by show _ = _; rw [← HR.out, shapeB, all_bad hx hin]; simp
            have HIN := Lib.hid hin
            clear hin hx
            go_wp2_with fail
            refine (inside_is len x hx64 false (by rw [HI.out]; exact HIN.out) _).mono ?_
            rintro e w1 ⟨rfl, rfl⟩
            go_wp2
            go_ret
            exact ⟨rbool HX.out, hB0⟩
          · have HN : Hid (∀ (i : Nat) y, i < k + 1 → rows[i]? = some y → insN len y = true) := fun i y hi hy => by
              by_cases e : i = k
              · subst e; rw [hx] at hy; cases hy; exact hin
              · exact HK.out i y (by omega) hy
            have HIN := Lib.hid hin
            clear hin hx
            go_wp2_with fail
            refine (inside_is len x hx64 true (by rw [HI.out]; exact HIN.out) _).mono ?_
            rintro e w1 ⟨rfl, rfl⟩
            go_wp2
            go_roundw
            case rel => exact ⟨k + 1, by omega, by go_num, HN, by trivial⟩
            case measure => simp [intOf]; omega
        · have HX : Hid (true = r) := by
            show _ = _
            have e1 : shapeB len gen rows = true := by
              unfold shapeB
              rw [HG.out, all_drop HK.out (by rw [HL.out]; omega)]
              simp [HL.out]
            rw [← HR.out, e1]
          go_wp2
          go_ret
          exact ⟨rbool HX.out, hB0⟩
  · have HX : Hid (false = r) := by
      show _ = _
      rw [← HR.out, shapeB, decide_eq_false (by rw [HL.out]; exact hlm)]; rfl
    have hne : ((len : Int) != (m : Int)) = true := by simp; omega
    clear hlm
    go_enter Tryz.func109, Tryz.ntmps109
    go_wp2
    go_ret
    exact ⟨rbool HX.out, hB0⟩

def andn (a b : Nat) : Nat := a &&& (18446744073709551615 - b)
theorem andn_bit {a b : Nat} (ha : a < 18446744073709551616) (hb : b < 18446744073709551616) (j : Nat) : (andn a b).testBit j = (a.testBit j && !b.testBit j) := by
  unfold andn
  rw [Nat.testBit_and, not_bit _ _ hb]
  cases h : a.testBit j
  · rfl
  · simp [bit_lt ha h]
theorem andn_go (a b : Nat) (ha : a < 18446744073709551616) (hb : b < 18446744073709551616) : bits BinOp.andNot IntKind.u64 (a : Int) (b : Int) = ((andn a b : Nat) : Int) := u64_andNot_nat a b ha hb
def canonL (gen : Nat) (rows : List Nat) : List Nat := rows.map fun r => andn r gen
theorem canonL_length (gen : Nat) (rows : List Nat) : (canonL gen rows).length = rows.length := by simp [canonL]
theorem canonL_take {gen : Nat} {rows : List Nat} {k x : Nat} (h : rows[k]? = some x) : (canonL gen rows).take (k + 1) = (canonL gen rows).take k ++ [andn x gen] := by
  have h2 : (canonL gen rows)[k]? = some (andn x gen) := by simp [canonL, h]
  obtain ⟨hk, e⟩ := List.getElem?_eq_some_iff.1 h2
  rw [List.take_succ_eq_append_getElem hk, e]
theorem infoU : (Tryz.prog.info? 26).map (fun i => (i.zero, i.size, i.bytes)) = some (some (.int .u64 0), 1, 8) := by kernel_rfl

theorem two_cells {w : World} {B : Nat} {a b : Value} {T : TypeId} (h : w.heap[B]? = some (.cells #[a, b] T (0, 0))) :
    w.cell? ⟨B, 0, none⟩ = some a ∧ w.cell? ⟨B, 1, none⟩ = some b ∧ (∀ j, w.frozen? ⟨B, j, none⟩ = false) :=
  ⟨by simp [World.cell?, h], by simp [World.cell?, h], fun j => by simp [World.frozen?, h]⟩
theorem two_set1 {w : World} {B : Nat} {a b c : Value} {T : TypeId} (h : w.heap[B]? = some (.cells #[a, b] T (0, 0))) : (w.setCell ⟨B, 1, none⟩ c).heap[B]? = some (.cells #[a, c] T (0, 0)) := heap_setCell_same w B 1 _ _ _ h
theorem two_set0 {w : World} {B : Nat} {a b c : Value} {T : TypeId} (h : w.heap[B]? = some (.cells #[a, b] T (0, 0))) : (w.setCell ⟨B, 0, none⟩ c).heap[B]? = some (.cells #[c, b] T (0, 0)) := heap_setCell_same w B 0 _ _ _ h
theorem heap_other {w : World} {B C j : Nat} {c : Value} {o : Obj} (h : w.heap[C]? = some o) (hne : C ≠ B) : (w.setCell ⟨B, j, none⟩ c).heap[C]? = some o := (Below.heap_setCell _ _ _ _ hne).trans h
theorem heap_old {w w' : World} {C : Nat} {o : Obj} (h : w.heap[C]? = some o) (hb : Below w.heap.size w w') : w'.heap[C]? = some o := (hb.block C (Array.getElem?_eq_some_iff.1 h).1).trans h
theorem heap_allocd {w : World} {C : Nat} {o : Obj} (h : w.heap[C]? = some o) (o' : Obj) : (w.alloc o').heap[C]? = some o := (Below.heap_alloc _ _ _ (Array.getElem?_eq_some_iff.1 h).1).trans h
theorem not_row {w : World} {B : Nat} {cs : Array Value} {T E : TypeId} (h : w.heap[B]? = some (.cells cs T (0, 0))) (hTE : T ≠ E) {base size k : Nat} {v : Value} {xs : List Value} (hr : w.ownsRow base E size v k xs) : some B ≠ v.ownBlock := by
  rcases hr.2 with ⟨rfl, _⟩ | ⟨g, cap, cur, rfl, _, hgb, _⟩
  · simp [Value.ownBlock]
  · intro e'
    obtain rfl : B = g := by simpa [Value.ownBlock] using e'
    have := h.symm.trans hgb
    simp at this
    exact hTE this.2
theorem heap_grown {w w' : World} {B : Nat} {cs : Array Value} {T E : TypeId} (h : w.heap[B]? = some (.cells cs T (0, 0))) (hTE : T ≠ E) {base size k : Nat} {v : Value} {xs : List Value} (hr : w.ownsRow base E size v k xs) (hg : w.grownBy w' v.ownBlock) : w'.heap[B]? = some (.cells cs T (0, 0)) :=
  (hg.block B (Array.getElem?_eq_some_iff.1 h).1 (fun e => not_row h hTE hr e)).trans h
theorem grownBy_set (W : World) (b j : Nat) (v : Value) : W.grownBy (W.setCell ⟨b, j, none⟩ v) (some b) :=
  ⟨rfl, rfl, rfl, (KeepsWalks.setCell W _ v).size, fun k _ hk => Below.heap_setCell _ _ _ k (fun e => hk (by rw [e]))⟩
theorem vrow_set {w : World} {a : Option Addr} {vs : List Value} (h : VRow w a vs) {B j : Nat} {v : Value} (hne : ∀ ad, a = some ad → ad.block ≠ B) : VRow (w.setCell ⟨B, j, none⟩ v) a vs := by
  rcases h with h | ⟨b, off, ha, hc⟩
  · exact .inl h
  · refine .inr ⟨b, off, ha, fun i x hi => ?_⟩
    rw [← hc i x hi]
    unfold World.cell?
    rw [Below.heap_setCell _ _ _ _ (hne _ ha)]
def FOne (gen : Nat) (rows : List Nat) (w : World) (e : Ending) (w' : World) : Prop :=
  ∃ a cap, e = .returned (fval gen a rows.length cap) ∧ VRow w' a (u64s rows) ∧ (∀ ad, a = some ad → w.heap.size ≤ ad.block ∧ ad.block < w'.heap.size) ∧ Below w.heap.size w w'
set_option maxRecDepth 100000 in
set_option maxHeartbeats 2000000 in
theorem canonR_is (a : Option Addr) (cap gen : Nat) (rows : List Nat) (w : World) (hf : FAt w a gen rows) (ys : List Nat) (hys : canonL gen rows = ys) :
    Calls Tryz.prog 110 #[fval gen a rows.length cap] w (FOne gen ys w) := by
  have HF := Lib.hid hf
  have hgen := hf.gen
  have hlen := hf.len
  have HY := Lib.hid hys
  obtain ⟨i0, hi, hz0, hz1, hz2⟩ := info_parts infoU
  obtain ⟨len, hl⟩ : ∃ len, rows.length = len := ⟨_, rfl⟩
  have HL := Lib.hid hl
  rw [hl] at hlen ⊢
  unfold fval
  clear hf hl hys
  go_enter Tryz.func110, Tryz.ntmps110
  go_wp2_with fail
  go_loopw [4] (fun i wr => ∃ (k : Nat) (v : Value), k ≤ len ∧ i = .int .i64 k ∧ Hid (wr.heap[w.heap.size]? = some (.cells #[.int .u64 (gen : Int), .slice a len cap] 29 (0, 0))) ∧ Hid (wr.heap[w.heap.size + 1]? = some (.cells #[.int .u64 0, .slice none 0 0] 29 (0, 0))) ∧ Hid (wr.heap[w.heap.size + 1 + 1]? = some (.cells #[.int .u64 (gen : Int), v] 29 (0, 0))) ∧ Hid (wr.ownsRow w.heap.size 26 1 v k (u64s (ys.take k))) ∧ Below w.heap.size w wr) (fun i _ => len - (intOf i).toNat)
  case atStart =>
    refine ⟨0, .slice none 0 0, Nat.zero_le _, rfl, ?_, ?_, ?_, World.ownsRow_nil _ _ _ _, (((Below.refl _ _).alloc (Nat.le_refl _) _).alloc (by simp) _).alloc (by simp; omega) _⟩
    · show _ = _
      exact heap_allocd (heap_allocd (heapV_new _ _) _) _
    · show _ = _
      have := heap_allocd (heapV_new (w.alloc (.cells #[.int .u64 (gen : Int), .slice a len cap] 29)) (.cells #[.int .u64 0, .slice none 0 0] 29)) (.cells #[.int .u64 (gen : Int), .slice none 0 0] 29)
      rwa [World.size_alloc] at this
    · show _ = _
      have := heapV_new ((w.alloc (.cells #[.int .u64 (gen : Int), .slice a len cap] 29)).alloc (.cells #[.int .u64 0, .slice none 0 0] 29)) (.cells #[.int .u64 (gen : Int), .slice none 0 0] 29)
      rwa [World.size_alloc, World.size_alloc] at this
  case round =>
    obtain ⟨k, v, hk, rfl, B0, B1, B2, HO, hb⟩ := hrel
    obtain ⟨c0, c1, cf⟩ := two_cells B0.out
    obtain ⟨e0, e1, ef⟩ := two_cells B2.out
    have ef1 := ef 1
    by_cases hlt : k < len
    · obtain ⟨ba, offa, x, rfl, hx, hx64, hba, a0⟩ := (HF.out.below hb).at_ (by rw [HL.out]; exact hlt)
      have g0 : (0 : Int) ≤ (k : Int) := by omega
      have g1 : (k : Int) < (len : Int) := by omega
      have hag := andn_go x gen hx64 hgen
      obtain ⟨y, hy⟩ : ∃ y, andn x gen = y := ⟨_, rfl⟩
      rw [hy] at hag
      have HT : Hid (ys.take (k + 1) = ys.take k ++ [y]) := by show _ = _; rw [← HY.out, canonL_take hx, hy]
      clear hx hy cf ef
      go_wp2_with fail
      have q1 : (wr.alloc (.cells #[.int .u64 (y : Int)] 26)).cell? ⟨w.heap.size + 1 + 1, 1, none⟩ = some v := (two_cells (heap_allocd B2.out _)).2.1
      go_region_law (first | (refine step_append_lies (wr.drew.alloc (.cells #[.int .u64 (y : Int)] 26)) ?_ (.tmp 16) (.tmp 25) 27 ?_ w.heap.size 26 i0 _ 1 8 Tryz.underlying27 hi hz0 hz1 hz2 ?_ ?_ v k (u64s (ys.take k)) ?_ ?_ ⟨wr.heap.size, 0, none⟩ 1 1 [.int .u64 (y : Int)] ?_ ?_ ?_ ?_ ?_ ?_ ?_ ?_ (wr.heap.size + 1) ?_ ?_; rfl; rfl; rfl; omega; rfl; exact (HO.out : (wr.drew).ownsRow _ _ _ _ _ _).alloc _; rfl; rfl; exact (World.news_of_block (cs := #[.int .u64 (y : Int)]) (t := 26) (fr := (0, 0)) (heapV_new wr.drew _)); simp [Value.oneCell']; omega; (unfold maxLen; omega); omega; (have := hb.size; simp; omega); simp; intro gg cp w5 hown1 hgrow hat hlt5; have hB4 : Below w.heap.size w w5 := (hb.drew.alloc hb.size _).grown hgrow (by have := hb.size; simp; omega) (fun j e => (HO.out.lt j e).1); have D0 := Lib.hid (heap_grown (heap_allocd (w := wr.drew) B0.out (.cells #[.int .u64 (y : Int)] 26)) (by decide) ((HO.out : (wr.drew).ownsRow _ _ _ _ _ _).alloc _) hgrow); have D1 := Lib.hid (heap_grown (heap_allocd (w := wr.drew) B1.out (.cells #[.int .u64 (y : Int)] 26)) (by decide) ((HO.out : (wr.drew).ownsRow _ _ _ _ _ _).alloc _) hgrow); have D2 := Lib.hid (heap_grown (heap_allocd (w := wr.drew) B2.out (.cells #[.int .u64 (y : Int)] 26)) (by decide) ((HO.out : (wr.drew).ownsRow _ _ _ _ _ _).alloc _) hgrow); obtain ⟨_, d1, df⟩ := two_cells D2.out; have df1 := df 1; clear df) | fail)
      all_goals
        have HO5 := Lib.hid (show (w5.setCell ⟨w.heap.size + 1 + 1, 1, none⟩ (.slice (some ⟨gg, 0, none⟩) (k + 1) cp)).ownsRow w.heap.size 26 1 (.slice (some ⟨gg, 0, none⟩) (k + 1) cp) (k + 1) (u64s (ys.take (k + 1))) by
          rw [HT.out, u64s_snoc]; exact hown1.kept (grownBy_set w5 _ _ _) (.inr (not_row D2.out (by decide) hown1).symm))
        have N0 := Lib.hid (heap_other (B := w.heap.size + 1 + 1) (j := 1) (c := .slice (some ⟨gg, 0, none⟩) (k + 1) cp) D0.out (by omega))
        have N1 := Lib.hid (heap_other (B := w.heap.size + 1 + 1) (j := 1) (c := .slice (some ⟨gg, 0, none⟩) (k + 1) cp) D1.out (by omega))
        have N2 := Lib.hid (two_set1 (c := .slice (some ⟨gg, 0, none⟩) (k + 1) cp) D2.out)
        have NB := Lib.hid (hB4.setCell (p := ⟨w.heap.size + 1 + 1, 1, none⟩) (by simp; omega) (.slice (some ⟨gg, 0, none⟩) (k + 1) cp))
        clear hown1 hgrow hat d1 df1 q1 c0 c1 e0 e1 ef1
        go_wp2
        go_roundw
        case rel => exact ⟨k + 1, _, by omega, by go_num, N0, N1, N2, HO5, NB.out⟩
        case measure => simp [intOf]; omega
    · obtain rfl : k = len := by omega
      obtain ⟨r0, r1, rf⟩ := two_cells B1.out
      have rf0 := rf 0; have rf1 := rf 1
      have HYL : Hid (ys.length = k) := by show _ = _; rw [← HY.out, canonL_length, HL.out]
      have HO2 : Hid (wr.ownsRow w.heap.size 26 1 v k (u64s ys)) := by
        have := HO.out
        rwa [List.take_of_length_le (by rw [HYL.out]; exact Nat.le_refl _)] at this
      obtain ⟨hvn, a3, cap3, hv3, hr3, hf3⟩ := VRow.of_own HO2.out
      subst hv3
      have HR3 := Lib.hid hr3; have HF3 := Lib.hid hf3
      have N1 := Lib.hid (two_set1 (c := .slice a3 (u64s ys).length cap3) (two_set0 (c := .int .u64 (gen : Int)) B1.out))
      have NR := Lib.hid (vrow_set (vrow_set HR3.out (B := w.heap.size + 1) (j := 0) (v := .int .u64 (gen : Int)) (fun ad e x => not_row B1.out (by decide) HO2.out (by rw [e]; show _ = some _; rw [x]))) (B := w.heap.size + 1) (j := 1) (v := .slice a3 (u64s ys).length cap3) (fun ad e x => not_row B1.out (by decide) HO2.out (by rw [e]; show _ = some _; rw [x])))
      have NB := Lib.hid ((hb.setCell (p := ⟨w.heap.size + 1, 0, none⟩) (by simp) (.int .u64 (gen : Int))).setCell (p := ⟨w.heap.size + 1, 1, none⟩) (by simp) (.slice a3 (u64s ys).length cap3))
      obtain ⟨s0, s1, _⟩ := two_cells N1.out
      clear cf ef hvn hr3 hf3
      go_wp2
      refine bodyPost_ret (v := .agg #[.int .u64 (gen : Int), .slice a3 (u64s ys).length cap3]) ?_ rfl ⟨a3, cap3, by rw [fval, u64s_length], NR.out, fun ad e => ⟨(HF3.out ad e).1, by simpa [World.setCell] using (HF3.out ad e).2⟩, NB.out⟩
      simp [results, Tryz.results110, go_sem, s0, s1]
end Go.Proofs.YtjcminoaiieckaaGreatDoor
namespace Go.Proofs.YtjcminoaiieckaaGreatDoor
open Go.RowKit
set_option linter.unusedVariables false
theorem bcell {w : World} {B : Nat} {cs : Array Value} {T : TypeId} (h : w.heap[B]? = some (.cells cs T (0, 0))) {j : Nat} {v : Value} (hj : cs[j]? = some v) : w.cell? ⟨B, j, none⟩ = some v := by
  unfold World.cell?; simp only [h]; exact hj
theorem tri_cells {w : World} {B : Nat} {a b c : Value} {T : TypeId} (h : w.heap[B]? = some (.cells #[a, b, c] T (0, 0))) : w.cell? ⟨B, 0, none⟩ = some a ∧ w.cell? ⟨B, 1, none⟩ = some b ∧ w.cell? ⟨B, 2, none⟩ = some c := ⟨bcell h rfl, bcell h rfl, bcell h rfl⟩
theorem six_cells {w : World} {B : Nat} {a b c d e f : Value} {T : TypeId} (h : w.heap[B]? = some (.cells #[a, b, c, d, e, f] T (0, 0))) : w.cell? ⟨B, 0, none⟩ = some a ∧ w.cell? ⟨B, 1, none⟩ = some b ∧ w.cell? ⟨B, 2, none⟩ = some c ∧ w.cell? ⟨B, 3, none⟩ = some d ∧ w.cell? ⟨B, 4, none⟩ = some e ∧ w.cell? ⟨B, 5, none⟩ = some f := ⟨bcell h rfl, bcell h rfl, bcell h rfl, bcell h rfl, bcell h rfl, bcell h rfl⟩
theorem SIn.two {w : World} {d : Nat} {f : SF} {p q : SV} (h : SIn w (d + 1) (.mk f [p, q])) : f.len = 2 ∧ ∃ b off, f.a = some ⟨b, off, none⟩ ∧ b < w.heap.size ∧ S3 w b off p.f ∧ S3 w b (off + 3) q.f ∧ SIn w d p ∧ SIn w d q := by
  obtain ⟨h1, h2, h3⟩ := h
  refine ⟨h1.symm, ?_⟩
  rcases h2 with h2 | ⟨b, off, ha, hc⟩
  · cases h2
  · have c0 := hc 0 p rfl
    have c1 := hc 1 q rfl
    simp only [Nat.zero_mul, Nat.add_zero, Nat.one_mul] at c0 c1
    exact ⟨b, off, ha, cell_lt c0.1, c0, c1, h3 p (by simp), h3 q (by simp)⟩
theorem two_of {α : Type} {l : List α} (h : l.length = 2) : ∃ p q, l = [p, q] := by
  match l, h with
  | [p, q], _ => exact ⟨p, q, rfl⟩
set_option maxRecDepth 100000 in
set_option maxHeartbeats 2000000 in
theorem spaceA_is (d : Nat) (s : SV) (e0 : Int) (w : World) (hs : SIn w d s) (he : spaceE s = e0) :
    Calls Tryz.prog 18 #[s.f.val] w fun e w' => e = .returned (.int .i64 e0) ∧ Below w.heap.size w w' := by
  match d, s, hs with
  | d + 1, .mk ⟨t, n, a, l, c⟩ ps, hs =>
  show Calls Tryz.prog 18 #[.agg #[.int .i64 t, .int .i64 n, .slice a l c]] w _
  have hl : ps.length = l := hs.1
  have hB := Lib.hid (sbox w #[.int .i64 t, .int .i64 n, .slice a l c] 25)
  have BX := Lib.hid (heapV_new w (.cells #[.int .i64 t, .int .i64 n, .slice a l c] 25))
  obtain ⟨r, hr⟩ : ∃ r, plainB t n l = r := ⟨_, rfl⟩
  have HR := Lib.hid hr
  cases r
  · by_cases ht : t = 5
    · subst ht
      by_cases hn : n = 0
      · subst hn
        by_cases hl2 : l = 2
        · subst hl2
          obtain ⟨p, q, rfl⟩ := two_of hl
          obtain ⟨_, b, off, ha, hb, hp, hq, _, _⟩ := hs.two
          obtain rfl : a = some ⟨b, off, none⟩ := ha
          obtain ⟨⟨pt, pn, pa, pl, pc⟩, pps⟩ := p
          obtain ⟨⟨qt, qn, qa, ql, qc⟩, qps⟩ := q
          have HP := Lib.hid hp; have HQ := Lib.hid hq
          obtain ⟨r1, hr1⟩ : ∃ r, plainB pt pn pl = r := ⟨_, rfl⟩
          obtain ⟨r2, hr2⟩ : ∃ r, plainB qt qn ql = r := ⟨_, rfl⟩
          have HR1 := Lib.hid hr1; have HR2 := Lib.hid hr2
          have HE : Hid ((if r1 = true ∧ r2 = true then (0 : Int) else 50) = e0) := by
            show _ = _
            rw [← he]; simp [spaceE, hr, SV.pl, SV.f, hr1, hr2]
          clear hr hs hl hp hq hr1 hr2 he
          cases r1
          · have HE2 : Hid ((50 : Int) = e0) := by show _ = _; rw [← HE.out]; simp
            clear HE
            go_enter Tryz.func18, Tryz.ntmps18
            go_wp2_with fail
            refine (plain_is 5 0 _ 2 c false HR.out _).mono ?_
            rintro e w1 ⟨rfl, hb1⟩
            obtain ⟨x0, x1, x2⟩ := tri_cells (heap_old BX.out hb1)
            obtain ⟨y0, y1, y2⟩ := (HP.out.below hB.out).below hb1
            dsimp only [SV.f] at y0 y1 y2
            go_wp2_with fail
            refine (plain_is pt pn _ pl pc false HR1.out _).mono ?_
            rintro e w2 ⟨rfl, hb2⟩
            go_wp2
            go_ret
            exact ⟨rint HE2.out, (hB.out.trans (hb1.mono hB.out.size)).trans (hb2.mono (hB.out.trans (hb1.mono hB.out.size)).size)⟩
          · have HE2 : Hid ((if r2 = true then (0 : Int) else 50) = e0) := by show _ = _; rw [← HE.out]; simp
            clear HE
            go_enter Tryz.func18, Tryz.ntmps18
            go_wp2_with fail
            refine (plain_is 5 0 _ 2 c false HR.out _).mono ?_
            rintro e w1 ⟨rfl, hb1⟩
            have hB1 := hB.out.trans (hb1.mono hB.out.size)
            obtain ⟨x0, x1, x2⟩ := tri_cells (heap_old BX.out hb1)
            obtain ⟨y0, y1, y2⟩ := (HP.out.below hB.out).below hb1
            dsimp only [SV.f] at y0 y1 y2
            go_wp2_with fail
            refine (plain_is pt pn _ pl pc true HR1.out _).mono ?_
            rintro e w2 ⟨rfl, hb2⟩
            have hB2 := hB1.trans (hb2.mono hB1.size)
            clear x0 x1 x2 y0 y1 y2
            obtain ⟨x0, x1, x2⟩ := tri_cells (heap_old (heap_old BX.out hb1) hb2)
            obtain ⟨y0, y1, y2⟩ := ((HQ.out.below hB.out).below hb1).below hb2
            dsimp only [SV.f] at y0 y1 y2
            simp only [Nat.add_assoc, Nat.reduceAdd] at y1 y2
            go_wp2_with fail
            refine (plain_is qt qn _ ql qc r2 HR2.out _).mono ?_
            rintro e w3 ⟨rfl, hb3⟩
            have hB3 := hB2.trans (hb3.mono hB2.size)
            cases r2
            all_goals
              go_wp2
              go_ret
              exact ⟨rint HE2.out, hB3⟩
        · have HE : Hid ((50 : Int) = e0) := by
            show _ = _
            rw [← he]; simp [spaceE, hr, hl, hl2]
          have hl3 : ((l : Int) == 2) = false := by simp; omega
          clear hr hs hl he hl2
          go_enter Tryz.func18, Tryz.ntmps18
          go_wp2_with fail
          refine (plain_is 5 0 a l c false HR.out _).mono ?_
          rintro e w1 ⟨rfl, hb1⟩
          obtain ⟨x0, x1, x2⟩ := tri_cells (heap_old BX.out hb1)
          go_wp2
          go_ret
          exact ⟨rint HE.out, hB.out.trans (hb1.mono hB.out.size)⟩
      · have HE : Hid ((50 : Int) = e0) := by show _ = _; rw [← he]; simp [spaceE, hr, hn]
        have hn3 : (n == 0) = false := by simp [hn]
        clear hr hs hl he hn
        go_enter Tryz.func18, Tryz.ntmps18
        go_wp2_with fail
        refine (plain_is 5 n a l c false HR.out _).mono ?_
        rintro e w1 ⟨rfl, hb1⟩
        obtain ⟨x0, x1, x2⟩ := tri_cells (heap_old BX.out hb1)
        go_wp2
        go_ret
        exact ⟨rint HE.out, hB.out.trans (hb1.mono hB.out.size)⟩
    · have HE : Hid ((50 : Int) = e0) := by show _ = _; rw [← he]; simp [spaceE, hr, ht]
      have hn3 : (t == 5) = false := by simp [ht]
      clear hr hs hl he ht
      go_enter Tryz.func18, Tryz.ntmps18
      go_wp2_with fail
      refine (plain_is t n a l c false HR.out _).mono ?_
      rintro e w1 ⟨rfl, hb1⟩
      obtain ⟨x0, x1, x2⟩ := tri_cells (heap_old BX.out hb1)
      go_wp2
      go_ret
      exact ⟨rint HE.out, hB.out.trans (hb1.mono hB.out.size)⟩
  · have HE : Hid ((0 : Int) = e0) := by show _ = _; rw [← he]; simp [spaceE, hr]
    clear hr hs hl he
    go_enter Tryz.func18, Tryz.ntmps18
    go_wp2_with fail
    refine (plain_is t n a l c true HR.out _).mono ?_
    rintro e w1 ⟨rfl, hb1⟩
    go_wp2
    go_ret
    exact ⟨rint HE.out, hB.out.trans (hb1.mono hB.out.size)⟩
theorem spaceE_flat {f : SF} {ps : List SV} (h : f.tag ≠ 5) : spaceE (.mk f ps) = if plainB f.tag f.dim f.len = true then 0 else 50 := by simp [spaceE, h]
set_option maxRecDepth 100000 in
set_option maxHeartbeats 2000000 in
theorem spaceR_flat (t n : Int) (a : Option Addr) (l c : Nat) (ht : t ≠ 5) (r : Bool) (hr : plainB t n l = r) (w : World) :
    Calls Tryz.prog 19 #[.agg #[.int .i64 t, .int .i64 n, .slice a l c]] w fun e w' => e = .returned (.int .i64 (if r = true then 0 else 50)) ∧ Below w.heap.size w w' := by
  have hB := Lib.hid (sbox w #[.int .i64 t, .int .i64 n, .slice a l c] 25)
  have e5 : (t == 5) = false := by simp [ht]
  by_cases ht2 : t = 1 ∨ t = 2 ∨ t = 3 ∨ t = 4
  · by_cases hl : l = 0
    · subst hl
      by_cases h0 : 0 ≤ n
      · rcases ht2 with rfl | rfl | rfl | rfl
        · by_cases hm : n = 0
          · subst hm
            obtain rfl : true = r := by rw [← hr]; simp [plainB]
            clear hr
            go_enter Tryz.func19, Tryz.ntmps19
            go_wp2_with fail
            go_ret
            exact ⟨by simp, hB.out⟩
          · obtain rfl : false = r := by rw [← hr]; simp [plainB]; omega
            have hm2 : (n == 0) = false := by simp [hm]
            clear hr
            go_enter Tryz.func19, Tryz.ntmps19
            go_wp2_with fail
            go_ret
            exact ⟨by simp, hB.out⟩
        · by_cases hm : n ≤ 1048576
          · obtain rfl : true = r := by rw [← hr]; simp [plainB, h0, hm]
            clear hr
            go_enter Tryz.func19, Tryz.ntmps19
            go_wp2_with fail
            go_ret
            exact ⟨by simp, hB.out⟩
          · obtain rfl : false = r := by rw [← hr]; simp [plainB, hm]
            clear hr
            go_enter Tryz.func19, Tryz.ntmps19
            go_wp2_with fail
            go_ret
            exact ⟨by simp, hB.out⟩
        all_goals
          by_cases hm : n ≤ 64
          · obtain rfl : true = r := by rw [← hr]; simp [plainB, h0, hm]
            clear hr
            go_enter Tryz.func19, Tryz.ntmps19
            go_wp2_with fail
            go_ret
            exact ⟨by simp, hB.out⟩
          · obtain rfl : false = r := by rw [← hr]; simp [plainB, hm]
            clear hr
            go_enter Tryz.func19, Tryz.ntmps19
            go_wp2_with fail
            go_ret
            exact ⟨by simp, hB.out⟩
      · obtain rfl : false = r := by rw [← hr]; rcases ht2 with rfl | rfl | rfl | rfl <;> simp [plainB] <;> omega
        have hn0 : (n == 0) = false := by simp; omega
        clear hr
        rcases ht2 with rfl | rfl | rfl | rfl
        all_goals
          go_enter Tryz.func19, Tryz.ntmps19
          go_wp2_with fail
          go_ret
          exact ⟨by simp, hB.out⟩
    · obtain rfl : false = r := by rw [← hr]; simp [plainB, hl]
      have hl2 : ((l : Int) == 0) = false := by simp; omega
      clear hr
      rcases ht2 with rfl | rfl | rfl | rfl
      · by_cases hm : n = 0
        · subst hm
          go_enter Tryz.func19, Tryz.ntmps19
          go_wp2_with fail
          go_ret
          exact ⟨by simp, hB.out⟩
        · have hm2 : (n == 0) = false := by simp [hm]
          go_enter Tryz.func19, Tryz.ntmps19
          go_wp2_with fail
          go_ret
          exact ⟨by simp, hB.out⟩
      all_goals
        by_cases h0 : 0 ≤ n
        · by_cases hm : n ≤ 64
          · have hm3 : n ≤ 1048576 := by omega
            go_enter Tryz.func19, Tryz.ntmps19
            go_wp2_with fail
            go_ret
            exact ⟨by simp, hB.out⟩
          · by_cases hm3 : n ≤ 1048576
            all_goals
              go_enter Tryz.func19, Tryz.ntmps19
              go_wp2_with fail
              go_ret
              exact ⟨by simp, hB.out⟩
        · go_enter Tryz.func19, Tryz.ntmps19
          go_wp2_with fail
          go_ret
          exact ⟨by simp, hB.out⟩
  · obtain rfl : false = r := by rw [← hr]; simp only [not_or] at ht2; simp [plainB, ht2]
    have e1 : (t == 1) = false := by simp; omega
    have e2 : (t == 2) = false := by simp; omega
    have e3 : (t == 3) = false := by simp; omega
    have e4 : (t == 4) = false := by simp; omega
    clear hr ht2 ht
    go_enter Tryz.func19, Tryz.ntmps19
    go_wp2_with fail
    go_ret
    exact ⟨by simp, hB.out⟩
end Go.Proofs.YtjcminoaiieckaaGreatDoor
namespace Go.Proofs.YtjcminoaiieckaaGreatDoor
open Go.RowKit
set_option linter.unusedVariables false
def onlyB (cost facts cells parts : Bool) (f : WF) : Bool := (cost || decide (f.c = 0)) && ((facts || (decide (f.g = 0) && decide (f.rl = 0))) && ((cells || decide (f.cl = 0)) && (parts || decide (f.pl = 0))))
def bareB (t : Int) (f : WF) : Bool := onlyB (!f.z && decide (t = 2)) (!f.z && decide (t = 3)) (!f.z && decide (t = 4)) (!f.z && decide (t = 5)) f
theorem wbox (w : World) (a b : Array Value) (S T : TypeId) : Below w.heap.size w ((w.alloc (.cells a S)).alloc (.cells b T)) := ((Below.refl _ _).alloc (Nat.le_refl _) _).alloc (by simp) _
theorem two_boxes2 (w : World) (a b : Array Value) (S T : TypeId) : ((w.alloc (.cells a S)).alloc (.cells b T)).heap[w.heap.size]? = some (.cells a S (0, 0)) ∧ ((w.alloc (.cells a S)).alloc (.cells b T)).heap[w.heap.size + 1]? = some (.cells b T (0, 0)) := by
  refine ⟨heap_allocd (heapV_new w _) _, ?_⟩
  have := heapV_new (w.alloc (.cells a S)) (.cells b T)
  rwa [World.size_alloc] at this
theorem nat_eq0 (n : Nat) : ((n : Int) == 0) = decide (n = 0) := by
  rw [Bool.eq_iff_iff]; simp
theorem int_eq0 (n : Int) : (n == 0) = decide (n = 0) := by
  rw [Bool.eq_iff_iff]; simp
set_option maxRecDepth 100000 in
set_option maxHeartbeats 4000000 in
theorem bare_is (t n : Int) (a : Option Addr) (l c0 : Nat) (f : WF) (r : Bool) (hr : bareB t f = r) (w : World) :
    Calls Tryz.prog 98 #[.agg #[.int .i64 t, .int .i64 n, .slice a l c0], f.val] w fun e w' => e = .returned (.bool r) ∧ Below w.heap.size w w' := by
  obtain ⟨z, c, g, ra, rl, rc, rows, ca, cl, cc, cells, pa, pl, pc⟩ := f
  show Calls Tryz.prog 98 #[.agg #[.int .i64 t, .int .i64 n, .slice a l c0], .agg #[.bool z, .int .i64 c, .int .u64 (g : Int), .slice ra rl rc, .slice ca cl cc, .slice pa pl pc]] w _
  have hB := Lib.hid (wbox w #[.int .i64 t, .int .i64 n, .slice a l c0] #[.bool z, .int .i64 c, .int .u64 (g : Int), .slice ra rl rc, .slice ca cl cc, .slice pa pl pc] 25 33)
  obtain ⟨t0, t1⟩ := two_boxes2 w #[.int .i64 t, .int .i64 n, .slice a l c0] #[.bool z, .int .i64 c, .int .u64 (g : Int), .slice ra rl rc, .slice ca cl cc, .slice pa pl pc] 25 33
  obtain ⟨x0, x1, x2⟩ := tri_cells t0
  obtain ⟨y0, y1, y2, y3, y4, y5⟩ := six_cells t1
  obtain ⟨W0, hW0⟩ : ∃ W, (w.alloc (.cells #[.int .i64 t, .int .i64 n, .slice a l c0] 25)).alloc (.cells #[.bool z, .int .i64 c, .int .u64 (g : Int), .slice ra rl rc, .slice ca cl cc, .slice pa pl pc] 33) = W := ⟨_, rfl⟩
  rw [hW0] at hB x0 x1 x2 y0 y1 y2 y3 y4 y5
  obtain ⟨b1, h1⟩ : ∃ b, (c == 0) = b := ⟨_, rfl⟩
  obtain ⟨b2, h2⟩ : ∃ b, (decide (g = 0) && decide (rl = 0)) = b := ⟨_, rfl⟩
  obtain ⟨b3, h3⟩ : ∃ b, ((cl : Int) == 0) = b := ⟨_, rfl⟩
  obtain ⟨b4, h4⟩ : ∃ b, ((pl : Int) == 0) = b := ⟨_, rfl⟩
  have H2 := Lib.hid h2
  have HR : Hid ((((!z && decide (t = 2)) || b1) && (((!z && decide (t = 3)) || b2) && (((!z && decide (t = 4)) || b3) && ((!z && decide (t = 5)) || b4)))) = r) := by
    show _ = _
    rw [← hr, ← h1, ← h2, ← h3, ← h4, nat_eq0, nat_eq0, int_eq0]; rfl
  clear hr t0 t1 h2
  have hg : ((g : Int) == 0) = decide (g = 0) := nat_eq0 g
  have hrl : ((rl : Int) == 0) = decide (rl = 0) := nat_eq0 rl
  have HZ : ∀ (b : Bool), b2 = b → Hid (b2 = b) := fun _ h => h
  have h2 := H2.out
  have ht : t = 2 ∨ t = 3 ∨ t = 4 ∨ t = 5 ∨ ((t == 2) = false ∧ (t == 3) = false ∧ (t == 4) = false ∧ (t == 5) = false ∧ decide (t = 2) = false ∧ decide (t = 3) = false ∧ decide (t = 4) = false ∧ decide (t = 5) = false) := by
    by_cases e2 : t = 2
    · exact .inl e2
    by_cases e3 : t = 3
    · exact .inr (.inl e3)
    by_cases e4 : t = 4
    · exact .inr (.inr (.inl e4))
    by_cases e5 : t = 5
    · exact .inr (.inr (.inr (.inl e5)))
    · exact .inr (.inr (.inr (.inr ⟨by simp [e2], by simp [e3], by simp [e4], by simp [e5], by simp [e2], by simp [e3], by simp [e4], by simp [e5]⟩)))
  have HTT := Lib.hid ht
  clear ht
  by_cases hg0 : g = 0
  · have hg1 : ((g : Int) == 0) = true := by simp [hg0]
    have h2' : (decide (rl = 0)) = b2 := by simpa [hg0] using h2
    rw [h2'] at hrl
    clear h2 h2' hg HZ hg0
    cases z
    · rcases HTT.out with rfl | rfl | rfl | rfl | ⟨e2, e3, e4, e5, d2, d3, d4, d5⟩
      case inr.inr.inr.inr =>
        have D := Lib.hid (And.intro d2 (And.intro d3 (And.intro d4 d5)))
        clear d2 d3 d4 d5
        go_enter Tryz.func98, Tryz.ntmps98
        go_upto_region 15 with fail
        clear h1 h3 h4 hrl
        cases b1 <;> cases b2 <;> cases b3 <;> cases b4 <;> (go_wp2; go_ret; exact ⟨rbool (by rw [← HR.out, D.out.1, D.out.2.1, D.out.2.2.1, D.out.2.2.2]; rfl), hB.out⟩)
      all_goals
        go_enter Tryz.func98, Tryz.ntmps98
        go_upto_region 15 with fail
        clear h1 h3 h4 hrl
        cases b1 <;> cases b2 <;> cases b3 <;> cases b4 <;> (go_wp2; go_ret; exact ⟨rbool (by rw [← HR.out]; rfl), hB.out⟩)
    · go_enter Tryz.func98, Tryz.ntmps98
      go_upto_region 15 with fail
      clear h1 h3 h4 hrl
      cases b1 <;> cases b2 <;> cases b3 <;> cases b4 <;> (go_wp2; go_ret; exact ⟨rbool (by rw [← HR.out]; rfl), hB.out⟩)
  · have hg1 : ((g : Int) == 0) = false := by simp [hg0]
    obtain rfl : b2 = false := by rw [← h2]; simp [hg0]
    clear h2 hg HZ hrl hg0
    cases z
    · rcases HTT.out with rfl | rfl | rfl | rfl | ⟨e2, e3, e4, e5, d2, d3, d4, d5⟩
      case inr.inr.inr.inr =>
        have D := Lib.hid (And.intro d2 (And.intro d3 (And.intro d4 d5)))
        clear d2 d3 d4 d5
        go_enter Tryz.func98, Tryz.ntmps98
        go_upto_region 15 with fail
        clear h1 h3 h4 hg1
        cases b1 <;> cases b3 <;> cases b4 <;> (go_wp2; go_ret; exact ⟨rbool (by rw [← HR.out, D.out.1, D.out.2.1, D.out.2.2.1, D.out.2.2.2]; rfl), hB.out⟩)
      all_goals
        go_enter Tryz.func98, Tryz.ntmps98
        go_upto_region 15 with fail
        clear h1 h3 h4 hg1
        cases b1 <;> cases b3 <;> cases b4 <;> (go_wp2; go_ret; exact ⟨rbool (by rw [← HR.out]; rfl), hB.out⟩)
    · go_enter Tryz.func98, Tryz.ntmps98
      go_upto_region 15 with fail
      clear h1 h3 h4 hg1
      cases b1 <;> cases b3 <;> cases b4 <;> (go_wp2; go_ret; exact ⟨rbool (by rw [← HR.out]; rfl), hB.out⟩)
end Go.Proofs.YtjcminoaiieckaaGreatDoor
namespace Go.Proofs.YtjcminoaiieckaaGreatDoor
open Go.RowKit
set_option linter.unusedVariables false
def URow (w : World) (a : Option Addr) (xs : List Nat) : Prop := VRow w a (u64s xs)
theorem URow.at_ {w : World} {a : Option Addr} {xs : List Nat} (h : URow w a xs) {i : Nat} (hi : i < xs.length) :
    ∃ b off r, a = some ⟨b, off, none⟩ ∧ xs[i]? = some r ∧ b < w.heap.size ∧ w.cell? ⟨b, off + i, none⟩ = some (.int .u64 (r : Int)) := by
  obtain ⟨b, off, v, ha, hv, hb, hc⟩ := VRow.at_ h (i := i) (by rw [u64s_length]; exact hi)
  obtain ⟨r, hr, rfl⟩ := u64s_at hv
  exact ⟨b, off, r, ha, hr, hb, hc⟩
theorem list_eq_of {xs ys : List Nat} (hl : xs.length = ys.length) (h : ∀ (i x y : Nat), xs[i]? = some x → ys[i]? = some y → x = y) : xs = ys := by
  apply List.ext_getElem hl
  intro i h1 h2
  exact h i _ _ (List.getElem?_eq_getElem h1) (List.getElem?_eq_getElem h2)
set_option maxRecDepth 100000 in
set_option maxHeartbeats 1000000 in
theorem equal_is (a b : Option Addr) (capa capb : Nat) (xs ys : List Nat) (w : World) (hx : xs.length ≤ 100) (hy : ys.length ≤ 100) (hra : URow w a xs) (hrb : URow w b ys) (r : Bool) (hr : (xs == ys) = r) (n m : Nat) (hn : xs.length = n) (hm : ys.length = m) :
    Calls Tryz.prog 75 #[.slice a n capa, .slice b m capb] w fun e w' => e = .returned (.bool r) ∧ Below w.heap.size w w' := by
  have HA := Lib.hid hra; have HB := Lib.hid hrb; have HR := Lib.hid hr; have HN := Lib.hid hn; have HM := Lib.hid hm
  rw [hn] at hx; rw [hm] at hy
  clear hra hrb hr hn hm
  by_cases hnm : n = m
  · subst hnm
    go_enter Tryz.func75, Tryz.ntmps75
    go_wp2_with fail
    go_loopw [13] (fun i wr => ∃ k : Nat, k ≤ n ∧ i = .int .i64 k ∧ Hid (∀ i x y, i < k → xs[i]? = some x → ys[i]? = some y → x = y) ∧ Below w.heap.size w wr) (fun i _ => n - (intOf i).toNat)
    case atStart => exact ⟨0, Nat.zero_le _, rfl, fun i x y h => by omega, Below.refl _ _⟩
    case round =>
      obtain ⟨k, hk, rfl, HK, hb⟩ := hrel
      by_cases hlt : k < n
      · obtain ⟨ba, offa, x, rfl, hx1, hba, a0⟩ := URow.at_ (VRow.below HA.out hb) (i := k) (by rw [HN.out]; exact hlt)
        obtain ⟨bb, offb, y, rfl, hy1, hbb, b0⟩ := URow.at_ (VRow.below HB.out hb) (i := k) (by rw [HM.out]; exact hlt)
        have g0 : (0 : Int) ≤ (k : Int) := by omega
        have g1 : (k : Int) < (n : Int) := by omega
        by_cases hxy : x = y
        · subst hxy
          have HNX : Hid (∀ i x y, i < k + 1 → xs[i]? = some x → ys[i]? = some y → x = y) := fun i u v hi hu hv => by
            by_cases e : i = k
            · subst e; rw [hx1] at hu; rw [hy1] at hv; cases hu; cases hv; rfl
            · exact HK.out i u v (by omega) hu hv
          clear hx1 hy1
          go_wp2_with fail
          go_quiet (fail)
          go_wp2
          go_roundw
          case rel => exact ⟨k + 1, by omega, by go_num, HNX, below_drewN hb _⟩
          case measure => simp [intOf]; omega
        · have hne : ((x : Int) != (y : Int)) = true := by simp; omega
          have HX : Hid (false = r) := by
            show _ = _
            rw [← HR.out]
            symm
            rw [beq_eq_false_iff_ne]
            rintro rfl
            rw [hx1] at hy1; cases hy1; exact hxy rfl
          clear hx1 hy1 hxy
          go_wp2_with fail
          go_quiet (fail)
          go_wp2
          go_ret
          exact ⟨rbool HX.out, below_drewN hb _⟩
      · have HX : Hid (true = r) := by
          show _ = _
          rw [← HR.out]
          symm
          rw [beq_iff_eq]
          refine list_eq_of (by rw [HN.out, HM.out]) fun i x y hi hj => ?_
          have := (List.getElem?_eq_some_iff.1 hi).1
          rw [HN.out] at this
          exact HK.out i x y (by omega) hi hj
        go_wp2
        go_ret
        exact ⟨rbool HX.out, hb⟩
  · have HX : Hid (false = r) := by
      show _ = _
      rw [← HR.out]
      symm
      rw [beq_eq_false_iff_ne]
      rintro rfl
      exact hnm (HN.out.symm.trans HM.out)
    have hne : ((n : Int) != (m : Int)) = true := by simp; omega
    clear hnm
    go_enter Tryz.func75, Tryz.ntmps75
    go_wp2
    go_ret
    exact ⟨rbool HX.out, Below.refl _ _⟩
def sameB (ga : Nat) (xs : List Nat) (gb : Nat) (ys : List Nat) : Bool := ga == gb && xs == ys
theorem two_boxes (w : World) (a b : Array Value) (T : TypeId) : ((w.alloc (.cells a T)).alloc (.cells b T)).heap[w.heap.size]? = some (.cells a T (0, 0)) ∧ ((w.alloc (.cells a T)).alloc (.cells b T)).heap[w.heap.size + 1]? = some (.cells b T (0, 0)) := by
  refine ⟨heap_allocd (heapV_new _ _) _, ?_⟩
  have := heapV_new (w.alloc (.cells a T)) (.cells b T)
  rwa [World.size_alloc] at this
set_option maxRecDepth 100000 in
set_option maxHeartbeats 1000000 in
theorem sameA_is (a b : Option Addr) (capa capb ga gb : Nat) (xs ys : List Nat) (w : World) (hx : xs.length ≤ 100) (hy : ys.length ≤ 100) (hra : URow w a xs) (hrb : URow w b ys) (r : Bool) (hr : sameB ga xs gb ys = r) (n m : Nat) (hn : xs.length = n) (hm : ys.length = m) :
    Calls Tryz.prog 48 #[fval ga a n capa, fval gb b m capb] w fun e w' => e = .returned (.bool r) ∧ Below w.heap.size w w' := by
  unfold fval
  have hB0 : Below w.heap.size w ((w.alloc (.cells #[.int .u64 (ga : Int), .slice a n capa] 29)).alloc (.cells #[.int .u64 (gb : Int), .slice b m capb] 29)) := ((Below.refl _ _).alloc (Nat.le_refl _) _).alloc (by simp) _
  have HA := Lib.hid (VRow.below hra hB0); have HB := Lib.hid (VRow.below hrb hB0); have HN := Lib.hid hn; have HM := Lib.hid hm
  have HX := Lib.hid hx; have HY := Lib.hid hy
  by_cases hg : ga = gb
  · subst hg
    have HR : Hid ((xs == ys) = r) := by show _ = _; rw [← hr, sameB]; simp
    clear hra hrb hr hn hm hx hy
    go_enter Tryz.func48, Tryz.ntmps48
    go_wp2_with fail
    refine (equal_is a b capa capb xs ys _ HX.out HY.out HA.out HB.out r HR.out n m HN.out HM.out).mono ?_
    rintro e w1 ⟨rfl, hb1⟩
    go_wp2
    go_ret
    exact ⟨by simp, hB0.trans (hb1.mono hB0.size)⟩
  · have HR : Hid (false = r) := by show _ = _; rw [← hr, sameB, beq_eq_false_iff_ne.2 hg]; rfl
    have hne : ((ga : Int) == (gb : Int)) = false := by simp; omega
    clear hra hrb hr hn hm hx hy hg
    go_enter Tryz.func48, Tryz.ntmps48
    go_wp2
    go_ret
    exact ⟨rbool HR.out, hB0⟩
set_option maxRecDepth 100000 in
set_option maxHeartbeats 1000000 in
theorem sameR_is (a b : Option Addr) (capa capb ga gb : Nat) (xs ys : List Nat) (w : World) (hx : xs.length ≤ 100) (hy : ys.length ≤ 100) (hra : URow w a xs) (hrb : URow w b ys) (r : Bool) (hr : sameB ga xs gb ys = r) (n m : Nat) (hn : xs.length = n) (hm : ys.length = m) :
    Calls Tryz.prog 47 #[fval ga a n capa, fval gb b m capb] w fun e w' => e = .returned (.bool r) ∧ Below w.heap.size w w' := by
  unfold fval
  have hB0 : Below w.heap.size w ((w.alloc (.cells #[.int .u64 (ga : Int), .slice a n capa] 29)).alloc (.cells #[.int .u64 (gb : Int), .slice b m capb] 29)) := ((Below.refl _ _).alloc (Nat.le_refl _) _).alloc (by simp) _
  have HA := Lib.hid hra; have HB := Lib.hid hrb; have HN := Lib.hid hn; have HM := Lib.hid hm
  obtain ⟨t0, t1⟩ := two_boxes w #[.int .u64 (ga : Int), .slice a n capa] #[.int .u64 (gb : Int), .slice b m capb] 29
  have T0 := Lib.hid t0; have T1 := Lib.hid t1
  rw [hn] at hx; rw [hm] at hy
  by_cases hg : ga = gb
  · subst hg
    have HR : Hid ((xs == ys) = r) := by show _ = _; rw [← hr, sameB]; simp
    clear hra hrb hr hn hm t0 t1
    by_cases hnm : n = m
    · subst hnm
      go_enter Tryz.func47, Tryz.ntmps47
      go_wp2_with fail
      go_loopw [5] (fun i wr => ∃ k : Nat, k ≤ n ∧ i = .int .i64 k ∧ Hid (∀ i x y, i < k → xs[i]? = some x → ys[i]? = some y → x = y) ∧ Hid (wr.heap[w.heap.size]? = some (.cells #[.int .u64 (ga : Int), .slice a n capa] 29 (0, 0))) ∧ Hid (wr.heap[w.heap.size + 1]? = some (.cells #[.int .u64 (ga : Int), .slice b n capb] 29 (0, 0))) ∧ Below w.heap.size w wr) (fun i _ => n - (intOf i).toNat)
      case atStart => exact ⟨0, Nat.zero_le _, rfl, fun i x y h => by omega, T0, T1, hB0⟩
      case round =>
        obtain ⟨k, hk, rfl, HK, B0, B1, hb⟩ := hrel
        obtain ⟨c0, c1, _⟩ := two_cells B0.out
        obtain ⟨d0, d1, _⟩ := two_cells B1.out
        by_cases hlt : k < n
        · obtain ⟨ba, offa, x, rfl, hx1, hba, a0⟩ := URow.at_ (VRow.below HA.out hb) (i := k) (by rw [HN.out]; exact hlt)
          obtain ⟨bb, offb, y, rfl, hy1, hbb, b0⟩ := URow.at_ (VRow.below HB.out hb) (i := k) (by rw [HM.out]; exact hlt)
          have g0 : (0 : Int) ≤ (k : Int) := by omega
          have g1 : (k : Int) < (n : Int) := by omega
          by_cases hxy : x = y
          · subst hxy
            have HNX : Hid (∀ i x y, i < k + 1 → xs[i]? = some x → ys[i]? = some y → x = y) := fun i u v hi hu hv => by
              by_cases e : i = k
              · subst e; rw [hx1] at hu; rw [hy1] at hv; cases hu; cases hv; rfl
              · exact HK.out i u v (by omega) hu hv
            clear hx1 hy1
            go_wp2_with fail
            go_quiet (fail)
            go_wp2
            go_roundw
            case rel => exact ⟨k + 1, by omega, by go_num, HNX, B0, B1, below_drewN hb _⟩
            case measure => simp [intOf]; omega
          · have hne : ((x : Int) != (y : Int)) = true := by simp; omega
            have HX : Hid (false = r) := by
              show _ = _
              rw [← HR.out]
              symm
              rw [beq_eq_false_iff_ne]
              rintro rfl
              rw [hx1] at hy1; cases hy1; exact hxy rfl
            clear hx1 hy1 hxy
            go_wp2_with fail
            go_quiet (fail)
            go_wp2
            go_ret
            exact ⟨rbool HX.out, below_drewN hb _⟩
        · have HX : Hid (true = r) := by
            show _ = _
            rw [← HR.out]
            symm
            rw [beq_iff_eq]
            refine list_eq_of (by rw [HN.out, HM.out]) fun i x y hi hj => ?_
            have := (List.getElem?_eq_some_iff.1 hi).1
            rw [HN.out] at this
            exact HK.out i x y (by omega) hi hj
          go_wp2
          go_ret
          exact ⟨rbool HX.out, hb⟩
    · have HX : Hid (false = r) := by
        show _ = _
        rw [← HR.out]
        symm
        rw [beq_eq_false_iff_ne]
        rintro rfl
        exact hnm (HN.out.symm.trans HM.out)
      have hne : ((n : Int) != (m : Int)) = true := by simp; omega
      clear hnm
      go_enter Tryz.func47, Tryz.ntmps47
      go_wp2
      go_ret
      exact ⟨rbool HX.out, hB0⟩
  · have HR : Hid (false = r) := by show _ = _; rw [← hr, sameB, beq_eq_false_iff_ne.2 hg]; rfl
    have hne : ((ga : Int) != (gb : Int)) = true := by simp; omega
    clear hra hrb hr hn hm hg t0 t1
    go_enter Tryz.func47, Tryz.ntmps47
    go_wp2
    go_ret
    exact ⟨rbool HR.out, hB0⟩
end Go.Proofs.YtjcminoaiieckaaGreatDoor
namespace Go.Proofs.YtjcminoaiieckaaGreatDoor
open Go.RowKit
set_option linter.unusedVariables false
def clearB (gen : Nat) (rows : List Nat) : Bool := rows.all fun r => r &&& gen == 0
def checkE (n : Int) (gen : Nat) (rows : List Nat) : Int := if dimB n = true then (if (shapeB n.toNat gen rows && clearB gen rows) = true then 0 else 30) else 31
theorem check_shaped {n : Int} {gen : Nat} {rows : List Nat} {e : Int} (h : shapedE n gen rows = e) (he : e ≠ 0) : checkE n gen rows = e := by
  unfold shapedE at h
  unfold checkE
  split at h
  · rename_i hd
    rw [if_pos hd]
    split at h
    · exact absurd h.symm he
    · rename_i hs
      rw [if_neg (by intro x; rw [Bool.and_eq_true] at x; exact hs x.1)]
      exact h
  · rename_i hd
    rw [if_neg hd]; exact h
theorem check_clear {n : Int} {gen : Nat} {rows : List Nat} (h : shapedE n gen rows = 0) : checkE n gen rows = if clearB gen rows = true then 0 else 30 := by
  unfold shapedE at h
  unfold checkE
  split at h
  · rename_i hd
    rw [if_pos hd]
    split at h
    · rename_i hs
      rw [hs, Bool.true_and]
    · cases h
  · cases h
set_option maxRecDepth 100000 in
set_option maxHeartbeats 1000000 in
theorem checkA_is (n : Int) (a : Option Addr) (cap gen : Nat) (rows : List Nat) (w : World) (hf : FAt w a gen rows) (r : Int) (hr : checkE n gen rows = r) (len : Nat) (hl : rows.length = len) :
    Calls Tryz.prog 99 #[.int .i64 n, fval gen a len cap] w fun e w' => e = .returned (.int .i64 r) ∧ Below w.heap.size w w' := by
  have HF := Lib.hid hf
  have hgen := hf.gen
  have hlen := hf.len
  have hB0 : Below w.heap.size w (w.alloc (.cells #[.int .u64 (gen : Int), .slice a len cap] 29)) := (Below.refl _ _).alloc (Nat.le_refl _) _
  have HF1 : Hid (FAt (w.alloc (.cells #[.int .u64 (gen : Int), .slice a len cap] 29)) a gen rows) := hf.below hB0
  have T0 := Lib.hid (heapV_new w (.cells #[.int .u64 (gen : Int), .slice a len cap] 29))
  have HL := Lib.hid hl
  rw [hl] at hlen
  obtain ⟨s, hs⟩ : ∃ s, shapedE n gen rows = s := ⟨_, rfl⟩
  have HS := Lib.hid hs
  unfold fval
  clear hf hl
  have call : ∀ W, FAt W a gen rows → Calls Tryz.prog 136 #[.int .i64 n, fval gen a len cap] W fun e w' => e = .returned (.int .i64 s) ∧ Below W.heap.size W w' := fun W hW => by
    have := shaped_is n a cap gen rows W hW s HS.out
    rwa [HL.out] at this
  unfold fval at call
  have HCALL := Lib.hid call
  clear call
  by_cases h0 : s = 0
  · subst h0
    have HRR : Hid ((if clearB gen rows = true then (0 : Int) else 30) = r) := by show _ = _; rw [← hr, check_clear hs]
    clear hr hs
    go_enter Tryz.func99, Tryz.ntmps99
    go_wp2_with fail
    refine (HCALL.out _ HF1.out).mono ?_
    rintro e w1 ⟨rfl, hb1⟩
    have hB1 := hB0.trans (hb1.mono hB0.size)
    have T1 := Lib.hid (heap_old T0.out hb1)
    obtain ⟨c0, c1, _⟩ := two_cells T1.out
    have HF2 := Lib.hid (HF1.out.below hb1)
    go_wp2_with fail
    go_loopw [17] (fun i wr => ∃ k : Nat, k ≤ len ∧ i = .int .i64 k ∧ Hid (∀ (i : Nat) x, i < k → rows[i]? = some x → (x &&& gen == 0) = true) ∧ w1 = wr) (fun i _ => len - (intOf i).toNat)
    case atStart => exact ⟨0, Nat.zero_le _, rfl, fun i x h => by omega, rfl⟩
    case round =>
      obtain ⟨k, hk, rfl, HK, rfl⟩ := hrel
      by_cases hlt : k < len
      · obtain ⟨ba, offa, x, rfl, hx, hx64, hba, a0⟩ := HF2.out.at_ (by rw [HL.out]; exact hlt)
        have g0 : (0 : Int) ≤ (k : Int) := by omega
        have g1 : (k : Int) < (len : Int) := by omega
        have hax := u64_and_nat x gen hx64 hgen
        obtain ⟨q, hq⟩ : ∃ q, x &&& gen = q := ⟨_, rfl⟩
        rw [hq] at hax
        by_cases hq0 : q = 0
        · have HN : Hid (∀ (i : Nat) y, i < k + 1 → rows[i]? = some y → (y &&& gen == 0) = true) := fun i y hi hy => by
            by_cases e : i = k
            · subst e; rw [hx] at hy; cases hy; rw [hq, hq0]; rfl
            · exact HK.out i y (by omega) hy
          subst hq0
          clear hx hq
          go_wp2
          go_roundw
          case rel => exact ⟨k + 1, by omega, by go_num, HN, by trivial⟩
          case measure => simp [intOf]; omega
        · have HR : Hid (30 = r) := by
            show _ = _
            have : clearB gen rows = false := all_bad (p := fun r => r &&& gen == 0) hx (by simp only [hq]; simpa using hq0)
            rw [← HRR.out, this]; rfl
          have hne : ((q : Int) != 0) = true := by simp; omega
          clear hx hq hq0
          go_wp2
          go_ret
          exact ⟨rint HR.out, hB1⟩
      · have HR : Hid (0 = r) := by
          show _ = _
          have : clearB gen rows = true := all_drop (p := fun r => r &&& gen == 0) HK.out (by rw [HL.out]; omega)
          rw [← HRR.out, this]; rfl
        go_wp2
        go_ret
        exact ⟨rint HR.out, hB1⟩
  · have HR : Hid (s = r) := by show _ = _; rw [← hr, check_shaped hs h0]
    have hne : (s != 0) = true := by simpa using h0
    clear hr hs h0
    go_enter Tryz.func99, Tryz.ntmps99
    go_wp2_with fail
    refine (HCALL.out _ HF1.out).mono ?_
    rintro e w1 ⟨rfl, hb1⟩
    go_wp2
    go_ret
    exact ⟨rint HR.out, hB0.trans (hb1.mono hB0.size)⟩

theorem andn_same {r gen : Nat} (hr : r < 18446744073709551616) (hg : gen < 18446744073709551616) : (andn r gen = r) ↔ (r &&& gen = 0) := by
  constructor
  · intro h
    apply Nat.eq_of_testBit_eq
    intro j
    have := congrArg (fun z => Nat.testBit z j) h
    simp only [andn_bit hr hg] at this
    rw [Nat.testBit_and, Nat.zero_testBit]
    cases h1 : r.testBit j
    · rfl
    · rw [h1] at this; simp at this; rw [this]; rfl
  · intro h
    apply Nat.eq_of_testBit_eq
    intro j
    rw [andn_bit hr hg]
    have := congrArg (fun z => Nat.testBit z j) h
    simp only [Nat.testBit_and, Nat.zero_testBit] at this
    cases h1 : r.testBit j
    · rfl
    · rw [h1] at this; simp at this; rw [this]; rfl
theorem canonL_same {gen : Nat} {rows : List Nat} (hg : gen < 18446744073709551616) (ha : ∀ r ∈ rows, r < 18446744073709551616) : (canonL gen rows == rows) = clearB gen rows := by
  rw [Bool.eq_iff_iff, beq_iff_eq]
  unfold clearB canonL
  rw [List.all_eq_true]
  constructor
  · intro h x hx
    obtain ⟨i, hi⟩ := List.getElem?_of_mem hx
    have : (rows.map fun r => andn r gen)[i]? = some x := by rw [h]; exact hi
    rw [List.getElem?_map, hi] at this
    have h2 : andn x gen = x := Option.some.inj this
    rw [(andn_same (ha x hx) hg).1 h2]; rfl
  · intro h
    have : ∀ r ∈ rows, andn r gen = r := fun r hr => (andn_same (ha r hr) hg).2 (by have := h r hr; simpa using this)
    conv => rhs; rw [← List.map_id rows]
    exact List.map_congr_left this
set_option maxRecDepth 100000 in
set_option maxHeartbeats 2000000 in
theorem checkR_is (n : Int) (a : Option Addr) (cap gen : Nat) (rows : List Nat) (w : World) (hf : FAt w a gen rows) (r : Int) (hr : checkE n gen rows = r) (len : Nat) (hl : rows.length = len) :
    Calls Tryz.prog 73 #[.int .i64 n, fval gen a len cap] w fun e w' => e = .returned (.int .i64 r) ∧ Below w.heap.size w w' := by
  have HF := Lib.hid hf
  have hgen := hf.gen
  have hlen := hf.len
  have hB0 : Below w.heap.size w (w.alloc (.cells #[.int .u64 (gen : Int), .slice a len cap] 29)) := (Below.refl _ _).alloc (Nat.le_refl _) _
  have HF1 : Hid (FAt (w.alloc (.cells #[.int .u64 (gen : Int), .slice a len cap] 29)) a gen rows) := hf.below hB0
  have T0 := Lib.hid (heapV_new w (.cells #[.int .u64 (gen : Int), .slice a len cap] 29))
  have HL := Lib.hid hl
  unfold fval
  cases hd : dimB n
  · have HR : Hid (31 = r) := by show _ = _; rw [← hr, checkE, hd]; rfl
    have HD := Lib.hid hd
    clear hr hd hf hl
    go_enter Tryz.func73, Tryz.ntmps73
    go_wp2_with fail
    refine (dim_is n false HD.out _).mono ?_
    rintro e w1 ⟨rfl, rfl⟩
    go_wp2
    go_ret
    exact ⟨rint HR.out, hB0⟩
  · have HD := Lib.hid hd
    obtain ⟨m, rfl, hm⟩ := dim_nat hd
    have HRR : Hid ((if (shapeB m gen rows && clearB gen rows) = true then (0 : Int) else 30) = r) := by show _ = _; rw [← hr, checkE, hd, if_pos rfl, Int.toNat_natCast]
    have hcs := canonL_same hf.gen hf.all
    have HCS := Lib.hid hcs
    have hcl := canonL_length gen rows
    obtain ⟨ys, hys⟩ : ∃ ys, canonL gen rows = ys := ⟨_, rfl⟩
    rw [hys] at HCS hcl
    have HYS := Lib.hid hys
    have HYL : Hid (ys.length = len) := hcl.trans hl
    have shp : ∀ (W : World) (b : Bool), shapeB m gen rows = b → FAt W a gen rows → Calls Tryz.prog 109 #[.int .i64 m, .agg #[.int .u64 (gen : Int), .slice a len cap]] W fun e w' => e = .returned (.bool b) ∧ Below W.heap.size W w' := fun W b hb hW => by
      have := shape_is m hm a cap gen rows W hW b hb
      rwa [hl] at this
    have can : ∀ (W : World), FAt W a gen rows → Calls Tryz.prog 110 #[.agg #[.int .u64 (gen : Int), .slice a len cap]] W (FOne gen ys W) := fun W hW => by
      have := canonR_is a cap gen rows W hW ys hys
      rwa [hl] at this
    have HSHP := Lib.hid shp; have HCAN := Lib.hid can
    rw [hl] at hlen
    have hylen : Hid (ys.length ≤ 100) := by show _ ≤ _; rw [HYL.out]; exact hlen
    have hrlen : Hid (rows.length ≤ 100) := by show _ ≤ _; rw [HL.out]; exact hlen
    clear hr hd hf hl hcs hcl hys shp can
    cases hsh : shapeB m gen rows
    · have HR : Hid (30 = r) := by show _ = _; rw [← HRR.out, hsh]; rfl
      have HSH := Lib.hid hsh
      obtain ⟨c0, c1, _⟩ := two_cells T0.out
      clear hsh
      go_enter Tryz.func73, Tryz.ntmps73
      go_wp2_with fail
      refine (dim_is m true HD.out _).mono ?_
      rintro e w1 ⟨rfl, rfl⟩
      go_wp2_with fail
      go_region_with (go_at_call 109; refine (HSHP.out _ false HSH.out (HF1.out.below (by first | exact Below.refl _ _ | exact (Below.refl _ _).drew))).mono ?_; rintro e w3 ⟨rfl, hb3⟩; have hB3 : Below w.heap.size w w3 := hB0.trans (Below.mono (by first | exact hb3 | exact Below.trans ((Below.refl _ _).drew) hb3) hB0.size))
      all_goals
        go_wp2
        go_ret
        exact ⟨rint HR.out, hB3⟩
    · have HSH := Lib.hid hsh
      obtain ⟨b, hb⟩ : ∃ b, clearB gen rows = b := ⟨_, rfl⟩
      have HSM : Hid (sameB gen ys gen rows = b) := by show _ = _; rw [sameB, HCS.out, hb]; simp
      have HR : Hid ((if b = true then (0 : Int) else 30) = r) := by show _ = _; rw [← HRR.out, hsh, hb]; rfl
      obtain ⟨c0, c1, _⟩ := two_cells T0.out
      clear hsh hb
      go_enter Tryz.func73, Tryz.ntmps73
      go_wp2_with fail
      refine (dim_is m true HD.out _).mono ?_
      rintro e w1 ⟨rfl, rfl⟩
      go_wp2_with fail
      go_region_with (first | (go_at_call 109; refine (HSHP.out _ true HSH.out (HF1.out.below (by first | exact Below.refl _ _ | exact (Below.refl _ _).drew))).mono ?_; rintro e w3 ⟨rfl, hb3⟩; have hB3 : Below w.heap.size w w3 := hB0.trans (Below.mono (by first | exact hb3 | exact Below.trans ((Below.refl _ _).drew) hb3) hB0.size); have HF3 := Lib.hid (HF.out.below hB3); obtain ⟨d0, d1, _⟩ := two_cells (heap_old T0.out (show Below _ _ w3 from (by first | exact hb3 | exact Below.trans ((Below.refl _ _).drew) hb3)))) | (go_at_call 110; refine (HCAN.out _ HF3.out).mono ?_; rintro e w4 ⟨a4, cap4, rfl, hr4, hf4, hb4⟩; have hB4 := hB3.trans (hb4.mono hB3.size); have HF4 := Lib.hid (HF3.out.below hb4); have HR4 := Lib.hid hr4; have k0 := (hb4.cell (p := ⟨w.heap.size, 0, none⟩) (cell_lt d0)).trans d0; have k1 := (hb4.cell (p := ⟨w.heap.size, 1, none⟩) (cell_lt d1)).trans d1) | (go_at_call 47; refine (sameR_is a4 a cap4 cap gen gen ys rows _ hylen.out hrlen.out HR4.out HF4.out.row b HSM.out _ len rfl HL.out).mono ?_; rintro e w5 ⟨rfl, hb5⟩; have hB5 := hB4.trans (hb5.mono hB4.size)))
      all_goals
        cases b
        · go_wp2
          go_ret
          exact ⟨rint HR.out, hB5⟩
        · go_wp2
          go_ret
          exact ⟨rint HR.out, hB5⟩
end Go.Proofs.YtjcminoaiieckaaGreatDoor
namespace Go.Proofs.YtjcminoaiieckaaGreatDoor
open Go.RowKit
set_option linter.unusedVariables false
theorem value_any (f k v : Int) (w : World) : Calls Tryz.prog 144 #[.agg #[.int .u64 f, .int .i64 k, .int .i64 v]] w fun e w' => e = .returned (.agg #[.int .u64 0, .int .i64 k, .int .i64 v]) ∧ (w.alloc (.cells #[.int .u64 0, .int .i64 k, .int .i64 v] 73)).alloc (.cells #[.int .u64 0, .int .i64 k, .int .i64 v] 73) = w' := by
  go_enter Tryz.func144, Tryz.ntmps144
  go_wp2
  refine bodyPost_ret (v := .agg #[.int .u64 0, .int .i64 k, .int .i64 v]) (by simp [results, Tryz.results144, go_sem]) rfl ⟨rfl, rfl⟩


set_option maxHeartbeats 1000000 in
theorem joined_00 (f f2 : Int) (w : World) : Calls Tryz.prog 142 #[.agg #[.int .u64 f, .int .i64 0, .int .i64 0], .agg #[.int .u64 f2, .int .i64 0, .int .i64 0]] w fun e w' => e = .returned (.agg #[.int .u64 (bits .or .u64 f f2), .int .i64 0, .int .i64 0]) ∧ Below w.heap.size w w' := by
  go_enter Tryz.func142, Tryz.ntmps142
  go_wp2
  go_region_with (go_at_call 144; refine (value_any _ _ _ _).mono ?_; rintro e w' ⟨rfl, rfl⟩)
  all_goals go_wp2
  all_goals refine bodyPost_ret (v := .agg #[.int .u64 (bits .or .u64 f f2), .int .i64 0, .int .i64 0]) (by simp [results, Tryz.results142, go_sem]) rfl ⟨rfl, ?_⟩
  all_goals repeat (first | exact Below.refl _ _ | refine Below.drew ?_ | (refine Below.setCell ?_ (by simp) _) | (refine Below.alloc ?_ (by simp; try omega) _))

set_option maxHeartbeats 1000000 in
theorem joined_01 (f f2 : Int) (v2 : Int) (w : World) : Calls Tryz.prog 142 #[.agg #[.int .u64 f, .int .i64 0, .int .i64 0], .agg #[.int .u64 f2, .int .i64 1, .int .i64 v2]] w fun e w' => e = .returned (.agg #[.int .u64 (bits .or .u64 f f2), .int .i64 1, .int .i64 v2]) ∧ Below w.heap.size w w' := by
  go_enter Tryz.func142, Tryz.ntmps142
  go_wp2
  go_region_with (go_at_call 144; refine (value_any _ _ _ _).mono ?_; rintro e w' ⟨rfl, rfl⟩)
  all_goals go_wp2
  all_goals refine bodyPost_ret (v := .agg #[.int .u64 (bits .or .u64 f f2), .int .i64 1, .int .i64 v2]) (by simp [results, Tryz.results142, go_sem]) rfl ⟨rfl, ?_⟩
  all_goals repeat (first | exact Below.refl _ _ | refine Below.drew ?_ | (refine Below.setCell ?_ (by simp) _) | (refine Below.alloc ?_ (by simp; try omega) _))

set_option maxHeartbeats 1000000 in
theorem joined_02 (f f2 : Int) (w : World) : Calls Tryz.prog 142 #[.agg #[.int .u64 f, .int .i64 0, .int .i64 0], .agg #[.int .u64 f2, .int .i64 2, .int .i64 0]] w fun e w' => e = .returned (.agg #[.int .u64 0, .int .i64 2, .int .i64 0]) ∧ Below w.heap.size w w' := by
  go_enter Tryz.func142, Tryz.ntmps142
  go_wp2
  go_region_with (go_at_call 144; refine (value_any _ _ _ _).mono ?_; rintro e w' ⟨rfl, rfl⟩)
  all_goals go_wp2
  all_goals refine bodyPost_ret (v := .agg #[.int .u64 0, .int .i64 2, .int .i64 0]) (by simp [results, Tryz.results142, go_sem]) rfl ⟨rfl, ?_⟩
  all_goals repeat (first | exact Below.refl _ _ | refine Below.drew ?_ | (refine Below.setCell ?_ (by simp) _) | (refine Below.alloc ?_ (by simp; try omega) _))

set_option maxHeartbeats 1000000 in
theorem joined_10 (f f2 : Int) (v : Int) (w : World) : Calls Tryz.prog 142 #[.agg #[.int .u64 f, .int .i64 1, .int .i64 v], .agg #[.int .u64 f2, .int .i64 0, .int .i64 0]] w fun e w' => e = .returned (.agg #[.int .u64 (bits .or .u64 f f2), .int .i64 1, .int .i64 v]) ∧ Below w.heap.size w w' := by
  go_enter Tryz.func142, Tryz.ntmps142
  go_wp2
  go_region_with (go_at_call 144; refine (value_any _ _ _ _).mono ?_; rintro e w' ⟨rfl, rfl⟩)
  all_goals go_wp2
  all_goals refine bodyPost_ret (v := .agg #[.int .u64 (bits .or .u64 f f2), .int .i64 1, .int .i64 v]) (by simp [results, Tryz.results142, go_sem]) rfl ⟨rfl, ?_⟩
  all_goals repeat (first | exact Below.refl _ _ | refine Below.drew ?_ | (refine Below.setCell ?_ (by simp) _) | (refine Below.alloc ?_ (by simp; try omega) _))

set_option maxHeartbeats 1000000 in
theorem joined_11 (f f2 : Int) (v : Int) (w : World) : Calls Tryz.prog 142 #[.agg #[.int .u64 f, .int .i64 1, .int .i64 v], .agg #[.int .u64 f2, .int .i64 1, .int .i64 v]] w fun e w' => e = .returned (.agg #[.int .u64 (bits .or .u64 f f2), .int .i64 1, .int .i64 v]) ∧ Below w.heap.size w w' := by
  go_enter Tryz.func142, Tryz.ntmps142
  go_wp2
  go_region_with (go_at_call 144; refine (value_any _ _ _ _).mono ?_; rintro e w' ⟨rfl, rfl⟩)
  all_goals go_wp2
  all_goals refine bodyPost_ret (v := .agg #[.int .u64 (bits .or .u64 f f2), .int .i64 1, .int .i64 v]) (by simp [results, Tryz.results142, go_sem]) rfl ⟨rfl, ?_⟩
  all_goals repeat (first | exact Below.refl _ _ | refine Below.drew ?_ | (refine Below.setCell ?_ (by simp) _) | (refine Below.alloc ?_ (by simp; try omega) _))

set_option maxHeartbeats 1000000 in
theorem joined_1x (f f2 : Int) (v v2 : Int) (hv : (v == v2) = false) (w : World) : Calls Tryz.prog 142 #[.agg #[.int .u64 f, .int .i64 1, .int .i64 v], .agg #[.int .u64 f2, .int .i64 1, .int .i64 v2]] w fun e w' => e = .returned (.agg #[.int .u64 0, .int .i64 2, .int .i64 0]) ∧ Below w.heap.size w w' := by
  go_enter Tryz.func142, Tryz.ntmps142
  go_wp2
  go_region_with (go_at_call 144; refine (value_any _ _ _ _).mono ?_; rintro e w' ⟨rfl, rfl⟩)
  all_goals go_wp2
  all_goals refine bodyPost_ret (v := .agg #[.int .u64 0, .int .i64 2, .int .i64 0]) (by simp [results, Tryz.results142, go_sem]) rfl ⟨rfl, ?_⟩
  all_goals repeat (first | exact Below.refl _ _ | refine Below.drew ?_ | (refine Below.setCell ?_ (by simp) _) | (refine Below.alloc ?_ (by simp; try omega) _))

set_option maxHeartbeats 1000000 in
theorem joined_12 (f f2 : Int) (v : Int) (w : World) : Calls Tryz.prog 142 #[.agg #[.int .u64 f, .int .i64 1, .int .i64 v], .agg #[.int .u64 f2, .int .i64 2, .int .i64 0]] w fun e w' => e = .returned (.agg #[.int .u64 0, .int .i64 2, .int .i64 0]) ∧ Below w.heap.size w w' := by
  go_enter Tryz.func142, Tryz.ntmps142
  go_wp2
  go_region_with (go_at_call 144; refine (value_any _ _ _ _).mono ?_; rintro e w' ⟨rfl, rfl⟩)
  all_goals go_wp2
  all_goals refine bodyPost_ret (v := .agg #[.int .u64 0, .int .i64 2, .int .i64 0]) (by simp [results, Tryz.results142, go_sem]) rfl ⟨rfl, ?_⟩
  all_goals repeat (first | exact Below.refl _ _ | refine Below.drew ?_ | (refine Below.setCell ?_ (by simp) _) | (refine Below.alloc ?_ (by simp; try omega) _))

set_option maxHeartbeats 1000000 in
theorem joined_20 (f f2 : Int) (w : World) : Calls Tryz.prog 142 #[.agg #[.int .u64 f, .int .i64 2, .int .i64 0], .agg #[.int .u64 f2, .int .i64 0, .int .i64 0]] w fun e w' => e = .returned (.agg #[.int .u64 0, .int .i64 2, .int .i64 0]) ∧ Below w.heap.size w w' := by
  go_enter Tryz.func142, Tryz.ntmps142
  go_wp2
  go_region_with (go_at_call 144; refine (value_any _ _ _ _).mono ?_; rintro e w' ⟨rfl, rfl⟩)
  all_goals go_wp2
  all_goals refine bodyPost_ret (v := .agg #[.int .u64 0, .int .i64 2, .int .i64 0]) (by simp [results, Tryz.results142, go_sem]) rfl ⟨rfl, ?_⟩
  all_goals repeat (first | exact Below.refl _ _ | refine Below.drew ?_ | (refine Below.setCell ?_ (by simp) _) | (refine Below.alloc ?_ (by simp; try omega) _))

set_option maxHeartbeats 1000000 in
theorem joined_21 (f f2 : Int) (v2 : Int) (w : World) : Calls Tryz.prog 142 #[.agg #[.int .u64 f, .int .i64 2, .int .i64 0], .agg #[.int .u64 f2, .int .i64 1, .int .i64 v2]] w fun e w' => e = .returned (.agg #[.int .u64 0, .int .i64 2, .int .i64 0]) ∧ Below w.heap.size w w' := by
  go_enter Tryz.func142, Tryz.ntmps142
  go_wp2
  go_region_with (go_at_call 144; refine (value_any _ _ _ _).mono ?_; rintro e w' ⟨rfl, rfl⟩)
  all_goals go_wp2
  all_goals refine bodyPost_ret (v := .agg #[.int .u64 0, .int .i64 2, .int .i64 0]) (by simp [results, Tryz.results142, go_sem]) rfl ⟨rfl, ?_⟩
  all_goals repeat (first | exact Below.refl _ _ | refine Below.drew ?_ | (refine Below.setCell ?_ (by simp) _) | (refine Below.alloc ?_ (by simp; try omega) _))

set_option maxHeartbeats 1000000 in
theorem joined_22 (f f2 : Int) (w : World) : Calls Tryz.prog 142 #[.agg #[.int .u64 f, .int .i64 2, .int .i64 0], .agg #[.int .u64 f2, .int .i64 2, .int .i64 0]] w fun e w' => e = .returned (.agg #[.int .u64 0, .int .i64 2, .int .i64 0]) ∧ Below w.heap.size w w' := by
  go_enter Tryz.func142, Tryz.ntmps142
  go_wp2
  go_region_with (go_at_call 144; refine (value_any _ _ _ _).mono ?_; rintro e w' ⟨rfl, rfl⟩)
  all_goals go_wp2
  all_goals refine bodyPost_ret (v := .agg #[.int .u64 0, .int .i64 2, .int .i64 0]) (by simp [results, Tryz.results142, go_sem]) rfl ⟨rfl, ?_⟩
  all_goals repeat (first | exact Below.refl _ _ | refine Below.drew ?_ | (refine Below.setCell ?_ (by simp) _) | (refine Below.alloc ?_ (by simp; try omega) _))
end Go.Proofs.YtjcminoaiieckaaGreatDoor
namespace Go.Proofs.YtjcminoaiieckaaGreatDoor
open Go.RowKit
set_option linter.unusedVariables false
def Cl.ok (c : Cl) : Prop := c.f < 18446744073709551616 ∧ kindOk c.f c.k c.v = true
def joinK (k v k2 v2 : Int) : Int := if k = 0 then k2 else if k2 = 0 then k else if k = 1 ∧ k2 = 1 ∧ v = v2 then 1 else 2
def joinV (k v k2 v2 : Int) : Int := if k = 0 then v2 else if k2 = 0 then v else if k = 1 ∧ k2 = 1 ∧ v = v2 then v else 0
def join (a b : Cl) : Cl := ⟨if joinK a.k a.v b.k b.v = 2 then 0 else a.f ||| b.f, joinK a.k a.v b.k b.v, joinV a.k a.v b.k b.v⟩

theorem kind_cases {f : Nat} {k v : Int} (h : kindOk f k v = true) : (k = 0 ∧ v = 0) ∨ k = 1 ∨ (k = 2 ∧ v = 0) := by
  unfold kindOk at h
  split at h
  · left; simp at h; exact ⟨by assumption, h⟩
  · split at h
    · right; left; assumption
    · split at h
      · right; right; simp at h; exact ⟨by assumption, h.1⟩
      · cases h
theorem or_cast (a b : Nat) (ha : a < 18446744073709551616) (hb : b < 18446744073709551616) : bits .or .u64 (a : Int) (b : Int) = ((a ||| b : Nat) : Int) := bits_or_u64_nat a b ha hb

def JoinPost (a b : Cl) (w : World) (e : Ending) (w' : World) : Prop := e = .returned (join a b).val ∧ Below w.heap.size w w'
theorem to_post {f f2 : Nat} {k v k2 v2 : Int} {F K V : Int} {w : World} (hF : F = ((if joinK k v k2 v2 = 2 then 0 else f ||| f2 : Nat) : Int)) (hK : K = joinK k v k2 v2) (hV : V = joinV k v k2 v2) :
    ∀ e w', (e = Ending.returned (.agg #[.int .u64 F, .int .i64 K, .int .i64 V]) ∧ Below w.heap.size w w') → JoinPost ⟨f, k, v⟩ ⟨f2, k2, v2⟩ w e w' := by
  rintro e w' ⟨rfl, hb⟩
  exact ⟨by simp only [join, Cl.val]; rw [hF, hK, hV], hb⟩

theorem joined_any (a b : Cl) (ha : a.ok) (hb : b.ok) (w : World) : Calls Tryz.prog 142 #[a.val, b.val] w (JoinPost a b w) := by
  obtain ⟨f, k, v⟩ := a
  obtain ⟨f2, k2, v2⟩ := b
  obtain ⟨hf, hk⟩ := ha
  obtain ⟨hf2, hk2⟩ := hb
  simp only at hf hk hf2 hk2
  have ho := or_cast f f2 hf hf2
  rcases kind_cases hk with ⟨rfl, rfl⟩ | rfl | ⟨rfl, rfl⟩ <;> rcases kind_cases hk2 with ⟨rfl, rfl⟩ | rfl | ⟨rfl, rfl⟩
  · exact (joined_00 f f2 w).mono (to_post (by simp [joinK, ho]) (by simp [joinK]) (by simp [joinV]))
  · exact (joined_01 f f2 v2 w).mono (to_post (by simp [joinK, ho]) (by simp [joinK]) (by simp [joinV]))
  · exact (joined_02 f f2 w).mono (to_post (by simp [joinK]) (by simp [joinK]) (by simp [joinV]))
  · exact (joined_10 f f2 v w).mono (to_post (by simp [joinK, ho]) (by simp [joinK]) (by simp [joinV]))
  · by_cases hv : v = v2
    · subst hv
      exact (joined_11 f f2 v w).mono (to_post (by simp [joinK, ho]) (by simp [joinK]) (by simp [joinV]))
    · exact (joined_1x f f2 v v2 (by simp [hv]) w).mono (to_post (by simp [joinK, hv]) (by simp [joinK, hv]) (by simp [joinV, hv]))
  · exact (joined_12 f f2 v w).mono (to_post (by simp [joinK]) (by simp [joinK]) (by simp [joinV]))
  · exact (joined_20 f f2 w).mono (to_post (by simp [joinK]) (by simp [joinK]) (by simp [joinV]))
  · exact (joined_21 f f2 v2 w).mono (to_post (by simp [joinK]) (by simp [joinK]) (by simp [joinV]))
  · exact (joined_22 f f2 w).mono (to_post (by simp [joinK]) (by simp [joinK]) (by simp [joinV]))
theorem check_is (d : Int) (a : Option Addr) (len cap : Nat) (cs : List Cl) (w : World) (c : Int) (hl : cs.length = len) (hm : cs.length ≤ maxLen) (hrow : CRow w a cs) (hbits : Bits cs) (hc : chkC d cs = c) :
    Calls Tryz.prog 100 #[.int .i64 d, .slice a len cap] w fun e w' => e = .returned (.int .i64 c) ∧ Below w.heap.size w w' := by
  subst hl; subst hc; exact ce_check_any d a cap cs w hm hrow hbits
def chk2C (d : Int) (xs ys : List Cl) : Int := if chkC d xs = 0 then chkC d ys else chkC d xs
theorem checkBoth_any (d : Int) (a b : Option Addr) (capa capb : Nat) (xs ys : List Cl) (w : World) (hma : xs.length ≤ maxLen) (hmb : ys.length ≤ maxLen) (hra : CRow w a xs) (hrb : CRow w b ys) (hba : Bits xs) (hbb : Bits ys) (c : Int) (hc : chk2C d xs ys = c) :
    Calls Tryz.prog 115 #[.int .i64 d, .slice a xs.length capa, .slice b ys.length capb] w fun e w' => e = .returned (.int .i64 c) ∧ Below w.heap.size w w' := by
  have HMA := Lib.hid hma; have HMB := Lib.hid hmb; have HRA := Lib.hid hra; have HRB := Lib.hid hrb; have HBA := Lib.hid hba; have HBB := Lib.hid hbb
  clear hma hmb hra hrb hba hbb
  by_cases h0 : chkC d xs = 0
  · have H0 := Lib.hid h0
    have H1 := Lib.hid (show chkC d ys = c by simpa [chk2C, h0] using hc)
    clear h0 hc
    go_enter Tryz.func115, Tryz.ntmps115
    go_wp2_with fail
    refine (check_is _ _ _ _ xs _ 0 rfl HMA.out HRA.out HBA.out H0.out).mono ?_
    rintro e w1 ⟨rfl, hb1⟩
    go_wp2_with fail
    refine (check_is _ _ _ _ ys _ c rfl HMB.out (HRB.out.below hb1) HBB.out H1.out).mono ?_
    rintro e w2 ⟨rfl, hb2⟩
    go_wp2
    go_ret
    exact ⟨rfl, hb1.trans (hb2.mono hb1.size)⟩
  · have H1 := Lib.hid (show chkC d xs = c by simpa [chk2C, h0] using hc)
    have hne : (c != 0) = true := by rw [← H1.out]; simpa using h0
    clear h0 hc
    go_enter Tryz.func115, Tryz.ntmps115
    go_wp2_with fail
    refine (check_is _ _ _ _ xs _ c rfl HMA.out HRA.out HBA.out H1.out).mono ?_
    rintro e w1 ⟨rfl, hb1⟩
    go_wp2
    go_ret
    exact ⟨rfl, hb1⟩
end Go.Proofs.YtjcminoaiieckaaGreatDoor
namespace Go.Proofs.YtjcminoaiieckaaGreatDoor
open Go.RowKit
set_option linter.unusedVariables false
def pwOk (t n : Int) (f : WF) : Bool := bareB t f && (f.z || (if t = 2 then decide (0 ≤ f.c) && decide (f.c ≤ n) else if t = 3 then decide (checkE n f.g f.rows = 0) else if t = 4 then decide (chkC n f.cells = 0) else true))
theorem plainB_tag {t n : Int} {l : Nat} (h : plainB t n l = true) : l = 0 ∧ (t = 1 ∨ t = 2 ∨ t = 3 ∨ t = 4) := by
  simp only [plainB, Bool.and_eq_true, decide_eq_true_eq] at h
  refine ⟨h.1, ?_⟩
  rcases h with ⟨_, h⟩
  by_cases h1 : t = 1
  · exact .inl h1
  by_cases h2 : t = 2
  · exact .inr (.inl h2)
  by_cases h3 : t = 3
  · exact .inr (.inr (.inl h3))
  by_cases h4 : t = 4
  · exact .inr (.inr (.inr h4))
  · simp [h1, h2, h3, h4] at h
theorem plainB_dim {t n : Int} {l : Nat} (h : plainB t n l = true) : 0 ≤ n ∧ n ≤ 1048576 ∧ (t = 1 → n = 0) ∧ ((t = 3 ∨ t = 4) → n ≤ 64) := by
  have ht := (plainB_tag h).2
  simp only [plainB, Bool.and_eq_true, decide_eq_true_eq] at h
  rcases h with ⟨_, h⟩
  rcases ht with rfl | rfl | rfl | rfl <;> simp at h <;> omega
theorem WF.At.fat {w : World} {f : WF} (h : f.At w) (hs : f.rl ≤ 100) : FAt w f.ra f.g f.rows := ⟨h.rows, h.g64, h.r64, by rw [h.rl]; exact hs⟩
set_option maxRecDepth 100000 in
set_option maxHeartbeats 4000000 in
theorem isA_plain (t n : Int) (a : Option Addr) (l c0 : Nat) (f : WF) (hp : plainB t n l = true) (hs : f.rl ≤ 100) (w : World) (hf : f.At w) (r : Bool) (hr : pwOk t n f = r) :
    Calls Tryz.prog 63 #[.agg #[.int .i64 t, .int .i64 n, .slice a l c0], f.val] w fun e w' => e = .returned (.bool r) ∧ Below w.heap.size w w' := by
  have HF0 := Lib.hid hf; have HS := Lib.hid hs
  obtain ⟨z, c, g, ra, rl, rc, rows, ca, cl, cc, cells, pa, pl, pc⟩ := f
  show Calls Tryz.prog 63 #[.agg #[.int .i64 t, .int .i64 n, .slice a l c0], .agg #[.bool z, .int .i64 c, .int .u64 (g : Int), .slice ra rl rc, .slice ca cl cc, .slice pa pl pc]] w _
  obtain ⟨bb, hbb⟩ : ∃ b, bareB t ⟨z, c, g, ra, rl, rc, rows, ca, cl, cc, cells, pa, pl, pc⟩ = b := ⟨_, rfl⟩
  have HBB := Lib.hid hbb
  have hB := Lib.hid (wbox w #[.int .i64 t, .int .i64 n, .slice a l c0] #[.bool z, .int .i64 c, .int .u64 (g : Int), .slice ra rl rc, .slice ca cl cc, .slice pa pl pc] 25 33)
  obtain ⟨t0, t1⟩ := two_boxes2 w #[.int .i64 t, .int .i64 n, .slice a l c0] #[.bool z, .int .i64 c, .int .u64 (g : Int), .slice ra rl rc, .slice ca cl cc, .slice pa pl pc] 25 33
  have T0 := Lib.hid t0; have T1 := Lib.hid t1
  obtain ⟨W0, hW0⟩ : ∃ W, (w.alloc (.cells #[.int .i64 t, .int .i64 n, .slice a l c0] 25)).alloc (.cells #[.bool z, .int .i64 c, .int .u64 (g : Int), .slice ra rl rc, .slice ca cl cc, .slice pa pl pc] 33) = W := ⟨_, rfl⟩
  rw [hW0] at hB T0 T1
  obtain ⟨x0, x1, x2⟩ := tri_cells T0.out
  obtain ⟨y0, y1, y2, y3, y4, y5⟩ := six_cells T1.out
  have ht := (plainB_tag hp).2
  clear hf hs t0 t1 hbb hp
  cases bb
  · have HR : Hid (false = r) := by show _ = _; rw [← hr, pwOk, HBB.out]; rfl
    clear hr ht
    go_enter Tryz.func63, Tryz.ntmps63
    go_wp2_with fail
    refine (bare_is t n a l c0 ⟨z, c, g, ra, rl, rc, rows, ca, cl, cc, cells, pa, pl, pc⟩ false HBB.out _).mono ?_
    rintro e w1 ⟨rfl, hb1⟩
    go_wp2
    go_ret
    exact ⟨rbool HR.out, hB.out.trans (hb1.mono hB.out.size)⟩
  have HX : Hid (∀ W : World, Below W0.heap.size W0 W → Hid ((W.cell? ⟨w.heap.size, 0, none⟩ = some (.int .i64 t) ∧ W.cell? ⟨w.heap.size, 1, none⟩ = some (.int .i64 n) ∧ W.cell? ⟨w.heap.size, 2, none⟩ = some (.slice a l c0)) ∧ (W.cell? ⟨w.heap.size + 1, 0, none⟩ = some (.bool z) ∧ W.cell? ⟨w.heap.size + 1, 1, none⟩ = some (.int .i64 c) ∧ W.cell? ⟨w.heap.size + 1, 2, none⟩ = some (.int .u64 (g : Int)) ∧ W.cell? ⟨w.heap.size + 1, 3, none⟩ = some (.slice ra rl rc) ∧ W.cell? ⟨w.heap.size + 1, 4, none⟩ = some (.slice ca cl cc) ∧ W.cell? ⟨w.heap.size + 1, 5, none⟩ = some (.slice pa pl pc)))) := fun W h => ⟨tri_cells (heap_old T0.out h), six_cells (heap_old T1.out h)⟩
  have HR : Hid ((z || (if t = 2 then decide (0 ≤ c) && decide (c ≤ n) else if t = 3 then decide (checkE n g rows = 0) else if t = 4 then decide (chkC n cells = 0) else true)) = r) := by show _ = _; rw [← hr, pwOk, HBB.out]; rfl
  have he5 : (t == 5) = false := by simp; omega
  clear hr T0 T1
  cases z
  · rcases ht with rfl | rfl | rfl | rfl
    · have HR2 : Hid (true = r) := by show _ = _; rw [← HR.out]; simp
      go_enter Tryz.func63, Tryz.ntmps63
      go_wp2_with fail
      refine (bare_is _ n a l c0 ⟨false, c, g, ra, rl, rc, rows, ca, cl, cc, cells, pa, pl, pc⟩ true HBB.out _).mono ?_
      rintro e w1 ⟨rfl, hb1⟩
      obtain ⟨⟨p0, p1, p2⟩, q0, q1, q2, q3, q4, q5⟩ := (HX.out _ hb1).out
      go_wp2_with fail
      go_ret
      exact ⟨rbool HR2.out, hB.out.trans (hb1.mono hB.out.size)⟩
    · by_cases hc0 : 0 ≤ c
      · have HR2 : Hid (decide (c ≤ n) = r) := by show _ = _; rw [← HR.out]; simp [hc0]
        go_enter Tryz.func63, Tryz.ntmps63
        go_wp2_with fail
        refine (bare_is _ n a l c0 ⟨false, c, g, ra, rl, rc, rows, ca, cl, cc, cells, pa, pl, pc⟩ true HBB.out _).mono ?_
        rintro e w1 ⟨rfl, hb1⟩
        obtain ⟨⟨p0, p1, p2⟩, q0, q1, q2, q3, q4, q5⟩ := (HX.out _ hb1).out
        go_wp2_with fail
        go_ret
        exact ⟨rbool HR2.out, hB.out.trans (hb1.mono hB.out.size)⟩
      · have HR3 : Hid (false = r) := by show _ = _; rw [← HR.out]; simp [hc0]
        go_enter Tryz.func63, Tryz.ntmps63
        go_wp2_with fail
        refine (bare_is _ n a l c0 ⟨false, c, g, ra, rl, rc, rows, ca, cl, cc, cells, pa, pl, pc⟩ true HBB.out _).mono ?_
        rintro e w1 ⟨rfl, hb1⟩
        obtain ⟨⟨p0, p1, p2⟩, q0, q1, q2, q3, q4, q5⟩ := (HX.out _ hb1).out
        go_wp2_with fail
        go_ret
        exact ⟨rbool HR3.out, hB.out.trans (hb1.mono hB.out.size)⟩
    · obtain ⟨ck, hck⟩ : ∃ k, checkE n g rows = k := ⟨_, rfl⟩
      have HCK := Lib.hid hck
      have HR3 : Hid ((ck == 0) = r) := by show _ = _; rw [← HR.out, hck, int_eq0]; simp
      clear hck
      go_enter Tryz.func63, Tryz.ntmps63
      go_wp2_with fail
      refine (bare_is _ n a l c0 ⟨false, c, g, ra, rl, rc, rows, ca, cl, cc, cells, pa, pl, pc⟩ true HBB.out _).mono ?_
      rintro e w1 ⟨rfl, hb1⟩
      obtain ⟨⟨p0, p1, p2⟩, q0, q1, q2, q3, q4, q5⟩ := (HX.out _ hb1).out
      have hB1 := hB.out.trans (hb1.mono hB.out.size)
      go_wp2_with fail
      refine (checkA_is n ra rc g rows _ ((HF0.out.below hB1).fat HS.out) ck HCK.out rl HF0.out.rl).mono ?_
      rintro e w2 ⟨rfl, hb2⟩
      go_wp2_with fail
      go_ret
      exact ⟨rbool HR3.out, hB1.trans (hb2.mono hB1.size)⟩
    · obtain ⟨ck, hck⟩ : ∃ k, chkC n cells = k := ⟨_, rfl⟩
      have HCK := Lib.hid hck
      have HR3 : Hid ((ck == 0) = r) := by show _ = _; rw [← HR.out, hck, int_eq0]; simp
      clear hck
      go_enter Tryz.func63, Tryz.ntmps63
      go_wp2_with fail
      refine (bare_is _ n a l c0 ⟨false, c, g, ra, rl, rc, rows, ca, cl, cc, cells, pa, pl, pc⟩ true HBB.out _).mono ?_
      rintro e w1 ⟨rfl, hb1⟩
      obtain ⟨⟨p0, p1, p2⟩, q0, q1, q2, q3, q4, q5⟩ := (HX.out _ hb1).out
      have hB1 := hB.out.trans (hb1.mono hB.out.size)
      go_wp2_with fail
      refine (check_is n ca cl cc cells _ ck HF0.out.cl (by rw [HF0.out.cl]; exact HF0.out.cmax) (HF0.out.below hB1).cells HF0.out.bits HCK.out).mono ?_
      rintro e w2 ⟨rfl, hb2⟩
      go_wp2_with fail
      go_ret
      exact ⟨rbool HR3.out, hB1.trans (hb2.mono hB1.size)⟩
  · have HR2 : Hid (true = r) := by show _ = _; rw [← HR.out]; rfl
    clear HR ht
    go_enter Tryz.func63, Tryz.ntmps63
    go_wp2_with fail
    refine (bare_is _ n a l c0 ⟨true, c, g, ra, rl, rc, rows, ca, cl, cc, cells, pa, pl, pc⟩ true HBB.out _).mono ?_
    rintro e w1 ⟨rfl, hb1⟩
    obtain ⟨⟨p0, p1, p2⟩, q0, q1, q2, q3, q4, q5⟩ := (HX.out _ hb1).out
    go_wp2_with fail
    go_ret
    exact ⟨rbool HR2.out, hB.out.trans (hb1.mono hB.out.size)⟩
end Go.Proofs.YtjcminoaiieckaaGreatDoor
namespace Go.Proofs.YtjcminoaiieckaaGreatDoor
open Go.RowKit
set_option linter.unusedVariables false
def mixL (ys xs : List Nat) (k : Nat) : List Nat := ys.take k ++ xs.drop k
theorem mixL_set {ys xs : List Nat} {k x y : Nat} (hy : ys[k]? = some y) (hx : xs[k]? = some x) : (mixL ys xs k).set k y = mixL ys xs (k + 1) := by
  obtain ⟨hk, ex⟩ := List.getElem?_eq_some_iff.1 hx
  obtain ⟨hk2, ey⟩ := List.getElem?_eq_some_iff.1 hy
  unfold mixL
  have hl : (ys.take k).length = k := by rw [List.length_take]; omega
  rw [List.set_append_right _ _ (by omega), hl, Nat.sub_self, List.drop_eq_getElem_cons hk, List.set_cons_zero, List.take_succ_eq_append_getElem hk2, ey, List.append_assoc]
  rfl
theorem mixL_at {ys xs : List Nat} {k x : Nat} (hl : ys.length = xs.length) (hx : xs[k]? = some x) : (mixL ys xs k)[k]? = some x := by
  obtain ⟨hk, ex⟩ := List.getElem?_eq_some_iff.1 hx
  unfold mixL
  have h2 : (ys.take k).length = k := by rw [List.length_take]; omega
  rw [List.getElem?_append_right (by omega), h2, Nat.sub_self, List.getElem?_drop, Nat.add_zero, hx]
theorem mixL_zero (ys xs : List Nat) : mixL ys xs 0 = xs := by simp [mixL]
theorem mixL_all {ys xs : List Nat} (hl : ys.length = xs.length) : mixL ys xs xs.length = ys := by
  unfold mixL
  rw [List.take_of_length_le (by omega), List.drop_of_length_le (Nat.le_refl _), List.append_nil]
theorem u64s_set (l : List Nat) (k y : Nat) : (u64s l).set k (.int .u64 (y : Int)) = u64s (l.set k y) := by
  unfold u64s; rw [List.map_set]
theorem u64s_get {l : List Nat} {k x : Nat} (h : l[k]? = some x) : (u64s l)[k]? = some (.int .u64 (x : Int)) := by
  unfold u64s; rw [List.getElem?_map, h]; rfl

theorem news_of_vrow {w : World} {ad : Addr} {vs : List Value} (h : VRow w (some ad) vs) : ∀ j u, vs[j]? = some u → w.cell? (ad.add j) = some u := by
  intro j u hj
  rcases h with h | ⟨b, off, ha, hc⟩
  · subst h; simp at hj
  · cases ha
    have := hc j u hj
    rw [← this]
    simp only [Addr.add]; split <;> simp_all
theorem u64s_one (l : List Nat) : ∀ u ∈ u64s l, u.oneCell' = true := by
  intro u hu
  unfold u64s at hu
  rw [List.mem_map] at hu
  obtain ⟨r, _, rfl⟩ := hu
  rfl
set_option maxRecDepth 100000 in
set_option maxHeartbeats 1000000 in
theorem clone_is (a : Option Addr) (cap : Nat) (xs : List Nat) (w : World) (hx : xs.length ≤ 100) (hra : URow w a xs) (n : Nat) (hn : xs.length = n) :
    Calls Tryz.prog 82 #[.slice a n cap] w fun e w' => ∃ v, e = .returned v ∧ w'.ownsRow w.heap.size 26 1 v n (u64s xs) ∧ Below w.heap.size w w' := by
  obtain ⟨i0, hi, hz0, hz1, hz2⟩ := info_parts infoU
  have q22 : ∀ (w : World) (a : Option Addr) (n c n' c' : Nat), (binOp .eql 27 (.slice a n c) (.slice none n' c')).run Tryz.prog w = .ok (.bool a.isNone) w := fun w a n c n' c' => Lib.run_eql_slice_nil w _ _ a n c n' c' Tryz.underlying27
  have HN := Lib.hid hn
  rw [hn] at hx
  cases a with
  | none =>
    have hcs : u64s xs = [] := by
      rcases hra with h | ⟨b, off, e, _⟩
      · exact h
      · cases e
    have hx0 : xs = [] := List.length_eq_zero_iff.1 (by rw [← u64s_length, hcs]; rfl)
    subst hx0
    obtain rfl : 0 = n := HN.out
    clear hra
    go_enter Tryz.func82, Tryz.ntmps82
    go_wp2
    go_ret
    exact ⟨_, rfl, World.ownsRow_nil _ _ _ _, Below.refl _ _⟩
  | some ad =>
    have HNW := Lib.hid (fun (o : Obj) => news_of_vrow (VRow.below hra ((Below.refl _ w).alloc (Nat.le_refl _) o)))
    have hown : (w.alloc (.cells #[] 26)).ownsRow w.heap.size 26 1 (.slice (some ⟨w.heap.size, 0, none⟩) 0 0) 0 [] := World.ownsRow_lit w #[] 0 (Nat.le_refl _) (by simp) rfl
    have HO := Lib.hid hown
    have hul : Hid ((u64s xs).length = n * 1) := by show _ = _; rw [u64s_length, hn, Nat.mul_one]
    clear hra hown hn
    go_enter Tryz.func82, Tryz.ntmps82
    go_wp2_with (at_builtin; go_loud (refine wpList_append_own _ rfl (.tmp 5) (.tmp 6) 27 rfl w.heap.size 26 i0 _ 1 8 Tryz.underlying27 hi hz0 hz1 hz2 rfl (by decide) _ _ _ rfl HO.out ad n cap (u64s xs) rfl hul.out (HNW.out _) (u64s_one xs) (by unfold maxLen; omega) (by omega) (by simp) ?_; intro v' w2 hown2 hgrow hnil))
    go_ret
    refine ⟨v', rfl, by simpa using hown2, ?_⟩
    exact ((Below.refl _ _).alloc (Nat.le_refl _) _).grown hgrow (by simp) (fun j e => by cases e; exact Nat.le_refl _)

structure OwnPost (w w' : World) (base n : Nat) (v : Value) (xs : List Nat) : Prop where
  own : w'.ownsRow base 26 1 v n (u64s xs)
  below : Below base w w'
  rest : ∀ j, j < w.heap.size → some j ≠ v.ownBlock → w'.heap[j]? = w.heap[j]?
set_option maxRecDepth 100000 in
set_option maxHeartbeats 1000000 in
theorem canonical_is (gen : Nat) (base n : Nat) (v : Value) (xs ys : List Nat) (w : World) (hgen : gen < 18446744073709551616) (hall : ∀ r ∈ xs, r < 18446744073709551616) (hx : xs.length ≤ 100) (hn : xs.length = n) (hb0 : base ≤ w.heap.size) (hown : w.ownsRow base 26 1 v n (u64s xs)) (hys : canonL gen xs = ys) :
    Calls Tryz.prog 114 #[.int .u64 gen, v] w fun e w' => e = .returned (.agg #[.int .u64 (gen : Int), v]) ∧ OwnPost w w' base n v ys := by
  have HALL := Lib.hid hall; have HN := Lib.hid hn
  have HYL : Hid (ys.length = xs.length) := by show _ = _; rw [← hys, canonL_length]
  have HYS := Lib.hid hys
  obtain ⟨a, cap, hv⟩ : ∃ a cap, v = .slice a n cap := by
    rcases hown.2 with ⟨h, h0⟩ | ⟨g, cap, cur, h, _⟩
    · exact ⟨none, 0, by rw [h, h0]⟩
    · exact ⟨_, _, h⟩
  subst hv
  have HO0 := Lib.hid hown
  rw [hn] at hx
  clear hown hys hall hn
  go_enter Tryz.func114, Tryz.ntmps114
  go_wp2_with fail
  go_loopw [8] (fun i wr => ∃ k : Nat, k ≤ n ∧ i = .int .i64 k ∧ Hid (wr.ownsRow base 26 1 (.slice a n cap) n (u64s (mixL ys xs k))) ∧ Hid (wr.heap[w.heap.size]? = some (.cells #[.int .u64 0, .slice none 0 0] 29 (0, 0))) ∧ Below base w wr ∧ Hid (∀ j, j < w.heap.size → some j ≠ (Value.slice a n cap).ownBlock → wr.heap[j]? = w.heap[j]?)) (fun i _ => n - (intOf i).toNat)
  case atStart =>
    refine ⟨0, Nat.zero_le _, rfl, ?_, heapV_new _ _, (Below.refl _ _).alloc hb0 _, fun j hj _ => Below.heap_alloc _ _ _ hj⟩
    rw [mixL_zero]
    exact HO0.out.alloc _
  case round =>
    obtain ⟨k, hk, rfl, HO, HR, hb, HX⟩ := hrel
    by_cases hlt : k < n
    · obtain ⟨x, hx1⟩ : ∃ x, xs[k]? = some x := ⟨xs[k]'(by rw [HN.out]; exact hlt), by simp [HN.out, hlt]⟩
      have hx64 := HALL.out x (List.mem_of_getElem? hx1)
      have hag := andn_go x gen hx64 hgen
      obtain ⟨y, hy⟩ : ∃ y, andn x gen = y := ⟨_, rfl⟩
      rw [hy] at hag
      have hy1 : ys[k]? = some y := by rw [← HYS.out, canonL, List.getElem?_map, hx1, ← hy]; rfl
      have HM := Lib.hid (mixL_set hy1 hx1)
      obtain ⟨g, capg, hv, hbg, hgl⟩ := HO.out.form (show 0 < n by omega)
      have hv2 : a = some ⟨g, 0, none⟩ ∧ capg = cap := by cases hv; exact ⟨rfl, rfl⟩
      obtain ⟨rfl, rfl⟩ := hv2
      have d0 := (HO.out.cellAt k (by omega)).trans (u64s_get (mixL_at HYL.out hx1))
      have q0 := HO.out.frozenAt k
      have g0 : (0 : Int) ≤ (k : Int) := by omega
      have g3 : (k : Int) < (n : Int) := by omega
      have HO2 : Hid ((wr.setCell ⟨g, k, none⟩ (.int .u64 (y : Int))).ownsRow base 26 1 (.slice (some ⟨g, 0, none⟩) n capg) n (u64s (mixL ys xs (k + 1)))) := by
        rw [← HM.out, ← u64s_set]
        exact (HO.out.stored k _).1
      have hgr : g ≠ w.heap.size := by
        intro e
        have h1 := not_row HR.out (by decide) HO.out
        apply h1
        show some _ = some g
        rw [e]
      have HR2 := Lib.hid (heap_other (j := k) (c := .int .u64 (y : Int)) HR.out (fun e => hgr e.symm))
      have HX2 : Hid (∀ j, j < w.heap.size → some j ≠ (Value.slice (some ⟨g, 0, none⟩) n capg).ownBlock → (wr.setCell ⟨g, k, none⟩ (.int .u64 (y : Int))).heap[j]? = w.heap[j]?) := fun j h1 h2 => by
        rw [Below.heap_setCell _ _ _ _ (show j ≠ g by intro e; apply h2; rw [e]; rfl)]
        exact HX.out j h1 h2
      have hb2 := hb.setCell (p := ⟨g, k, none⟩) hbg (.int .u64 (y : Int))
      clear hx1 hy hy1 hv hgr
      go_wp2
      go_roundw
      case rel => exact ⟨k + 1, by omega, by go_num, HO2, HR2, hb2, HX2⟩
      case measure => simp [intOf]; omega
    · obtain rfl : k = n := by omega
      have HO2 : Hid (wr.ownsRow base 26 1 (.slice a k cap) k (u64s ys)) := by
        have := HO.out
        rw [← HN.out] at this ⊢
        rwa [mixL_all HYL.out] at this
      obtain ⟨r0, r1, rf⟩ := two_cells HR.out
      have rf0 := rf 0; have rf1 := rf 1
      have N1 := Lib.hid (two_set1 (c := .slice a k cap) (two_set0 (c := .int .u64 (gen : Int)) HR.out))
      obtain ⟨s0, s1, _⟩ := two_cells N1.out
      have HNB := Lib.hid (not_row HR.out (by decide) HO.out)
      clear rf
      go_wp2
      refine bodyPost_ret (v := .agg #[.int .u64 (gen : Int), .slice a k cap]) ?_ rfl ⟨rfl, ?_, (hb.setCell (p := ⟨w.heap.size, 0, none⟩) hb0 _).setCell (p := ⟨w.heap.size, 1, none⟩) hb0 _, ?_⟩
      · simp [results, Tryz.results114, go_sem, s0, s1]
      · exact (HO2.out.kept (grownBy_set _ _ _ _) (.inr HNB.out.symm)).kept (grownBy_set _ _ _ _) (.inr HNB.out.symm)
      · intro j h1 h2
        rw [Below.heap_setCell _ _ _ _ (show j ≠ w.heap.size by omega), Below.heap_setCell _ _ _ _ (show j ≠ w.heap.size by omega)]
        exact HX.out j h1 h2
end Go.Proofs.YtjcminoaiieckaaGreatDoor
namespace Go.Proofs.YtjcminoaiieckaaGreatDoor
open Go.RowKit
set_option linter.unusedVariables false
def FRet (gen : Nat) (rows : List Nat) (err : Int) (w : World) (e : Ending) (w' : World) : Prop :=
  ∃ a cap, e = .returned (.tuple #[.agg #[.int .u64 (gen : Int), .slice a rows.length cap], .int .i64 err]) ∧ VRow w' a (u64s rows) ∧ (∀ ad, a = some ad → w.heap.size ≤ ad.block ∧ ad.block < w'.heap.size) ∧ Below w.heap.size w w'
theorem fret_nil {w w' : World} (err : Int) (hb : Below w.heap.size w w') : FRet 0 [] err w (.returned (.tuple #[.agg #[.int .u64 0, .slice none 0 0], .int .i64 err])) w' :=
  ⟨none, 0, rfl, .inl rfl, (fun ad e => by cases e), hb⟩
theorem own_slice {w : World} {base n : Nat} {E : TypeId} {v : Value} {xs : List Value} (h : w.ownsRow base E 1 v n xs) : ∃ a cap, v = .slice a n cap := by
  rcases h.2 with ⟨h, h0⟩ | ⟨g, cap, cur, h, _⟩
  · exact ⟨none, 0, by rw [h, h0]⟩
  · exact ⟨_, _, h⟩
theorem fret_own {w w' : World} {gen n : Nat} {v : Value} {rows : List Nat} {base : Nat} (hb0 : w.heap.size ≤ base) (h : w'.ownsRow base 26 1 v n (u64s rows)) (hb : Below w.heap.size w w') (err : Int) : FRet gen rows err w (.returned (.tuple #[.agg #[.int .u64 (gen : Int), v], .int .i64 err])) w' := by
  obtain ⟨hn, a, cap, rfl, hr, hf⟩ := VRow.of_own h
  exact ⟨a, cap, by rw [u64s_length], hr, fun ad e => ⟨Nat.le_trans hb0 (hf ad e).1, (hf ad e).2⟩, hb⟩
def bothE (n : Int) (ga : Nat) (xs : List Nat) (gb : Nat) (ys : List Nat) : Int := if checkE n ga xs = 0 then checkE n gb ys else checkE n ga xs
set_option maxRecDepth 100000 in
set_option maxHeartbeats 1000000 in
theorem bothA_is (n : Int) (a b : Option Addr) (capa capb ga gb : Nat) (xs ys : List Nat) (w : World) (hfa : FAt w a ga xs) (hfb : FAt w b gb ys) (r : Int) (hr : bothE n ga xs gb ys = r) (la lb : Nat) (hla : xs.length = la) (hlb : ys.length = lb) :
    Calls Tryz.prog 113 #[.int .i64 n, fval ga a la capa, fval gb b lb capb] w fun e w' => e = .returned (.int .i64 r) ∧ Below w.heap.size w w' := by
  unfold fval
  have hB0 : Below w.heap.size w ((w.alloc (.cells #[.int .u64 (ga : Int), .slice a la capa] 29)).alloc (.cells #[.int .u64 (gb : Int), .slice b lb capb] 29)) := ((Below.refl _ _).alloc (Nat.le_refl _) _).alloc (by simp) _
  have HA := Lib.hid (hfa.below hB0); have HB := Lib.hid (hfb.below hB0); have HLA := Lib.hid hla; have HLB := Lib.hid hlb
  obtain ⟨t0, t1⟩ := two_boxes w #[.int .u64 (ga : Int), .slice a la capa] #[.int .u64 (gb : Int), .slice b lb capb] 29
  have T1 := Lib.hid t1
  obtain ⟨s, hs⟩ : ∃ s, checkE n ga xs = s := ⟨_, rfl⟩
  have HS := Lib.hid hs
  by_cases h0 : s = 0
  · subst h0
    have HR : Hid (checkE n gb ys = r) := by show _ = _; rw [← hr, bothE, if_pos hs]
    clear hfa hfb hr hla hlb t0 t1 hs
    go_enter Tryz.func113, Tryz.ntmps113
    go_wp2_with fail
    refine (checkA_is n a capa ga xs _ HA.out 0 HS.out la HLA.out).mono ?_
    rintro e w1 ⟨rfl, hb1⟩
    have hB1 := hB0.trans (hb1.mono hB0.size)
    obtain ⟨d0, d1, _⟩ := two_cells (heap_old T1.out hb1)
    go_wp2_with fail
    refine (checkA_is n b capb gb ys _ (HB.out.below hb1) r HR.out lb HLB.out).mono ?_
    rintro e w2 ⟨rfl, hb2⟩
    go_wp2
    go_ret
    exact ⟨rfl, hB1.trans (hb2.mono hB1.size)⟩
  · have HR : Hid (s = r) := by show _ = _; rw [← hr, bothE, hs, if_neg h0]
    have hne : (s != 0) = true := by simpa using h0
    clear hfa hfb hr hla hlb t0 t1 hs h0
    go_enter Tryz.func113, Tryz.ntmps113
    go_wp2_with fail
    refine (checkA_is n a capa ga xs _ HA.out s HS.out la HLA.out).mono ?_
    rintro e w1 ⟨rfl, hb1⟩
    go_wp2
    go_ret
    exact ⟨rint HR.out, hB0.trans (hb1.mono hB0.size)⟩
end Go.Proofs.YtjcminoaiieckaaGreatDoor
namespace Go.Proofs.YtjcminoaiieckaaGreatDoor
open Go.RowKit
set_option linter.unusedVariables false
structure TabC (W : World) : Prop where
  ctz : Lib.TabIs Tryz.prog W "math/bits.deBruijn64tab" .u8 tab64
theorem TabC.below {W W' : World} (h : TabC W) (hb : Below W.heap.size W W') : TabC W' := ⟨var?_below hb gCtz (var_lt gCtz h.ctz) h.ctz⟩
theorem ctzC_calls (x : Nat) (hx0 : x ≠ 0) (hx : x < 18446744073709551616) (w : World) (ht : TabC w) :
    Calls Tryz.prog 145 #[.int .u64 x] w fun e w' => e = .returned (.int .i64 (Lib.ctz 64 x)) ∧ w = w' := by
  obtain ⟨hlow, hk⟩ := Lib.lowest_bit 64 x hx0 hx
  obtain ⟨hi, htab⟩ := Lib.deBruijn64_at _ hk
  have hcell := ht.ctz.cell gCtz _ (by rw [tab64, List.length_map]; exact hi)
  have e : tab64.getD (2 ^ Lib.ctz 64 x * 285870213051353865 % 18446744073709551616 / 288230376151711744) 0 = ((Lib.ctz 64 x : Nat) : Int) := by
    have : tab64.getD (2 ^ Lib.ctz 64 x * 285870213051353865 % 18446744073709551616 / 288230376151711744) 0 = Int.ofNat (Lib.deBruijn64tab.getD (2 ^ Lib.ctz 64 x * 285870213051353865 % 18446744073709551616 / 288230376151711744) 0) := by
      simp only [tab64, List.getD, List.getElem?_map]
      cases Lib.deBruijn64tab[2 ^ Lib.ctz 64 x * 285870213051353865 % 18446744073709551616 / 288230376151711744]? <;> rfl
    rw [this, htab]; rfl
  rw [e] at hcell
  exact tz_core x _ _ w (by simp; omega) (Go.Proofs.tz64_key x _ hx hx0 hlow) hi hk hcell
theorem nextC_is (f : Nat) (i : Int) (r : Int) (b : Bool) (h : IsNext f i r b) (hf : f < 18446744073709551616) (w : World) (ht : TabC w) :
    Calls Tryz.prog 165 #[.int .u64 f, .int .i64 i] w fun e w' => e = .returned (.tuple #[.int .i64 r, .bool b]) ∧ w = w' := by
  have HT := Lib.hid ht
  by_cases hi : 63 < i
  · have e : r = 0 ∧ b = false := isNext_uniq h (.inr ⟨rfl, rfl, fun j hj hij => by omega⟩)
    obtain ⟨rfl, rfl⟩ := e
    clear h ht
    go_enter Tryz.func165, Tryz.ntmps165
    go_wp2
    go_ret2
    exact ⟨rfl, rfl⟩
  · have hc := Lib.hid (next_of_rest f i i.toNat (by omega) rfl hf r b h)
    have HA : bits BinOp.andNot IntKind.u64 (f : Int) ((2 ^ i.toNat - 1 : Nat) : Int) = ((restN f i.toNat : Nat) : Int) := u64_andNot_nat f _ hf (mask_lt (by omega))
    have hmx : (if i < 0 then (0 : Int) else i) = ((i.toNat : Nat) : Int) := by split <;> omega
    have hmx2 : max i 0 = ((i.toNat : Nat) : Int) := by omega
    have hlt := restN_lt f i.toNat hf
    obtain ⟨m, hm⟩ : ∃ m, i.toNat = m := ⟨_, rfl⟩
    rw [hm] at HA hc hmx hmx2 hlt
    have hm63 : m ≤ 63 := by omega
    obtain ⟨q, hq⟩ : ∃ q, restN f m = q := ⟨_, rfl⟩
    rw [hq] at HA hc hlt
    obtain ⟨p, hp⟩ : ∃ p : Nat, 2 ^ m - 1 = p := ⟨_, rfl⟩
    rw [hp] at HA
    have HP := Lib.hid hp
    clear ht h hq hp hf hm
    rcases hc.out with ⟨h0, rfl, rfl⟩ | ⟨h0, hr, rfl⟩
    · subst h0
      go_enter Tryz.func165, Tryz.ntmps165
      go_wp2_with fail
      refine (mask_any m (by omega) _).mono ?_
      rintro e w1 ⟨rfl, rfl⟩
      rw [HP.out]
      go_wp2
      go_ret2
      exact ⟨rfl, rfl⟩
    · have HR := Lib.hid hr
      have hq0 : ((q : Int) == 0) = false := by simp; omega
      clear hr hc
      go_enter Tryz.func165, Tryz.ntmps165
      go_wp2_with fail
      refine (mask_any m (by omega) _).mono ?_
      rintro e w1 ⟨rfl, rfl⟩
      rw [HP.out]
      go_wp2_with fail
      refine (ctzC_calls q (by omega) hlt _ HT.out).mono ?_
      rintro e w1 ⟨rfl, rfl⟩
      go_wp2
      go_ret2
      exact ⟨rib HR.out.symm rfl, rfl⟩
end Go.Proofs.YtjcminoaiieckaaGreatDoor
namespace Go.Proofs.YtjcminoaiieckaaGreatDoor
open Go.RowKit Go.Shelf
set_option linter.unusedVariables false
def NextOf (rest : List Nat) (r : Int) (b : Bool) : Prop := (rest = [] ∧ r = 0 ∧ b = false) ∨ (∃ x l, rest = x :: l ∧ r = (x : Int) ∧ b = true)
theorem mem_of_bit {s j : Nat} (hj : j < 64) (h : s.testBit j = true) : j ∈ mem s := by
  unfold mem
  rw [List.mem_filter]
  exact ⟨List.mem_range.2 hj, h⟩
theorem mem_sorted (s : Nat) : (mem s).Pairwise (· < ·) := List.Pairwise.filter _ List.pairwise_lt_range
theorem next_rest {s : Nat} {pre rest : List Nat} {i r : Int} {b : Bool} (hm : mem s = pre ++ rest) (hp : ∀ p ∈ pre, (p : Int) < i) (hr : ∀ q ∈ rest, i ≤ (q : Int)) (h : IsNext s i r b) : NextOf rest r b := by
  have hs := mem_sorted s
  rw [hm, List.pairwise_append] at hs
  cases rest with
  | nil =>
    have : IsNext s i 0 false := .inr ⟨rfl, rfl, fun j hj hij => by
      cases hb : s.testBit j
      · rfl
      · have := mem_of_bit hj hb
        rw [hm, List.append_nil] at this
        have := hp j this
        omega⟩
    obtain ⟨e1, e2⟩ := isNext_uniq h this
    exact .inl ⟨rfl, e1, e2⟩
  | cons y l =>
    have hy : y ∈ mem s := by rw [hm]; simp
    have hyl : ∀ q ∈ l, y < q := fun q hq => (List.pairwise_cons.1 hs.2.1).1 q hq
    have : IsNext s i y true := .inl ⟨rfl, y, rfl, mem_lt hy, hr y (by simp), mem_bit hy, fun j hj hij => by
      cases hb : s.testBit j
      · rfl
      · have hj64 := mem_lt hy
        have := mem_of_bit (by omega) hb
        rw [hm, List.mem_append, List.mem_cons] at this
        rcases this with h1 | h1 | h1
        · have := hp j h1; omega
        · omega
        · have := hyl j h1; omega⟩
    obtain ⟨e1, e2⟩ := isNext_uniq h this
    exact .inr ⟨y, l, rfl, e1, e2⟩
theorem next_step {s : Nat} {pre l : List Nat} {x : Nat} (hm : mem s = pre ++ x :: l) {r : Int} {b : Bool} (h : IsNext s ((x : Int) + 1) r b) : NextOf l r b := by
  have hs := mem_sorted s
  rw [hm, List.pairwise_append] at hs
  refine next_rest (pre := pre ++ [x]) (by rw [hm]; simp) (fun p hp => ?_) (fun q hq => ?_) h
  · rw [List.mem_append, List.mem_singleton] at hp
    rcases hp with hp | rfl
    · have := hs.2.2 p hp x (by simp); omega
    · omega
  · have := (List.pairwise_cons.1 hs.2.1).1 q hq
    omega
def boolOf : Value → Bool
  | .bool b => b
  | _ => false
section iter
attribute [local go_sem] Oper.semAt_some
set_option maxRecDepth 100000 in
set_option maxHeartbeats 1000000 in
theorem fmembers1 (n : Nat) (hn : 1 ≤ n) (l B s : Nat) (hs : s < 18446744073709551616) (J : List Nat → World → Prop) (hA : Abide B J) (hT : ∀ pre X, J pre X → TabC X)
    (hY : ∀ (pre : List Nat) (x : Nat) (rest : List Nat) X, mem s = pre ++ x :: rest → J pre X → YieldAt Fence.wide (n - 1) Tryz.prog l #[.int .i64 x] X fun e X' => e = .returned (.bool true) ∧ J (pre ++ [x]) X' ∧ X'.heap[B]? = X.heap[B]?)
    (W : World) (hB : Boxed W B 26 (.int .u64 s)) (h0 : J [] W) :
    CallsIn Fence.wide n Tryz.prog 164 #[.func (.yield l) #[] #[], .pointer (some ⟨B, 0, none⟩)] W fun e W' => (∃ v, e = .returned v) ∧ J (mem s) W' := by
  have HY := Lib.hid hY
  have HJ0 := Lib.hid h0
  have HB0 := Lib.hid hB
  have hc0 := hB.cell
  obtain ⟨r0, b0, hn0⟩ := isNext_ex s 0
  have HN0 := Lib.hid hn0
  have HNR := Lib.hid (next_rest (pre := []) (rest := mem s) rfl (by simp) (fun q _ => by omega) hn0)
  clear hY h0 hB hn0
  refine callsIn_of_wp Tryz.func164 rfl trivial ?_ rfl
  simp only [Tryz.ntmps164, List.size_toArray, List.length_cons, List.length_nil, Nat.reduceAdd, Nat.reduceSub, Array.replicate_succ, Array.replicate_zero, List.push_toArray, List.append_toArray, List.nil_append, List.cons_append]
  gi_wp2_with (refine ⟨trivial, ?_⟩; gi_at_call 165; refine (callsIn_wide.2 (nextC_is s 0 r0 b0 HN0.out hs _ (hT _ _ HJ0.out))).mono ?_; rintro e w' ⟨rfl, rfl⟩)
  gi_loopw [3, 4] (fun i ok wr => ∃ (pre rest : List Nat) (r : Int) (b : Bool), i = .int .i64 r ∧ ok = .bool b ∧ Hid (mem s = pre ++ rest) ∧ Hid (NextOf rest r b) ∧ Hid (Boxed wr B 26 (.int .u64 s)) ∧ Hid (J pre wr))
    (fun i ok _ => if boolOf ok = true then 65 - (intOf i).toNat else 0)
  case atStart => exact ⟨[], mem s, r0, b0, rfl, rfl, rfl, HNR.out, HB0.out, HJ0.out⟩
  case round =>
    obtain ⟨pre, rest, r, b, rfl, rfl, hm, hnx, hb, hJ⟩ := hrel
    have hc := hb.out.cell
    rcases hnx.out with ⟨rfl, rfl, rfl⟩ | ⟨x, tl, rfl, rfl, rfl⟩
    · have hall : Hid (pre = mem s) := by show _ = _; rw [hm.out, List.append_nil]
      gi_wp2
      go_end0
      exact ⟨⟨_, rfl⟩, by rw [← hall.out]; exact hJ.out⟩
    · have hx64 : x < 64 := mem_lt (s := s) (by rw [hm.out]; simp)
      obtain ⟨r2, b2, hn2⟩ := isNext_ex s ((x : Int) + 1)
      have HN2 := Lib.hid hn2
      have HNR2 := Lib.hid (next_step hm.out hn2)
      have hM3 : Hid (mem s = (pre ++ [x]) ++ tl) := by show _ = _; rw [hm.out]; simp
      obtain ⟨fn, tmps, assign, body, hy, hR⟩ := HY.out pre x tl wr hm.out hJ.out
      have hmx : Hid (∀ y l2, tl = y :: l2 → x < y) := fun y l2 e => by
        have hs := mem_sorted s
        rw [hm.out, List.pairwise_append] at hs
        exact (List.pairwise_cons.1 hs.2.1).1 y (by rw [e]; simp)
      clear hn2
      gi_wp2
      refine hR.mono ?_
      rintro e W3 ⟨rfl, hJ3, hk3⟩
      have HB3 : Hid (Boxed W3 B 26 (.int .u64 s)) := hk3.trans hb.out
      have HJ3 := Lib.hid hJ3
      have hc3 := HB3.out.cell
      clear hk3 hJ3
      gi_wp2_with (refine ⟨trivial, ?_⟩; gi_at_call 165; refine (callsIn_wide.2 (nextC_is s ((x : Int) + 1) r2 b2 HN2.out hs _ (hT _ _ HJ3.out))).mono ?_; rintro e w' ⟨rfl, rfl⟩)
      go_roundw
      case rel => exact ⟨pre ++ [x], tl, r2, b2, rfl, rfl, hM3, HNR2, HB3, HJ3⟩
      case measure =>
        rcases HNR2.out with ⟨_, rfl, rfl⟩ | ⟨y, l2, e, rfl, rfl⟩
        · simp [intOf, boolOf]; omega
        · have := hmx.out y l2 e
          simp [intOf, boolOf]; omega
end iter
theorem fmembers_any (s : Nat) (w : World) :
    Calls Tryz.prog 143 #[.int .u64 s] w fun e w' => e = .returned (.func (.func 164) #[] #[.pointer (some ⟨w.heap.size, 0, none⟩)]) ∧ w' = w.alloc (.cells #[.int .u64 s] 26) := by
  go_enter Tryz.func143, Tryz.ntmps143
  go_wp2
  go_ret
  exact ⟨rfl, rfl⟩
theorem fmembers_seq (n : Nat) (hn : 1 ≤ n) (B s : Nat) (hs : s < 18446744073709551616) (w : World) (hB : Boxed w B 26 (.int .u64 s)) :
    SeqCell Fence.wide n Tryz.prog 164 #[.pointer (some ⟨B, 0, none⟩)] (fun x : Nat => #[Value.int .i64 x]) (mem s) B TabC w :=
  fun l J W hW hA hT hY h0 => fmembers1 n hn l B s hs J hA hT hY W (hW.trans hB) h0

def accF (rows : List Nat) (gen : Nat) (l : List Nat) : Nat := l.foldl (fun c i => c ||| rows.getD i 0) gen
def madeF (gen : Nat) (rows : List Nat) (s : Nat) : Nat := accF rows gen (mem s)
theorem accF_snoc (rows : List Nat) (gen : Nat) (l : List Nat) (x : Nat) : accF rows gen (l ++ [x]) = accF rows gen l ||| rows.getD x 0 := by
  unfold accF; rw [List.foldl_append]; rfl
theorem or64 {a b : Nat} (ha : a < 18446744073709551616) (hb : b < 18446744073709551616) : a ||| b < 18446744073709551616 := by
  have e : (18446744073709551616 : Nat) = 2 ^ 64 := rfl
  rw [e] at *; exact Nat.or_lt_two_pow ha hb
theorem accF_lt {rows : List Nat} (hr : ∀ r ∈ rows, r < 18446744073709551616) : ∀ (l : List Nat) (gen : Nat), gen < 18446744073709551616 → accF rows gen l < 18446744073709551616
  | [], gen, h => h
  | x :: l, gen, h => by
    have : rows.getD x 0 < 18446744073709551616 := by
      rw [List.getD_eq_getElem?_getD]
      cases hx : rows[x]? with
      | none => simp
      | some y => exact hr y (List.mem_of_getElem? hx)
    exact accF_lt hr l _ (or64 h this)
theorem madeF_lt {rows : List Nat} {gen s : Nat} (hr : ∀ r ∈ rows, r < 18446744073709551616) (hg : gen < 18446744073709551616) : madeF gen rows s < 18446744073709551616 := accF_lt hr _ _ hg
end Go.Proofs.YtjcminoaiieckaaGreatDoor
namespace Go.Proofs.YtjcminoaiieckaaGreatDoor
open Go.RowKit Go.Shelf
set_option linter.unusedVariables false
theorem abide_made {B C D : Nat} {t : TypeId} {f : List Nat → Value} {o : Obj} {w : World} (hBC : B ≠ C) (hBD : B ≠ D) (hBn : w.heap.size ≤ B) {tB : TypeId} {vB : Value} :
    Abide B (fun (pre : List Nat) W => (∃ v, Boxed W B tB v) ∧ W.heap[D]? = some o ∧ Boxed W C t (f pre) ∧ Below w.heap.size w W) where
  cell := by
    rintro pre X u ⟨⟨v, hB⟩, hD, hC, hb⟩
    exact ⟨⟨u, hB.set u⟩, (Below.heap_setCell _ _ _ _ hBD.symm).trans hD, hC.other hBC.symm _, hb.setCell (p := ⟨B, 0, none⟩) hBn _⟩
  drew := by
    rintro pre X m ⟨hB, hD, hC, hb⟩
    exact ⟨hB, hD, hC, below_drewN hb m⟩
theorem own_made {B C D E : Nat} {t tB T : TypeId} {f : List Nat → Value} {cs : Array Value} {w : World} (hE : w.heap.size ≤ E) :
    OwnFrom E (fun (pre : List Nat) W => (∃ v, Boxed W B tB v) ∧ W.heap[D]? = some (.cells cs T (0, 0)) ∧ Boxed W C t (f pre) ∧ Below w.heap.size w W) := by
  rintro s X Y row ⟨⟨vB, hB⟩, hD, hC, hb⟩ hg hrow
  have ne : ∀ (b : Nat) (tt : TypeId) (u : Array Value), X.heap[b]? = some (.cells u tt (0, 0)) → some b ≠ row := fun b tt u hbx e' => by
    obtain ⟨_, o, ho, hc⟩ := hrow b e'.symm
    rw [hbx] at ho; cases ho; cases hc
  exact ⟨⟨vB, hB.kept hg (ne _ _ _ hB)⟩, (hg.block D (Array.getElem?_eq_some_iff.1 hD).1 (ne _ _ _ hD)).trans hD, hC.kept hg (ne _ _ _ hC), hb.grown hg hb.size fun k e' => Nat.le_trans hE (hrow k e').1⟩

section madeA
attribute [local go_sem] Oper.semAt_some
set_option maxRecDepth 100000 in
set_option maxHeartbeats 2000000 in
theorem madeA_in (a : Option Addr) (cap gen : Nat) (rows : List Nat) (s : Nat) (hs : s < 18446744073709551616) (w : World) (hf : FAt w a gen rows) (hin : ∀ i ∈ mem s, i < rows.length) (ht : TabC w) (r : Nat) (hr : madeF gen rows s = r) (len : Nat) (hl : rows.length = len) :
    CallsIn Fence.wide 5 Tryz.prog 120 #[fval gen a len cap, .int .u64 s] w fun e W' => e = .returned (.int .u64 r) ∧ Below w.heap.size w W' := by
  unfold fval
  have HF := Lib.hid hf; have HIN := Lib.hid hin; have HR := Lib.hid hr; have HL := Lib.hid hl; have HT := Lib.hid ht
  have hgen := hf.gen
  have HALL := Lib.hid hf.all
  have hlen : len ≤ 100 := by rw [← hl]; exact hf.len
  clear hin hr hl
  refine callsIn_of_wp_marks Tryz.func120 rfl trivial ?_ rfl
  simp only [Tryz.ntmps120, List.size_toArray, List.length_cons, List.length_nil, Nat.reduceAdd, Nat.reduceSub, Array.replicate_succ, Array.replicate_zero, List.push_toArray, List.append_toArray, List.nil_append, List.cons_append]
  gi_wp2_with (refine ⟨trivial, ?_⟩; gi_at_call 143; refine (callsIn_wide.2 (fmembers_any s _)).mono ?_; rintro e w' ⟨rfl, rfl⟩)
  have b0 := heapV_new w (.cells #[.int .u64 (gen : Int), .slice a len cap] 29)
  have bO := Boxed.new (w.alloc (.cells #[.int .u64 (gen : Int), .slice a len cap] 29)) 26 (.int .u64 (gen : Int))
  have bN := Boxed.new ((w.alloc (.cells #[.int .u64 (gen : Int), .slice a len cap] 29)).alloc (.cells #[.int .u64 (gen : Int)] 26)) 26 (.int .u64 s)
  rw [World.size_alloc] at bO
  rw [World.size_alloc, World.size_alloc] at bN
  have hB0 : Below w.heap.size w (((w.alloc (.cells #[.int .u64 (gen : Int), .slice a len cap] 29)).alloc (.cells #[.int .u64 (gen : Int)] 26)).alloc (.cells #[.int .u64 s] 26)) := (((Below.refl _ w).alloc (Nat.le_refl _) _).alloc (by simp) _).alloc (by simp; omega) _
  refine range_cell (F := Fence.wide) (n := 5) rfl (by omega) (gf := 164) (lb := #[.pointer (some ⟨w.heap.size + 1 + 1, 0, none⟩)]) (by simp [go_sem]) trivial (enters_of Tryz.func164 (by kernel_rfl) rfl)
    (B := w.heap.size + 1 + 1) (Kw := TabC) (by simp) (fmembers_seq 4 (by omega) (w.heap.size + 1 + 1) s hs _ bN) (fun _ => rfl)
    (fun pre W => (∃ v, Boxed W (w.heap.size + 1 + 1) 26 v) ∧ W.heap[w.heap.size]? = some (.cells #[.int .u64 (gen : Int), .slice a len cap] 29 (0, 0)) ∧ Boxed W (w.heap.size + 1) 26 (.int .u64 (accF rows gen pre : Nat)) ∧ Below w.heap.size w W)
    (own_made (by simp; omega)) (abide_made (by omega) (by omega) (by omega) (vB := undef)) (fun pre X h => HT.out.below h.2.2.2) ⟨⟨_, bN⟩, heap_allocd (heap_allocd b0 _) _, bO.alloc _, hB0⟩
    (fun x => { tmps := #[.agg #[.int .u64 (gen : Int), .slice a len cap], .int .u64 s, .pointer (some ⟨w.heap.size, 0, none⟩), undef, .int .u64 0, .pointer (some ⟨w.heap.size + 1, 0, none⟩), .int .i64 x, .pointer (some ⟨w.heap.size, 0, none⟩), .int .u64 (gen : Int), .int .u64 s, .func (.func 164) #[] #[.pointer (some ⟨w.heap.size + 1 + 1, 0, none⟩)], .int .i64 x, undef, undef, undef, undef, undef, undef, undef, undef], defers := [] }) ?assign ?body ?done
  case assign =>
    intro l x W K hK
    gi_wp2
    exact hK
  case body =>
    rintro l pre x rest W hx ⟨⟨vB, hvB⟩, h0, hv, hB⟩
    have hc := hv.cell
    have hfr := hv.frozen
    obtain ⟨c0, c1, _⟩ := two_cells h0
    have hxm : x ∈ mem s := by rw [hx]; simp
    have hxl : x < len := by rw [← HL.out]; exact HIN.out x hxm
    obtain ⟨ba, offa, z, rfl, hz, hz64, hba, a0⟩ := (HF.out.below hB).at_ (i := x) (by rw [HL.out]; exact hxl)
    have g0 : (0 : Int) ≤ (x : Int) := by omega
    have g1 : (x : Int) < (len : Int) := by omega
    have hacc := accF_lt HALL.out pre gen hgen
    have hor := u64_or_nat (accF rows gen pre) z hacc hz64
    have HS : Hid (accF rows gen (pre ++ [x]) = accF rows gen pre ||| z) := by
      show _ = _
      rw [accF_snoc, List.getD_eq_getElem?_getD, hz]; rfl
    obtain ⟨u, hu⟩ : ∃ u, accF rows gen pre = u := ⟨_, rfl⟩
    rw [hu] at hor hc HS hv
    obtain ⟨q, hq⟩ : ∃ q, u ||| z = q := ⟨_, rfl⟩
    rw [hq] at hor HS
    have HV := Lib.hid hv; have H0 := Lib.hid h0; have HVB := Lib.hid hvB
    clear hz hu hq hx hacc hv h0 hvB
    have hmix : Tryz.prog.follows .mixedOrders = true := by kernel_rfl
    gi_wp2_with fail
    gi_region_with_o (fail)
    all_goals
      refine ⟨((KeepsOthers.setCell _ _ _).trans (KeepsOthers.drew _)).from _, Below.heap_setCell _ _ _ _ (show w.heap.size + 1 + 1 ≠ w.heap.size + 1 by omega), ⟨vB, HVB.out.other (by omega) _⟩, heap_other H0.out (by omega), ?_, (hB.setCell (p := ⟨w.heap.size + 1, 0, none⟩) (by simp) _).drew⟩
      rw [HS.out]
      exact HV.out.set _
  case done =>
    rintro D W hD ⟨⟨vB, hvB⟩, h0, hv, hB⟩ hK
    have hc := hv.cell
    have HQ : Hid (accF rows gen (mem s) = r) := HR.out
    gi_wp2
    refine ⟨by simp, .inl ⟨_, _, rfl, run_takeDeferred hK, ?_⟩⟩
    exact ⟨_, results_tmp rfl _ _ _, by rw [← HQ.out]; rfl, hB.trans (belowK_b (w := w) (Nat.le_refl _) W D _ _ (by simp at hD; omega) hK rfl rfl)⟩
end madeA
theorem madeA_is (a : Option Addr) (cap gen : Nat) (rows : List Nat) (s : Nat) (hs : s < 18446744073709551616) (w : World) (hf : FAt w a gen rows) (hin : ∀ i ∈ mem s, i < rows.length) (ht : TabC w) (r : Nat) (hr : madeF gen rows s = r) (len : Nat) (hl : rows.length = len) :
    Calls Tryz.prog 120 #[fval gen a len cap, .int .u64 s] w fun e W' => e = .returned (.int .u64 r) ∧ Below w.heap.size w W' :=
  callsIn_wide.1 (madeA_in a cap gen rows s hs w hf hin ht r hr len hl)

end Go.Proofs.YtjcminoaiieckaaGreatDoor
namespace Go.Proofs.YtjcminoaiieckaaGreatDoor
open Go.RowKit
set_option linter.unusedVariables false
theorem checkE_ok {n : Int} {gen : Nat} {rows : List Nat} (h : checkE n gen rows = 0) : dimB n = true ∧ shapeB n.toNat gen rows = true ∧ clearB gen rows = true := by
  unfold checkE at h
  split at h
  · rename_i hd
    split at h
    · rename_i hs
      rw [Bool.and_eq_true] at hs
      exact ⟨hd, hs.1, hs.2⟩
    · cases h
  · cases h
theorem shapeB_len {m gen : Nat} {rows : List Nat} (h : shapeB m gen rows = true) : rows.length = m ∧ insN m gen = true ∧ ∀ r ∈ rows, insN m r = true := by
  unfold shapeB at h
  simp only [Bool.and_eq_true, decide_eq_true_eq, List.all_eq_true] at h
  exact h
theorem mem_below {s m i : Nat} (hs : s < 2 ^ m) (hi : i ∈ mem s) : i < m := by
  rcases Nat.lt_or_ge i m with h | h
  · exact h
  · have := mem_bit hi
    rw [Nat.testBit_lt_two_pow (Nat.lt_of_lt_of_le hs (Nat.pow_le_pow_right (by omega) h))] at this
    cases this
end Go.Proofs.YtjcminoaiieckaaGreatDoor
namespace Go.Proofs.YtjcminoaiieckaaGreatDoor
open Go.RowKit
set_option linter.unusedVariables false
def orL (xs ys : List Nat) : List Nat := List.zipWith (fun a b : Nat => a ||| b) xs ys
theorem orL_at {xs ys : List Nat} {k x y : Nat} (hx : xs[k]? = some x) (hy : ys[k]? = some y) : (orL xs ys)[k]? = some (x ||| y) := by simp [orL, List.getElem?_zipWith, hx, hy]
theorem orL_len {xs ys : List Nat} (h : ys.length = xs.length) : (orL xs ys).length = xs.length := by simp [orL, h]
theorem orL_lt {xs ys : List Nat} (hx : ∀ r ∈ xs, r < 18446744073709551616) (hy : ∀ r ∈ ys, r < 18446744073709551616) : ∀ r ∈ orL xs ys, r < 18446744073709551616 := by
  intro r hr
  obtain ⟨i, hi⟩ := List.getElem?_of_mem hr
  unfold orL at hi
  rw [List.getElem?_zipWith] at hi
  cases h1 : xs[i]? with
  | none => rw [h1] at hi; simp at hi
  | some a =>
    cases h2 : ys[i]? with
    | none => rw [h1, h2] at hi; simp at hi
    | some b =>
      rw [h1, h2] at hi
      have : a ||| b = r := by simpa using hi
      rw [← this]
      exact or64 (hx a (List.mem_of_getElem? h1)) (hy b (List.mem_of_getElem? h2))
def combG (n : Int) (ga : Nat) (xs : List Nat) (gb : Nat) (ys : List Nat) : Nat := if bothE n ga xs gb ys = 0 then ga ||| gb else 0
def combV (n : Int) (ga : Nat) (xs : List Nat) (gb : Nat) (ys : List Nat) : List Nat := if bothE n ga xs gb ys = 0 then canonL (ga ||| gb) (orL xs ys) else []
theorem bothE_ok {n : Int} {ga gb : Nat} {xs ys : List Nat} (h : bothE n ga xs gb ys = 0) : checkE n ga xs = 0 ∧ checkE n gb ys = 0 := by
  unfold bothE at h
  split at h
  · rename_i h1; exact ⟨h1, h⟩
  · rename_i h1; exact absurd h h1
theorem bothE_len {n : Int} {ga gb : Nat} {xs ys : List Nat} (h : bothE n ga xs gb ys = 0) : ∃ m : Nat, n = m ∧ m ≤ 64 ∧ xs.length = m ∧ ys.length = m := by
  obtain ⟨h1, h2⟩ := bothE_ok h
  obtain ⟨hd, s1, _⟩ := checkE_ok h1
  obtain ⟨_, s2, _⟩ := checkE_ok h2
  obtain ⟨m, rfl, hm⟩ := dim_nat hd
  rw [Int.toNat_natCast] at s1 s2
  exact ⟨m, rfl, hm, (shapeB_len s1).1, (shapeB_len s2).1⟩
theorem three_boxes (w : World) (a b c : Array Value) (T : TypeId) :
    (((w.alloc (.cells a T)).alloc (.cells b T)).alloc (.cells c T)).heap[w.heap.size]? = some (.cells a T (0, 0)) ∧ (((w.alloc (.cells a T)).alloc (.cells b T)).alloc (.cells c T)).heap[w.heap.size + 1]? = some (.cells b T (0, 0)) ∧ (((w.alloc (.cells a T)).alloc (.cells b T)).alloc (.cells c T)).heap[w.heap.size + 1 + 1]? = some (.cells c T (0, 0)) := by
  obtain ⟨t0, t1⟩ := two_boxes w a b T
  refine ⟨heap_allocd t0 _, heap_allocd t1 _, ?_⟩
  have := heapV_new ((w.alloc (.cells a T)).alloc (.cells b T)) (.cells c T)
  rwa [World.size_alloc, World.size_alloc] at this
set_option maxRecDepth 100000 in
set_option maxHeartbeats 4000000 in
theorem combA_is (n : Int) (a b : Option Addr) (capa capb ga gb : Nat) (xs ys : List Nat) (w : World) (hfa : FAt w a ga xs) (hfb : FAt w b gb ys) (e0 : Int) (he : bothE n ga xs gb ys = e0) (g : Nat) (hg : combG n ga xs gb ys = g) (zs : List Nat) (hz : combV n ga xs gb ys = zs) (la lb : Nat) (hla : xs.length = la) (hlb : ys.length = lb) :
    Calls Tryz.prog 78 #[.int .i64 n, fval ga a la capa, fval gb b lb capb] w (FRet g zs e0 w) := by
  unfold fval
  have hB0 : Below w.heap.size w (((w.alloc (.cells #[.int .u64 (ga : Int), .slice a la capa] 29)).alloc (.cells #[.int .u64 (gb : Int), .slice b lb capb] 29)).alloc (.cells #[.int .u64 0, .slice none 0 0] 29)) := (((Below.refl _ _).alloc (Nat.le_refl _) _).alloc (by simp) _).alloc (by simp; omega) _
  have HA := Lib.hid (hfa.below hB0); have HB := Lib.hid (hfb.below hB0); have HLA := Lib.hid hla; have HLB := Lib.hid hlb
  obtain ⟨t0, t1, t2⟩ := three_boxes w #[.int .u64 (ga : Int), .slice a la capa] #[.int .u64 (gb : Int), .slice b lb capb] #[.int .u64 0, .slice none 0 0] 29
  have T0 := Lib.hid t0; have T1 := Lib.hid t1; have T2 := Lib.hid t2
  have hga := hfa.gen; have hgb := hfb.gen
  have HXA := Lib.hid hfa.all; have HYA := Lib.hid hfb.all
  have HXL := Lib.hid hfa.len
  have HE := Lib.hid he
  by_cases h0 : e0 = 0
  · subst h0
    obtain ⟨m, rfl, hm, hxm, hym⟩ := bothE_len he
    obtain rfl : m = la := by omega
    obtain rfl : m = lb := by omega
    obtain rfl : ga ||| gb = g := by rw [← hg, combG, if_pos he]
    have HZ : Hid (canonL (ga ||| gb) (orL xs ys) = zs) := by show _ = _; rw [← hz, combV, if_pos he]
    have HOL : Hid ((orL xs ys).length = xs.length) := orL_len (by omega)
    have hgg := or64 hga hgb
    have hor := u64_or_nat ga gb hga hgb
    obtain ⟨gg, hggq⟩ : ∃ gg, ga ||| gb = gg := ⟨_, rfl⟩
    rw [hggq] at hgg hor HZ ⊢
    clear hfa hfb he hg hz hla hlb t0 t1 t2 hxm hym hggq
    go_enter Tryz.func78, Tryz.ntmps78
    go_wp2_with fail
    refine (bothA_is m a b capa capb ga gb xs ys _ HA.out HB.out 0 HE.out m m HLA.out HLB.out).mono ?_
    rintro e w1 ⟨rfl, hb1⟩
    have hB1 := hB0.trans (hb1.mono hB0.size)
    have U0 := Lib.hid (heap_old T0.out hb1); have U1 := Lib.hid (heap_old T1.out hb1); have U2 := Lib.hid (heap_old T2.out hb1)
    obtain ⟨c0, c1, _⟩ := two_cells U0.out
    go_wp2_with fail
    refine (clone_is a capa xs _ HXL.out (HA.out.below hb1).row m HLA.out).mono ?_
    rintro e w2 ⟨v, rfl, hown, hb2⟩
    obtain ⟨av, capv, hv⟩ := own_slice hown
    subst hv
    have hB2 := hB1.trans (hb2.mono hB1.size)
    have V0 := Lib.hid (heap_old U0.out hb2); have V1 := Lib.hid (heap_old U1.out hb2); have V2 := Lib.hid (heap_old U2.out hb2)
    have HFB := Lib.hid ((HB.out.below hb1).below hb2)
    have hw1 : w.heap.size + 1 + 1 < w1.heap.size := (Array.getElem?_eq_some_iff.1 U2.out).1
    have HO0 : Hid (w2.ownsRow w1.heap.size 26 1 (.slice av m capv) m (u64s (mixL (orL xs ys) xs 0))) := by rw [mixL_zero]; exact hown
    obtain ⟨k0, k1, _⟩ := two_cells V1.out
    clear hown c0 c1
    go_wp2_with fail
    go_loopw [26] (fun i wr => ∃ k : Nat, k ≤ m ∧ i = .int .i64 k ∧ Hid (wr.ownsRow w1.heap.size 26 1 (.slice av m capv) m (u64s (mixL (orL xs ys) xs k))) ∧ Hid (wr.heap[w.heap.size]? = some (.cells #[.int .u64 (ga : Int), .slice a m capa] 29 (0, 0))) ∧ Hid (wr.heap[w.heap.size + 1]? = some (.cells #[.int .u64 (gb : Int), .slice b m capb] 29 (0, 0))) ∧ Hid (wr.heap[w.heap.size + 1 + 1]? = some (.cells #[.int .u64 0, .slice none 0 0] 29 (0, 0))) ∧ Below w1.heap.size w2 wr) (fun i _ => m - (intOf i).toNat)
    case atStart => exact ⟨0, Nat.zero_le _, rfl, HO0, V0, V1, V2, Below.refl _ _⟩
    case round =>
      obtain ⟨k, hk, rfl, HO, R0, R1, R2, hb⟩ := hrel
      by_cases hlt : k < m
      · obtain ⟨x, hx⟩ : ∃ x, xs[k]? = some x := ⟨xs[k]'(by rw [HLA.out]; exact hlt), by simp [HLA.out, hlt]⟩
        have hx64 := HXA.out x (List.mem_of_getElem? hx)
        obtain ⟨bb, offb, y, rfl, hy, hy64, hbb, b0⟩ := (HB.out.below hb1).at_ (i := k) (by rw [HLB.out]; exact hlt)
        have b0' := ((hb.cell (p := ⟨bb, offb + k, none⟩) hbb).trans ((hb2.cell (p := ⟨bb, offb + k, none⟩) hbb).trans b0))
        have hxy := u64_or_nat x y hx64 hy64
        have HM := Lib.hid (mixL_set (orL_at hx hy) hx)
        obtain ⟨q, hq⟩ : ∃ q, x ||| y = q := ⟨_, rfl⟩
        rw [hq] at hxy HM
        obtain ⟨gr, capr, hvr, hbg, hgl⟩ := HO.out.form (show 0 < m by omega)
        have hv2 : av = some ⟨gr, 0, none⟩ ∧ capr = capv := by cases hvr; exact ⟨rfl, rfl⟩
        obtain ⟨rfl, rfl⟩ := hv2
        have d0 := (HO.out.cellAt k (by omega)).trans (u64s_get (mixL_at HOL.out hx))
        have q0 := HO.out.frozenAt k
        have g0 : (0 : Int) ≤ (k : Int) := by omega
        have g3 : (k : Int) < (m : Int) := by omega
        have HO2 : Hid ((wr.setCell ⟨gr, k, none⟩ (.int .u64 (q : Int))).ownsRow w1.heap.size 26 1 (.slice (some ⟨gr, 0, none⟩) m capr) m (u64s (mixL (orL xs ys) xs (k + 1)))) := by
          rw [← HM.out, ← u64s_set]
          exact (HO.out.stored k _).1
        have R0' := Lib.hid (heap_other (B := gr) (j := k) (c := .int .u64 (q : Int)) R0.out (by omega))
        have R1' := Lib.hid (heap_other (B := gr) (j := k) (c := .int .u64 (q : Int)) R1.out (by omega))
        have R2' := Lib.hid (heap_other (B := gr) (j := k) (c := .int .u64 (q : Int)) R2.out (by omega))
        have hb' := hb.setCell (p := ⟨gr, k, none⟩) hbg (.int .u64 (q : Int))
        clear hx hy hq hvr b0
        go_wp2
        go_roundw
        case rel => exact ⟨k + 1, by omega, by go_num, HO2, R0', R1', R2', hb'⟩
        case measure => simp [intOf]; omega
      · obtain rfl : k = m := by omega
        have HO2 : Hid (wr.ownsRow w1.heap.size 26 1 (.slice av k capv) k (u64s (orL xs ys))) := by
          have := HO.out
          rw [← HLA.out] at this ⊢
          rwa [mixL_all HOL.out] at this
        obtain ⟨a0, a1, _⟩ := two_cells R0.out
        obtain ⟨b0, b1, _⟩ := two_cells R1.out
        have hbw : w1.heap.size ≤ wr.heap.size := Nat.le_trans hb2.size hb.size
        have HOLT := Lib.hid (orL_lt HXA.out HYA.out)
        have hol100 : Hid ((orL xs ys).length ≤ 100) := by show _ ≤ _; rw [HOL.out]; exact HXL.out
        have holn : Hid ((orL xs ys).length = k) := by show _ = _; rw [HOL.out]; exact HLA.out
        go_wp2_with fail
        refine (canonical_is gg w1.heap.size k (.slice av k capv) (orL xs ys) zs _ hgg HOLT.out hol100.out holn.out hbw HO2.out HZ.out).mono ?_
        rintro e w4 ⟨rfl, post⟩
        have POST := Lib.hid post
        have hB4 : Below w.heap.size w w4 := ((hB1.trans (hb2.mono hB1.size)).trans (hb.mono hB1.size)).trans (post.below.mono hB1.size)
        have W2 := Lib.hid ((post.rest (w.heap.size + 1 + 1) ((Array.getElem?_eq_some_iff.1 R2.out).1) (fun e => by have h9 := (HO2.out.lt _ e.symm).1; omega)).trans R2.out)
        obtain ⟨p0, p1, ff⟩ := two_cells W2.out
        have f0 := ff 0; have f1 := ff 1
        have N1 := Lib.hid (two_set1 (c := .slice av k capv) (two_set0 (c := .int .u64 (gg : Int)) W2.out))
        obtain ⟨s0, s1, _⟩ := two_cells N1.out
        have HNB := Lib.hid (not_row W2.out (by decide) POST.out.own)
        have HO5 := Lib.hid ((POST.out.own.kept (grownBy_set _ _ 0 (.int .u64 (gg : Int))) (.inr HNB.out.symm)).kept (grownBy_set _ (w.heap.size + 1 + 1) 1 (.slice av k capv)) (.inr HNB.out.symm))
        have HB5 := Lib.hid ((hB4.setCell (p := ⟨w.heap.size + 1 + 1, 0, none⟩) (by simp; omega) (.int .u64 (gg : Int))).setCell (p := ⟨w.heap.size + 1 + 1, 1, none⟩) (by simp; omega) (.slice av k capv))
        clear post ff a0 a1 b0 b1
        go_wp2
        refine bodyPost_ret (v := .tuple #[.agg #[.int .u64 (gg : Int), .slice av k capv], .int .i64 0]) ?_ rfl (fret_own hB1.size HO5.out HB5.out 0)
        simp [results, Tryz.results78, go_sem, s0, s1]
  · obtain rfl : 0 = g := by rw [← hg, combG, he, if_neg h0]
    obtain rfl : [] = zs := by rw [← hz, combV, he, if_neg h0]
    have hne : (e0 != 0) = true := by simpa using h0
    clear hfa hfb he hg hz hla hlb t0 t1 t2 h0
    go_enter Tryz.func78, Tryz.ntmps78
    go_wp2_with fail
    refine (bothA_is n a b capa capb ga gb xs ys _ HA.out HB.out e0 HE.out la lb HLA.out HLB.out).mono ?_
    rintro e w1 ⟨rfl, hb1⟩
    have hB1 := hB0.trans (hb1.mono hB0.size)
    have U2 := Lib.hid (heap_old T2.out hb1)
    obtain ⟨d0, d1, df⟩ := two_cells U2.out
    have f0 := df 0; have f1 := df 1
    have N1 := Lib.hid (two_set1 (c := .slice none 0 0) (two_set0 (c := .int .u64 0) U2.out))
    obtain ⟨s0, s1, _⟩ := two_cells N1.out
    clear df
    go_wp2
    refine bodyPost_ret (v := .tuple #[.agg #[.int .u64 0, .slice none 0 0], .int .i64 e0]) ?_ rfl (fret_nil e0 ((hB1.setCell (p := ⟨w.heap.size + 1 + 1, 0, none⟩) (by simp; omega) _).setCell (p := ⟨w.heap.size + 1 + 1, 1, none⟩) (by simp; omega) _))
    simp [results, Tryz.results78, go_sem, s0, s1]
end Go.Proofs.YtjcminoaiieckaaGreatDoor
namespace Go.Proofs.YtjcminoaiieckaaGreatDoor
open Go.RowKit
set_option linter.unusedVariables false
def extG (n : Int) (ga : Nat) (xs : List Nat) (gb : Nat) (ys : List Nat) : Nat := if bothE n ga xs gb ys = 0 then madeF gb ys ga else 0
def extV (n : Int) (ga : Nat) (xs : List Nat) (gb : Nat) (ys : List Nat) : List Nat := if bothE n ga xs gb ys = 0 then canonL (madeF gb ys ga) (xs.map (madeF gb ys)) else []
set_option maxRecDepth 100000 in
set_option maxHeartbeats 4000000 in
theorem extA_is (n : Int) (a b : Option Addr) (capa capb ga gb : Nat) (xs ys : List Nat) (w : World) (hfa : FAt w a ga xs) (hfb : FAt w b gb ys) (ht : TabC w) (e0 : Int) (he : bothE n ga xs gb ys = e0) (g : Nat) (hg : extG n ga xs gb ys = g) (zs : List Nat) (hz : extV n ga xs gb ys = zs) (la lb : Nat) (hla : xs.length = la) (hlb : ys.length = lb) :
    Calls Tryz.prog 85 #[.int .i64 n, fval ga a la capa, fval gb b lb capb] w (FRet g zs e0 w) := by
  unfold fval
  have hB0 : Below w.heap.size w (((w.alloc (.cells #[.int .u64 (ga : Int), .slice a la capa] 29)).alloc (.cells #[.int .u64 (gb : Int), .slice b lb capb] 29)).alloc (.cells #[.int .u64 0, .slice none 0 0] 29)) := (((Below.refl _ _).alloc (Nat.le_refl _) _).alloc (by simp) _).alloc (by simp; omega) _
  have HA := Lib.hid (hfa.below hB0); have HB := Lib.hid (hfb.below hB0); have HLA := Lib.hid hla; have HLB := Lib.hid hlb
  obtain ⟨t0, t1, t2⟩ := three_boxes w #[.int .u64 (ga : Int), .slice a la capa] #[.int .u64 (gb : Int), .slice b lb capb] #[.int .u64 0, .slice none 0 0] 29
  have T0 := Lib.hid t0; have T1 := Lib.hid t1; have T2 := Lib.hid t2
  have hga := hfa.gen; have hgb := hfb.gen
  have HXA := Lib.hid hfa.all; have HYA := Lib.hid hfb.all
  have HXL := Lib.hid hfa.len
  have HE := Lib.hid he
  by_cases h0 : e0 = 0
  · subst h0
    obtain ⟨m, rfl, hm, hxm, hym⟩ := bothE_len he
    obtain rfl : m = la := by omega
    obtain rfl : m = lb := by omega
    obtain rfl : madeF gb ys ga = g := by rw [← hg, extG, if_pos he]
    have HZ : Hid (canonL (madeF gb ys ga) (xs.map (madeF gb ys)) = zs) := by show _ = _; rw [← hz, extV, if_pos he]
    have HOL : Hid ((xs.map (madeF gb ys)).length = (List.replicate m 0).length) := by show _ = _; simp; omega
    obtain ⟨hc1, hc2⟩ := bothE_ok he
    obtain ⟨hd, sh1, _⟩ := checkE_ok hc1
    rw [Int.toNat_natCast] at sh1
    obtain ⟨_, ig, ir⟩ := shapeB_len sh1
    have HINg : Hid (∀ i ∈ mem ga, i < ys.length) := fun i hi => by rw [hym]; exact mem_below ((insN_iff hm hga).1 ig) hi
    have HINr : Hid (∀ x ∈ xs, ∀ i ∈ mem x, i < ys.length) := fun x hx i hi => by rw [hym]; exact mem_below ((insN_iff hm (hfa.all x hx)).1 (ir x hx)) hi
    have hgg : madeF gb ys ga < 18446744073709551616 := madeF_lt hfb.all hgb
    have HGG : Hid (madeF gb ys ga = madeF gb ys ga) := rfl
    obtain ⟨gg, hggq⟩ : ∃ gg, madeF gb ys ga = gg := ⟨_, rfl⟩
    have HGQ := Lib.hid hggq
    rw [hggq] at hgg HZ ⊢
    obtain ⟨i0, hi, hz0, hz1, hz2⟩ := info_parts infoU
    have HT := Lib.hid ht
    have hm0 : (0 : Int) ≤ (m : Int) := by omega
    have hm64 : (m : Int) ≤ 64 := by omega
    clear hfa hfb he hg hz hla hlb t0 t1 t2 hxm hym hggq hc1 hc2 hd sh1 ig ir HGG ht
    go_enter Tryz.func85, Tryz.ntmps85
    go_wp2_with fail
    refine (bothA_is m a b capa capb ga gb xs ys _ HA.out HB.out 0 HE.out m m HLA.out HLB.out).mono ?_
    rintro e w1 ⟨rfl, hb1⟩
    have hB1 := hB0.trans (hb1.mono hB0.size)
    have U0 := Lib.hid (heap_old T0.out hb1); have U1 := Lib.hid (heap_old T1.out hb1); have U2 := Lib.hid (heap_old T2.out hb1)
    go_wp2_with (at_make; go_loud (refine wpList_make_full _ rfl (.tmp 20) (.tmp 20) 27 rfl w1.heap.size 26 i0 _ 1 Tryz.underlying27 hi hz0 hz1 .i64 .i64 (m : Int) (m : Int) m rfl rfl rfl rfl (by rw [hz2]; omega) (by unfold maxLen; omega) (Nat.le_refl _) ?_; intro w2 hown2 hgrow2; have hb2 : Below w1.heap.size w1 w2 := (Below.refl _ _).grown hgrow2 (Nat.le_refl _) (fun j e => by cases e); have V0 := Lib.hid (heap_old U0.out hb2); obtain ⟨c0, c1, _⟩ := two_cells V0.out))
    have hB2 := hB1.trans (hb2.mono hB1.size)
    have V1 := Lib.hid (heap_old U1.out hb2); have V2 := Lib.hid (heap_old U2.out hb2)
    have hw1 : w.heap.size + 1 + 1 < w1.heap.size := (Array.getElem?_eq_some_iff.1 U2.out).1
    have HO0 : Hid (w2.ownsRow w1.heap.size 26 1 (.slice (some ⟨w1.heap.size, 0, none⟩) m m) m (u64s (mixL (xs.map (madeF gb ys)) (List.replicate m 0) 0))) := by
      rw [mixL_zero]
      have e : u64s (List.replicate m 0) = List.replicate m (.int .u64 0) := by simp [u64s]
      have e2 : (madeCells (Value.int IntKind.u64 0).cells (m * 1)).toList = List.replicate m (.int .u64 0) := by
        rw [Nat.mul_one]
        apply List.ext_getElem
        · simp [madeCells]
        · intro i h1 h2
          simp [madeCells, Value.cells, Nat.mod_one]
      rw [e, ← e2]
      exact hown2
    clear hown2 c0 c1
    go_wp2_with fail
    go_loopw [25] (fun i wr => ∃ k : Nat, k ≤ m ∧ i = .int .i64 k ∧ Hid (wr.ownsRow w1.heap.size 26 1 (.slice (some ⟨w1.heap.size, 0, none⟩) m m) m (u64s (mixL (xs.map (madeF gb ys)) (List.replicate m 0) k))) ∧ Hid (wr.heap[w.heap.size]? = some (.cells #[.int .u64 (ga : Int), .slice a m capa] 29 (0, 0))) ∧ Hid (wr.heap[w.heap.size + 1]? = some (.cells #[.int .u64 (gb : Int), .slice b m capb] 29 (0, 0))) ∧ Hid (wr.heap[w.heap.size + 1 + 1]? = some (.cells #[.int .u64 0, .slice none 0 0] 29 (0, 0))) ∧ Below w1.heap.size w1 wr) (fun i _ => m - (intOf i).toNat)
    case atStart => exact ⟨0, Nat.zero_le _, rfl, HO0, V0, V1, V2, hb2⟩
    case round =>
      obtain ⟨k, hk, rfl, HO, R0, R1, R2, hb⟩ := hrel
      have HFB := Lib.hid ((HB.out.below hb1).below hb)
      obtain ⟨d0, d1, _⟩ := two_cells R1.out
      by_cases hlt : k < m
      · obtain ⟨ba, offa, x, rfl, hx, hx64, hba, a0⟩ := ((HA.out.below hb1).below hb).at_ (i := k) (by rw [HLA.out]; exact hlt)
        have HXI := Lib.hid (HINr.out x (List.mem_of_getElem? hx))
        have hxk : (List.replicate m 0)[k]? = some 0 := by simp [hlt]
        have hmx : (xs.map (madeF gb ys))[k]? = some (madeF gb ys x) := by rw [List.getElem?_map, hx]; rfl
        have HM := Lib.hid (mixL_set hmx hxk)
        obtain ⟨q, hq⟩ : ∃ q, madeF gb ys x = q := ⟨_, rfl⟩
        have HQ := Lib.hid hq
        rw [hq] at HM
        have z0 := Lib.hid (u64s_get (mixL_at HOL.out hxk))
        have g0 : (0 : Int) ≤ (k : Int) := by omega
        have g3 : (k : Int) < (m : Int) := by omega
        have hbw : Hid (Below w.heap.size w wr) := hB1.trans (hb.mono hB1.size)
        clear hx hq hmx hxk
        go_wp2_with fail
        refine (madeA_is b capb gb ys x hx64 _ HFB.out HXI.out (HT.out.below hbw.out) q HQ.out m HLB.out).mono ?_
        rintro e w4 ⟨rfl, hb4⟩
        have HO4 := Lib.hid (ownV_below HO.out hb4)
        have dd := (HO4.out.cellAt k (by omega)).trans z0.out
        have q0 := HO4.out.frozenAt k
        have HO2 : Hid ((w4.setCell ⟨w1.heap.size, k, none⟩ (.int .u64 (q : Int))).ownsRow w1.heap.size 26 1 (.slice (some ⟨w1.heap.size, 0, none⟩) m m) m (u64s (mixL (xs.map (madeF gb ys)) (List.replicate m 0) (k + 1)))) := by
          rw [← HM.out, ← u64s_set]
          exact (HO4.out.stored k _).1
        have R0' := Lib.hid (heap_other (B := w1.heap.size) (j := k) (c := .int .u64 (q : Int)) (heap_old R0.out hb4) (by omega))
        have R1' := Lib.hid (heap_other (B := w1.heap.size) (j := k) (c := .int .u64 (q : Int)) (heap_old R1.out hb4) (by omega))
        have R2' := Lib.hid (heap_other (B := w1.heap.size) (j := k) (c := .int .u64 (q : Int)) (heap_old R2.out hb4) (by omega))
        have hb' := (hb.trans (hb4.mono hb.size)).setCell (p := ⟨w1.heap.size, k, none⟩) (Nat.le_refl _) (.int .u64 (q : Int))
        go_wp2
        go_roundw
        case rel => exact ⟨k + 1, by omega, by go_num, HO2, R0', R1', R2', hb'⟩
        case measure => simp [intOf]; omega
      · obtain rfl : k = m := by omega
        have HO2 : Hid (wr.ownsRow w1.heap.size 26 1 (.slice (some ⟨w1.heap.size, 0, none⟩) k k) k (u64s (xs.map (madeF gb ys)))) := by
          have := HO.out
          have e : mixL (xs.map (madeF gb ys)) (List.replicate k 0) k = xs.map (madeF gb ys) := by
            have := mixL_all HOL.out
            rwa [List.length_replicate] at this
          rwa [e] at this
        obtain ⟨a0, a1, _⟩ := two_cells R0.out
        have hol100 : Hid ((xs.map (madeF gb ys)).length ≤ 100) := by show _ ≤ _; rw [List.length_map]; exact HXL.out
        have holn : Hid ((xs.map (madeF gb ys)).length = k) := by show _ = _; rw [List.length_map]; exact HLA.out
        have HOLT : Hid (∀ r ∈ xs.map (madeF gb ys), r < 18446744073709551616) := fun r hr => by
          rw [List.mem_map] at hr
          obtain ⟨x, _, rfl⟩ := hr
          exact madeF_lt HYA.out hgb
        have hbw : Hid (Below w.heap.size w wr) := hB1.trans (hb.mono hB1.size)
        go_wp2_with fail
        refine (madeA_is b capb gb ys ga hga _ HFB.out HINg.out (HT.out.below hbw.out) gg HGQ.out k HLB.out).mono ?_
        rintro e w3 ⟨rfl, hb3⟩
        have hb3w : w1.heap.size ≤ w3.heap.size := Nat.le_trans hb.size hb3.size
        have HO3 := Lib.hid (ownV_below HO2.out hb3)
        have R3 := Lib.hid (heap_old R2.out hb3)
        go_wp2_with fail
        refine (canonical_is gg w1.heap.size k _ (xs.map (madeF gb ys)) zs _ hgg HOLT.out hol100.out holn.out hb3w HO3.out HZ.out).mono ?_
        rintro e w4 ⟨rfl, post⟩
        have POST := Lib.hid post
        have hB4 : Below w.heap.size w w4 := (hbw.out.trans (hb3.mono hbw.out.size)).trans (post.below.mono hB1.size)
        have W2 := Lib.hid ((post.rest (w.heap.size + 1 + 1) ((Array.getElem?_eq_some_iff.1 R3.out).1) (fun e => by have h9 := (HO3.out.lt _ e.symm).1; omega)).trans R3.out)
        obtain ⟨p0, p1, ff⟩ := two_cells W2.out
        have f0 := ff 0; have f1 := ff 1
        have N1 := Lib.hid (two_set1 (c := .slice (some ⟨w1.heap.size, 0, none⟩) k k) (two_set0 (c := .int .u64 (gg : Int)) W2.out))
        obtain ⟨s0, s1, _⟩ := two_cells N1.out
        have HNB := Lib.hid (not_row W2.out (by decide) POST.out.own)
        have HO5 := Lib.hid ((POST.out.own.kept (grownBy_set _ _ 0 (.int .u64 (gg : Int))) (.inr HNB.out.symm)).kept (grownBy_set _ (w.heap.size + 1 + 1) 1 (.slice (some ⟨w1.heap.size, 0, none⟩) k k)) (.inr HNB.out.symm))
        have HB5 := Lib.hid ((hB4.setCell (p := ⟨w.heap.size + 1 + 1, 0, none⟩) (by simp; omega) (.int .u64 (gg : Int))).setCell (p := ⟨w.heap.size + 1 + 1, 1, none⟩) (by simp; omega) (.slice (some ⟨w1.heap.size, 0, none⟩) k k))
        clear post ff a0 a1 d0 d1
        go_wp2
        refine bodyPost_ret (v := .tuple #[.agg #[.int .u64 (gg : Int), .slice (some ⟨w1.heap.size, 0, none⟩) k k], .int .i64 0]) ?_ rfl (fret_own hB1.size HO5.out HB5.out 0)
        simp [results, Tryz.results85, go_sem, s0, s1]
  · obtain rfl : 0 = g := by rw [← hg, extG, he, if_neg h0]
    obtain rfl : [] = zs := by rw [← hz, extV, he, if_neg h0]
    have hne : (e0 != 0) = true := by simpa using h0
    clear hfa hfb he hg hz hla hlb t0 t1 t2 h0
    go_enter Tryz.func85, Tryz.ntmps85
    go_wp2_with fail
    refine (bothA_is n a b capa capb ga gb xs ys _ HA.out HB.out e0 HE.out la lb HLA.out HLB.out).mono ?_
    rintro e w1 ⟨rfl, hb1⟩
    have hB1 := hB0.trans (hb1.mono hB0.size)
    have U2 := Lib.hid (heap_old T2.out hb1)
    obtain ⟨d0, d1, df⟩ := two_cells U2.out
    have f0 := df 0; have f1 := df 1
    have N1 := Lib.hid (two_set1 (c := .slice none 0 0) (two_set0 (c := .int .u64 0) U2.out))
    obtain ⟨s0, s1, _⟩ := two_cells N1.out
    clear df
    go_wp2
    refine bodyPost_ret (v := .tuple #[.agg #[.int .u64 0, .slice none 0 0], .int .i64 e0]) ?_ rfl (fret_nil e0 ((hB1.setCell (p := ⟨w.heap.size + 1 + 1, 0, none⟩) (by simp; omega) _).setCell (p := ⟨w.heap.size + 1 + 1, 1, none⟩) (by simp; omega) _))
    simp [results, Tryz.results85, go_sem, s0, s1]
end Go.Proofs.YtjcminoaiieckaaGreatDoor
namespace Go.Proofs.YtjcminoaiieckaaGreatDoor
open Go.RowKit
set_option linter.unusedVariables false
def FOwn (gen : Nat) (rows : List Nat) (err : Int) (w : World) (e : Ending) (w' : World) : Prop :=
  ∃ v, e = .returned (.tuple #[.agg #[.int .u64 (gen : Int), v], .int .i64 err]) ∧ w'.ownsRow w.heap.size 26 1 v rows.length (u64s rows) ∧ Below w.heap.size w w'
theorem fown_nil {w w' : World} (err : Int) (hb : Below w.heap.size w w') : FOwn 0 [] err w (.returned (.tuple #[.agg #[.int .u64 0, .slice none 0 0], .int .i64 err])) w' :=
  ⟨_, rfl, World.ownsRow_nil _ _ _ _, hb⟩
theorem fown_own {w w' : World} {gen n : Nat} {v : Value} {rows : List Nat} (h : w'.ownsRow w.heap.size 26 1 v n (u64s rows)) (hb : Below w.heap.size w w') (err : Int) : FOwn gen rows err w (.returned (.tuple #[.agg #[.int .u64 (gen : Int), v], .int .i64 err])) w' := by
  have hn : n = rows.length := by have := h.1; rw [u64s_length] at this; omega
  subst hn
  exact ⟨v, rfl, h, hb⟩
theorem FOwn.ret {gen : Nat} {rows : List Nat} {err : Int} {w w' : World} {e : Ending} (h : FOwn gen rows err w e w') : FRet gen rows err w e w' := by
  obtain ⟨v, rfl, ho, hb⟩ := h
  exact fret_own (Nat.le_refl _) ho hb err
def onesL (m : Nat) : List Nat := (List.range m).map fun i => 2 ^ i
theorem onesL_length (m : Nat) : (onesL m).length = m := by simp [onesL]
theorem onesL_at {m k : Nat} (h : k < m) : (onesL m)[k]? = some (2 ^ k) := by
  unfold onesL
  rw [List.getElem?_map, List.getElem?_range h]; rfl
def oneV (n : Int) : List Nat := if dimB n = true then onesL n.toNat else []
def oneE (n : Int) : Int := if dimB n = true then 0 else 31
set_option maxRecDepth 100000 in
set_option maxHeartbeats 2000000 in
theorem oneA_is (n : Int) (w : World) (e0 : Int) (he : oneE n = e0) (ys : List Nat) (hys : oneV n = ys) :
    Calls Tryz.prog 65 #[.int .i64 n] w (FOwn 0 ys e0 w) := by
  have hB0 : Below w.heap.size w (w.alloc (.cells #[.int .u64 0, .slice none 0 0] 29)) := (Below.refl _ _).alloc (Nat.le_refl _) _
  have T0 := Lib.hid (heapV_new w (.cells #[.int .u64 0, .slice none 0 0] 29))
  obtain ⟨i0, hi, hz0, hz1, hz2⟩ := info_parts infoU
  cases hd : dimB n
  · obtain rfl : 31 = e0 := by rw [← he, oneE, hd]; rfl
    obtain rfl : [] = ys := by rw [← hys, oneV, hd]; rfl
    obtain ⟨d0, d1, df⟩ := two_cells T0.out
    have f0 := df 0; have f1 := df 1
    have hx : n < 0 ∨ 64 < n := by
      by_cases h : n < 0
      · exact .inl h
      · simp [dimB, show 0 ≤ n by omega] at hd; exact .inr hd
    clear df hd he hys
    rcases hx with hx | hx
    all_goals
      go_enter Tryz.func65, Tryz.ntmps65
      go_wp2
      refine bodyPost_ret (v := .tuple #[.agg #[.int .u64 0, .slice none 0 0], .int .i64 31]) ?_ rfl (fown_nil 31 hB0)
      simp [results, Tryz.results65, go_sem, d0, d1]
  · obtain ⟨m, rfl, hm⟩ := dim_nat hd
    obtain rfl : 0 = e0 := by rw [← he, oneE, hd]; rfl
    have HY : Hid (onesL m = ys) := by show _ = _; rw [← hys, oneV, hd, if_pos rfl, Int.toNat_natCast]
    have hm0 : (0 : Int) ≤ (m : Int) := by omega
    have hm64 : (m : Int) ≤ 64 := by omega
    clear hd he hys
    go_enter Tryz.func65, Tryz.ntmps65
    go_wp2_with (at_make; go_loud (refine wpList_make_full _ rfl (.tmp 13) (.tmp 13) 27 rfl w.heap.size 26 i0 _ 1 Tryz.underlying27 hi hz0 hz1 .i64 .i64 (m : Int) (m : Int) m rfl rfl rfl rfl (by rw [hz2]; omega) (by unfold maxLen; omega) hB0.size ?_; intro w2 hown2 hgrow2))
    have hbl : (w.alloc (.cells #[.int .u64 0, .slice none 0 0] 29)).heap.size = w.heap.size + 1 := by simp
    have hzz : Hid (w2.ownsRow w.heap.size 26 1 (.slice (some ⟨w.heap.size + 1, 0, none⟩) m m) m (u64s (mixL (onesL m) (List.replicate m 0) 0))) := by
      rw [mixL_zero, ← hbl]
      have e : u64s (List.replicate m 0) = List.replicate m (.int .u64 0) := by simp [u64s]
      have e2 : (madeCells (Value.int IntKind.u64 0).cells (m * 1)).toList = List.replicate m (.int .u64 0) := by
        rw [Nat.mul_one]
        apply List.ext_getElem
        · simp [madeCells]
        · intro i h1 h2
          simp [madeCells, Value.cells, Nat.mod_one]
      rw [e, ← e2]
      exact hown2
    have U0 := Lib.hid ((hgrow2.block _ (Array.getElem?_eq_some_iff.1 T0.out).1 (by simp)).trans T0.out)
    have hB2 : Below w.heap.size w w2 := hB0.grown hgrow2 hB0.size (fun j e => by cases e)
    clear hown2
    go_wp2_with fail
    go_loopw [17] (fun i wr => ∃ k : Nat, k ≤ m ∧ i = .int .i64 k ∧ Hid (wr.ownsRow w.heap.size 26 1 (.slice (some ⟨w.heap.size + 1, 0, none⟩) m m) m (u64s (mixL (onesL m) (List.replicate m 0) k))) ∧ Hid (wr.heap[w.heap.size]? = some (.cells #[.int .u64 0, .slice none 0 0] 29 (0, 0))) ∧ Below w.heap.size w wr) (fun i _ => m - (intOf i).toNat)
    case atStart => exact ⟨0, Nat.zero_le _, rfl, hzz, U0, hB2⟩
    case round =>
      obtain ⟨k, hk, rfl, HO, HR, hb⟩ := hrel
      by_cases hlt : k < m
      · have hsh : IntKind.u64.wrap ((2 : Int) ^ k) = ((2 ^ k : Nat) : Int) := by
          have hpw : 2 ^ k ≤ 9223372036854775808 := pow_lt64 (by omega)
          rw [IntKind.wrap_u64]
          have e : ((2 : Int) ^ k) = ((2 ^ k : Nat) : Int) := by simp
          rw [e]
          generalize 2 ^ k = q at *
          omega
        have hxk : (List.replicate m 0)[k]? = some 0 := by simp [hlt]
        have HM := Lib.hid (mixL_set (onesL_at hlt) hxk)
        obtain ⟨q, hq⟩ : ∃ q : Nat, 2 ^ k = q := ⟨_, rfl⟩
        rw [hq] at hsh HM
        have q0 := HO.out.frozenAt k
        have d0 := (HO.out.cellAt k (by omega)).trans (u64s_get (mixL_at (by rw [onesL_length]; simp) hxk))
        have g0 : (0 : Int) ≤ (k : Int) := by omega
        have g3 : (k : Int) < (m : Int) := by omega
        have HO2 : Hid ((wr.setCell ⟨w.heap.size + 1, k, none⟩ (.int .u64 (q : Int))).ownsRow w.heap.size 26 1 (.slice (some ⟨w.heap.size + 1, 0, none⟩) m m) m (u64s (mixL (onesL m) (List.replicate m 0) (k + 1)))) := by
          rw [← HM.out, ← u64s_set]
          exact (HO.out.stored k _).1
        have HR2 := Lib.hid (heap_other (B := w.heap.size + 1) (j := k) (c := .int .u64 (q : Int)) HR.out (by omega))
        have hb2 := hb.setCell (p := ⟨w.heap.size + 1, k, none⟩) (by simp) (.int .u64 (q : Int))
        clear hxk hq
        go_wp2
        go_roundw
        case rel => exact ⟨k + 1, by omega, by go_num, HO2, HR2, hb2⟩
        case measure => simp [intOf]; omega
      · obtain rfl : k = m := by omega
        have HO2 : Hid (wr.ownsRow w.heap.size 26 1 (.slice (some ⟨w.heap.size + 1, 0, none⟩) k k) k (u64s ys)) := by
          have := HO.out
          have e : mixL (onesL k) (List.replicate k 0) k = onesL k := by
            have := mixL_all (ys := onesL k) (xs := List.replicate k 0) (by rw [onesL_length]; simp)
            simpa using this
          rwa [e, HY.out] at this
        obtain ⟨r0, r1, rf⟩ := two_cells HR.out
        have rf0 := rf 0; have rf1 := rf 1
        have N1 := Lib.hid (two_set1 (c := .slice (some ⟨w.heap.size + 1, 0, none⟩) k k) (two_set0 (c := .int .u64 0) HR.out))
        obtain ⟨s0, s1, _⟩ := two_cells N1.out
        have HO5 := Lib.hid ((HO2.out.kept (grownBy_set _ _ 0 (.int .u64 0)) (.inr (not_row HR.out (by decide) HO2.out).symm)).kept (grownBy_set _ w.heap.size 1 (.slice (some ⟨w.heap.size + 1, 0, none⟩) k k)) (.inr (not_row HR.out (by decide) HO2.out).symm))
        have HB5 := Lib.hid ((hb.setCell (p := ⟨w.heap.size, 0, none⟩) (Nat.le_refl _) (.int .u64 0)).setCell (p := ⟨w.heap.size, 1, none⟩) (Nat.le_refl _) (.slice (some ⟨w.heap.size + 1, 0, none⟩) k k))
        clear rf
        go_wp2
        refine bodyPost_ret (v := .tuple #[.agg #[.int .u64 0, .slice (some ⟨w.heap.size + 1, 0, none⟩) k k], .int .i64 0]) ?_ rfl (fown_own (gen := 0) HO5.out HB5.out 0)
        simp [results, Tryz.results65, go_sem, s0, s1]
end Go.Proofs.YtjcminoaiieckaaGreatDoor
namespace Go.Proofs.YtjcminoaiieckaaGreatDoor
open Go.RowKit
set_option linter.unusedVariables false
theorem u64_nat {a : Int} (h : (Lit.int .u64 a).wf = true) : ∃ n : Nat, a = n ∧ n < 18446744073709551616 := by
  simp only [Lit.wf, IntKind.min, IntKind.max, IntKind.signed, IntKind.bits, Bool.and_eq_true, decide_eq_true_eq] at h
  simp at h
  exact ⟨a.toNat, by omega, by omega⟩
end Go.Proofs.YtjcminoaiieckaaGreatDoor
namespace Go.Proofs.YtjcminoaiieckaaGreatDoor
open Go.RowKit
set_option linter.unusedVariables false
theorem same_self (g : Nat) (zs : List Nat) : sameB g zs g zs = true := by simp [sameB]
end Go.Proofs.YtjcminoaiieckaaGreatDoor
namespace Go.Proofs.YtjcminoaiieckaaGreatDoor
open Go.RowKit
set_option linter.unusedVariables false
theorem mem_iff {s i : Nat} : i ∈ mem s ↔ i < 64 ∧ s.testBit i = true := ⟨fun h => ⟨mem_lt h, mem_bit h⟩, fun h => mem_of_bit h.1 h.2⟩
theorem acc_bit (rows : List Nat) (j : Nat) : ∀ (l : List Nat) (g : Nat), (accF rows g l).testBit j = true ↔ g.testBit j = true ∨ ∃ i ∈ l, (rows.getD i 0).testBit j = true
  | [], g => by simp [accF]
  | x :: l, g => by
    have := acc_bit rows j l (g ||| rows.getD x 0)
    rw [show accF rows g (x :: l) = accF rows (g ||| rows.getD x 0) l from rfl, this, Nat.testBit_or, Bool.or_eq_true]
    simp only [List.mem_cons, exists_eq_or_imp]
    exact or_assoc
theorem made_bit {g s j : Nat} {rows : List Nat} : (madeF g rows s).testBit j = true ↔ g.testBit j = true ∨ ∃ i, (i < 64 ∧ s.testBit i = true) ∧ (rows.getD i 0).testBit j = true := by
  rw [madeF, acc_bit]
  simp only [mem_iff]
theorem bit_ext {a b : Nat} (h : ∀ j, a.testBit j = true ↔ b.testBit j = true) : a = b := by
  apply Nat.eq_of_testBit_eq
  intro j
  rw [Bool.eq_iff_iff]; exact h j
theorem andn_iff {a b j : Nat} (ha : a < 18446744073709551616) (hb : b < 18446744073709551616) : (andn a b).testBit j = true ↔ a.testBit j = true ∧ ¬ b.testBit j = true := by
  rw [andn_bit ha hb]; simp
theorem getD_lt {rows : List Nat} (h : ∀ r ∈ rows, r < 18446744073709551616) (i : Nat) : rows.getD i 0 < 18446744073709551616 := by
  rw [List.getD_eq_getElem?_getD]
  cases hx : rows[i]? with
  | none => simp
  | some y => exact h y (List.mem_of_getElem? hx)
theorem getD_canon {g : Nat} {rows : List Nat} (i : Nat) : (canonL g rows).getD i 0 = andn (rows.getD i 0) g := by
  rw [List.getD_eq_getElem?_getD, List.getD_eq_getElem?_getD, canonL, List.getElem?_map]
  cases rows[i]? <;> simp [andn]
theorem getD_or {xs ys : List Nat} (hl : ys.length = xs.length) (i : Nat) : (orL xs ys).getD i 0 = xs.getD i 0 ||| ys.getD i 0 := by
  rw [List.getD_eq_getElem?_getD, List.getD_eq_getElem?_getD, List.getD_eq_getElem?_getD, orL, List.getElem?_zipWith]
  rcases Nat.lt_or_ge i xs.length with h | h
  · rw [List.getElem?_eq_getElem h, List.getElem?_eq_getElem (by omega)]; simp
  · rw [List.getElem?_eq_none h, List.getElem?_eq_none (by omega)]; simp
theorem made_canon {g : Nat} {rows : List Nat} (hg : g < 18446744073709551616) (hr : ∀ r ∈ rows, r < 18446744073709551616) (s : Nat) : madeF g (canonL g rows) s = madeF g rows s := by
  apply bit_ext; intro j
  rw [made_bit, made_bit]
  constructor
  · rintro (h | ⟨i, hi, h⟩)
    · exact .inl h
    · rw [getD_canon, andn_iff (getD_lt hr i) hg] at h
      exact .inr ⟨i, hi, h.1⟩
  · rintro (h | ⟨i, hi, h⟩)
    · exact .inl h
    · by_cases hj : g.testBit j = true
      · exact .inl hj
      · exact .inr ⟨i, hi, by rw [getD_canon, andn_iff (getD_lt hr i) hg]; exact ⟨h, hj⟩⟩
theorem made_or {ga gb : Nat} {xs ys : List Nat} (hl : ys.length = xs.length) (s : Nat) : madeF (ga ||| gb) (orL xs ys) s = madeF ga xs s ||| madeF gb ys s := by
  apply bit_ext; intro j
  rw [Nat.testBit_or, Bool.or_eq_true, made_bit, made_bit, made_bit, Nat.testBit_or, Bool.or_eq_true]
  constructor
  · rintro ((h | h) | ⟨i, hi, h⟩)
    · exact .inl (.inl h)
    · exact .inr (.inl h)
    · rw [getD_or hl, Nat.testBit_or, Bool.or_eq_true] at h
      rcases h with h | h
      · exact .inl (.inr ⟨i, hi, h⟩)
      · exact .inr (.inr ⟨i, hi, h⟩)
  · rintro ((h | ⟨i, hi, h⟩) | (h | ⟨i, hi, h⟩))
    · exact .inl (.inl h)
    · exact .inr ⟨i, hi, by rw [getD_or hl, Nat.testBit_or, Bool.or_eq_true]; exact .inl h⟩
    · exact .inl (.inr h)
    · exact .inr ⟨i, hi, by rw [getD_or hl, Nat.testBit_or, Bool.or_eq_true]; exact .inr h⟩
theorem getD_map {f : Nat → Nat} {xs : List Nat} (i : Nat) : (xs.map f).getD i 0 = if i < xs.length then f (xs.getD i 0) else 0 := by
  rw [List.getD_eq_getElem?_getD, List.getD_eq_getElem?_getD, List.getElem?_map]
  split
  · rename_i h; rw [List.getElem?_eq_getElem h]; rfl
  · rename_i h; rw [List.getElem?_eq_none (by omega)]; rfl
theorem made_then {ga gb : Nat} {xs ys : List Nat} (s : Nat) : madeF (madeF gb ys ga) (xs.map (madeF gb ys)) s = madeF gb ys (madeF ga xs s) := by
  apply bit_ext; intro j
  rw [made_bit, made_bit, made_bit]
  simp only [made_bit]
  constructor
  · rintro ((h | ⟨k, ⟨hk, hk2⟩, h⟩) | ⟨i, hi, h⟩)
    · exact .inl h
    · exact .inr ⟨k, ⟨hk, .inl hk2⟩, h⟩
    · rw [getD_map] at h
      split at h
      · rw [made_bit] at h
        rcases h with h | ⟨k, ⟨hk, hk2⟩, h⟩
        · exact .inl h
        · exact .inr ⟨k, ⟨hk, .inr ⟨i, hi, hk2⟩⟩, h⟩
      · simp at h
  · rintro (h | ⟨k, ⟨hk, (hk2 | ⟨i, hi, hk2⟩)⟩, h⟩)
    · exact .inl (.inl h)
    · exact .inl (.inr ⟨k, ⟨hk, hk2⟩, h⟩)
    · refine .inr ⟨i, hi, ?_⟩
      rw [getD_map]
      split
      · rw [made_bit]; exact .inr ⟨k, ⟨hk, hk2⟩, h⟩
      · rename_i hn
        rw [List.getD_eq_getElem?_getD, List.getElem?_eq_none (by omega)] at hk2
        simp at hk2
theorem made_add {g : Nat} {rows : List Nat} (s t : Nat) : madeF g rows (s ||| t) = madeF g rows s ||| madeF g rows t := by
  apply bit_ext; intro j
  rw [Nat.testBit_or, Bool.or_eq_true, made_bit, made_bit, made_bit]
  simp only [Nat.testBit_or, Bool.or_eq_true]
  constructor
  · rintro (h | ⟨i, ⟨hi, (h1 | h1)⟩, h⟩)
    · exact .inl (.inl h)
    · exact .inl (.inr ⟨i, ⟨hi, h1⟩, h⟩)
    · exact .inr (.inr ⟨i, ⟨hi, h1⟩, h⟩)
  · rintro ((h | ⟨i, ⟨hi, h1⟩, h⟩) | (h | ⟨i, ⟨hi, h1⟩, h⟩))
    · exact .inl h
    · exact .inr ⟨i, ⟨hi, .inl h1⟩, h⟩
    · exact .inl h
    · exact .inr ⟨i, ⟨hi, .inr h1⟩, h⟩

structure Good (m : Nat) (g : Nat) (rows : List Nat) : Prop where
  hm : m ≤ 64
  hl : rows.length = m
  hg : g < 2 ^ m
  hr : ∀ r ∈ rows, r < 2 ^ m
  hc : ∀ r ∈ rows, r &&& g = 0
theorem Good.g64 {m g : Nat} {rows : List Nat} (h : Good m g rows) : g < 18446744073709551616 := Nat.lt_of_lt_of_le h.hg (pow_le64 h.hm)
theorem Good.r64 {m g : Nat} {rows : List Nat} (h : Good m g rows) : ∀ r ∈ rows, r < 18446744073709551616 := fun r hr => Nat.lt_of_lt_of_le (h.hr r hr) (pow_le64 h.hm)
theorem good_check {m g : Nat} {rows : List Nat} (h : Good m g rows) : checkE m g rows = 0 := by
  have hd : dimB m = true := by simp [dimB]; have := h.hm; omega
  have h1 : shapeB m g rows = true := by
    unfold shapeB
    simp only [Bool.and_eq_true, decide_eq_true_eq, List.all_eq_true]
    exact ⟨h.hl, (insN_iff h.hm h.g64).2 h.hg, fun r hr => (insN_iff h.hm (h.r64 r hr)).2 (h.hr r hr)⟩
  have h2 : clearB g rows = true := by
    unfold clearB
    rw [List.all_eq_true]
    intro r hr
    have := h.hc r hr
    simp [this]
  unfold checkE
  rw [if_pos hd, Int.toNat_natCast, h1, h2]; rfl
theorem check_good {n : Int} {g : Nat} {rows : List Nat} (hg : g < 18446744073709551616) (hr : ∀ r ∈ rows, r < 18446744073709551616) (h : checkE n g rows = 0) : ∃ m : Nat, n = m ∧ Good m g rows := by
  obtain ⟨hd, hs, hc⟩ := checkE_ok h
  obtain ⟨m, rfl, hm⟩ := dim_nat hd
  rw [Int.toNat_natCast] at hs
  obtain ⟨hl, ig, ir⟩ := shapeB_len hs
  unfold clearB at hc
  rw [List.all_eq_true] at hc
  exact ⟨m, rfl, hm, hl, (insN_iff hm hg).1 ig, fun r h => (insN_iff hm (hr r h)).1 (ir r h), fun r h => by simpa using hc r h⟩
theorem canon_good {m g : Nat} {rows : List Nat} (hm : m ≤ 64) (hl : rows.length = m) (hg : g < 2 ^ m) (hr : ∀ r ∈ rows, r < 2 ^ m) : Good m g (canonL g rows) where
  hm := hm
  hl := by rw [canonL_length, hl]
  hg := hg
  hr := fun r h => by
    obtain ⟨x, hx, rfl⟩ := List.mem_map.1 h
    exact Nat.lt_of_le_of_lt Nat.and_le_left (hr x hx)
  hc := fun r h => by
    obtain ⟨x, hx, rfl⟩ := List.mem_map.1 h
    have h1 := Nat.lt_of_lt_of_le (hr x hx) (pow_le64 hm)
    have h2 := Nat.lt_of_lt_of_le hg (pow_le64 hm)
    apply Nat.eq_of_testBit_eq
    intro j
    rw [Nat.testBit_and, andn_bit h1 h2, Nat.zero_testBit]
    cases x.testBit j <;> cases g.testBit j <;> rfl
theorem acc_small {m : Nat} {rows : List Nat} (hr : ∀ r ∈ rows, r < 2 ^ m) : ∀ (l : List Nat) (g : Nat), g < 2 ^ m → accF rows g l < 2 ^ m
  | [], g, h => h
  | x :: l, g, h => by
    have : rows.getD x 0 < 2 ^ m := by
      rw [List.getD_eq_getElem?_getD]
      cases hx : rows[x]? with
      | none => exact Nat.two_pow_pos m
      | some y => exact hr y (List.mem_of_getElem? hx)
    exact acc_small hr l _ (Nat.or_lt_two_pow h this)
theorem Good.made {m g : Nat} {rows : List Nat} (h : Good m g rows) (s : Nat) : madeF g rows s < 2 ^ m := acc_small h.hr _ _ h.hg
theorem Good.comb {m ga gb : Nat} {xs ys : List Nat} (ha : Good m ga xs) (hb : Good m gb ys) : Good m (ga ||| gb) (canonL (ga ||| gb) (orL xs ys)) :=
  canon_good ha.hm (by rw [orL_len (by rw [ha.hl, hb.hl]), ha.hl]) (Nat.or_lt_two_pow ha.hg hb.hg) (fun r hr => by
    obtain ⟨i, hi⟩ := List.getElem?_of_mem hr
    unfold orL at hi
    rw [List.getElem?_zipWith] at hi
    cases h1 : xs[i]? with
    | none => rw [h1] at hi; simp at hi
    | some a =>
      cases h2 : ys[i]? with
      | none => rw [h1, h2] at hi; simp at hi
      | some b =>
        rw [h1, h2] at hi
        have : a ||| b = r := by simpa using hi
        rw [← this]
        exact Nat.or_lt_two_pow (ha.hr a (List.mem_of_getElem? h1)) (hb.hr b (List.mem_of_getElem? h2)))
theorem Good.ext {m ga gb : Nat} {xs ys : List Nat} (ha : Good m ga xs) (hb : Good m gb ys) : Good m (madeF gb ys ga) (canonL (madeF gb ys ga) (xs.map (madeF gb ys))) :=
  canon_good ha.hm (by rw [List.length_map, ha.hl]) (hb.made ga) (fun r hr => by
    obtain ⟨x, _, rfl⟩ := List.mem_map.1 hr
    exact hb.made x)
theorem both_good {m ga gb : Nat} {xs ys : List Nat} (ha : Good m ga xs) (hb : Good m gb ys) : bothE m ga xs gb ys = 0 := by
  rw [bothE, if_pos (good_check ha)]; exact good_check hb
theorem combG_good {m ga gb : Nat} {xs ys : List Nat} (ha : Good m ga xs) (hb : Good m gb ys) : combG m ga xs gb ys = ga ||| gb := by rw [combG, if_pos (both_good ha hb)]
theorem combV_good {m ga gb : Nat} {xs ys : List Nat} (ha : Good m ga xs) (hb : Good m gb ys) : combV m ga xs gb ys = canonL (ga ||| gb) (orL xs ys) := by rw [combV, if_pos (both_good ha hb)]
theorem extG_good {m ga gb : Nat} {xs ys : List Nat} (ha : Good m ga xs) (hb : Good m gb ys) : extG m ga xs gb ys = madeF gb ys ga := by rw [extG, if_pos (both_good ha hb)]
theorem extV_good {m ga gb : Nat} {xs ys : List Nat} (ha : Good m ga xs) (hb : Good m gb ys) : extV m ga xs gb ys = canonL (madeF gb ys ga) (xs.map (madeF gb ys)) := by rw [extV, if_pos (both_good ha hb)]
theorem Good.combT {m ga gb : Nat} {xs ys : List Nat} (ha : Good m ga xs) (hb : Good m gb ys) : Good m (combG m ga xs gb ys) (combV m ga xs gb ys) := by rw [combG_good ha hb, combV_good ha hb]; exact ha.comb hb
theorem Good.extT {m ga gb : Nat} {xs ys : List Nat} (ha : Good m ga xs) (hb : Good m gb ys) : Good m (extG m ga xs gb ys) (extV m ga xs gb ys) := by rw [extG_good ha hb, extV_good ha hb]; exact ha.ext hb
theorem made_comb {m ga gb : Nat} {xs ys : List Nat} (ha : Good m ga xs) (hb : Good m gb ys) (s : Nat) : madeF (combG m ga xs gb ys) (combV m ga xs gb ys) s = madeF ga xs s ||| madeF gb ys s := by
  rw [combG_good ha hb, combV_good ha hb, made_canon (or64 ha.g64 hb.g64) (orL_lt ha.r64 hb.r64), made_or (by rw [ha.hl, hb.hl])]
theorem made_ext {m ga gb : Nat} {xs ys : List Nat} (ha : Good m ga xs) (hb : Good m gb ys) (s : Nat) : madeF (extG m ga xs gb ys) (extV m ga xs gb ys) s = madeF gb ys (madeF ga xs s) := by
  rw [extG_good ha hb, extV_good ha hb, made_canon (madeF_lt hb.r64 hb.g64) (fun r hr => by obtain ⟨x, _, rfl⟩ := List.mem_map.1 hr; exact madeF_lt hb.r64 hb.g64), made_then]
theorem made_zero (g : Nat) (rows : List Nat) : madeF g rows 0 = g := by rw [madeF, mem_zero]; rfl
theorem made_one {m g : Nat} {rows : List Nat} (h : Good m g rows) {i r : Nat} (hi : rows[i]? = some r) : madeF g rows (2 ^ i) = g ||| r := by
  have hil := (List.getElem?_eq_some_iff.1 hi).1
  have hi64 : i < 64 := by have := h.hl; have := h.hm; omega
  apply bit_ext; intro j
  rw [made_bit, Nat.testBit_or, Bool.or_eq_true]
  constructor
  · rintro (h1 | ⟨k, ⟨hk, h2⟩, h3⟩)
    · exact .inl h1
    · rw [Nat.testBit_two_pow] at h2
      have e : i = k := by simpa using h2
      subst e
      rw [List.getD_eq_getElem?_getD, hi] at h3
      exact .inr h3
  · rintro (h1 | h1)
    · exact .inl h1
    · exact .inr ⟨i, ⟨hi64, by rw [Nat.testBit_two_pow]; simp⟩, by rw [List.getD_eq_getElem?_getD, hi]; exact h1⟩
theorem good_ext {m g h : Nat} {xs ys : List Nat} (hx : Good m g xs) (hy : Good m h ys) (e : ∀ s, madeF g xs s = madeF h ys s) : g = h ∧ xs = ys := by
  have e0 := e 0
  rw [made_zero, made_zero] at e0
  subst e0
  refine ⟨rfl, list_eq_of (by rw [hx.hl, hy.hl]) fun i x y hi hj => ?_⟩
  have e1 := e (2 ^ i)
  rw [made_one hx hi, made_one hy hj] at e1
  have c1 := hx.hc x (List.mem_of_getElem? hi)
  have c2 := hy.hc y (List.mem_of_getElem? hj)
  apply Nat.eq_of_testBit_eq
  intro j
  have b1 := congrArg (fun n => n.testBit j) e1
  have b2 := congrArg (fun n => n.testBit j) c1
  have b3 := congrArg (fun n => n.testBit j) c2
  simp only [Nat.testBit_or, Nat.testBit_and, Nat.zero_testBit] at b1 b2 b3
  cases h1 : x.testBit j <;> cases h2 : y.testBit j <;> cases h3 : g.testBit j <;> simp_all
end Go.Proofs.YtjcminoaiieckaaGreatDoor
namespace Go.Proofs.YtjcminoaiieckaaGreatDoor
open Go.RowKit
set_option linter.unusedVariables false
theorem ones_bit {m i j : Nat} : ((onesL m).getD i 0).testBit j = true ↔ i < m ∧ i = j := by
  rw [List.getD_eq_getElem?_getD]
  rcases Nat.lt_or_ge i m with h | h
  · rw [onesL_at h]
    simp only [Option.getD_some, Nat.testBit_two_pow, decide_eq_true_eq]
    exact ⟨fun e => ⟨h, e⟩, fun e => e.2⟩
  · rw [List.getElem?_eq_none (by rw [onesL_length]; exact h)]
    simp only [Option.getD_none, Nat.zero_testBit]
    exact ⟨fun e => (Bool.false_ne_true e).elim, fun e => (by omega)⟩
theorem made_ones {m s : Nat} (hm : m ≤ 64) (hs : s < 2 ^ m) : madeF 0 (onesL m) s = s := by
  apply bit_ext; intro j
  rw [made_bit]
  simp only [ones_bit, Nat.zero_testBit]
  constructor
  · rintro (h | ⟨i, ⟨_, h2⟩, _, rfl⟩)
    · cases h
    · exact h2
  · intro h
    have hj : j < m := by
      rcases Nat.lt_or_ge j m with h1 | h1
      · exact h1
      · rw [Nat.testBit_lt_two_pow (Nat.lt_of_lt_of_le hs (Nat.pow_le_pow_right (by omega) h1))] at h; cases h
    exact .inr ⟨j, ⟨by omega, h⟩, hj, rfl⟩
theorem ones_good {m : Nat} (hm : m ≤ 64) : Good m 0 (onesL m) where
  hm := hm
  hl := onesL_length m
  hg := Nat.two_pow_pos m
  hr := fun r hr => by
    obtain ⟨i, hi, rfl⟩ := List.mem_map.1 hr
    exact Nat.pow_lt_pow_right (by omega) (List.mem_range.1 hi)
  hc := fun r _ => Nat.and_zero r
theorem one_good {m : Nat} (hm : m ≤ 64) : oneE m = 0 ∧ oneV m = onesL m := by
  have hd : dimB m = true := by simp [dimB]; omega
  exact ⟨by rw [oneE, if_pos hd], by rw [oneV, if_pos hd, Int.toNat_natCast]⟩

section
variable {m ga gb gc : Nat} {xs ys zs : List Nat}
theorem ring_comm (a : Good m ga xs) (b : Good m gb ys) : combG m ga xs gb ys = combG m gb ys ga xs ∧ combV m ga xs gb ys = combV m gb ys ga xs :=
  good_ext (a.combT b) (b.combT a) fun s => by rw [made_comb a b, made_comb b a, Nat.or_comm]
theorem ring_idem (a : Good m ga xs) : combG m ga xs ga xs = ga ∧ combV m ga xs ga xs = xs :=
  good_ext (a.combT a) a fun s => by rw [made_comb a a, Nat.or_self]
theorem ring_then (a : Good m ga xs) (b : Good m gb ys) (c : Good m gc zs) : extG m (extG m ga xs gb ys) (extV m ga xs gb ys) gc zs = extG m ga xs (extG m gb ys gc zs) (extV m gb ys gc zs) ∧ extV m (extG m ga xs gb ys) (extV m ga xs gb ys) gc zs = extV m ga xs (extG m gb ys gc zs) (extV m gb ys gc zs) :=
  good_ext ((a.extT b).extT c) (a.extT (b.extT c)) fun s => by rw [made_ext (a.extT b) c, made_ext a (b.extT c), made_ext a b, made_ext b c]
theorem mem_cut {m s : Nat} (hm : m ≤ 64) (g : Nat) (rows : List Nat) (hl : rows.length = m) : madeF g rows s = madeF g rows (s % 2 ^ m) := by
  apply bit_ext; intro j
  rw [made_bit, made_bit]
  constructor
  · rintro (h | ⟨i, ⟨hi, h2⟩, h3⟩)
    · exact .inl h
    · have him : i < m := by
        rcases Nat.lt_or_ge i m with h1 | h1
        · exact h1
        · rw [List.getD_eq_getElem?_getD, List.getElem?_eq_none (by omega)] at h3; simp at h3
      exact .inr ⟨i, ⟨hi, by rw [Nat.testBit_mod_two_pow]; simp [him, h2]⟩, h3⟩
  · rintro (h | ⟨i, ⟨hi, h2⟩, h3⟩)
    · exact .inl h
    · rw [Nat.testBit_mod_two_pow, Bool.and_eq_true] at h2
      exact .inr ⟨i, ⟨hi, h2.2⟩, h3⟩
theorem ring_oneL (a : Good m ga xs) : extG m 0 (onesL m) ga xs = ga ∧ extV m 0 (onesL m) ga xs = xs :=
  good_ext ((ones_good a.hm).extT a) a fun s => by
    rw [made_ext (ones_good a.hm) a, mem_cut a.hm 0 (onesL m) (onesL_length m), made_ones a.hm (Nat.mod_lt _ (Nat.two_pow_pos m)), ← mem_cut a.hm ga xs a.hl]
theorem ring_oneR (a : Good m ga xs) : extG m ga xs 0 (onesL m) = ga ∧ extV m ga xs 0 (onesL m) = xs :=
  good_ext (a.extT (ones_good a.hm)) a fun s => by rw [made_ext a (ones_good a.hm), made_ones a.hm (a.made s)]
theorem ring_left (a : Good m ga xs) (b : Good m gb ys) (c : Good m gc zs) : extG m ga xs (combG m gb ys gc zs) (combV m gb ys gc zs) = combG m (extG m ga xs gb ys) (extV m ga xs gb ys) (extG m ga xs gc zs) (extV m ga xs gc zs) ∧ extV m ga xs (combG m gb ys gc zs) (combV m gb ys gc zs) = combV m (extG m ga xs gb ys) (extV m ga xs gb ys) (extG m ga xs gc zs) (extV m ga xs gc zs) :=
  good_ext (a.extT (b.combT c)) ((a.extT b).combT (a.extT c)) fun s => by rw [made_ext a (b.combT c), made_comb b c, made_comb (a.extT b) (a.extT c), made_ext a b, made_ext a c]
theorem ring_right (a : Good m ga xs) (b : Good m gb ys) (c : Good m gc zs) : extG m (combG m ga xs gb ys) (combV m ga xs gb ys) gc zs = combG m (extG m ga xs gc zs) (extV m ga xs gc zs) (extG m gb ys gc zs) (extV m gb ys gc zs) ∧ extV m (combG m ga xs gb ys) (combV m ga xs gb ys) gc zs = combV m (extG m ga xs gc zs) (extV m ga xs gc zs) (extG m gb ys gc zs) (extV m gb ys gc zs) :=
  good_ext ((a.combT b).extT c) ((a.extT c).combT (b.extT c)) fun s => by rw [made_ext (a.combT b) c, made_comb a b, made_comb (a.extT c) (b.extT c), made_ext a c, made_ext b c, made_add]
end
end Go.Proofs.YtjcminoaiieckaaGreatDoor
namespace Go.Proofs.YtjcminoaiieckaaGreatDoor
open Go.RowKit
set_option linter.unusedVariables false
def vals (c : Cl) : List Value := [.int .u64 (c.f : Int), .int .i64 c.k, .int .i64 c.v]
def flat (cs : List Cl) : List Value := cs.flatMap vals
theorem flat_length (cs : List Cl) : (flat cs).length = cs.length * 3 := by
  induction cs with
  | nil => rfl
  | cons c r ih => simp [flat, vals] at ih ⊢; omega
theorem flat_cons (c : Cl) (r : List Cl) : flat (c :: r) = vals c ++ flat r := by simp [flat]
theorem flat_at : ∀ {cs : List Cl} {i : Nat} {c : Cl}, cs[i]? = some c → (flat cs)[i * 3]? = some (.int .u64 (c.f : Int)) ∧ (flat cs)[i * 3 + 1]? = some (.int .i64 c.k) ∧ (flat cs)[i * 3 + 2]? = some (.int .i64 c.v)
  | [], i, c, h => by simp at h
  | x :: r, 0, c, h => by
    simp at h; subst h
    simp [flat_cons, vals]
  | x :: r, i + 1, c, h => by
    simp at h
    have ih := flat_at (cs := r) (i := i) h
    have e0 : (i + 1) * 3 = i * 3 + 3 := by omega
    have e1 : (i + 1) * 3 + 1 = (i * 3 + 1) + 3 := by omega
    have e2 : (i + 1) * 3 + 2 = (i * 3 + 2) + 3 := by omega
    rw [e1, e2, e0, flat_cons]
    simp only [vals, List.cons_append, List.nil_append, List.getElem?_cons_succ]
    exact ih
theorem flat_set : ∀ (cs : List Cl) (i : Nat) (c : Cl), i < cs.length → (((flat cs).set (i * 3) (.int .u64 (c.f : Int))).set (i * 3 + 1) (.int .i64 c.k)).set (i * 3 + 2) (.int .i64 c.v) = flat (cs.set i c)
  | [], i, c, h => by simp at h
  | x :: r, 0, c, h => by simp [flat_cons, vals]
  | x :: r, i + 1, c, h => by
    have ih := flat_set r i c (by simpa using h)
    have e0 : (i + 1) * 3 = i * 3 + 3 := by omega
    have e1 : (i + 1) * 3 + 1 = (i * 3 + 1) + 3 := by omega
    have e2 : (i + 1) * 3 + 2 = (i * 3 + 2) + 3 := by omega
    rw [e1, e2, e0, flat_cons, List.set_cons_succ, flat_cons, ← ih]
    simp [vals]

theorem own_below {w w' : World} {base size n : Nat} {E : Nat} {v : Value} {xs : List Value} (h : w.ownsRow base E size v n xs) (hb : Below w.heap.size w w') : w'.ownsRow base E size v n xs := by
  refine ⟨h.1, ?_⟩
  rcases h.2 with h2 | ⟨g, cap, cur, hv, hg, hh, r⟩
  · exact .inl h2
  · exact .inr ⟨g, cap, cur, hv, hg, by rw [hb.block g (Array.getElem?_eq_some_iff.1 hh).1]; exact hh, r⟩
theorem crow_of_own {w : World} {base : Nat} {E : Nat} {v : Value} {n : Nat} {cs : List Cl} (h : w.ownsRow base E 3 v n (flat cs)) :
    n = cs.length ∧ ∃ a cap, v = .slice a n cap ∧ CRow w a cs ∧ ∀ ad, a = some ad → base ≤ ad.block ∧ ad.off = 0 ∧ ad.block < w.heap.size := by
  have hl := h.1
  rw [flat_length] at hl
  have hn : n = cs.length := by omega
  refine ⟨hn, ?_⟩
  rcases h.2 with ⟨rfl, h0⟩ | ⟨g, cap, cur, rfl, hg, hh, hnc, hcm, hcs, ht⟩
  · subst h0
    have : cs = [] := List.length_eq_zero_iff.1 hn.symm
    exact ⟨none, 0, rfl, .inl this, fun ad e => by cases e⟩
  · refine ⟨some ⟨g, 0, none⟩, cap, rfl, .inr ⟨g, 0, rfl, fun i c hi => ?_⟩, fun ad e => by cases e; exact ⟨hg, rfl, (Array.getElem?_eq_some_iff.1 hh).1⟩⟩
    obtain ⟨f0, f1, f2⟩ := flat_at hi
    have hi2 : i < cs.length := (List.getElem?_eq_some_iff.1 hi).1
    have c0 := h.cellAt (i * 3) (by omega)
    have c1 := h.cellAt (i * 3 + 1) (by omega)
    have c2 := h.cellAt (i * 3 + 2) (by omega)
    rw [Nat.zero_add]
    exact ⟨c0.trans f0, c1.trans f1, c2.trans f2⟩

def CellsRet (cs : List Cl) (err : Int) (w : World) (e : Ending) (w' : World) : Prop :=
  ∃ a cap, e = .returned (.tuple #[.slice a cs.length cap, .int .i64 err]) ∧ CRow w' a cs ∧ (∀ ad, a = some ad → w.heap.size ≤ ad.block ∧ ad.block < w'.heap.size) ∧ Below w.heap.size w w'
theorem cellsRet_nil (err : Int) {w w' : World} (hb : Below w.heap.size w w') : CellsRet [] err w (.returned (.tuple #[.slice none 0 0, .int .i64 err])) w' :=
  ⟨none, 0, rfl, .inl rfl, (fun ad e => by cases e), hb⟩
theorem cellsRet_own {cs : List Cl} {w w' : World} {E : Nat} {v : Value} {n : Nat} (h : w'.ownsRow w.heap.size E 3 v n (flat cs)) (hb : Below w.heap.size w w') (err : Int) : CellsRet cs err w (.returned (.tuple #[v, .int .i64 err])) w' := by
  obtain ⟨rfl, a, cap, rfl, hr, hf⟩ := crow_of_own h
  exact ⟨a, cap, rfl, hr, fun ad e => ⟨(hf ad e).1, (hf ad e).2.2⟩, hb⟩
def CellsRet1 (cs : List Cl) (w : World) (e : Ending) (w' : World) : Prop :=
  ∃ v, e = .returned v ∧ w'.ownsRow w.heap.size 73 3 v cs.length (flat cs) ∧ Below w.heap.size w w'

theorem infoC : (Tryz.prog.info? 73).map (fun i => (i.zero, i.size, i.bytes)) = some (some (.agg #[.int .u64 0, .int .i64 0, .int .i64 0]), 3, 24) := by kernel_rfl
end Go.Proofs.YtjcminoaiieckaaGreatDoor
namespace Go.Proofs.YtjcminoaiieckaaGreatDoor
open Go.RowKit
set_option linter.unusedVariables false
def bothC (xs ys : List Cl) : List Cl := List.zipWith join xs ys
theorem okAt_ok {n : Nat} {c : Cl} (hf : c.f < 18446744073709551616) (h : okAt n c = true) : c.ok := by
  unfold okAt cellOk at h
  simp only [Bool.and_eq_true] at h
  exact ⟨hf, h.2⟩
theorem chkC_zero {d : Int} {cs : List Cl} (h : chkC d cs = 0) : 0 ≤ d ∧ d ≤ 64 ∧ (cs.length : Int) = d ∧ cs.all (okAt d.toNat) = true := by
  unfold chkC at h
  split at h
  · omega
  · split at h
    · omega
    · cases hz : cs.all (okAt d.toNat) <;> rw [hz] at h <;> simp at h
      exact ⟨by omega, by omega, by omega, rfl⟩
theorem chk2C_zero {d : Int} {xs ys : List Cl} (h : chk2C d xs ys = 0) : chkC d xs = 0 ∧ chkC d ys = 0 := by
  unfold chk2C at h
  split at h
  · exact ⟨by assumption, h⟩
  · exact absurd h (by assumption)
theorem ok_get {n : Nat} {cs : List Cl} (hb : Bits cs) (h : cs.all (okAt n) = true) {i : Nat} {c : Cl} (hi : cs[i]? = some c) : c.ok := by
  rw [List.all_eq_true] at h
  exact okAt_ok (hb c (List.mem_of_getElem? hi)) (h c (List.mem_of_getElem? hi))
theorem zip_snoc {xs ys : List Cl} {k : Nat} {x y : Cl} (hx : xs[k]? = some x) (hy : ys[k]? = some y) : (bothC xs ys).take (k + 1) = (bothC xs ys).take k ++ [join x y] := by
  have h : (bothC xs ys)[k]? = some (join x y) := by simp [bothC, List.getElem?_zipWith, hx, hy]
  obtain ⟨hk, e⟩ := List.getElem?_eq_some_iff.1 h
  rw [List.take_succ_eq_append_getElem hk, e]
def bothR (d : Int) (xs ys : List Cl) : List Cl := if chk2C d xs ys = 0 then bothC xs ys else []

theorem joined_is (x y z : Cl) (hx : x.ok) (hy : y.ok) (hz : join x y = z) (w : World) : Calls Tryz.prog 142 #[x.val, y.val] w fun e w' => e = .returned z.val ∧ Below w.heap.size w w' := by
  subst hz; exact joined_any x y hx hy w
end Go.Proofs.YtjcminoaiieckaaGreatDoor
