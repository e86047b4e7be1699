import Derived.Orders
import Derived.Below
import Derived.Deep.RegionHeld
import Derived.WalkKit
import Derived.KernelRfl
import Derived.IntWalk
import Derived.Laws.Tables
import Derived.Laws.Concat
import Derived.Laws.MakeOwn
import Derived.Test.YtjcminoaiieckaaGreatDoorProg
import Derived.Test.YtjcminoaiieckaaGreatDoorRingA
import Derived.Test.YtjcminoaiieckaaGreatDoorRingB
import Derived.Test.YtjcminoaiieckaaGreatDoorRingC
import Derived.Test.YtjcminoaiieckaaGreatDoorRingD
set_option linter.unusedVariables false
set_option linter.unusedSimpArgs false
set_option linter.unusedSectionVars false
set_option linter.unnecessarySimpa false
namespace Go.Proofs.YtjcminoaiieckaaGreatDoor
open Go.RowKit
set_option linter.unusedVariables false
def heightC (d : Int) : Int := if dimC d = 0 then d * (d + 2) else 0
theorem ce_height_any (d : Int) (w : World) (c : Int) (hc : dimC d = c) (h : Int) (hh : heightC d = h) :
    Calls Tryz.prog 71 #[.int .i64 d] w fun e w' => e = .returned (.tuple #[.int .i64 h, .int .i64 c]) ∧ w = w' := by
  have HC := Lib.hid hc
  by_cases h0 : c = 0
  · subst h0
    obtain ⟨n, rfl, hn⟩ := ce_dim_nat hc
    have hm : 0 ≤ (n : Int) * (n + 2) ∧ (n : Int) * (n + 2) ≤ 4224 := by
      constructor
      · exact Int.mul_nonneg (by omega) (by omega)
      · exact Int.le_trans (Int.mul_le_mul (show (n : Int) ≤ 64 by omega) (show (n : Int) + 2 ≤ 66 by omega) (by omega) (by omega)) (by decide)
    obtain ⟨m0, m1⟩ := hm
    have HH := Lib.hid (show h = (n : Int) * (n + 2) by rw [← hh]; simp [heightC, hc])
    clear hc hh
    go_enter Tryz.func71, Tryz.ntmps71
    go_wp2_with (go_at_call 105; refine (checkDim_is _ _ 0 HC.out).mono ?_; rintro e w' ⟨rfl, rfl⟩)
    go_ret2
    exact ⟨by rw [HH.out]; rfl, rfl⟩
  · have hne : (c != 0) = true := by simpa using h0
    obtain rfl : 0 = h := by rw [← hh]; simp [heightC, hc, h0]
    clear hc h0 hh
    go_enter Tryz.func71, Tryz.ntmps71
    go_wp2_with (go_at_call 105; refine (checkDim_is _ _ c HC.out).mono ?_; rintro e w' ⟨rfl, rfl⟩)
    go_ret2
    exact ⟨rfl, rfl⟩
end Go.Proofs.YtjcminoaiieckaaGreatDoor
namespace Go.Proofs.YtjcminoaiieckaaGreatDoor
open Go.RowKit
set_option linter.unusedVariables false
set_option linter.unusedSimpArgs false
theorem both_assoc {n : Nat} {xs ys zs : List Cl} (hx : Val n xs) (hy : Val n ys) (hz : Val n zs) : bothC (bothC xs ys) zs = bothC xs (bothC ys zs) := by
  apply List.ext_getElem?
  intro i
  simp only [bothC, List.getElem?_zipWith]
  rcases h : xs[i]? with _ | c <;> rcases h2 : ys[i]? with _ | c2 <;> rcases h3 : zs[i]? with _ | c3 <;> simp
  exact join_assoc (hx.oks i c h) (hy.oks i c2 h2) (hz.oks i c3 h3)
end Go.Proofs.YtjcminoaiieckaaGreatDoor
namespace Go.Proofs.YtjcminoaiieckaaGreatDoor
open Go.RowKit
set_option linter.unusedVariables false
section
variable {t n : Int} {l : Nat} {a b c : PF}
theorem comb_okP (h : plainB t n l = true) (ha : OkP t n a) (hb : OkP t n b) : OkP t n (combP t n a b) := by
  rcases (plainB_cases h).2 with ⟨rfl, hn⟩ | ⟨rfl, h0, h1⟩ | ⟨rfl, m, rfl, hm⟩ | ⟨rfl, m, rfl, hm⟩
  · rcases okP_1 ha with rfl | rfl <;> rcases okP_1 hb with rfl | rfl <;> simp only [comb_zl, comb_zr ha, comb_1] <;> assumption
  · rcases okP_2 ha with rfl | ⟨x, rfl, hx⟩
    · rw [comb_zl]; exact hb
    rcases okP_2 hb with rfl | ⟨y, rfl, hy⟩
    · rw [comb_zr ha]; exact ha
    rw [comb_2]; exact .cost _ rfl (by omega) (by omega)
  · rcases okP_3 ha with rfl | ⟨g, xs, rfl, hx⟩
    · rw [comb_zl]; exact hb
    rcases okP_3 hb with rfl | ⟨g2, ys, rfl, hy⟩
    · rw [comb_zr ha]; exact ha
    rw [comb_3]; exact .facts m _ _ rfl rfl (hx.combT hy)
  · rcases okP_4 ha with rfl | ⟨xs, rfl, hx⟩
    · rw [comb_zl]; exact hb
    rcases okP_4 hb with rfl | ⟨ys, rfl, hy⟩
    · rw [comb_zr ha]; exact ha
    rw [comb_4]; exact .cells m _ rfl rfl (val_both hx hy)
end
section
variable {S : PS} {x y v : PX}
theorem comb_okX (h : S.ok) (hx : OkX S x) (hy : OkX S y) : OkX S (combX S x y) := by
  cases S <;> cases x <;> cases y <;> first | exact hx.elim | exact hy.elim | exact comb_okP h hx hy | exact ⟨comb_okP h.1 hx.1 hy.1, comb_okP h.2 hx.2 hy.2⟩
end
end Go.Proofs.YtjcminoaiieckaaGreatDoor
namespace Go.Proofs.YtjcminoaiieckaaGreatDoor
open Go.RowKit
set_option linter.unusedVariables false
def heightR (limit : Int) : Int := if chk limit [] = 0 then limit + 1 else 0

end Go.Proofs.YtjcminoaiieckaaGreatDoor
namespace Go.Proofs.YtjcminoaiieckaaGreatDoor
open Go.RowKit
set_option linter.unusedVariables false
theorem chk_nil_zero {limit : Int} (h : chk limit [] = 0) : 0 ≤ limit ∧ limit ≤ 1048576 := ⟨(chk_zero h).1, (chk_zero h).2.1⟩

theorem co_height_any (limit : Int) (w : World) : Calls Tryz.prog 70 #[.int .i64 limit] w fun e w' => e = .returned (.tuple #[.int .i64 (heightR limit), .int .i64 (chk limit [])]) ∧ w = w' := by
  by_cases hc : chk limit [] = 0
  · obtain ⟨h1, h2⟩ := chk_nil_zero hc
    have H := Lib.hid hc
    have H1 := Lib.hid (show heightR limit = limit + 1 by simp [heightR, hc])
    clear hc
    go_enter Tryz.func70, Tryz.ntmps70
    go_wp2_with fail
    refine (checkAll_any limit _ 0 [] _ (by simp) (.inl rfl)).mono ?_
    rintro e w1 ⟨rfl, rfl⟩
    rw [H.out]
    go_wp2
    go_ret2
    exact ⟨rtwo H1.out.symm H.out.symm, rfl⟩
  · have H1 := Lib.hid (show heightR limit = 0 by simp [heightR, hc])
    have hne : (chk limit [] != 0) = true := by simpa using hc
    obtain ⟨c, hcc⟩ : ∃ c, c = chk limit [] := ⟨_, rfl⟩
    rw [← hcc] at hne
    have HC := Lib.hid hcc
    clear hc hcc
    go_enter Tryz.func70, Tryz.ntmps70
    go_wp2_with fail
    refine (checkAll_any limit _ 0 [] _ (by simp) (.inl rfl)).mono ?_
    rintro e w1 ⟨rfl, rfl⟩
    rw [← HC.out]
    go_wp2
    go_ret2
    exact ⟨rtwo H1.out.symm HC.out, rfl⟩
end Go.Proofs.YtjcminoaiieckaaGreatDoor
namespace Go.Proofs.YtjcminoaiieckaaGreatDoor
open Go Go.RowKit
section
variable {P : Program} {ops : Array Oper} {Q : Exit → Act → World → Prop} {t0 : Array Value} {d0 : List Deferred} {G : World → Prop} {I : Nat → Value → World → Prop}
theorem RStep.none {i : Nat} {o : Oper} (hi : ops[i]? = some o)
    (h : ∀ (a : Act) (w : World), (∀ t, freeT ops t = true → a.eval (.tmp t) = t0.getD t undef) → G w → (∀ j d, waitsFor ops i j d = true → I j (a.eval (.tmp d)) w) →
      Region.wanted o (yielded ops a.tmps) = false ∧ I i undef w) : RStep P ops Q t0 G I i := fun a w hF hG hD => by
  obtain ⟨hw, hI⟩ := h a w hF hG hD
  unfold wpOp
  simp only [hi, hw]
  exact ⟨⟨undef, by simp, fun _ _ => hI⟩, hG, Below.refl _ _⟩
end
end Go.Proofs.YtjcminoaiieckaaGreatDoor
namespace Go.Proofs.YtjcminoaiieckaaGreatDoor
open Go Go.RowKit
set_option linter.unusedVariables false
section
variable {P : Program} {ops : Array Oper} {Q : Exit → Act → World → Prop} {t0 : Array Value} {d0 : List Deferred} {L : List Asr} {w0 : World} {i : Nat} {o : Oper} {p q r : Asr} {x y z : Operand}
def WantsNot (ops : Array Oper) (L : List Asr) (i : Nat) (o : Oper) : Prop :=
  ∃ g b c d, o.guard = some (g, b) ∧ (ops[g]?).bind (·.dst) = some d ∧ waitsFor ops i g d = true ∧ atI L g = isV (.bool c) ∧ (c == b) = false
theorem WantsNot.no {a : Act} {w : World} (h : WantsNot ops L i o) (hD : ∀ j d, waitsFor ops i j d = true → atI L j (a.eval (.tmp d)) w) : Region.wanted o (yielded ops a.tmps) = false := by
  obtain ⟨g, b, c, d, h, hd, hw, hL, hne⟩ := h
  have := hD g d hw
  rw [hL] at this
  rw [wanted_bool h hd this]; exact hne
theorem opC {v : Value} : OpI ops t0 L i (.const v) (isV v) := fun a w _ _ => rfl

theorem st_none (hi : ops[i]? = some o) (hw : WantsNot ops L i o) (hI : atI L i = isV undef) : RS P ops Q t0 w0 L i :=
  RStep.none hi fun a w hF hG hD => ⟨hw.no hD, by rw [hI]; rfl⟩
end
end Go.Proofs.YtjcminoaiieckaaGreatDoor
namespace Go.Proofs.YtjcminoaiieckaaGreatDoor
open Go Go.RowKit
set_option linter.unusedVariables false
section
variable {P : Program} {n : Nat} {Q : Exit → Act → World → Prop} {l : Fr} {w0 W : World} {ops : Array Oper} {os : List Oper} {O : Own} {G : Grows} {K : List (Nat × World)}
variable {d : Nat} {ty : TypeId} {pos : String} {aft : Array Edge} {v : Value} {t u : TypeId} {x y : Operand} {k : IntKind} {a b : Int}
theorem rn_leq (hx : evL l x = some (.int k a)) (hy : evL l y = some (.int k b)) : Runs P l ⟨some d, .binOp .leq t x y u, ty, pos, aft, none⟩ W (.bool (decide (a ≤ b))) W := fun ev he => binop_run (he x _ hx) (he y _ hy) guard_int (by simp [binOp, Op.intCmp])
theorem op_leq (hx : evL l x = some (.int k a)) (hy : evL l y = some (.int k b)) (hd : Nat.blt d n = true) (h : OpsF P n ops Q os ((d, .bool (decide (a ≤ b))) :: l) W) : OpsF P n ops Q (⟨some d, .binOp .leq t x y u, ty, pos, aft, none⟩ :: os) l W := opV (rn_leq hx hy) hd h
theorem rn_mul {c : Int} (hx : evL l x = some (.int k a)) (hy : evL l y = some (.int k b)) (hw : k.wrap (a * b) = c) : Runs P l ⟨some d, .binOp .mul t x y u, ty, pos, aft, none⟩ W (.int k c) W := fun ev he => by subst hw; exact binop_run (he x _ hx) (he y _ hy) guard_int (by simp [binOp, Op.intArith])
theorem op_mul {c : Int} (hx : evL l x = some (.int k a)) (hy : evL l y = some (.int k b)) (hw : k.wrap (a * b) = c) (hd : Nat.blt d n = true) (h : OpsF P n ops Q os ((d, .int k c) :: l) W) : OpsF P n ops Q (⟨some d, .binOp .mul t x y u, ty, pos, aft, none⟩ :: os) l W := opV (rn_mul hx hy hw) hd h
end
end Go.Proofs.YtjcminoaiieckaaGreatDoor
namespace Go.Proofs.YtjcminoaiieckaaGreatDoor
open Go Go.RowKit
set_option linter.unusedVariables false
section
variable {P : Program} {n : Nat} {Q : Exit → Act → World → Prop} {l : Fr} {w0 W : World} {ops : Array Oper} {os : List Oper} {O : Own} {G : Grows} {K : List (Nat × World)} {L : List Asr} {i : Nat}
variable {d : Nat} {op : Op} {ty : TypeId} {pos : String} {aft : Array Edge} {v : Value} {gd : Option (Nat × Bool)}
theorem rg_no (hi : ops[i]? = some ⟨some d, op, ty, pos, aft, gd⟩) (hw : WantsNot ops L i ⟨some d, op, ty, pos, aft, gd⟩) (hI : atI L i = isV undef) : RG P n ops Q l W L i := fun a ha => st_none hi hw hI
theorem w_no {o : Oper} {g : Nat} {b c : Bool} (d : Nat) (h : o.guard = some (g, b)) (hd : (ops[g]?).bind (·.dst) = some d) (hw : waitsFor ops i g d = true) (hL : atI L g = isV (.bool c)) (hc : (c == b) = false) : WantsNot ops L i o := ⟨g, b, c, d, h, hd, hw, hL, hc⟩
theorem p_const {c : Value} : ∀ a, Has n l a → OpI ops a.tmps L i (.const c) (isV c) := fun a ha => opC
variable {Goal : List Asr → Prop}
end
end Go.Proofs.YtjcminoaiieckaaGreatDoor
namespace Go.Proofs.YtjcminoaiieckaaGreatDoor
open Go Go.RowKit
theorem bld_33 : Tryz.prog.built 33 [] = some #[.bool false, .int .i64 0, .int .u64 0, .slice none 0 0, .slice none 0 0, .slice none 0 0] := by kernel_rfl
theorem goes_16 : goesIn Tryz.prog 16 = true := by kernel_rfl
theorem goes_43 : goesIn Tryz.prog 43 = true := by kernel_rfl
theorem goes_70 : goesIn Tryz.prog 70 = true := by kernel_rfl
theorem goes_71 : goesIn Tryz.prog 71 = true := by kernel_rfl
end Go.Proofs.YtjcminoaiieckaaGreatDoor
namespace Go.Proofs.YtjcminoaiieckaaGreatDoor
open Go.RowKit
set_option linter.unusedVariables false
set_option linter.unusedSimpArgs false
theorem pc_le : ∀ n f, pc n f ≤ n
  | 0, _ => Nat.le_refl _
  | n + 1, f => by
    have := pc_le n f
    unfold pc
    split <;> omega
theorem pc_mono : ∀ {n a b : Nat}, (∀ i, i < n → a.testBit i = true → b.testBit i = true) → pc n a ≤ pc n b
  | 0, _, _, _ => Nat.le_refl _
  | n + 1, a, b, h => by
    have ih := pc_mono (n := n) (a := a) (b := b) (fun i hi => h i (by omega))
    unfold pc
    cases ha : a.testBit n
    · simp; omega
    · rw [h n (by omega) ha]; simp; omega
theorem pc_lt : ∀ {n a b : Nat}, (∀ i, i < n → a.testBit i = true → b.testBit i = true) → (∃ i, i < n ∧ a.testBit i = false ∧ b.testBit i = true) → pc n a < pc n b
  | 0, _, _, _, h => by obtain ⟨i, hi, _⟩ := h; omega
  | n + 1, a, b, h, hx => by
    obtain ⟨i, hi, ha, hb⟩ := hx
    rcases Nat.lt_or_ge i n with h1 | h1
    · have ih := pc_lt (n := n) (a := a) (b := b) (fun i hi => h i (by omega)) ⟨i, h1, ha, hb⟩
      unfold pc
      cases ha2 : a.testBit n
      · simp; omega
      · rw [h n (by omega) ha2]; simp; omega
    · obtain rfl : i = n := by omega
      have ih := pc_mono (n := i) (a := a) (b := b) (fun j hj => h j (by omega))
      unfold pc
      rw [ha, hb]; simp; omega
def ce_rank (n : Nat) (c : Cl) : Nat := if c.k = 2 then n + 2 else pc n c.f + (if c.k = 1 then 1 else 0)
def rankR (n : Nat) : List Cl → Nat
  | [] => 0
  | c :: r => ce_rank n c + rankR n r
theorem rank_le (n : Nat) (c : Cl) : ce_rank n c ≤ n + 2 := by
  have := pc_le n c.f
  unfold ce_rank
  split
  · exact Nat.le_refl _
  · split <;> omega
theorem rankR_le (n : Nat) : ∀ xs : List Cl, rankR n xs ≤ xs.length * (n + 2)
  | [] => by simp [rankR]
  | c :: r => by
    have h1 := rankR_le n r
    have h2 := rank_le n c
    simp [rankR, Nat.add_mul]; omega
theorem rank_up {n : Nat} {a b : Cl} (hn : n ≤ 64) (ha : okAt n a = true) (hb : okAt n b = true) (h : join a b = b) : a = b ∨ ce_rank n a < ce_rank n b := by
  obtain ⟨fa, ka⟩ := okAt_iff.1 ha
  obtain ⟨fb, kb⟩ := okAt_iff.1 hb
  have oa : a.ok := ⟨ce_pow_le64 hn fa, ka⟩
  have ob : b.ok := ⟨ce_pow_le64 hn fb, kb⟩
  have fbit : ∀ {f g : Nat}, f < 2 ^ n → g < 2 ^ n → f ||| g = g → f = g ∨ pc n f < pc n g := by
    intro f g hf hg hor
    by_cases e : f = g
    · exact .inl e
    · right
      have hsub : ∀ i, f.testBit i = true → g.testBit i = true := fun i hi => by rw [← hor, Nat.testBit_or, hi]; rfl
      refine pc_lt (fun i _ => hsub i) ?_
      apply Classical.byContradiction
      intro hno
      apply e
      apply Nat.eq_of_testBit_eq
      intro i
      cases h1 : f.testBit i
      · cases h2 : g.testBit i
        · rfl
        · exfalso
          apply hno
          refine ⟨i, ?_, h1, h2⟩
          rcases Nat.lt_or_ge i n with h3 | h3
          · exact h3
          · rw [Nat.testBit_lt_two_pow (Nat.lt_of_lt_of_le hg (Nat.pow_le_pow_right (by decide) h3))] at h2
            cases h2
      · exact (hsub i h1).symm
  have hp := pc_le n a.f
  rcases ok_cases oa with ⟨f, rfl⟩ | ⟨f, v, rfl⟩ | rfl <;> rcases ok_cases ob with ⟨f2, rfl⟩ | ⟨f2, v2, rfl⟩ | rfl
  · simp [join, joinK, joinV] at h
    rcases fbit fa fb h with rfl | h2
    · exact .inl rfl
    · right; simpa [ce_rank] using h2
  · simp [join, joinK, joinV] at h
    rcases fbit fa fb h with rfl | h2
    · right; simp [ce_rank]
    · right; simp [ce_rank]; simp at h2; omega
  · right; simp [ce_rank, manyC]; simp at hp; omega
  · simp [join, joinK, joinV] at h
  · simp only [join, joinK, joinV, Cl.mk.injEq] at h
    by_cases hv : v = v2
    · subst hv
      simp at h
      rcases fbit fa fb h with rfl | h2
      · exact .inl rfl
      · right; simpa [ce_rank] using h2
    · simp [hv] at h
  · right; simp [ce_rank, manyC]; simp at hp; omega
  · simp [join, joinK, joinV, manyC] at h
  · simp [join, joinK, joinV, manyC] at h
  · exact .inl rfl
theorem rankR_up {n : Nat} (hn : n ≤ 64) : ∀ {xs ys : List Cl}, xs.length = ys.length → (∀ c ∈ xs, okAt n c = true) → (∀ c ∈ ys, okAt n c = true) → bothC xs ys = ys → xs = ys ∨ rankR n xs < rankR n ys
  | [], [], _, _, _, _ => .inl rfl
  | [], _ :: _, h, _, _, _ => by simp at h
  | _ :: _, [], h, _, _, _ => by simp at h
  | a :: r, b :: t, h, hx, hy, hb => by
    simp only [bothC, List.zipWith_cons_cons, List.cons.injEq] at hb
    have ih := rankR_up hn (xs := r) (ys := t) (by simpa using h) (fun c hc => hx c (List.mem_cons_of_mem _ hc)) (fun c hc => hy c (List.mem_cons_of_mem _ hc)) hb.2
    have h1 := rank_up hn (hx a List.mem_cons_self) (hy b List.mem_cons_self) hb.1
    rcases h1 with rfl | h1 <;> rcases ih with rfl | ih
    · exact .inl rfl
    · right; simp [rankR]; exact ih
    · right; simp [rankR]; exact h1
    · right; simp [rankR]; omega
theorem Val.all {n : Nat} {xs : List Cl} (h : Val n xs) : ∀ c ∈ xs, okAt n c = true := fun c hc => by
  obtain ⟨i, hi, e⟩ := List.mem_iff_getElem.1 hc
  exact h.ok i c (by rw [← e]; exact List.getElem?_eq_getElem hi)
theorem rank_max {n : Nat} {xs : List Cl} (hx : Val n xs) : rankR n xs ≤ n * (n + 2) := by
  have := rankR_le n xs
  rw [hx.len] at this; exact this
end Go.Proofs.YtjcminoaiieckaaGreatDoor
namespace Go.Proofs.YtjcminoaiieckaaGreatDoor
open Go.RowKit
set_option linter.unusedVariables false
theorem pc_up {m a b : Nat} (hb : b < 2 ^ m) (h : ∀ j, a.testBit j = true → b.testBit j = true) : a = b ∨ pc m a < pc m b := by
  by_cases e : a = b
  · exact .inl e
  · right
    obtain ⟨j, hj⟩ : ∃ j, a.testBit j ≠ b.testBit j := Classical.byContradiction fun hn => e (Nat.eq_of_testBit_eq fun j => Classical.byContradiction fun hj => hn ⟨j, hj⟩)
    have h1 : a.testBit j = false := by
      cases ha : a.testBit j with
      | false => rfl
      | true => exact absurd (by rw [ha, h j ha]) hj
    have h2 : b.testBit j = true := by
      cases hb2 : b.testBit j with
      | true => rfl
      | false => exact absurd (by rw [h1, hb2]) hj
    refine pc_lt (fun i _ => h i) ⟨j, ?_, h1, h2⟩
    rcases Nat.lt_or_ge j m with hlt | hge
    · exact hlt
    · have := Nat.testBit_lt_two_pow (Nat.lt_of_lt_of_le hb (Nat.pow_le_pow_right (by decide) hge))
      rw [this] at h2; cases h2
def sumOr (m g : Nat) : List Nat → Nat
  | [] => 0
  | r :: rs => pc m (r ||| g) + sumOr m g rs
theorem sumOr_le (m g : Nat) : ∀ rs : List Nat, sumOr m g rs ≤ rs.length * m
  | [] => by simp [sumOr]
  | r :: rs => by
    have h1 := sumOr_le m g rs
    have h2 := pc_le m (r ||| g)
    simp [sumOr, Nat.add_mul]; omega
theorem sumOr_mono {m g g' : Nat} : ∀ {xs ys : List Nat}, xs.length = ys.length → (∀ (i : Nat) (r r' : Nat), xs[i]? = some r → ys[i]? = some r' → ∀ j, (r ||| g).testBit j = true → (r' ||| g').testBit j = true) → sumOr m g xs ≤ sumOr m g' ys
  | [], [], _, _ => Nat.le_refl _
  | [], _ :: _, h, _ => by simp at h
  | _ :: _, [], h, _ => by simp at h
  | r :: xs, r' :: ys, hl, h => by
    have ih := sumOr_mono (m := m) (xs := xs) (ys := ys) (by simpa using hl) (fun i a b ha hb => h (i + 1) a b (by simpa using ha) (by simpa using hb))
    have h1 : pc m (r ||| g) ≤ pc m (r' ||| g') := pc_mono fun j _ => h 0 r r' rfl rfl j
    simp only [sumOr]; omega
theorem or_off {a b g : Nat} (ha : a &&& g = 0) (hb : b &&& g = 0) (h : a ||| g = b ||| g) : a = b := by
  apply Nat.eq_of_testBit_eq
  intro j
  have h1 := congrArg (fun n => n.testBit j) h
  have h2 := congrArg (fun n => n.testBit j) ha
  have h3 := congrArg (fun n => n.testBit j) hb
  simp only [Nat.testBit_or, Nat.testBit_and, Nat.zero_testBit] at h1 h2 h3
  cases e1 : a.testBit j <;> cases e2 : b.testBit j <;> cases e3 : g.testBit j <;> simp_all
theorem sumOr_up {m g : Nat} (hg : g < 2 ^ m) : ∀ {xs ys : List Nat}, xs.length = ys.length → (∀ r ∈ ys, r < 2 ^ m) → (∀ r ∈ xs, r &&& g = 0) → (∀ r ∈ ys, r &&& g = 0) → (∀ (i : Nat) (r r' : Nat), xs[i]? = some r → ys[i]? = some r' → ∀ j, (r ||| g).testBit j = true → (r' ||| g).testBit j = true) → xs = ys ∨ sumOr m g xs < sumOr m g ys
  | [], [], _, _, _, _, _ => .inl rfl
  | [], _ :: _, h, _, _, _, _ => by simp at h
  | _ :: _, [], h, _, _, _, _ => by simp at h
  | r :: xs, r' :: ys, hl, hy, cx, cy, h => by
    have ht := fun i a b (ha : xs[i]? = some a) (hb : ys[i]? = some b) => h (i + 1) a b (by simpa using ha) (by simpa using hb)
    have ih := sumOr_up hg (xs := xs) (ys := ys) (by simpa using hl) (fun q hq => hy q (List.mem_cons_of_mem _ hq)) (fun q hq => cx q (List.mem_cons_of_mem _ hq)) (fun q hq => cy q (List.mem_cons_of_mem _ hq)) ht
    have hm := sumOr_mono (m := m) (g := g) (g' := g) (xs := xs) (ys := ys) (by simpa using hl) ht
    have h1 := pc_up (m := m) (a := r ||| g) (b := r' ||| g) (Nat.or_lt_two_pow (hy r' List.mem_cons_self) hg) (h 0 r r' rfl rfl)
    rcases h1 with h1 | h1
    · have e : r = r' := or_off (cx r List.mem_cons_self) (cy r' List.mem_cons_self) h1
      subst e
      rcases ih with rfl | ih
      · exact .inl rfl
      · right; simp only [sumOr]; omega
    · right; simp only [sumOr]; omega
def fRank (m g : Nat) (rows : List Nat) : Nat := pc m g + sumOr m g rows
theorem fRank_le {m g : Nat} {rows : List Nat} (h : Good m g rows) : fRank m g rows ≤ m * (m + 1) := by
  have h1 := pc_le m g
  have h2 := sumOr_le m g rows
  rw [h.hl] at h2
  unfold fRank
  rw [Nat.mul_add, Nat.mul_one]; omega
theorem fRank_up {m ga gb : Nat} {xs ys : List Nat} (ha : Good m ga xs) (hb : Good m gb ys) : (ga ||| gb = ga ∧ canonL (ga ||| gb) (orL xs ys) = xs) ∨ fRank m ga xs < fRank m (ga ||| gb) (canonL (ga ||| gb) (orL xs ys)) := by
  have hc := ha.comb hb
  have hlen : ys.length = xs.length := by rw [ha.hl, hb.hl]
  have hll : xs.length = (canonL (ga ||| gb) (orL xs ys)).length := by rw [canonL_length, orL_len hlen]
  have hp : ∀ (i : Nat) (r r' : Nat), xs[i]? = some r → (canonL (ga ||| gb) (orL xs ys))[i]? = some r' → ∀ j, (r ||| ga).testBit j = true → (r' ||| (ga ||| gb)).testBit j = true := by
    intro i r r' h1 h2 j hj
    obtain ⟨hi, _⟩ := List.getElem?_eq_some_iff.1 h1
    have hy : ys[i]? = some (ys[i]'(by omega)) := List.getElem?_eq_getElem _
    have ho := orL_at h1 hy
    unfold canonL at h2
    rw [List.getElem?_map, ho] at h2
    have e : andn (r ||| ys[i]'(by omega)) (ga ||| gb) = r' := by simpa using h2
    subst e
    have k1 : r < 18446744073709551616 := ha.r64 r (List.mem_of_getElem? h1)
    have k2 : ys[i]'(by omega) < 18446744073709551616 := hb.r64 _ (List.mem_of_getElem? hy)
    rw [Nat.testBit_or, andn_bit (Nat.or_lt_two_pow (n := 64) k1 k2) hc.g64, Nat.testBit_or, Nat.testBit_or]
    rw [Nat.testBit_or] at hj
    cases e1 : r.testBit j <;> cases e2 : ga.testBit j <;> cases e3 : gb.testBit j <;> simp_all
  rcases pc_up (m := m) (a := ga) (b := ga ||| gb) hc.hg (fun j h => by rw [Nat.testBit_or, h]; rfl) with e | h1
  · rw [← e] at hc hll hp ⊢
    rcases sumOr_up ha.hg hll hc.hr ha.hc hc.hc hp with e2 | h2
    · exact .inl ⟨rfl, e2.symm⟩
    · right; unfold fRank; omega
  · right
    have h2 := sumOr_mono (m := m) hll hp
    unfold fRank; omega

def rkP (t n : Int) (a : PF) : Nat := if a.z = true then 0 else 1 + (if t = 2 then (n - a.c).toNat else if t = 3 then fRank n.toNat a.g a.rows else if t = 4 then rankR n.toNat a.cells else 0)
def hgtP (t n : Int) : Int := if t = 1 then 1 else if t = 2 then n + 1 else if t = 3 then n * (n + 1) + 1 else if t = 4 then n * (n + 2) + 1 else 0
theorem rkP_le {t n : Int} {l : Nat} {a : PF} (h : plainB t n l = true) (ha : OkP t n a) : (rkP t n a : Int) ≤ hgtP t n := by
  rcases (plainB_cases h).2 with ⟨rfl, hn⟩ | ⟨rfl, h0, h1⟩ | ⟨rfl, m, rfl, hm⟩ | ⟨rfl, m, rfl, hm⟩
  · rcases okP_1 ha with rfl | rfl <;> simp [rkP, hgtP, zeroP, pC]
  · rcases okP_2 ha with rfl | ⟨x, rfl, hx⟩
    · simp [rkP, hgtP, zeroP]; omega
    · simp [rkP, hgtP, pC]; omega
  · have hz : (0 : Int) ≤ (m : Int) * ((m : Int) + 1) := Int.mul_nonneg (by omega) (by omega)
    rcases okP_3 ha with rfl | ⟨g, xs, rfl, hx⟩
    · simp [rkP, hgtP, zeroP]; omega
    · have := fRank_le hx
      have e : ((m * (m + 1) : Nat) : Int) = (m : Int) * ((m : Int) + 1) := by push_cast; rfl
      simp [rkP, hgtP, pF]; omega
  · have hz : (0 : Int) ≤ (m : Int) * ((m : Int) + 2) := Int.mul_nonneg (by omega) (by omega)
    rcases okP_4 ha with rfl | ⟨xs, rfl, hx⟩
    · simp [rkP, hgtP, zeroP]; omega
    · have := rank_max hx
      have e : ((m * (m + 2) : Nat) : Int) = (m : Int) * ((m : Int) + 2) := by push_cast; rfl
      simp [rkP, hgtP, pX]; omega
theorem rkP_up {t n : Int} {l : Nat} {a b : PF} (h : plainB t n l = true) (ha : OkP t n a) (hb : OkP t n b) : combP t n a b = a ∨ rkP t n a < rkP t n (combP t n a b) := by
  by_cases zb : b = zeroP
  · subst zb; exact .inl (comb_zr ha)
  have hbz : b.z = false := by cases hb <;> first | exact absurd rfl zb | rfl
  by_cases za : a = zeroP
  · subst za; rw [comb_zl]; right; unfold rkP; rw [hbz]; simp [zeroP]; omega
  rcases (plainB_cases h).2 with ⟨rfl, hn⟩ | ⟨rfl, h0, h1⟩ | ⟨rfl, m, rfl, hm⟩ | ⟨rfl, m, rfl, hm⟩
  · obtain rfl := (okP_1 ha).resolve_left za; obtain rfl := (okP_1 hb).resolve_left zb
    exact .inl comb_1
  · obtain ⟨x, rfl, hx⟩ := (okP_2 ha).resolve_left za; obtain ⟨y, rfl, hy⟩ := (okP_2 hb).resolve_left zb
    rw [comb_2]
    rcases Int.lt_or_le y x with h2 | h2
    · right; simp [rkP, pC]; omega
    · left; congr 1; omega
  · obtain ⟨g, x, rfl, hx⟩ := (okP_3 ha).resolve_left za; obtain ⟨g2, y, rfl, hy⟩ := (okP_3 hb).resolve_left zb
    rw [comb_3, combG_good hx hy, combV_good hx hy]
    rcases fRank_up hx hy with ⟨e1, e2⟩ | h2
    · left; rw [e1] at e2 ⊢; rw [e2]
    · right; simp [rkP, pF]; omega
  · obtain ⟨x, rfl, hx⟩ := (okP_4 ha).resolve_left za; obtain ⟨y, rfl, hy⟩ := (okP_4 hb).resolve_left zb
    rw [comb_4]
    have hv := val_both hx hy
    rcases rankR_up hx.le (by rw [hx.len, hv.len]) hx.all hv.all (by rw [← both_assoc hx hx hy, both_self hx]) with e | h2
    · left; rw [← e]
    · right; simp [rkP, pX]; omega
def rkX : PS → PX → Nat
  | .one t n, .one a => rkP t n a
  | .two t n u m, .two a b => rkP t n a + rkP u m b
  | _, _ => 0
def hgtX : PS → Int
  | .one t n => hgtP t n
  | .two t n u m => hgtP t n + hgtP u m
theorem rkX_le {S : PS} {x : PX} (h : S.ok) (hx : OkX S x) : (rkX S x : Int) ≤ hgtX S := by
  match S, x, h, hx with
  | .one t n, .one a, h, hx => exact rkP_le h hx
  | .two t n u m, .two a b, h, hx =>
    have h1 := rkP_le h.1 hx.1
    have h2 := rkP_le h.2 hx.2
    simp only [rkX, hgtX]; omega
theorem rkX_up {S : PS} {x y : PX} (h : S.ok) (hx : OkX S x) (hy : OkX S y) : combX S x y = x ∨ rkX S x < rkX S (combX S x y) := by
  match S, x, y, h, hx, hy with
  | .one t n, .one a, .one b, h, hx, hy =>
    rcases rkP_up h hx hy with e | h1
    · left; simp only [combX, e]
    · exact .inr h1
  | .two t n u m, .two a b, .two c d, h, hx, hy =>
    rcases rkP_up h.1 hx.1 hy.1 with e1 | h1 <;> rcases rkP_up h.2 hx.2 hy.2 with e2 | h2
    · left; simp only [combX, e1, e2]
    · right; simp only [combX, rkX, e1]; omega
    · right; simp only [combX, rkX, e2]; omega
    · right; simp only [combX, rkX]; omega
theorem hgtP_bound {t n : Int} {l : Nat} (h : plainB t n l = true) : 0 ≤ hgtP t n ∧ hgtP t n ≤ 1048577 := by
  rcases (plainB_cases h).2 with ⟨rfl, hn⟩ | ⟨rfl, h0, h1⟩ | ⟨rfl, m, rfl, hm⟩ | ⟨rfl, m, rfl, hm⟩
  · simp [hgtP]
  · simp [hgtP]; omega
  · have h1 : m * (m + 1) ≤ 64 * 65 := Nat.mul_le_mul hm (by omega)
    have e : ((m * (m + 1) : Nat) : Int) = (m : Int) * ((m : Int) + 1) := by push_cast; rfl
    simp [hgtP]; omega
  · have h1 : m * (m + 2) ≤ 64 * 66 := Nat.mul_le_mul hm (by omega)
    have e : ((m * (m + 2) : Nat) : Int) = (m : Int) * ((m : Int) + 2) := by push_cast; rfl
    simp [hgtP]; omega
end Go.Proofs.YtjcminoaiieckaaGreatDoor
namespace Go.Proofs.YtjcminoaiieckaaGreatDoor
open Go Go.RowKit
set_option linter.unusedVariables false
theorem mul_bound1 {m : Nat} (hm : m ≤ 64) : 0 ≤ (m : Int) * ((m : Int) + 1) ∧ (m : Int) * ((m : Int) + 1) ≤ 4160 := by
  have h1 : m * (m + 1) ≤ 64 * 65 := Nat.mul_le_mul hm (by omega)
  have e : ((m * (m + 1) : Nat) : Int) = (m : Int) * ((m : Int) + 1) := by push_cast; rfl
  omega
theorem mul_bound2 {m : Nat} (hm : m ≤ 64) : 0 ≤ (m : Int) * ((m : Int) + 2) ∧ (m : Int) * ((m : Int) + 2) ≤ 4224 := by
  have h1 : m * (m + 2) ≤ 64 * 66 := Nat.mul_le_mul hm (by omega)
  have e : ((m * (m + 2) : Nat) : Int) = (m : Int) * ((m : Int) + 2) := by push_cast; rfl
  omega
theorem hgtP_1 {t n : Int} (h : t = 1) : hgtP t n = 1 := by unfold hgtP; rw [if_pos h]
theorem hgtP_0 {t n : Int} (h1 : ¬ t = 1) (h2 : ¬ t = 2) (h3 : ¬ t = 3) (h4 : ¬ t = 4) : hgtP t n = 0 := by unfold hgtP; rw [if_neg h1, if_neg h2, if_neg h3, if_neg h4]
theorem costHeight_is {n : Int} {l : Nat} (hp : plainB 2 n l = true) (w : World) : Calls Tryz.prog 70 #[.int .i64 n] w fun e w' => e = .returned (.tuple #[.int .i64 (n + 1), .int .i64 0]) ∧ Below w.heap.size w w' := by
  have hc : chk n [] = 0 := by
    rcases (plainB_cases hp).2 with ⟨h, _⟩ | ⟨_, h0, h1⟩ | ⟨h, _⟩ | ⟨h, _⟩
    · cases h
    · unfold chk; rw [if_neg (by omega)]; rfl
    · cases h
    · cases h
  refine (co_height_any n w).mono fun e w' h => ⟨?_, h.2 ▸ Below.refl _ _⟩
  rw [h.1, hc]
  unfold heightR
  rw [if_pos hc]
theorem cellsHeight_is {m : Nat} (hm : m ≤ 64) (w : World) : Calls Tryz.prog 71 #[.int .i64 (m : Int)] w fun e w' => e = .returned (.tuple #[.int .i64 ((m : Int) * ((m : Int) + 2)), .int .i64 0]) ∧ Below w.heap.size w w' := by
  have h0 : dimC (m : Int) = 0 := by unfold dimC; rw [if_neg (by omega)]
  refine (ce_height_any (m : Int) w 0 h0 _ rfl).mono fun e w' h => ⟨?_, h.2 ▸ Below.refl _ _⟩
  rw [h.1]
  unfold heightC
  rw [if_pos h0]

set_option maxRecDepth 100000 in
set_option maxHeartbeats 4000000 in
theorem heightA_plain (t n : Int) (sa : Option Addr) (sc : Nat) (w : World) (hp : plainB t n 0 = true) :
    Calls Tryz.prog 43 #[.agg #[.int .i64 t, .int .i64 n, .slice sa 0 sc]] w (fun e w' => e = .returned (.int .i64 (hgtP t n)) ∧ Below w.heap.size w w') := by
  refine enterF (args := [.agg #[.int .i64 t, .int .i64 n, .slice sa 0 sc]]) Tryz.func43 rfl Tryz.ntmps43 rfl ?_
  have hS := St.start w
  refine seqF ?_
  refine regF ?_
  refine op_box (cs := [_, _, _]) hS rfl rfl rfl ?_
  clear hS; intro B1 W1 hS
  refine op_assign rfl rfl ?_
  refine endF ?_
  refine XF.thenN ?_
  refine seqF ?_
  refine regF ?_
  refine op_assign rfl rfl ?_
  refine endF ?_
  refine XF.thenN ?_
  refine seqF ?_
  refine seqF ?_
  refine regF ?_
  refine op_field (o' := 0) fa_25_0 rfl rfl rfl ?_
  refine op_load Tryz.isAgg22 rfl (cell_own (hS.at_ 0 rfl) rfl) rfl ?_
  refine endF ?_
  refine XF.thenN ?_
  refine blockF ?_
  refine seqF ?_
  refine regF ?_
  refine op_eql rfl rfl rfl ?_
  refine op_assign rfl rfl ?_
  refine endF ?_
  refine XF.thenN ?_
  refine condF rfl (fun hc => ?_) (fun hc => ?_)
  · have hc6 := of_decide_eq_true hc; clear hc
    refine regF ?_
    refine op_assign rfl rfl ?_
    refine endF ?_
    refine XF.blkN ?_
    refine XF.thenN ?_
    refine seqF ?_
    refine regF ?_
    refine op_move rfl rfl ?_
    refine op_assign rfl rfl ?_
    refine endF ?_
    refine XF.thenN ?_
    refine retF ?_
    refine XF.res (res1 Tryz.results43 rfl) ?_
    exact ⟨by rw [hgtP_1 hc6], hS.below⟩
  · have hc6 := of_decide_eq_false hc; clear hc
    refine seqF ?_
    refine regF ?_
    refine op_eql rfl rfl rfl ?_
    refine op_assign rfl rfl ?_
    refine endF ?_
    refine XF.thenN ?_
    refine condF rfl (fun hc => ?_) (fun hc => ?_)
    · have hc8 := of_decide_eq_true hc; clear hc
      have e2 : t = 2 := hc8
      subst e2
      refine regF ?_
      refine op_field (o' := 1) fa_25_1 rfl rfl rfl ?_
      refine op_load Tryz.isAgg3 rfl (cell_own (hS.at_ 0 rfl) rfl) rfl ?_
      refine op_call (vs := [_]) hS goes_70 rfl (costHeight_is hp _) rfl ?_
      rintro e W2 ⟨rfl, hb⟩
      refine ⟨_, rfl, hb, fun hS' => ?_⟩
      clear hS; have hS := hS'; clear hS' hb
      refine op_move rfl rfl ?_
      refine op_extract rfl rfl rfl ?_
      refine op_extract rfl rfl rfl ?_
      refine op_assign rfl rfl ?_
      refine endF ?_
      refine XF.blkN ?_
      refine XF.thenN ?_
      refine seqF ?_
      refine regF ?_
      refine op_move rfl rfl ?_
      refine op_assign rfl rfl ?_
      refine endF ?_
      refine XF.thenN ?_
      refine retF ?_
      refine XF.res (res1 Tryz.results43 rfl) ?_
      exact ⟨rfl, hS.below⟩
    · have hc8 := of_decide_eq_false hc; clear hc
      refine seqF ?_
      refine regF ?_
      refine op_eql rfl rfl rfl ?_
      refine op_assign rfl rfl ?_
      refine endF ?_
      refine XF.thenN ?_
      refine condF rfl (fun hc => ?_) (fun hc => ?_)
      · have hc16 := of_decide_eq_true hc; clear hc
        have e3 : t = 3 := hc16
        subst e3
        obtain ⟨m, rfl, hm⟩ := dim3 hp (.inl rfl)
        have hmm := mul_bound1 hm
        refine regF ?_
        refine op_field (o' := 1) fa_25_1 rfl rfl rfl ?_
        refine op_load Tryz.isAgg3 rfl (cell_own (hS.at_ 0 rfl) rfl) rfl ?_
        refine op_field (o' := 1) fa_25_1 rfl rfl rfl ?_
        refine op_load Tryz.isAgg3 rfl (cell_own (hS.at_ 0 rfl) rfl) rfl ?_
        refine op_add rfl rfl (IntWalk.i64_in _ (by omega)) rfl ?_
        refine op_mul rfl rfl (IntWalk.i64_in _ (by omega)) rfl ?_
        refine op_add rfl rfl (IntWalk.i64_in _ (by omega)) rfl ?_
        refine op_assign rfl rfl ?_
        refine endF ?_
        refine XF.blkN ?_
        refine XF.thenN ?_
        refine seqF ?_
        refine regF ?_
        refine op_move rfl rfl ?_
        refine op_assign rfl rfl ?_
        refine endF ?_
        refine XF.thenN ?_
        refine retF ?_
        refine XF.res (res1 Tryz.results43 rfl) ?_
        exact ⟨rfl, hS.below⟩
      · have hc16 := of_decide_eq_false hc; clear hc
        refine seqF ?_
        refine regF ?_
        refine op_eql rfl rfl rfl ?_
        refine op_assign rfl rfl ?_
        refine endF ?_
        refine XF.thenN ?_
        refine condF rfl (fun hc => ?_) (fun hc => ?_)
        · have hc25 := of_decide_eq_true hc; clear hc
          have e4 : t = 4 := hc25
          subst e4
          obtain ⟨m, rfl, hm⟩ := dim3 hp (.inr rfl)
          have hmm := mul_bound2 hm
          refine seqF ?_
          refine regF ?_
          refine op_field (o' := 1) fa_25_1 rfl rfl rfl ?_
          refine op_load Tryz.isAgg3 rfl (cell_own (hS.at_ 0 rfl) rfl) rfl ?_
          refine op_call (vs := [_]) hS goes_71 rfl (cellsHeight_is hm _) rfl ?_
          rintro e W3 ⟨rfl, hb⟩
          refine ⟨_, rfl, hb, fun hS' => ?_⟩
          clear hS; have hS := hS'; clear hS' hb
          refine op_move rfl rfl ?_
          refine op_extract rfl rfl rfl ?_
          refine op_extract rfl rfl rfl ?_
          refine op_assign rfl rfl ?_
          refine endF ?_
          refine XF.thenN ?_
          refine regF ?_
          refine op_move rfl rfl ?_
          refine op_add rfl rfl (IntWalk.i64_in _ (by omega)) rfl ?_
          refine op_assign rfl rfl ?_
          refine endF ?_
          refine XF.blkN ?_
          refine XF.thenN ?_
          refine seqF ?_
          refine regF ?_
          refine op_move rfl rfl ?_
          refine op_assign rfl rfl ?_
          refine endF ?_
          refine XF.thenN ?_
          refine retF ?_
          refine XF.res (res1 Tryz.results43 rfl) ?_
          exact ⟨rfl, hS.below⟩
        · have hc25 := of_decide_eq_false hc; clear hc
          refine seqF ?_
          refine regF ?_
          refine op_eql rfl rfl rfl ?_
          refine op_assign rfl rfl ?_
          refine endF ?_
          refine XF.thenN ?_
          refine condF rfl (fun hc => absurd (of_decide_eq_true hc) (by exact plain_ne5 hp)) (fun hc => ?_)
          have hc := of_decide_eq_false hc
          refine skipF ?_
          refine XF.blkN ?_
          refine XF.thenN ?_
          refine seqF ?_
          refine regF ?_
          refine op_move rfl rfl ?_
          refine op_assign rfl rfl ?_
          refine endF ?_
          refine XF.thenN ?_
          refine retF ?_
          refine XF.res (res1 Tryz.results43 rfl) ?_
          exact ⟨by rw [hgtP_0 hc6 hc8 hc16 hc25], hS.below⟩

set_option maxRecDepth 100000 in
set_option maxHeartbeats 4000000 in
theorem heightA_pair (t n u m : Int) (a1 a2 : Option Addr) (c1 c2 b off sc : Nat) (w : World) (hs1 : S3 w b off ⟨t, n, a1, 0, c1⟩) (hs2 : S3 w b (off + 3) ⟨u, m, a2, 0, c2⟩) (hp1 : plainB t n 0 = true) (hp2 : plainB u m 0 = true) :
    Calls Tryz.prog 43 #[.agg #[.int .i64 5, .int .i64 0, .slice (some ⟨b, off, none⟩) 2 sc]] w (fun e w' => e = .returned (.int .i64 (hgtP t n + hgtP u m)) ∧ Below w.heap.size w w') := by
  refine enterF (args := [.agg #[.int .i64 5, .int .i64 0, .slice (some ⟨b, off, none⟩) 2 sc]]) Tryz.func43 rfl Tryz.ntmps43 rfl ?_
  have hS := St.start w
  refine seqF ?_
  refine regF ?_
  refine op_box (cs := [_, _, _]) hS rfl rfl rfl ?_
  clear hS; intro B1 W1 hS
  refine op_assign rfl rfl ?_
  refine endF ?_
  refine XF.thenN ?_
  refine seqF ?_
  refine regF ?_
  refine op_assign rfl rfl ?_
  refine endF ?_
  refine XF.thenN ?_
  refine seqF ?_
  refine seqF ?_
  refine regF ?_
  refine op_field (o' := 0) fa_25_0 rfl rfl rfl ?_
  refine op_load Tryz.isAgg22 rfl (cell_own (hS.at_ 0 rfl) rfl) rfl ?_
  refine endF ?_
  refine XF.thenN ?_
  refine blockF ?_
  refine seqF ?_
  refine regF ?_
  refine op_eql rfl rfl rfl ?_
  refine op_assign rfl rfl ?_
  refine endF ?_
  refine XF.thenN ?_
  refine condF rfl (fun hc => absurd (of_decide_eq_true hc) (by omega)) (fun hc => ?_)
  have hc := of_decide_eq_false hc
  refine seqF ?_
  refine regF ?_
  refine op_eql rfl rfl rfl ?_
  refine op_assign rfl rfl ?_
  refine endF ?_
  refine XF.thenN ?_
  refine condF rfl (fun hc => absurd (of_decide_eq_true hc) (by omega)) (fun hc => ?_)
  have hc := of_decide_eq_false hc
  refine seqF ?_
  refine regF ?_
  refine op_eql rfl rfl rfl ?_
  refine op_assign rfl rfl ?_
  refine endF ?_
  refine XF.thenN ?_
  refine condF rfl (fun hc => absurd (of_decide_eq_true hc) (by omega)) (fun hc => ?_)
  have hc := of_decide_eq_false hc
  refine seqF ?_
  refine regF ?_
  refine op_eql rfl rfl rfl ?_
  refine op_assign rfl rfl ?_
  refine endF ?_
  refine XF.thenN ?_
  refine condF rfl (fun hc => absurd (of_decide_eq_true hc) (by omega)) (fun hc => ?_)
  have hc := of_decide_eq_false hc
  refine seqF ?_
  refine regF ?_
  refine op_eql rfl rfl rfl ?_
  refine op_assign rfl rfl ?_
  refine endF ?_
  refine XF.thenN ?_
  refine condF rfl (fun hc => ?_) (fun hc => absurd (of_decide_eq_false hc) (by omega))
  have hc := of_decide_eq_true hc
  have hsz := hS.below.size
  have k1 := CellsAt.agree hS.agree (Nat.zero_le _) hs1.cells
  have k2 := CellsAt.agree hS.agree (Nat.zero_le _) hs2.cells
  have g1 := hgtP_bound hp1
  have g2 := hgtP_bound hp2
  refine regB (m := 12) followsM hS (by kernel_rfl) (by kernel_rfl) rfl ?_
  refine bl_cons 1 rfl (isV _) (stab_isV _) (rgV (li := [(1, _)]) rfl (w_free rfl) ⟨g_fr (by kernel_rfl) rfl, trivial⟩ (fun w hw => rn_field (o' := 2) fa_25_2 rfl rfl) (at_top rfl)) ?_
  refine bl_cons 2 rfl (isV _) (stab_isV _) (rgV (li := [(37, _)]) rfl (w_free rfl) ⟨g_dep 0 (by kernel_rfl) (at_dep rfl rfl rfl), trivial⟩ (fun w hw => rn_load Tryz.isAgg23 rfl ((below_agree hw 0).cell (Nat.zero_le _) (cell_own (hS.at_ 0 rfl) rfl))) (at_top rfl)) ?_
  refine bl_cons 3 rfl (isV _) (stab_isV _) (rgV (li := [(38, _)]) rfl (w_free rfl) ⟨g_dep 1 (by kernel_rfl) (at_dep rfl rfl rfl), trivial⟩ (fun w hw => rn_indexA (j := 0) Tryz.underlying23 Tryz.sizeOf25 rfl rfl rfl (by omega) (Nat.add_zero _)) (at_top rfl)) ?_
  refine bl_cons 4 rfl (isV _) (stab_isV _) (rgV (li := [(39, _)]) rfl (w_free rfl) ⟨g_dep 2 (by kernel_rfl) (at_dep rfl rfl rfl), trivial⟩ (fun w hw => rn_loadA (vs := [_, _, _]) Tryz.isAgg25 Tryz.sizeOf25 rfl (CellsAt.agree (below_agree hw 0) (Nat.zero_le _) (by assumption))) (at_top rfl)) ?_
  refine bl_cons 5 rfl (isV (.int .i64 (hgtP t n))) (stab_isV _) (rg_call [isV _] rfl goes_43 (w_free rfl) ⟨p_tmp (g_dep 3 (by kernel_rfl) (at_dep rfl rfl rfl)), trivial⟩ (fun vs w' hb hh => by have e := holds_isV (us := [_]) hh; subst e; exact (heightA_plain _ _ _ _ _ hp1).mono fun e w2 h => ⟨_, h.1, rfl, h.2⟩) (at_top rfl)) ?_
  refine bl_cons 6 rfl (isV _) (stab_isV _) (rgV (li := [(1, _)]) rfl (w_free rfl) ⟨g_fr (by kernel_rfl) rfl, trivial⟩ (fun w hw => rn_field (o' := 2) fa_25_2 rfl rfl) (at_top rfl)) ?_
  refine bl_cons 7 rfl (isV _) (stab_isV _) (rgV (li := [(42, _)]) rfl (w_free rfl) ⟨g_dep 5 (by kernel_rfl) (at_dep rfl rfl rfl), trivial⟩ (fun w hw => rn_load Tryz.isAgg23 rfl ((below_agree hw 0).cell (Nat.zero_le _) (cell_own (hS.at_ 0 rfl) rfl))) (at_top rfl)) ?_
  refine bl_cons 8 rfl (isV _) (stab_isV _) (rgV (li := [(43, _)]) rfl (w_free rfl) ⟨g_dep 6 (by kernel_rfl) (at_dep rfl rfl rfl), trivial⟩ (fun w hw => rn_indexA (j := 1) Tryz.underlying23 Tryz.sizeOf25 rfl rfl rfl (by omega) rfl) (at_top rfl)) ?_
  refine bl_cons 9 rfl (isV _) (stab_isV _) (rgV (li := [(44, _)]) rfl (w_free rfl) ⟨g_dep 7 (by kernel_rfl) (at_dep rfl rfl rfl), trivial⟩ (fun w hw => rn_loadA (vs := [_, _, _]) Tryz.isAgg25 Tryz.sizeOf25 rfl (CellsAt.agree (below_agree hw 0) (Nat.zero_le _) (by assumption))) (at_top rfl)) ?_
  refine bl_cons 10 rfl (isV (.int .i64 (hgtP u m))) (stab_isV _) (rg_call [isV _] rfl goes_43 (w_free rfl) ⟨p_tmp (g_dep 8 (by kernel_rfl) (at_dep rfl rfl rfl)), trivial⟩ (fun vs w' hb hh => by have e := holds_isV (us := [_]) hh; subst e; exact (heightA_plain _ _ _ _ _ hp2).mono fun e w2 h => ⟨_, h.1, rfl, h.2⟩) (at_top rfl)) ?_
  refine bl_cons 11 rfl (isV _) (stab_isV _) (rgV (li := [(41, _), (46, _)]) rfl (w_free rfl) ⟨g_dep 4 (by kernel_rfl) (at_dep rfl rfl rfl), g_dep 9 (by kernel_rfl) (at_dep rfl rfl rfl), trivial⟩ (fun w hw => rn_add rfl rfl (IntWalk.i64_in _ (by omega))) (at_top rfl)) ?_
  refine bl_cons 12 rfl (isV _) (stab_isV _) (rgV (li := [(47, _)]) rfl (w_free rfl) ⟨g_dep 10 (by kernel_rfl) (at_dep rfl rfl rfl), trivial⟩ (fun w hw => rn_assign rfl) (at_top rfl)) ?_
  refine bl_nil ?_
  intro W2 hbR hS'
  clear hS; have hS := hS'; clear hS'
  refine fin_v ?_
  refine fin_v ?_
  refine fin_v ?_
  refine fin_v ?_
  refine fin_v ?_
  refine fin_v ?_
  refine fin_v ?_
  refine fin_v ?_
  refine fin_v ?_
  refine fin_v ?_
  refine fin_v ?_
  refine fin_v ?_
  refine fin_nil ?_
  refine XF.blkN ?_
  refine XF.thenN ?_
  refine seqF ?_
  refine regF ?_
  refine op_move rfl rfl ?_
  refine op_assign rfl rfl ?_
  refine endF ?_
  refine XF.thenN ?_
  refine retF ?_
  refine XF.res (res1 Tryz.results43 rfl) ?_
  exact ⟨rfl, hS.below⟩

section
variable {S : PS} {sf : SF} {w : World}
theorem heightA_ok (hs : SIs w S sf) (hok : S.ok) : Calls Tryz.prog 43 #[sf.val] w fun e w' => e = .returned (.int .i64 (hgtX S)) ∧ Below w.heap.size w w' := by
  cases S with
  | one t n =>
    obtain ⟨a, c, rfl⟩ := hs
    exact heightA_plain _ _ _ _ _ hok
  | two t n u m =>
    obtain ⟨b, off, c, a1, c1, a2, c2, rfl, h1, h2⟩ := hs
    exact heightA_pair _ _ _ _ _ _ _ _ _ _ _ _ h1 h2 hok.1 hok.2
end
set_option maxRecDepth 100000 in
set_option maxHeartbeats 4000000 in
theorem HeightW_ok (S : PS) (sf : SF) (w : World) (hs : SIs w S sf) (hok : S.ok) :
    Calls Tryz.prog 16 #[sf.val] w (fun e w' => e = .returned (.tuple #[.int .i64 (hgtX S), .int .i64 0]) ∧ Below w.heap.size w w') := by
  refine enterF (args := [sf.val]) Tryz.func16 rfl Tryz.ntmps16 rfl ?_
  have hS := St.start w
  refine seqF ?_
  refine regF ?_
  refine op_box (cs := [_, _, _]) hS rfl rfl rfl ?_
  clear hS; intro B1 W1 hS
  refine op_assign rfl rfl ?_
  refine op_assign rfl rfl ?_
  refine endF ?_
  refine XF.thenN ?_
  refine seqF ?_
  refine seqF ?_
  refine regF ?_
  refine op_loadA (vs := [_, _, _]) Tryz.isAgg25 Tryz.sizeOf25 rfl (CellsAt.own (j := 0) (m := 3) (hS.at_ 0 rfl) rfl) rfl ?_
  refine op_call (vs := [_]) hS goes_18 rfl (spaceA_ok (hs.below hS.below) hok) rfl ?_
  rintro e W2 ⟨rfl, hb⟩
  refine ⟨_, rfl, hb, fun hS' => ?_⟩
  clear hS; have hS := hS'; clear hS' hb
  refine op_assign rfl rfl ?_
  refine endF ?_
  refine XF.thenN ?_
  refine seqF ?_
  refine regF ?_
  refine op_move rfl rfl ?_
  refine op_neq rfl rfl rfl ?_
  refine endF ?_
  refine XF.thenN ?_
  refine condF rfl (fun hc => absurd (of_decide_eq_true hc) (by omega)) (fun hc => ?_)
  have hc := of_decide_eq_false hc
  refine skipF ?_
  refine XF.thenN ?_
  refine seqF ?_
  refine regF ?_
  refine op_loadA (vs := [_, _, _]) Tryz.isAgg25 Tryz.sizeOf25 rfl (CellsAt.own (j := 0) (m := 3) (hS.at_ 0 rfl) rfl) rfl ?_
  refine op_call (vs := [_]) hS goes_43 rfl (heightA_ok (hs.below hS.below) hok) rfl ?_
  rintro e W3 ⟨rfl, hb⟩
  refine ⟨_, rfl, hb, fun hS' => ?_⟩
  clear hS; have hS := hS'; clear hS' hb
  refine op_assign rfl rfl ?_
  refine op_assign rfl rfl ?_
  refine endF ?_
  refine XF.thenN ?_
  refine retF ?_
  refine XF.res (res2 Tryz.results16 rfl rfl) ?_
  exact ⟨rfl, hS.below⟩

set_option maxRecDepth 100000 in
set_option maxHeartbeats 4000000 in
theorem HeightW_bad (ds : Nat) (s : SV) (w : World) (hs : SIn w ds s) (hse : spaceE s ≠ 0) :
    Calls Tryz.prog 16 #[s.f.val] w (fun e w' => e = .returned (.tuple #[.int .i64 0, .int .i64 (spaceE s)]) ∧ Below w.heap.size w w') := by
  refine enterF (args := [s.f.val]) Tryz.func16 rfl Tryz.ntmps16 rfl ?_
  have hS := St.start w
  refine seqF ?_
  refine regF ?_
  refine op_box (cs := [_, _, _]) hS rfl rfl rfl ?_
  clear hS; intro B1 W1 hS
  refine op_assign rfl rfl ?_
  refine op_assign rfl rfl ?_
  refine endF ?_
  refine XF.thenN ?_
  refine seqF ?_
  refine seqF ?_
  refine regF ?_
  refine op_loadA (vs := [_, _, _]) Tryz.isAgg25 Tryz.sizeOf25 rfl (CellsAt.own (j := 0) (m := 3) (hS.at_ 0 rfl) rfl) rfl ?_
  refine op_call (vs := [_]) hS goes_18 rfl (spaceA_is ds s _ _ (SIn.below hS.below hs) rfl) rfl ?_
  rintro e W2 ⟨rfl, hb⟩
  refine ⟨_, rfl, hb, fun hS' => ?_⟩
  clear hS; have hS := hS'; clear hS' hb
  refine op_assign rfl rfl ?_
  refine endF ?_
  refine XF.thenN ?_
  refine seqF ?_
  refine regF ?_
  refine op_move rfl rfl ?_
  refine op_neq rfl rfl rfl ?_
  refine endF ?_
  refine XF.thenN ?_
  refine condF rfl (fun hc => ?_) (fun hc => absurd (of_decide_eq_false hc) (by omega))
  have hc := of_decide_eq_true hc
  refine seqF ?_
  refine regF ?_
  refine op_move rfl rfl ?_
  refine op_assign rfl rfl ?_
  refine op_assign rfl rfl ?_
  refine endF ?_
  refine XF.thenN ?_
  refine retF ?_
  refine XF.thenR ?_
  refine XF.res (res2 Tryz.results16 rfl rfl) ?_
  exact ⟨rfl, hS.below⟩

set_option maxRecDepth 100000 in
set_option maxHeartbeats 4000000 in
theorem ZeroW_bad (ds : Nat) (s : SV) (w : World) (hs : SIn w ds s) (hse : spaceE s ≠ 0) :
    Calls Tryz.prog 14 #[s.f.val] w (fun e w' => e = .returned (.tuple #[.agg #[.bool false, .int .i64 0, .int .u64 0, .slice none 0 0, .slice none 0 0, .slice none 0 0], .int .i64 (spaceE s)]) ∧ Below w.heap.size w w') := by
  refine enterF (args := [s.f.val]) Tryz.func14 rfl Tryz.ntmps14 rfl ?_
  have hS := St.start w
  refine seqF ?_
  refine regF ?_
  refine op_box (cs := [_, _, _]) hS rfl rfl rfl ?_
  clear hS; intro B1 W1 hS
  refine op_alloc (cs := [_, _, _, _, _, _]) hS Tryz.zeroValue33 rfl rfl ?_
  clear hS; intro B2 W2 hS
  refine op_assign rfl rfl ?_
  refine endF ?_
  refine XF.thenN ?_
  refine seqF ?_
  refine seqF ?_
  refine regF ?_
  refine op_loadA (vs := [_, _, _]) Tryz.isAgg25 Tryz.sizeOf25 rfl (CellsAt.own (j := 0) (m := 3) (hS.at_ 1 rfl) rfl) rfl ?_
  refine op_call (vs := [_]) hS goes_18 rfl (spaceA_is ds s _ _ (SIn.below hS.below hs) rfl) rfl ?_
  rintro e W3 ⟨rfl, hb⟩
  refine ⟨_, rfl, hb, fun hS' => ?_⟩
  clear hS; have hS := hS'; clear hS' hb
  refine op_assign rfl rfl ?_
  refine endF ?_
  refine XF.thenN ?_
  refine seqF ?_
  refine regF ?_
  refine op_move rfl rfl ?_
  refine op_neq rfl rfl rfl ?_
  refine endF ?_
  refine XF.thenN ?_
  refine condF rfl (fun hc => ?_) (fun hc => absurd (of_decide_eq_false hc) (by omega))
  have hc := of_decide_eq_true hc
  refine seqF ?_
  refine regF ?_
  refine op_build (us := []) rfl (bld_33) rfl ?_
  refine op_move rfl rfl ?_
  refine op_storeA (i := 0) (vs := [_, _, _, _, _, _]) (cs' := [_, _, _, _, _, _]) (O' := [_, _]) hS Tryz.sizeOf33 rfl rfl rfl rfl rfl rfl rfl ?_
  clear hS; intro W4 hS
  refine op_assign rfl rfl ?_
  refine endF ?_
  refine XF.thenN ?_
  refine retF ?_
  refine XF.thenR ?_
  refine XF.res (resCT (vs := [_, _, _, _, _, _]) Tryz.results14 Tryz.isAgg33 Tryz.sizeOf33 rfl (CellsAt.own (j := 0) (m := 6) (hS.at_ 0 rfl) rfl) rfl) ?_
  exact ⟨rfl, hS.below⟩
end Go.Proofs.YtjcminoaiieckaaGreatDoor
namespace Go.Proofs.YtjcminoaiieckaaGreatDoor
open Go Go.RowKit
set_option linter.unusedVariables false
def Off (β : Option Nat) (w w' : World) : Prop := (w'.os = w.os ∧ w'.tape = w.tape ∧ w'.output = w.output) ∧ w.heap.size ≤ w'.heap.size ∧ ∀ b, b < w.heap.size → β ≠ some b → w'.heap[b]? = w.heap[b]?
section
variable {β : Option Nat} {w w' w'' W : World} {p : Asr} {v c : Value}
theorem Off.refl (β : Option Nat) (w : World) : Off β w w := ⟨⟨rfl, rfl, rfl⟩, Nat.le_refl _, fun _ _ _ => rfl⟩
theorem Off.trans (h : Off β w w') (k : Off β w' w'') : Off β w w'' := ⟨⟨k.1.1.trans h.1.1, k.1.2.1.trans h.1.2.1, k.1.2.2.trans h.1.2.2⟩, Nat.le_trans h.2.1 k.2.1, fun b hb hn => (k.2.2 b (Nat.lt_of_lt_of_le hb h.2.1) hn).trans (h.2.2 b hb hn)⟩
theorem off_of (h : Below w.heap.size w w') : Off β w w' := ⟨⟨h.os, h.tape, h.output⟩, h.size, fun b hb _ => h.block b hb⟩
def Aw (β : Option Nat) (p : Asr) : Asr := fun v w => ∀ w', Off β w w' → p v w'
theorem Aw.here (h : Aw β p v w) : p v w := h w (Off.refl _ _)
theorem Aw.stab (h : Aw β p v w) (hb : Below w.heap.size w w') : Aw β p v w' := fun w'' ho => h w'' ((off_of hb).trans ho)
theorem aw_isV : Aw β (isV c) c w := fun _ _ => rfl
theorem aw_alloc {o : Obj} (h : Aw none p v w) (hB : Below w.heap.size w (w.alloc o)) : Aw (some w.heap.size) p v (w.alloc o) := fun w'' ho =>
  h w'' ⟨⟨ho.1.1.trans hB.os, ho.1.2.1.trans hB.tape, ho.1.2.2.trans hB.output⟩, Nat.le_trans hB.size ho.2.1, fun b hb _ => (ho.2.2 b (Nat.lt_of_lt_of_le hb hB.size) (fun e => by have := Option.some.inj e; omega)).trans (hB.block b hb)⟩
def GB (W : World) (β : Option Nat) (w : World) : Prop := Below W.heap.size W w ∧ ∀ B, β = some B → W.heap.size ≤ B ∧ B < w.heap.size
abbrev IB (L : List Asr) (β : Option Nat) (i : Nat) (v : Value) (w : World) : Prop := Aw β (atI L i) v w
theorem GB.next (h : GB W β w) (hb : Below w.heap.size w w') : GB W β w' := ⟨h.1.trans (hb.mono h.1.size), fun B e => ⟨(h.2 B e).1, Nat.lt_of_lt_of_le (h.2 B e).2 hb.size⟩⟩
theorem off_below (h : GB W β w) (ho : Off β w w') : Below W.heap.size W w' :=
  ⟨ho.1.1.trans h.1.os, ho.1.2.1.trans h.1.tape, ho.1.2.2.trans h.1.output, Nat.le_trans h.1.size ho.2.1, fun b hb => (ho.2.2 b (Nat.lt_of_lt_of_le hb h.1.size) (fun e => by have := h.2 b e; omega)).trans (h.1.block b hb)⟩
def GivesN (p : Asr) (w : World) : Ending → World → Prop := fun e w' => ∃ v, e = .returned v ∧ (∀ w2, Agree w.heap.size w' w2 → p v w2) ∧ Below w.heap.size w w'
end
section
variable {P : Program} {n : Nat} {Q : Exit → Act → World → Prop} {l : Fr} {w0 W : World} {ops : Array Oper} {os : List Oper} {O : Own} {G : Grows} {K : List (Nat × World)} {L : List Asr} {i : Nat}
def RGA (P : Program) (n : Nat) (ops : Array Oper) (Q : Exit → Act → World → Prop) (l : Fr) (W : World) (L : List Asr) (i : Nat) : Prop := ∀ β a, Has n l a → RStep P ops Q a.tmps (GB W β) (IB L β) i
variable {d : Nat} {op : Op} {ty : TypeId} {pos : String} {aft : Array Edge} {v : Value} {gd : Option (Nat × Bool)}
theorem agV (li : Fr) (hi : ops[i]? = some ⟨some d, op, ty, pos, aft, gd⟩) (hw : Wants ops L i ⟨some d, op, ty, pos, aft, gd⟩) (hli : AllO n ops l L i li) (hr : ∀ w, Below W.heap.size W w → Runs P li ⟨some d, op, ty, pos, #[], none⟩ w v w) (hI : atI L i = isV v) : RGA P n ops Q l W L i :=
  fun β a ha => RStep.value hi fun b w hF hG hD => ⟨hw.yes (fun j d h => (hD j d h).here), v, w, by rw [execOp_guard b.eval _ _ _ _ pos _ #[] _ none]; exact hr w hG.1 b.eval (allO_has ha hF (fun j d h => (hD j d h).here) hli), by show Aw β (atI L i) v w; rw [hI]; exact aw_isV, hG, Below.refl _ _⟩
theorem agP (li : Fr) {p : Asr} (hi : ops[i]? = some ⟨some d, op, ty, pos, aft, gd⟩) (hw : Wants ops L i ⟨some d, op, ty, pos, aft, gd⟩) (hli : AllO n ops l L i li) (hr : ∀ w, Below W.heap.size W w → Runs P li ⟨some d, op, ty, pos, #[], none⟩ w v w) (hp : ∀ w, Below W.heap.size W w → p v w) (hI : atI L i = p) : RGA P n ops Q l W L i :=
  fun β a ha => RStep.value hi fun b w hF hG hD => ⟨hw.yes (fun j d h => (hD j d h).here), v, w, by rw [execOp_guard b.eval _ _ _ _ pos _ #[] _ none]; exact hr w hG.1 b.eval (allO_has ha hF (fun j d h => (hD j d h).here) hli), by show Aw β (atI L i) v w; rw [hI]; exact fun w' ho => hp w' (off_below hG ho), hG, Below.refl _ _⟩
theorem ag_call {f : FuncId} {xs : List Operand} {ts : Array TypeId} (ps : List Asr) (hi : ops[i]? = some ⟨some d, .call { callee := .value (.func f), args := xs.toArray, argTypes := ts }, ty, pos, aft, gd⟩) (hgo : goesIn P f = true)
    (hw : Wants ops L i ⟨some d, .call { callee := .value (.func f), args := xs.toArray, argTypes := ts }, ty, pos, aft, gd⟩) (hp : AllP n ops l L i xs ps)
    {p : Asr} (hc : ∀ vs w, Below W.heap.size W w → Holds ps vs w → Calls P f vs.toArray w (GivesN p w)) (hI : atI L i = p) : RGA P n ops Q l W L i :=
  fun β a ha => RStep.call hi fun b w hF hG hD => ⟨hw.yes (fun j d h => (hD j d h).here), f, xs.toArray.map b.eval, run_call P b.eval w f xs.toArray ts _ rfl rfl hgo, by
    have h1 := hc (xs.map b.eval) w hG.1 (allP_holds ha hF (fun j d h => (hD j d h).here) hp)
    rw [show (xs.map b.eval).toArray = xs.toArray.map b.eval by simp] at h1
    refine h1.mono ?_
    rintro e w' ⟨v, he, hv, hb⟩
    refine ⟨v, he, ?_, hG.next hb, hb⟩
    show Aw β (atI L i) v w'
    rw [hI]
    exact fun w2 ho => hv w2 ⟨ho.2.1, fun b h1 h2 => ho.2.2 b h2 (fun e => by have := hG.2 b e; omega)⟩⟩
theorem ag_row {T e : TypeId} {m s : Nat} {xs : List (Nat × Operand)} {z : Value} (ps : List Asr) (hi : ops[i]? = some ⟨some d, .buildSlice T m xs.toArray, ty, pos, aft, gd⟩) (hw : Wants ops L i ⟨some d, .buildSlice T m xs.toArray, ty, pos, aft, gd⟩)
    (hU : P.underlying T = some (.slice e)) (hs : ∀ w, (sizeOf e).run P w = .ok s w) (hz : ∀ w, (zeroValue e).run P w = .ok z w) (hm : Nat.ble (m * s) 16777216 = true) (hm0 : Nat.beq (m * s) 0 = false) (hp : AllP n ops l L i (xs.map (·.2)) ps)
    (hf : ∀ β vs w, Below W.heap.size W w → (∀ w', Off β w w' → Holds ps vs w') → ∃ cs : List Value, Instr.fill (fun i => some (i * s, s)) ((Array.range (m * s)).map (z.cells[· % z.cells.size]!)) ((xs.map (·.1)).zip vs) = some cs.toArray ∧
      ∀ B w', w.heap.size = B → w'.heap[B]? = some (.cells cs.toArray e (0, 0)) → Off β w w' → atI L i (.slice (some ⟨B, 0, none⟩) m m) w') : RGA P n ops Q l W L i :=
  fun β a ha => RStep.value hi fun b w hF hG hD => by
    obtain ⟨cs, h1, h2⟩ := hf β _ w hG.1 (fun w' ho => allP_holds (w := w') ha hF (fun j d h => hD j d h w' ho) hp)
    have h4 : m * s ≤ 16777216 := Nat.le_of_ble_eq_true hm
    have h5 : m * s ≠ 0 := fun e => by rw [e] at hm0; cases hm0
    have h6 : ¬ (m * s > 2 ^ 24) := by omega
    have h7 : ((xs.map (·.1)).zip ((xs.map (·.2)).map b.eval)) = xs.map (fun p => (p.1, b.eval p.2)) := by
      clear hi hw hp h1 hf h2
      induction xs with
      | nil => rfl
      | cons x xs ih => simp only [List.map_cons, List.zip_cons_cons, ih]
    rw [h7] at h1
    have hB : Below w.heap.size w (w.alloc (.cells cs.toArray e)) := (Below.refl _ _).alloc (Nat.le_refl _) _
    refine ⟨hw.yes (fun j d h => (hD j d h).here), .slice (some ⟨w.heap.size, 0, none⟩) m m, w.alloc (.cells cs.toArray e), ?_, ?_, hG.next hB, hB⟩
    · unfold execOp
      simp only []
      rw [show (Array.map (fun p => (p.1, b.eval p.2)) xs.toArray) = (xs.map (fun p => (p.1, b.eval p.2))).toArray by simp]
      simp only [Instr.buildSlice, Sem.run_bind, run_underlying hU, Result.andThen_ok, hs, if_neg h6, if_neg h5, hz, Sem.run_pure, h1, newRow, run_newObj_alloc]
    · intro w' ho
      refine h2 _ _ rfl ?_ ((off_of hB).trans ho)
      have h8 := ho.2.2 w.heap.size (by have := heap_alloc_new w (.cells cs.toArray e); exact lt_of_heap this) (fun e => by have := hG.2 _ e; omega)
      rw [h8]; exact heap_alloc_new w _
theorem region_lastE {k p : Nat} {t0 : Array Value} {d0 : List Deferred} {G : World → Prop} {I : Nat → Value → World → Prop} (hl : lastR ops k = true) (ht : tidyR ops t0.size = true) (hst : ∀ i v w w', G w → I i v w → Below w.heap.size w w' → I i v w')
    (hstep : ∀ i, i < k → i ≠ p → RStep P ops Q t0 G I i) (hfin : RFin ops t0 d0 G I k (wpOp P ops Q k (Q .normal))) :
    ∀ (fuel : Nat) (L : Array Bool) (a : Act) (w : World), L.size = ops.size → L.getD k true = false → L.getD p false = true → L.toList.count false ≤ fuel → RInv ops t0 d0 G I L a w → wpAny P .any ops Q fuel L a w := by
  simp only [lastR, Bool.and_eq_true, decide_eq_true_eq] at hl
  obtain ⟨hk, hl⟩ := hl
  have cnt : ∀ (L : Array Bool) i, L.getD i true = false → L.toList[i]? = some false := fun L i h1 => by
    rw [Array.getD_eq_getD_getElem?] at h1
    rw [Array.getElem?_toList]
    cases hL : L[i]? with
    | none => rw [hL] at h1; cases h1
    | some b => rw [hL] at h1; simpa using h1
  intro fuel
  induction fuel with
  | zero =>
    intro L a w hs hlk hlp hc h
    have := cnt_set _ _ (cnt L k hlk)
    omega
  | succ fuel ih =>
    intro L a w hs hlk hlp hc h
    refine ⟨fun hr => ?_, fun i hi => ?_⟩
    · rw [ready_nil ht hs hr k (by omega)] at hlk
      cases hlk
    · obtain ⟨h1, o, ho, hdep⟩ := mem_ready.1 hi
      have his : i < ops.size := (Array.getElem?_eq_some_iff.1 ho).1
      have hc1 := cnt_set _ _ (cnt L i h1)
      have hip : i ≠ p := by
        rintro rfl
        have h2 := cnt L i h1
        rw [Array.getElem?_toList] at h2
        rw [Array.getD_eq_getD_getElem?, h2] at hlp
        cases hlp
      by_cases hik : i = k
      · subst hik
        simp only [ho] at hl
        have hall : ∀ j, j < i → L.getD j false = true := fun j hj => by
          have := List.all_eq_true.1 hl j (List.mem_range.2 hj)
          obtain ⟨e, he, h2⟩ := Array.any_eq_true'.1 this
          simp only [Bool.and_eq_true, beq_iff_eq] at h2
          have := hdep e he h2.2
          rw [h2.1] at this
          exact this
        refine wpOp_mono ?_ (hfin a w h.size h.defers h.frame h.glob fun j d hj hd => h.done j d hd (hall j hj))
        intro a' w' hq
        have hnil : Region.ready .any ops (L.setIfInBounds i true) = [] := by
          cases hr : Region.ready .any ops (L.setIfInBounds i true) with
          | nil => rfl
          | cons j rest =>
            have hj : j ∈ Region.ready .any ops (L.setIfInBounds i true) := by rw [hr]; exact List.mem_cons_self
            obtain ⟨h5, o', ho', _⟩ := mem_ready.1 hj
            have hjs : j < ops.size := (Array.getElem?_eq_some_iff.1 ho').1
            by_cases hji : j = i
            · subst hji
              rw [Array.getD_eq_getD_getElem?, Array.getElem?_eq_getElem (by simpa using (by omega : j < L.size))] at h5
              simp at h5
            · rw [getD_set_ne true (Ne.symm hji)] at h5
              have h6 := hall j (by omega)
              rw [Array.getD_eq_getD_getElem?] at h5 h6
              rw [Array.getElem?_eq_getElem (by omega)] at h5 h6
              simp at h5 h6
              rw [h5] at h6
              cases h6
        cases fuel with
        | zero => exact ⟨hnil, hq⟩
        | succ fuel => exact ⟨fun _ => hq, by rw [hnil]; simp⟩
      · refine wpOp_mono ?_ (hstep i (by omega) hip a w h.frameE h.glob (h.deps hi))
        rintro a' w' ⟨⟨v, rfl, hI⟩, hG, hB⟩
        refine ih _ _ _ (by simpa using hs) (by rw [getD_set_ne true hik]; exact hlk) (by rw [getD_set_ne false hip]; exact hlp) ?_ (h.next ht h1 hst hI hG hB)
        rw [Array.toList_setIfInBounds]
        omega
def G2 (W : World) (B : Nat) (cs : List Value) (T : TypeId) (w : World) : Prop := GB W (some B) w ∧ w.heap[B]? = some (.cells cs.toArray T (0, 0))
def I2 (L : List Asr) (p B : Nat) (i : Nat) (v : Value) (w : World) : Prop := Aw (some B) (atI L i) v w ∧ (i = p → v = .pointer (some ⟨B, 0, none⟩))
theorem region_alloc {k p dp : Nat} {t0 : Array Value} {d0 : List Deferred} {T : TypeId} {z : Value} {cs : List Value} (hl : lastR ops k = true) (ht : tidyR ops t0.size = true) (hst : StabL L) (hpk : p < k) (hp : ops[p]? = some ⟨some dp, .alloc T, ty, pos, aft, none⟩)
    (hz : ∀ w, (zeroValue T).run P w = .ok z w) (hcs : z.cells = cs.toArray) (hLp : atI L p = fun _ _ => True)
    (hstep : ∀ β i, i < k → i ≠ p → RStep P ops Q t0 (GB W β) (IB L β) i) (hfin : ∀ B, RFin ops t0 d0 (G2 W B cs T) (I2 L p B) k (wpOp P ops Q k (Q .normal))) :
    ∀ (fuel : Nat) (LB : Array Bool) (a : Act) (w : World), LB.size = ops.size → LB.getD k true = false → LB.toList.count false ≤ fuel → LB.getD p true = false → RInv ops t0 d0 (GB W none) (IB L none) LB a w → wpAny P .any ops Q fuel LB a w := by
  have hl0 := hl
  simp only [lastR, Bool.and_eq_true, decide_eq_true_eq] at hl
  obtain ⟨hk, hl⟩ := hl
  have cnt : ∀ (L : Array Bool) i, L.getD i true = false → L.toList[i]? = some false := fun L i h1 => by
    rw [Array.getD_eq_getD_getElem?] at h1
    rw [Array.getElem?_toList]
    cases hL : L[i]? with
    | none => rw [hL] at h1; cases h1
    | some b => rw [hL] at h1; simpa using h1
  intro fuel
  induction fuel with
  | zero =>
    intro LB a w hs hlk hc hlp h
    have := cnt_set _ _ (cnt LB k hlk)
    omega
  | succ fuel ih =>
    intro LB a w hs hlk hc hlp h
    refine ⟨fun hr => ?_, fun i hi => ?_⟩
    · rw [ready_nil ht hs hr k (by omega)] at hlk
      cases hlk
    · obtain ⟨h1, o, ho, hdep⟩ := mem_ready.1 hi
      have his : i < ops.size := (Array.getElem?_eq_some_iff.1 ho).1
      have hc1 := cnt_set _ _ (cnt LB i h1)
      by_cases hik : i = k
      · subst hik
        simp only [ho] at hl
        have := List.all_eq_true.1 hl p (List.mem_range.2 hpk)
        obtain ⟨e, he, h2⟩ := Array.any_eq_true'.1 this
        simp only [Bool.and_eq_true, beq_iff_eq] at h2
        have h3 := hdep e he h2.2
        rw [h2.1] at h3
        have h4 := cnt LB p hlp
        rw [Array.getElem?_toList] at h4
        rw [Array.getD_eq_getD_getElem?, h4] at h3
        cases h3
      · by_cases hip : i = p
        · subst hip
          rw [hp] at ho
          have ho' := (Option.some.inj ho).symm
          have hB : Below w.heap.size w (w.alloc (.cells cs.toArray T)) := (Below.refl _ _).alloc (Nat.le_refl _) _
          have hnew := heap_alloc_new w (.cells cs.toArray T)
          have step : wpOp P ops Q i (fun a' w' => a' = a.put (some dp) (.pointer (some ⟨w.heap.size, 0, none⟩)) ∧ w' = w.alloc (.cells cs.toArray T)) a w := by
            unfold wpOp
            simp only [hp, wanted_free (o := ⟨some dp, .alloc T, ty, pos, aft, none⟩) rfl, if_true]
            refine .inl ?_
            unfold Oper.wp
            have e : (execOp a.eval ⟨some dp, .alloc T, ty, pos, aft, none⟩).run P w = .ok (.value (.pointer (some ⟨w.heap.size, 0, none⟩))) (w.alloc (.cells cs.toArray T)) := by
              unfold execOp; simp only []; simp [Instr.alloc, newVar, newRow, hz, hcs]
            rw [e]
            exact ⟨rfl, rfl⟩
          refine wpOp_mono ?_ step
          rintro a' w' ⟨rfl, rfl⟩
          have hdst : (ops[i]?).bind (·.dst) = some dp := by rw [hp]; rfl
          refine region_lastE (t0 := t0) (d0 := d0) (p := i) (G := G2 W w.heap.size cs T) (I := I2 L i w.heap.size) hl0 ht ?_ ?_ (hfin _) fuel _ _ _ (by simpa using hs) (by rw [getD_set_ne true hik]; exact hlk) ?_ ?_ ?_
          · rintro j v w1 w2 _ ⟨h5, h6⟩ hb
            exact ⟨h5.stab hb, h6⟩
          · intro j hj hji b w1 hF hG hD
            refine wpOp_mono ?_ (hstep (some w.heap.size) j hj hji b w1 hF hG.1 (fun m d hm => (hD m d hm).1))
            rintro a2 w2 ⟨⟨v, hv, h5⟩, h6, h7⟩
            exact ⟨⟨v, hv, fun d hd => ⟨h5 d hd, fun e => absurd e hji⟩⟩, ⟨h6, (h7.block _ (hG.1.2 _ rfl).2).trans hG.2⟩, h7⟩
          · rw [Array.getD_eq_getD_getElem?, Array.getElem?_setIfInBounds_self_of_lt (by omega)]; rfl
          · rw [Array.toList_setIfInBounds]; omega
          · refine ⟨by rw [put_size]; exact h.size, by rw [put_defers]; exact h.defers, fun t hf => ?_, ⟨⟨h.glob.1.trans (hB.mono h.glob.1.size), fun B e => ?_⟩, hnew⟩, fun j d hd hj => ?_⟩
            · rw [put_other ?_]
              · exact h.frame t hf
              · intro e
                have := Array.all_eq_true'.1 hf _ (Array.mem_of_getElem? hp)
                simp at this
                exact this (Option.some.inj e)
            · cases e
              exact ⟨h.glob.1.size, lt_of_heap hnew⟩
            · by_cases hji : j = i
              · subst hji
                rw [hdst] at hd
                rw [put_at hd (by rw [h.size]; exact (tidy_dst ht (hdst.trans hd)).1)]
                exact ⟨by rw [hLp]; exact fun _ _ => trivial, fun _ => rfl⟩
              · rw [getD_set_ne false (Ne.symm hji)] at hj
                rw [put_other (fun e => hji ((tidy_dst ht (hdst.trans e)).2 j hd))]
                exact ⟨aw_alloc (h.done j d hd hj) hB, fun e => absurd e hji⟩
        · refine wpOp_mono ?_ (hstep none i (by omega) hip a w h.frameE h.glob (h.deps hi))
          rintro a' w' ⟨⟨v, rfl, hI⟩, hG, hB⟩
          refine ih _ _ _ (by simpa using hs) (by rw [getD_set_ne true hik]; exact hlk) ?_ (by rw [getD_set_ne true hip]; exact hlp) (h.next ht h1 (fun i v w w' _ h hb => Aw.stab h hb) hI hG hB)
          rw [Array.toList_setIfInBounds]
          omega
def awL (B p : Nat) : Nat → List Asr → List Asr
  | _, [] => []
  | j, q :: L => (bif Nat.beq j p then isV (.pointer (some ⟨B, 0, none⟩)) else Aw (some B) q) :: awL B p (j + 1) L
theorem atI_awL {B p : Nat} : ∀ (L : List Asr) (j i : Nat), i < L.length → atI (awL B p j L) i = if i + j = p then isV (.pointer (some ⟨B, 0, none⟩)) else Aw (some B) (atI L i)
  | [], j, i, h => by simp at h
  | q :: L, j, 0, h => by
    show (bif Nat.beq j p then isV (.pointer (some ⟨B, 0, none⟩)) else Aw (some B) q) = _
    cases hb : Nat.beq j p with
    | true => rw [if_pos (by rw [Nat.zero_add]; exact Nat.eq_of_beq_eq_true hb)]; rfl
    | false => rw [if_neg (by rw [Nat.zero_add]; intro e; rw [e, Nat.beq_refl] at hb; cases hb)]; rfl
  | q :: L, j, i + 1, h => by
    show atI (awL B p (j + 1) L) i = _
    rw [atI_awL L (j + 1) i (by simpa using h)]
    by_cases h1 : i + (j + 1) = p
    · rw [if_pos h1, if_pos (by omega)]
    · rw [if_neg h1, if_neg (by omega)]; rfl
theorem St.newO {W' A1 : World} {B : Nat} {cs : List Value} {T : TypeId} (h : St w0 O G K W) (hb : Below W.heap.size W W') (hB : W.heap.size ≤ B) (hc : W'.heap[B]? = some (.cells cs.toArray T (0, 0))) (hA : A1.heap.size = B) (hA1 : Agree W.heap.size A1 W') :
    St w0 ((B, cs, T) :: O) G ((W.heap.size, A1) :: (B + 1, W') :: K) W' := by
  have h2 := h.grow hb
  have hlt : ∀ p ∈ O, p.1 < W.heap.size := fun p hp => lt_of_heap (h.own p hp).2
  refine ⟨h2.below, fun p hp => ?_, List.pairwise_cons.2 ⟨fun p hp => ?_, h2.dist⟩, fun q hq => ?_, fun g hg => ⟨(h2.rows g hg).1, fun b hbo => ?_⟩, h2.gdist⟩
  · rcases List.mem_cons.1 hp with rfl | hp
    · exact ⟨Nat.le_trans h.below.size hB, hc⟩
    · exact h2.own p hp
  · have := hlt p hp
    show B ≠ p.1
    omega
  · rcases List.mem_cons.1 hq with rfl | hq
    · refine ⟨hA1, fun p hp => ?_⟩
      rcases List.mem_cons.1 hp with rfl | hp
      · exact .inr (by show A1.heap.size ≤ B; omega)
      · exact .inl (hlt p hp)
    · rcases List.mem_cons.1 hq with rfl | hq
      · refine ⟨Agree.refl _ _, fun p hp => .inl ?_⟩
        rcases List.mem_cons.1 hp with rfl | hp
        · show B < B + 1; omega
        · have := hlt p hp; show p.1 < B + 1; omega
      · refine ⟨(h2.kept q hq).1, fun p hp => ?_⟩
        rcases List.mem_cons.1 hp with rfl | hp
        · exact .inr (Nat.le_trans (h.kept q hq).1.1 hB)
        · exact (h2.kept q hq).2 p hp
  · have hbl := (h.glt hg hbo).2
    refine ⟨fun p hp => ?_, fun q hq => ?_⟩
    · rcases List.mem_cons.1 hp with rfl | hp
      · show B ≠ b; omega
      · exact ((h2.rows g hg).2 b hbo).1 p hp
    · rcases List.mem_cons.1 hq with rfl | hq
      · exact .inl hbl
      · rcases List.mem_cons.1 hq with rfl | hq
        · exact .inl (by show b < B + 1; omega)
        · exact ((h2.rows g hg).2 b hbo).2 q hq
theorem cut_world (W' : World) {B lo : Nat} (hB : B ≤ W'.heap.size) : ∃ A1 : World, A1.heap.size = B ∧ Agree lo A1 W' := by
  refine ⟨{ W' with heap := W'.heap.extract 0 B }, by simp; omega, by simp; omega, fun b _ hb => ?_⟩
  have hb' : b < (W'.heap.extract 0 B).size := hb
  simp at hb'
  show W'.heap[b]? = (W'.heap.extract 0 B)[b]?
  rw [Array.getElem?_extract, if_pos (by omega), Nat.zero_add]
def AgreeX (lo B : Nat) (A W : World) : Prop := A.heap.size ≤ W.heap.size ∧ ∀ b, lo ≤ b → b < A.heap.size → b ≠ B → W.heap[b]? = A.heap[b]?
theorem agreeX_of {lo B : Nat} {A1 A : World} (hA : A1.heap.size = B) (h3 : Agree lo A1 A) (h1 : Agree lo A1 W) (h2 : Agree (B + 1) A W) : AgreeX lo B A W :=
  ⟨h2.1, fun b hlo hb hne => by
    rcases Nat.lt_or_ge b B with h | h
    · exact (h1.2 b hlo (by omega)).trans (h3.2 b hlo (by omega)).symm
    · exact h2.2 b (by omega) hb⟩
theorem Aw.mid {lo B : Nat} {A : World} {p : Asr} {v : Value} (h : Aw (some B) p v A) (hlo : lo ≤ A.heap.size) (hx : AgreeX lo B A W) : ∃ w', p v w' ∧ Agree lo w' W := by
  have hs : lo ≤ W.heap.size := Nat.le_trans hlo hx.1
  have hsz : (A.heap.extract 0 lo ++ W.heap.extract lo W.heap.size).size = W.heap.size := by simp; omega
  have hat : ∀ b, (A.heap.extract 0 lo ++ W.heap.extract lo W.heap.size)[b]? = if b < lo then A.heap[b]? else W.heap[b]? := fun b => by
    have e : (A.heap.extract 0 lo).size = lo := by simp; omega
    rw [Array.getElem?_append, e]
    by_cases hb : b < lo
    · rw [if_pos hb, if_pos hb, Array.getElem?_extract, if_pos (by omega), Nat.zero_add]
    · rw [if_neg hb, if_neg hb, Array.getElem?_extract]
      by_cases hb2 : b < W.heap.size
      · rw [if_pos (by omega), show lo + (b - lo) = b by omega]
      · rw [if_neg (by omega), Array.getElem?_eq_none (by omega)]
  refine ⟨{ A with heap := A.heap.extract 0 lo ++ W.heap.extract lo W.heap.size }, h _ ⟨⟨rfl, rfl, rfl⟩, ?_, fun b hb hne => ?_⟩, ?_, fun b h1 h2 => ?_⟩
  · show A.heap.size ≤ (A.heap.extract 0 lo ++ W.heap.extract lo W.heap.size).size
    rw [hsz]; exact hx.1
  · show (A.heap.extract 0 lo ++ W.heap.extract lo W.heap.size)[b]? = _
    rw [hat]
    by_cases hb2 : b < lo
    · rw [if_pos hb2]
    · rw [if_neg hb2]; exact hx.2 b (by omega) hb (fun e => hne (by rw [e]))
  · show (A.heap.extract 0 lo ++ W.heap.extract lo W.heap.size).size ≤ _
    rw [hsz]; exact Nat.le_refl _
  · show W.heap[b]? = (A.heap.extract 0 lo ++ W.heap.extract lo W.heap.size)[b]?
    rw [hat, if_neg (by omega)]
theorem regDA {id p dp : Nat} {o : Oper} {T : TypeId} {z : Value} {cs : List Value} {aft0 : Array Edge} (hm : P.follows .mixedOrders = true) (L : List Asr) (hS : St w0 O G K W) (hL : L.length = os.length) (hl : lastR (os ++ [o]).toArray os.length = true) (ht : tidyR (os ++ [o]).toArray n = true) (hdst : os.all (fun o => o.dst.isSome) = true) (hfree : ∀ d, o.dst = some d → look l d = none)
    (hpk : p < os.length) (hp : (os ++ [o]).toArray[p]? = some ⟨some dp, .alloc T, ty, pos, aft0, none⟩) (hz : ∀ w, (zeroValue T).run P w = .ok z w) (hcs : z.cells = cs.toArray) (hLp : atI L p = fun _ _ => True)
    (hstep : ∀ i, i < os.length → i ≠ p → RGA P n (os ++ [o]).toArray Q l W L i) (hst : StabL L)
    (hfin : ∀ B A1 W', Below W.heap.size W W' → A1.heap.size = B → Agree W.heap.size A1 W' → W.heap.size ≤ B → B < W'.heap.size → St w0 ((B, cs, T) :: O) G ((W.heap.size, A1) :: (B + 1, W') :: K) W' → FinI os (awL B p 0 L) l (fun l' W' => OpsF P n (os ++ [o]).toArray Q [o] l' W') W') : CodeF P n (.region id (os ++ [o]).toArray true) Q l W := fun a ha => by
  refine wp_region_any hm (region_alloc (W := W) (t0 := a.tmps) (d0 := a.defers) (cs := cs) hl (by rw [ha.size]; exact ht) hst hpk hp hz hcs hLp (fun β i hi hip => hstep i hi hip β a ha) ?_ _ _ _ _ (by simp) ?_ (count_rep _) ?_ (inv_zero ⟨(Below.refl _ _).drew, fun B e => by cases e⟩))
  · intro B a' W' hs hd hf hG hI
    have hk : ((os ++ [o]).toArray)[os.length]? = some o := by simp
    obtain ⟨A1, hA, hA1⟩ := cut_world W' (B := B) (lo := W.heap.size) (Nat.le_of_lt (hG.1.2 B rfl).2)
    refine fin_has os (awL B p 0 L) l (fun i d hi hd' => ?_) (hs.trans ha.size) (hd.trans ha.defers) ?_ (fun o ho => ?_) (fun l' h ha' => ?_) (hfin B A1 W' hG.1.1 hA hA1 (hG.1.2 B rfl).1 (hG.1.2 B rfl).2 (hS.newO hG.1.1 (hG.1.2 B rfl).1 hG.2 hA hA1))
    · have h1 := hI i d hi (by simp [List.getElem?_append_left hi]; simpa using hd')
      rw [atI_awL L 0 i (by omega)]
      by_cases hip : i + 0 = p
      · rw [if_pos hip]; exact h1.2 hip
      · rw [if_neg hip]; exact h1.1
    · intro t v hv hno
      rw [hf t (by
        unfold freeT; rw [Array.all_eq_true']; intro o' ho'
        have : o' ∈ os ++ [o] := by simpa using ho'
        rcases List.mem_append.1 this with h1 | h1
        · simpa using hno o' h1
        · simp only [List.mem_singleton] at h1
          subst h1
          cases hx : o'.dst with
          | none => simp
          | some d => simp; intro e; subst e; rw [hfree d hx] at hv; cases hv)]
      exact ha.at_ t v hv
    · have := List.all_eq_true.1 hdst o ho
      exact Option.isSome_iff_exists.1 this
    · have h1 := h a' ha'
      unfold wpOp
      rw [hk]
      exact h1
  · rw [Array.getD_eq_getD_getElem?, Array.getElem?_replicate, if_pos (by simp)]; rfl
  · rw [Array.getD_eq_getD_getElem?, Array.getElem?_replicate, if_pos (by simp; omega)]; rfl
theorem RGA.ext {L1 L2 : List Asr} (ht : tidyR ops n = true) (hag : ∀ j, j ≤ i → atI L1 j = atI L2 j) (h : RGA P n ops Q l W L1 i) : RGA P n ops Q l W L2 i := fun β a ha => by
  have h1 := h β a ha
  intro b w hF hG hD
  have hlt : ∀ j d, waitsFor ops i j d = true → j < i := fun j d hw => by
    cases ho : ops[i]? with
    | none => simp [waitsFor, ho] at hw
    | some o =>
      simp only [waitsFor, ho, Bool.and_eq_true, beq_iff_eq] at hw
      obtain ⟨e, he, h2⟩ := Array.any_eq_true'.1 hw.1
      simp only [Bool.and_eq_true, beq_iff_eq] at h2
      rw [← h2.1]; exact tidy_after ht ho e he h2.2
  have h2 := h1 b w hF hG (fun j d hw => by unfold IB; rw [hag j (Nat.le_of_lt (hlt j d hw))]; exact hD j d hw)
  unfold IB at h2
  rw [hag i (Nat.le_refl _)] at h2
  exact h2
def anyA : Asr := fun _ _ => True
theorem stab_anyA : Stab anyA := fun _ _ _ _ _ => trivial
def BLA (P : Program) (n : Nat) (ops : Array Oper) (Q : Exit → Act → World → Prop) (l : Fr) (W : World) (p : Nat) (Goal : List Asr → Prop) : Nat → List Asr → Nat → Prop
  | 0, Lr, _ => Goal Lr
  | m + 1, Lr, k => ∃ q, Stab q ∧ ((k = p ∧ q = anyA) ∨ (k ≠ p ∧ RGA P n ops Q l W (q :: Lr).reverse k)) ∧ BLA P n ops Q l W p Goal m (q :: Lr) (k + 1)
variable {Goal : List Asr → Prop}
theorem bla_nil {Lr : List Asr} {k p : Nat} (h : Goal Lr) : BLA P n ops Q l W p Goal 0 Lr k := h
theorem bla_cons {m k p : Nat} {Lr : List Asr} (k' : Nat) (hk : k + 1 = k') (hne : Nat.beq k p = false) (q : Asr) (hs : Stab q) (h : RGA P n ops Q l W (q :: Lr).reverse k) (hr : BLA P n ops Q l W p Goal m (q :: Lr) k') : BLA P n ops Q l W p Goal (m + 1) Lr k := by
  subst hk; exact ⟨q, hs, .inr ⟨fun e => absurd hne (by rw [e, Nat.beq_refl]; decide), h⟩, hr⟩
theorem bla_alloc {m k p : Nat} {Lr : List Asr} (k' : Nat) (hk : k + 1 = k') (hp : k = p) (hr : BLA P n ops Q l W p Goal m (anyA :: Lr) k') : BLA P n ops Q l W p Goal (m + 1) Lr k := by
  subst hk; exact ⟨anyA, stab_anyA, .inl ⟨hp, rfl⟩, hr⟩
theorem bla_run (p : Nat) (ht : tidyR ops n = true) : ∀ (m k : Nat) (Lr : List Asr), Lr.length = k → (∀ q ∈ Lr, Stab q) → (∀ i, i < k → (i = p ∧ atI Lr.reverse i = anyA) ∨ (i ≠ p ∧ RGA P n ops Q l W Lr.reverse i)) → BLA P n ops Q l W p Goal m Lr k →
    ∃ Lr', Lr'.length = k + m ∧ (∀ q ∈ Lr', Stab q) ∧ (∀ i, i < k + m → (i = p ∧ atI Lr'.reverse i = anyA) ∨ (i ≠ p ∧ RGA P n ops Q l W Lr'.reverse i)) ∧ Goal Lr'
  | 0, k, Lr, hl, hs, hg, h => ⟨Lr, hl, hs, hg, h⟩
  | m + 1, k, Lr, hl, hs, hg, ⟨q, hp, hr, hn⟩ => by
    obtain ⟨L', h1, h2, h3, h4⟩ := bla_run p ht m (k + 1) (q :: Lr) (by simp [hl]) (fun r hq => by
      rcases List.mem_cons.1 hq with rfl | hq
      · exact hp
      · exact hs r hq) (fun i hi => by
      by_cases hik : i = k
      · subst hik
        rcases hr with ⟨e1, e2⟩ | hr
        · exact .inl ⟨e1, by rw [at_top hl]; exact e2⟩
        · exact .inr hr
      · have hap : ∀ j, j ≤ i → atI Lr.reverse j = atI (q :: Lr).reverse j := fun j hj => by rw [List.reverse_cons, atI_append (by simp; omega)]
        rcases hg i (by omega) with ⟨e1, e2⟩ | hg
        · exact .inl ⟨e1, by rw [← hap i (Nat.le_refl _)]; exact e2⟩
        · exact .inr ⟨hg.1, RGA.ext ht hap hg.2⟩) hn
    exact ⟨L', by omega, h2, fun i hi => h3 i (by omega), h4⟩
theorem regBA {id dp : Nat} {o : Oper} {T : TypeId} {z : Value} {cs : List Value} {aft0 : Array Edge} (hm : P.follows .mixedOrders = true) (k p : Nat) (hS : St w0 O G K W) (hk : os[k]? = some o) (hp : os[p]? = some ⟨some dp, .alloc T, ty, pos, aft0, none⟩) (hlen : os.length = k + 1) (hpk : Nat.blt p k = true) (hz : ∀ w, (zeroValue T).run P w = .ok z w) (hcs : z.cells = cs.toArray)
    (hl : lastR os.toArray k = true) (ht : tidyR os.toArray n = true) (hdst : (os.take k).all (fun o => o.dst.isSome) = true) (hfree : ∀ d, o.dst = some d → look l d = none)
    (h : BLA P n os.toArray Q l W p (fun Lr => ∀ B A1 W', Below W.heap.size W W' → A1.heap.size = B → Agree W.heap.size A1 W' → W.heap.size ≤ B → B < W'.heap.size → St w0 ((B, cs, T) :: O) G ((W.heap.size, A1) :: (B + 1, W') :: K) W' → FinI (os.take k) (awL B p 0 Lr.reverse) l (fun l' W' => OpsF P n os.toArray Q [o] l' W') W') k [] 0) : CodeF P n (.region id os.toArray true) Q l W := by
  obtain ⟨Lr, h1, h2, h3, h4⟩ := bla_run p ht k 0 [] rfl (fun p hp => by cases hp) (fun i hi => by omega) h
  have hpk' : p < k := Nat.lt_of_lt_of_le (Nat.lt_succ_self _) (Nat.le_of_ble_eq_true hpk)
  have e : os = os.take k ++ [o] := by
    apply List.ext_getElem?
    intro j
    by_cases hj : j < k
    · rw [List.getElem?_append_left (by simp; omega), List.getElem?_take, if_pos hj]
    · by_cases hj2 : j = k
      · subst hj2; rw [List.getElem?_append_right (by simp; omega), hk]; simp [show min j os.length = j by omega]
      · rw [List.getElem?_eq_none (by omega), List.getElem?_eq_none (by simp; omega)]
  have hkl : (os.take k).length = k := by simp; omega
  generalize hg : os.take k = os1 at *
  subst hkl
  subst e
  rw [Nat.zero_add] at h1 h3
  have hLp : atI Lr.reverse p = anyA := by
    rcases h3 p hpk' with h5 | h5
    · exact h5.2
    · exact absurd rfl h5.1
  refine regDA hm Lr.reverse hS (by simp [h1]) hl ht hdst hfree hpk' (by simpa using hp) hz hcs hLp (fun i hi hip => ?_) (stabL_of fun q hq => h2 q (List.mem_reverse.1 hq)) h4
  rcases h3 i hi with h5 | h5
  · exact absurd h5.1 hip
  · exact h5.2
theorem fin_av {B : Nat} {c : Value} {K : Fr → World → Prop} {dst : Nat} {op : Op} {ty : TypeId} {pos : String} {aft : Array Edge} {g : Option (Nat × Bool)} (h : FinI os L ((dst, c) :: l) K W) : FinI (⟨some dst, op, ty, pos, aft, g⟩ :: os) (Aw (some B) (isV c) :: L) l K W := fun v hv => by
  have : v = c := Aw.here (β := some B) (p := isV c) hv
  subst this; exact h
theorem St.mark (h : St w0 O G K W) (lo : Nat) (hO : ∀ p ∈ O, p.1 < lo) (hG : G = []) : St w0 O G ((lo, W) :: K) W := by
  subst hG
  exact ⟨h.below, h.own, h.dist, fun q hq => by
    rcases List.mem_cons.1 hq with rfl | hq
    · exact ⟨Agree.refl _ _, fun p hp => .inl (hO p hp)⟩
    · exact h.kept q hq, fun g hg => absurd hg List.not_mem_nil, h.gdist⟩
theorem St.own_lt (h : St w0 O G K W) : ∀ p ∈ O, p.1 < W.heap.size := fun p hp => lt_of_heap (h.own p hp).2
end
end Go.Proofs.YtjcminoaiieckaaGreatDoor
namespace Go.Proofs.YtjcminoaiieckaaGreatDoor
open Go Go.RowKit
set_option linter.unusedVariables false
theorem arms3 (p q : Prop) : ¬ p ∨ (p ∧ ¬ q) ∨ (p ∧ q) := by
  by_cases h : p
  · by_cases h2 : q
    · exact .inr (.inr ⟨h, h2⟩)
    · exact .inr (.inl ⟨h, h2⟩)
  · exact .inl h
theorem two_lt {p q : Nat × List Value × TypeId} {lo : Nat} (h1 : p.1 < lo) (h2 : q.1 < lo) : ∀ r ∈ [p, q], r.1 < lo := fun r hr => by
  simp only [List.mem_cons, List.not_mem_nil, or_false] at hr
  rcases hr with rfl | rfl
  · exact h1
  · exact h2
theorem wf_same {f g : WF} (h : f.val = g.val) (hp : f.pf = g.pf) : f = g := by
  obtain ⟨z, c, g1, ra, rl, rc, rows, ca, cl, cc, cells, pa, pl, pc⟩ := f
  obtain ⟨z', c', g', ra', rl', rc', rows', ca', cl', cc', cells', pa', pl', pc'⟩ := g
  simp [WF.val, WF.pf] at h hp
  obtain ⟨h1, h2, h3, h4, h5, h6⟩ := h
  obtain ⟨p1, p2, p3, p4, p5⟩ := hp
  obtain ⟨e1, e2, e3⟩ := h4
  obtain ⟨e4, e5, e6⟩ := h5
  obtain ⟨e7, e8, e9⟩ := h6
  subst h1; subst h2; subst p3; subst p4; subst p5; subst e1; subst e2; subst e3; subst e4; subst e5; subst e6; subst e7; subst e8; subst e9
  rfl
theorem XNew.samepf {lo lo' : Nat} {w w' : World} {S : PS} {f g : WF} {x : PX} (h : XNew lo w S f x) (k : XNew lo' w' S g x) : f.pf = g.pf := by
  cases S <;> cases x <;> first | exact h.elim | skip
  · exact h.is.pf.trans k.is.pf.symm
  · exact h.1.trans k.1.symm
theorem newOff {lo B : Nat} {A W : World} {S : PS} {f : WF} {x : PX} (hn : Aw (some B) (isNew lo S x) f.val A) (hf : XNew lo A S f x) (hlo : lo ≤ A.heap.size) (hx : AgreeX lo B A W) : XNew lo W S f x := by
  obtain ⟨w', ⟨g, hg, hgn⟩, ha⟩ := Aw.mid hn hlo hx
  obtain rfl := wf_same hg (hf.samepf hgn)
  exact hgn.agree ha
theorem six_val {f g : WF} (h : f.val = g.val) : f.six = g.six := congrArg (fun v : Value => v.cells.toList) h
theorem comb2N {w : World} {S : PS} {sf : SF} {x y : PX} {vs : List Value} {lo : Nat} (hh : Holds [isV sf.val, isRowX S [x, y]] vs w) (hs : SIs w S sf) (hok : S.ok) (ht : Tabs w) (hlo : lo ≤ w.heap.size) : Calls Tryz.prog 37 vs.toArray w (GivesN (isNew lo S (combX S x y)) w) := by
  obtain ⟨v1, v2, rfl, rfl, b, fs, rfl, hr, hx⟩ := holds2 hh
  refine (combineL_ok S sf w hs hok _ 2 2 fs [x, y] hr hx hx.1 (by decide) ht).mono ?_
  rintro e w' ⟨f, rfl, hn, hb⟩
  obtain ⟨f1, x1, hf1, hx1, h1⟩ := hx.at_ (k := 0) (by have := hx.1; simp at this; omega)
  simp at hx1; subst hx1
  refine ⟨_, rfl, fun w2 ha => ⟨f, rfl, ?_⟩, hb⟩
  simp only [List.foldl_cons, List.foldl_nil, combX_zero h1.ok] at hn
  exact (hn.agree ha).mono hlo
section
variable {n : Nat} {Q : Exit → Act → World → Prop} {l : Fr} {W : World} {ops : Array Oper} {L : List Asr} {i d : Nat} {ty : TypeId} {pos : String} {aft : Array Edge} {gd : Option (Nat × Bool)} {S : PS} {x y z : PX} {p q r : Operand}
theorem ag_rowX2 (hi : ops[i]? = some ⟨some d, .buildSlice 31 2 (List.toArray [(0, p), (1, q)]), ty, pos, aft, gd⟩) (hw : Wants ops L i ⟨some d, .buildSlice 31 2 (List.toArray [(0, p), (1, q)]), ty, pos, aft, gd⟩) (hp : AllP n ops l L i [p, q] [isX S x, isX S y]) (hI : atI L i = isRowX S [x, y]) : RGA Tryz.prog n ops Q l W L i :=
  ag_row [isX S x, isX S y] hi hw Tryz.underlying31 Tryz.sizeOf33 Tryz.zeroValue33 rfl rfl hp fun β vs w hb hh => by
    obtain ⟨v1, v2, rfl, ⟨f, rfl, hf⟩, g, rfl, hg⟩ := holds2 (hh w (Off.refl _ _))
    refine ⟨f.six ++ g.six, bs_31_2 _ _ _ _ _ _ _ _ _ _ _ _, fun B w' hB h1 ho => ?_⟩
    obtain ⟨v1, v2, hv, ⟨f', hv1, hf'⟩, g', hv2, hg'⟩ := holds2 (hh w' ho)
    simp only [List.cons.injEq, and_true] at hv
    obtain ⟨e1, e2⟩ := hv
    rw [six_val (e1.trans hv1), six_val (e2.trans hv2)] at h1
    rw [hI]
    exact ⟨B, [f', g'], rfl, frow2 h1, xl_cons hf' (xl_cons hg' xl_nil)⟩
end
set_option maxRecDepth 100000 in
set_option maxHeartbeats 4000000 in
theorem weightStops_walk (ds d : Nat) (s : SV) (a : Option Addr) (m c : Nat) (xs : List WV) (w : World) (hs : SIn w ds s) (hrow : PRow w a xs) (hlen : xs.length = m) (hin : ∀ x ∈ xs, WIn w d x) (hmx : m ≤ 9223372036854775807) (ht : Tabs w) :
    Calls Tryz.prog 7 #[s.f.val, .slice a m c] w (fun e w' => e = .returned (.bool true) ∧ Below w.heap.size w w') := by
  refine enterF (args := [s.f.val, .slice a m c]) Tryz.func7 rfl Tryz.ntmps7 rfl ?_
  have hS := St.start w
  refine seqF ?_
  refine regF ?_
  refine op_box (cs := [_, _, _]) hS rfl rfl rfl ?_
  clear hS; intro B1 W1 hS
  refine op_assign rfl rfl ?_
  refine endF ?_
  refine XF.thenN ?_
  refine seqF ?_
  refine seqF ?_
  refine regF ?_
  refine op_loadA (vs := [_, _, _]) Tryz.isAgg25 Tryz.sizeOf25 rfl (CellsAt.own (j := 0) (m := 3) (hS.at_ 0 rfl) rfl) rfl ?_
  refine op_call (vs := [_, _]) hS goes_9 rfl (smallSpace_is 4 0 ds s _ (by omega) (SIn.below hS.below hs)) rfl ?_
  rintro e W2 ⟨rfl, hb⟩
  refine ⟨_, rfl, hb, fun hS' => ?_⟩
  clear hS; have hS := hS'; clear hS' hb
  refine op_not rfl rfl ?_
  refine endF ?_
  refine XF.thenN ?_
  refine condF rfl (fun hc => ?_) (fun hc => ?_)
  · have hc14 := hc; clear hc
    refine seqF ?_
    refine regF ?_
    refine op_call (vs := []) hS goes_11 rfl (aliveW_is _ (ht.below hS.below)) rfl ?_
    rintro e W3 ⟨rfl, hb⟩
    refine ⟨_, rfl, hb, fun hS' => ?_⟩
    clear hS; have hS := hS'; clear hS' hb
    refine op_assign rfl rfl ?_
    refine endF ?_
    refine XF.thenN ?_
    refine retF ?_
    refine XF.thenR ?_
    refine XF.res (res1 Tryz.results7 rfl) ?_
    exact ⟨rfl, hS.below⟩
  · have hc14 := hc; clear hc
    refine skipF ?_
    refine XF.thenN ?_
    refine seqF ?_
    by_cases hse : spaceE s = 0
    · obtain ⟨S, hok, hsi, hw⟩ := space_of hs hse
      refine regF ?_
      refine op_loadA (vs := [_, _, _]) Tryz.isAgg25 Tryz.sizeOf25 rfl (CellsAt.own (j := 0) (m := 3) (hS.at_ 0 rfl) rfl) rfl ?_
      refine op_call (vs := [_]) hS goes_16 rfl (HeightW_ok S s.f _ (hsi.below hS.below) hok) rfl ?_
      rintro e W4 ⟨rfl, hb⟩
      refine ⟨_, rfl, hb, fun hS' => ?_⟩
      clear hS; have hS := hS'; clear hS' hb
      refine op_move rfl rfl ?_
      refine op_extract rfl rfl rfl ?_
      refine op_extract rfl rfl rfl ?_
      refine op_assign rfl rfl ?_
      refine op_assign rfl rfl ?_
      refine endF ?_
      refine XF.thenN ?_
      refine seqF ?_
      refine regF ?_
      refine op_loadA (vs := [_, _, _]) Tryz.isAgg25 Tryz.sizeOf25 rfl (CellsAt.own (j := 0) (m := 3) (hS.at_ 0 rfl) rfl) rfl ?_
      have hsz := hS.below.size
      refine op_call (vs := [_]) hS goes_14 rfl (ZeroW_ok S s.f _ (hsi.below hS.below) hok) rfl ?_
      rintro e W5 ⟨fz, rfl, hnz, hb⟩
      refine ⟨_, rfl, hb, fun hS' => ?_⟩
      clear hS; have hS := hS'; clear hS'
      refine op_move rfl rfl ?_
      refine op_extract rfl rfl rfl ?_
      refine op_extract rfl rfl rfl ?_
      refine op_alloc (cs := [_, _, _, _, _, _]) hS Tryz.zeroValue33 rfl rfl ?_
      clear hS; intro B6 W6 hS
      refine op_storeA (i := 0) (vs := [_, _, _, _, _, _]) (cs' := [_, _, _, _, _, _]) (O' := [_, _]) hS Tryz.sizeOf33 rfl rfl rfl rfl rfl rfl rfl ?_
      clear hS; intro W7 hS
      refine op_assign rfl rfl ?_
      refine endF ?_
      refine XF.thenN ?_
      refine seqF ?_
      refine seqF ?_
      refine regF ?_
      refine op_move rfl rfl ?_
      refine op_neq rfl rfl rfl ?_
      refine op_move rfl rfl ?_
      refine op_cases (d := 28) rfl (fun hc => absurd (of_decide_eq_true hc) (by omega)) (fun hc => ?_)
      have hc := of_decide_eq_false hc
      refine op_wantedF (d := 28) rfl rfl ?_
      refine op_move rfl rfl ?_
      refine op_wantedF (d := 28) rfl rfl ?_
      refine op_neq rfl rfl rfl ?_
      refine op_pickF rfl rfl rfl ?_
      refine endF ?_
      refine XF.thenN ?_
      refine condF rfl (fun hc => absurd (of_decide_eq_true hc) (by omega)) (fun hc => ?_)
      have hc := of_decide_eq_false hc
      refine skipF ?_
      refine XF.thenN ?_
      refine seqF ?_
      refine regF ?_
      refine op_assign rfl rfl ?_
      refine endF ?_
      refine XF.thenN ?_
      refine seqF ?_
      refine seqF ?_
      refine regF ?_
      refine op_assign rfl rfl ?_
      refine endF ?_
      refine XF.thenN ?_
      refine blockF ?_
      refine loopF (fun q l W => ∃ (k tn : Nat) (v : PX) (fw : WF) (lo : Nat) (A : World), k ≤ m ∧ k ≤ 200 ∧ q = 200 - k ∧ l = [(1, .slice a m c), (2, .pointer (some ⟨B1, 0, none⟩)), (5, .int .i64 (hgtX S)), (7, .pointer (some ⟨B6, 0, none⟩)), (9, .int .i64 (tn : Int)), (10, .int .i64 (k : Int))] ∧ OkX S v ∧ tn ≤ rkX S v ∧ tn ≤ k ∧ w.heap.size ≤ lo ∧ XNew lo A S fw v ∧ St w [(B6, fw.six, 33), (B1, [.int .i64 s.f.tag, .int .i64 s.f.dim, .slice s.f.a s.f.len s.f.cap], 25)] [] [(lo, A)] W) (200 - 0) ([(1, _), (2, _), (5, _), (7, _), (9, _), (10, _)]) ⟨rfl, rfl, rfl, rfl, rfl, rfl, trivial⟩ (⟨0, 0, zeroX S, fz, _, _, Nat.zero_le _, Nat.zero_le _, rfl, rfl, hnz.is.ok, Nat.zero_le _, Nat.le_refl _, hsz, hnz, hS.keep [_] (fun q hq => by simp at hq; subst hq; exact List.mem_cons_self)⟩) ?_
      clear hS
      rintro q l W ⟨k, tn, v, fw, lo, A, hkm, hk2, rfl, rfl, hov, htn, htk, hlo, hn0, hS⟩
      refine seqF ?_
      refine seqF ?_
      refine regF ?_
      refine op_move rfl rfl ?_
      refine op_move rfl rfl ?_
      refine op_len Tryz.underlying31 rfl rfl ?_
      refine op_lss rfl rfl rfl ?_
      refine op_move rfl rfl ?_
      refine op_cases (d := 42) rfl (fun hc => ?_) (fun hc => ?_)
      · have hg42 := of_decide_eq_true hc; clear hc
        refine op_wantedF (d := 42) rfl rfl ?_
        refine op_move rfl rfl ?_
        refine op_wantedF (d := 42) rfl rfl ?_
        refine op_lss rfl rfl rfl ?_
        refine op_pickT rfl rfl rfl ?_
        refine endF ?_
        refine XF.thenN ?_
        refine condF rfl (fun hc => ?_) (fun hc => ?_)
        · have hc45 := of_decide_eq_true hc; clear hc
          have hk : k < m := by omega
          obtain ⟨x, hxk⟩ : ∃ x, xs[k]? = some x := ⟨xs[k]'(by omega), List.getElem?_eq_getElem _⟩
          obtain ⟨b, off, rfl, hbl, h6⟩ := hrow.at_ hxk
          have hxin := hin x (List.mem_of_getElem? hxk)
          have k6 := CellsAt.agree hS.agree (Nat.zero_le _) h6.cells
          refine skipF ?_
          refine XF.thenN ?_
          refine seqF ?_
          refine blockF ?_
          refine seqF ?_
          refine seqF ?_
          rcases arms3 (smN 4 x = true) (chkW s x = 0) with hsm | ⟨hsm, hck⟩ | ⟨hsm, hck⟩
          · have hsm := Bool.eq_false_iff.2 hsm
            refine regB (m := 15) followsM hS (by kernel_rfl) (by kernel_rfl) rfl ?_
            refine bl_cons 1 rfl (isV _) (stab_isV _) (rgV (li := [(1, _)]) rfl (w_free rfl) ⟨g_fr (by kernel_rfl) rfl, trivial⟩ (fun w hw => rn_move rfl) (at_top rfl)) ?_
            refine bl_cons 2 rfl (isV _) (stab_isV _) (rgV (li := [(10, _)]) rfl (w_free rfl) ⟨g_fr (by kernel_rfl) rfl, trivial⟩ (fun w hw => rn_move rfl) (at_top rfl)) ?_
            refine bl_cons 3 rfl (isV _) (stab_isV _) (rgV (li := [(48, _), (49, _)]) rfl (w_free rfl) ⟨g_dep 0 (by kernel_rfl) (at_dep rfl rfl rfl), g_dep 1 (by kernel_rfl) (at_dep rfl rfl rfl), trivial⟩ (fun w hw => rn_indexA  Tryz.underlying31 Tryz.sizeOf33 rfl rfl rfl (by omega) rfl) (at_top rfl)) ?_
            refine bl_cons 4 rfl (isV _) (stab_isV _) (rgV (li := [(50, _)]) rfl (w_free rfl) ⟨g_dep 2 (by kernel_rfl) (at_dep rfl rfl rfl), trivial⟩ (fun w hw => rn_loadA (vs := [_, _, _, _, _, _]) Tryz.isAgg33 Tryz.sizeOf33 rfl (CellsAt.agree (below_agree hw 0) (Nat.zero_le _) (by assumption))) (at_top rfl)) ?_
            refine bl_cons 5 rfl (isV (.bool false)) (stab_isV _) (rg_call [isV _, isV _] rfl goes_10 (w_free rfl) ⟨p_tmp (g_dep 3 (by kernel_rfl) (at_dep rfl rfl rfl)), p_const, trivial⟩ (fun vs w' hb hh => by have e := holds_isV (us := [_, _]) hh; subst e; exact (small_is 4 0 d x _ (by omega) (WIn.below (hS.below.trans (hb.mono hS.below.size)) hxin)).mono fun e w2 h => ⟨_, h.1.trans (by rw [hsm]), rfl, h.2⟩) (at_top rfl)) ?_
            refine bl_cons 6 rfl (isV (.bool true)) (stab_isV _) (rgVe (li := [(52, _)]) rfl (w_free rfl) ⟨g_dep 4 (by kernel_rfl) (at_dep rfl rfl rfl), trivial⟩ (fun w hw => rn_not rfl) (rfl) (at_top rfl)) ?_
            refine bl_cons 7 rfl (isV _) (stab_isV _) (rgV (li := [(53, _)]) rfl (w_free rfl) ⟨g_dep 5 (by kernel_rfl) (at_dep rfl rfl rfl), trivial⟩ (fun w hw => rn_move rfl) (at_top rfl)) ?_
            refine bl_cons 8 rfl (isV undef) (stab_isV _) (rg_no rfl (w_no 54 rfl (by kernel_rfl) (by kernel_rfl) (at_dep rfl rfl rfl) rfl) (at_top rfl)) ?_
            refine bl_cons 9 rfl (isV undef) (stab_isV _) (rg_no rfl (w_no 54 rfl (by kernel_rfl) (by kernel_rfl) (at_dep rfl rfl rfl) rfl) (at_top rfl)) ?_
            refine bl_cons 10 rfl (isV undef) (stab_isV _) (rg_no rfl (w_no 54 rfl (by kernel_rfl) (by kernel_rfl) (at_dep rfl rfl rfl) rfl) (at_top rfl)) ?_
            refine bl_cons 11 rfl (isV undef) (stab_isV _) (rg_no rfl (w_no 54 rfl (by kernel_rfl) (by kernel_rfl) (at_dep rfl rfl rfl) rfl) (at_top rfl)) ?_
            refine bl_cons 12 rfl (isV undef) (stab_isV _) (rg_no rfl (w_no 54 rfl (by kernel_rfl) (by kernel_rfl) (at_dep rfl rfl rfl) rfl) (at_top rfl)) ?_
            refine bl_cons 13 rfl (isV undef) (stab_isV _) (rg_no rfl (w_no 54 rfl (by kernel_rfl) (by kernel_rfl) (at_dep rfl rfl rfl) rfl) (at_top rfl)) ?_
            refine bl_cons 14 rfl (isV undef) (stab_isV _) (rg_no rfl (w_no 54 rfl (by kernel_rfl) (by kernel_rfl) (at_dep rfl rfl rfl) rfl) (at_top rfl)) ?_
            refine bl_cons 15 rfl (isV _) (stab_isV _) (rgV (li := [(54, _)]) rfl (w_free rfl) ⟨g_dep 6 (by kernel_rfl) (at_dep rfl rfl rfl), trivial⟩ (fun w hw => rn_pickT rfl rfl) (at_top rfl)) ?_
            refine bl_nil ?_
            intro W8 hbR hS'
            clear hS; have hS := hS'; clear hS'
            refine fin_v ?_
            refine fin_v ?_
            refine fin_v ?_
            refine fin_v ?_
            refine fin_v ?_
            refine fin_v ?_
            refine fin_v ?_
            refine fin_v ?_
            refine fin_v ?_
            refine fin_v ?_
            refine fin_v ?_
            refine fin_v ?_
            refine fin_v ?_
            refine fin_v ?_
            refine fin_v ?_
            refine fin_nil ?_
            refine XF.thenN ?_
            refine condT rfl ?_
            refine exitF ?_
            refine XF.thenX ?_
            refine XF.blkX ?_
            refine XF.thenN ?_
            refine regF ?_
            refine op_move rfl rfl ?_
            refine op_add rfl rfl (IntWalk.i64_in _ (by omega)) rfl ?_
            refine op_assign rfl rfl ?_
            refine endF ?_
            exact XF.round (200 - (k + 1)) [(1, _), (2, _), (5, _), (7, _), (9, _), (10, _)] (by omega) ⟨rfl, rfl, rfl, rfl, rfl, rfl, trivial⟩ ⟨k + 1, tn, v, fw, lo, A, by omega, by omega, rfl, rfl, hov, htn, by omega, hlo, hn0, hS.keep [_] (fun q hq => by simp at hq; subst hq; exact List.mem_cons_of_mem _ List.mem_cons_self)⟩
          · obtain ⟨hx1, hx2⟩ := smN_100 hxin hsm
            refine regB (m := 15) followsM hS (by kernel_rfl) (by kernel_rfl) rfl ?_
            refine bl_cons 1 rfl (isV _) (stab_isV _) (rgV (li := [(1, _)]) rfl (w_free rfl) ⟨g_fr (by kernel_rfl) rfl, trivial⟩ (fun w hw => rn_move rfl) (at_top rfl)) ?_
            refine bl_cons 2 rfl (isV _) (stab_isV _) (rgV (li := [(10, _)]) rfl (w_free rfl) ⟨g_fr (by kernel_rfl) rfl, trivial⟩ (fun w hw => rn_move rfl) (at_top rfl)) ?_
            refine bl_cons 3 rfl (isV _) (stab_isV _) (rgV (li := [(48, _), (49, _)]) rfl (w_free rfl) ⟨g_dep 0 (by kernel_rfl) (at_dep rfl rfl rfl), g_dep 1 (by kernel_rfl) (at_dep rfl rfl rfl), trivial⟩ (fun w hw => rn_indexA  Tryz.underlying31 Tryz.sizeOf33 rfl rfl rfl (by omega) rfl) (at_top rfl)) ?_
            refine bl_cons 4 rfl (isV _) (stab_isV _) (rgV (li := [(50, _)]) rfl (w_free rfl) ⟨g_dep 2 (by kernel_rfl) (at_dep rfl rfl rfl), trivial⟩ (fun w hw => rn_loadA (vs := [_, _, _, _, _, _]) Tryz.isAgg33 Tryz.sizeOf33 rfl (CellsAt.agree (below_agree hw 0) (Nat.zero_le _) (by assumption))) (at_top rfl)) ?_
            refine bl_cons 5 rfl (isV (.bool true)) (stab_isV _) (rg_call [isV _, isV _] rfl goes_10 (w_free rfl) ⟨p_tmp (g_dep 3 (by kernel_rfl) (at_dep rfl rfl rfl)), p_const, trivial⟩ (fun vs w' hb hh => by have e := holds_isV (us := [_, _]) hh; subst e; exact (small_is 4 0 d x _ (by omega) (WIn.below (hS.below.trans (hb.mono hS.below.size)) hxin)).mono fun e w2 h => ⟨_, h.1.trans (by rw [hsm]), rfl, h.2⟩) (at_top rfl)) ?_
            refine bl_cons 6 rfl (isV (.bool false)) (stab_isV _) (rgVe (li := [(52, _)]) rfl (w_free rfl) ⟨g_dep 4 (by kernel_rfl) (at_dep rfl rfl rfl), trivial⟩ (fun w hw => rn_not rfl) (rfl) (at_top rfl)) ?_
            refine bl_cons 7 rfl (isV _) (stab_isV _) (rgV (li := [(53, _)]) rfl (w_free rfl) ⟨g_dep 5 (by kernel_rfl) (at_dep rfl rfl rfl), trivial⟩ (fun w hw => rn_move rfl) (at_top rfl)) ?_
            refine bl_cons 8 rfl (isV _) (stab_isV _) (rgV (li := [(2, _)]) rfl (w_yes 54 rfl (by kernel_rfl) (by kernel_rfl) (at_dep rfl rfl rfl)) ⟨g_fr (by kernel_rfl) rfl, trivial⟩ (fun w hw => rn_loadA (vs := [_, _, _]) Tryz.isAgg25 Tryz.sizeOf25 rfl (CellsAt.agree (below_agree hw 0) (Nat.zero_le _) (CellsAt.own (j := 0) (m := 3) (hS.at_ 1 rfl) rfl))) (at_top rfl)) ?_
            refine bl_cons 9 rfl (isV _) (stab_isV _) (rgV (li := [(1, _)]) rfl (w_yes 54 rfl (by kernel_rfl) (by kernel_rfl) (at_dep rfl rfl rfl)) ⟨g_fr (by kernel_rfl) rfl, trivial⟩ (fun w hw => rn_move rfl) (at_top rfl)) ?_
            refine bl_cons 10 rfl (isV _) (stab_isV _) (rgV (li := [(10, _)]) rfl (w_yes 54 rfl (by kernel_rfl) (by kernel_rfl) (at_dep rfl rfl rfl)) ⟨g_fr (by kernel_rfl) rfl, trivial⟩ (fun w hw => rn_move rfl) (at_top rfl)) ?_
            refine bl_cons 11 rfl (isV _) (stab_isV _) (rgV (li := [(56, _), (57, _)]) rfl (w_yes 54 rfl (by kernel_rfl) (by kernel_rfl) (at_dep rfl rfl rfl)) ⟨g_dep 8 (by kernel_rfl) (at_dep rfl rfl rfl), g_dep 9 (by kernel_rfl) (at_dep rfl rfl rfl), trivial⟩ (fun w hw => rn_indexA  Tryz.underlying31 Tryz.sizeOf33 rfl rfl rfl (by omega) rfl) (at_top rfl)) ?_
            refine bl_cons 12 rfl (isV _) (stab_isV _) (rgV (li := [(58, _)]) rfl (w_yes 54 rfl (by kernel_rfl) (by kernel_rfl) (at_dep rfl rfl rfl)) ⟨g_dep 10 (by kernel_rfl) (at_dep rfl rfl rfl), trivial⟩ (fun w hw => rn_loadA (vs := [_, _, _, _, _, _]) Tryz.isAgg33 Tryz.sizeOf33 rfl (CellsAt.agree (below_agree hw 0) (Nat.zero_le _) (by assumption))) (at_top rfl)) ?_
            refine bl_cons 13 rfl (isV (.int .i64 (chkW s x))) (stab_isV _) (rg_call [isV _, isV _] rfl goes_21 (w_yes 54 rfl (by kernel_rfl) (by kernel_rfl) (at_dep rfl rfl rfl)) ⟨p_tmp (g_dep 7 (by kernel_rfl) (at_dep rfl rfl rfl)), p_tmp (g_dep 11 (by kernel_rfl) (at_dep rfl rfl rfl)), trivial⟩ (fun vs w' hb hh => by have e := holds_isV (us := [_, _]) hh; subst e; exact (checkR_gen ds d s x _ (SIn.below (hS.below.trans (hb.mono hS.below.size)) hs) (WIn.below (hS.below.trans (hb.mono hS.below.size)) hxin) hx1 hx2).mono fun e w2 h => ⟨_, h.1, rfl, h.2⟩) (at_top rfl)) ?_
            refine bl_cons 14 rfl (isV (.bool true)) (stab_isV _) (rgVe (li := [(60, _)]) rfl (w_yes 54 rfl (by kernel_rfl) (by kernel_rfl) (at_dep rfl rfl rfl)) ⟨g_dep 12 (by kernel_rfl) (at_dep rfl rfl rfl), trivial⟩ (fun w hw => rn_neq rfl rfl) (by simp [hck]) (at_top rfl)) ?_
            refine bl_cons 15 rfl (isV _) (stab_isV _) (rgV (li := [(54, _), (61, _)]) rfl (w_free rfl) ⟨g_dep 6 (by kernel_rfl) (at_dep rfl rfl rfl), g_dep 13 (by kernel_rfl) (at_dep rfl rfl rfl), trivial⟩ (fun w hw => rn_pickF rfl rfl) (at_top rfl)) ?_
            refine bl_nil ?_
            intro W9 hbR hS'
            clear hS; have hS := hS'; clear hS'
            refine fin_v ?_
            refine fin_v ?_
            refine fin_v ?_
            refine fin_v ?_
            refine fin_v ?_
            refine fin_v ?_
            refine fin_v ?_
            refine fin_v ?_
            refine fin_v ?_
            refine fin_v ?_
            refine fin_v ?_
            refine fin_v ?_
            refine fin_v ?_
            refine fin_v ?_
            refine fin_v ?_
            refine fin_nil ?_
            refine XF.thenN ?_
            refine condT rfl ?_
            refine exitF ?_
            refine XF.thenX ?_
            refine XF.blkX ?_
            refine XF.thenN ?_
            refine regF ?_
            refine op_move rfl rfl ?_
            refine op_add rfl rfl (IntWalk.i64_in _ (by omega)) rfl ?_
            refine op_assign rfl rfl ?_
            refine endF ?_
            exact XF.round (200 - (k + 1)) [(1, _), (2, _), (5, _), (7, _), (9, _), (10, _)] (by omega) ⟨rfl, rfl, rfl, rfl, rfl, rfl, trivial⟩ ⟨k + 1, tn, v, fw, lo, A, by omega, by omega, rfl, rfl, hov, htn, by omega, hlo, hn0, hS.keep [_] (fun q hq => by simp at hq; subst hq; exact List.mem_cons_of_mem _ List.mem_cons_self)⟩
          · obtain ⟨hx1, hx2⟩ := smN_100 hxin hsm
            obtain ⟨y, hy⟩ := hw x d hxin (chk0 hck).2
            have hoy := hy.ok
            refine regB (m := 15) followsM hS (by kernel_rfl) (by kernel_rfl) rfl ?_
            refine bl_cons 1 rfl (isV _) (stab_isV _) (rgV (li := [(1, _)]) rfl (w_free rfl) ⟨g_fr (by kernel_rfl) rfl, trivial⟩ (fun w hw => rn_move rfl) (at_top rfl)) ?_
            refine bl_cons 2 rfl (isV _) (stab_isV _) (rgV (li := [(10, _)]) rfl (w_free rfl) ⟨g_fr (by kernel_rfl) rfl, trivial⟩ (fun w hw => rn_move rfl) (at_top rfl)) ?_
            refine bl_cons 3 rfl (isV _) (stab_isV _) (rgV (li := [(48, _), (49, _)]) rfl (w_free rfl) ⟨g_dep 0 (by kernel_rfl) (at_dep rfl rfl rfl), g_dep 1 (by kernel_rfl) (at_dep rfl rfl rfl), trivial⟩ (fun w hw => rn_indexA  Tryz.underlying31 Tryz.sizeOf33 rfl rfl rfl (by omega) rfl) (at_top rfl)) ?_
            refine bl_cons 4 rfl (isV _) (stab_isV _) (rgV (li := [(50, _)]) rfl (w_free rfl) ⟨g_dep 2 (by kernel_rfl) (at_dep rfl rfl rfl), trivial⟩ (fun w hw => rn_loadA (vs := [_, _, _, _, _, _]) Tryz.isAgg33 Tryz.sizeOf33 rfl (CellsAt.agree (below_agree hw 0) (Nat.zero_le _) (by assumption))) (at_top rfl)) ?_
            refine bl_cons 5 rfl (isV (.bool true)) (stab_isV _) (rg_call [isV _, isV _] rfl goes_10 (w_free rfl) ⟨p_tmp (g_dep 3 (by kernel_rfl) (at_dep rfl rfl rfl)), p_const, trivial⟩ (fun vs w' hb hh => by have e := holds_isV (us := [_, _]) hh; subst e; exact (small_is 4 0 d x _ (by omega) (WIn.below (hS.below.trans (hb.mono hS.below.size)) hxin)).mono fun e w2 h => ⟨_, h.1.trans (by rw [hsm]), rfl, h.2⟩) (at_top rfl)) ?_
            refine bl_cons 6 rfl (isV (.bool false)) (stab_isV _) (rgVe (li := [(52, _)]) rfl (w_free rfl) ⟨g_dep 4 (by kernel_rfl) (at_dep rfl rfl rfl), trivial⟩ (fun w hw => rn_not rfl) (rfl) (at_top rfl)) ?_
            refine bl_cons 7 rfl (isV _) (stab_isV _) (rgV (li := [(53, _)]) rfl (w_free rfl) ⟨g_dep 5 (by kernel_rfl) (at_dep rfl rfl rfl), trivial⟩ (fun w hw => rn_move rfl) (at_top rfl)) ?_
            refine bl_cons 8 rfl (isV _) (stab_isV _) (rgV (li := [(2, _)]) rfl (w_yes 54 rfl (by kernel_rfl) (by kernel_rfl) (at_dep rfl rfl rfl)) ⟨g_fr (by kernel_rfl) rfl, trivial⟩ (fun w hw => rn_loadA (vs := [_, _, _]) Tryz.isAgg25 Tryz.sizeOf25 rfl (CellsAt.agree (below_agree hw 0) (Nat.zero_le _) (CellsAt.own (j := 0) (m := 3) (hS.at_ 1 rfl) rfl))) (at_top rfl)) ?_
            refine bl_cons 9 rfl (isV _) (stab_isV _) (rgV (li := [(1, _)]) rfl (w_yes 54 rfl (by kernel_rfl) (by kernel_rfl) (at_dep rfl rfl rfl)) ⟨g_fr (by kernel_rfl) rfl, trivial⟩ (fun w hw => rn_move rfl) (at_top rfl)) ?_
            refine bl_cons 10 rfl (isV _) (stab_isV _) (rgV (li := [(10, _)]) rfl (w_yes 54 rfl (by kernel_rfl) (by kernel_rfl) (at_dep rfl rfl rfl)) ⟨g_fr (by kernel_rfl) rfl, trivial⟩ (fun w hw => rn_move rfl) (at_top rfl)) ?_
            refine bl_cons 11 rfl (isV _) (stab_isV _) (rgV (li := [(56, _), (57, _)]) rfl (w_yes 54 rfl (by kernel_rfl) (by kernel_rfl) (at_dep rfl rfl rfl)) ⟨g_dep 8 (by kernel_rfl) (at_dep rfl rfl rfl), g_dep 9 (by kernel_rfl) (at_dep rfl rfl rfl), trivial⟩ (fun w hw => rn_indexA  Tryz.underlying31 Tryz.sizeOf33 rfl rfl rfl (by omega) rfl) (at_top rfl)) ?_
            refine bl_cons 12 rfl (isV _) (stab_isV _) (rgV (li := [(58, _)]) rfl (w_yes 54 rfl (by kernel_rfl) (by kernel_rfl) (at_dep rfl rfl rfl)) ⟨g_dep 10 (by kernel_rfl) (at_dep rfl rfl rfl), trivial⟩ (fun w hw => rn_loadA (vs := [_, _, _, _, _, _]) Tryz.isAgg33 Tryz.sizeOf33 rfl (CellsAt.agree (below_agree hw 0) (Nat.zero_le _) (by assumption))) (at_top rfl)) ?_
            refine bl_cons 13 rfl (isV (.int .i64 (chkW s x))) (stab_isV _) (rg_call [isV _, isV _] rfl goes_21 (w_yes 54 rfl (by kernel_rfl) (by kernel_rfl) (at_dep rfl rfl rfl)) ⟨p_tmp (g_dep 7 (by kernel_rfl) (at_dep rfl rfl rfl)), p_tmp (g_dep 11 (by kernel_rfl) (at_dep rfl rfl rfl)), trivial⟩ (fun vs w' hb hh => by have e := holds_isV (us := [_, _]) hh; subst e; exact (checkR_gen ds d s x _ (SIn.below (hS.below.trans (hb.mono hS.below.size)) hs) (WIn.below (hS.below.trans (hb.mono hS.below.size)) hxin) hx1 hx2).mono fun e w2 h => ⟨_, h.1, rfl, h.2⟩) (at_top rfl)) ?_
            refine bl_cons 14 rfl (isV (.bool false)) (stab_isV _) (rgVe (li := [(60, _)]) rfl (w_yes 54 rfl (by kernel_rfl) (by kernel_rfl) (at_dep rfl rfl rfl)) ⟨g_dep 12 (by kernel_rfl) (at_dep rfl rfl rfl), trivial⟩ (fun w hw => rn_neq rfl rfl) (by simp [hck]) (at_top rfl)) ?_
            refine bl_cons 15 rfl (isV _) (stab_isV _) (rgV (li := [(54, _), (61, _)]) rfl (w_free rfl) ⟨g_dep 6 (by kernel_rfl) (at_dep rfl rfl rfl), g_dep 13 (by kernel_rfl) (at_dep rfl rfl rfl), trivial⟩ (fun w hw => rn_pickF rfl rfl) (at_top rfl)) ?_
            refine bl_nil ?_
            intro W10 hbR hS'
            clear hS; have hS := hS'; clear hS'
            refine fin_v ?_
            refine fin_v ?_
            refine fin_v ?_
            refine fin_v ?_
            refine fin_v ?_
            refine fin_v ?_
            refine fin_v ?_
            refine fin_v ?_
            refine fin_v ?_
            refine fin_v ?_
            refine fin_v ?_
            refine fin_v ?_
            refine fin_v ?_
            refine fin_v ?_
            refine fin_v ?_
            refine fin_nil ?_
            refine XF.thenN ?_
            refine condN rfl ?_
            refine skipF ?_
            refine XF.thenN ?_
            refine seqF ?_
            have k7 := CellsAt.agree hS.agree (Nat.zero_le _) h6.cells
            have hvW := (hn0.agree (hS.since 1 rfl)).is
            have hyW := hy.below hS.below
            have hsz1 := hS.below.size
            have hol := hS.own_lt
            have hB7 := hol _ List.mem_cons_self
            have hB2 := hol _ (List.mem_cons_of_mem _ List.mem_cons_self)
            refine regBA (cs := [_, _, _, _, _, _]) followsM 9 8 hS rfl rfl rfl rfl Tryz.zeroValue33 rfl (by kernel_rfl) (by kernel_rfl) (by kernel_rfl) (fun d hd => by cases hd) ?_
            refine bla_cons 1 rfl rfl (isV _) (stab_isV _) (agV (li := [(2, _)]) rfl (w_free rfl) ⟨g_fr (by kernel_rfl) rfl, trivial⟩ (fun w hw => rn_loadA (vs := [_, _, _]) Tryz.isAgg25 Tryz.sizeOf25 rfl (CellsAt.agree (below_agree hw 0) (Nat.zero_le _) (CellsAt.own (j := 0) (m := 3) (hS.at_ 1 rfl) rfl))) (at_top rfl)) ?_
            refine bla_cons 2 rfl rfl (isX S v) (stab_isX) (agP (li := [(7, _)]) rfl (w_free rfl) ⟨g_fr (by kernel_rfl) rfl, trivial⟩ (fun w hw => rn_loadA (vs := [_, _, _, _, _, _]) Tryz.isAgg33 Tryz.sizeOf33 rfl (CellsAt.agree (below_agree hw 0) (Nat.zero_le _) (CellsAt.own (j := 0) (m := 6) (hS.at_ 0 rfl) rfl))) (fun w hw => ⟨fw, rfl, hvW.below hw⟩) (at_top rfl)) ?_
            refine bla_cons 3 rfl rfl (isV _) (stab_isV _) (agV (li := [(1, _)]) rfl (w_free rfl) ⟨g_fr (by kernel_rfl) rfl, trivial⟩ (fun w hw => rn_move rfl) (at_top rfl)) ?_
            refine bla_cons 4 rfl rfl (isV _) (stab_isV _) (agV (li := [(10, _)]) rfl (w_free rfl) ⟨g_fr (by kernel_rfl) rfl, trivial⟩ (fun w hw => rn_move rfl) (at_top rfl)) ?_
            refine bla_cons 5 rfl rfl (isV _) (stab_isV _) (agV (li := [(65, _), (66, _)]) rfl (w_free rfl) ⟨g_dep 2 (by kernel_rfl) (at_dep rfl rfl rfl), g_dep 3 (by kernel_rfl) (at_dep rfl rfl rfl), trivial⟩ (fun w hw => rn_indexA  Tryz.underlying31 Tryz.sizeOf33 rfl rfl rfl (by omega) rfl) (at_top rfl)) ?_
            refine bla_cons 6 rfl rfl (isX S y) (stab_isX) (agP (li := [(67, _)]) rfl (w_free rfl) ⟨g_dep 4 (by kernel_rfl) (at_dep rfl rfl rfl), trivial⟩ (fun w hw => rn_loadA (vs := [_, _, _, _, _, _]) Tryz.isAgg33 Tryz.sizeOf33 rfl (CellsAt.agree (below_agree hw 0) (Nat.zero_le _) k7)) (fun w hw => ⟨x.f, rfl, hyW.below hw⟩) (at_top rfl)) ?_
            refine bla_cons 7 rfl rfl (isRowX S [v, y]) (stab_isRowX) (ag_rowX2 rfl (w_free rfl) ⟨p_tmp (g_dep 1 (by kernel_rfl) (at_dep rfl rfl rfl)), p_tmp (g_dep 5 (by kernel_rfl) (at_dep rfl rfl rfl)), trivial⟩ (at_top rfl)) ?_
            refine bla_cons 8 rfl rfl (isNew W10.heap.size S (combX S v y)) (stab_isNew) (ag_call [isV s.f.val, isRowX S [v, y]] rfl goes_37 (w_free rfl) ⟨p_tmp (g_dep 0 (by kernel_rfl) (at_dep rfl rfl rfl)), p_tmp (g_dep 6 (by kernel_rfl) (at_dep rfl rfl rfl)), trivial⟩ (fun vs w' hb hh => comb2N hh (hsi.below (hS.below.trans (hb.mono hS.below.size))) hok (ht.below (hS.below.trans (hb.mono hS.below.size))) hb.size) (at_top rfl)) ?_
            refine bla_alloc 9 rfl rfl ?_
            refine bla_nil ?_
            intro B11 AB11 W11 hbR hA1 hA2 hBlo hBhi hS'
            clear hS; have hS := hS'; clear hS'
            refine fin_av ?_
            refine fin_p ?_; rintro _ _
            refine fin_av ?_
            refine fin_av ?_
            refine fin_av ?_
            refine fin_p ?_; rintro _ _
            refine fin_p ?_; rintro _ _
            refine fin_p ?_; rintro v3 hn; obtain ⟨f2, rfl, hf2⟩ := Aw.here hn
            refine fin_v ?_
            refine fin_nil ?_
            refine op_storeA (i := 0) (vs := [_, _, _, _, _, _]) (cs' := [_, _, _, _, _, _]) (O' := [_, _, _]) hS Tryz.sizeOf33 rfl rfl rfl rfl rfl rfl rfl ?_
            clear hS; intro W12 hS
            refine endF ?_
            refine XF.thenN ?_
            refine seqF ?_
            refine seqF ?_
            have hn3 := newOff hn hf2 hbR.size (agreeX_of hA1 hA2 (hS.since 0 rfl) (hS.since 1 rfl))
            by_cases hsame : combX S v y = v
            · skip
              refine regF ?_
              refine op_loadA (vs := [_, _, _, _, _, _]) Tryz.isAgg33 Tryz.sizeOf33 rfl (CellsAt.own (j := 0) (m := 6) (hS.at_ 0 rfl) rfl) rfl ?_
              refine op_loadA (vs := [_, _, _, _, _, _]) Tryz.isAgg33 Tryz.sizeOf33 rfl (CellsAt.own (j := 0) (m := 6) (hS.at_ 1 rfl) rfl) rfl ?_
              refine op_call (vs := [_, _]) hS goes_22 rfl (sameW_is hn3.is (hn0.agree (hS.since 3 rfl)).is true (by simp [hsame])) rfl ?_
              rintro e W13 ⟨rfl, hb⟩
              refine ⟨_, rfl, hb, fun hS' => ?_⟩
              clear hS; have hS := hS'; clear hS' hb
              refine op_not rfl rfl ?_
              refine endF ?_
              refine XF.thenN ?_
              refine condN rfl ?_
              refine skipF ?_
              refine XF.thenN ?_
              refine regF ?_
              refine op_loadA (vs := [_, _, _, _, _, _]) Tryz.isAgg33 Tryz.sizeOf33 rfl (CellsAt.own (j := 0) (m := 6) (hS.at_ 0 rfl) rfl) rfl ?_
              refine op_storeA (i := 1) (vs := [_, _, _, _, _, _]) (cs' := [_, _, _, _, _, _]) (O' := [_, _, _]) hS Tryz.sizeOf33 rfl rfl rfl rfl rfl rfl rfl ?_
              clear hS; intro W14 hS
              refine endF ?_
              refine XF.blkN ?_
              refine XF.thenN ?_
              refine regF ?_
              refine op_move rfl rfl ?_
              refine op_add rfl rfl (IntWalk.i64_in _ (by omega)) rfl ?_
              refine op_assign rfl rfl ?_
              refine endF ?_
              have hn4 := newOff hn hf2 hbR.size (agreeX_of hA1 hA2 (hS.since 1 rfl) (hS.since 2 rfl))
              exact XF.round (200 - (k + 1)) [(1, _), (2, _), (5, _), (7, _), (9, _), (10, _)] (by omega) ⟨rfl, rfl, rfl, rfl, rfl, rfl, trivial⟩ ⟨k + 1, tn, combX S v y, f2, _, _, by omega, by omega, rfl, rfl, comb_okX hok hov hoy, by rw [hsame]; exact htn, by omega, hsz1, hn4, hS.tail.clear.mark _ (two_lt hB7 hB2) rfl⟩
            · skip
              refine regF ?_
              refine op_loadA (vs := [_, _, _, _, _, _]) Tryz.isAgg33 Tryz.sizeOf33 rfl (CellsAt.own (j := 0) (m := 6) (hS.at_ 0 rfl) rfl) rfl ?_
              refine op_loadA (vs := [_, _, _, _, _, _]) Tryz.isAgg33 Tryz.sizeOf33 rfl (CellsAt.own (j := 0) (m := 6) (hS.at_ 1 rfl) rfl) rfl ?_
              refine op_call (vs := [_, _]) hS goes_22 rfl (sameW_is hn3.is (hn0.agree (hS.since 3 rfl)).is false (by simp [hsame])) rfl ?_
              rintro e W15 ⟨rfl, hb⟩
              refine ⟨_, rfl, hb, fun hS' => ?_⟩
              clear hS; have hS := hS'; clear hS' hb
              refine op_not rfl rfl ?_
              refine endF ?_
              refine XF.thenN ?_
              refine condT rfl ?_
              refine regF ?_
              refine op_move rfl rfl ?_
              refine op_add rfl rfl (IntWalk.i64_in _ (by omega)) rfl ?_
              refine op_assign rfl rfl ?_
              refine endF ?_
              refine XF.thenN ?_
              refine regF ?_
              refine op_loadA (vs := [_, _, _, _, _, _]) Tryz.isAgg33 Tryz.sizeOf33 rfl (CellsAt.own (j := 0) (m := 6) (hS.at_ 0 rfl) rfl) rfl ?_
              refine op_storeA (i := 1) (vs := [_, _, _, _, _, _]) (cs' := [_, _, _, _, _, _]) (O' := [_, _, _]) hS Tryz.sizeOf33 rfl rfl rfl rfl rfl rfl rfl ?_
              clear hS; intro W16 hS
              refine endF ?_
              refine XF.blkN ?_
              refine XF.thenN ?_
              refine regF ?_
              refine op_move rfl rfl ?_
              refine op_add rfl rfl (IntWalk.i64_in _ (by omega)) rfl ?_
              refine op_assign rfl rfl ?_
              refine endF ?_
              have hn4 := newOff hn hf2 hbR.size (agreeX_of hA1 hA2 (hS.since 1 rfl) (hS.since 2 rfl))
              have hup := (rkX_up hok hov hoy).resolve_left hsame
              exact XF.round (200 - (k + 1)) [(1, _), (2, _), (5, _), (7, _), (9, _), (10, _)] (by omega) ⟨rfl, rfl, rfl, rfl, rfl, rfl, trivial⟩ ⟨k + 1, tn + 1, combX S v y, f2, _, _, by omega, by omega, rfl, rfl, comb_okX hok hov hoy, by omega, by omega, hsz1, hn4, hS.tail.clear.mark _ (two_lt hB7 hB2) rfl⟩
        · have hc45 := of_decide_eq_false hc; clear hc
          refine exitF ?_
          refine XF.thenX ?_
          refine XF.thenX ?_
          refine XF.blkX ?_
          refine XF.thenN ?_
          refine seqF ?_
          have hrk := rkX_le hok hov
          refine regF ?_
          refine op_move rfl rfl ?_
          refine op_move rfl rfl ?_
          refine op_leq rfl rfl rfl ?_
          refine op_move rfl rfl ?_
          refine op_cases (d := 81) rfl (fun hc => ?_) (fun hc => absurd (of_decide_eq_false hc) (by omega))
          have hc := of_decide_eq_true hc
          refine op_wantedF (d := 81) rfl rfl ?_
          refine op_call (vs := []) hS goes_11 rfl (aliveW_is _ (ht.below hS.below)) rfl ?_
          rintro e W17 ⟨rfl, hb⟩
          refine ⟨_, rfl, hb, fun hS' => ?_⟩
          clear hS; have hS := hS'; clear hS' hb
          refine op_pickT rfl rfl rfl ?_
          refine op_assign rfl rfl ?_
          refine endF ?_
          refine XF.thenN ?_
          refine retF ?_
          refine XF.res (res1 Tryz.results7 rfl) ?_
          exact ⟨rfl, hS.below⟩
      · have hg42 := of_decide_eq_false hc; clear hc
        refine op_notF (d := 42) rfl rfl rfl rfl ?_
        refine op_notF (d := 42) rfl rfl rfl rfl ?_
        refine op_pickF rfl rfl rfl ?_
        refine endF ?_
        refine XF.thenN ?_
        refine condN rfl ?_
        refine exitF ?_
        refine XF.thenX ?_
        refine XF.thenX ?_
        refine XF.blkX ?_
        refine XF.thenN ?_
        refine seqF ?_
        have hrk := rkX_le hok hov
        refine regF ?_
        refine op_move rfl rfl ?_
        refine op_move rfl rfl ?_
        refine op_leq rfl rfl rfl ?_
        refine op_move rfl rfl ?_
        refine op_cases (d := 81) rfl (fun hc => ?_) (fun hc => absurd (of_decide_eq_false hc) (by omega))
        have hc := of_decide_eq_true hc
        refine op_wantedF (d := 81) rfl rfl ?_
        refine op_call (vs := []) hS goes_11 rfl (aliveW_is _ (ht.below hS.below)) rfl ?_
        rintro e W18 ⟨rfl, hb⟩
        refine ⟨_, rfl, hb, fun hS' => ?_⟩
        clear hS; have hS := hS'; clear hS' hb
        refine op_pickT rfl rfl rfl ?_
        refine op_assign rfl rfl ?_
        refine endF ?_
        refine XF.thenN ?_
        refine retF ?_
        refine XF.res (res1 Tryz.results7 rfl) ?_
        exact ⟨rfl, hS.below⟩
    · skip
      refine regF ?_
      refine op_loadA (vs := [_, _, _]) Tryz.isAgg25 Tryz.sizeOf25 rfl (CellsAt.own (j := 0) (m := 3) (hS.at_ 0 rfl) rfl) rfl ?_
      refine op_call (vs := [_]) hS goes_16 rfl (HeightW_bad ds s _ (SIn.below hS.below hs) hse) rfl ?_
      rintro e W19 ⟨rfl, hb⟩
      refine ⟨_, rfl, hb, fun hS' => ?_⟩
      clear hS; have hS := hS'; clear hS' hb
      refine op_move rfl rfl ?_
      refine op_extract rfl rfl rfl ?_
      refine op_extract rfl rfl rfl ?_
      refine op_assign rfl rfl ?_
      refine op_assign rfl rfl ?_
      refine endF ?_
      refine XF.thenN ?_
      refine seqF ?_
      refine regF ?_
      refine op_loadA (vs := [_, _, _]) Tryz.isAgg25 Tryz.sizeOf25 rfl (CellsAt.own (j := 0) (m := 3) (hS.at_ 0 rfl) rfl) rfl ?_
      refine op_call (vs := [_]) hS goes_14 rfl (ZeroW_bad ds s _ (SIn.below hS.below hs) hse) rfl ?_
      rintro e W20 ⟨rfl, hb⟩
      refine ⟨_, rfl, hb, fun hS' => ?_⟩
      clear hS; have hS := hS'; clear hS' hb
      refine op_move rfl rfl ?_
      refine op_extract rfl rfl rfl ?_
      refine op_extract rfl rfl rfl ?_
      refine op_alloc (cs := [_, _, _, _, _, _]) hS Tryz.zeroValue33 rfl rfl ?_
      clear hS; intro B21 W21 hS
      refine op_storeA (i := 0) (vs := [_, _, _, _, _, _]) (cs' := [_, _, _, _, _, _]) (O' := [_, _]) hS Tryz.sizeOf33 rfl rfl rfl rfl rfl rfl rfl ?_
      clear hS; intro W22 hS
      refine op_assign rfl rfl ?_
      refine endF ?_
      refine XF.thenN ?_
      refine seqF ?_
      refine seqF ?_
      refine regF ?_
      refine op_move rfl rfl ?_
      refine op_neq rfl rfl rfl ?_
      refine op_move rfl rfl ?_
      refine op_cases (d := 28) rfl (fun hc => ?_) (fun hc => absurd (of_decide_eq_false hc) (by omega))
      have hc := of_decide_eq_true hc
      refine op_notF (d := 28) rfl rfl rfl rfl ?_
      refine op_notF (d := 28) rfl rfl rfl rfl ?_
      refine op_pickT rfl rfl rfl ?_
      refine endF ?_
      refine XF.thenN ?_
      refine condT rfl ?_
      refine seqF ?_
      refine regF ?_
      refine op_move rfl rfl ?_
      refine op_move rfl rfl ?_
      refine op_eql rfl rfl rfl ?_
      refine op_move rfl rfl ?_
      refine op_cases (d := 35) rfl (fun hc => ?_) (fun hc => absurd (of_decide_eq_false hc) (by omega))
      have hc := of_decide_eq_true hc
      refine op_wantedF (d := 35) rfl rfl ?_
      refine op_call (vs := []) hS goes_11 rfl (aliveW_is _ (ht.below hS.below)) rfl ?_
      rintro e W23 ⟨rfl, hb⟩
      refine ⟨_, rfl, hb, fun hS' => ?_⟩
      clear hS; have hS := hS'; clear hS' hb
      refine op_pickT rfl rfl rfl ?_
      refine op_assign rfl rfl ?_
      refine endF ?_
      refine XF.thenN ?_
      refine retF ?_
      refine XF.thenR ?_
      refine XF.res (res1 Tryz.results7 rfl) ?_
      exact ⟨rfl, hS.below⟩
end Go.Proofs.YtjcminoaiieckaaGreatDoor
namespace Go.Proofs.YtjcminoaiieckaaGreatDoor
open Go.RowKit Go.ChangeShapes Go.WideShapes Go.Deep Go.Joins
set_option linter.unusedVariables false
section
variable {H : Type} {enc : TypeId × Value → H} {w : World} {base : Nat} {spare : Nat → Bool} {held : Bool}
set_option maxRecDepth 100000 in
theorem weights_open {n : Nat} {a : Option Addr} {len cap : Nat} {x : DataW H × List MemPlace} (h : DataW.trod enc Tryz.prog w base spare held n 31 [.slice a len cap] = some x) :
    ∃ ps : List WV, ps.length = len ∧ PRow w a ps ∧ (∀ p ∈ ps, WIn w n p) ∧ len ≤ 9223372036854775807 := by
  rcases DataW.trod_slice Tryz.underlying31 h with ⟨hcs, _⟩ | ⟨ad, len', cap', elems, rest, n', hn', hcs, _, hb, hle, hcap, hel, hi, _, _⟩
  · simp at hcs
    obtain ⟨rfl, rfl, rfl⟩ := hcs
    exact ⟨[], rfl, .inl rfl, fun p hp => by (cases hp), by omega⟩
  · simp at hcs
    obtain ⟨rfl, rfl, rfl⟩ := hcs
    rw [show Tryz.prog.cellsOf 33 = 6 by kernel_rfl] at hi
    obtain ⟨ps, hpl, hps⟩ := list_pick len (fun i (p : WV) => (w.cell? (ad.add (i * 6)) = some (.bool p.f.z) ∧ w.cell? (ad.add (i * 6 + 1)) = some (.int .i64 p.f.c) ∧ w.cell? (ad.add (i * 6 + 2)) = some (.int .u64 (p.f.g : Int)) ∧ w.cell? (ad.add (i * 6 + 3)) = some (.slice p.f.ra p.f.rl p.f.rc) ∧ w.cell? (ad.add (i * 6 + 4)) = some (.slice p.f.ca p.f.cl p.f.cc) ∧ w.cell? (ad.add (i * 6 + 5)) = some (.slice p.f.pa p.f.pl p.f.pc)) ∧ WIn w n' p) (fun i hil => by
      have hii := hi i hil
      rw [List.getElem?_eq_getElem (by omega)] at hii
      obtain ⟨cs', hc, ht⟩ := Option.bind_eq_some_iff.1 hii
      obtain ⟨_, hcl, hat⟩ := World.cells?_some hc
      obtain ⟨s, rfl, hs⟩ := weight_in n' ht
      have e0 := hat 0 (by omega)
      have e1 := hat 1 (by omega)
      have e2 := hat 2 (by omega)
      have e3 := hat 3 (by omega)
      have e4 := hat 4 (by omega)
      have e5 := hat 5 (by omega)
      rw [Go.Deep.add_add] at e0 e1 e2 e3 e4 e5
      exact ⟨s, ⟨e0, e1, e2, e3, e4, e5⟩, hs⟩)
    refine ⟨ps, hpl, ?_, fun p hp => ?_, by have h1 : cap ≤ maxLen := hcap; simp only [maxLen] at h1; omega⟩
    · rcases Nat.eq_zero_or_pos len with h0 | h0
      · exact .inl (List.length_eq_zero_iff.1 (by omega))
      · obtain ⟨b, off, spot⟩ := ad
        obtain ⟨⟨h1, _⟩, _⟩ := hps 0 (ps[0]'(by omega)) (List.getElem?_eq_getElem (by omega))
        have hspot : spot = none := by simpa [Addr.add] using World.cell?_spot h1
        subst hspot
        refine .inr ⟨b, off, rfl, fun i c hic => ?_⟩
        have e : ∀ k, ({ block := b, off := off } : Addr).add k = ⟨b, off + k, none⟩ := fun k => by simp [Addr.add]
        have h3 := (hps i c hic).1
        rw [e, e, e, e, e, e, ← Nat.add_assoc, ← Nat.add_assoc, ← Nat.add_assoc, ← Nat.add_assoc, ← Nat.add_assoc] at h3
        exact h3
    · obtain ⟨i, hi', hic⟩ := List.mem_iff_getElem.1 hp
      exact (hps i p (by rw [← hic]; exact List.getElem?_eq_getElem hi')).2.more (by omega)
end
end Go.Proofs.YtjcminoaiieckaaGreatDoor
