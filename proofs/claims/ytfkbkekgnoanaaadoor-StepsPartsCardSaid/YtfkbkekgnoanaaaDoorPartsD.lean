import Derived.Orders
import Derived.Below
import Derived.Deep.RegionHeld
import Derived.WalkKit
import Derived.KernelRfl
import Derived.Laws.Rows
import Derived.Laws.AppendOwn
import Derived.Laws.Strings
import Derived.Laws.Small
import Derived.Lib.Hide
import Derived.IntWalk
import Derived.Laws.Tables
import Derived.Laws.Concat
import Derived.Laws.MakeOwn
import Derived.Test.YtfkbkekgnoanaaaDoorProg
import Derived.Test.YtfkbkekgnoanaaaDoorRows
import Derived.Lib.LaidTab
import Derived.Lib.ItoaNum
import Derived.Lib.TrailingZeros
import Derived.Stop.LaidErr
import Derived.WalkSmall
import Derived.LaidMore
import Derived.Shelf.Spec.TrailingZeros
import Derived.Laws.BitsAllLaws
import Derived.Laws.Bits64
import Derived.Deep.QuietTactic
import Derived.BigQuiet
import Derived.RegionTactic
import Derived.BigRegion
import Derived.Deep.RegionHeld3
import Derived.ChangeAlike
import Derived.RangeFuncNested
import Derived.RangeFuncBound
import Derived.RangeFuncCalls
import Derived.RangeFuncLeaves
import Derived.Shelf.Abstract
import Derived.Shelf.RegionOpen
import Derived.OwnWalkIn
import Derived.TacticsInMore
import Derived.LoopNIn
import Derived.LoopIn
import Derived.Laws.Bits128
import Derived.Deep.AppendLies
import Derived.Maps.AppendAt
import Derived.Shelf.Strconv.Itoa0
import Derived.Shelf.Strconv.Itoa1
import Derived.Shelf.LaysM
import Derived.Shelf.Strconv.Itoa2
import Derived.Shelf.Strconv.AppendUint10
import Derived.Shelf.Strconv.AppendInt10
import Derived.Shelf.Strconv.AppendIntPublic10
import Derived.Shelf.Slices.Reverse
import Derived.Shelf.Slices.Equal
import Derived.Ground.Names2Prog
import Derived.Shelf.Slices.Clone
import Derived.Shelf.Slices.Cells
import Derived.Shelf.Slices.Empties2
import Derived.Lib.OthersKept
import Derived.Laws.IdiomStrings
import Derived.StillTailTactics
import Derived.Deep.RegionLaw
import Derived.Deep.DeepCutAuto
import Derived.Deep.CutRange
import Derived.Deep.RegionWith
import Derived.Laws.Bits64b
import Derived.Deep.DrawnRows
import Derived.Lib.SliceRun
import Derived.Laws.OwnMore
import Derived.OwnWalk
import Derived.WalkSpells
import Derived.Lib.Join
import Derived.Test.YtfkbkekgnoanaaaDoorPartsA
import Derived.Test.YtfkbkekgnoanaaaDoorPartsB
import Derived.Test.YtfkbkekgnoanaaaDoorPartsC
set_option maxRecDepth 100000
set_option maxHeartbeats 4000000
set_option linter.unusedVariables false
set_option linter.unusedVariables false
set_option linter.unusedSimpArgs false
set_option linter.unusedSectionVars false
set_option linter.unnecessarySimpa false
namespace Go.Proofs.YtfkbkekgnoanaaaDoor
open Go Go.RowKit
theorem VRow.agree {A W : World} {lo : Nat} {a : Option Addr} {vs : List Value} (h : VRow A a vs) (hl : ∀ ad, a = some ad → lo ≤ ad.block) (hg : Agree lo A W) : VRow W a vs := by
 rcases h with h | ⟨b, off, rfl, hc⟩
 ·exact .inl h
 ·exact .inr ⟨b, off, rfl, fun i v hi => hg.cell (p := ⟨b, off + i, none⟩) (hl ⟨b, off, none⟩ rfl) (hc i v hi)⟩
theorem CRow.agree {A W : World} {lo : Nat} {a : Option Addr} {cs : List Cl} (h : CRow A a cs) (hl : ∀ ad, a = some ad → lo ≤ ad.block) (hg : Agree lo A W) : CRow W a cs := by
 rcases h with h | ⟨b, off, rfl, hc⟩
 ·exact .inl h
 ·exact .inr ⟨b, off, rfl, fun i c hi => ⟨hg.cell (p := ⟨b, _, none⟩) (hl ⟨b, off, none⟩ rfl) (hc i c hi).1, hg.cell (p := ⟨b, _, none⟩) (hl ⟨b, off, none⟩ rfl) (hc i c hi).2.1, hg.cell (p := ⟨b, _, none⟩) (hl ⟨b, off, none⟩ rfl) (hc i c hi).2.2⟩⟩
theorem W6.agree {A W : World} {lo b o : Nat} {f : WF} (h : W6 A b o f) (hb : lo ≤ b) (hg : Agree lo A W) : W6 W b o f :=
 ⟨hg.cell hb h.1, hg.cell hb h.2.1, hg.cell hb h.2.2.1, hg.cell hb h.2.2.2.1, hg.cell hb h.2.2.2.2.1, hg.cell hb h.2.2.2.2.2⟩
theorem PNew.agree {n : Nat} {A W : World} {t d : Int} {f : WF} {a : PF} (h : PNew n A t d f a) (hg : Agree n A W) : PNew n W t d f a :=
 ⟨⟨⟨h.is.at_.rows.agree h.ra hg, h.is.at_.rl, h.is.at_.g64, h.is.at_.r64, h.is.at_.cells.agree h.ca hg, h.is.at_.cl, h.is.at_.bits, h.is.at_.cmax⟩, h.is.pf, h.is.ok, h.is.pl⟩, h.ra, h.ca⟩
theorem XNew.agree {n : Nat} {A W : World} {S : PS} {f : WF} {x : PX} (h : XNew n A S f x) (hg : Agree n A W) : XNew n W S f x := by
 cases S <;> cases x <;> first | exact h.elim | exact PNew.agree h hg | skip
 obtain ⟨h1, h2, h3, h4, blk, g, k, h5, h0, h6, h7, h8, h9⟩ := h
 exact ⟨h1, h2, h3, h4, blk, g, k, h5, h0, h6.agree h0 hg, h7.agree h0 hg, h8.agree hg, h9.agree hg⟩
theorem W6.cells {w : World} {b o : Nat} {f : WF} (h : W6 w b o f) : CellsAt w b o f.six := ⟨h.1, h.2.1, h.2.2.1, h.2.2.2.1, h.2.2.2.2.1, h.2.2.2.2.2, trivial⟩
theorem W6.of_cells {w : World} {b o : Nat} {f : WF} (h : CellsAt w b o f.six) : W6 w b o f := ⟨h.1, h.2.1, h.2.2.1, h.2.2.2.1, h.2.2.2.2.1, h.2.2.2.2.2.1⟩
abbrev SF.three (f : SF) : List Value := [.int .i64 f.tag, .int .i64 f.dim, .slice f.a f.len f.cap]
theorem S3.cells {w : World} {b o : Nat} {f : SF} (h : S3 w b o f) : CellsAt w b o f.three := ⟨h.1, h.2.1, h.2.2, trivial⟩
abbrev costF (c : Int) : WF := ⟨false, c, 0, none, 0, 0, [], none, 0, 0, [], none, 0, 0⟩
abbrev factsF (g : Nat) (a : Option Addr) (cap : Nat) (rows : List Nat) : WF := ⟨false, 0, g, a, rows.length, cap, rows, none, 0, 0, [], none, 0, 0⟩
abbrev cellsF (a : Option Addr) (cap : Nat) (cs : List Cl) : WF := ⟨false, 0, 0, none, 0, 0, [], a, cs.length, cap, cs, none, 0, 0⟩
theorem new_cost {n : Nat} {W : World} {t d c : Int} (h : OkP t d (pC c)) : PNew n W t d (costF c) (pC c) :=
 ⟨⟨⟨.inl rfl, rfl, (by show (0 : Nat) < _; decide), (fun r hr => by cases hr), .inl rfl, rfl, (fun c hc => by cases hc), (by show (0 : Nat) ≤ _; decide)⟩, rfl, h, rfl⟩, (fun ad e => by cases e), (fun ad e => by cases e)⟩
theorem new_facts {n : Nat} {W : World} {t d : Int} {g : Nat} {a : Option Addr} {cap : Nat} {rows : List Nat} (h : OkP t d (pF g rows)) (hg : g < 18446744073709551616) (hr : ∀ r ∈ rows, r < 18446744073709551616) (hv : VRow W a (u64s rows)) (hl : ∀ ad, a = some ad → n ≤ ad.block) : PNew n W t d (factsF g a cap rows) (pF g rows) :=
 ⟨⟨⟨hv, rfl, hg, hr, .inl rfl, rfl, (fun c hc => by cases hc), by simp [maxLen]⟩, rfl, h, rfl⟩, hl, (fun ad e => by cases e)⟩
theorem new_cells {n : Nat} {W : World} {t d : Int} {a : Option Addr} {cap : Nat} {cs : List Cl} (h : OkP t d (pX cs)) (hb : Bits cs) (hm : cs.length ≤ maxLen) (hv : CRow W a cs) (hl : ∀ ad, a = some ad → n ≤ ad.block) : PNew n W t d (cellsF a cap cs) (pX cs) :=
 ⟨⟨⟨.inl rfl, rfl, (by show (0 : Nat) < _; decide), (fun r hr => by cases hr), hv, rfl, hb, hm⟩, rfl, h, rfl⟩, (fun ad e => by cases e), hl⟩
theorem PIs.z {w : World} {t n : Int} {f : WF} {x : PF} (h : PIs w t n f x) : x.z = f.z := by rw [← h.pf]; rfl
theorem PIs.zero {w : World} {t n : Int} {f : WF} {x : PF} (h : PIs w t n f x) (hz : f.z = true) : x = zeroP := by
 have h1 := h.z; have h2 := h.ok
 rw [hz] at h1
 cases h2 <;> first | rfl | cases h1
theorem pf_inj {f : WF} {x : PF} (h : f.pf = x) : f.z = x.z ∧ f.c = x.c ∧ f.g = x.g ∧ f.rows = x.rows ∧ f.cells = x.cells := by subst h; exact ⟨rfl, rfl, rfl, rfl, rfl⟩
theorem PIs.k1 {w : World} {n : Int} {f : WF} {x : PF} (h : PIs w 1 n f x) (hz : f.z = false) : x = pC 0 := by
 rcases okP_1 h.ok with rfl | rfl
 ·rw [(pf_inj h.pf).1] at hz; cases hz
 ·rfl
theorem PIs.k2 {w : World} {n : Int} {f : WF} {x : PF} (h : PIs w 2 n f x) (hz : f.z = false) : x = pC f.c ∧ 0 ≤ f.c ∧ f.c ≤ n := by
 rcases okP_2 h.ok with rfl | ⟨c, rfl, h0, h1⟩
 ·rw [(pf_inj h.pf).1] at hz; cases hz
 ·have : f.c = c := (pf_inj h.pf).2.1
  subst this; exact ⟨rfl, h0, h1⟩
theorem PIs.k3 {w : World} {m : Nat} {f : WF} {x : PF} (h : PIs w 3 m f x) (hz : f.z = false) : x = pF f.g f.rows ∧ Good m f.g f.rows := by
 rcases okP_3 h.ok with rfl | ⟨g, rows, rfl, h0⟩
 ·rw [(pf_inj h.pf).1] at hz; cases hz
 ·have h1 : f.g = g := (pf_inj h.pf).2.2.1
  have h2 : f.rows = rows := (pf_inj h.pf).2.2.2.1
  subst h1; subst h2; exact ⟨rfl, h0⟩
theorem PIs.k4 {w : World} {m : Nat} {f : WF} {x : PF} (h : PIs w 4 m f x) (hz : f.z = false) : x = pX f.cells ∧ Val m f.cells := by
 rcases okP_4 h.ok with rfl | ⟨cs, rfl, h0⟩
 ·rw [(pf_inj h.pf).1] at hz; cases hz
 ·have h1 : f.cells = cs := (pf_inj h.pf).2.2.2.2
  subst h1; exact ⟨rfl, h0⟩
theorem row_own {W : World} {B : Nat} {T : TypeId} {a b : Int} (h : W.heap[B]? = some (.cells (List.toArray [.int .i64 a, .int .i64 b]) T (0, 0))) : Row W (some ⟨B, 0, none⟩) [a, b] := by
 refine .inr ⟨B, 0, rfl, fun i hi => ?_⟩
 match i, hi with
 | 0, _ => exact cell_own h rfl
 | 1, _ => exact cell_own h rfl
theorem then_is (d : Int) (a b : Option Addr) (capa capb : Nat) (xs ys : List Cl) (w : World) (ht : Tabs w) (hma : xs.length ≤ maxLen) (hmb : ys.length ≤ maxLen) (hra : CRow w a xs) (hrb : CRow w b ys) (hba : Bits xs) (hbb : Bits ys) (c : Int) (hc : chk2C d xs ys = c) (la lb : Nat) (hla : xs.length = la) (hlb : ys.length = lb) :
  Calls Tryd.prog 83 #[.int .i64 d, .slice a la capa, .slice b lb capb] w (CellsRet (thenR d xs ys) c w) := by
 subst hla; subst hlb; exact then_any d a b capa capb xs ys w ht hma hmb hra hrb hba hbb c hc
theorem plain_ne5 {t n : Int} {l : Nat} (h : plainB t n l = true) : t ≠ 5 := pl_pair h
section
variable {w W : World} {k : Nat} {n : Int} {f g : WF} {x y : PF}
theorem wret_one {t : Int} {f : WF} {x : PF} (h : PNew w.heap.size W t n f x) (hb : Below w.heap.size w W) : WRet (.one t n) (.one x) w (.returned f.val) W := ⟨f, rfl, h, hb⟩
theorem ext_zL {t : Int} (hx : PIs w t n f x) (hz : f.z = true) (hb : Below w.heap.size w W) : WRet (.one t n) (.one (extP t n x y)) w (.returned zeroF.val) W := by
 rw [hx.zero hz, ext_zl]; exact wret_one (zero_new _ _ _ _) hb
theorem ext_zR {t : Int} (hy : PIs w t n g y) (hz : g.z = true) (hb : Below w.heap.size w W) : WRet (.one t n) (.one (extP t n x y)) w (.returned zeroF.val) W := by
 rw [hy.zero hz, ext_zr]; exact wret_one (zero_new _ _ _ _) hb
theorem ext_f1 (hx : PIs w 1 n f x) (hy : PIs w 1 n g y) (hf : f.z = false) (hg : g.z = false) : PNew k W 1 n (costF 0) (extP 1 n x y) := by
 rw [hx.k1 hf, hy.k1 hg, ext_1]; exact new_cost (.bool rfl)
theorem ext_f2 (hp : plainB 2 n 0 = true) (hx : PIs w 2 n f x) (hy : PIs w 2 n g y) (hf : f.z = false) (hg : g.z = false) : PNew k W 2 n (costF (sumR n [f.c, g.c])) (extP 2 n x y) := by
 obtain ⟨rfl, h0, h1⟩ := hx.k2 hf
 obtain ⟨rfl, h2, h3⟩ := hy.k2 hg
 obtain ⟨d0, d1, _⟩ := plainB_dim hp
 have hs : sumR n [f.c, g.c] = min (f.c + g.c) n := by
  rw [sum_two (chk2_iff.2 ⟨d0, d1, ⟨by omega, by omega⟩, by omega, by omega⟩)]
  unfold added; rw [if_neg (by omega)]
 rw [ext_2, hs]
 exact new_cost (.cost _ rfl (by omega) (by omega))
theorem ext_f3 {m : Nat} {a : Option Addr} {cap : Nat} (hx : PIs w 3 m f x) (hy : PIs w 3 m g y) (hf : f.z = false) (hg : g.z = false) (hv : VRow W a (u64s (extV m f.g f.rows g.g g.rows))) (hl : ∀ ad, a = some ad → k ≤ ad.block) : PNew k W 3 m (factsF (extG m f.g f.rows g.g g.rows) a cap (extV m f.g f.rows g.g g.rows)) (extP 3 m x y) := by
 obtain ⟨hx', h0⟩ := hx.k3 hf
 obtain ⟨hy', h1⟩ := hy.k3 hg
 rw [hx', hy', ext_3]
 exact new_facts (.facts m _ _ rfl rfl (h0.extT h1)) (h0.extT h1).g64 (h0.extT h1).r64 hv hl
theorem ext_f4 {m : Nat} {a : Option Addr} {cap : Nat} (hx : PIs w 4 m f x) (hy : PIs w 4 m g y) (hf : f.z = false) (hg : g.z = false) (hv : CRow W a (thenR m f.cells g.cells)) (hl : ∀ ad, a = some ad → k ≤ ad.block) : PNew k W 4 m (cellsF a cap (thenR m f.cells g.cells)) (extP 4 m x y) := by
 obtain ⟨hx', h0⟩ := hx.k4 hf
 obtain ⟨hy', h1⟩ := hy.k4 hg
 have e : thenR m f.cells g.cells = thenC f.cells g.cells := by unfold thenR; rw [if_pos (h0.chk2 h1)]
 have hv2 := val_then h0 h1
 rw [e] at hv ⊢
 rw [hx', hy', ext_4]
 exact new_cells (.cells m _ rfl rfl hv2) hv2.bits (by have := hv2.le; have := hv2.len; unfold maxLen; omega) hv hl
theorem one_f1 {t : Int} (hp : plainB t n 0 = true) (h3 : t ≠ 3) (h4 : t ≠ 4) : PNew k W t n (costF 0) (oneP t n) := by
 have h := one_okP hp
 have e : oneP t n = pC 0 := by unfold oneP; rw [if_neg h3, if_neg h4]
 rw [e] at h ⊢
 exact new_cost h
theorem one_f3 {m : Nat} {a : Option Addr} {cap : Nat} (hm : m ≤ 64) (hv : VRow W a (u64s (onesL m))) (hl : ∀ ad, a = some ad → k ≤ ad.block) : PNew k W 3 m (factsF 0 a cap (onesL m)) (oneP 3 m) := by
 rw [one_3]
 exact new_facts (.facts m _ _ rfl rfl (ones_good hm)) (by decide) (ones_good hm).r64 hv hl
theorem one_f4 {m : Nat} {a : Option Addr} {cap : Nat} (hm : m ≤ 64) (hv : CRow W a (unitC m)) (hl : ∀ ad, a = some ad → k ≤ ad.block) : PNew k W 4 m (cellsF a cap (unitC m)) (oneP 4 m) := by
 have h := val_unit hm
 rw [one_4]
 exact new_cells (.cells m _ rfl rfl h) h.bits (by have := h.len; unfold maxLen; omega) hv hl
theorem dim3 {t : Int} {l : Nat} (h : plainB t n l = true) (ht : t = 3 ∨ t = 4) : ∃ m : Nat, n = m ∧ m ≤ 64 := by
 obtain ⟨d0, _, _, d3⟩ := plainB_dim h
 exact ⟨n.toNat, by omega, by have := d3 ht; omega⟩
theorem Tabs.c {w : World} (h : Tabs w) : TabC w := ⟨h.ctz⟩
end
def SIs (w : World) : PS → SF → Prop
 | .one t n, f => ∃ a c, f = ⟨t, n, a, 0, c⟩
 | .two t n u m, f => ∃ b off c a1 c1 a2 c2, f = ⟨5, 0, some ⟨b, off, none⟩, 2, c⟩ ∧ S3 w b off ⟨t, n, a1, 0, c1⟩ ∧ S3 w b (off + 3) ⟨u, m, a2, 0, c2⟩
theorem SIs.below {w w' : World} {S : PS} {f : SF} (h : SIs w S f) (hb : Below w.heap.size w w') : SIs w' S f := by
 cases S with
 | one t n => exact h
 | two t n u m =>
  obtain ⟨b, off, c, a1, c1, a2, c2, h1, h2, h3⟩ := h
  exact ⟨b, off, c, a1, c1, a2, c2, h1, h2.below hb, h3.below hb⟩
def isNew (lo : Nat) (S : PS) (x : PX) : Asr := fun v w => ∃ f : WF, v = f.val ∧ XNew lo w S f x
theorem stab_isNew {lo : Nat} {S : PS} {x : PX} : Stab (isNew lo S x) := fun v w w' ⟨f, h1, h2⟩ hb => ⟨f, h1, h2.below hb⟩
theorem wret_gives {P : Program} {f : FuncId} {vs : Array Value} {w : World} {S : PS} {x : PX} {lo : Nat} (hlo : lo ≤ w.heap.size) (h : Calls P f vs w (WRet S x w)) : Calls P f vs w (Gives (isNew lo S x) w) := h.mono fun e w' ⟨f, he, hn, hb⟩ => ⟨f.val, he, ⟨f, rfl, hn.mono hlo⟩, hb⟩
theorem holds2 {p q : Asr} {vs : List Value} {w : World} (h : Holds [p, q] vs w) : ∃ a b, vs = [a, b] ∧ p a w ∧ q b w := by
 match vs, h with
 | [a, b], h => exact ⟨a, b, rfl, h.1, h.2.1⟩
theorem pair_gives {w : World} {lo : Nat} {t n u m : Int} {a b : PF} {vs : List Value} (hlo : lo ≤ w.heap.size) (h : Holds [isNew lo (.one t n) (.one a), isNew lo (.one u m) (.one b)] vs w) : Calls Tryd.prog 75 vs.toArray w (Gives (isNew lo (.two t n u m) (.two a b)) w) := by
 obtain ⟨v1, v2, rfl, ⟨f, rfl, hf⟩, g, rfl, hg⟩ := holds2 h
 refine (pair_is f g w).mono ?_
 rintro e w' ⟨blk, rfl, h6, h7, hb1, hb⟩
 exact ⟨_, rfl, ⟨pairF blk, rfl, pair_new h6 h7 (Nat.le_trans hlo hb1) (PNew.below hf hb) (PNew.below hg hb)⟩, hb⟩
end Go.Proofs.YtfkbkekgnoanaaaDoor
namespace Go.Proofs.YtfkbkekgnoanaaaDoor
open Go.RowKit
attribute [local go_sem ↓] Go.wp_at_zero Go.wp_at_succ
theorem urow_of_own {w : World} {base : Nat} {v : Value} {n : Nat} {rows : List Nat} (h : w.ownsRow base 40 1 v n (u64s rows)) :
  n = rows.length ∧ ∃ a cap, v = .slice a n cap ∧ VRow w a (u64s rows) ∧ ∀ ad, a = some ad → base ≤ ad.block := by
 have hl := h.1
 rw [u64s_length] at hl
 refine ⟨by omega, ?_⟩
 rcases h.2 with ⟨rfl, hn⟩ | ⟨g, cap, cur, rfl, hg, hh, h1, h2, h3, h4⟩
 ·have : rows = [] := List.length_eq_zero_iff.1 (by omega)
  subst this
  exact ⟨none, 0, by rw [hn], .inl rfl, fun ad e => by cases e⟩
 ·refine ⟨some ⟨g, 0, none⟩, cap, rfl, .inr ⟨g, 0, rfl, fun i u hi => ?_⟩, fun ad e => by cases e; exact hg⟩
  rw [← h4] at hi
  rw [List.getElem?_take] at hi
  split at hi
  ·unfold World.cell?
   simp only [hh, Nat.zero_add]
   simpa using hi
  ·cases hi
theorem PIs.rows64 {w : World} {t n : Int} {l : Nat} {f : WF} {a : PF} (h : PIs w t n f a) : f.rl ≤ 64 ∧ f.cl ≤ 64 := by
 have h1 := h.at_.rl; have h2 := h.at_.cl; have h3 := h.pf; have h4 := h.ok
 subst h3
 unfold WF.pf at h4
 generalize hr : f.rows = rows at *
 generalize hc : f.cells = cells at *
 generalize f.g = g at *
 generalize f.z = z at *
 generalize f.c = c at *
 have key : rows.length ≤ 64 ∧ cells.length ≤ 64 := by
  generalize hp : (⟨z, c, g, rows, cells⟩ : PF) = p at h4
  cases h4 with
  | zero => cases hp; exact ⟨by decide, by decide⟩
  | bool h => cases hp; exact ⟨by decide, by decide⟩
  | cost c h h0 h1 => cases hp; exact ⟨by decide, by decide⟩
  | facts m g rows h hn hg => cases hp; exact ⟨by rw [hg.hl]; exact hg.hm, by decide⟩
  | cells m cs h hn hv => cases hp; exact ⟨by decide, by rw [hv.len]; exact hv.le⟩
 omega
theorem cclone_is (a : Option Addr) (cap : Nat) (cs : List Cl) (w : World) (hm : cs.length ≤ 64) (hrow : CRow w a cs) (n : Nat) (hn : cs.length = n) :
  Calls Tryd.prog 80 #[.slice a n cap] w fun e w' => ∃ a2 c2, e = .returned (.slice a2 n c2) ∧ CRow w' a2 cs ∧ (∀ ad, a2 = some ad → w.heap.size ≤ ad.block) ∧ Below w.heap.size w w' := by
 subst hn
 refine (clone_any a cap cs w hm hrow).mono ?_
 rintro e w' ⟨v, rfl, hown, hb⟩
 obtain ⟨_, a2, c2, rfl, hr, hl⟩ := crow_of_own hown
 exact ⟨a2, c2, rfl, hr, fun ad e => (hl ad e).1, hb⟩
theorem copied_plain (t n : Int) (f : WF) (x : PF) (w : World) (h : PIs w t n f x) :
  Calls Tryd.prog 61 #[f.val] w fun e w' => ∃ g : WF, e = .returned g.val ∧ PNew w.heap.size w' t n g x ∧ Below w.heap.size w w' := by
 obtain ⟨r64, c64⟩ := h.rows64 (l := 0)
 have HI := Lib.hid h
 have hrl := h.at_.rl; have hcl := h.at_.cl; have hpl := h.pl
 obtain ⟨z, c, g, ra, rl, rc, rows, ca, cl, cc, cells, pa, pl, pc⟩ := f
 dsimp only at hrl hcl hpl r64 c64
 subst hpl
 show Calls Tryd.prog 61 #[.agg #[.bool z, .int .i64 c, .int .u64 (g : Int), .slice ra rl rc, .slice ca cl cc, .slice pa 0 pc]] w _
 have HRL := Lib.hid hrl; have HCL := Lib.hid hcl
 obtain ⟨t0, t1⟩ := two_boxes2 w #[.bool z, .int .i64 c, .int .u64 (g : Int), .slice ra rl rc, .slice ca cl cc, .slice pa 0 pc] #[.bool false, .int .i64 0, .int .u64 0, .slice none 0 0, .slice none 0 0, .slice none 0 0] 47 47
 have T0 := Lib.hid t0; have T1 := Lib.hid t1
 have hB := Lib.hid (wbox w #[.bool z, .int .i64 c, .int .u64 (g : Int), .slice ra rl rc, .slice ca cl cc, .slice pa 0 pc] #[.bool false, .int .i64 0, .int .u64 0, .slice none 0 0, .slice none 0 0, .slice none 0 0] 47 47)
 have hsz : ((w.alloc (.cells #[.bool z, .int .i64 c, .int .u64 (g : Int), .slice ra rl rc, .slice ca cl cc, .slice pa 0 pc] 47)).alloc (.cells #[.bool false, .int .i64 0, .int .u64 0, .slice none 0 0, .slice none 0 0, .slice none 0 0] 47)).heap.size = w.heap.size + 1 + 1 := by simp
 obtain ⟨W0, hW0⟩ : ∃ W, (w.alloc (.cells #[.bool z, .int .i64 c, .int .u64 (g : Int), .slice ra rl rc, .slice ca cl cc, .slice pa 0 pc] 47)).alloc (.cells #[.bool false, .int .i64 0, .int .u64 0, .slice none 0 0, .slice none 0 0, .slice none 0 0] 47) = W := ⟨_, rfl⟩
 rw [hW0] at hB T0 T1 hsz
 have HSZ := Lib.hid hsz
 obtain ⟨x0, x1, x2, x3, x4, x5⟩ := six_cells T0.out
 have HAT : Hid (WF.At w ⟨z, c, g, ra, rl, rc, rows, ca, cl, cc, cells, pa, 0, pc⟩) := h.at_
 have R64 := Lib.hid r64; have C64 := Lib.hid c64
 clear t0 t1 hsz h hrl hcl r64 c64
 go_enter Tryd.func61, Tryd.ntmps61
 go_wp2_with fail
 refine (clone_is ra rc rows _ (by rw [HRL.out]; exact Nat.le_trans R64.out (by decide)) (HAT.out.rows.below hB.out) rl HRL.out).mono ?_
 rintro e w1 ⟨v, rfl, hown, hb1⟩
 obtain ⟨a1, c1, rfl, hv1, hl1⟩ := (urow_of_own hown).2
 have HV1 := Lib.hid hv1; have HL1 := Lib.hid hl1
 clear hown hv1 hl1 x0 x1 x2 x3 x4 x5
 have U0 := Lib.hid (heap_old T0.out hb1); have U1 := Lib.hid (heap_old T1.out hb1)
 have hB1 := Lib.hid (hB.out.trans (hb1.mono hB.out.size))
 obtain ⟨x0, x1, x2, x3, x4, x5⟩ := six_cells U0.out
 have f3 := six_frozen U0.out 3
 have V0 := Lib.hid (heap_setCell_same w1 w.heap.size 3 _ _ (.slice a1 rl c1) U0.out)
 have hne : w.heap.size + 1 ≠ w.heap.size := by omega
 have V1 := Lib.hid (heap_other (B := w.heap.size) (j := 3) (c := .slice a1 rl c1) U1.out hne)
 have hB2 := Lib.hid (hB1.out.setCell (p := ⟨w.heap.size, 3, none⟩) (Nat.le_refl _) (.slice a1 rl c1))
 have hs1 : W0.heap.size ≤ (w1.setCell ⟨w.heap.size, 3, none⟩ (.slice a1 rl c1)).heap.size := by simpa [World.setCell] using hb1.size
 have HS1 := Lib.hid hs1
 obtain ⟨W1, hW1⟩ : ∃ W, w1.setCell ⟨w.heap.size, 3, none⟩ (.slice a1 rl c1) = W := ⟨_, rfl⟩
 have HA1 := Lib.hid (HV1.out.above HL1.out ((Above.refl W0.heap.size w1).setCell (p := ⟨w.heap.size, 3, none⟩) (by have := HSZ.out; show w.heap.size < _; omega) (.slice a1 rl c1)))
 rw [hW1] at V0 V1 hB2 HS1 HA1
 clear hs1 hne x0 x1 x2 x4 x5
 obtain ⟨y0, y1, y2, y3, y4, y5⟩ := six_cells V0.out
 go_wp2_with fail
 refine (cclone_is ca cc cells _ (by rw [HCL.out]; exact C64.out) (HAT.out.cells.below hB2.out) cl HCL.out).mono ?_
 rintro e w2 ⟨a2, c2, rfl, hv2, hl2, hb2⟩
 have HV2 := Lib.hid hv2; have HL2 := Lib.hid hl2
 clear hv2 hl2 x3 y0 y1 y2 y3 y4 y5 f3
 have Y0 := Lib.hid (heap_old V0.out hb2); have Y1 := Lib.hid (heap_old V1.out hb2)
 obtain ⟨x0, x1, x2, x3, x4, x5⟩ := six_cells Y0.out
 have f4 := six_frozen Y0.out 4
 have hB3 := Lib.hid (hB2.out.trans (hb2.mono hB2.out.size))
 have Z0 := Lib.hid (heap_setCell_same w2 w.heap.size 4 _ _ (.slice a2 cl c2) Y0.out)
 have hne : w.heap.size + 1 ≠ w.heap.size := by omega
 have Z1 := Lib.hid (heap_other (B := w.heap.size) (j := 4) (c := .slice a2 cl c2) Y1.out hne)
 have hB4 := Lib.hid (hB3.out.setCell (p := ⟨w.heap.size, 4, none⟩) (Nat.le_refl _) (.slice a2 cl c2))
 have HR1 := Lib.hid ((HA1.out.below hb2).above HL1.out ((Above.refl W0.heap.size w2).setCell (p := ⟨w.heap.size, 4, none⟩) (by have := HSZ.out; show w.heap.size < _; omega) (.slice a2 cl c2)))
 have HL3 : Hid (∀ ad, a2 = some ad → W0.heap.size ≤ ad.block) := fun ad e => Nat.le_trans HS1.out (HL2.out ad e)
 have HR2 := Lib.hid (HV2.out.above HL3.out ((Above.refl W0.heap.size w2).setCell (p := ⟨w.heap.size, 4, none⟩) (by have := HSZ.out; show w.heap.size < _; omega) (.slice a2 cl c2)))
 obtain ⟨W2, hW2⟩ : ∃ W, w2.setCell ⟨w.heap.size, 4, none⟩ (.slice a2 cl c2) = W := ⟨_, rfl⟩
 rw [hW2] at Z0 Z1 hB4 HR1 HR2
 clear hne
 obtain ⟨p0, p1, p2, p3, p4, p5⟩ := six_cells Z0.out
 have f5 := six_frozen Z0.out 5
 go_wp2_with fail
 go_loopw [3, 19] (fun p i wr => p = .slice none 0 0 ∧ i = .int .i64 0 ∧ W2 = wr) (fun _ _ _ => 0)
 case atStart => exact ⟨rfl, rfl, rfl⟩
 case round =>
  obtain ⟨rfl, rfl, rfl⟩ := hrel
  have N0 := Lib.hid (heap_setCell_same W2 w.heap.size 5 _ _ (.slice none 0 0) Z0.out)
  have hne : w.heap.size + 1 ≠ w.heap.size := by omega
  have N1 := Lib.hid (heap_other (B := w.heap.size) (j := 5) (c := .slice none 0 0) Z1.out hne)
  obtain ⟨W3, hW3⟩ : ∃ W, W2.setCell ⟨w.heap.size, 5, none⟩ (.slice none 0 0) = W := ⟨_, rfl⟩
  rw [hW3] at N0 N1
  have K0 := N0.out
  obtain ⟨q0, q1, q2, q3, q4, q5⟩ := six_cells N0.out
  obtain ⟨r0, r1, r2, r3, r4, r5⟩ := six_cells N1.out
  have g0 := six_frozen N1.out 0; have g1 := six_frozen N1.out 1; have g2 := six_frozen N1.out 2; have g3 := six_frozen N1.out 3; have g4 := six_frozen N1.out 4; have g5 := six_frozen N1.out 5
  have hA3 : Above W0.heap.size W2 W3 := by rw [← hW3]; exact (Above.refl W0.heap.size W2).setCell (p := ⟨w.heap.size, 5, none⟩) (by have := HSZ.out; show w.heap.size < _; omega) _
  have HA3 := Lib.hid hA3
  have hB5 : Hid (Below w.heap.size w W3) := by show Below _ _ _; rw [← hW3]; exact hB4.out.setCell (p := ⟨w.heap.size, 5, none⟩) (Nat.le_refl _) _
  clear K0 hne hA3
  go_wp2_with fail
  have NS := Lib.hid (six_set (v0 := .bool z) (v1 := .int .i64 c) (v2 := .int .u64 (g : Int)) (v3 := .slice a1 rl c1) (v4 := .slice a2 cl c2) (v5 := .slice none 0 0) N1.out)
  obtain ⟨s0, s1, s2, s3, s4, s5⟩ := six_cells NS.out
  have hlt := HSZ.out
  refine bodyPost_ret (v := .agg #[.bool z, .int .i64 c, .int .u64 (g : Int), .slice a1 rl c1, .slice a2 cl c2, .slice none 0 0]) ?_ rfl ⟨⟨z, c, g, a1, rl, c1, rows, a2, cl, c2, cells, none, 0, 0⟩, rfl, ?_, put6_below _ _ _ _ _ _ hB5.out (Nat.le_succ _)⟩
  rotate_left
  ·have hA6 := put6_above (.bool z) (.int .i64 c) (.int .u64 (g : Int)) (.slice a1 rl c1) (.slice a2 cl c2) (.slice none 0 0) HA3.out (B := w.heap.size + 1) (by omega)
   have hAt := WF.At.mk (f := ⟨z, c, g, a1, rl, c1, rows, a2, cl, c2, cells, none, 0, 0⟩) (HR1.out.above HL1.out hA6) HRL.out HAT.out.g64 HAT.out.r64 (HR2.out.above HL3.out hA6) HCL.out HAT.out.bits HAT.out.cmax
   have hPf : WF.pf ⟨z, c, g, a1, rl, c1, rows, a2, cl, c2, cells, none, 0, 0⟩ = x := HI.out.pf
   exact (PNew.mk (n := W0.heap.size) ⟨hAt, hPf, HI.out.ok, rfl⟩ HL1.out HL3.out).mono (by omega)
  ·simp [results, Tryd.results61, go_sem, s0, s1, s2, s3, s4, s5]
end Go.Proofs.YtfkbkekgnoanaaaDoor
namespace Go.Proofs.YtfkbkekgnoanaaaDoor
open Go Go.RowKit
theorem one4_is (m : Nat) (hm : m ≤ 64) (w : World) : Calls Tryd.prog 77 #[.int .i64 (m : Int)] w (CellsRet (unitC m) 0 w) := by
 have h0 : dimC (m : Int) = 0 := by unfold dimC; rw [if_neg (by omega)]
 have := one_any (m : Int) w 0 h0
 rwa [show unitR (m : Int) = unitC m by unfold unitR; rw [if_pos h0, Int.toNat_natCast]] at this
theorem extA_plain (t n : Int) (sa : Option Addr) (sc : Nat) (f g : WF) (x y : PF) (w : World) (hp : plainB t n 0 = true) (hx : PIs w t n f x) (hy : PIs w t n g y) (ht : Tabs w) :
  Calls Tryd.prog 62 #[.agg #[.int .i64 t, .int .i64 n, .slice sa 0 sc], f.val, g.val] w (WRet (.one t n) (.one (extP t n x y)) w) := by
 refine enterF (args := [.agg #[.int .i64 t, .int .i64 n, .slice sa 0 sc], f.val, g.val]) Tryd.func62 rfl Tryd.ntmps62 rfl ?_
 have hS := St.start w
 refine seqF (regF ?_)
 refine op_box (cs := [_, _, _]) hS rfl rfl rfl ?_
 clear hS; intro B1 W1 hS
 refine op_box (cs := [_, _, _, _, _, _]) hS rfl rfl rfl ?_
 clear hS; intro B2 W2 hS
 refine op_box (cs := [_, _, _, _, _, _]) hS rfl rfl rfl ?_
 clear hS; intro B3 W3 hS
 refine op_alloc (cs := [_, _, _, _, _, _]) hS Tryd.zeroValue47 rfl rfl ?_
 clear hS; intro B4 W4 hS
 refine endF (XF.thenN ?_)
 refine seqF ?_
 refine seqF (regF ?_)
 refine op_field (o' := 0) fa_47_0 rfl rfl rfl ?_
 refine op_load Tryd.isAgg4 rfl (cell_own (hS.at_ 2 rfl) rfl) rfl ?_
 refine op_move rfl rfl ?_
 refine op_cases (d := 10) rfl (fun hc => ?_) (fun hc => ?_)
 ·have hg10 := hc; clear hc
  have hz := hg10
  refine op_notF (d := 10) rfl rfl rfl rfl ?_
  refine op_notF (d := 10) rfl rfl rfl rfl ?_
  refine op_pickT rfl rfl rfl ?_
  refine endF (XF.thenN ?_)
  refine condT rfl ?_
  refine seqF (regF ?_)
  refine op_build (us := [(0, .bool _)]) rfl (bld_47_0 _) rfl ?_
  refine op_storeA (i := 0) (vs := [_, _, _, _, _, _]) (cs' := [_, _, _, _, _, _]) (O' := [_, _, _, _]) hS Tryd.sizeOf47 rfl rfl rfl rfl rfl rfl rfl ?_
  clear hS; intro W5 hS
  refine endF (XF.thenN ?_)
  refine retF ?_
  refine XF.thenR ?_
  refine XF.res (resC1 (vs := [_, _, _, _, _, _]) Tryd.results62 Tryd.isAgg47 Tryd.sizeOf47 rfl (CellsAt.own (j := 0) (m := 6) (hS.at_ 0 rfl) rfl)) ?_
  exact ext_zL hx hz hS.below
 ·have hg10 := hc; clear hc
  have hf := hg10
  refine op_wantedF (d := 10) rfl rfl ?_
  refine op_field (o' := 0) fa_47_0 rfl rfl rfl ?_
  refine op_wantedF (d := 10) rfl rfl ?_
  refine op_load Tryd.isAgg4 rfl (cell_own (hS.at_ 1 rfl) rfl) rfl ?_
  refine op_pickF rfl rfl rfl ?_
  refine endF (XF.thenN ?_)
  refine condF rfl (fun hc => ?_) (fun hc => ?_)
  ·have hc13 := hc; clear hc
   refine seqF (regF ?_)
   refine op_build (us := [(0, .bool _)]) rfl (bld_47_0 _) rfl ?_
   refine op_storeA (i := 0) (vs := [_, _, _, _, _, _]) (cs' := [_, _, _, _, _, _]) (O' := [_, _, _, _]) hS Tryd.sizeOf47 rfl rfl rfl rfl rfl rfl rfl ?_
   clear hS; intro W6 hS
   refine endF (XF.thenN ?_)
   refine retF ?_
   refine XF.thenR ?_
   refine XF.res (resC1 (vs := [_, _, _, _, _, _]) Tryd.results62 Tryd.isAgg47 Tryd.sizeOf47 rfl (CellsAt.own (j := 0) (m := 6) (hS.at_ 0 rfl) rfl)) ?_
   exact ext_zR hy hc13 hS.below
  ·have hc13 := hc; clear hc
   have hg := hc13
   refine skipF ?_
   refine XF.thenN ?_
   refine seqF (regF ?_)
   refine op_alloc (cs := [_, _, _, _, _, _]) hS Tryd.zeroValue47 rfl rfl ?_
   clear hS; intro B7 W7 hS
   refine endF (XF.thenN ?_)
   refine seqF ?_
   refine seqF (regF ?_)
   refine op_field (o' := 0) fa_25_0 rfl rfl rfl ?_
   refine op_load Tryd.isAgg22 rfl (cell_own (hS.at_ 4 rfl) rfl) rfl ?_
   refine endF (XF.thenN ?_)
   refine blockF ?_
   refine seqF (regF ?_)
   refine op_eql rfl rfl rfl ?_
   refine op_assign rfl rfl ?_
   refine endF (XF.thenN ?_)
   refine condF rfl (fun hc => ?_) (fun hc => ?_)
   ·have hc17 := of_decide_eq_true hc; clear hc
    have e2 : t = 2 := hc17
    subst e2
    refine regF ?_
    refine op_field (o' := 1) fa_25_1 rfl rfl rfl ?_
    refine op_load Tryd.isAgg3 rfl (cell_own (hS.at_ 4 rfl) rfl) rfl ?_
    refine op_field (o' := 1) fa_47_1 rfl rfl rfl ?_
    refine op_load Tryd.isAgg3 rfl (cell_own (hS.at_ 3 rfl) rfl) rfl ?_
    refine op_field (o' := 1) fa_47_1 rfl rfl rfl ?_
    refine op_load Tryd.isAgg3 rfl (cell_own (hS.at_ 2 rfl) rfl) rfl ?_
    refine op_buildSlice (us := [(0, .int .i64 _), (1, .int .i64 _)]) hS Tryd.underlying29 Tryd.sizeOf3 Tryd.zeroValue3 rfl rfl rfl (bs_29_2 _ _) rfl ?_
    clear hS; intro B8 W8 hS
    refine op_call (vs := [_, _]) hS goes_81 rfl (sum_any n (some ⟨_, 0, none⟩) 2 [f.c, g.c] _ (by simp [maxLen]) (row_own (hS.at_ 0 rfl))) rfl ?_
    rintro e W9 ⟨rfl, rfl⟩
    refine ⟨_, rfl, Below.refl _ _, fun hS' => ?_⟩
    clear hS; have hS := hS'; clear hS'
    refine op_move rfl rfl ?_
    refine op_extract rfl rfl rfl ?_
    refine op_extract rfl rfl rfl ?_
    refine op_field (o' := 1) fa_47_1 rfl rfl rfl ?_
    refine op_store (i := 1) (cs' := [_, _, _, _, _, _]) (O' := [_, _, _, _, _, _]) hS Tryd.sizeOf3 rfl rfl rfl rfl rfl rfl rfl ?_
    clear hS; intro W10 hS
    refine endF ?_
    refine XF.blkN ?_
    refine XF.thenN ?_
    refine seqF (regF ?_)
    refine op_loadA (vs := [_, _, _, _, _, _]) Tryd.isAgg47 Tryd.sizeOf47 rfl (CellsAt.own (j := 0) (m := 6) (hS.at_ 1 rfl) rfl) rfl ?_
    refine op_storeA (i := 2) (vs := [_, _, _, _, _, _]) (cs' := [_, _, _, _, _, _]) (O' := [_, _, _, _, _, _]) hS Tryd.sizeOf47 rfl rfl rfl rfl rfl rfl rfl ?_
    clear hS; intro W11 hS
    refine endF (XF.thenN ?_)
    refine retF ?_
    refine XF.res (resC1 (vs := [_, _, _, _, _, _]) Tryd.results62 Tryd.isAgg47 Tryd.sizeOf47 rfl (CellsAt.own (j := 0) (m := 6) (hS.at_ 2 rfl) rfl)) ?_
    exact wret_one (ext_f2 hp hx hy hf hg) hS.below
   ·have hc17 := of_decide_eq_false hc; clear hc
    refine seqF (regF ?_)
    refine op_eql rfl rfl rfl ?_
    refine op_assign rfl rfl ?_
    refine endF (XF.thenN ?_)
    refine condF rfl (fun hc => ?_) (fun hc => ?_)
    ·have hc31 := of_decide_eq_true hc; clear hc
     have e3 : t = 3 := hc31
     subst e3
     obtain ⟨m, rfl, hm⟩ := dim3 hp (.inl rfl)
     refine regF ?_
     refine op_field (o' := 1) fa_25_1 rfl rfl rfl ?_
     refine op_load Tryd.isAgg3 rfl (cell_own (hS.at_ 4 rfl) rfl) rfl ?_
     refine op_field (o' := 2) fa_47_2 rfl rfl rfl ?_
     refine op_loadA (vs := [_, _]) Tryd.isAgg43 Tryd.sizeOf43 rfl (CellsAt.own (j := 2) (m := 2) (hS.at_ 3 rfl) rfl) rfl ?_
     refine op_field (o' := 2) fa_47_2 rfl rfl rfl ?_
     refine op_loadA (vs := [_, _]) Tryd.isAgg43 Tryd.sizeOf43 rfl (CellsAt.own (j := 2) (m := 2) (hS.at_ 2 rfl) rfl) rfl ?_
     have hsz := hS.below.size
     refine op_call (vs := [_, _, _]) hS goes_82 rfl (extA_is _ _ _ _ _ _ _ _ _ _ (hx.at_.fat (by have := hx.rows64 (l := 0); omega) |>.below hS.below) (hy.at_.fat (by have := hy.rows64 (l := 0); omega) |>.below hS.below) (ht.below hS.below).c _ rfl _ rfl _ rfl _ _ hx.at_.rl hy.at_.rl) rfl ?_
     rintro e W12 ⟨a1, c1, rfl, hv, hl, hb⟩
     refine ⟨_, rfl, hb, fun hS' => ?_⟩
     clear hS; have hS := hS'; clear hS'
     refine op_move rfl rfl ?_
     refine op_extract rfl rfl rfl ?_
     refine op_extract rfl rfl rfl ?_
     refine op_field (o' := 2) fa_47_2 rfl rfl rfl ?_
     refine op_storeA (i := 0) (vs := [_, _]) (cs' := [_, _, _, _, _, _]) (O' := [_, _, _, _, _]) hS Tryd.sizeOf43 rfl rfl rfl rfl rfl rfl rfl ?_
     clear hS; intro W13 hS
     refine endF ?_
     refine XF.blkN ?_
     refine XF.thenN ?_
     refine seqF (regF ?_)
     refine op_loadA (vs := [_, _, _, _, _, _]) Tryd.isAgg47 Tryd.sizeOf47 rfl (CellsAt.own (j := 0) (m := 6) (hS.at_ 0 rfl) rfl) rfl ?_
     refine op_storeA (i := 1) (vs := [_, _, _, _, _, _]) (cs' := [_, _, _, _, _, _]) (O' := [_, _, _, _, _]) hS Tryd.sizeOf47 rfl rfl rfl rfl rfl rfl rfl ?_
     clear hS; intro W14 hS
     refine endF (XF.thenN ?_)
     refine retF ?_
     refine XF.res (resC1 (vs := [_, _, _, _, _, _]) Tryd.results62 Tryd.isAgg47 Tryd.sizeOf47 rfl (CellsAt.own (j := 0) (m := 6) (hS.at_ 1 rfl) rfl)) ?_
     exact wret_one (ext_f3 hx hy hf hg (hv.agree (fun ad e => (hl ad e).1) (hS.since 0 rfl)) (fun ad e => Nat.le_trans hsz (hl ad e).1)) hS.below
    ·have hc31 := of_decide_eq_false hc; clear hc
     refine seqF (regF ?_)
     refine op_eql rfl rfl rfl ?_
     refine op_assign rfl rfl ?_
     refine endF (XF.thenN ?_)
     refine condF rfl (fun hc => ?_) (fun hc => ?_)
     ·have hc44 := of_decide_eq_true hc; clear hc
      have e4 : t = 4 := hc44
      subst e4
      obtain ⟨m, rfl, hm⟩ := dim3 hp (.inr rfl)
      refine regF ?_
      refine op_field (o' := 1) fa_25_1 rfl rfl rfl ?_
      refine op_load Tryd.isAgg3 rfl (cell_own (hS.at_ 4 rfl) rfl) rfl ?_
      refine op_field (o' := 4) fa_47_3 rfl rfl rfl ?_
      refine op_load Tryd.isAgg44 rfl (cell_own (hS.at_ 3 rfl) rfl) rfl ?_
      refine op_field (o' := 4) fa_47_3 rfl rfl rfl ?_
      refine op_load Tryd.isAgg44 rfl (cell_own (hS.at_ 2 rfl) rfl) rfl ?_
      have hsz := hS.below.size
      refine op_call (vs := [_, _, _]) hS goes_83 rfl (then_is _ _ _ _ _ _ _ _ (ht.below hS.below) (by rw [hx.at_.cl]; exact hx.at_.cmax) (by rw [hy.at_.cl]; exact hy.at_.cmax) (hx.at_.cells.below hS.below) (hy.at_.cells.below hS.below) hx.at_.bits hy.at_.bits _ rfl _ _ hx.at_.cl hy.at_.cl) rfl ?_
      rintro e W15 ⟨a1, c1, rfl, hv, hl, hb⟩
      refine ⟨_, rfl, hb, fun hS' => ?_⟩
      clear hS; have hS := hS'; clear hS'
      refine op_move rfl rfl ?_
      refine op_extract rfl rfl rfl ?_
      refine op_extract rfl rfl rfl ?_
      refine op_field (o' := 4) fa_47_3 rfl rfl rfl ?_
      refine op_store (i := 0) (cs' := [_, _, _, _, _, _]) (O' := [_, _, _, _, _]) hS Tryd.sizeOf44 rfl rfl rfl rfl rfl rfl rfl ?_
      clear hS; intro W16 hS
      refine endF ?_
      refine XF.blkN ?_
      refine XF.thenN ?_
      refine seqF (regF ?_)
      refine op_loadA (vs := [_, _, _, _, _, _]) Tryd.isAgg47 Tryd.sizeOf47 rfl (CellsAt.own (j := 0) (m := 6) (hS.at_ 0 rfl) rfl) rfl ?_
      refine op_storeA (i := 1) (vs := [_, _, _, _, _, _]) (cs' := [_, _, _, _, _, _]) (O' := [_, _, _, _, _]) hS Tryd.sizeOf47 rfl rfl rfl rfl rfl rfl rfl ?_
      clear hS; intro W17 hS
      refine endF (XF.thenN ?_)
      refine retF ?_
      refine XF.res (resC1 (vs := [_, _, _, _, _, _]) Tryd.results62 Tryd.isAgg47 Tryd.sizeOf47 rfl (CellsAt.own (j := 0) (m := 6) (hS.at_ 1 rfl) rfl)) ?_
      exact wret_one (ext_f4 hx hy hf hg (hv.agree (fun ad e => (hl ad e).1) (hS.since 0 rfl)) (fun ad e => Nat.le_trans hsz (hl ad e).1)) hS.below
     ·have hc44 := of_decide_eq_false hc; clear hc
      refine seqF (regF ?_)
      refine op_eql rfl rfl rfl ?_
      refine op_assign rfl rfl ?_
      refine endF (XF.thenN ?_)
      refine condF rfl (fun hc => absurd (of_decide_eq_true hc) (by exact plain_ne5 hp)) (fun hc => ?_)
      have hc := of_decide_eq_false hc
      have e1 : t = 1 := by
       have := (plainB_tag hp).2
       omega
      subst e1
      refine skipF ?_
      refine XF.blkN ?_
      refine XF.thenN ?_
      refine seqF (regF ?_)
      refine op_loadA (vs := [_, _, _, _, _, _]) Tryd.isAgg47 Tryd.sizeOf47 rfl (CellsAt.own (j := 0) (m := 6) (hS.at_ 0 rfl) rfl) rfl ?_
      refine op_storeA (i := 1) (vs := [_, _, _, _, _, _]) (cs' := [_, _, _, _, _, _]) (O' := [_, _, _, _, _]) hS Tryd.sizeOf47 rfl rfl rfl rfl rfl rfl rfl ?_
      clear hS; intro W18 hS
      refine endF (XF.thenN ?_)
      refine retF ?_
      refine XF.res (resC1 (vs := [_, _, _, _, _, _]) Tryd.results62 Tryd.isAgg47 Tryd.sizeOf47 rfl (CellsAt.own (j := 0) (m := 6) (hS.at_ 1 rfl) rfl)) ?_
      exact wret_one (ext_f1 hx hy hf hg) hS.below
theorem oneA_plain (t n : Int) (sa : Option Addr) (sc : Nat) (w : World) (hp : plainB t n 0 = true) :
  Calls Tryd.prog 59 #[.agg #[.int .i64 t, .int .i64 n, .slice sa 0 sc]] w (WRet (.one t n) (.one (oneP t n)) w) := by
 refine enterF (args := [.agg #[.int .i64 t, .int .i64 n, .slice sa 0 sc]]) Tryd.func59 rfl Tryd.ntmps59 rfl ?_
 have hS := St.start w
 refine seqF (regF ?_)
 refine op_box (cs := [_, _, _]) hS rfl rfl rfl ?_
 clear hS; intro B1 W1 hS
 refine op_alloc (cs := [_, _, _, _, _, _]) hS Tryd.zeroValue47 rfl rfl ?_
 clear hS; intro B2 W2 hS
 refine endF (XF.thenN ?_)
 refine seqF (regF ?_)
 refine op_alloc (cs := [_, _, _, _, _, _]) hS Tryd.zeroValue47 rfl rfl ?_
 clear hS; intro B3 W3 hS
 refine endF (XF.thenN ?_)
 refine seqF ?_
 refine seqF (regF ?_)
 refine op_field (o' := 0) fa_25_0 rfl rfl rfl ?_
 refine op_load Tryd.isAgg22 rfl (cell_own (hS.at_ 2 rfl) rfl) rfl ?_
 refine endF (XF.thenN ?_)
 refine blockF ?_
 refine seqF (regF ?_)
 refine op_eql rfl rfl rfl ?_
 refine op_assign rfl rfl ?_
 refine endF (XF.thenN ?_)
 refine condF rfl (fun hc => ?_) (fun hc => ?_)
 ·have hc6 := of_decide_eq_true hc; clear hc
  have e3 : t = 3 := hc6
  subst e3
  obtain ⟨m, rfl, hm⟩ := dim3 hp (.inl rfl)
  refine regF ?_
  refine op_field (o' := 1) fa_25_1 rfl rfl rfl ?_
  refine op_load Tryd.isAgg3 rfl (cell_own (hS.at_ 2 rfl) rfl) rfl ?_
  have hsz := hS.below.size
  refine op_call (vs := [_]) hS goes_76 rfl ((oneA_is m _ _ (one_good hm).1 _ (one_good hm).2).mono fun _ _ h => FOwn.ret h) rfl ?_
  rintro e W4 ⟨a1, c1, rfl, hv, hl, hb⟩
  refine ⟨_, rfl, hb, fun hS' => ?_⟩
  clear hS; have hS := hS'; clear hS'
  refine op_move rfl rfl ?_
  refine op_extract rfl rfl rfl ?_
  refine op_extract rfl rfl rfl ?_
  refine op_field (o' := 2) fa_47_2 rfl rfl rfl ?_
  refine op_storeA (i := 0) (vs := [_, _]) (cs' := [_, _, _, _, _, _]) (O' := [_, _, _]) hS Tryd.sizeOf43 rfl rfl rfl rfl rfl rfl rfl ?_
  clear hS; intro W5 hS
  refine endF ?_
  refine XF.blkN ?_
  refine XF.thenN ?_
  refine seqF (regF ?_)
  refine op_loadA (vs := [_, _, _, _, _, _]) Tryd.isAgg47 Tryd.sizeOf47 rfl (CellsAt.own (j := 0) (m := 6) (hS.at_ 0 rfl) rfl) rfl ?_
  refine op_storeA (i := 1) (vs := [_, _, _, _, _, _]) (cs' := [_, _, _, _, _, _]) (O' := [_, _, _]) hS Tryd.sizeOf47 rfl rfl rfl rfl rfl rfl rfl ?_
  clear hS; intro W6 hS
  refine endF (XF.thenN ?_)
  refine retF ?_
  refine XF.res (resC1 (vs := [_, _, _, _, _, _]) Tryd.results59 Tryd.isAgg47 Tryd.sizeOf47 rfl (CellsAt.own (j := 0) (m := 6) (hS.at_ 1 rfl) rfl)) ?_
  exact wret_one (one_f3 hm (hv.agree (fun ad e => (hl ad e).1) (hS.since 0 rfl)) (fun ad e => Nat.le_trans hsz (hl ad e).1)) hS.below
 ·have hc6 := of_decide_eq_false hc; clear hc
  refine seqF (regF ?_)
  refine op_eql rfl rfl rfl ?_
  refine op_assign rfl rfl ?_
  refine endF (XF.thenN ?_)
  refine condF rfl (fun hc => ?_) (fun hc => ?_)
  ·have hc15 := of_decide_eq_true hc; clear hc
   have e4 : t = 4 := hc15
   subst e4
   obtain ⟨m, rfl, hm⟩ := dim3 hp (.inr rfl)
   refine regF ?_
   refine op_field (o' := 1) fa_25_1 rfl rfl rfl ?_
   refine op_load Tryd.isAgg3 rfl (cell_own (hS.at_ 2 rfl) rfl) rfl ?_
   have hsz := hS.below.size
   refine op_call (vs := [_]) hS goes_77 rfl (one4_is m hm _) rfl ?_
   rintro e W7 ⟨a1, c1, rfl, hv, hl, hb⟩
   refine ⟨_, rfl, hb, fun hS' => ?_⟩
   clear hS; have hS := hS'; clear hS'
   refine op_move rfl rfl ?_
   refine op_extract rfl rfl rfl ?_
   refine op_extract rfl rfl rfl ?_
   refine op_field (o' := 4) fa_47_3 rfl rfl rfl ?_
   refine op_store (i := 0) (cs' := [_, _, _, _, _, _]) (O' := [_, _, _]) hS Tryd.sizeOf44 rfl rfl rfl rfl rfl rfl rfl ?_
   clear hS; intro W8 hS
   refine endF ?_
   refine XF.blkN ?_
   refine XF.thenN ?_
   refine seqF (regF ?_)
   refine op_loadA (vs := [_, _, _, _, _, _]) Tryd.isAgg47 Tryd.sizeOf47 rfl (CellsAt.own (j := 0) (m := 6) (hS.at_ 0 rfl) rfl) rfl ?_
   refine op_storeA (i := 1) (vs := [_, _, _, _, _, _]) (cs' := [_, _, _, _, _, _]) (O' := [_, _, _]) hS Tryd.sizeOf47 rfl rfl rfl rfl rfl rfl rfl ?_
   clear hS; intro W9 hS
   refine endF (XF.thenN ?_)
   refine retF ?_
   refine XF.res (resC1 (vs := [_, _, _, _, _, _]) Tryd.results59 Tryd.isAgg47 Tryd.sizeOf47 rfl (CellsAt.own (j := 0) (m := 6) (hS.at_ 1 rfl) rfl)) ?_
   exact wret_one (one_f4 hm (hv.agree (fun ad e => (hl ad e).1) (hS.since 0 rfl)) (fun ad e => Nat.le_trans hsz (hl ad e).1)) hS.below
  ·have hc15 := of_decide_eq_false hc; clear hc
   refine seqF (regF ?_)
   refine op_eql rfl rfl rfl ?_
   refine op_assign rfl rfl ?_
   refine endF (XF.thenN ?_)
   refine condF rfl (fun hc => absurd (of_decide_eq_true hc) (by exact plain_ne5 hp)) (fun hc => ?_)
   have hc := of_decide_eq_false hc
   refine skipF ?_
   refine XF.blkN ?_
   refine XF.thenN ?_
   refine seqF (regF ?_)
   refine op_loadA (vs := [_, _, _, _, _, _]) Tryd.isAgg47 Tryd.sizeOf47 rfl (CellsAt.own (j := 0) (m := 6) (hS.at_ 0 rfl) rfl) rfl ?_
   refine op_storeA (i := 1) (vs := [_, _, _, _, _, _]) (cs' := [_, _, _, _, _, _]) (O' := [_, _, _]) hS Tryd.sizeOf47 rfl rfl rfl rfl rfl rfl rfl ?_
   clear hS; intro W10 hS
   refine endF (XF.thenN ?_)
   refine retF ?_
   refine XF.res (resC1 (vs := [_, _, _, _, _, _]) Tryd.results59 Tryd.isAgg47 Tryd.sizeOf47 rfl (CellsAt.own (j := 0) (m := 6) (hS.at_ 1 rfl) rfl)) ?_
   exact wret_one (one_f1 hp hc6 hc15) hS.below
end Go.Proofs.YtfkbkekgnoanaaaDoor
namespace Go.Proofs.YtfkbkekgnoanaaaDoor
open Go Go.RowKit
theorem extA_pair (t n u m : Int) (a1 a2 : Option Addr) (c1 c2 b off sc : Nat) (w : World) (hs1 : S3 w b off ⟨t, n, a1, 0, c1⟩) (hs2 : S3 w b (off + 3) ⟨u, m, a2, 0, c2⟩) (hp1 : plainB t n 0 = true) (hp2 : plainB u m 0 = true)(fra fca : Option Addr) (frc fcc fpc fb fo : Nat) (f1 f2 : WF) (x1 x2 : PF) (hf6 : W6 w fb fo f1) (hf7 : W6 w fb (fo + 6) f2) (hx1 : PIs w t n f1 x1) (hx2 : PIs w u m f2 x2)(gra gca : Option Addr) (grc gcc gpc gb go : Nat) (g1 g2 : WF) (y1 y2 : PF) (hg6 : W6 w gb go g1) (hg7 : W6 w gb (go + 6) g2) (hy1 : PIs w t n g1 y1) (hy2 : PIs w u m g2 y2)(ht : Tabs w) :
  Calls Tryd.prog 62 #[.agg #[.int .i64 5, .int .i64 0, .slice (some ⟨b, off, none⟩) 2 sc], .agg #[.bool false, .int .i64 0, .int .u64 0, .slice fra 0 frc, .slice fca 0 fcc, .slice (some ⟨fb, fo, none⟩) 2 fpc], .agg #[.bool false, .int .i64 0, .int .u64 0, .slice gra 0 grc, .slice gca 0 gcc, .slice (some ⟨gb, go, none⟩) 2 gpc]] w (WRet (.two t n u m) (.two (extP t n x1 y1) (extP u m x2 y2)) w) := by
 refine enterF (args := [.agg #[.int .i64 5, .int .i64 0, .slice (some ⟨b, off, none⟩) 2 sc], .agg #[.bool false, .int .i64 0, .int .u64 0, .slice fra 0 frc, .slice fca 0 fcc, .slice (some ⟨fb, fo, none⟩) 2 fpc], .agg #[.bool false, .int .i64 0, .int .u64 0, .slice gra 0 grc, .slice gca 0 gcc, .slice (some ⟨gb, go, none⟩) 2 gpc]]) Tryd.func62 rfl Tryd.ntmps62 rfl ?_
 have hS := St.start w
 refine seqF (regF ?_)
 refine op_box (cs := [_, _, _]) hS rfl rfl rfl ?_
 clear hS; intro B1 W1 hS
 refine op_box (cs := [_, _, _, _, _, _]) hS rfl rfl rfl ?_
 clear hS; intro B2 W2 hS
 refine op_box (cs := [_, _, _, _, _, _]) hS rfl rfl rfl ?_
 clear hS; intro B3 W3 hS
 refine op_alloc (cs := [_, _, _, _, _, _]) hS Tryd.zeroValue47 rfl rfl ?_
 clear hS; intro B4 W4 hS
 refine endF (XF.thenN ?_)
 refine seqF ?_
 refine seqF (regF ?_)
 refine op_field (o' := 0) fa_47_0 rfl rfl rfl ?_
 refine op_load Tryd.isAgg4 rfl (cell_own (hS.at_ 2 rfl) rfl) rfl ?_
 refine op_move rfl rfl ?_
 refine op_cases (d := 10) rfl (fun hc => absurd hc (by decide)) (fun hc => ?_)
 skip
 refine op_wantedF (d := 10) rfl rfl ?_
 refine op_field (o' := 0) fa_47_0 rfl rfl rfl ?_
 refine op_wantedF (d := 10) rfl rfl ?_
 refine op_load Tryd.isAgg4 rfl (cell_own (hS.at_ 1 rfl) rfl) rfl ?_
 refine op_pickF rfl rfl rfl ?_
 refine endF (XF.thenN ?_)
 refine condF rfl (fun hc => absurd hc (by decide)) (fun hc => ?_)
 skip
 refine skipF ?_
 refine XF.thenN ?_
 refine seqF (regF ?_)
 refine op_alloc (cs := [_, _, _, _, _, _]) hS Tryd.zeroValue47 rfl rfl ?_
 clear hS; intro B5 W5 hS
 refine endF (XF.thenN ?_)
 refine seqF ?_
 refine seqF (regF ?_)
 refine op_field (o' := 0) fa_25_0 rfl rfl rfl ?_
 refine op_load Tryd.isAgg22 rfl (cell_own (hS.at_ 4 rfl) rfl) rfl ?_
 refine endF (XF.thenN ?_)
 refine blockF ?_
 refine seqF (regF ?_)
 refine op_eql rfl rfl rfl ?_
 refine op_assign rfl rfl ?_
 refine endF (XF.thenN ?_)
 refine condF rfl (fun hc => absurd (of_decide_eq_true hc) (by omega)) (fun hc => ?_)
 have hc := of_decide_eq_false hc
 refine seqF (regF ?_)
 refine op_eql rfl rfl rfl ?_
 refine op_assign rfl rfl ?_
 refine endF (XF.thenN ?_)
 refine condF rfl (fun hc => absurd (of_decide_eq_true hc) (by omega)) (fun hc => ?_)
 have hc := of_decide_eq_false hc
 refine seqF (regF ?_)
 refine op_eql rfl rfl rfl ?_
 refine op_assign rfl rfl ?_
 refine endF (XF.thenN ?_)
 refine condF rfl (fun hc => absurd (of_decide_eq_true hc) (by omega)) (fun hc => ?_)
 have hc := of_decide_eq_false hc
 refine seqF (regF ?_)
 refine op_eql rfl rfl rfl ?_
 refine op_assign rfl rfl ?_
 refine endF (XF.thenN ?_)
 refine condF rfl (fun hc => ?_) (fun hc => absurd (of_decide_eq_false hc) (by omega))
 have hc := of_decide_eq_true hc
 have hsz := hS.below.size
 have k1 := CellsAt.agree hS.agree (Nat.zero_le _) hs1.cells
 have k2 := CellsAt.agree hS.agree (Nat.zero_le _) hs2.cells
 have kf1 := CellsAt.agree hS.agree (Nat.zero_le _) hf6.cells
 have kf2 := CellsAt.agree hS.agree (Nat.zero_le _) hf7.cells
 have kg1 := CellsAt.agree hS.agree (Nat.zero_le _) hg6.cells
 have kg2 := CellsAt.agree hS.agree (Nat.zero_le _) hg7.cells
 refine regBK followsM 27 hS rfl rfl (by kernel_rfl) (by kernel_rfl) (by kernel_rfl) (fun d hd => by cases hd) ?_
 refine bl_cons 1 rfl (isV _) (stab_isV _) (rgV (li := [(3, _)]) rfl (w_free rfl) ⟨g_fr (by kernel_rfl) rfl, trivial⟩ (fun w hw => rn_field (o' := 2) fa_25_2 rfl rfl) (at_top rfl)) ?_
 refine bl_cons 2 rfl (isV _) (stab_isV _) (rgV (li := [(59, _)]) rfl (w_free rfl) ⟨g_dep 0 (by kernel_rfl) (at_dep rfl rfl rfl), trivial⟩ (fun w hw => rn_load Tryd.isAgg23 rfl ((below_agree hw 0).cell (Nat.zero_le _) (cell_own (hS.at_ 4 rfl) rfl))) (at_top rfl)) ?_
 refine bl_cons 3 rfl (isV _) (stab_isV _) (rgV (li := [(60, _)]) rfl (w_free rfl) ⟨g_dep 1 (by kernel_rfl) (at_dep rfl rfl rfl), trivial⟩ (fun w hw => rn_indexA (j := 0) Tryd.underlying23 Tryd.sizeOf25 rfl rfl rfl (by omega) (Nat.add_zero _)) (at_top rfl)) ?_
 refine bl_cons 4 rfl (isV _) (stab_isV _) (rgV (li := [(61, _)]) rfl (w_free rfl) ⟨g_dep 2 (by kernel_rfl) (at_dep rfl rfl rfl), trivial⟩ (fun w hw => rn_loadA (vs := [_, _, _]) Tryd.isAgg25 Tryd.sizeOf25 rfl (CellsAt.agree (below_agree hw 0) (Nat.zero_le _) (by assumption))) (at_top rfl)) ?_
 refine bl_cons 5 rfl (isV _) (stab_isV _) (rgV (li := [(4, _)]) rfl (w_free rfl) ⟨g_fr (by kernel_rfl) rfl, trivial⟩ (fun w hw => rn_field (o' := 5) fa_47_4 rfl rfl) (at_top rfl)) ?_
 refine bl_cons 6 rfl (isV _) (stab_isV _) (rgV (li := [(63, _)]) rfl (w_free rfl) ⟨g_dep 4 (by kernel_rfl) (at_dep rfl rfl rfl), trivial⟩ (fun w hw => rn_load Tryd.isAgg45 rfl ((below_agree hw 0).cell (Nat.zero_le _) (cell_own (hS.at_ 3 rfl) rfl))) (at_top rfl)) ?_
 refine bl_cons 7 rfl (isV _) (stab_isV _) (rgV (li := [(64, _)]) rfl (w_free rfl) ⟨g_dep 5 (by kernel_rfl) (at_dep rfl rfl rfl), trivial⟩ (fun w hw => rn_indexA (j := 0) Tryd.underlying45 Tryd.sizeOf47 rfl rfl rfl (by omega) (Nat.add_zero _)) (at_top rfl)) ?_
 refine bl_cons 8 rfl (isV _) (stab_isV _) (rgV (li := [(65, _)]) rfl (w_free rfl) ⟨g_dep 6 (by kernel_rfl) (at_dep rfl rfl rfl), trivial⟩ (fun w hw => rn_loadA (vs := [_, _, _, _, _, _]) Tryd.isAgg47 Tryd.sizeOf47 rfl (CellsAt.agree (below_agree hw 0) (Nat.zero_le _) (by assumption))) (at_top rfl)) ?_
 refine bl_cons 9 rfl (isV _) (stab_isV _) (rgV (li := [(5, _)]) rfl (w_free rfl) ⟨g_fr (by kernel_rfl) rfl, trivial⟩ (fun w hw => rn_field (o' := 5) fa_47_4 rfl rfl) (at_top rfl)) ?_
 refine bl_cons 10 rfl (isV _) (stab_isV _) (rgV (li := [(67, _)]) rfl (w_free rfl) ⟨g_dep 8 (by kernel_rfl) (at_dep rfl rfl rfl), trivial⟩ (fun w hw => rn_load Tryd.isAgg45 rfl ((below_agree hw 0).cell (Nat.zero_le _) (cell_own (hS.at_ 2 rfl) rfl))) (at_top rfl)) ?_
 refine bl_cons 11 rfl (isV _) (stab_isV _) (rgV (li := [(68, _)]) rfl (w_free rfl) ⟨g_dep 9 (by kernel_rfl) (at_dep rfl rfl rfl), trivial⟩ (fun w hw => rn_indexA (j := 0) Tryd.underlying45 Tryd.sizeOf47 rfl rfl rfl (by omega) (Nat.add_zero _)) (at_top rfl)) ?_
 refine bl_cons 12 rfl (isV _) (stab_isV _) (rgV (li := [(69, _)]) rfl (w_free rfl) ⟨g_dep 10 (by kernel_rfl) (at_dep rfl rfl rfl), trivial⟩ (fun w hw => rn_loadA (vs := [_, _, _, _, _, _]) Tryd.isAgg47 Tryd.sizeOf47 rfl (CellsAt.agree (below_agree hw 0) (Nat.zero_le _) (by assumption))) (at_top rfl)) ?_
 refine bl_cons 13 rfl (isNew W5.heap.size (.one t n) (.one (extP t n x1 y1))) (stab_isNew) (rg_call [isV _, isV _, isV _] rfl goes_62 (w_free rfl) ⟨p_tmp (g_dep 3 (by kernel_rfl) (at_dep rfl rfl rfl)), p_tmp (g_dep 7 (by kernel_rfl) (at_dep rfl rfl rfl)), p_tmp (g_dep 11 (by kernel_rfl) (at_dep rfl rfl rfl)), trivial⟩ (fun vs w' hb hh => by have e := holds_isV (us := [_, _, _]) hh; subst e; exact wret_gives hb.size (extA_plain _ _ _ _ _ _ _ _ _ hp1 (hx1.below (hS.below.trans (hb.mono hS.below.size))) (hy1.below (hS.below.trans (hb.mono hS.below.size))) (ht.below (hS.below.trans (hb.mono hS.below.size))))) (at_top rfl)) ?_
 refine bl_cons 14 rfl (isV _) (stab_isV _) (rgV (li := [(3, _)]) rfl (w_free rfl) ⟨g_fr (by kernel_rfl) rfl, trivial⟩ (fun w hw => rn_field (o' := 2) fa_25_2 rfl rfl) (at_top rfl)) ?_
 refine bl_cons 15 rfl (isV _) (stab_isV _) (rgV (li := [(72, _)]) rfl (w_free rfl) ⟨g_dep 13 (by kernel_rfl) (at_dep rfl rfl rfl), trivial⟩ (fun w hw => rn_load Tryd.isAgg23 rfl ((below_agree hw 0).cell (Nat.zero_le _) (cell_own (hS.at_ 4 rfl) rfl))) (at_top rfl)) ?_
 refine bl_cons 16 rfl (isV _) (stab_isV _) (rgV (li := [(73, _)]) rfl (w_free rfl) ⟨g_dep 14 (by kernel_rfl) (at_dep rfl rfl rfl), trivial⟩ (fun w hw => rn_indexA (j := 1) Tryd.underlying23 Tryd.sizeOf25 rfl rfl rfl (by omega) rfl) (at_top rfl)) ?_
 refine bl_cons 17 rfl (isV _) (stab_isV _) (rgV (li := [(74, _)]) rfl (w_free rfl) ⟨g_dep 15 (by kernel_rfl) (at_dep rfl rfl rfl), trivial⟩ (fun w hw => rn_loadA (vs := [_, _, _]) Tryd.isAgg25 Tryd.sizeOf25 rfl (CellsAt.agree (below_agree hw 0) (Nat.zero_le _) (by assumption))) (at_top rfl)) ?_
 refine bl_cons 18 rfl (isV _) (stab_isV _) (rgV (li := [(4, _)]) rfl (w_free rfl) ⟨g_fr (by kernel_rfl) rfl, trivial⟩ (fun w hw => rn_field (o' := 5) fa_47_4 rfl rfl) (at_top rfl)) ?_
 refine bl_cons 19 rfl (isV _) (stab_isV _) (rgV (li := [(76, _)]) rfl (w_free rfl) ⟨g_dep 17 (by kernel_rfl) (at_dep rfl rfl rfl), trivial⟩ (fun w hw => rn_load Tryd.isAgg45 rfl ((below_agree hw 0).cell (Nat.zero_le _) (cell_own (hS.at_ 3 rfl) rfl))) (at_top rfl)) ?_
 refine bl_cons 20 rfl (isV _) (stab_isV _) (rgV (li := [(77, _)]) rfl (w_free rfl) ⟨g_dep 18 (by kernel_rfl) (at_dep rfl rfl rfl), trivial⟩ (fun w hw => rn_indexA (j := 1) Tryd.underlying45 Tryd.sizeOf47 rfl rfl rfl (by omega) rfl) (at_top rfl)) ?_
 refine bl_cons 21 rfl (isV _) (stab_isV _) (rgV (li := [(78, _)]) rfl (w_free rfl) ⟨g_dep 19 (by kernel_rfl) (at_dep rfl rfl rfl), trivial⟩ (fun w hw => rn_loadA (vs := [_, _, _, _, _, _]) Tryd.isAgg47 Tryd.sizeOf47 rfl (CellsAt.agree (below_agree hw 0) (Nat.zero_le _) (by assumption))) (at_top rfl)) ?_
 refine bl_cons 22 rfl (isV _) (stab_isV _) (rgV (li := [(5, _)]) rfl (w_free rfl) ⟨g_fr (by kernel_rfl) rfl, trivial⟩ (fun w hw => rn_field (o' := 5) fa_47_4 rfl rfl) (at_top rfl)) ?_
 refine bl_cons 23 rfl (isV _) (stab_isV _) (rgV (li := [(80, _)]) rfl (w_free rfl) ⟨g_dep 21 (by kernel_rfl) (at_dep rfl rfl rfl), trivial⟩ (fun w hw => rn_load Tryd.isAgg45 rfl ((below_agree hw 0).cell (Nat.zero_le _) (cell_own (hS.at_ 2 rfl) rfl))) (at_top rfl)) ?_
 refine bl_cons 24 rfl (isV _) (stab_isV _) (rgV (li := [(81, _)]) rfl (w_free rfl) ⟨g_dep 22 (by kernel_rfl) (at_dep rfl rfl rfl), trivial⟩ (fun w hw => rn_indexA (j := 1) Tryd.underlying45 Tryd.sizeOf47 rfl rfl rfl (by omega) rfl) (at_top rfl)) ?_
 refine bl_cons 25 rfl (isV _) (stab_isV _) (rgV (li := [(82, _)]) rfl (w_free rfl) ⟨g_dep 23 (by kernel_rfl) (at_dep rfl rfl rfl), trivial⟩ (fun w hw => rn_loadA (vs := [_, _, _, _, _, _]) Tryd.isAgg47 Tryd.sizeOf47 rfl (CellsAt.agree (below_agree hw 0) (Nat.zero_le _) (by assumption))) (at_top rfl)) ?_
 refine bl_cons 26 rfl (isNew W5.heap.size (.one u m) (.one (extP u m x2 y2))) (stab_isNew) (rg_call [isV _, isV _, isV _] rfl goes_62 (w_free rfl) ⟨p_tmp (g_dep 16 (by kernel_rfl) (at_dep rfl rfl rfl)), p_tmp (g_dep 20 (by kernel_rfl) (at_dep rfl rfl rfl)), p_tmp (g_dep 24 (by kernel_rfl) (at_dep rfl rfl rfl)), trivial⟩ (fun vs w' hb hh => by have e := holds_isV (us := [_, _, _]) hh; subst e; exact wret_gives hb.size (extA_plain _ _ _ _ _ _ _ _ _ hp2 (hx2.below (hS.below.trans (hb.mono hS.below.size))) (hy2.below (hS.below.trans (hb.mono hS.below.size))) (ht.below (hS.below.trans (hb.mono hS.below.size))))) (at_top rfl)) ?_
 refine bl_cons 27 rfl (isNew W5.heap.size (.two t n u m) (.two (extP t n x1 y1) (extP u m x2 y2))) (stab_isNew) (rg_call [isNew _ (.one t n) (.one (extP t n x1 y1)), isNew _ (.one u m) (.one (extP u m x2 y2))] rfl goes_75 (w_free rfl) ⟨p_tmp (g_dep 12 (by kernel_rfl) (at_dep rfl rfl rfl)), p_tmp (g_dep 25 (by kernel_rfl) (at_dep rfl rfl rfl)), trivial⟩ (fun vs w' hb hh => pair_gives hb.size hh) (at_top rfl)) ?_
 refine bl_nil ?_
 intro W6 hbR hS'
 clear hS; have hS := hS'; clear hS'
 refine fin_v ?_
 refine fin_v ?_
 refine fin_v ?_
 refine fin_v ?_
 refine fin_v ?_
 refine fin_v ?_
 refine fin_v ?_
 refine fin_v ?_
 refine fin_v ?_
 refine fin_v ?_
 refine fin_v ?_
 refine fin_v ?_
 refine fin_p ?_; rintro _ ⟨v1, rfl, hn1⟩
 refine fin_v ?_
 refine fin_v ?_
 refine fin_v ?_
 refine fin_v ?_
 refine fin_v ?_
 refine fin_v ?_
 refine fin_v ?_
 refine fin_v ?_
 refine fin_v ?_
 refine fin_v ?_
 refine fin_v ?_
 refine fin_v ?_
 refine fin_p ?_; rintro _ ⟨v2, rfl, hn2⟩
 refine fin_p ?_; rintro _ ⟨v3, rfl, hn3⟩
 refine fin_nil ?_
 refine op_storeA (i := 0) (vs := [_, _, _, _, _, _]) (cs' := [_, _, _, _, _, _]) (O' := [_, _, _, _, _]) hS Tryd.sizeOf47 rfl rfl rfl rfl rfl rfl rfl ?_
 clear hS; intro W7 hS
 refine endF ?_
 refine XF.blkN ?_
 refine XF.thenN ?_
 refine seqF (regF ?_)
 refine op_loadA (vs := [_, _, _, _, _, _]) Tryd.isAgg47 Tryd.sizeOf47 rfl (CellsAt.own (j := 0) (m := 6) (hS.at_ 0 rfl) rfl) rfl ?_
 refine op_storeA (i := 1) (vs := [_, _, _, _, _, _]) (cs' := [_, _, _, _, _, _]) (O' := [_, _, _, _, _]) hS Tryd.sizeOf47 rfl rfl rfl rfl rfl rfl rfl ?_
 clear hS; intro W8 hS
 refine endF (XF.thenN ?_)
 refine retF ?_
 refine XF.res (resC1 (vs := [_, _, _, _, _, _]) Tryd.results62 Tryd.isAgg47 Tryd.sizeOf47 rfl (CellsAt.own (j := 0) (m := 6) (hS.at_ 1 rfl) rfl)) ?_
 exact ⟨v3, rfl, (hn3.agree (hS.since 0 rfl)).mono hsz, hS.below⟩
theorem oneA_pair (t n u m : Int) (a1 a2 : Option Addr) (c1 c2 b off sc : Nat) (w : World) (hs1 : S3 w b off ⟨t, n, a1, 0, c1⟩) (hs2 : S3 w b (off + 3) ⟨u, m, a2, 0, c2⟩) (hp1 : plainB t n 0 = true) (hp2 : plainB u m 0 = true) :
  Calls Tryd.prog 59 #[.agg #[.int .i64 5, .int .i64 0, .slice (some ⟨b, off, none⟩) 2 sc]] w (WRet (.two t n u m) (.two (oneP t n) (oneP u m)) w) := by
 refine enterF (args := [.agg #[.int .i64 5, .int .i64 0, .slice (some ⟨b, off, none⟩) 2 sc]]) Tryd.func59 rfl Tryd.ntmps59 rfl ?_
 have hS := St.start w
 refine seqF (regF ?_)
 refine op_box (cs := [_, _, _]) hS rfl rfl rfl ?_
 clear hS; intro B1 W1 hS
 refine op_alloc (cs := [_, _, _, _, _, _]) hS Tryd.zeroValue47 rfl rfl ?_
 clear hS; intro B2 W2 hS
 refine endF (XF.thenN ?_)
 refine seqF (regF ?_)
 refine op_alloc (cs := [_, _, _, _, _, _]) hS Tryd.zeroValue47 rfl rfl ?_
 clear hS; intro B3 W3 hS
 refine endF (XF.thenN ?_)
 refine seqF ?_
 refine seqF (regF ?_)
 refine op_field (o' := 0) fa_25_0 rfl rfl rfl ?_
 refine op_load Tryd.isAgg22 rfl (cell_own (hS.at_ 2 rfl) rfl) rfl ?_
 refine endF (XF.thenN ?_)
 refine blockF ?_
 refine seqF (regF ?_)
 refine op_eql rfl rfl rfl ?_
 refine op_assign rfl rfl ?_
 refine endF (XF.thenN ?_)
 refine condF rfl (fun hc => absurd (of_decide_eq_true hc) (by omega)) (fun hc => ?_)
 have hc := of_decide_eq_false hc
 refine seqF (regF ?_)
 refine op_eql rfl rfl rfl ?_
 refine op_assign rfl rfl ?_
 refine endF (XF.thenN ?_)
 refine condF rfl (fun hc => absurd (of_decide_eq_true hc) (by omega)) (fun hc => ?_)
 have hc := of_decide_eq_false hc
 refine seqF (regF ?_)
 refine op_eql rfl rfl rfl ?_
 refine op_assign rfl rfl ?_
 refine endF (XF.thenN ?_)
 refine condF rfl (fun hc => ?_) (fun hc => absurd (of_decide_eq_false hc) (by omega))
 have hc := of_decide_eq_true hc
 have hsz := hS.below.size
 have k1 := CellsAt.agree hS.agree (Nat.zero_le _) hs1.cells
 have k2 := CellsAt.agree hS.agree (Nat.zero_le _) hs2.cells
 refine regBK followsM 11 hS rfl rfl (by kernel_rfl) (by kernel_rfl) (by kernel_rfl) (fun d hd => by cases hd) ?_
 refine bl_cons 1 rfl (isV _) (stab_isV _) (rgV (li := [(1, _)]) rfl (w_free rfl) ⟨g_fr (by kernel_rfl) rfl, trivial⟩ (fun w hw => rn_field (o' := 2) fa_25_2 rfl rfl) (at_top rfl)) ?_
 refine bl_cons 2 rfl (isV _) (stab_isV _) (rgV (li := [(26, _)]) rfl (w_free rfl) ⟨g_dep 0 (by kernel_rfl) (at_dep rfl rfl rfl), trivial⟩ (fun w hw => rn_load Tryd.isAgg23 rfl ((below_agree hw 0).cell (Nat.zero_le _) (cell_own (hS.at_ 2 rfl) rfl))) (at_top rfl)) ?_
 refine bl_cons 3 rfl (isV _) (stab_isV _) (rgV (li := [(27, _)]) rfl (w_free rfl) ⟨g_dep 1 (by kernel_rfl) (at_dep rfl rfl rfl), trivial⟩ (fun w hw => rn_indexA (j := 0) Tryd.underlying23 Tryd.sizeOf25 rfl rfl rfl (by omega) (Nat.add_zero _)) (at_top rfl)) ?_
 refine bl_cons 4 rfl (isV _) (stab_isV _) (rgV (li := [(28, _)]) rfl (w_free rfl) ⟨g_dep 2 (by kernel_rfl) (at_dep rfl rfl rfl), trivial⟩ (fun w hw => rn_loadA (vs := [_, _, _]) Tryd.isAgg25 Tryd.sizeOf25 rfl (CellsAt.agree (below_agree hw 0) (Nat.zero_le _) (by assumption))) (at_top rfl)) ?_
 refine bl_cons 5 rfl (isNew W3.heap.size (.one t n) (.one (oneP t n))) (stab_isNew) (rg_call [isV _] rfl goes_59 (w_free rfl) ⟨p_tmp (g_dep 3 (by kernel_rfl) (at_dep rfl rfl rfl)), trivial⟩ (fun vs w' hb hh => by have e := holds_isV (us := [_]) hh; subst e; exact wret_gives hb.size (oneA_plain _ _ _ _ _ hp1)) (at_top rfl)) ?_
 refine bl_cons 6 rfl (isV _) (stab_isV _) (rgV (li := [(1, _)]) rfl (w_free rfl) ⟨g_fr (by kernel_rfl) rfl, trivial⟩ (fun w hw => rn_field (o' := 2) fa_25_2 rfl rfl) (at_top rfl)) ?_
 refine bl_cons 7 rfl (isV _) (stab_isV _) (rgV (li := [(31, _)]) rfl (w_free rfl) ⟨g_dep 5 (by kernel_rfl) (at_dep rfl rfl rfl), trivial⟩ (fun w hw => rn_load Tryd.isAgg23 rfl ((below_agree hw 0).cell (Nat.zero_le _) (cell_own (hS.at_ 2 rfl) rfl))) (at_top rfl)) ?_
 refine bl_cons 8 rfl (isV _) (stab_isV _) (rgV (li := [(32, _)]) rfl (w_free rfl) ⟨g_dep 6 (by kernel_rfl) (at_dep rfl rfl rfl), trivial⟩ (fun w hw => rn_indexA (j := 1) Tryd.underlying23 Tryd.sizeOf25 rfl rfl rfl (by omega) rfl) (at_top rfl)) ?_
 refine bl_cons 9 rfl (isV _) (stab_isV _) (rgV (li := [(33, _)]) rfl (w_free rfl) ⟨g_dep 7 (by kernel_rfl) (at_dep rfl rfl rfl), trivial⟩ (fun w hw => rn_loadA (vs := [_, _, _]) Tryd.isAgg25 Tryd.sizeOf25 rfl (CellsAt.agree (below_agree hw 0) (Nat.zero_le _) (by assumption))) (at_top rfl)) ?_
 refine bl_cons 10 rfl (isNew W3.heap.size (.one u m) (.one (oneP u m))) (stab_isNew) (rg_call [isV _] rfl goes_59 (w_free rfl) ⟨p_tmp (g_dep 8 (by kernel_rfl) (at_dep rfl rfl rfl)), trivial⟩ (fun vs w' hb hh => by have e := holds_isV (us := [_]) hh; subst e; exact wret_gives hb.size (oneA_plain _ _ _ _ _ hp2)) (at_top rfl)) ?_
 refine bl_cons 11 rfl (isNew W3.heap.size (.two t n u m) (.two (oneP t n) (oneP u m))) (stab_isNew) (rg_call [isNew _ (.one t n) (.one (oneP t n)), isNew _ (.one u m) (.one (oneP u m))] rfl goes_75 (w_free rfl) ⟨p_tmp (g_dep 4 (by kernel_rfl) (at_dep rfl rfl rfl)), p_tmp (g_dep 9 (by kernel_rfl) (at_dep rfl rfl rfl)), trivial⟩ (fun vs w' hb hh => pair_gives hb.size hh) (at_top rfl)) ?_
 refine bl_nil ?_
 intro W4 hbR hS'
 clear hS; have hS := hS'; clear hS'
 refine fin_v ?_
 refine fin_v ?_
 refine fin_v ?_
 refine fin_v ?_
 refine fin_p ?_; rintro _ ⟨v1, rfl, hn1⟩
 refine fin_v ?_
 refine fin_v ?_
 refine fin_v ?_
 refine fin_v ?_
 refine fin_p ?_; rintro _ ⟨v2, rfl, hn2⟩
 refine fin_p ?_; rintro _ ⟨v3, rfl, hn3⟩
 refine fin_nil ?_
 refine op_storeA (i := 0) (vs := [_, _, _, _, _, _]) (cs' := [_, _, _, _, _, _]) (O' := [_, _, _]) hS Tryd.sizeOf47 rfl rfl rfl rfl rfl rfl rfl ?_
 clear hS; intro W5 hS
 refine endF ?_
 refine XF.blkN ?_
 refine XF.thenN ?_
 refine seqF (regF ?_)
 refine op_loadA (vs := [_, _, _, _, _, _]) Tryd.isAgg47 Tryd.sizeOf47 rfl (CellsAt.own (j := 0) (m := 6) (hS.at_ 0 rfl) rfl) rfl ?_
 refine op_storeA (i := 1) (vs := [_, _, _, _, _, _]) (cs' := [_, _, _, _, _, _]) (O' := [_, _, _]) hS Tryd.sizeOf47 rfl rfl rfl rfl rfl rfl rfl ?_
 clear hS; intro W6 hS
 refine endF (XF.thenN ?_)
 refine retF ?_
 refine XF.res (resC1 (vs := [_, _, _, _, _, _]) Tryd.results59 Tryd.isAgg47 Tryd.sizeOf47 rfl (CellsAt.own (j := 0) (m := 6) (hS.at_ 1 rfl) rfl)) ?_
 exact ⟨v3, rfl, (hn3.agree (hS.since 0 rfl)).mono hsz, hS.below⟩
end Go.Proofs.YtfkbkekgnoanaaaDoor
namespace Go.Proofs.YtfkbkekgnoanaaaDoor
open Go.RowKit
attribute [local go_sem ↓] Go.wp_at_zero Go.wp_at_succ
theorem zeroA_lit (t n : Int) (a : Option Addr) (l c0 : Nat) (ht : t ≠ 5) (w : World) :
  Calls Tryd.prog 58 #[.agg #[.int .i64 t, .int .i64 n, .slice a l c0]] w fun e w' => e = .returned (.agg #[.bool true, .int .i64 0, .int .u64 0, .slice none 0 0, .slice none 0 0, .slice none 0 0]) ∧ Below w.heap.size w w' := zeroA_plain t n a l c0 ht w
theorem pair_zero (w : World) :
  Calls Tryd.prog 75 #[.agg #[.bool true, .int .i64 0, .int .u64 0, .slice none 0 0, .slice none 0 0, .slice none 0 0], .agg #[.bool true, .int .i64 0, .int .u64 0, .slice none 0 0, .slice none 0 0, .slice none 0 0]] w fun e w' => ∃ blk, e = .returned (.agg #[.bool false, .int .i64 0, .int .u64 0, .slice none 0 0, .slice none 0 0, .slice (some ⟨blk, 0, none⟩) 2 2]) ∧ W6 w' blk 0 zeroF ∧ W6 w' blk 6 zeroF ∧ w.heap.size ≤ blk ∧ Below w.heap.size w w' := pair_is zeroF zeroF w
set_option maxHeartbeats 8000000 in
theorem zeroA_pair (d : Nat) (sa : Option Addr) (sc : Nat) (p q : SV) (w : World) (hsp : SIn w (d + 1) (.mk ⟨5, 0, sa, 2, sc⟩ [p, q])) (hp : p.pl = true) (hq : q.pl = true) :
  Calls Tryd.prog 58 #[.agg #[.int .i64 5, .int .i64 0, .slice sa 2 sc]] w (WRet (.two p.f.tag p.f.dim q.f.tag q.f.dim) (.two zeroP zeroP) w) := by
 obtain ⟨_, b, off, ha, hb, hp3, hq3, _, _⟩ := hsp.two
 obtain rfl : sa = some ⟨b, off, none⟩ := ha
 obtain ⟨⟨pt, pn, pa, pl, pc⟩, pps⟩ := p
 obtain ⟨⟨qt, qn, qa, ql, qc⟩, qps⟩ := q
 have hp5 := Lib.hid (pl_pair (show plainB pt pn pl = true from hp)); have hq5 := Lib.hid (pl_pair (show plainB qt qn ql = true from hq))
 obtain ⟨t0, t1⟩ := two_boxes2 w #[.int .i64 5, .int .i64 0, .slice (some ⟨b, off, none⟩) 2 sc] #[.bool false, .int .i64 0, .int .u64 0, .slice none 0 0, .slice none 0 0, .slice none 0 0] 25 47
 have T0 := Lib.hid t0; have T1 := Lib.hid t1
 have hB := Lib.hid (wbox w #[.int .i64 5, .int .i64 0, .slice (some ⟨b, off, none⟩) 2 sc] #[.bool false, .int .i64 0, .int .u64 0, .slice none 0 0, .slice none 0 0, .slice none 0 0] 25 47)
 have hsz : ((w.alloc (.cells #[.int .i64 5, .int .i64 0, .slice (some ⟨b, off, none⟩) 2 sc] 25)).alloc (.cells #[.bool false, .int .i64 0, .int .u64 0, .slice none 0 0, .slice none 0 0, .slice none 0 0] 47)).heap.size = w.heap.size + 1 + 1 := by simp
 have n1 : ¬ (w.heap.size + 1 = w.heap.size) := by omega
 have n2 : ¬ (w.heap.size + 1 = b) := by omega
 obtain ⟨W0, hW0⟩ : ∃ W, (w.alloc (.cells #[.int .i64 5, .int .i64 0, .slice (some ⟨b, off, none⟩) 2 sc] 25)).alloc (.cells #[.bool false, .int .i64 0, .int .u64 0, .slice none 0 0, .slice none 0 0, .slice none 0 0] 47) = W := ⟨_, rfl⟩
 rw [hW0] at hB T0 T1 hsz
 have HSZ := Lib.hid hsz
 have HP3 := Lib.hid (S3.below hp3 hB.out); have HQ3 := Lib.hid (S3.below hq3 hB.out)
 obtain ⟨x0, x1, x2⟩ := tri_cells T0.out
 obtain ⟨y0, y1, y2, y3, y4, y5⟩ := six_cells T1.out
 have EN : Hid (∀ W : World, Below W0.heap.size W0 W → W.cell? ⟨w.heap.size, 2, none⟩ = some (.slice (some ⟨b, off, none⟩) 2 sc) ∧ W.cell? ⟨b, off, none⟩ = some (.int .i64 pt) ∧ W.cell? ⟨b, off + 1, none⟩ = some (.int .i64 pn) ∧ W.cell? ⟨b, off + 2, none⟩ = some (.slice pa pl pc) ∧ W.cell? ⟨b, off + 3, none⟩ = some (.int .i64 qt) ∧ W.cell? ⟨b, off + 4, none⟩ = some (.int .i64 qn) ∧ W.cell? ⟨b, off + 5, none⟩ = some (.slice qa ql qc)) := fun W h => by
  obtain ⟨a0, a1, a2⟩ := tri_cells (heap_old T0.out h)
  obtain ⟨d0, d1, d2⟩ := HP3.out.below h; obtain ⟨e0, e1, e2⟩ := HQ3.out.below h
  exact ⟨a2, d0, d1, d2, e0, e1, e2⟩
 obtain ⟨m0, m1, m2, m3, m4, m5, m6⟩ := EN.out _ (Below.refl _ _)
 clear hsp hp hq hp3 hq3 t0 t1 hsz hb
 have D0 : Hid (Below W0.heap.size W0 W0.drew) := (Below.refl _ _).drew
 go_enter Tryd.func58, Tryd.ntmps58
 go_wp2_with fail
 go_region_held3 (fun w' => w'.cell? ⟨w.heap.size, 2, none⟩ = some (.slice (some ⟨b, off, none⟩) 2 sc) ∧ w'.cell? ⟨b, off, none⟩ = some (.int .i64 pt) ∧ w'.cell? ⟨b, off + 1, none⟩ = some (.int .i64 pn) ∧ w'.cell? ⟨b, off + 2, none⟩ = some (.slice pa pl pc) ∧ w'.cell? ⟨b, off + 3, none⟩ = some (.int .i64 qt) ∧ w'.cell? ⟨b, off + 4, none⟩ = some (.int .i64 qn) ∧ w'.cell? ⟨b, off + 5, none⟩ = some (.slice qa ql qc))
  (first | (simp only [World.cell?_setCell_far, ne_eq, n1, n2, not_false_eq_true]; with_reducible exact EN.out _ D3.out) | with_reducible exact EN.out _ D0.out | with_reducible exact EN.out _ D1.out | with_reducible exact EN.out _ D2.out | with_reducible exact EN.out _ D3.out | with_reducible exact EN.out _ (Below.refl _ _) | fail)
  (first | (go_at_call 58; with_reducible refine (zeroA_lit pt pn pa pl pc hp5.out W0.drew).mono ?_; rintro e z1 ⟨rfl, hz1⟩; have D1 := Lib.hid (D0.out.trans (hz1.mono D0.out.size))) | (go_at_call 58; with_reducible refine (zeroA_lit qt qn qa ql qc hq5.out z1).mono ?_; rintro e z2 ⟨rfl, hz2⟩; have D2 := Lib.hid (D1.out.trans (hz2.mono D1.out.size))) | (go_at_call 75; with_reducible refine (pair_zero z2).mono ?_; rintro e z3 ⟨blk, rfl, hx6, hy6, hge, hz3⟩; have D3 := Lib.hid (D2.out.trans (hz3.mono D2.out.size)); have XO := Lib.hid (heap_old T1.out D3.out); obtain ⟨o0, o1, o2, o3, o4, o5⟩ := six_cells XO.out; have f0 := six_frozen XO.out 0; have f1 := six_frozen XO.out 1; have f2 := six_frozen XO.out 2; have f3 := six_frozen XO.out 3; have f4 := six_frozen XO.out 4; have f5 := six_frozen XO.out 5) | fail)
 all_goals
  have NS := Lib.hid (six_set (v0 := .bool false) (v1 := .int .i64 0) (v2 := .int .u64 0) (v3 := .slice none 0 0) (v4 := .slice none 0 0) (v5 := .slice (some ⟨blk, 0, none⟩) 2 2) XO.out)
  obtain ⟨s0, s1, s2, s3, s4, s5⟩ := six_cells NS.out
  have hle := D2.out.size
  have hge2 : w.heap.size + 1 + 1 ≤ blk := by have := HSZ.out; omega
  have HX6 := Lib.hid hx6; have HY6 := Lib.hid hy6
  have HB3 := Lib.hid (hB.out.trans (D3.out.mono hB.out.size))
  clear hx6 hy6 f0 f1 f2 f3 f4 f5 o0 o1 o2 o3 o4 o5
  go_wp2_with fail
  refine bodyPost_ret (v := .agg #[.bool false, .int .i64 0, .int .u64 0, .slice none 0 0, .slice none 0 0, .slice (some ⟨blk, 0, none⟩) 2 2]) ?_ rfl ⟨pairF blk, rfl, ?_, ?_⟩
  rotate_left
  ·exact (pair_new (HX6.out.above (n := w.heap.size + 1 + 1) hge2 (put6_above _ _ _ _ _ _ (Above.refl _ _) (by omega))) (HY6.out.above (n := w.heap.size + 1 + 1) hge2 (put6_above _ _ _ _ _ _ (Above.refl _ _) (by omega))) hge2 (zero_new _ _ _ _) (zero_new _ _ _ _)).mono (by omega)
  ·exact put6_below _ _ _ _ _ _ HB3.out (by omega)
  ·simp [results, Tryd.results58, go_sem, s0, s1, s2, s3, s4, s5]
end Go.Proofs.YtfkbkekgnoanaaaDoor
namespace Go.Proofs.YtfkbkekgnoanaaaDoor
open Go Go.RowKit
theorem PIs.pw {w : World} {t n : Int} {f : WF} {x : PF} (h : PIs w t n f x) : pwOk t n f = true := by
 obtain ⟨ez, ec, eg, er, ex⟩ := pf_inj h.pf
 have hrl := h.at_.rl; have hcl := h.at_.cl; have hpl := h.pl
 rw [er] at hrl; rw [ex] at hcl
 unfold pwOk bareB onlyB
 rw [ez, ec, eg, er, ex, hpl, ← hrl, ← hcl]
 cases h.ok with
 | zero => simp [zeroP]
 | bool ht => rw [ht]; simp [pC]
 | cost c ht h0 h1 => rw [ht]; simp [pC, h0, h1]
 | facts m g rows ht hn hg => rw [ht, hn]; simp [pF, good_check hg]
 | cells m cs ht hn hv => rw [ht, hn]; simp [pX, hv.chk]
theorem PIs.rl100 {w : World} {t n : Int} {f : WF} {x : PF} (h : PIs w t n f x) : f.rl ≤ 100 := by have := h.rows64 (l := 0); omega
theorem SIs.sin {w : World} {S : PS} {f : SF} (h : SIs w S f) (hok : S.ok) : ∃ s : SV, s.f = f ∧ SIn w 2 s ∧ spaceE s = 0 := by
 cases S with
 | one t n =>
  obtain ⟨a, c, rfl⟩ := h
  exact ⟨.mk ⟨t, n, a, 0, c⟩ [], rfl, ⟨rfl, .inl rfl, by simp⟩, by
   show (if plainB t n 0 = true then (0 : Int) else _) = 0
   rw [if_pos (show plainB t n 0 = true from hok)]⟩
 | two t n u m =>
  obtain ⟨b, off, c, a1, c1, a2, c2, rfl, h1, h2⟩ := h
  refine ⟨.mk ⟨5, 0, some ⟨b, off, none⟩, 2, c⟩ [.mk ⟨t, n, a1, 0, c1⟩ [], .mk ⟨u, m, a2, 0, c2⟩ []], rfl, ⟨rfl, .inr ⟨b, off, rfl, fun i p hi => ?_⟩, ?_⟩, ?_⟩
  ·match i, hi with
   | 0, hi => simp at hi; subst hi; simpa [SV.f] using h1
   | 1, hi => simp at hi; subst hi; simpa [SV.f] using h2
  ·intro p hp
   simp at hp
   rcases hp with rfl | rfl <;> exact ⟨rfl, .inl rfl, by simp⟩
  ·have e1 : SV.pl (.mk ⟨t, n, a1, 0, c1⟩ []) = true := hok.1
   have e2 : SV.pl (.mk ⟨u, m, a2, 0, c2⟩ []) = true := hok.2
   simp only [spaceE]
   rw [if_neg (by simp [plainB]), if_pos ⟨trivial, trivial, rfl, by simp [e1, e2]⟩]
theorem XIs.two {w : World} {t n u m : Int} {f : WF} {a b : PF} (h : XIs w (.two t n u m) f (.two a b)) : ∃ (ra ca : Option Addr) (rc cc pc fb fo : Nat) (f1 f2 : WF), f = ⟨false, 0, 0, ra, 0, rc, [], ca, 0, cc, [], some ⟨fb, fo, none⟩, 2, pc⟩ ∧ W6 w fb fo f1 ∧ W6 w fb (fo + 6) f2 ∧ PIs w t n f1 a ∧ PIs w u m f2 b := by
 obtain ⟨h1, h2, h3, h4, blk, off, g, k, h5, h6, h7, h8, h9⟩ := h
 obtain ⟨z, c, gg, ra, rl, rc, rows, ca, cl, cc, cells, pa, pl, pc⟩ := f
 simp only [WF.pf, pC, PF.mk.injEq] at h1
 obtain ⟨rfl, rfl, rfl, rfl, rfl⟩ := h1
 dsimp only at h2 h3 h4 h5
 subst h2; subst h3; subst h4; subst h5
 exact ⟨ra, ca, rc, cc, pc, blk, off, g, k, rfl, h6, h7, h8, h9⟩
theorem two_win {w : World} {t n u m : Int} {ra ca : Option Addr} {rc cc pc fb fo : Nat} {f1 f2 : WF} {a b : PF} (h6 : W6 w fb fo f1) (h7 : W6 w fb (fo + 6) f2) (h8 : PIs w t n f1 a) (h9 : PIs w u m f2 b) :
  WIn w 2 (.mk ⟨false, 0, 0, ra, 0, rc, [], ca, 0, cc, [], some ⟨fb, fo, none⟩, 2, pc⟩ [.mk f1 [], .mk f2 []]) := by
 refine ⟨⟨.inl rfl, rfl, (by show (0 : Nat) < _; decide), (fun r hr => by cases hr), .inl rfl, rfl, (fun c hc => by cases hc), (by show (0 : Nat) ≤ _; decide)⟩, rfl, .inr ⟨fb, fo, rfl, fun i p hi => ?_⟩, fun p hp => ?_⟩
 ·match i, hi with
  | 0, hi => simp at hi; subst hi; simpa [WV.f] using h6
  | 1, hi => simp at hi; subst hi; simpa [WV.f] using h7
 ·simp at hp
  rcases hp with rfl | rfl
  ·exact ⟨h8.at_, h8.pl.symm, .inl rfl, by simp⟩
  ·exact ⟨h9.at_, h9.pl.symm, .inl rfl, by simp⟩
theorem two_pairOk {w : World} {t n u m : Int} {ra ca : Option Addr} {a1 a2 : Option Addr} {c1 c2 rc cc pc fb fo : Nat} {f1 f2 : WF} {a b : PF} (h8 : PIs w t n f1 a) (h9 : PIs w u m f2 b) :
  pairOk (.mk ⟨t, n, a1, 0, c1⟩ []) (.mk ⟨u, m, a2, 0, c2⟩ []) ⟨false, 0, 0, ra, 0, rc, [], ca, 0, cc, [], some ⟨fb, fo, none⟩, 2, pc⟩ [.mk f1 [], .mk f2 []] = true := by
 have e1 : pwOk t n f1 = true := h8.pw
 have e2 : pwOk u m f2 = true := h9.pw
 simp [pairOk, bareB, onlyB, pwAt, SV.f, WV.f, e1, e2]
section
variable {w : World} {S : PS} {sf : SF} {f g : WF} {x y : PX}
theorem sin_two {t n u m : Int} {b off sc : Nat} {a1 a2 : Option Addr} {c1 c2 : Nat} (h1 : S3 w b off ⟨t, n, a1, 0, c1⟩) (h2 : S3 w b (off + 3) ⟨u, m, a2, 0, c2⟩) : SIn w 2 (.mk ⟨5, 0, some ⟨b, off, none⟩, 2, sc⟩ [.mk ⟨t, n, a1, 0, c1⟩ [], .mk ⟨u, m, a2, 0, c2⟩ []]) := by
 refine ⟨rfl, .inr ⟨b, off, rfl, fun i p hi => ?_⟩, ?_⟩
 ·match i, hi with
  | 0, hi => simp at hi; subst hi; simpa [SV.f] using h1
  | 1, hi => simp at hi; subst hi; simpa [SV.f] using h2
 ·intro p hp
  simp at hp
  rcases hp with rfl | rfl <;> exact ⟨rfl, .inl rfl, by simp⟩
theorem isA_ok (hs : SIs w S sf) (hok : S.ok) (hx : XIs w S f x) : Calls Tryd.prog 78 #[sf.val, f.val] w fun e w' => e = .returned (.bool true) ∧ Below w.heap.size w w' := by
 cases S <;> cases x <;> first | exact hx.elim | skip
 ·obtain ⟨a, c, rfl⟩ := hs
  exact isA_plain _ _ _ _ _ _ hok (PIs.rl100 hx) w (PIs.at_ hx) true (PIs.pw hx)
 ·obtain ⟨b, off, c, a1, c1, a2, c2, rfl, h1, h2⟩ := hs
  obtain ⟨ra, ca, rc, cc, pc, fb, fo, f1, f2, rfl, h6, h7, h8, h9⟩ := hx.two
  exact isA_pair 1 _ _ _ _ _ _ w (sin_two h1 h2) hok.1 hok.2 1 (two_win h6 h7 h8 h9) (by intro p hp; simp at hp; rcases hp with rfl | rfl <;> first | exact h8.rl100 | exact h9.rl100) true (two_pairOk h8 h9)
theorem spaceA_ok (hs : SIs w S sf) (hok : S.ok) : Calls Tryd.prog 51 #[sf.val] w fun e w' => e = .returned (.int .i64 0) ∧ Below w.heap.size w w' := by
 obtain ⟨s, rfl, h1, h2⟩ := hs.sin hok
 exact spaceA_is 2 s 0 w h1 h2
theorem wExt_is (hs : SIs w S sf) (hok : S.ok) (hx : XIs w S f x) (hy : XIs w S g y) (ht : Tabs w) : Calls Tryd.prog 62 #[sf.val, f.val, g.val] w (WRet S (extX S x y) w) := by
 cases S <;> cases x <;> cases y <;> first | exact hx.elim | exact hy.elim | skip
 ·obtain ⟨a, c, rfl⟩ := hs
  exact extA_plain _ _ _ _ _ _ _ _ _ hok hx hy ht
 ·obtain ⟨b, off, c, a1, c1, a2, c2, rfl, h1, h2⟩ := hs
  obtain ⟨ra, ca, rc, cc, pc, fb, fo, f1, f2, rfl, h6, h7, h8, h9⟩ := hx.two
  obtain ⟨ra', ca', rc', cc', pc', gb, go, g1, g2, rfl, h6', h7', h8', h9'⟩ := hy.two
  exact extA_pair _ _ _ _ _ _ _ _ _ _ _ _ h1 h2 hok.1 hok.2 _ _ _ _ _ _ _ _ _ _ _ h6 h7 h8 h9 _ _ _ _ _ _ _ _ _ _ _ h6' h7' h8' h9' ht
theorem oneA_ok (hs : SIs w S sf) (hok : S.ok) : Calls Tryd.prog 59 #[sf.val] w (WRet S (oneX S) w) := by
 cases S with
 | one t n =>
  obtain ⟨a, c, rfl⟩ := hs
  exact oneA_plain _ _ _ _ _ hok
 | two t n u m =>
  obtain ⟨b, off, c, a1, c1, a2, c2, rfl, h1, h2⟩ := hs
  exact oneA_pair _ _ _ _ _ _ _ _ _ _ _ _ h1 h2 hok.1 hok.2
theorem zeroA_ok (hs : SIs w S sf) (hok : S.ok) : Calls Tryd.prog 58 #[sf.val] w (WRet S (zeroX S) w) := by
 cases S with
 | one t n =>
  obtain ⟨a, c, rfl⟩ := hs
  refine (zeroA_plain t n a 0 c (pl_pair hok) w).mono ?_
  rintro e w' ⟨rfl, hb⟩
  exact ⟨zeroF, rfl, zero_new _ _ _ _, hb⟩
 | two t n u m =>
  obtain ⟨b, off, c, a1, c1, a2, c2, rfl, h1, h2⟩ := hs
  exact zeroA_pair 1 _ _ _ _ w (sin_two h1 h2) hok.1 hok.2
end
end Go.Proofs.YtfkbkekgnoanaaaDoor
namespace Go.Proofs.YtfkbkekgnoanaaaDoor
open Go Go.RowKit
theorem own_two {w : World} {base : Nat} {v : Value} {g h : WF} (hr : w.ownsRow base 47 6 v 2 (g.six ++ h.six)) : ∃ b c, v = .slice (some ⟨b, 0, none⟩) 2 c ∧ base ≤ b ∧ W6 w b 0 g ∧ W6 w b 6 h := by
 rcases hr.2 with ⟨_, h2⟩ | ⟨b, cap, cur, rfl, hb, hh, h1, h2, h3, h4⟩
 ·cases h2
 ·have key : ∀ i v, (g.six ++ h.six)[i]? = some v → w.cell? ⟨b, i, none⟩ = some v := fun i v hi => by
   rw [← h4, List.getElem?_take] at hi
   split at hi
   ·unfold World.cell?; simp only [hh]; simpa using hi
   ·cases hi
  exact ⟨b, cap, rfl, hb, ⟨key 0 _ rfl, key 1 _ rfl, key 2 _ rfl, key 3 _ rfl, key 4 _ rfl, key 5 _ rfl⟩, ⟨key 6 _ rfl, key 7 _ rfl, key 8 _ rfl, key 9 _ rfl, key 10 _ rfl, key 11 _ rfl⟩⟩
theorem copied_fin {w W : World} {t n u m : Int} {ra ca : Option Addr} {rc cc lo1 lo2 : Nat} {v : Value} {g h : WF} {x y : PF} (hb : Below w.heap.size w W) (hr : W.ownsRow w.heap.size 47 6 v 2 (g.six ++ h.six)) (h1 : w.heap.size ≤ lo1) (k1 : PNew lo1 W t n g x) (h2 : w.heap.size ≤ lo2) (k2 : PNew lo2 W u m h y) :
  WRet (.two t n u m) (.two x y) w (.returned (.agg (List.toArray [.bool false, .int .i64 0, .int .u64 0, .slice ra 0 rc, .slice ca 0 cc, v]))) W := by
 obtain ⟨b, c, rfl, hb0, h6, h7⟩ := own_two hr
 exact ⟨⟨false, 0, 0, ra, 0, rc, [], ca, 0, cc, [], some ⟨b, 0, none⟩, 2, c⟩, rfl, ⟨rfl, rfl, rfl, rfl, b, g, h, rfl, hb0, h6, h7, k1.mono h1, k2.mono h2⟩, hb⟩
theorem copied_pair (t n u m0 : Int) (w : World) (fra fca : Option Addr) (frc fcc fpc fb fo : Nat) (f1 f2 : WF) (x1 x2 : PF) (hf6 : W6 w fb fo f1) (hf7 : W6 w fb (fo + 6) f2) (hx1 : PIs w t n f1 x1) (hx2 : PIs w u m0 f2 x2) :
  Calls Tryd.prog 61 #[.agg #[.bool false, .int .i64 0, .int .u64 0, .slice fra 0 frc, .slice fca 0 fcc, .slice (some ⟨fb, fo, none⟩) 2 fpc]] w (WRet (.two t n u m0) (.two x1 x2) w) := by
 refine enterF (args := [.agg #[.bool false, .int .i64 0, .int .u64 0, .slice fra 0 frc, .slice fca 0 fcc, .slice (some ⟨fb, fo, none⟩) 2 fpc]]) Tryd.func61 rfl Tryd.ntmps61 rfl ?_
 have hS := St.start w
 refine seqF (regF ?_)
 refine op_box (cs := [_, _, _, _, _, _]) hS rfl rfl rfl ?_
 clear hS; intro B1 W1 hS
 refine op_alloc (cs := [_, _, _, _, _, _]) hS Tryd.zeroValue47 rfl rfl ?_
 clear hS; intro B2 W2 hS
 refine endF (XF.thenN ?_)
 refine seqF (regF ?_)
 refine op_field (o' := 2) fa_47_2 rfl rfl rfl ?_
 refine op_field (o' := 3) fa_43_1 rfl rfl rfl ?_
 refine op_load Tryd.isAgg41 rfl (cell_own (hS.at_ 1 rfl) rfl) rfl ?_
 refine op_call (vs := [_]) hS goes_79 rfl (clone_is _ _ [] _ (by simp) (.inl rfl) 0 rfl) rfl ?_
 rintro e W3 ⟨v, rfl, hown, hb⟩
 refine ⟨_, rfl, hb, fun hS' => ?_⟩
 clear hS; have hS := hS'; clear hS' hb
 obtain ⟨ra1, rc1, rfl, _, _⟩ := (urow_of_own (rows := []) hown).2
 clear hown
 refine op_field (o' := 2) fa_47_2 rfl rfl rfl ?_
 refine op_field (o' := 3) fa_43_1 rfl rfl rfl ?_
 refine op_store (i := 1) (cs' := [_, _, _, _, _, _]) (O' := [_, _]) hS Tryd.sizeOf41 rfl rfl rfl rfl rfl rfl rfl ?_
 clear hS; intro W4 hS
 refine endF (XF.thenN ?_)
 refine seqF (regF ?_)
 refine op_field (o' := 4) fa_47_3 rfl rfl rfl ?_
 refine op_load Tryd.isAgg44 rfl (cell_own (hS.at_ 1 rfl) rfl) rfl ?_
 refine op_call (vs := [_]) hS goes_80 rfl (cclone_is _ _ [] _ (by simp) (.inl rfl) 0 rfl) rfl ?_
 rintro e W5 ⟨ca1, cc1, rfl, _, _, hb⟩
 refine ⟨_, rfl, hb, fun hS' => ?_⟩
 clear hS; have hS := hS'; clear hS' hb
 refine op_field (o' := 4) fa_47_3 rfl rfl rfl ?_
 refine op_store (i := 1) (cs' := [_, _, _, _, _, _]) (O' := [_, _]) hS Tryd.sizeOf44 rfl rfl rfl rfl rfl rfl rfl ?_
 clear hS; intro W6 hS
 refine endF (XF.thenN ?_)
 refine seqF (regF ?_)
 refine op_assign rfl rfl ?_
 refine endF (XF.thenN ?_)
 refine seqF ?_
 refine seqF ?_
 have hS := (hS.newG 47 6).clear
 refine regF ?_
 refine op_field (o' := 5) fa_47_4 rfl rfl rfl ?_
 refine op_load Tryd.isAgg45 rfl (cell_own (hS.at_ 1 rfl) rfl) rfl ?_
 refine op_len Tryd.underlying45 rfl rfl ?_
 refine op_move rfl rfl ?_
 refine endF (XF.thenN ?_)
 refine blockF ?_
 refine loopF (fun m l W => (m = 2 ∧ l = [(1, .pointer (some ⟨B1, 0, none⟩)), (2, .pointer (some ⟨B2, 0, none⟩)), (3, .slice none 0 0), (17, .slice (some ⟨fb, fo, none⟩) 2 fpc), (18, .int .i64 2), (19, .int .i64 0)] ∧ St w [(B2, [.bool false, .int .i64 0, .int .u64 0, .slice none 0 0, .slice none 0 0, .slice none 0 0], 47), (B1, [.bool false, .int .i64 0, .int .u64 0, .slice ra1 0 rc1, .slice ca1 0 cc1, .slice (some ⟨fb, fo, none⟩) 2 fpc], 47)] [⟨.slice none 0 0, 0, [], 47, 6⟩] [] W) ∨ (∃ v1 lo1 A1 h1, m = 1 ∧ l = [(1, .pointer (some ⟨B1, 0, none⟩)), (2, .pointer (some ⟨B2, 0, none⟩)), (3, v1), (17, .slice (some ⟨fb, fo, none⟩) 2 fpc), (18, .int .i64 2), (19, .int .i64 1)] ∧ w.heap.size ≤ lo1 ∧ PNew lo1 A1 t n h1 x1 ∧ St w [(B2, [.bool false, .int .i64 0, .int .u64 0, .slice none 0 0, .slice none 0 0, .slice none 0 0], 47), (B1, [.bool false, .int .i64 0, .int .u64 0, .slice ra1 0 rc1, .slice ca1 0 cc1, .slice (some ⟨fb, fo, none⟩) 2 fpc], 47)] [⟨v1, 1, h1.six, 47, 6⟩] [(lo1, A1)] W) ∨ (∃ v2 lo1 A1 h1 lo2 A2 h2, m = 0 ∧ l = [(1, .pointer (some ⟨B1, 0, none⟩)), (2, .pointer (some ⟨B2, 0, none⟩)), (3, v2), (17, .slice (some ⟨fb, fo, none⟩) 2 fpc), (18, .int .i64 2), (19, .int .i64 2)] ∧ w.heap.size ≤ lo1 ∧ PNew lo1 A1 t n h1 x1 ∧ w.heap.size ≤ lo2 ∧ PNew lo2 A2 u m0 h2 x2 ∧ St w [(B2, [.bool false, .int .i64 0, .int .u64 0, .slice none 0 0, .slice none 0 0, .slice none 0 0], 47), (B1, [.bool false, .int .i64 0, .int .u64 0, .slice ra1 0 rc1, .slice ca1 0 cc1, .slice (some ⟨fb, fo, none⟩) 2 fpc], 47)] [⟨v2, 2, h1.six ++ h2.six, 47, 6⟩] [(lo2, A2), (lo1, A1)] W)) (2) ([(1, _), (2, _), (3, _), (17, _), (18, _), (19, _)]) ⟨rfl, rfl, rfl, rfl, rfl, rfl, trivial⟩ (.inl ⟨rfl, rfl, hS⟩) ?_
 clear hS
 rintro m l W (⟨rfl, rfl, hS⟩ | ⟨v1, lo1, A1, h1, rfl, rfl, hlo1, hn1, hS⟩ | ⟨v2, lo1, A1, h1, lo2, A2, h2, rfl, rfl, hlo1, hn1, hlo2, hn2, hS⟩)
 ·have k1 := CellsAt.agree hS.agree (Nat.zero_le _) hf6.cells
  refine seqF (regF ?_)
  refine op_lss rfl rfl rfl ?_
  refine endF (XF.thenN ?_)
  refine seqF ?_
  refine condF rfl (fun hc => ?_) (fun hc => absurd (of_decide_eq_false hc) (by omega))
  have hc := of_decide_eq_true hc
  refine skipF ?_
  refine XF.thenN ?_
  refine seqF ?_
  refine blockF ?_
  refine seqF (regF ?_)
  refine op_indexA (j := 0) Tryd.underlying45 Tryd.sizeOf47 rfl rfl rfl (by omega) (Nat.add_zero _) rfl ?_
  refine op_loadA (vs := [_, _, _, _, _, _]) Tryd.isAgg47 Tryd.sizeOf47 rfl (by assumption) rfl ?_
  refine op_alloc (cs := [_, _, _, _, _, _]) hS Tryd.zeroValue47 rfl rfl ?_
  clear hS; intro B7 W7 hS
  refine op_storeA (i := 0) (vs := [_, _, _, _, _, _]) (cs' := [_, _, _, _, _, _]) (O' := [_, _, _]) hS Tryd.sizeOf47 rfl rfl rfl rfl rfl rfl rfl ?_
  clear hS; intro W8 hS
  refine endF (XF.thenN ?_)
  refine regF ?_
  refine op_move rfl rfl ?_
  refine op_loadA (vs := [_, _, _, _, _, _]) Tryd.isAgg47 Tryd.sizeOf47 rfl (CellsAt.own (j := 0) (m := 6) (hS.at_ 0 rfl) rfl) rfl ?_
  have hsz := hS.below.size
  refine op_call (vs := [_]) hS goes_61 rfl (copied_plain t n f1 _ _ (hx1.below hS.below)) rfl ?_
  rintro e W9 ⟨h1, rfl, hn, hb⟩
  refine ⟨_, rfl, hb, fun hS' => ?_⟩
  clear hS; have hS := hS'; clear hS'
  refine op_buildSlice (us := [(0, .agg (List.toArray [_, _, _, _, _, _]))]) hS Tryd.underlying45 Tryd.sizeOf47 Tryd.zeroValue47 rfl rfl rfl (bs_45_1 _ _ _ _ _ _) rfl ?_
  clear hS; intro B10 W10 hS
  refine op_append (i := 0) (news := [_, _, _, _, _, _]) hS Tryd.underlying45 inf_47 rfl rfl (by show 0 < 6; decide) rfl rfl rfl rfl rfl (CellsAt.own (j := 0) (m := 6) (hS.at_ 0 rfl) rfl) rfl rfl (by dsimp only; simp only [maxLen]; omega) (by dsimp only; show _ * 96 ≤ _; omega) rfl ?_
  clear hS; intro v11 W11 hS
  refine op_assign rfl rfl ?_
  refine endF ?_
  refine XF.blkN ?_
  refine XF.thenN ?_
  refine regF ?_
  refine op_add rfl rfl (IntWalk.i64_in _ (by omega)) rfl ?_
  refine op_move rfl rfl ?_
  refine endF ?_
  exact XF.round 1 [(1, _), (2, _), (3, _), (17, _), (18, _), (19, _)] (by omega) ⟨rfl, rfl, rfl, rfl, rfl, rfl, trivial⟩ (.inr (.inl ⟨_, _, _, h1, rfl, rfl, hsz, hn, hS.tail.tail⟩))
 ·have k1 := CellsAt.agree hS.agree (Nat.zero_le _) hf7.cells
  refine seqF (regF ?_)
  refine op_lss rfl rfl rfl ?_
  refine endF (XF.thenN ?_)
  refine seqF ?_
  refine condF rfl (fun hc => ?_) (fun hc => absurd (of_decide_eq_false hc) (by omega))
  have hc := of_decide_eq_true hc
  refine skipF ?_
  refine XF.thenN ?_
  refine seqF ?_
  refine blockF ?_
  refine seqF (regF ?_)
  refine op_indexA (j := 1) Tryd.underlying45 Tryd.sizeOf47 rfl rfl rfl (by omega) rfl rfl ?_
  refine op_loadA (vs := [_, _, _, _, _, _]) Tryd.isAgg47 Tryd.sizeOf47 rfl (by assumption) rfl ?_
  refine op_alloc (cs := [_, _, _, _, _, _]) hS Tryd.zeroValue47 rfl rfl ?_
  clear hS; intro B12 W12 hS
  refine op_storeA (i := 0) (vs := [_, _, _, _, _, _]) (cs' := [_, _, _, _, _, _]) (O' := [_, _, _]) hS Tryd.sizeOf47 rfl rfl rfl rfl rfl rfl rfl ?_
  clear hS; intro W13 hS
  refine endF (XF.thenN ?_)
  refine regF ?_
  refine op_move rfl rfl ?_
  refine op_loadA (vs := [_, _, _, _, _, _]) Tryd.isAgg47 Tryd.sizeOf47 rfl (CellsAt.own (j := 0) (m := 6) (hS.at_ 0 rfl) rfl) rfl ?_
  have hsz := hS.below.size
  refine op_call (vs := [_]) hS goes_61 rfl (copied_plain u m0 f2 _ _ (hx2.below hS.below)) rfl ?_
  rintro e W14 ⟨h2, rfl, hn, hb⟩
  refine ⟨_, rfl, hb, fun hS' => ?_⟩
  clear hS; have hS := hS'; clear hS'
  refine op_buildSlice (us := [(0, .agg (List.toArray [_, _, _, _, _, _]))]) hS Tryd.underlying45 Tryd.sizeOf47 Tryd.zeroValue47 rfl rfl rfl (bs_45_1 _ _ _ _ _ _) rfl ?_
  clear hS; intro B15 W15 hS
  refine op_append (i := 0) (news := [_, _, _, _, _, _]) hS Tryd.underlying45 inf_47 rfl rfl (by show 0 < 6; decide) rfl rfl rfl rfl rfl (CellsAt.own (j := 0) (m := 6) (hS.at_ 0 rfl) rfl) rfl rfl (by dsimp only; simp only [maxLen]; omega) (by dsimp only; show _ * 96 ≤ _; omega) rfl ?_
  clear hS; intro v16 W16 hS
  refine op_assign rfl rfl ?_
  refine endF ?_
  refine XF.blkN ?_
  refine XF.thenN ?_
  refine regF ?_
  refine op_add rfl rfl (IntWalk.i64_in _ (by omega)) rfl ?_
  refine op_move rfl rfl ?_
  refine endF ?_
  exact XF.round 0 [(1, _), (2, _), (3, _), (17, _), (18, _), (19, _)] (by omega) ⟨rfl, rfl, rfl, rfl, rfl, rfl, trivial⟩ (.inr (.inr ⟨_, _, _, h1, _, _, h2, rfl, rfl, hlo1, hn1, hsz, hn, hS.tail.tail⟩))
 ·skip
  refine seqF (regF ?_)
  refine op_lss rfl rfl rfl ?_
  refine endF (XF.thenN ?_)
  refine seqF ?_
  refine condF rfl (fun hc => absurd (of_decide_eq_true hc) (by omega)) (fun hc => ?_)
  have hc := of_decide_eq_false hc
  refine exitF ?_
  refine XF.thenX ?_
  refine XF.thenX ?_
  refine XF.blkX ?_
  refine XF.thenN ?_
  refine seqF ?_
  obtain ⟨gb, gc, rfl, hgb, hg6, hg7⟩ := own_two (hS.row 0 rfl)
  clear hgb hg6 hg7
  refine regF ?_
  refine op_move rfl rfl ?_
  refine op_field (o' := 5) fa_47_4 rfl rfl rfl ?_
  refine op_store (i := 1) (cs' := [_, _, _, _, _, _]) (O' := [_, _]) hS Tryd.sizeOf45 rfl rfl rfl rfl rfl rfl rfl ?_
  clear hS; intro W17 hS
  refine endF (XF.thenN ?_)
  refine seqF (regF ?_)
  refine op_loadA (vs := [_, _, _, _, _, _]) Tryd.isAgg47 Tryd.sizeOf47 rfl (CellsAt.own (j := 0) (m := 6) (hS.at_ 1 rfl) rfl) rfl ?_
  refine op_storeA (i := 0) (vs := [_, _, _, _, _, _]) (cs' := [_, _, _, _, _, _]) (O' := [_, _]) hS Tryd.sizeOf47 rfl rfl rfl rfl rfl rfl rfl ?_
  clear hS; intro W18 hS
  refine endF (XF.thenN ?_)
  refine retF ?_
  refine XF.res (resC1 (vs := [_, _, _, _, _, _]) Tryd.results61 Tryd.isAgg47 Tryd.sizeOf47 rfl (CellsAt.own (j := 0) (m := 6) (hS.at_ 0 rfl) rfl)) ?_
  exact copied_fin hS.below (hS.row 0 rfl) hlo1 (hn1.agree (hS.since 1 rfl)) hlo2 (hn2.agree (hS.since 0 rfl))
end Go.Proofs.YtfkbkekgnoanaaaDoor
namespace Go.Proofs.YtfkbkekgnoanaaaDoor
open Go Go.RowKit
section
variable {w : World} {S : PS} {sf : SF} {f g : WF} {x y : PX}
theorem copied_ok (hx : XIs w S f x) : Calls Tryd.prog 61 #[f.val] w (WRet S x w) := by
 cases S <;> cases x <;> first | exact hx.elim | skip
 ·exact copied_plain _ _ _ _ _ hx
 ·obtain ⟨ra, ca, rc, cc, pc, fb, fo, f1, f2, rfl, h6, h7, h8, h9⟩ := hx.two
  exact copied_pair _ _ _ _ _ _ _ _ _ _ _ _ _ _ _ _ h6 h7 h8 h9
end
def FRow (w : World) (a : Option Addr) (fs : List WF) : Prop := fs = [] ∨ ∃ b off, a = some ⟨b, off, none⟩ ∧ ∀ (i : Nat) f, fs[i]? = some f → W6 w b (off + i * 6) f
theorem FRow.at_ {w : World} {a : Option Addr} {fs : List WF} (h : FRow w a fs) {i : Nat} {f : WF} (hi : fs[i]? = some f) : ∃ b off, a = some ⟨b, off, none⟩ ∧ W6 w b (off + i * 6) f := by
 rcases h with rfl | ⟨b, off, ha, hc⟩
 ·simp at hi
 ·exact ⟨b, off, ha, hc i f hi⟩
def XL (w : World) (S : PS) (fs : List WF) (xs : List PX) : Prop := fs.length = xs.length ∧ ∀ (i : Nat) f x, fs[i]? = some f → xs[i]? = some x → XIs w S f x
theorem XL.at_ {w : World} {S : PS} {fs : List WF} {xs : List PX} (h : XL w S fs xs) {k : Nat} (hk : k < fs.length) : ∃ f x, fs[k]? = some f ∧ xs[k]? = some x ∧ XIs w S f x :=
 ⟨fs[k], xs[k]'(by have := h.1; omega), by simp [hk], by have := h.1; simp [show k < xs.length by omega], h.2 k _ _ (by simp [hk]) (by have := h.1; simp [show k < xs.length by omega])⟩
def WRet2 (S : PS) (x : PX) (e0 : Int) (w : World) (e : Ending) (w' : World) : Prop := ∃ f : WF, e = .returned (.tuple #[f.val, .int .i64 e0]) ∧ XNew w.heap.size w' S f x ∧ Below w.heap.size w w'
theorem take_fold {α β : Type} {f : β → α → β} {b : β} {xs : List α} {k : Nat} {x : α} (h : xs[k]? = some x) : (xs.take (k + 1)).foldl f b = f ((xs.take k).foldl f b) x := by
 rw [List.take_add_one, h]; simp [List.foldl_append]
theorem FRow.below {w w' : World} {a : Option Addr} {fs : List WF} (h : FRow w a fs) (hb : Below w.heap.size w w') : FRow w' a fs := by
 rcases h with h | ⟨b, off, rfl, hc⟩
 ·exact .inl h
 ·exact .inr ⟨b, off, rfl, fun i f hi => (hc i f hi).below hb⟩
theorem XL.below {w w' : World} {S : PS} {fs : List WF} {xs : List PX} (h : XL w S fs xs) (hb : Below w.heap.size w w') : XL w' S fs xs := ⟨h.1, fun i f x hf hx => (h.2 i f x hf hx).below hb⟩
theorem checkAllW_ok (S : PS) (sf : SF) (w : World) (hs : SIs w S sf) (hok : S.ok) (a : Option Addr) (c m : Nat) (fs : List WF) (xs : List PX) (hr : FRow w a fs) (hx : XL w S fs xs) (hm : fs.length = m) (hmx : m ≤ 9223372036854775807) :
  Calls Tryd.prog 60 #[sf.val, .slice a m c] w (fun e w' => e = .returned (.int .i64 0) ∧ Below w.heap.size w w') := by
 refine enterF (args := [sf.val, .slice a m c]) Tryd.func60 rfl Tryd.ntmps60 rfl ?_
 have hS := St.start w
 refine seqF (regF ?_)
 refine op_box (cs := [_, _, _]) hS rfl rfl rfl ?_
 clear hS; intro B1 W1 hS
 refine op_assign rfl rfl ?_
 refine endF (XF.thenN ?_)
 refine seqF ?_
 refine seqF (regF ?_)
 refine op_loadA (vs := [_, _, _]) Tryd.isAgg25 Tryd.sizeOf25 rfl (CellsAt.own (j := 0) (m := 3) (hS.at_ 0 rfl) rfl) rfl ?_
 refine op_call (vs := [_]) hS goes_51 rfl (spaceA_ok (hs.below hS.below) hok) rfl ?_
 rintro e W2 ⟨rfl, hb⟩
 refine ⟨_, rfl, hb, fun hS' => ?_⟩
 clear hS; have hS := hS'; clear hS' hb
 refine op_assign rfl rfl ?_
 refine endF (XF.thenN ?_)
 refine seqF (regF ?_)
 refine op_move rfl rfl ?_
 refine op_neq rfl rfl rfl ?_
 refine endF (XF.thenN ?_)
 refine condF rfl (fun hc => absurd (of_decide_eq_true hc) (by omega)) (fun hc => ?_)
 have hc := of_decide_eq_false hc
 refine skipF ?_
 refine XF.thenN ?_
 refine seqF ?_
 refine seqF (regF ?_)
 refine op_move rfl rfl ?_
 refine op_len Tryd.underlying45 rfl rfl ?_
 refine op_move rfl rfl ?_
 refine endF (XF.thenN ?_)
 refine blockF ?_
 refine loopF (fun q l W => ∃ k : Nat, k ≤ m ∧ q = m - k ∧ l = [(2, .pointer (some ⟨B1, 0, none⟩)), (13, .slice a m c), (14, .int .i64 (m : Int)), (15, .int .i64 (k : Int))] ∧ St w [(B1, [.int .i64 sf.tag, .int .i64 sf.dim, .slice sf.a sf.len sf.cap], 25)] [] [] W) (m - 0) ([(2, _), (13, _), (14, _), (15, _)]) ⟨rfl, rfl, rfl, rfl, trivial⟩ (⟨0, Nat.zero_le _, rfl, rfl, hS.clear⟩) ?_
 clear hS
 rintro q l W ⟨k, hkm, rfl, rfl, hS⟩
 refine seqF (regF ?_)
 refine op_lss rfl rfl rfl ?_
 refine endF (XF.thenN ?_)
 refine seqF ?_
 refine condF rfl (fun hc => ?_) (fun hc => ?_)
 ·have hc16 := of_decide_eq_true hc; clear hc
  have hk : k < m := by omega
  obtain ⟨f, x, hf, hxk, hxx⟩ := hx.at_ (k := k) (by omega)
  obtain ⟨b, off, rfl, h6⟩ := hr.at_ hf
  have k1 := CellsAt.agree hS.agree (Nat.zero_le _) h6.cells
  refine skipF ?_
  refine XF.thenN ?_
  refine seqF ?_
  refine blockF ?_
  refine seqF (regF ?_)
  refine op_indexA  Tryd.underlying45 Tryd.sizeOf47 rfl rfl rfl (by omega) rfl rfl ?_
  refine op_loadA (vs := [_, _, _, _, _, _]) Tryd.isAgg47 Tryd.sizeOf47 rfl (by assumption) rfl ?_
  refine op_alloc (cs := [_, _, _, _, _, _]) hS Tryd.zeroValue47 rfl rfl ?_
  clear hS; intro B3 W3 hS
  refine op_storeA (i := 0) (vs := [_, _, _, _, _, _]) (cs' := [_, _, _, _, _, _]) (O' := [_, _]) hS Tryd.sizeOf47 rfl rfl rfl rfl rfl rfl rfl ?_
  clear hS; intro W4 hS
  refine endF (XF.thenN ?_)
  refine seqF (regF ?_)
  refine op_loadA (vs := [_, _, _]) Tryd.isAgg25 Tryd.sizeOf25 rfl (CellsAt.own (j := 0) (m := 3) (hS.at_ 1 rfl) rfl) rfl ?_
  refine op_loadA (vs := [_, _, _, _, _, _]) Tryd.isAgg47 Tryd.sizeOf47 rfl (CellsAt.own (j := 0) (m := 6) (hS.at_ 0 rfl) rfl) rfl ?_
  refine op_call (vs := [_, _]) hS goes_78 rfl (isA_ok (hs.below hS.below) hok (hxx.below hS.below)) rfl ?_
  rintro e W5 ⟨rfl, hb⟩
  refine ⟨_, rfl, hb, fun hS' => ?_⟩
  clear hS; have hS := hS'; clear hS' hb
  refine op_not rfl rfl ?_
  refine endF (XF.thenN ?_)
  refine condN rfl ?_
  refine skipF ?_
  refine XF.blkN ?_
  refine XF.thenN ?_
  refine regF ?_
  refine op_add rfl rfl (IntWalk.i64_in _ (by omega)) rfl ?_
  refine op_move rfl rfl ?_
  refine endF ?_
  exact XF.round (m - (k + 1)) [(2, _), (13, _), (14, _), (15, _)] (by omega) ⟨rfl, rfl, rfl, rfl, trivial⟩ ⟨k + 1, by omega, rfl, rfl, hS.tail.clear⟩
 ·have hc16 := of_decide_eq_false hc; clear hc
  refine exitF ?_
  refine XF.thenX ?_
  refine XF.thenX ?_
  refine XF.blkX ?_
  refine XF.thenN ?_
  refine seqF (regF ?_)
  refine op_assign rfl rfl ?_
  refine endF (XF.thenN ?_)
  refine retF ?_
  refine XF.res (res1 Tryd.results60 rfl) ?_
  exact ⟨rfl, hS.below⟩
end Go.Proofs.YtfkbkekgnoanaaaDoor
namespace Go.Proofs.YtfkbkekgnoanaaaDoor
open Go Go.RowKit
theorem XL.tail {w : World} {S : PS} {f : WF} {fs : List WF} {x : PX} {xs : List PX} (h : XL w S (f :: fs) (x :: xs)) : XL w S fs xs :=
 ⟨by have := h.1; simpa using this, fun i g y hg hy => h.2 (i + 1) g y (by simpa using hg) (by simpa using hy)⟩
theorem FRow.tail {w : World} {a a' : Option Addr} {f : WF} {fs : List WF} {m c : Nat} (h : FRow w a (f :: fs)) (hm : fs.length + 1 = m) (hmc : m ≤ c) (h1 : c = 1 → a' = a) (h2 : c ≠ 1 → a' = a.map (·.add (1 * 6))) : FRow w a' fs := by
 by_cases hc : c = 1
 ·exact .inl (List.eq_nil_of_length_eq_zero (by omega))
 ·rcases h with h | ⟨b, off, rfl, hh⟩
  ·cases h
  ·refine .inr ⟨b, off + 6, by rw [h2 hc, Option.map_some, Addr.add_lit], fun i g hg => ?_⟩
   have := hh (i + 1) g (by simpa using hg)
   rwa [show off + (i + 1) * 6 = off + 6 + i * 6 by omega] at this
theorem ExtendW_ok (S : PS) (sf : SF) (w : World) (hs : SIs w S sf) (hok : S.ok) (a : Option Addr) (c m : Nat) (f0 : WF) (x0 : PX) (ft : List WF) (xt : List PX) (hr : FRow w a (f0 :: ft)) (hx : XL w S (f0 :: ft) (x0 :: xt)) (hm : ft.length + 1 = m) (hmc : m ≤ c) (hmx : m ≤ 9223372036854775807) (ht : Tabs w) :
  Calls Tryd.prog 45 #[sf.val, .slice a m c] w (WRet2 S (xt.foldl (extX S) x0) 0 w) := by
 refine enterF (args := [sf.val, .slice a m c]) Tryd.func45 rfl Tryd.ntmps45 rfl ?_
 have hS := St.start w
 refine seqF (regF ?_)
 refine op_box (cs := [_, _, _]) hS rfl rfl rfl ?_
 clear hS; intro B1 W1 hS
 refine op_alloc (cs := [_, _, _, _, _, _]) hS Tryd.zeroValue47 rfl rfl ?_
 clear hS; intro B2 W2 hS
 refine op_assign rfl rfl ?_
 refine endF (XF.thenN ?_)
 refine seqF ?_
 refine seqF (regF ?_)
 refine op_loadA (vs := [_, _, _]) Tryd.isAgg25 Tryd.sizeOf25 rfl (CellsAt.own (j := 0) (m := 3) (hS.at_ 1 rfl) rfl) rfl ?_
 refine op_move rfl rfl ?_
 refine op_call (vs := [_, _]) hS goes_60 rfl (checkAllW_ok S sf _ (hs.below hS.below) hok a c m _ _ (hr.below hS.below) (hx.below hS.below) (by simpa using hm) hmx) rfl ?_
 rintro e W3 ⟨rfl, hb⟩
 refine ⟨_, rfl, hb, fun hS' => ?_⟩
 clear hS; have hS := hS'; clear hS' hb
 refine op_assign rfl rfl ?_
 refine endF (XF.thenN ?_)
 refine seqF (regF ?_)
 refine op_move rfl rfl ?_
 refine op_neq rfl rfl rfl ?_
 refine endF (XF.thenN ?_)
 refine condF rfl (fun hc => absurd (of_decide_eq_true hc) (by omega)) (fun hc => ?_)
 have hc := of_decide_eq_false hc
 refine skipF ?_
 refine XF.thenN ?_
 refine seqF ?_
 refine seqF (regF ?_)
 refine op_move rfl rfl ?_
 refine op_len Tryd.underlying45 rfl rfl ?_
 refine op_eql rfl rfl rfl ?_
 refine endF (XF.thenN ?_)
 refine condF rfl (fun hc => absurd (of_decide_eq_true hc) (by omega)) (fun hc => ?_)
 have hc := of_decide_eq_false hc
 refine skipF ?_
 refine XF.thenN ?_
 refine seqF ?_
 obtain ⟨b, off, rfl, h6⟩ := hr.at_ (i := 0) rfl
 have k0 : CellsAt W3 b off f0.six := CellsAt.agree hS.agree (Nat.zero_le _) (show W6 w b off f0 by simpa using h6).cells
 have hsz := hS.below.size
 refine regF ?_
 refine op_move rfl rfl ?_
 refine op_indexA (j := 0) Tryd.underlying45 Tryd.sizeOf47 rfl rfl rfl (by omega) (Nat.add_zero _) rfl ?_
 refine op_loadA (vs := [_, _, _, _, _, _]) Tryd.isAgg47 Tryd.sizeOf47 rfl (by assumption) rfl ?_
 refine op_call (vs := [_]) hS goes_61 rfl (copied_ok ((hx.2 0 f0 x0 rfl rfl).below hS.below)) rfl ?_
 rintro e W4 ⟨f1, rfl, hn, hb⟩
 refine ⟨_, rfl, hb, fun hS' => ?_⟩
 clear hS; have hS := hS'; clear hS'
 refine op_alloc (cs := [_, _, _, _, _, _]) hS Tryd.zeroValue47 rfl rfl ?_
 clear hS; intro B5 W5 hS
 refine op_storeA (i := 0) (vs := [_, _, _, _, _, _]) (cs' := [_, _, _, _, _, _]) (O' := [_, _, _]) hS Tryd.sizeOf47 rfl rfl rfl rfl rfl rfl rfl ?_
 clear hS; intro W6 hS
 refine endF (XF.thenN ?_)
 refine seqF ?_
 refine seqF (regF ?_)
 refine op_move rfl rfl ?_
 refine op_sliceFrom (j := 1) Tryd.underlying45 Tryd.sizeOf47 rfl rfl rfl (by omega) rfl ?_
 intro ad7 hadE7 hadN7
 have hrt := FRow.tail hr hm hmc hadE7 hadN7
 have hxt := XL.tail hx
 clear hadE7 hadN7
 refine op_len Tryd.underlying45 rfl rfl ?_
 refine op_move rfl rfl ?_
 refine endF (XF.thenN ?_)
 refine blockF ?_
 refine loopF (fun q l W => ∃ (k : Nat) (g : WF) (lo : Nat) (A : World), k ≤ m - 1 ∧ q = m - 1 - k ∧ l = [(2, .pointer (some ⟨B1, 0, none⟩)), (4, .pointer (some ⟨B2, 0, none⟩)), (7, .pointer (some ⟨B5, 0, none⟩)), (27, .slice ad7 (m - 1) (c - 1)), (28, .int .i64 ((m - 1 : Nat) : Int)), (29, .int .i64 (k : Int))] ∧ w.heap.size ≤ lo ∧ XNew lo A S g ((xt.take k).foldl (extX S) x0) ∧ St w [(B5, g.six, 47), (B2, [.bool false, .int .i64 0, .int .u64 0, .slice none 0 0, .slice none 0 0, .slice none 0 0], 47), (B1, [.int .i64 sf.tag, .int .i64 sf.dim, .slice sf.a sf.len sf.cap], 25)] [] [(lo, A)] W) (m - 1 - 0) ([(2, _), (4, _), (7, _), (27, _), (28, _), (29, _)]) ⟨rfl, rfl, rfl, rfl, rfl, rfl, trivial⟩ (⟨0, f1, _, _, Nat.zero_le _, rfl, rfl, hsz, hn, hS.keep [_] (fun q hq => by simp at hq; subst hq; exact List.mem_cons_self)⟩) ?_
 clear hS
 rintro q l W ⟨k, g, lo, A, hkm, rfl, rfl, hlo, hn0, hS⟩
 refine seqF (regF ?_)
 refine op_lss rfl rfl rfl ?_
 refine endF (XF.thenN ?_)
 refine seqF ?_
 refine condF rfl (fun hc => ?_) (fun hc => ?_)
 ·have hc30 := of_decide_eq_true hc; clear hc
  have hk : k < m - 1 := by omega
  obtain ⟨f, x, hf, hxk, hxx⟩ := hxt.at_ (k := k) (by omega)
  obtain ⟨b2, off2, rfl, h62⟩ := hrt.at_ hf
  have k1 := CellsAt.agree hS.agree (Nat.zero_le _) h62.cells
  refine skipF ?_
  refine XF.thenN ?_
  refine seqF ?_
  refine blockF ?_
  refine seqF (regF ?_)
  refine op_indexA  Tryd.underlying45 Tryd.sizeOf47 rfl rfl rfl (by omega) rfl rfl ?_
  refine op_loadA (vs := [_, _, _, _, _, _]) Tryd.isAgg47 Tryd.sizeOf47 rfl (by assumption) rfl ?_
  refine op_alloc (cs := [_, _, _, _, _, _]) hS Tryd.zeroValue47 rfl rfl ?_
  clear hS; intro B8 W8 hS
  refine op_storeA (i := 0) (vs := [_, _, _, _, _, _]) (cs' := [_, _, _, _, _, _]) (O' := [_, _, _, _]) hS Tryd.sizeOf47 rfl rfl rfl rfl rfl rfl rfl ?_
  clear hS; intro W9 hS
  refine endF (XF.thenN ?_)
  refine regF ?_
  refine op_loadA (vs := [_, _, _]) Tryd.isAgg25 Tryd.sizeOf25 rfl (CellsAt.own (j := 0) (m := 3) (hS.at_ 3 rfl) rfl) rfl ?_
  refine op_loadA (vs := [_, _, _, _, _, _]) Tryd.isAgg47 Tryd.sizeOf47 rfl (CellsAt.own (j := 0) (m := 6) (hS.at_ 1 rfl) rfl) rfl ?_
  refine op_loadA (vs := [_, _, _, _, _, _]) Tryd.isAgg47 Tryd.sizeOf47 rfl (CellsAt.own (j := 0) (m := 6) (hS.at_ 0 rfl) rfl) rfl ?_
  have hsz2 := hS.below.size
  refine op_call (vs := [_, _, _]) hS goes_62 rfl (wExt_is (hs.below hS.below) hok ((hn0.agree (hS.since 0 rfl)).is) (hxx.below hS.below) (ht.below hS.below)) rfl ?_
  rintro e W10 ⟨f2, rfl, hn2, hb⟩
  refine ⟨_, rfl, hb, fun hS' => ?_⟩
  clear hS; have hS := hS'; clear hS'
  refine op_storeA (i := 1) (vs := [_, _, _, _, _, _]) (cs' := [_, _, _, _, _, _]) (O' := [_, _, _, _]) hS Tryd.sizeOf47 rfl rfl rfl rfl rfl rfl rfl ?_
  clear hS; intro W11 hS
  refine endF ?_
  refine XF.blkN ?_
  refine XF.thenN ?_
  refine regF ?_
  refine op_add rfl rfl (IntWalk.i64_in _ (by omega)) rfl ?_
  refine op_move rfl rfl ?_
  refine endF ?_
  exact XF.round (m - 1 - (k + 1)) [(2, _), (4, _), (7, _), (27, _), (28, _), (29, _)] (by omega) ⟨rfl, rfl, rfl, rfl, rfl, rfl, trivial⟩ ⟨k + 1, f2, _, _, by omega, rfl, rfl, hsz2, by rw [take_fold hxk]; exact hn2, hS.tail.keep [_] (fun q hq => by simp at hq; subst hq; exact List.mem_cons_self)⟩
 ·have hc30 := of_decide_eq_false hc; clear hc
  refine exitF ?_
  refine XF.thenX ?_
  refine XF.thenX ?_
  refine XF.blkX ?_
  refine XF.thenN ?_
  refine seqF (regF ?_)
  refine op_loadA (vs := [_, _, _, _, _, _]) Tryd.isAgg47 Tryd.sizeOf47 rfl (CellsAt.own (j := 0) (m := 6) (hS.at_ 0 rfl) rfl) rfl ?_
  refine op_storeA (i := 1) (vs := [_, _, _, _, _, _]) (cs' := [_, _, _, _, _, _]) (O' := [_, _, _]) hS Tryd.sizeOf47 rfl rfl rfl rfl rfl rfl rfl ?_
  clear hS; intro W12 hS
  refine op_assign rfl rfl ?_
  refine endF (XF.thenN ?_)
  refine retF ?_
  refine XF.res (resCT (vs := [_, _, _, _, _, _]) Tryd.results45 Tryd.isAgg47 Tryd.sizeOf47 rfl (CellsAt.own (j := 0) (m := 6) (hS.at_ 1 rfl) rfl) rfl) ?_
  have e1 : xt.take k = xt := List.take_of_length_le (by have := hxt.1; omega)
  rw [e1] at hn0
  exact ⟨g, rfl, (hn0.agree (hS.since 0 rfl)).mono hlo, hS.below⟩
theorem OneW_ok (S : PS) (sf : SF) (w : World) (hs : SIs w S sf) (hok : S.ok) :
  Calls Tryd.prog 44 #[sf.val] w (WRet2 S (oneX S) 0 w) := by
 refine enterF (args := [sf.val]) Tryd.func44 rfl Tryd.ntmps44 rfl ?_
 have hS := St.start w
 refine seqF (regF ?_)
 refine op_box (cs := [_, _, _]) hS rfl rfl rfl ?_
 clear hS; intro B1 W1 hS
 refine op_alloc (cs := [_, _, _, _, _, _]) hS Tryd.zeroValue47 rfl rfl ?_
 clear hS; intro B2 W2 hS
 refine op_assign rfl rfl ?_
 refine endF (XF.thenN ?_)
 refine seqF ?_
 refine seqF (regF ?_)
 refine op_loadA (vs := [_, _, _]) Tryd.isAgg25 Tryd.sizeOf25 rfl (CellsAt.own (j := 0) (m := 3) (hS.at_ 1 rfl) rfl) rfl ?_
 refine op_call (vs := [_]) hS goes_51 rfl (spaceA_ok (hs.below hS.below) hok) rfl ?_
 rintro e W3 ⟨rfl, hb⟩
 refine ⟨_, rfl, hb, fun hS' => ?_⟩
 clear hS; have hS := hS'; clear hS' hb
 refine op_assign rfl rfl ?_
 refine endF (XF.thenN ?_)
 refine seqF (regF ?_)
 refine op_move rfl rfl ?_
 refine op_neq rfl rfl rfl ?_
 refine endF (XF.thenN ?_)
 refine condF rfl (fun hc => absurd (of_decide_eq_true hc) (by omega)) (fun hc => ?_)
 have hc := of_decide_eq_false hc
 refine skipF ?_
 refine XF.thenN ?_
 refine seqF (regF ?_)
 refine op_loadA (vs := [_, _, _]) Tryd.isAgg25 Tryd.sizeOf25 rfl (CellsAt.own (j := 0) (m := 3) (hS.at_ 1 rfl) rfl) rfl ?_
 have hsz := hS.below.size
 refine op_call (vs := [_]) hS goes_59 rfl (oneA_ok (hs.below hS.below) hok) rfl ?_
 rintro e W4 ⟨f, rfl, hn, hb⟩
 refine ⟨_, rfl, hb, fun hS' => ?_⟩
 clear hS; have hS := hS'; clear hS'
 refine op_storeA (i := 0) (vs := [_, _, _, _, _, _]) (cs' := [_, _, _, _, _, _]) (O' := [_, _]) hS Tryd.sizeOf47 rfl rfl rfl rfl rfl rfl rfl ?_
 clear hS; intro W5 hS
 refine op_assign rfl rfl ?_
 refine endF (XF.thenN ?_)
 refine retF ?_
 refine XF.res (resCT (vs := [_, _, _, _, _, _]) Tryd.results44 Tryd.isAgg47 Tryd.sizeOf47 rfl (CellsAt.own (j := 0) (m := 6) (hS.at_ 0 rfl) rfl) rfl) ?_
 exact ⟨f, rfl, (hn.agree (hS.since 0 rfl)).mono hsz, hS.below⟩
theorem ZeroW_ok (S : PS) (sf : SF) (w : World) (hs : SIs w S sf) (hok : S.ok) :
  Calls Tryd.prog 43 #[sf.val] w (WRet2 S (zeroX S) 0 w) := by
 refine enterF (args := [sf.val]) Tryd.func43 rfl Tryd.ntmps43 rfl ?_
 have hS := St.start w
 refine seqF (regF ?_)
 refine op_box (cs := [_, _, _]) hS rfl rfl rfl ?_
 clear hS; intro B1 W1 hS
 refine op_alloc (cs := [_, _, _, _, _, _]) hS Tryd.zeroValue47 rfl rfl ?_
 clear hS; intro B2 W2 hS
 refine op_assign rfl rfl ?_
 refine endF (XF.thenN ?_)
 refine seqF ?_
 refine seqF (regF ?_)
 refine op_loadA (vs := [_, _, _]) Tryd.isAgg25 Tryd.sizeOf25 rfl (CellsAt.own (j := 0) (m := 3) (hS.at_ 1 rfl) rfl) rfl ?_
 refine op_call (vs := [_]) hS goes_51 rfl (spaceA_ok (hs.below hS.below) hok) rfl ?_
 rintro e W3 ⟨rfl, hb⟩
 refine ⟨_, rfl, hb, fun hS' => ?_⟩
 clear hS; have hS := hS'; clear hS' hb
 refine op_assign rfl rfl ?_
 refine endF (XF.thenN ?_)
 refine seqF (regF ?_)
 refine op_move rfl rfl ?_
 refine op_neq rfl rfl rfl ?_
 refine endF (XF.thenN ?_)
 refine condF rfl (fun hc => absurd (of_decide_eq_true hc) (by omega)) (fun hc => ?_)
 have hc := of_decide_eq_false hc
 refine skipF ?_
 refine XF.thenN ?_
 refine seqF (regF ?_)
 refine op_loadA (vs := [_, _, _]) Tryd.isAgg25 Tryd.sizeOf25 rfl (CellsAt.own (j := 0) (m := 3) (hS.at_ 1 rfl) rfl) rfl ?_
 have hsz := hS.below.size
 refine op_call (vs := [_]) hS goes_58 rfl (zeroA_ok (hs.below hS.below) hok) rfl ?_
 rintro e W4 ⟨f, rfl, hn, hb⟩
 refine ⟨_, rfl, hb, fun hS' => ?_⟩
 clear hS; have hS := hS'; clear hS'
 refine op_storeA (i := 0) (vs := [_, _, _, _, _, _]) (cs' := [_, _, _, _, _, _]) (O' := [_, _]) hS Tryd.sizeOf47 rfl rfl rfl rfl rfl rfl rfl ?_
 clear hS; intro W5 hS
 refine op_assign rfl rfl ?_
 refine endF (XF.thenN ?_)
 refine retF ?_
 refine XF.res (resCT (vs := [_, _, _, _, _, _]) Tryd.results43 Tryd.isAgg47 Tryd.sizeOf47 rfl (CellsAt.own (j := 0) (m := 6) (hS.at_ 0 rfl) rfl) rfl) ?_
 exact ⟨f, rfl, (hn.agree (hS.since 0 rfl)).mono hsz, hS.below⟩
end Go.Proofs.YtfkbkekgnoanaaaDoor
namespace Go.Proofs.YtfkbkekgnoanaaaDoor
open Go Go.RowKit
theorem all_false_at {α : Type} {l : List α} {q : α → Bool} {i : Nat} {x : α} (h : l[i]? = some x) (hq : q x = false) : l.all q = false := by
 rw [List.all_eq_false]; exact ⟨x, List.mem_of_getElem? h, by rw [hq]; decide⟩
theorem all_take_at {α : Type} {l : List α} {q : α → Bool} {i : Nat} {x : α} (h : l[i]? = some x) (ha : (l.take i).all q = true) (hq : q x = true) : (l.take (i + 1)).all q = true := by
 rw [List.take_add_one, h]; simp [ha, hq]
def okW (s : SV) (x : WV) : Bool := if plainB s.f.tag s.f.dim s.f.len = true then pwOk s.f.tag s.f.dim x.f else match s.ps with | [p, q] => pairOk p q x.f x.ps | _ => false
def chkW (s : SV) (x : WV) : Int := if spaceE s = 0 then (if okW s x = true then 0 else 51) else spaceE s
end Go.Proofs.YtfkbkekgnoanaaaDoor
namespace Go.Proofs.YtfkbkekgnoanaaaDoor
open Go Go.RowKit
theorem r_false {r : Bool} {C : Prop} (hr : r = true ↔ C) (h : ¬ C) : false = r := by
 cases r
 ·rfl
 ·exact absurd (hr.1 rfl) h
theorem r_true {r : Bool} {C : Prop} (hr : r = true ↔ C) (h : C) : true = r := (hr.2 h).symm
theorem sameW_one (az : Bool) (ac : Int) (ag : Nat) (ara : Option Addr) (arl arc : Nat) (arows : List Nat) (aca : Option Addr) (acl acc : Nat) (acells : List Cl) (apa : Option Addr) (apc : Nat)(bz : Bool) (bc : Int) (bg : Nat) (bra : Option Addr) (brl brc : Nat) (brows : List Nat) (bca : Option Addr) (bcl bcc : Nat) (bcells : List Cl) (bpa : Option Addr) (bpc : Nat)(w : World) (hra : VRow w ara (u64s arows)) (hla : arows.length = arl) (hma : arl ≤ 100) (hca : CRow w aca acells) (hka : acells.length = acl) (hna : acl ≤ 100)(hrb : VRow w bra (u64s brows)) (hlb : brows.length = brl) (hmb : brl ≤ 100) (hcb : CRow w bca bcells) (hkb : bcells.length = bcl) (hnb : bcl ≤ 100)(r : Bool) (hr : r = true ↔ (az = bz ∧ ac = bc ∧ ag = bg ∧ arows = brows ∧ acells = bcells)) :
  Calls Tryd.prog 14 #[.agg #[.bool az, .int .i64 ac, .int .u64 (ag : Int), .slice ara arl arc, .slice aca acl acc, .slice apa 0 apc], .agg #[.bool bz, .int .i64 bc, .int .u64 (bg : Int), .slice bra brl brc, .slice bca bcl bcc, .slice bpa 0 bpc]] w (fun e w' => e = .returned (.bool r) ∧ Below w.heap.size w w') := by
 refine enterF (args := [.agg #[.bool az, .int .i64 ac, .int .u64 (ag : Int), .slice ara arl arc, .slice aca acl acc, .slice apa 0 apc], .agg #[.bool bz, .int .i64 bc, .int .u64 (bg : Int), .slice bra brl brc, .slice bca bcl bcc, .slice bpa 0 bpc]]) Tryd.func14 rfl Tryd.ntmps14 rfl ?_
 have hS := St.start w
 refine seqF (regF ?_)
 refine op_box (cs := [_, _, _, _, _, _]) hS rfl rfl rfl ?_
 clear hS; intro B1 W1 hS
 refine op_box (cs := [_, _, _, _, _, _]) hS rfl rfl rfl ?_
 clear hS; intro B2 W2 hS
 refine op_assign rfl rfl ?_
 refine endF (XF.thenN ?_)
 refine seqF ?_
 refine seqF (regF ?_)
 refine op_field (o' := 0) fa_47_0 rfl rfl rfl ?_
 refine op_load Tryd.isAgg4 rfl (cell_own (hS.at_ 1 rfl) rfl) rfl ?_
 refine op_field (o' := 0) fa_47_0 rfl rfl rfl ?_
 refine op_load Tryd.isAgg4 rfl (cell_own (hS.at_ 0 rfl) rfl) rfl ?_
 refine op_neqB Tryd.underlying4 rfl rfl rfl ?_
 refine op_move rfl rfl ?_
 refine op_cases (d := 12) rfl (fun hc => ?_) (fun hc => ?_)
 ·have hg12 := hc; clear hc
  refine op_notF (d := 12) rfl rfl rfl rfl ?_
  refine op_notF (d := 12) rfl rfl rfl rfl ?_
  refine op_notF (d := 12) rfl rfl rfl rfl ?_
  refine op_notF (d := 12) rfl rfl rfl rfl ?_
  refine op_notF (d := 12) rfl rfl rfl rfl ?_
  refine op_pickT rfl rfl rfl ?_
  refine op_move rfl rfl ?_
  refine op_notF (d := 19) rfl rfl rfl rfl ?_
  refine op_notF (d := 19) rfl rfl rfl rfl ?_
  refine op_notF (d := 19) rfl rfl rfl rfl ?_
  refine op_notF (d := 19) rfl rfl rfl rfl ?_
  refine op_notF (d := 19) rfl rfl rfl rfl ?_
  refine op_notF (d := 19) rfl rfl rfl rfl ?_
  refine op_pickT rfl rfl rfl ?_
  refine op_move rfl rfl ?_
  refine op_notF (d := 27) rfl rfl rfl rfl ?_
  refine op_notF (d := 27) rfl rfl rfl rfl ?_
  refine op_notF (d := 27) rfl rfl rfl rfl ?_
  refine op_notF (d := 27) rfl rfl rfl rfl ?_
  refine op_notF (d := 27) rfl rfl rfl rfl ?_
  refine op_notF (d := 27) rfl rfl rfl rfl ?_
  refine op_notF (d := 27) rfl rfl rfl rfl ?_
  refine op_pickT rfl rfl rfl ?_
  refine op_move rfl rfl ?_
  refine op_notF (d := 36) rfl rfl rfl rfl ?_
  refine op_notF (d := 36) rfl rfl rfl rfl ?_
  refine op_notF (d := 36) rfl rfl rfl rfl ?_
  refine op_notF (d := 36) rfl rfl rfl rfl ?_
  refine op_notF (d := 36) rfl rfl rfl rfl ?_
  refine op_notF (d := 36) rfl rfl rfl rfl ?_
  refine op_notF (d := 36) rfl rfl rfl rfl ?_
  refine op_pickT rfl rfl rfl ?_
  refine endF (XF.thenN ?_)
  refine condT rfl ?_
  refine seqF (regF ?_)
  refine op_assign rfl rfl ?_
  refine endF (XF.thenN ?_)
  refine retF ?_
  refine XF.thenR ?_
  refine XF.res (res1 Tryd.results14 rfl) ?_
  exact ⟨rbool (r_false hr (fun h => by have h1 := h.1; subst h1; simp at hg12)), hS.below⟩
 ·have hg12 := hc; clear hc
  refine op_wantedF (d := 12) rfl rfl ?_
  refine op_field (o' := 1) fa_47_1 rfl rfl rfl ?_
  refine op_wantedF (d := 12) rfl rfl ?_
  refine op_load Tryd.isAgg3 rfl (cell_own (hS.at_ 1 rfl) rfl) rfl ?_
  refine op_wantedF (d := 12) rfl rfl ?_
  refine op_field (o' := 1) fa_47_1 rfl rfl rfl ?_
  refine op_wantedF (d := 12) rfl rfl ?_
  refine op_load Tryd.isAgg3 rfl (cell_own (hS.at_ 0 rfl) rfl) rfl ?_
  refine op_wantedF (d := 12) rfl rfl ?_
  refine op_neq rfl rfl rfl ?_
  refine op_pickF rfl rfl rfl ?_
  refine op_move rfl rfl ?_
  refine op_cases (d := 19) rfl (fun hc => ?_) (fun hc => ?_)
  ·have hg19 := of_decide_eq_true hc; clear hc
   refine op_notF (d := 19) rfl rfl rfl rfl ?_
   refine op_notF (d := 19) rfl rfl rfl rfl ?_
   refine op_notF (d := 19) rfl rfl rfl rfl ?_
   refine op_notF (d := 19) rfl rfl rfl rfl ?_
   refine op_notF (d := 19) rfl rfl rfl rfl ?_
   refine op_notF (d := 19) rfl rfl rfl rfl ?_
   refine op_pickT rfl rfl rfl ?_
   refine op_move rfl rfl ?_
   refine op_notF (d := 27) rfl rfl rfl rfl ?_
   refine op_notF (d := 27) rfl rfl rfl rfl ?_
   refine op_notF (d := 27) rfl rfl rfl rfl ?_
   refine op_notF (d := 27) rfl rfl rfl rfl ?_
   refine op_notF (d := 27) rfl rfl rfl rfl ?_
   refine op_notF (d := 27) rfl rfl rfl rfl ?_
   refine op_notF (d := 27) rfl rfl rfl rfl ?_
   refine op_pickT rfl rfl rfl ?_
   refine op_move rfl rfl ?_
   refine op_notF (d := 36) rfl rfl rfl rfl ?_
   refine op_notF (d := 36) rfl rfl rfl rfl ?_
   refine op_notF (d := 36) rfl rfl rfl rfl ?_
   refine op_notF (d := 36) rfl rfl rfl rfl ?_
   refine op_notF (d := 36) rfl rfl rfl rfl ?_
   refine op_notF (d := 36) rfl rfl rfl rfl ?_
   refine op_notF (d := 36) rfl rfl rfl rfl ?_
   refine op_pickT rfl rfl rfl ?_
   refine endF (XF.thenN ?_)
   refine condT rfl ?_
   refine seqF (regF ?_)
   refine op_assign rfl rfl ?_
   refine endF (XF.thenN ?_)
   refine retF ?_
   refine XF.thenR ?_
   refine XF.res (res1 Tryd.results14 rfl) ?_
   exact ⟨rbool (r_false hr (fun h => hg19 h.2.1)), hS.below⟩
  ·have hg19 := of_decide_eq_false hc; clear hc
   refine op_wantedF (d := 19) rfl rfl ?_
   refine op_field (o' := 2) fa_47_2 rfl rfl rfl ?_
   refine op_wantedF (d := 19) rfl rfl ?_
   refine op_loadA (vs := [_, _]) Tryd.isAgg43 Tryd.sizeOf43 rfl (CellsAt.own (j := 2) (m := 2) (hS.at_ 1 rfl) rfl) rfl ?_
   refine op_wantedF (d := 19) rfl rfl ?_
   refine op_field (o' := 2) fa_47_2 rfl rfl rfl ?_
   refine op_wantedF (d := 19) rfl rfl ?_
   refine op_loadA (vs := [_, _]) Tryd.isAgg43 Tryd.sizeOf43 rfl (CellsAt.own (j := 2) (m := 2) (hS.at_ 0 rfl) rfl) rfl ?_
   refine op_wantedF (d := 19) rfl rfl ?_
   refine op_call (vs := [_, _]) hS goes_35 rfl (sameR_is _ _ _ _ _ _ _ _ _ (by omega) (by omega) (VRow.below hra hS.below) (VRow.below hrb hS.below) _ rfl _ _ hla hlb) rfl ?_
   rintro e W3 ⟨rfl, hb⟩
   refine ⟨_, rfl, hb, fun hS' => ?_⟩
   clear hS; have hS := hS'; clear hS' hb
   refine op_wantedF (d := 19) rfl rfl ?_
   refine op_not rfl rfl ?_
   refine op_pickF rfl rfl rfl ?_
   refine op_move rfl rfl ?_
   refine op_cases (d := 27) rfl (fun hc => ?_) (fun hc => ?_)
   ·have hg27 := hc; clear hc
    refine op_notF (d := 27) rfl rfl rfl rfl ?_
    refine op_notF (d := 27) rfl rfl rfl rfl ?_
    refine op_notF (d := 27) rfl rfl rfl rfl ?_
    refine op_notF (d := 27) rfl rfl rfl rfl ?_
    refine op_notF (d := 27) rfl rfl rfl rfl ?_
    refine op_notF (d := 27) rfl rfl rfl rfl ?_
    refine op_notF (d := 27) rfl rfl rfl rfl ?_
    refine op_pickT rfl rfl rfl ?_
    refine op_move rfl rfl ?_
    refine op_notF (d := 36) rfl rfl rfl rfl ?_
    refine op_notF (d := 36) rfl rfl rfl rfl ?_
    refine op_notF (d := 36) rfl rfl rfl rfl ?_
    refine op_notF (d := 36) rfl rfl rfl rfl ?_
    refine op_notF (d := 36) rfl rfl rfl rfl ?_
    refine op_notF (d := 36) rfl rfl rfl rfl ?_
    refine op_notF (d := 36) rfl rfl rfl rfl ?_
    refine op_pickT rfl rfl rfl ?_
    refine endF (XF.thenN ?_)
    refine condT rfl ?_
    refine seqF (regF ?_)
    refine op_assign rfl rfl ?_
    refine endF (XF.thenN ?_)
    refine retF ?_
    refine XF.thenR ?_
    refine XF.res (res1 Tryd.results14 rfl) ?_
    exact ⟨rbool (r_false hr (fun h => by obtain ⟨_, _, h3, h4, _⟩ := h; subst h3; subst h4; rw [same_self] at hg27; cases hg27)), hS.below⟩
   ·have hg27 := hc; clear hc
    refine op_wantedF (d := 27) rfl rfl ?_
    refine op_field (o' := 4) fa_47_3 rfl rfl rfl ?_
    refine op_wantedF (d := 27) rfl rfl ?_
    refine op_load Tryd.isAgg44 rfl (cell_own (hS.at_ 1 rfl) rfl) rfl ?_
    refine op_wantedF (d := 27) rfl rfl ?_
    refine op_len Tryd.underlying44 rfl rfl ?_
    refine op_wantedF (d := 27) rfl rfl ?_
    refine op_field (o' := 4) fa_47_3 rfl rfl rfl ?_
    refine op_wantedF (d := 27) rfl rfl ?_
    refine op_load Tryd.isAgg44 rfl (cell_own (hS.at_ 0 rfl) rfl) rfl ?_
    refine op_wantedF (d := 27) rfl rfl ?_
    refine op_len Tryd.underlying44 rfl rfl ?_
    refine op_wantedF (d := 27) rfl rfl ?_
    refine op_neq rfl rfl rfl ?_
    refine op_pickF rfl rfl rfl ?_
    refine op_move rfl rfl ?_
    refine op_cases (d := 36) rfl (fun hc => ?_) (fun hc => ?_)
    ·have hg36 := of_decide_eq_true hc; clear hc
     refine op_notF (d := 36) rfl rfl rfl rfl ?_
     refine op_notF (d := 36) rfl rfl rfl rfl ?_
     refine op_notF (d := 36) rfl rfl rfl rfl ?_
     refine op_notF (d := 36) rfl rfl rfl rfl ?_
     refine op_notF (d := 36) rfl rfl rfl rfl ?_
     refine op_notF (d := 36) rfl rfl rfl rfl ?_
     refine op_notF (d := 36) rfl rfl rfl rfl ?_
     refine op_pickT rfl rfl rfl ?_
     refine endF (XF.thenN ?_)
     refine condT rfl ?_
     refine seqF (regF ?_)
     refine op_assign rfl rfl ?_
     refine endF (XF.thenN ?_)
     refine retF ?_
     refine XF.thenR ?_
     refine XF.res (res1 Tryd.results14 rfl) ?_
     exact ⟨rbool (r_false hr (fun h => by have h5 := h.2.2.2.2; subst h5; omega)), hS.below⟩
    ·have hg36 := of_decide_eq_false hc; clear hc
     have hz : az = bz := by simpa using hg12
     have hcc : ac = bc := by omega
     have hff : ag = bg ∧ arows = brows := by simpa [sameB] using hg27
     have hcl : acl = bcl := by omega
     refine op_wantedF (d := 36) rfl rfl ?_
     refine op_field (o' := 5) fa_47_4 rfl rfl rfl ?_
     refine op_wantedF (d := 36) rfl rfl ?_
     refine op_load Tryd.isAgg45 rfl (cell_own (hS.at_ 1 rfl) rfl) rfl ?_
     refine op_wantedF (d := 36) rfl rfl ?_
     refine op_len Tryd.underlying45 rfl rfl ?_
     refine op_wantedF (d := 36) rfl rfl ?_
     refine op_field (o' := 5) fa_47_4 rfl rfl rfl ?_
     refine op_wantedF (d := 36) rfl rfl ?_
     refine op_load Tryd.isAgg45 rfl (cell_own (hS.at_ 0 rfl) rfl) rfl ?_
     refine op_wantedF (d := 36) rfl rfl ?_
     refine op_len Tryd.underlying45 rfl rfl ?_
     refine op_wantedF (d := 36) rfl rfl ?_
     refine op_neq rfl rfl rfl ?_
     refine op_pickF rfl rfl rfl ?_
     refine endF (XF.thenN ?_)
     refine condF rfl (fun hc => absurd (of_decide_eq_true hc) (by omega)) (fun hc => ?_)
     have hc := of_decide_eq_false hc
     refine skipF ?_
     refine XF.thenN ?_
     refine seqF ?_
     refine seqF (regF ?_)
     refine op_assign rfl rfl ?_
     refine endF (XF.thenN ?_)
     refine blockF ?_
     refine loopF (fun q l W => ∃ i : Nat, i ≤ acl ∧ q = acl - i ∧ l = [(2, .pointer (some ⟨B1, 0, none⟩)), (3, .pointer (some ⟨B2, 0, none⟩)), (5, .int .i64 (i : Int))] ∧ acells.take i = bcells.take i ∧ St w [(B2, [.bool bz, .int .i64 bc, .int .u64 (bg : Int), .slice bra brl brc, .slice bca bcl bcc, .slice bpa 0 bpc], 47), (B1, [.bool az, .int .i64 ac, .int .u64 (ag : Int), .slice ara arl arc, .slice aca acl acc, .slice apa 0 apc], 47)] [] [] W) (acl - 0) ([(2, _), (3, _), (5, _)]) ⟨rfl, rfl, rfl, trivial⟩ (⟨0, Nat.zero_le _, rfl, rfl, rfl, hS.clear⟩) ?_
     clear hS
     rintro q l W ⟨i, hi, rfl, rfl, hall, hS⟩
     refine seqF ?_
     refine seqF (regF ?_)
     refine op_move rfl rfl ?_
     refine op_field (o' := 4) fa_47_3 rfl rfl rfl ?_
     refine op_load Tryd.isAgg44 rfl (cell_own (hS.at_ 1 rfl) rfl) rfl ?_
     refine op_len Tryd.underlying44 rfl rfl ?_
     refine op_lss rfl rfl rfl ?_
     refine endF (XF.thenN ?_)
     refine condF rfl (fun hc => ?_) (fun hc => ?_)
     ·have hc49 := of_decide_eq_true hc; clear hc
      have hk : i < acl := by omega
      obtain ⟨b1, o1, x, hx1, hx2, _, x0, x1, x2⟩ := hca.at_ (k := i) (by omega)
      obtain ⟨b2, o2, y, hy1, hy2, _, y0, y1, y2⟩ := hcb.at_ (k := i) (by omega)
      subst hx1; subst hy1
      have k1 : CellsAt W b1 (o1 + i * 3) [.int .u64 (x.f : Int), .int .i64 x.k, .int .i64 x.v] := CellsAt.agree hS.agree (Nat.zero_le _) ⟨x0, x1, x2, trivial⟩
      have k2 : CellsAt W b2 (o2 + i * 3) [.int .u64 (y.f : Int), .int .i64 y.k, .int .i64 y.v] := CellsAt.agree hS.agree (Nat.zero_le _) ⟨y0, y1, y2, trivial⟩
      refine skipF ?_
      refine XF.thenN ?_
      refine seqF ?_
      refine blockF ?_
      refine seqF ?_
      refine regB (m := 11) followsM hS (by kernel_rfl) (by kernel_rfl) rfl ?_
      refine bl_cons 1 rfl (isV _) (stab_isV _) (rgV (li := [(2, _)]) rfl (w_free rfl) ⟨g_fr (by kernel_rfl) rfl, trivial⟩ (fun w hw => rn_field (o' := 4) fa_47_3 rfl rfl) (at_top rfl)) ?_
      refine bl_cons 2 rfl (isV _) (stab_isV _) (rgV (li := [(52, _)]) rfl (w_free rfl) ⟨g_dep 0 (by kernel_rfl) (at_dep rfl rfl rfl), trivial⟩ (fun w hw => rn_load Tryd.isAgg44 rfl ((below_agree hw 0).cell (Nat.zero_le _) (cell_own (hS.at_ 1 rfl) rfl))) (at_top rfl)) ?_
      refine bl_cons 3 rfl (isV _) (stab_isV _) (rgV (li := [(5, _)]) rfl (w_free rfl) ⟨g_fr (by kernel_rfl) rfl, trivial⟩ (fun w hw => rn_move rfl) (at_top rfl)) ?_
      refine bl_cons 4 rfl (isV _) (stab_isV _) (rgV (li := [(53, _), (54, _)]) rfl (w_free rfl) ⟨g_dep 1 (by kernel_rfl) (at_dep rfl rfl rfl), g_dep 2 (by kernel_rfl) (at_dep rfl rfl rfl), trivial⟩ (fun w hw => rn_indexA  Tryd.underlying44 Tryd.sizeOf89 rfl rfl rfl (by omega) rfl) (at_top rfl)) ?_
      refine bl_cons 5 rfl (isV _) (stab_isV _) (rgV (li := [(55, _)]) rfl (w_free rfl) ⟨g_dep 3 (by kernel_rfl) (at_dep rfl rfl rfl), trivial⟩ (fun w hw => rn_loadA (vs := [_, _, _]) Tryd.isAgg89 Tryd.sizeOf89 rfl (CellsAt.agree (below_agree hw 0) (Nat.zero_le _) (by assumption))) (at_top rfl)) ?_
      refine bl_cons 6 rfl (isV _) (stab_isV _) (rgV (li := [(3, _)]) rfl (w_free rfl) ⟨g_fr (by kernel_rfl) rfl, trivial⟩ (fun w hw => rn_field (o' := 4) fa_47_3 rfl rfl) (at_top rfl)) ?_
      refine bl_cons 7 rfl (isV _) (stab_isV _) (rgV (li := [(57, _)]) rfl (w_free rfl) ⟨g_dep 5 (by kernel_rfl) (at_dep rfl rfl rfl), trivial⟩ (fun w hw => rn_load Tryd.isAgg44 rfl ((below_agree hw 0).cell (Nat.zero_le _) (cell_own (hS.at_ 0 rfl) rfl))) (at_top rfl)) ?_
      refine bl_cons 8 rfl (isV _) (stab_isV _) (rgV (li := [(5, _)]) rfl (w_free rfl) ⟨g_fr (by kernel_rfl) rfl, trivial⟩ (fun w hw => rn_move rfl) (at_top rfl)) ?_
      refine bl_cons 9 rfl (isV _) (stab_isV _) (rgV (li := [(58, _), (59, _)]) rfl (w_free rfl) ⟨g_dep 6 (by kernel_rfl) (at_dep rfl rfl rfl), g_dep 7 (by kernel_rfl) (at_dep rfl rfl rfl), trivial⟩ (fun w hw => rn_indexA  Tryd.underlying44 Tryd.sizeOf89 rfl rfl rfl (by omega) rfl) (at_top rfl)) ?_
      refine bl_cons 10 rfl (isV _) (stab_isV _) (rgV (li := [(60, _)]) rfl (w_free rfl) ⟨g_dep 8 (by kernel_rfl) (at_dep rfl rfl rfl), trivial⟩ (fun w hw => rn_loadA (vs := [_, _, _]) Tryd.isAgg89 Tryd.sizeOf89 rfl (CellsAt.agree (below_agree hw 0) (Nat.zero_le _) (by assumption))) (at_top rfl)) ?_
      refine bl_cons 11 rfl (isV _) (stab_isV _) (rgV (li := [(56, _), (61, _)]) rfl (w_free rfl) ⟨g_dep 4 (by kernel_rfl) (at_dep rfl rfl rfl), g_dep 9 (by kernel_rfl) (at_dep rfl rfl rfl), trivial⟩ (fun w hw => rn_binG rfl rfl (run_eqGuard_agg _ _ _ _ _ _ _ (by kernel_rfl)) (neq_is x y _ rfl w)) (at_top rfl)) ?_
      refine bl_nil ?_
      intro W4 hbR hS'
      clear hS; have hS := hS'; clear hS'
      refine fin_v ?_
      refine fin_v ?_
      refine fin_v ?_
      refine fin_v ?_
      refine fin_v ?_
      refine fin_v ?_
      refine fin_v ?_
      refine fin_v ?_
      refine fin_v ?_
      refine fin_v ?_
      refine fin_v ?_
      refine fin_nil ?_
      refine XF.thenN ?_
      refine condF rfl (fun hc => ?_) (fun hc => ?_)
      ·have hc62 := hc; clear hc
       refine seqF (regF ?_)
       refine op_assign rfl rfl ?_
       refine endF (XF.thenN ?_)
       refine retF ?_
       refine XF.blkR ?_
       refine XF.thenR ?_
       refine XF.thenR ?_
       refine XF.blkR ?_
       refine XF.thenR ?_
       refine XF.res (res1 Tryd.results14 rfl) ?_
       exact ⟨rbool (r_false hr (fun h => by have h5 := h.2.2.2.2; subst h5; rw [hx2] at hy2; cases hy2; simp [sameCl] at hc62)), hS.below⟩
      ·have hc62 := hc; clear hc
       have hxy : x = y := by
        obtain ⟨xf, xk, xv⟩ := x
        obtain ⟨yf, yk, yv⟩ := y
        simp [sameCl] at hc62
        simp [hc62]
       subst hxy
       refine skipF ?_
       refine XF.blkN ?_
       refine XF.thenN ?_
       refine regF ?_
       refine op_move rfl rfl ?_
       refine op_add rfl rfl (IntWalk.i64_in _ (by omega)) rfl ?_
       refine op_assign rfl rfl ?_
       refine endF ?_
       exact XF.round (acl - (i + 1)) [(2, _), (3, _), (5, _)] (by omega) ⟨rfl, rfl, rfl, trivial⟩ ⟨i + 1, by omega, rfl, rfl, by rw [List.take_add_one, List.take_add_one, hx2, hy2, hall], hS.clear⟩
     ·have hc49 := of_decide_eq_false hc; clear hc
      have hce : acells = bcells := by
       rw [List.take_of_length_le (by omega), List.take_of_length_le (by omega)] at hall
       exact hall
      refine exitF ?_
      refine XF.thenX ?_
      refine XF.thenX ?_
      refine XF.blkX ?_
      refine XF.thenN ?_
      refine seqF ?_
      refine seqF (regF ?_)
      refine op_assign rfl rfl ?_
      refine endF (XF.thenN ?_)
      refine blockF ?_
      refine loopF (fun q l W => l = [(2, .pointer (some ⟨B1, 0, none⟩)), (3, .pointer (some ⟨B2, 0, none⟩)), (6, .int .i64 0)] ∧ St w [(B2, [.bool bz, .int .i64 bc, .int .u64 (bg : Int), .slice bra brl brc, .slice bca bcl bcc, .slice bpa 0 bpc], 47), (B1, [.bool az, .int .i64 ac, .int .u64 (ag : Int), .slice ara arl arc, .slice aca acl acc, .slice apa 0 apc], 47)] [] [] W) (0) ([(2, _), (3, _), (6, _)]) ⟨rfl, rfl, rfl, trivial⟩ (⟨rfl, hS⟩) ?_
      clear hS
      rintro q l W ⟨rfl, hS⟩
      refine seqF ?_
      refine seqF (regF ?_)
      refine op_move rfl rfl ?_
      refine op_field (o' := 5) fa_47_4 rfl rfl rfl ?_
      refine op_load Tryd.isAgg45 rfl (cell_own (hS.at_ 1 rfl) rfl) rfl ?_
      refine op_len Tryd.underlying45 rfl rfl ?_
      refine op_lss rfl rfl rfl ?_
      refine endF (XF.thenN ?_)
      refine condF rfl (fun hc => absurd (of_decide_eq_true hc) (by omega)) (fun hc => ?_)
      have hc := of_decide_eq_false hc
      refine exitF ?_
      refine XF.thenX ?_
      refine XF.thenX ?_
      refine XF.blkX ?_
      refine XF.thenN ?_
      refine seqF (regF ?_)
      refine op_assign rfl rfl ?_
      refine endF (XF.thenN ?_)
      refine retF ?_
      refine XF.res (res1 Tryd.results14 rfl) ?_
      exact ⟨rbool (r_true hr ⟨hz, hcc, hff.1, hff.2, hce⟩), hS.below⟩
theorem sameW_plain {w : World} {t n : Int} {f g : WF} {x y : PF} (hx : PIs w t n f x) (hy : PIs w t n g y) (r : Bool) (hr : r = true ↔ x = y) : Calls Tryd.prog 14 #[f.val, g.val] w fun e w' => e = .returned (.bool r) ∧ Below w.heap.size w w' := by
 have h1 := hx.rows64 (l := 0); have h2 := hy.rows64 (l := 0)
 have e1 := hx.pl; have e2 := hy.pl
 have a1 := hx.at_; have a2 := hy.at_
 obtain rfl := hx.pf
 obtain rfl := hy.pf
 obtain ⟨az, ac, ag, ara, arl, arc, arows, aca, acl, acc, acells, apa, apl, apc⟩ := f
 obtain ⟨bz, bc, bg, bra, brl, brc, brows, bca, bcl, bcc, bcells, bpa, bpl, bpc⟩ := g
 dsimp only at e1 e2 h1 h2
 subst e1; subst e2
 refine sameW_one _ _ _ _ _ _ _ _ _ _ _ _ _ _ _ _ _ _ _ _ _ _ _ _ _ _ w a1.rows a1.rl (by dsimp only; omega) a1.cells a1.cl (by dsimp only; omega) a2.rows a2.rl (by dsimp only; omega) a2.cells a2.cl (by dsimp only; omega) r ?_
 rw [hr]
 simp [WF.pf]
theorem sameW_two (t n u m : Int) (fra fca : Option Addr) (frc fcc fpc fb fo : Nat) (f1 f2 : WF)(gra gca : Option Addr) (grc gcc gpc gb go : Nat) (g1 g2 : WF)(x1 x2 y1 y2 : PF) (w : World) (hf6 : W6 w fb fo f1) (hf7 : W6 w fb (fo + 6) f2) (hg6 : W6 w gb go g1) (hg7 : W6 w gb (go + 6) g2) (hx1 : PIs w t n f1 x1) (hx2 : PIs w u m f2 x2) (hy1 : PIs w t n g1 y1) (hy2 : PIs w u m g2 y2) (r r1 r2 : Bool) (hr : r = true ↔ (x1 = y1 ∧ x2 = y2)) (hr1 : r1 = true ↔ x1 = y1) (hr2 : r2 = true ↔ x2 = y2) :
  Calls Tryd.prog 14 #[.agg #[.bool false, .int .i64 0, .int .u64 0, .slice fra 0 frc, .slice fca 0 fcc, .slice (some ⟨fb, fo, none⟩) 2 fpc], .agg #[.bool false, .int .i64 0, .int .u64 0, .slice gra 0 grc, .slice gca 0 gcc, .slice (some ⟨gb, go, none⟩) 2 gpc]] w (fun e w' => e = .returned (.bool r) ∧ Below w.heap.size w w') := by
 refine enterF (args := [.agg #[.bool false, .int .i64 0, .int .u64 0, .slice fra 0 frc, .slice fca 0 fcc, .slice (some ⟨fb, fo, none⟩) 2 fpc], .agg #[.bool false, .int .i64 0, .int .u64 0, .slice gra 0 grc, .slice gca 0 gcc, .slice (some ⟨gb, go, none⟩) 2 gpc]]) Tryd.func14 rfl Tryd.ntmps14 rfl ?_
 have hS := St.start w
 refine seqF (regF ?_)
 refine op_box (cs := [_, _, _, _, _, _]) hS rfl rfl rfl ?_
 clear hS; intro B1 W1 hS
 refine op_box (cs := [_, _, _, _, _, _]) hS rfl rfl rfl ?_
 clear hS; intro B2 W2 hS
 refine op_assign rfl rfl ?_
 refine endF (XF.thenN ?_)
 refine seqF ?_
 refine seqF (regF ?_)
 refine op_field (o' := 0) fa_47_0 rfl rfl rfl ?_
 refine op_load Tryd.isAgg4 rfl (cell_own (hS.at_ 1 rfl) rfl) rfl ?_
 refine op_field (o' := 0) fa_47_0 rfl rfl rfl ?_
 refine op_load Tryd.isAgg4 rfl (cell_own (hS.at_ 0 rfl) rfl) rfl ?_
 refine op_neqB Tryd.underlying4 rfl rfl rfl ?_
 refine op_move rfl rfl ?_
 refine op_cases (d := 12) rfl (fun hc => absurd hc (by decide)) (fun hc => ?_)
 skip
 refine op_wantedF (d := 12) rfl rfl ?_
 refine op_field (o' := 1) fa_47_1 rfl rfl rfl ?_
 refine op_wantedF (d := 12) rfl rfl ?_
 refine op_load Tryd.isAgg3 rfl (cell_own (hS.at_ 1 rfl) rfl) rfl ?_
 refine op_wantedF (d := 12) rfl rfl ?_
 refine op_field (o' := 1) fa_47_1 rfl rfl rfl ?_
 refine op_wantedF (d := 12) rfl rfl ?_
 refine op_load Tryd.isAgg3 rfl (cell_own (hS.at_ 0 rfl) rfl) rfl ?_
 refine op_wantedF (d := 12) rfl rfl ?_
 refine op_neq rfl rfl rfl ?_
 refine op_pickF rfl rfl rfl ?_
 refine op_move rfl rfl ?_
 refine op_cases (d := 19) rfl (fun hc => absurd (of_decide_eq_true hc) (by omega)) (fun hc => ?_)
 have hc := of_decide_eq_false hc
 refine op_wantedF (d := 19) rfl rfl ?_
 refine op_field (o' := 2) fa_47_2 rfl rfl rfl ?_
 refine op_wantedF (d := 19) rfl rfl ?_
 refine op_loadA (vs := [_, _]) Tryd.isAgg43 Tryd.sizeOf43 rfl (CellsAt.own (j := 2) (m := 2) (hS.at_ 1 rfl) rfl) rfl ?_
 refine op_wantedF (d := 19) rfl rfl ?_
 refine op_field (o' := 2) fa_47_2 rfl rfl rfl ?_
 refine op_wantedF (d := 19) rfl rfl ?_
 refine op_loadA (vs := [_, _]) Tryd.isAgg43 Tryd.sizeOf43 rfl (CellsAt.own (j := 2) (m := 2) (hS.at_ 0 rfl) rfl) rfl ?_
 refine op_wantedF (d := 19) rfl rfl ?_
 refine op_call (vs := [_, _]) hS goes_35 rfl (sameR_is _ _ _ _ 0 0 [] [] _ (by simp) (by simp) (.inl rfl) (.inl rfl) true rfl _ _ rfl rfl) rfl ?_
 rintro e W3 ⟨rfl, hb⟩
 refine ⟨_, rfl, hb, fun hS' => ?_⟩
 clear hS; have hS := hS'; clear hS' hb
 refine op_wantedF (d := 19) rfl rfl ?_
 refine op_not rfl rfl ?_
 refine op_pickF rfl rfl rfl ?_
 refine op_move rfl rfl ?_
 refine op_cases (d := 27) rfl (fun hc => absurd hc (by decide)) (fun hc => ?_)
 skip
 refine op_wantedF (d := 27) rfl rfl ?_
 refine op_field (o' := 4) fa_47_3 rfl rfl rfl ?_
 refine op_wantedF (d := 27) rfl rfl ?_
 refine op_load Tryd.isAgg44 rfl (cell_own (hS.at_ 1 rfl) rfl) rfl ?_
 refine op_wantedF (d := 27) rfl rfl ?_
 refine op_len Tryd.underlying44 rfl rfl ?_
 refine op_wantedF (d := 27) rfl rfl ?_
 refine op_field (o' := 4) fa_47_3 rfl rfl rfl ?_
 refine op_wantedF (d := 27) rfl rfl ?_
 refine op_load Tryd.isAgg44 rfl (cell_own (hS.at_ 0 rfl) rfl) rfl ?_
 refine op_wantedF (d := 27) rfl rfl ?_
 refine op_len Tryd.underlying44 rfl rfl ?_
 refine op_wantedF (d := 27) rfl rfl ?_
 refine op_neq rfl rfl rfl ?_
 refine op_pickF rfl rfl rfl ?_
 refine op_move rfl rfl ?_
 refine op_cases (d := 36) rfl (fun hc => absurd (of_decide_eq_true hc) (by omega)) (fun hc => ?_)
 have hc := of_decide_eq_false hc
 refine op_wantedF (d := 36) rfl rfl ?_
 refine op_field (o' := 5) fa_47_4 rfl rfl rfl ?_
 refine op_wantedF (d := 36) rfl rfl ?_
 refine op_load Tryd.isAgg45 rfl (cell_own (hS.at_ 1 rfl) rfl) rfl ?_
 refine op_wantedF (d := 36) rfl rfl ?_
 refine op_len Tryd.underlying45 rfl rfl ?_
 refine op_wantedF (d := 36) rfl rfl ?_
 refine op_field (o' := 5) fa_47_4 rfl rfl rfl ?_
 refine op_wantedF (d := 36) rfl rfl ?_
 refine op_load Tryd.isAgg45 rfl (cell_own (hS.at_ 0 rfl) rfl) rfl ?_
 refine op_wantedF (d := 36) rfl rfl ?_
 refine op_len Tryd.underlying45 rfl rfl ?_
 refine op_wantedF (d := 36) rfl rfl ?_
 refine op_neq rfl rfl rfl ?_
 refine op_pickF rfl rfl rfl ?_
 refine endF (XF.thenN ?_)
 refine condF rfl (fun hc => absurd (of_decide_eq_true hc) (by omega)) (fun hc => ?_)
 have hc := of_decide_eq_false hc
 refine skipF ?_
 refine XF.thenN ?_
 refine seqF ?_
 refine seqF (regF ?_)
 refine op_assign rfl rfl ?_
 refine endF (XF.thenN ?_)
 refine blockF ?_
 refine loopF (fun q l W => l = [(2, .pointer (some ⟨B1, 0, none⟩)), (3, .pointer (some ⟨B2, 0, none⟩)), (5, .int .i64 0)] ∧ St w [(B2, [.bool false, .int .i64 0, .int .u64 0, .slice gra 0 grc, .slice gca 0 gcc, .slice (some ⟨gb, go, none⟩) 2 gpc], 47), (B1, [.bool false, .int .i64 0, .int .u64 0, .slice fra 0 frc, .slice fca 0 fcc, .slice (some ⟨fb, fo, none⟩) 2 fpc], 47)] [] [] W) (0) ([(2, _), (3, _), (5, _)]) ⟨rfl, rfl, rfl, trivial⟩ (⟨rfl, hS.clear⟩) ?_
 clear hS
 rintro q l W ⟨rfl, hS⟩
 refine seqF ?_
 refine seqF (regF ?_)
 refine op_move rfl rfl ?_
 refine op_field (o' := 4) fa_47_3 rfl rfl rfl ?_
 refine op_load Tryd.isAgg44 rfl (cell_own (hS.at_ 1 rfl) rfl) rfl ?_
 refine op_len Tryd.underlying44 rfl rfl ?_
 refine op_lss rfl rfl rfl ?_
 refine endF (XF.thenN ?_)
 refine condF rfl (fun hc => absurd (of_decide_eq_true hc) (by omega)) (fun hc => ?_)
 have hc := of_decide_eq_false hc
 refine exitF ?_
 refine XF.thenX ?_
 refine XF.thenX ?_
 refine XF.blkX ?_
 refine XF.thenN ?_
 refine seqF ?_
 refine seqF (regF ?_)
 refine op_assign rfl rfl ?_
 refine endF (XF.thenN ?_)
 refine blockF ?_
 refine loopF (fun q l W => (q = 2 ∧ l = [(2, .pointer (some ⟨B1, 0, none⟩)), (3, .pointer (some ⟨B2, 0, none⟩)), (6, .int .i64 0)] ∧ St w [(B2, [.bool false, .int .i64 0, .int .u64 0, .slice gra 0 grc, .slice gca 0 gcc, .slice (some ⟨gb, go, none⟩) 2 gpc], 47), (B1, [.bool false, .int .i64 0, .int .u64 0, .slice fra 0 frc, .slice fca 0 fcc, .slice (some ⟨fb, fo, none⟩) 2 fpc], 47)] [] [] W) ∨ (q = 1 ∧ l = [(2, .pointer (some ⟨B1, 0, none⟩)), (3, .pointer (some ⟨B2, 0, none⟩)), (6, .int .i64 1)] ∧ r1 = true ∧ St w [(B2, [.bool false, .int .i64 0, .int .u64 0, .slice gra 0 grc, .slice gca 0 gcc, .slice (some ⟨gb, go, none⟩) 2 gpc], 47), (B1, [.bool false, .int .i64 0, .int .u64 0, .slice fra 0 frc, .slice fca 0 fcc, .slice (some ⟨fb, fo, none⟩) 2 fpc], 47)] [] [] W) ∨ (q = 0 ∧ l = [(2, .pointer (some ⟨B1, 0, none⟩)), (3, .pointer (some ⟨B2, 0, none⟩)), (6, .int .i64 2)] ∧ r1 = true ∧ r2 = true ∧ St w [(B2, [.bool false, .int .i64 0, .int .u64 0, .slice gra 0 grc, .slice gca 0 gcc, .slice (some ⟨gb, go, none⟩) 2 gpc], 47), (B1, [.bool false, .int .i64 0, .int .u64 0, .slice fra 0 frc, .slice fca 0 fcc, .slice (some ⟨fb, fo, none⟩) 2 fpc], 47)] [] [] W)) (2) ([(2, _), (3, _), (6, _)]) ⟨rfl, rfl, rfl, trivial⟩ (.inl ⟨rfl, rfl, hS⟩) ?_
 clear hS
 rintro q l W (⟨rfl, rfl, hS⟩ | ⟨rfl, rfl, hq1, hS⟩ | ⟨rfl, rfl, hq1, hq2, hS⟩)
 ·have k1 := CellsAt.agree hS.agree (Nat.zero_le _) hf6.cells
  have k2 := CellsAt.agree hS.agree (Nat.zero_le _) hg6.cells
  refine seqF ?_
  refine seqF (regF ?_)
  refine op_move rfl rfl ?_
  refine op_field (o' := 5) fa_47_4 rfl rfl rfl ?_
  refine op_load Tryd.isAgg45 rfl (cell_own (hS.at_ 1 rfl) rfl) rfl ?_
  refine op_len Tryd.underlying45 rfl rfl ?_
  refine op_lss rfl rfl rfl ?_
  refine endF (XF.thenN ?_)
  refine condF rfl (fun hc => ?_) (fun hc => absurd (of_decide_eq_false hc) (by omega))
  have hc := of_decide_eq_true hc
  refine skipF ?_
  refine XF.thenN ?_
  refine seqF ?_
  refine blockF ?_
  refine seqF ?_
  refine regB (m := 12) followsM hS (by kernel_rfl) (by kernel_rfl) rfl ?_
  refine bl_cons 1 rfl (isV _) (stab_isV _) (rgV (li := [(2, _)]) rfl (w_free rfl) ⟨g_fr (by kernel_rfl) rfl, trivial⟩ (fun w hw => rn_field (o' := 5) fa_47_4 rfl rfl) (at_top rfl)) ?_
  refine bl_cons 2 rfl (isV _) (stab_isV _) (rgV (li := [(70, _)]) rfl (w_free rfl) ⟨g_dep 0 (by kernel_rfl) (at_dep rfl rfl rfl), trivial⟩ (fun w hw => rn_load Tryd.isAgg45 rfl ((below_agree hw 0).cell (Nat.zero_le _) (cell_own (hS.at_ 1 rfl) rfl))) (at_top rfl)) ?_
  refine bl_cons 3 rfl (isV _) (stab_isV _) (rgV (li := [(6, _)]) rfl (w_free rfl) ⟨g_fr (by kernel_rfl) rfl, trivial⟩ (fun w hw => rn_move rfl) (at_top rfl)) ?_
  refine bl_cons 4 rfl (isV _) (stab_isV _) (rgV (li := [(71, _), (72, _)]) rfl (w_free rfl) ⟨g_dep 1 (by kernel_rfl) (at_dep rfl rfl rfl), g_dep 2 (by kernel_rfl) (at_dep rfl rfl rfl), trivial⟩ (fun w hw => rn_indexA (j := 0) Tryd.underlying45 Tryd.sizeOf47 rfl rfl rfl (by omega) (Nat.add_zero _)) (at_top rfl)) ?_
  refine bl_cons 5 rfl (isV _) (stab_isV _) (rgV (li := [(73, _)]) rfl (w_free rfl) ⟨g_dep 3 (by kernel_rfl) (at_dep rfl rfl rfl), trivial⟩ (fun w hw => rn_loadA (vs := [_, _, _, _, _, _]) Tryd.isAgg47 Tryd.sizeOf47 rfl (CellsAt.agree (below_agree hw 0) (Nat.zero_le _) (by assumption))) (at_top rfl)) ?_
  refine bl_cons 6 rfl (isV _) (stab_isV _) (rgV (li := [(3, _)]) rfl (w_free rfl) ⟨g_fr (by kernel_rfl) rfl, trivial⟩ (fun w hw => rn_field (o' := 5) fa_47_4 rfl rfl) (at_top rfl)) ?_
  refine bl_cons 7 rfl (isV _) (stab_isV _) (rgV (li := [(75, _)]) rfl (w_free rfl) ⟨g_dep 5 (by kernel_rfl) (at_dep rfl rfl rfl), trivial⟩ (fun w hw => rn_load Tryd.isAgg45 rfl ((below_agree hw 0).cell (Nat.zero_le _) (cell_own (hS.at_ 0 rfl) rfl))) (at_top rfl)) ?_
  refine bl_cons 8 rfl (isV _) (stab_isV _) (rgV (li := [(6, _)]) rfl (w_free rfl) ⟨g_fr (by kernel_rfl) rfl, trivial⟩ (fun w hw => rn_move rfl) (at_top rfl)) ?_
  refine bl_cons 9 rfl (isV _) (stab_isV _) (rgV (li := [(76, _), (77, _)]) rfl (w_free rfl) ⟨g_dep 6 (by kernel_rfl) (at_dep rfl rfl rfl), g_dep 7 (by kernel_rfl) (at_dep rfl rfl rfl), trivial⟩ (fun w hw => rn_indexA (j := 0) Tryd.underlying45 Tryd.sizeOf47 rfl rfl rfl (by omega) (Nat.add_zero _)) (at_top rfl)) ?_
  refine bl_cons 10 rfl (isV _) (stab_isV _) (rgV (li := [(78, _)]) rfl (w_free rfl) ⟨g_dep 8 (by kernel_rfl) (at_dep rfl rfl rfl), trivial⟩ (fun w hw => rn_loadA (vs := [_, _, _, _, _, _]) Tryd.isAgg47 Tryd.sizeOf47 rfl (CellsAt.agree (below_agree hw 0) (Nat.zero_le _) (by assumption))) (at_top rfl)) ?_
  refine bl_cons 11 rfl (isV (.bool r1)) (stab_isV _) (rg_call [isV _, isV _] rfl goes_14 (w_free rfl) ⟨p_tmp (g_dep 4 (by kernel_rfl) (at_dep rfl rfl rfl)), p_tmp (g_dep 9 (by kernel_rfl) (at_dep rfl rfl rfl)), trivial⟩ (fun vs w' hb hh => by have e := holds_isV (us := [_, _]) hh; subst e; exact (sameW_plain (hx1.below (hS.below.trans (hb.mono hS.below.size))) (hy1.below (hS.below.trans (hb.mono hS.below.size))) r1 hr1).mono fun e w2 h => ⟨.bool r1, h.1, rfl, h.2⟩) (at_top rfl)) ?_
  refine bl_cons 12 rfl (isV _) (stab_isV _) (rgV (li := [(80, _)]) rfl (w_free rfl) ⟨g_dep 10 (by kernel_rfl) (at_dep rfl rfl rfl), trivial⟩ (fun w hw => rn_not rfl) (at_top rfl)) ?_
  refine bl_nil ?_
  intro W4 hbR hS'
  clear hS; have hS := hS'; clear hS'
  refine fin_v ?_
  refine fin_v ?_
  refine fin_v ?_
  refine fin_v ?_
  refine fin_v ?_
  refine fin_v ?_
  refine fin_v ?_
  refine fin_v ?_
  refine fin_v ?_
  refine fin_v ?_
  refine fin_v ?_
  refine fin_v ?_
  refine fin_nil ?_
  refine XF.thenN ?_
  refine condF rfl (fun hc => ?_) (fun hc => ?_)
  ·have hc81 := hc; clear hc
   refine seqF (regF ?_)
   refine op_assign rfl rfl ?_
   refine endF (XF.thenN ?_)
   refine retF ?_
   refine XF.blkR ?_
   refine XF.thenR ?_
   refine XF.thenR ?_
   refine XF.blkR ?_
   refine XF.thenR ?_
   refine XF.res (res1 Tryd.results14 rfl) ?_
   exact ⟨rbool (r_false hr (fun h => by rw [hr1.2 h.1] at hc81; cases hc81)), hS.below⟩
  ·have hc81 := hc; clear hc
   refine skipF ?_
   refine XF.blkN ?_
   refine XF.thenN ?_
   refine regF ?_
   refine op_move rfl rfl ?_
   refine op_add rfl rfl (IntWalk.i64_in _ (by omega)) rfl ?_
   refine op_assign rfl rfl ?_
   refine endF ?_
   exact XF.round 1 [(2, _), (3, _), (6, _)] (by omega) ⟨rfl, rfl, rfl, trivial⟩ (.inr (.inl ⟨rfl, rfl, by simpa using hc81, hS.clear⟩))
 ·have k1 := CellsAt.agree hS.agree (Nat.zero_le _) hf7.cells
  have k2 := CellsAt.agree hS.agree (Nat.zero_le _) hg7.cells
  refine seqF ?_
  refine seqF (regF ?_)
  refine op_move rfl rfl ?_
  refine op_field (o' := 5) fa_47_4 rfl rfl rfl ?_
  refine op_load Tryd.isAgg45 rfl (cell_own (hS.at_ 1 rfl) rfl) rfl ?_
  refine op_len Tryd.underlying45 rfl rfl ?_
  refine op_lss rfl rfl rfl ?_
  refine endF (XF.thenN ?_)
  refine condF rfl (fun hc => ?_) (fun hc => absurd (of_decide_eq_false hc) (by omega))
  have hc := of_decide_eq_true hc
  refine skipF ?_
  refine XF.thenN ?_
  refine seqF ?_
  refine blockF ?_
  refine seqF ?_
  refine regB (m := 12) followsM hS (by kernel_rfl) (by kernel_rfl) rfl ?_
  refine bl_cons 1 rfl (isV _) (stab_isV _) (rgV (li := [(2, _)]) rfl (w_free rfl) ⟨g_fr (by kernel_rfl) rfl, trivial⟩ (fun w hw => rn_field (o' := 5) fa_47_4 rfl rfl) (at_top rfl)) ?_
  refine bl_cons 2 rfl (isV _) (stab_isV _) (rgV (li := [(70, _)]) rfl (w_free rfl) ⟨g_dep 0 (by kernel_rfl) (at_dep rfl rfl rfl), trivial⟩ (fun w hw => rn_load Tryd.isAgg45 rfl ((below_agree hw 0).cell (Nat.zero_le _) (cell_own (hS.at_ 1 rfl) rfl))) (at_top rfl)) ?_
  refine bl_cons 3 rfl (isV _) (stab_isV _) (rgV (li := [(6, _)]) rfl (w_free rfl) ⟨g_fr (by kernel_rfl) rfl, trivial⟩ (fun w hw => rn_move rfl) (at_top rfl)) ?_
  refine bl_cons 4 rfl (isV _) (stab_isV _) (rgV (li := [(71, _), (72, _)]) rfl (w_free rfl) ⟨g_dep 1 (by kernel_rfl) (at_dep rfl rfl rfl), g_dep 2 (by kernel_rfl) (at_dep rfl rfl rfl), trivial⟩ (fun w hw => rn_indexA (j := 1) Tryd.underlying45 Tryd.sizeOf47 rfl rfl rfl (by omega) rfl) (at_top rfl)) ?_
  refine bl_cons 5 rfl (isV _) (stab_isV _) (rgV (li := [(73, _)]) rfl (w_free rfl) ⟨g_dep 3 (by kernel_rfl) (at_dep rfl rfl rfl), trivial⟩ (fun w hw => rn_loadA (vs := [_, _, _, _, _, _]) Tryd.isAgg47 Tryd.sizeOf47 rfl (CellsAt.agree (below_agree hw 0) (Nat.zero_le _) (by assumption))) (at_top rfl)) ?_
  refine bl_cons 6 rfl (isV _) (stab_isV _) (rgV (li := [(3, _)]) rfl (w_free rfl) ⟨g_fr (by kernel_rfl) rfl, trivial⟩ (fun w hw => rn_field (o' := 5) fa_47_4 rfl rfl) (at_top rfl)) ?_
  refine bl_cons 7 rfl (isV _) (stab_isV _) (rgV (li := [(75, _)]) rfl (w_free rfl) ⟨g_dep 5 (by kernel_rfl) (at_dep rfl rfl rfl), trivial⟩ (fun w hw => rn_load Tryd.isAgg45 rfl ((below_agree hw 0).cell (Nat.zero_le _) (cell_own (hS.at_ 0 rfl) rfl))) (at_top rfl)) ?_
  refine bl_cons 8 rfl (isV _) (stab_isV _) (rgV (li := [(6, _)]) rfl (w_free rfl) ⟨g_fr (by kernel_rfl) rfl, trivial⟩ (fun w hw => rn_move rfl) (at_top rfl)) ?_
  refine bl_cons 9 rfl (isV _) (stab_isV _) (rgV (li := [(76, _), (77, _)]) rfl (w_free rfl) ⟨g_dep 6 (by kernel_rfl) (at_dep rfl rfl rfl), g_dep 7 (by kernel_rfl) (at_dep rfl rfl rfl), trivial⟩ (fun w hw => rn_indexA (j := 1) Tryd.underlying45 Tryd.sizeOf47 rfl rfl rfl (by omega) rfl) (at_top rfl)) ?_
  refine bl_cons 10 rfl (isV _) (stab_isV _) (rgV (li := [(78, _)]) rfl (w_free rfl) ⟨g_dep 8 (by kernel_rfl) (at_dep rfl rfl rfl), trivial⟩ (fun w hw => rn_loadA (vs := [_, _, _, _, _, _]) Tryd.isAgg47 Tryd.sizeOf47 rfl (CellsAt.agree (below_agree hw 0) (Nat.zero_le _) (by assumption))) (at_top rfl)) ?_
  refine bl_cons 11 rfl (isV (.bool r2)) (stab_isV _) (rg_call [isV _, isV _] rfl goes_14 (w_free rfl) ⟨p_tmp (g_dep 4 (by kernel_rfl) (at_dep rfl rfl rfl)), p_tmp (g_dep 9 (by kernel_rfl) (at_dep rfl rfl rfl)), trivial⟩ (fun vs w' hb hh => by have e := holds_isV (us := [_, _]) hh; subst e; exact (sameW_plain (hx2.below (hS.below.trans (hb.mono hS.below.size))) (hy2.below (hS.below.trans (hb.mono hS.below.size))) r2 hr2).mono fun e w2 h => ⟨.bool r2, h.1, rfl, h.2⟩) (at_top rfl)) ?_
  refine bl_cons 12 rfl (isV _) (stab_isV _) (rgV (li := [(80, _)]) rfl (w_free rfl) ⟨g_dep 10 (by kernel_rfl) (at_dep rfl rfl rfl), trivial⟩ (fun w hw => rn_not rfl) (at_top rfl)) ?_
  refine bl_nil ?_
  intro W5 hbR hS'
  clear hS; have hS := hS'; clear hS'
  refine fin_v ?_
  refine fin_v ?_
  refine fin_v ?_
  refine fin_v ?_
  refine fin_v ?_
  refine fin_v ?_
  refine fin_v ?_
  refine fin_v ?_
  refine fin_v ?_
  refine fin_v ?_
  refine fin_v ?_
  refine fin_v ?_
  refine fin_nil ?_
  refine XF.thenN ?_
  refine condF rfl (fun hc => ?_) (fun hc => ?_)
  ·have hc81 := hc; clear hc
   refine seqF (regF ?_)
   refine op_assign rfl rfl ?_
   refine endF (XF.thenN ?_)
   refine retF ?_
   refine XF.blkR ?_
   refine XF.thenR ?_
   refine XF.thenR ?_
   refine XF.blkR ?_
   refine XF.thenR ?_
   refine XF.res (res1 Tryd.results14 rfl) ?_
   exact ⟨rbool (r_false hr (fun h => by rw [hr2.2 h.2] at hc81; cases hc81)), hS.below⟩
  ·have hc81 := hc; clear hc
   refine skipF ?_
   refine XF.blkN ?_
   refine XF.thenN ?_
   refine regF ?_
   refine op_move rfl rfl ?_
   refine op_add rfl rfl (IntWalk.i64_in _ (by omega)) rfl ?_
   refine op_assign rfl rfl ?_
   refine endF ?_
   exact XF.round 0 [(2, _), (3, _), (6, _)] (by omega) ⟨rfl, rfl, rfl, trivial⟩ (.inr (.inr ⟨rfl, rfl, hq1, by simpa using hc81, hS.clear⟩))
 ·skip
  refine seqF ?_
  refine seqF (regF ?_)
  refine op_move rfl rfl ?_
  refine op_field (o' := 5) fa_47_4 rfl rfl rfl ?_
  refine op_load Tryd.isAgg45 rfl (cell_own (hS.at_ 1 rfl) rfl) rfl ?_
  refine op_len Tryd.underlying45 rfl rfl ?_
  refine op_lss rfl rfl rfl ?_
  refine endF (XF.thenN ?_)
  refine condF rfl (fun hc => absurd (of_decide_eq_true hc) (by omega)) (fun hc => ?_)
  have hc := of_decide_eq_false hc
  refine exitF ?_
  refine XF.thenX ?_
  refine XF.thenX ?_
  refine XF.blkX ?_
  refine XF.thenN ?_
  refine seqF (regF ?_)
  refine op_assign rfl rfl ?_
  refine endF (XF.thenN ?_)
  refine retF ?_
  refine XF.res (res1 Tryd.results14 rfl) ?_
  exact ⟨rbool (r_true hr ⟨hr1.1 hq1, hr2.1 hq2⟩), hS.below⟩
theorem sameW_is {w : World} {S : PS} {f g : WF} {x y : PX} (hx : XIs w S f x) (hy : XIs w S g y) (r : Bool) (hr : r = true ↔ x = y) : Calls Tryd.prog 14 #[f.val, g.val] w fun e w' => e = .returned (.bool r) ∧ Below w.heap.size w w' := by
 classical
 cases S <;> cases x <;> cases y <;> first | exact hx.elim | exact hy.elim | skip
 ·exact sameW_plain hx hy r (by rw [hr]; simp)
 ·obtain ⟨ra, ca, rc, cc, pc, fb, fo, f1, f2, rfl, h6, h7, h8, h9⟩ := hx.two
  obtain ⟨ra', ca', rc', cc', pc', gb, go, g1, g2, rfl, h6', h7', h8', h9'⟩ := hy.two
  exact sameW_two _ _ _ _ _ _ _ _ _ _ _ _ _ _ _ _ _ _ _ _ _ _ _ _ _ _ w h6 h7 h6' h7' h8 h9 h8' h9' r (decide _) (decide _) (by rw [hr]; simp) decide_eq_true_iff decide_eq_true_iff
end Go.Proofs.YtfkbkekgnoanaaaDoor
namespace Go.Proofs.YtfkbkekgnoanaaaDoor
open Go Go.RowKit
theorem frow2 {W : World} {B : Nat} {T : TypeId} {f g : WF} (h : W.heap[B]? = some (.cells (List.toArray (f.six ++ g.six)) T (0, 0))) : FRow W (some ⟨B, 0, none⟩) [f, g] :=
 .inr ⟨B, 0, rfl, fun i k hi => by
  match i, hi with
  | 0, hi => simp at hi; subst hi; exact W6.of_cells (CellsAt.own (j := 0) (m := 6) h rfl)
  | 1, hi => simp at hi; subst hi; exact W6.of_cells (CellsAt.own (j := 6) (m := 6) h rfl)⟩
theorem xl_cons {w : World} {S : PS} {f : WF} {x : PX} {fs : List WF} {xs : List PX} (h : XIs w S f x) (hx : XL w S fs xs) : XL w S (f :: fs) (x :: xs) :=
 ⟨by simp [hx.1], fun i g y hg hy => by
  match i, hg, hy with
  | 0, hg, hy => simp at hg hy; subst hg; subst hy; exact h
  | i + 1, hg, hy => exact hx.2 i g y (by simpa using hg) (by simpa using hy)⟩
theorem xl_nil {w : World} {S : PS} : XL w S [] [] := ⟨rfl, fun i g y hg => by simp at hg⟩
end Go.Proofs.YtfkbkekgnoanaaaDoor
namespace Go.Proofs.YtfkbkekgnoanaaaDoor
open Go.RowKit
set_option linter.unusedSimpArgs false
def pc : Nat → Nat → Nat
 | 0, _ => 0
 | n + 1, f => pc n f + (if f.testBit n then 1 else 0)
end Go.Proofs.YtfkbkekgnoanaaaDoor
namespace Go.Proofs.YtfkbkekgnoanaaaDoor
open Go Go.RowKit
theorem spaceR_ok {S : PS} {sf : SF} {w : World} (hs : SIs w S sf) (hok : S.ok) : Calls Tryd.prog 24 #[sf.val] w fun e w' => e = .returned (.int .i64 0) ∧ Below w.heap.size w w' := by
 obtain ⟨s, rfl, h, he⟩ := SIs.sin hs hok
 exact spaceR_is 2 s 0 w h he
end Go.Proofs.YtfkbkekgnoanaaaDoor
namespace Go.Proofs.YtfkbkekgnoanaaaDoor
open Go.RowKit
attribute [local go_sem ↓] Go.wp_at_zero Go.wp_at_succ
theorem isA_genY {w : World} {ds da : Nat} {s : SV} {x : WV} (hs : SIn w ds s) (hse : spaceE s = 0) (hx : WIn w da x) :
  Calls Tryd.prog 78 #[s.f.val, x.f.val] w fun e w' => e = .returned (.bool (okW s x)) ∧ Below w.heap.size w w' := by
 match ds, da, s, x, hs, hx with
 | ds + 1, da + 1, .mk f ps, .mk g qs, hs, hx =>
  by_cases hp : plainB f.tag f.dim f.len = true
  ·refine isA_plainY f.tag f.dim f.a f.len f.cap g hp (Nat.zero_le _) w hx.1 _ ?_
   unfold okW; exact (if_pos hp).symm
  ·have hse' : (if plainB f.tag f.dim f.len = true then (0 : Int) else if f.tag = 5 ∧ f.dim = 0 ∧ ps.length = 2 ∧ ps.all SV.pl = true then 0 else 50) = 0 := hse
   rw [if_neg hp] at hse'
   split at hse'
   ·rename_i hq
    obtain ⟨h5, h0, h2, hall⟩ := hq
    obtain ⟨t, n, a, l, c⟩ := f
    dsimp only at h5 h0 hp
    subst h5; subst h0
    obtain ⟨p, q, rfl⟩ := two_of h2
    have hl : 2 = l := hs.1
    subst hl
    simp only [List.all_cons, List.all_nil, Bool.and_true, Bool.and_eq_true] at hall
    refine isA_pairY ds a c p q g qs w hs hall.1 hall.2 da hx (fun _ _ => Nat.zero_le _) _ ?_
    unfold okW; exact (if_neg hp).symm
   ·cases hse'
end Go.Proofs.YtfkbkekgnoanaaaDoor
namespace Go.Proofs.YtfkbkekgnoanaaaDoor
open Go Go.RowKit
structure RV where
 p : Int
 g : Int
 q : Int
 wa : Option Addr
 wl : Nat
 wc : Nat
 ws : List Int
 x : WV
abbrev RV.val (r : RV) : Value := .agg #[.int .i64 r.p, .int .i64 r.g, .int .i64 r.q, .slice r.wa r.wl r.wc, .bool r.x.f.z, .int .i64 r.x.f.c, .int .u64 (r.x.f.g : Int), .slice r.x.f.ra r.x.f.rl r.x.f.rc, .slice r.x.f.ca r.x.f.cl r.x.f.cc, .slice r.x.f.pa r.x.f.pl r.x.f.pc]
abbrev RV.ten (r : RV) : List Value := [.int .i64 r.p, .int .i64 r.g, .int .i64 r.q, .slice r.wa r.wl r.wc, .bool r.x.f.z, .int .i64 r.x.f.c, .int .u64 (r.x.f.g : Int), .slice r.x.f.ra r.x.f.rl r.x.f.rc, .slice r.x.f.ca r.x.f.cl r.x.f.cc, .slice r.x.f.pa r.x.f.pl r.x.f.pc]
structure RIn (w : World) (d : Nat) (r : RV) : Prop where
 row : Row w r.wa r.ws
 len : r.ws.length = r.wl
 x : WIn w d r.x
def RRow (w : World) (a : Option Addr) (rs : List RV) : Prop :=
 rs = [] ∨ ∃ b off, a = some ⟨b, off, none⟩ ∧ ∀ (i : Nat) r, rs[i]? = some r → CellsAt w b (off + i * 10) r.ten
structure PV where
 s : SV
 st : Int
 sy : Int
 ra : Option Addr
 rl : Nat
 rc : Nat
 rs : List RV
abbrev PV.val (p : PV) : Value := .agg #[.int .i64 p.s.f.tag, .int .i64 p.s.f.dim, .slice p.s.f.a p.s.f.len p.s.f.cap, .int .i64 p.st, .int .i64 p.sy, .slice p.ra p.rl p.rc]
abbrev PV.six (p : PV) : List Value := [.int .i64 p.s.f.tag, .int .i64 p.s.f.dim, .slice p.s.f.a p.s.f.len p.s.f.cap, .int .i64 p.st, .int .i64 p.sy, .slice p.ra p.rl p.rc]
structure PvIn (w : World) (ds d : Nat) (p : PV) : Prop where
 s : SIn w ds p.s
 row : RRow w p.ra p.rs
 len : p.rs.length = p.rl
 rin : ∀ r ∈ p.rs, RIn w d r
structure CV where
 p : Int
 wa : Option Addr
 wl : Nat
 wc : Nat
 ws : List Int
abbrev CV.val (c : CV) : Value := .agg #[.int .i64 c.p, .slice c.wa c.wl c.wc]
structure CIn (w : World) (c : CV) : Prop where
 row : Row w c.wa c.ws
 len : c.ws.length = c.wl
theorem RIn.below {w w' : World} {d : Nat} {r : RV} (h : RIn w d r) (hb : Below w.heap.size w w') : RIn w' d r := ⟨h.row.below hb, h.len, WIn.below hb h.x⟩
theorem CIn.below {w w' : World} {c : CV} (h : CIn w c) (hb : Below w.heap.size w w') : CIn w' c := ⟨h.row.below hb, h.len⟩
theorem RRow.at_ {w : World} {a : Option Addr} {rs : List RV} (h : RRow w a rs) {i : Nat} {r : RV} (hi : rs[i]? = some r) : ∃ b off, a = some ⟨b, off, none⟩ ∧ CellsAt w b (off + i * 10) r.ten := by
 rcases h with rfl | ⟨b, off, ha, hc⟩
 ·simp at hi
 ·exact ⟨b, off, ha, hc i r hi⟩
theorem RRow.below {w w' : World} {a : Option Addr} {rs : List RV} (h : RRow w a rs) (hb : Below w.heap.size w w') : RRow w' a rs := by
 rcases h with h | ⟨b, off, rfl, hc⟩
 ·exact .inl h
 ·exact .inr ⟨b, off, rfl, fun i r hi => CellsAt.agree (below_agree hb 0) (Nat.zero_le _) (hc i r hi)⟩
theorem PvIn.below {w w' : World} {ds d : Nat} {p : PV} (h : PvIn w ds d p) (hb : Below w.heap.size w w') : PvIn w' ds d p := ⟨SIn.below hb h.s, h.row.below hb, h.len, fun r hr => (h.rin r hr).below hb⟩
theorem Row.at1 {w : World} {a : Option Addr} {zs : List Int} (h : Row w a zs) {i : Nat} (hi : i < zs.length) : ∃ b off y, a = some ⟨b, off, none⟩ ∧ zs[i]? = some y ∧ w.cell? ⟨b, off + i * 1, none⟩ = some (.int .i64 y) := by
 rcases h with rfl | ⟨b, off, ha, hc⟩
 ·simp at hi
 ·refine ⟨b, off, zs[i], ha, by simp [hi], ?_⟩
  rw [Nat.mul_one]
  have := hc i hi
  rw [this]; simp [List.getD, List.getElem?_eq_getElem hi]
def inQ (x n : Int) : Bool := decide (0 ≤ x) && decide (x < n)
def ruleB (st sy : Int) (r : RV) : Bool := inQ r.p st && (inQ r.q st && (inQ r.g sy && (decide (r.wl ≤ 4096) && r.ws.all (fun y => inQ y sy))))
def wtE (s : SV) : List RV → Int
 | [] => 0
 | r :: rs => if chkW s r.x = 0 then wtE s rs else chkW s r.x
theorem wtE_at {s : SV} : ∀ {rs : List RV} {i : Nat} {r : RV}, rs[i]? = some r → (rs.take i).all (fun r => decide (chkW s r.x = 0)) = true → chkW s r.x ≠ 0 → wtE s rs = chkW s r.x
 | [], _, _, h, _, _ => by simp at h
 | a :: rs, 0, r, h, _, hn => by
  simp at h; subst h
  unfold wtE; rw [if_neg hn]
 | a :: rs, i + 1, r, h, ha, hn => by
  simp only [List.take_succ_cons, List.all_cons, Bool.and_eq_true, decide_eq_true_eq] at ha
  unfold wtE; rw [if_pos ha.1]
  exact wtE_at (by simpa using h) ha.2 hn
theorem wtE_all {s : SV} : ∀ {rs : List RV}, rs.all (fun r => decide (chkW s r.x = 0)) = true → wtE s rs = 0
 | [], _ => rfl
 | a :: rs, h => by
  simp only [List.all_cons, Bool.and_eq_true, decide_eq_true_eq] at h
  unfold wtE; rw [if_pos h.1]
  exact wtE_all h.2
def pdsE (p : PV) : Int :=
 if spaceE p.s ≠ 0 then spaceE p.s else if 16384 < p.rl then 3 else if p.st < 0 ∨ 4096 < p.st ∨ p.sy < 0 ∨ 4096 < p.sy then 110 else if p.rs.all (ruleB p.st p.sy) then wtE p.s p.rs else 110
def confB (p : PV) (c : CV) : Bool := inQ c.p p.st && (decide (c.wl ≤ 4096) && c.ws.all (fun y => inQ y p.sy))
def stepE (p : PV) (c : CV) : Int := if pdsE p ≠ 0 then pdsE p else if confB p c then 0 else 120
end Go.Proofs.YtfkbkekgnoanaaaDoor
namespace Go.Proofs.YtfkbkekgnoanaaaDoor
open Go Go.RowKit
theorem checkAllW_oneY (ds da : Nat) (s : SV) (x : WV) (w : World) (hs : SIn w ds s) (hx : WIn w da x) (b : Nat) (hb0 : CellsAt w b 0 x.f.six) :
  Calls Tryd.prog 60 #[s.f.val, .slice (some ⟨b, 0, none⟩) 1 1] w (fun e w' => e = .returned (.int .i64 (chkW s x)) ∧ Below w.heap.size w w') := by
 refine enterF (args := [s.f.val, .slice (some ⟨b, 0, none⟩) 1 1]) Tryd.func60 rfl Tryd.ntmps60 rfl ?_
 have hS := St.start w
 refine seqF (regF ?_)
 refine op_box (cs := [_, _, _]) hS rfl rfl rfl ?_
 clear hS; intro B1 W1 hS
 refine op_assign rfl rfl ?_
 refine endF (XF.thenN ?_)
 refine seqF ?_
 refine seqF (regF ?_)
 refine op_loadA (vs := [_, _, _]) Tryd.isAgg25 Tryd.sizeOf25 rfl (CellsAt.own (j := 0) (m := 3) (hS.at_ 0 rfl) rfl) rfl ?_
 refine op_call (vs := [_]) hS goes_51 rfl (spaceA_is ds s _ _ (SIn.below hS.below hs) rfl) rfl ?_
 rintro e W2 ⟨rfl, hb⟩
 refine ⟨_, rfl, hb, fun hS' => ?_⟩
 clear hS; have hS := hS'; clear hS' hb
 refine op_assign rfl rfl ?_
 refine endF (XF.thenN ?_)
 refine seqF (regF ?_)
 refine op_move rfl rfl ?_
 refine op_neq rfl rfl rfl ?_
 refine endF (XF.thenN ?_)
 refine condF rfl (fun hc => ?_) (fun hc => ?_)
 ·have hc11 := of_decide_eq_true hc; clear hc
  refine seqF (regF ?_)
  refine op_move rfl rfl ?_
  refine op_assign rfl rfl ?_
  refine endF (XF.thenN ?_)
  refine retF ?_
  refine XF.thenR ?_
  refine XF.res (res1 Tryd.results60 rfl) ?_
  exact ⟨rint (by unfold chkW; rw [if_neg hc11]), hS.below⟩
 ·have hc11 := of_decide_eq_false hc; clear hc
  have hse : spaceE s = 0 := by omega
  refine skipF ?_
  refine XF.thenN ?_
  refine seqF ?_
  refine seqF (regF ?_)
  refine op_move rfl rfl ?_
  refine op_len Tryd.underlying45 rfl rfl ?_
  refine op_move rfl rfl ?_
  refine endF (XF.thenN ?_)
  refine blockF ?_
  refine loopF (fun q l W => ∃ k : Nat, k ≤ 1 ∧ q = 1 - k ∧ l = [(2, .pointer (some ⟨B1, 0, none⟩)), (13, .slice (some ⟨b, 0, none⟩) 1 1), (14, .int .i64 1), (15, .int .i64 (k : Int))] ∧ (1 ≤ k → okW s x = true) ∧ St w [(B1, [.int .i64 s.f.tag, .int .i64 s.f.dim, .slice s.f.a s.f.len s.f.cap], 25)] [] [] W) (1 - 0) ([(2, _), (13, _), (14, _), (15, _)]) ⟨rfl, rfl, rfl, rfl, trivial⟩ (⟨0, Nat.zero_le _, rfl, rfl, fun h => by omega, hS.clear⟩) ?_
  clear hS
  rintro q l W ⟨k, hk1, rfl, rfl, hok, hS⟩
  refine seqF (regF ?_)
  refine op_lss rfl rfl rfl ?_
  refine endF (XF.thenN ?_)
  refine seqF ?_
  refine condF rfl (fun hc => ?_) (fun hc => ?_)
  ·have hc16 := of_decide_eq_true hc; clear hc
   obtain rfl : k = 0 := by omega
   have k1 := CellsAt.agree hS.agree (Nat.zero_le _) hb0
   refine skipF ?_
   refine XF.thenN ?_
   refine seqF ?_
   refine blockF ?_
   refine seqF (regF ?_)
   refine op_indexA  Tryd.underlying45 Tryd.sizeOf47 rfl rfl rfl (by omega) rfl rfl ?_
   refine op_loadA (vs := [_, _, _, _, _, _]) Tryd.isAgg47 Tryd.sizeOf47 rfl (by assumption) rfl ?_
   refine op_alloc (cs := [_, _, _, _, _, _]) hS Tryd.zeroValue47 rfl rfl ?_
   clear hS; intro B3 W3 hS
   refine op_storeA (i := 0) (vs := [_, _, _, _, _, _]) (cs' := [_, _, _, _, _, _]) (O' := [_, _]) hS Tryd.sizeOf47 rfl rfl rfl rfl rfl rfl rfl ?_
   clear hS; intro W4 hS
   refine endF (XF.thenN ?_)
   refine seqF (regF ?_)
   refine op_loadA (vs := [_, _, _]) Tryd.isAgg25 Tryd.sizeOf25 rfl (CellsAt.own (j := 0) (m := 3) (hS.at_ 1 rfl) rfl) rfl ?_
   refine op_loadA (vs := [_, _, _, _, _, _]) Tryd.isAgg47 Tryd.sizeOf47 rfl (CellsAt.own (j := 0) (m := 6) (hS.at_ 0 rfl) rfl) rfl ?_
   refine op_call (vs := [_, _]) hS goes_78 rfl (isA_genY (SIn.below hS.below hs) hse (WIn.below hS.below hx)) rfl ?_
   rintro e W5 ⟨rfl, hb⟩
   refine ⟨_, rfl, hb, fun hS' => ?_⟩
   clear hS; have hS := hS'; clear hS' hb
   refine op_not rfl rfl ?_
   refine endF (XF.thenN ?_)
   refine condF rfl (fun hc => ?_) (fun hc => ?_)
   ·have hc22 := hc; clear hc
    refine seqF (regF ?_)
    refine op_assign rfl rfl ?_
    refine endF (XF.thenN ?_)
    refine retF ?_
    refine XF.blkR ?_
    refine XF.thenR ?_
    refine XF.thenR ?_
    refine XF.blkR ?_
    refine XF.thenR ?_
    refine XF.res (res1 Tryd.results60 rfl) ?_
    exact ⟨rint (by unfold chkW; rw [if_pos hse, if_neg (by simpa using hc22)]), hS.below⟩
   ·have hc22 := hc; clear hc
    refine skipF ?_
    refine XF.blkN ?_
    refine XF.thenN ?_
    refine regF ?_
    refine op_add rfl rfl (IntWalk.i64_in _ (by omega)) rfl ?_
    refine op_move rfl rfl ?_
    refine endF ?_
    exact XF.round (1 - 1) [(2, _), (13, _), (14, _), (15, _)] (by omega) ⟨rfl, rfl, rfl, rfl, trivial⟩ ⟨1, by omega, rfl, rfl, fun _ => by simpa using hc22, hS.tail.clear⟩
  ·have hc16 := of_decide_eq_false hc; clear hc
   refine exitF ?_
   refine XF.thenX ?_
   refine XF.thenX ?_
   refine XF.blkX ?_
   refine XF.thenN ?_
   refine seqF (regF ?_)
   refine op_assign rfl rfl ?_
   refine endF (XF.thenN ?_)
   refine retF ?_
   refine XF.res (res1 Tryd.results60 rfl) ?_
   exact ⟨rint (by unfold chkW; rw [if_pos hse, if_pos (hok (by omega))]), hS.below⟩
theorem checkA_genY (ds da : Nat) (s : SV) (x : WV) (w : World) (hs : SIn w ds s) (hx : WIn w da x) :
  Calls Tryd.prog 53 #[s.f.val, x.f.val] w (fun e w' => e = .returned (.int .i64 (chkW s x)) ∧ Below w.heap.size w w') := by
 refine enterF (args := [s.f.val, x.f.val]) Tryd.func53 rfl Tryd.ntmps53 rfl ?_
 have hS := St.start w
 refine seqF (regF ?_)
 refine op_box (cs := [_, _, _]) hS rfl rfl rfl ?_
 clear hS; intro B1 W1 hS
 refine op_box (cs := [_, _, _, _, _, _]) hS rfl rfl rfl ?_
 clear hS; intro B2 W2 hS
 refine op_assign rfl rfl ?_
 refine endF (XF.thenN ?_)
 refine seqF (regF ?_)
 refine op_loadA (vs := [_, _, _]) Tryd.isAgg25 Tryd.sizeOf25 rfl (CellsAt.own (j := 0) (m := 3) (hS.at_ 1 rfl) rfl) rfl ?_
 refine op_loadA (vs := [_, _, _, _, _, _]) Tryd.isAgg47 Tryd.sizeOf47 rfl (CellsAt.own (j := 0) (m := 6) (hS.at_ 0 rfl) rfl) rfl ?_
 refine op_buildSlice (us := [(0, .agg (List.toArray [_, _, _, _, _, _]))]) hS Tryd.underlying45 Tryd.sizeOf47 Tryd.zeroValue47 rfl rfl rfl (bs_45_1 _ _ _ _ _ _) rfl ?_
 clear hS; intro B3 W3 hS
 refine op_call (vs := [_, _]) hS goes_60 rfl (checkAllW_oneY ds da s x _ (SIn.below hS.below hs) (WIn.below hS.below hx) _ (CellsAt.own (j := 0) (m := 6) (hS.at_ 0 rfl) rfl)) rfl ?_
 rintro e W4 ⟨rfl, hb⟩
 refine ⟨_, rfl, hb, fun hS' => ?_⟩
 clear hS; have hS := hS'; clear hS' hb
 refine op_assign rfl rfl ?_
 refine endF (XF.thenN ?_)
 refine retF ?_
 refine XF.res (res1 Tryd.results53 rfl) ?_
 exact ⟨rfl, hS.below⟩
theorem isState_is (P0 : PV) (n : Int) (w : World) :
  Calls Tryd.prog 71 #[P0.val, .int .i64 n] w (fun e w' => e = .returned (.bool (inQ n P0.st)) ∧ Below w.heap.size w w') := by
 refine enterF (args := [P0.val, .int .i64 n]) Tryd.func71 rfl Tryd.ntmps71 rfl ?_
 have hS := St.start w
 refine seqF (regF ?_)
 refine op_box (cs := [_, _, _, _, _, _]) hS rfl rfl rfl ?_
 clear hS; intro B1 W1 hS
 refine op_assign rfl rfl ?_
 refine endF (XF.thenN ?_)
 refine seqF (regF ?_)
 refine op_move rfl rfl ?_
 refine op_geq rfl rfl rfl ?_
 refine op_move rfl rfl ?_
 refine op_cases (d := 7) rfl (fun hc => ?_) (fun hc => ?_)
 ·have hg7 := of_decide_eq_true hc; clear hc
  refine op_wantedF (d := 7) rfl rfl ?_
  refine op_move rfl rfl ?_
  refine op_wantedF (d := 7) rfl rfl ?_
  refine op_field (o' := 3) fa_28_1 rfl rfl rfl ?_
  refine op_wantedF (d := 7) rfl rfl ?_
  refine op_load Tryd.isAgg3 rfl (cell_own (hS.at_ 0 rfl) rfl) rfl ?_
  refine op_wantedF (d := 7) rfl rfl ?_
  refine op_lss rfl rfl rfl ?_
  refine op_pickT rfl rfl rfl ?_
  refine op_assign rfl rfl ?_
  refine endF (XF.thenN ?_)
  refine retF ?_
  refine XF.res (res1 Tryd.results71 rfl) ?_
  exact ⟨rbool (by simp [inQ, show 0 ≤ n from hg7]), hS.below⟩
 ·have hg7 := of_decide_eq_false hc; clear hc
  refine op_notF (d := 7) rfl rfl rfl rfl ?_
  refine op_notF (d := 7) rfl rfl rfl rfl ?_
  refine op_notF (d := 7) rfl rfl rfl rfl ?_
  refine op_notF (d := 7) rfl rfl rfl rfl ?_
  refine op_pickF rfl rfl rfl ?_
  refine op_assign rfl rfl ?_
  refine endF (XF.thenN ?_)
  refine retF ?_
  refine XF.res (res1 Tryd.results71 rfl) ?_
  exact ⟨rbool (by simp [inQ]; omega), hS.below⟩
theorem isSymbol_is (P0 : PV) (n : Int) (w : World) :
  Calls Tryd.prog 72 #[P0.val, .int .i64 n] w (fun e w' => e = .returned (.bool (inQ n P0.sy)) ∧ Below w.heap.size w w') := by
 refine enterF (args := [P0.val, .int .i64 n]) Tryd.func72 rfl Tryd.ntmps72 rfl ?_
 have hS := St.start w
 refine seqF (regF ?_)
 refine op_box (cs := [_, _, _, _, _, _]) hS rfl rfl rfl ?_
 clear hS; intro B1 W1 hS
 refine op_assign rfl rfl ?_
 refine endF (XF.thenN ?_)
 refine seqF (regF ?_)
 refine op_move rfl rfl ?_
 refine op_geq rfl rfl rfl ?_
 refine op_move rfl rfl ?_
 refine op_cases (d := 7) rfl (fun hc => ?_) (fun hc => ?_)
 ·have hg7 := of_decide_eq_true hc; clear hc
  refine op_wantedF (d := 7) rfl rfl ?_
  refine op_move rfl rfl ?_
  refine op_wantedF (d := 7) rfl rfl ?_
  refine op_field (o' := 4) fa_28_2 rfl rfl rfl ?_
  refine op_wantedF (d := 7) rfl rfl ?_
  refine op_load Tryd.isAgg3 rfl (cell_own (hS.at_ 0 rfl) rfl) rfl ?_
  refine op_wantedF (d := 7) rfl rfl ?_
  refine op_lss rfl rfl rfl ?_
  refine op_pickT rfl rfl rfl ?_
  refine op_assign rfl rfl ?_
  refine endF (XF.thenN ?_)
  refine retF ?_
  refine XF.res (res1 Tryd.results72 rfl) ?_
  exact ⟨rbool (by simp [inQ, show 0 ≤ n from hg7]), hS.below⟩
 ·have hg7 := of_decide_eq_false hc; clear hc
  refine op_notF (d := 7) rfl rfl rfl rfl ?_
  refine op_notF (d := 7) rfl rfl rfl rfl ?_
  refine op_notF (d := 7) rfl rfl rfl rfl ?_
  refine op_notF (d := 7) rfl rfl rfl rfl ?_
  refine op_pickF rfl rfl rfl ?_
  refine op_assign rfl rfl ?_
  refine endF (XF.thenN ?_)
  refine retF ?_
  refine XF.res (res1 Tryd.results72 rfl) ?_
  exact ⟨rbool (by simp [inQ]; omega), hS.below⟩
theorem ruleA_c (P0 : PV) (p g q : Int) (wa : Option Addr) (wl wc : Nat) (ws : List Int) (x : WV) (w : World) (hrow : Row w wa ws) (hlen : ws.length = wl) :
  Calls Tryd.prog 52 #[P0.val, .agg #[.int .i64 p, .int .i64 g, .int .i64 q, .slice wa wl wc, .bool x.f.z, .int .i64 x.f.c, .int .u64 (x.f.g : Int), .slice x.f.ra x.f.rl x.f.rc, .slice x.f.ca x.f.cl x.f.cc, .slice x.f.pa x.f.pl x.f.pc]] w (fun e w' => e = .returned (.bool (ruleB P0.st P0.sy ⟨p, g, q, wa, wl, wc, ws, x⟩)) ∧ Below w.heap.size w w') := by
 refine enterF (args := [P0.val, .agg #[.int .i64 p, .int .i64 g, .int .i64 q, .slice wa wl wc, .bool x.f.z, .int .i64 x.f.c, .int .u64 (x.f.g : Int), .slice x.f.ra x.f.rl x.f.rc, .slice x.f.ca x.f.cl x.f.cc, .slice x.f.pa x.f.pl x.f.pc]]) Tryd.func52 rfl Tryd.ntmps52 rfl ?_
 have hS := St.start w
 refine seqF (regF ?_)
 refine op_box (cs := [_, _, _, _, _, _]) hS rfl rfl rfl ?_
 clear hS; intro B1 W1 hS
 refine op_box (cs := [_, _, _, _, _, _, _, _, _, _]) hS rfl rfl rfl ?_
 clear hS; intro B2 W2 hS
 refine op_assign rfl rfl ?_
 refine endF (XF.thenN ?_)
 refine seqF ?_
 refine seqF (regF ?_)
 refine op_loadA (vs := [_, _, _, _, _, _]) Tryd.isAgg28 Tryd.sizeOf28 rfl (CellsAt.own (j := 0) (m := 6) (hS.at_ 1 rfl) rfl) rfl ?_
 refine op_field (o' := 0) fa_69_0 rfl rfl rfl ?_
 refine op_load Tryd.isAgg3 rfl (cell_own (hS.at_ 0 rfl) rfl) rfl ?_
 refine op_call (vs := [_, _]) hS goes_71 rfl (isState_is P0 p _) rfl ?_
 rintro e W3 ⟨rfl, hb⟩
 refine ⟨_, rfl, hb, fun hS' => ?_⟩
 clear hS; have hS := hS'; clear hS' hb
 refine op_not rfl rfl ?_
 refine op_move rfl rfl ?_
 refine op_cases (d := 12) rfl (fun hc => ?_) (fun hc => ?_)
 ·have hg12 := hc; clear hc
  have e1 : inQ p P0.st = false := by simpa using hg12
  refine op_notF (d := 12) rfl rfl rfl rfl ?_
  refine op_notF (d := 12) rfl rfl rfl rfl ?_
  refine op_notF (d := 12) rfl rfl rfl rfl ?_
  refine op_notF (d := 12) rfl rfl rfl rfl ?_
  refine op_notF (d := 12) rfl rfl rfl rfl ?_
  refine op_pickT rfl rfl rfl ?_
  refine op_move rfl rfl ?_
  refine op_notF (d := 19) rfl rfl rfl rfl ?_
  refine op_notF (d := 19) rfl rfl rfl rfl ?_
  refine op_notF (d := 19) rfl rfl rfl rfl ?_
  refine op_notF (d := 19) rfl rfl rfl rfl ?_
  refine op_notF (d := 19) rfl rfl rfl rfl ?_
  refine op_pickT rfl rfl rfl ?_
  refine op_move rfl rfl ?_
  refine op_notF (d := 26) rfl rfl rfl rfl ?_
  refine op_notF (d := 26) rfl rfl rfl rfl ?_
  refine op_notF (d := 26) rfl rfl rfl rfl ?_
  refine op_notF (d := 26) rfl rfl rfl rfl ?_
  refine op_pickT rfl rfl rfl ?_
  refine endF (XF.thenN ?_)
  refine condT rfl ?_
  refine seqF (regF ?_)
  refine op_assign rfl rfl ?_
  refine endF (XF.thenN ?_)
  refine retF ?_
  refine XF.thenR ?_
  refine XF.res (res1 Tryd.results52 rfl) ?_
  exact ⟨rbool (by simp [ruleB, e1]), hS.below⟩
 ·have hg12 := hc; clear hc
  have e1 : inQ p P0.st = true := by simpa using hg12
  refine op_wantedF (d := 12) rfl rfl ?_
  refine op_loadA (vs := [_, _, _, _, _, _]) Tryd.isAgg28 Tryd.sizeOf28 rfl (CellsAt.own (j := 0) (m := 6) (hS.at_ 1 rfl) rfl) rfl ?_
  refine op_wantedF (d := 12) rfl rfl ?_
  refine op_field (o' := 2) fa_69_2 rfl rfl rfl ?_
  refine op_wantedF (d := 12) rfl rfl ?_
  refine op_load Tryd.isAgg3 rfl (cell_own (hS.at_ 0 rfl) rfl) rfl ?_
  refine op_wantedF (d := 12) rfl rfl ?_
  refine op_call (vs := [_, _]) hS goes_71 rfl (isState_is P0 q _) rfl ?_
  rintro e W4 ⟨rfl, hb⟩
  refine ⟨_, rfl, hb, fun hS' => ?_⟩
  clear hS; have hS := hS'; clear hS' hb
  refine op_wantedF (d := 12) rfl rfl ?_
  refine op_not rfl rfl ?_
  refine op_pickF rfl rfl rfl ?_
  refine op_move rfl rfl ?_
  refine op_cases (d := 19) rfl (fun hc => ?_) (fun hc => ?_)
  ·have hg19 := hc; clear hc
   have e2 : inQ q P0.st = false := by simpa using hg19
   refine op_notF (d := 19) rfl rfl rfl rfl ?_
   refine op_notF (d := 19) rfl rfl rfl rfl ?_
   refine op_notF (d := 19) rfl rfl rfl rfl ?_
   refine op_notF (d := 19) rfl rfl rfl rfl ?_
   refine op_notF (d := 19) rfl rfl rfl rfl ?_
   refine op_pickT rfl rfl rfl ?_
   refine op_move rfl rfl ?_
   refine op_notF (d := 26) rfl rfl rfl rfl ?_
   refine op_notF (d := 26) rfl rfl rfl rfl ?_
   refine op_notF (d := 26) rfl rfl rfl rfl ?_
   refine op_notF (d := 26) rfl rfl rfl rfl ?_
   refine op_pickT rfl rfl rfl ?_
   refine endF (XF.thenN ?_)
   refine condT rfl ?_
   refine seqF (regF ?_)
   refine op_assign rfl rfl ?_
   refine endF (XF.thenN ?_)
   refine retF ?_
   refine XF.thenR ?_
   refine XF.res (res1 Tryd.results52 rfl) ?_
   exact ⟨rbool (by simp [ruleB, e1, e2]), hS.below⟩
  ·have hg19 := hc; clear hc
   have e2 : inQ q P0.st = true := by simpa using hg19
   refine op_wantedF (d := 19) rfl rfl ?_
   refine op_loadA (vs := [_, _, _, _, _, _]) Tryd.isAgg28 Tryd.sizeOf28 rfl (CellsAt.own (j := 0) (m := 6) (hS.at_ 1 rfl) rfl) rfl ?_
   refine op_wantedF (d := 19) rfl rfl ?_
   refine op_field (o' := 1) fa_69_1 rfl rfl rfl ?_
   refine op_wantedF (d := 19) rfl rfl ?_
   refine op_load Tryd.isAgg3 rfl (cell_own (hS.at_ 0 rfl) rfl) rfl ?_
   refine op_wantedF (d := 19) rfl rfl ?_
   refine op_call (vs := [_, _]) hS goes_72 rfl (isSymbol_is P0 g _) rfl ?_
   rintro e W5 ⟨rfl, hb⟩
   refine ⟨_, rfl, hb, fun hS' => ?_⟩
   clear hS; have hS := hS'; clear hS' hb
   refine op_wantedF (d := 19) rfl rfl ?_
   refine op_not rfl rfl ?_
   refine op_pickF rfl rfl rfl ?_
   refine op_move rfl rfl ?_
   refine op_cases (d := 26) rfl (fun hc => ?_) (fun hc => ?_)
   ·have hg26 := hc; clear hc
    have e3 : inQ g P0.sy = false := by simpa using hg26
    refine op_notF (d := 26) rfl rfl rfl rfl ?_
    refine op_notF (d := 26) rfl rfl rfl rfl ?_
    refine op_notF (d := 26) rfl rfl rfl rfl ?_
    refine op_notF (d := 26) rfl rfl rfl rfl ?_
    refine op_pickT rfl rfl rfl ?_
    refine endF (XF.thenN ?_)
    refine condT rfl ?_
    refine seqF (regF ?_)
    refine op_assign rfl rfl ?_
    refine endF (XF.thenN ?_)
    refine retF ?_
    refine XF.thenR ?_
    refine XF.res (res1 Tryd.results52 rfl) ?_
    exact ⟨rbool (by simp [ruleB, e1, e2, e3]), hS.below⟩
   ·have hg26 := hc; clear hc
    have e3 : inQ g P0.sy = true := by simpa using hg26
    refine op_wantedF (d := 26) rfl rfl ?_
    refine op_field (o' := 3) fa_69_3 rfl rfl rfl ?_
    refine op_wantedF (d := 26) rfl rfl ?_
    refine op_load Tryd.isAgg29 rfl (cell_own (hS.at_ 0 rfl) rfl) rfl ?_
    refine op_wantedF (d := 26) rfl rfl ?_
    refine op_len Tryd.underlying29 rfl rfl ?_
    refine op_wantedF (d := 26) rfl rfl ?_
    refine op_gtr rfl rfl rfl ?_
    refine op_pickF rfl rfl rfl ?_
    refine endF (XF.thenN ?_)
    refine condF rfl (fun hc => ?_) (fun hc => ?_)
    ·have hc31 := of_decide_eq_true hc; clear hc
     have e4 : decide (wl ≤ 4096) = false := by simp; omega
     refine seqF (regF ?_)
     refine op_assign rfl rfl ?_
     refine endF (XF.thenN ?_)
     refine retF ?_
     refine XF.thenR ?_
     refine XF.res (res1 Tryd.results52 rfl) ?_
     exact ⟨rbool (by simp [ruleB, e1, e2, e3, e4]), hS.below⟩
    ·have hc31 := of_decide_eq_false hc; clear hc
     have e4 : decide (wl ≤ 4096) = true := by simp; omega
     refine skipF ?_
     refine XF.thenN ?_
     refine seqF ?_
     refine seqF (regF ?_)
     refine op_field (o' := 3) fa_69_3 rfl rfl rfl ?_
     refine op_load Tryd.isAgg29 rfl (cell_own (hS.at_ 0 rfl) rfl) rfl ?_
     refine op_len Tryd.underlying29 rfl rfl ?_
     refine op_move rfl rfl ?_
     refine endF (XF.thenN ?_)
     refine blockF ?_
     refine loopF (fun m l W => ∃ i : Nat, i ≤ wl ∧ m = wl - i ∧ l = [(2, .pointer (some ⟨B1, 0, none⟩)), (33, .slice wa wl wc), (34, .int .i64 (wl : Int)), (35, .int .i64 (i : Int))] ∧ (ws.take i).all (fun y => inQ y P0.sy) = true ∧ St w [(B2, [.int .i64 p, .int .i64 g, .int .i64 q, .slice wa wl wc, .bool x.f.z, .int .i64 x.f.c, .int .u64 (x.f.g : Int), .slice x.f.ra x.f.rl x.f.rc, .slice x.f.ca x.f.cl x.f.cc, .slice x.f.pa x.f.pl x.f.pc], 69), (B1, P0.six, 28)] [] [] W) (wl - 0) ([(2, _), (33, _), (34, _), (35, _)]) ⟨rfl, rfl, rfl, rfl, trivial⟩ (⟨0, Nat.zero_le _, rfl, rfl, rfl, hS.clear⟩) ?_
     clear hS
     rintro m l W ⟨i, hi, rfl, rfl, hall, hS⟩
     refine seqF (regF ?_)
     refine op_lss rfl rfl rfl ?_
     refine endF (XF.thenN ?_)
     refine seqF ?_
     refine condF rfl (fun hc => ?_) (fun hc => ?_)
     ·have hc36 := of_decide_eq_true hc; clear hc
      have hk : i < wl := by omega
      obtain ⟨b, off, y, rfl, hy, hyc⟩ := hrow.at1 (show i < ws.length by omega)
      have k1 := hS.old hyc
      refine skipF ?_
      refine XF.thenN ?_
      refine seqF ?_
      refine blockF ?_
      refine seqF (regF ?_)
      refine op_indexA  Tryd.underlying29 Tryd.sizeOf3 rfl rfl rfl (by omega) rfl rfl ?_
      refine op_load Tryd.isAgg3 rfl (by first | assumption | exact hS.old (by assumption)) rfl ?_
      refine op_assign rfl rfl ?_
      refine endF (XF.thenN ?_)
      refine seqF (regF ?_)
      refine op_loadA (vs := [_, _, _, _, _, _]) Tryd.isAgg28 Tryd.sizeOf28 rfl (CellsAt.own (j := 0) (m := 6) (hS.at_ 1 rfl) rfl) rfl ?_
      refine op_move rfl rfl ?_
      refine op_call (vs := [_, _]) hS goes_72 rfl (isSymbol_is P0 y _) rfl ?_
      rintro e W6 ⟨rfl, hb⟩
      refine ⟨_, rfl, hb, fun hS' => ?_⟩
      clear hS; have hS := hS'; clear hS' hb
      refine op_not rfl rfl ?_
      refine endF (XF.thenN ?_)
      refine condF rfl (fun hc => ?_) (fun hc => ?_)
      ·have hc42 := hc; clear hc
       refine seqF (regF ?_)
       refine op_assign rfl rfl ?_
       refine endF (XF.thenN ?_)
       refine retF ?_
       refine XF.blkR ?_
       refine XF.thenR ?_
       refine XF.thenR ?_
       refine XF.blkR ?_
       refine XF.thenR ?_
       refine XF.res (res1 Tryd.results52 rfl) ?_
       exact ⟨rbool (by simp only [ruleB]; rw [all_false_at hy (by simpa using hc42)]; simp), hS.below⟩
      ·have hc42 := hc; clear hc
       refine skipF ?_
       refine XF.blkN ?_
       refine XF.thenN ?_
       refine regF ?_
       refine op_add rfl rfl (IntWalk.i64_in _ (by omega)) rfl ?_
       refine op_move rfl rfl ?_
       refine endF ?_
       exact XF.round (wl - (i + 1)) [(2, _), (33, _), (34, _), (35, _)] (by omega) ⟨rfl, rfl, rfl, rfl, trivial⟩ ⟨i + 1, by omega, rfl, rfl, all_take_at hy hall (by simpa using hc42), hS.clear⟩
     ·have hc36 := of_decide_eq_false hc; clear hc
      refine exitF ?_
      refine XF.thenX ?_
      refine XF.thenX ?_
      refine XF.blkX ?_
      refine XF.thenN ?_
      refine seqF (regF ?_)
      refine op_assign rfl rfl ?_
      refine endF (XF.thenN ?_)
      refine retF ?_
      refine XF.res (res1 Tryd.results52 rfl) ?_
      rw [List.take_of_length_le (by omega)] at hall
      exact ⟨rbool (by simp [ruleB, e1, e2, e3, e4, hall]), hS.below⟩
theorem ruleA_is {w : World} {d : Nat} (P0 : PV) {r : RV} (h : RIn w d r) : Calls Tryd.prog 52 #[P0.val, r.val] w (fun e w' => e = .returned (.bool (ruleB P0.st P0.sy r)) ∧ Below w.heap.size w w') := ruleA_c P0 _ _ _ _ _ _ _ _ w h.row h.len
end Go.Proofs.YtfkbkekgnoanaaaDoor
namespace Go.Proofs.YtfkbkekgnoanaaaDoor
open Go Go.RowKit
theorem pdsA_c (ds d : Nat) (s : SV) (st sy : Int) (ra : Option Addr) (rl rc : Nat) (rs : List RV) (w : World) (hs : SIn w ds s) (hrow : RRow w ra rs) (hlen : rs.length = rl) (hin : ∀ r ∈ rs, RIn w d r) :
  Calls Tryd.prog 38 #[.agg #[.int .i64 s.f.tag, .int .i64 s.f.dim, .slice s.f.a s.f.len s.f.cap, .int .i64 st, .int .i64 sy, .slice ra rl rc]] w (fun e w' => e = .returned (.int .i64 (pdsE ⟨s, st, sy, ra, rl, rc, rs⟩)) ∧ Below w.heap.size w w') := by
 refine enterF (args := [.agg #[.int .i64 s.f.tag, .int .i64 s.f.dim, .slice s.f.a s.f.len s.f.cap, .int .i64 st, .int .i64 sy, .slice ra rl rc]]) Tryd.func38 rfl Tryd.ntmps38 rfl ?_
 have hS := St.start w
 refine seqF (regF ?_)
 refine op_box (cs := [_, _, _, _, _, _]) hS rfl rfl rfl ?_
 clear hS; intro B1 W1 hS
 refine op_assign rfl rfl ?_
 refine endF (XF.thenN ?_)
 refine seqF ?_
 refine seqF (regF ?_)
 refine op_field (o' := 0) fa_28_0 rfl rfl rfl ?_
 refine op_loadA (vs := [_, _, _]) Tryd.isAgg25 Tryd.sizeOf25 rfl (CellsAt.own (j := 0) (m := 3) (hS.at_ 0 rfl) rfl) rfl ?_
 refine op_call (vs := [_]) hS goes_51 rfl (spaceA_is ds s _ _ (SIn.below hS.below hs) rfl) rfl ?_
 rintro e W2 ⟨rfl, hb⟩
 refine ⟨_, rfl, hb, fun hS' => ?_⟩
 clear hS; have hS := hS'; clear hS' hb
 refine op_assign rfl rfl ?_
 refine endF (XF.thenN ?_)
 refine seqF (regF ?_)
 refine op_move rfl rfl ?_
 refine op_neq rfl rfl rfl ?_
 refine endF (XF.thenN ?_)
 refine condF rfl (fun hc => ?_) (fun hc => ?_)
 ·have hc13 := of_decide_eq_true hc; clear hc
  refine seqF (regF ?_)
  refine op_move rfl rfl ?_
  refine op_assign rfl rfl ?_
  refine endF (XF.thenN ?_)
  refine retF ?_
  refine XF.thenR ?_
  refine XF.res (res1 Tryd.results38 rfl) ?_
  exact ⟨rint (by simp only [pdsE]; rw [if_pos hc13]), hS.below⟩
 ·have hc13 := of_decide_eq_false hc; clear hc
  have h0 : ¬ spaceE s ≠ 0 := hc13
  refine skipF ?_
  refine XF.thenN ?_
  refine seqF ?_
  refine seqF (regF ?_)
  refine op_field (o' := 5) fa_28_3 rfl rfl rfl ?_
  refine op_load Tryd.isAgg26 rfl (cell_own (hS.at_ 0 rfl) rfl) rfl ?_
  refine op_len Tryd.underlying26 rfl rfl ?_
  refine op_gtr rfl rfl rfl ?_
  refine endF (XF.thenN ?_)
  refine condF rfl (fun hc => ?_) (fun hc => ?_)
  ·have hc18 := of_decide_eq_true hc; clear hc
   refine seqF (regF ?_)
   refine op_assign rfl rfl ?_
   refine endF (XF.thenN ?_)
   refine retF ?_
   refine XF.thenR ?_
   refine XF.res (res1 Tryd.results38 rfl) ?_
   exact ⟨rint (by simp only [pdsE]; rw [if_neg h0, if_pos (by omega)]), hS.below⟩
  ·have hc18 := of_decide_eq_false hc; clear hc
   have h1 : ¬ 16384 < rl := by omega
   refine skipF ?_
   refine XF.thenN ?_
   refine seqF ?_
   refine seqF (regF ?_)
   refine op_field (o' := 3) fa_28_1 rfl rfl rfl ?_
   refine op_load Tryd.isAgg3 rfl (cell_own (hS.at_ 0 rfl) rfl) rfl ?_
   refine op_lss rfl rfl rfl ?_
   refine op_move rfl rfl ?_
   refine op_cases (d := 22) rfl (fun hc => ?_) (fun hc => ?_)
   ·have hg22 := of_decide_eq_true hc; clear hc
    refine op_notF (d := 22) rfl rfl rfl rfl ?_
    refine op_notF (d := 22) rfl rfl rfl rfl ?_
    refine op_notF (d := 22) rfl rfl rfl rfl ?_
    refine op_pickT rfl rfl rfl ?_
    refine op_move rfl rfl ?_
    refine op_notF (d := 27) rfl rfl rfl rfl ?_
    refine op_notF (d := 27) rfl rfl rfl rfl ?_
    refine op_notF (d := 27) rfl rfl rfl rfl ?_
    refine op_pickT rfl rfl rfl ?_
    refine op_move rfl rfl ?_
    refine op_notF (d := 32) rfl rfl rfl rfl ?_
    refine op_notF (d := 32) rfl rfl rfl rfl ?_
    refine op_notF (d := 32) rfl rfl rfl rfl ?_
    refine op_pickT rfl rfl rfl ?_
    refine endF (XF.thenN ?_)
    refine condT rfl ?_
    refine seqF (regF ?_)
    refine op_assign rfl rfl ?_
    refine endF (XF.thenN ?_)
    refine retF ?_
    refine XF.thenR ?_
    refine XF.res (res1 Tryd.results38 rfl) ?_
    exact ⟨rint (by simp only [pdsE]; rw [if_neg h0, if_neg h1, if_pos (by omega)]), hS.below⟩
   ·have hg22 := of_decide_eq_false hc; clear hc
    refine op_wantedF (d := 22) rfl rfl ?_
    refine op_field (o' := 3) fa_28_1 rfl rfl rfl ?_
    refine op_wantedF (d := 22) rfl rfl ?_
    refine op_load Tryd.isAgg3 rfl (cell_own (hS.at_ 0 rfl) rfl) rfl ?_
    refine op_wantedF (d := 22) rfl rfl ?_
    refine op_gtr rfl rfl rfl ?_
    refine op_pickF rfl rfl rfl ?_
    refine op_move rfl rfl ?_
    refine op_cases (d := 27) rfl (fun hc => ?_) (fun hc => ?_)
    ·have hg27 := of_decide_eq_true hc; clear hc
     refine op_notF (d := 27) rfl rfl rfl rfl ?_
     refine op_notF (d := 27) rfl rfl rfl rfl ?_
     refine op_notF (d := 27) rfl rfl rfl rfl ?_
     refine op_pickT rfl rfl rfl ?_
     refine op_move rfl rfl ?_
     refine op_notF (d := 32) rfl rfl rfl rfl ?_
     refine op_notF (d := 32) rfl rfl rfl rfl ?_
     refine op_notF (d := 32) rfl rfl rfl rfl ?_
     refine op_pickT rfl rfl rfl ?_
     refine endF (XF.thenN ?_)
     refine condT rfl ?_
     refine seqF (regF ?_)
     refine op_assign rfl rfl ?_
     refine endF (XF.thenN ?_)
     refine retF ?_
     refine XF.thenR ?_
     refine XF.res (res1 Tryd.results38 rfl) ?_
     exact ⟨rint (by simp only [pdsE]; rw [if_neg h0, if_neg h1, if_pos (by omega)]), hS.below⟩
    ·have hg27 := of_decide_eq_false hc; clear hc
     refine op_wantedF (d := 27) rfl rfl ?_
     refine op_field (o' := 4) fa_28_2 rfl rfl rfl ?_
     refine op_wantedF (d := 27) rfl rfl ?_
     refine op_load Tryd.isAgg3 rfl (cell_own (hS.at_ 0 rfl) rfl) rfl ?_
     refine op_wantedF (d := 27) rfl rfl ?_
     refine op_lss rfl rfl rfl ?_
     refine op_pickF rfl rfl rfl ?_
     refine op_move rfl rfl ?_
     refine op_cases (d := 32) rfl (fun hc => ?_) (fun hc => ?_)
     ·have hg32 := of_decide_eq_true hc; clear hc
      refine op_notF (d := 32) rfl rfl rfl rfl ?_
      refine op_notF (d := 32) rfl rfl rfl rfl ?_
      refine op_notF (d := 32) rfl rfl rfl rfl ?_
      refine op_pickT rfl rfl rfl ?_
      refine endF (XF.thenN ?_)
      refine condT rfl ?_
      refine seqF (regF ?_)
      refine op_assign rfl rfl ?_
      refine endF (XF.thenN ?_)
      refine retF ?_
      refine XF.thenR ?_
      refine XF.res (res1 Tryd.results38 rfl) ?_
      exact ⟨rint (by simp only [pdsE]; rw [if_neg h0, if_neg h1, if_pos (by omega)]), hS.below⟩
     ·have hg32 := of_decide_eq_false hc; clear hc
      refine op_wantedF (d := 32) rfl rfl ?_
      refine op_field (o' := 4) fa_28_2 rfl rfl rfl ?_
      refine op_wantedF (d := 32) rfl rfl ?_
      refine op_load Tryd.isAgg3 rfl (cell_own (hS.at_ 0 rfl) rfl) rfl ?_
      refine op_wantedF (d := 32) rfl rfl ?_
      refine op_gtr rfl rfl rfl ?_
      refine op_pickF rfl rfl rfl ?_
      refine endF (XF.thenN ?_)
      refine condF rfl (fun hc => ?_) (fun hc => ?_)
      ·have hc36 := of_decide_eq_true hc; clear hc
       refine seqF (regF ?_)
       refine op_assign rfl rfl ?_
       refine endF (XF.thenN ?_)
       refine retF ?_
       refine XF.thenR ?_
       refine XF.res (res1 Tryd.results38 rfl) ?_
       exact ⟨rint (by simp only [pdsE]; rw [if_neg h0, if_neg h1, if_pos (by omega)]), hS.below⟩
      ·have hc36 := of_decide_eq_false hc; clear hc
       have h2 : ¬ (st < 0 ∨ 4096 < st ∨ sy < 0 ∨ 4096 < sy) := by omega
       refine skipF ?_
       refine XF.thenN ?_
       refine seqF ?_
       refine seqF (regF ?_)
       refine op_field (o' := 5) fa_28_3 rfl rfl rfl ?_
       refine op_load Tryd.isAgg26 rfl (cell_own (hS.at_ 0 rfl) rfl) rfl ?_
       refine op_len Tryd.underlying26 rfl rfl ?_
       refine op_move rfl rfl ?_
       refine endF (XF.thenN ?_)
       refine blockF ?_
       refine loopF (fun m l W => ∃ i : Nat, i ≤ rl ∧ m = rl - i ∧ l = [(1, .pointer (some ⟨B1, 0, none⟩)), (38, .slice ra rl rc), (39, .int .i64 (rl : Int)), (40, .int .i64 (i : Int))] ∧ (rs.take i).all (ruleB st sy) = true ∧ St w [(B1, [.int .i64 s.f.tag, .int .i64 s.f.dim, .slice s.f.a s.f.len s.f.cap, .int .i64 st, .int .i64 sy, .slice ra rl rc], 28)] [] [] W) (rl - 0) ([(1, _), (38, _), (39, _), (40, _)]) ⟨rfl, rfl, rfl, rfl, trivial⟩ (⟨0, Nat.zero_le _, rfl, rfl, rfl, hS.clear⟩) ?_
       clear hS
       rintro m l W ⟨i, hi, rfl, rfl, hall, hS⟩
       refine seqF (regF ?_)
       refine op_lss rfl rfl rfl ?_
       refine endF (XF.thenN ?_)
       refine seqF ?_
       refine condF rfl (fun hc => ?_) (fun hc => ?_)
       ·have hc41 := of_decide_eq_true hc; clear hc
        have hk : i < rl := by omega
        obtain ⟨r, hr⟩ : ∃ r, rs[i]? = some r := ⟨rs[i]'(by omega), by simp [show i < rs.length by omega]⟩
        obtain ⟨b, off, rfl, hcs⟩ := hrow.at_ hr
        have k1 := CellsAt.agree hS.agree (Nat.zero_le _) hcs
        have k2 := k1.2.2.2.2
        have hri := hin r (List.mem_of_getElem? hr)
        refine skipF ?_
        refine XF.thenN ?_
        refine seqF ?_
        refine blockF ?_
        refine seqF (regF ?_)
        refine op_indexA  Tryd.underlying26 Tryd.sizeOf69 rfl rfl rfl (by omega) rfl rfl ?_
        refine op_loadA (vs := [_, _, _, _, _, _, _, _, _, _]) Tryd.isAgg69 Tryd.sizeOf69 rfl (by assumption) rfl ?_
        refine op_alloc (cs := [_, _, _, _, _, _, _, _, _, _]) hS Tryd.zeroValue69 rfl rfl ?_
        clear hS; intro B3 W3 hS
        refine op_storeA (i := 0) (vs := [_, _, _, _, _, _, _, _, _, _]) (cs' := [_, _, _, _, _, _, _, _, _, _]) (O' := [_, _]) hS Tryd.sizeOf69 rfl rfl rfl rfl rfl rfl rfl ?_
        clear hS; intro W4 hS
        refine endF (XF.thenN ?_)
        refine seqF (regF ?_)
        refine op_loadA (vs := [_, _, _, _, _, _]) Tryd.isAgg28 Tryd.sizeOf28 rfl (CellsAt.own (j := 0) (m := 6) (hS.at_ 1 rfl) rfl) rfl ?_
        refine op_loadA (vs := [_, _, _, _, _, _, _, _, _, _]) Tryd.isAgg69 Tryd.sizeOf69 rfl (CellsAt.own (j := 0) (m := 10) (hS.at_ 0 rfl) rfl) rfl ?_
        refine op_call (vs := [_, _]) hS goes_52 rfl (ruleA_is ⟨s, st, sy, _, rl, rc, rs⟩ (hri.below hS.below)) rfl ?_
        rintro e W5 ⟨rfl, hb⟩
        refine ⟨_, rfl, hb, fun hS' => ?_⟩
        clear hS; have hS := hS'; clear hS' hb
        refine op_not rfl rfl ?_
        refine endF (XF.thenN ?_)
        refine condF rfl (fun hc => ?_) (fun hc => ?_)
        ·have hc47 := hc; clear hc
         refine seqF (regF ?_)
         refine op_assign rfl rfl ?_
         refine endF (XF.thenN ?_)
         refine retF ?_
         refine XF.blkR ?_
         refine XF.thenR ?_
         refine XF.thenR ?_
         refine XF.blkR ?_
         refine XF.thenR ?_
         refine XF.res (res1 Tryd.results38 rfl) ?_
         exact ⟨rint (by simp only [pdsE]; rw [if_neg h0, if_neg h1, if_neg h2, if_neg (by rw [all_false_at hr (by simpa using hc47)]; simp)]), hS.below⟩
        ·have hc47 := hc; clear hc
         refine skipF ?_
         refine XF.blkN ?_
         refine XF.thenN ?_
         refine regF ?_
         refine op_add rfl rfl (IntWalk.i64_in _ (by omega)) rfl ?_
         refine op_move rfl rfl ?_
         refine endF ?_
         exact XF.round (rl - (i + 1)) [(1, _), (38, _), (39, _), (40, _)] (by omega) ⟨rfl, rfl, rfl, rfl, trivial⟩ ⟨i + 1, by omega, rfl, rfl, all_take_at hr hall (by simpa using hc47), hS.tail.clear⟩
       ·have hc41 := of_decide_eq_false hc; clear hc
        rw [List.take_of_length_le (by omega)] at hall
        refine exitF ?_
        refine XF.thenX ?_
        refine XF.thenX ?_
        refine XF.blkX ?_
        refine XF.thenN ?_
        refine seqF ?_
        refine seqF (regF ?_)
        refine op_field (o' := 5) fa_28_3 rfl rfl rfl ?_
        refine op_load Tryd.isAgg26 rfl (cell_own (hS.at_ 0 rfl) rfl) rfl ?_
        refine op_len Tryd.underlying26 rfl rfl ?_
        refine op_move rfl rfl ?_
        refine endF (XF.thenN ?_)
        refine blockF ?_
        refine loopF (fun m l W => ∃ i : Nat, i ≤ rl ∧ m = rl - i ∧ l = [(1, .pointer (some ⟨B1, 0, none⟩)), (50, .slice ra rl rc), (51, .int .i64 (rl : Int)), (52, .int .i64 (i : Int))] ∧ (rs.take i).all (fun r => decide (chkW s r.x = 0)) = true ∧ St w [(B1, [.int .i64 s.f.tag, .int .i64 s.f.dim, .slice s.f.a s.f.len s.f.cap, .int .i64 st, .int .i64 sy, .slice ra rl rc], 28)] [] [] W) (rl - 0) ([(1, _), (50, _), (51, _), (52, _)]) ⟨rfl, rfl, rfl, rfl, trivial⟩ (⟨0, Nat.zero_le _, rfl, rfl, rfl, hS.clear⟩) ?_
        clear hS
        rintro m l W ⟨i, hi, rfl, rfl, hall2, hS⟩
        refine seqF (regF ?_)
        refine op_lss rfl rfl rfl ?_
        refine endF (XF.thenN ?_)
        refine seqF ?_
        refine condF rfl (fun hc => ?_) (fun hc => ?_)
        ·have hc53 := of_decide_eq_true hc; clear hc
         have hk : i < rl := by omega
         obtain ⟨r, hr⟩ : ∃ r, rs[i]? = some r := ⟨rs[i]'(by omega), by simp [show i < rs.length by omega]⟩
         obtain ⟨b, off, rfl, hcs⟩ := hrow.at_ hr
         have k1 := CellsAt.agree hS.agree (Nat.zero_le _) hcs
         have k2 := k1.2.2.2.2
         have hri := hin r (List.mem_of_getElem? hr)
         refine skipF ?_
         refine XF.thenN ?_
         refine seqF ?_
         refine blockF ?_
         refine seqF (regF ?_)
         refine op_indexA  Tryd.underlying26 Tryd.sizeOf69 rfl rfl rfl (by omega) rfl rfl ?_
         refine op_loadA (vs := [_, _, _, _, _, _, _, _, _, _]) Tryd.isAgg69 Tryd.sizeOf69 rfl (by assumption) rfl ?_
         refine op_alloc (cs := [_, _, _, _, _, _, _, _, _, _]) hS Tryd.zeroValue69 rfl rfl ?_
         clear hS; intro B6 W6 hS
         refine op_storeA (i := 0) (vs := [_, _, _, _, _, _, _, _, _, _]) (cs' := [_, _, _, _, _, _, _, _, _, _]) (O' := [_, _]) hS Tryd.sizeOf69 rfl rfl rfl rfl rfl rfl rfl ?_
         clear hS; intro W7 hS
         refine endF (XF.thenN ?_)
         refine seqF (regF ?_)
         refine op_field (o' := 0) fa_28_0 rfl rfl rfl ?_
         refine op_loadA (vs := [_, _, _]) Tryd.isAgg25 Tryd.sizeOf25 rfl (CellsAt.own (j := 0) (m := 3) (hS.at_ 1 rfl) rfl) rfl ?_
         refine op_field (o' := 4) fa_69_4 rfl rfl rfl ?_
         refine op_loadA (vs := [_, _, _, _, _, _]) Tryd.isAgg47 Tryd.sizeOf47 rfl (CellsAt.own (j := 4) (m := 6) (hS.at_ 0 rfl) rfl) rfl ?_
         refine op_call (vs := [_, _]) hS goes_53 rfl (checkA_genY ds d s r.x _ (SIn.below hS.below hs) (WIn.below hS.below hri.x)) rfl ?_
         rintro e W8 ⟨rfl, hb⟩
         refine ⟨_, rfl, hb, fun hS' => ?_⟩
         clear hS; have hS := hS'; clear hS' hb
         refine op_assign rfl rfl ?_
         refine endF (XF.thenN ?_)
         refine seqF (regF ?_)
         refine op_move rfl rfl ?_
         refine op_neq rfl rfl rfl ?_
         refine endF (XF.thenN ?_)
         refine condF rfl (fun hc => ?_) (fun hc => ?_)
         ·have hc62 := of_decide_eq_true hc; clear hc
          refine seqF (regF ?_)
          refine op_move rfl rfl ?_
          refine op_assign rfl rfl ?_
          refine endF (XF.thenN ?_)
          refine retF ?_
          refine XF.blkR ?_
          refine XF.thenR ?_
          refine XF.thenR ?_
          refine XF.blkR ?_
          refine XF.thenR ?_
          refine XF.res (res1 Tryd.results38 rfl) ?_
          exact ⟨rint (by simp only [pdsE]; rw [if_neg h0, if_neg h1, if_neg h2, if_pos hall, wtE_at hr hall2 hc62]), hS.below⟩
         ·have hc62 := of_decide_eq_false hc; clear hc
          refine skipF ?_
          refine XF.blkN ?_
          refine XF.thenN ?_
          refine regF ?_
          refine op_add rfl rfl (IntWalk.i64_in _ (by omega)) rfl ?_
          refine op_move rfl rfl ?_
          refine endF ?_
          exact XF.round (rl - (i + 1)) [(1, _), (50, _), (51, _), (52, _)] (by omega) ⟨rfl, rfl, rfl, rfl, trivial⟩ ⟨i + 1, by omega, rfl, rfl, all_take_at hr hall2 (by simpa using hc62), hS.tail.clear⟩
        ·have hc53 := of_decide_eq_false hc; clear hc
         refine exitF ?_
         refine XF.thenX ?_
         refine XF.thenX ?_
         refine XF.blkX ?_
         refine XF.thenN ?_
         refine seqF (regF ?_)
         refine op_assign rfl rfl ?_
         refine endF (XF.thenN ?_)
         refine retF ?_
         refine XF.res (res1 Tryd.results38 rfl) ?_
         rw [List.take_of_length_le (by omega)] at hall2
         exact ⟨rint (by simp only [pdsE]; rw [if_neg h0, if_neg h1, if_neg h2, if_pos hall, wtE_all hall2]), hS.below⟩
theorem pdsA_is (ds d : Nat) (p : PV) (w : World) (h : PvIn w ds d p) : Calls Tryd.prog 38 #[p.val] w (fun e w' => e = .returned (.int .i64 (pdsE p)) ∧ Below w.heap.size w w') := pdsA_c ds d _ _ _ _ _ _ _ w h.s h.row h.len h.rin
end Go.Proofs.YtfkbkekgnoanaaaDoor
namespace Go.Proofs.YtfkbkekgnoanaaaDoor
open Go Go.RowKit
theorem confA_c (P0 : PV) (p : Int) (wa : Option Addr) (wl wc : Nat) (ws : List Int) (w : World) (hrow : Row w wa ws) (hlen : ws.length = wl) :
  Calls Tryd.prog 39 #[P0.val, .agg #[.int .i64 p, .slice wa wl wc]] w (fun e w' => e = .returned (.bool (confB P0 ⟨p, wa, wl, wc, ws⟩)) ∧ Below w.heap.size w w') := by
 refine enterF (args := [P0.val, .agg #[.int .i64 p, .slice wa wl wc]]) Tryd.func39 rfl Tryd.ntmps39 rfl ?_
 have hS := St.start w
 refine seqF (regF ?_)
 refine op_box (cs := [_, _, _, _, _, _]) hS rfl rfl rfl ?_
 clear hS; intro B1 W1 hS
 refine op_box (cs := [_, _]) hS rfl rfl rfl ?_
 clear hS; intro B2 W2 hS
 refine op_assign rfl rfl ?_
 refine endF (XF.thenN ?_)
 refine seqF ?_
 refine seqF (regF ?_)
 refine op_field (o' := 0) fa_31_0 rfl rfl rfl ?_
 refine op_load Tryd.isAgg3 rfl (cell_own (hS.at_ 0 rfl) rfl) rfl ?_
 refine op_lss rfl rfl rfl ?_
 refine op_move rfl rfl ?_
 refine op_cases (d := 10) rfl (fun hc => ?_) (fun hc => ?_)
 ·have hg10 := of_decide_eq_true hc; clear hc
  have e1 : inQ p P0.st = false := by simp [inQ]; omega
  refine op_notF (d := 10) rfl rfl rfl rfl ?_
  refine op_notF (d := 10) rfl rfl rfl rfl ?_
  refine op_notF (d := 10) rfl rfl rfl rfl ?_
  refine op_notF (d := 10) rfl rfl rfl rfl ?_
  refine op_notF (d := 10) rfl rfl rfl rfl ?_
  refine op_pickT rfl rfl rfl ?_
  refine op_move rfl rfl ?_
  refine op_notF (d := 17) rfl rfl rfl rfl ?_
  refine op_notF (d := 17) rfl rfl rfl rfl ?_
  refine op_notF (d := 17) rfl rfl rfl rfl ?_
  refine op_notF (d := 17) rfl rfl rfl rfl ?_
  refine op_pickT rfl rfl rfl ?_
  refine endF (XF.thenN ?_)
  refine condT rfl ?_
  refine seqF (regF ?_)
  refine op_assign rfl rfl ?_
  refine endF (XF.thenN ?_)
  refine retF ?_
  refine XF.thenR ?_
  refine XF.res (res1 Tryd.results39 rfl) ?_
  exact ⟨rbool (by simp [confB, e1]), hS.below⟩
 ·have hg10 := of_decide_eq_false hc; clear hc
  refine op_wantedF (d := 10) rfl rfl ?_
  refine op_field (o' := 0) fa_31_0 rfl rfl rfl ?_
  refine op_wantedF (d := 10) rfl rfl ?_
  refine op_load Tryd.isAgg3 rfl (cell_own (hS.at_ 0 rfl) rfl) rfl ?_
  refine op_wantedF (d := 10) rfl rfl ?_
  refine op_field (o' := 3) fa_28_1 rfl rfl rfl ?_
  refine op_wantedF (d := 10) rfl rfl ?_
  refine op_load Tryd.isAgg3 rfl (cell_own (hS.at_ 1 rfl) rfl) rfl ?_
  refine op_wantedF (d := 10) rfl rfl ?_
  refine op_geq rfl rfl rfl ?_
  refine op_pickF rfl rfl rfl ?_
  refine op_move rfl rfl ?_
  refine op_cases (d := 17) rfl (fun hc => ?_) (fun hc => ?_)
  ·have hg17 := of_decide_eq_true hc; clear hc
   have e1 : inQ p P0.st = false := by simp [inQ]; omega
   refine op_notF (d := 17) rfl rfl rfl rfl ?_
   refine op_notF (d := 17) rfl rfl rfl rfl ?_
   refine op_notF (d := 17) rfl rfl rfl rfl ?_
   refine op_notF (d := 17) rfl rfl rfl rfl ?_
   refine op_pickT rfl rfl rfl ?_
   refine endF (XF.thenN ?_)
   refine condT rfl ?_
   refine seqF (regF ?_)
   refine op_assign rfl rfl ?_
   refine endF (XF.thenN ?_)
   refine retF ?_
   refine XF.thenR ?_
   refine XF.res (res1 Tryd.results39 rfl) ?_
   exact ⟨rbool (by simp [confB, e1]), hS.below⟩
  ·have hg17 := of_decide_eq_false hc; clear hc
   have e1 : inQ p P0.st = true := by simp [inQ]; omega
   refine op_wantedF (d := 17) rfl rfl ?_
   refine op_field (o' := 1) fa_31_1 rfl rfl rfl ?_
   refine op_wantedF (d := 17) rfl rfl ?_
   refine op_load Tryd.isAgg29 rfl (cell_own (hS.at_ 0 rfl) rfl) rfl ?_
   refine op_wantedF (d := 17) rfl rfl ?_
   refine op_len Tryd.underlying29 rfl rfl ?_
   refine op_wantedF (d := 17) rfl rfl ?_
   refine op_gtr rfl rfl rfl ?_
   refine op_pickF rfl rfl rfl ?_
   refine endF (XF.thenN ?_)
   refine condF rfl (fun hc => ?_) (fun hc => ?_)
   ·have hc22 := of_decide_eq_true hc; clear hc
    have e4 : decide (wl ≤ 4096) = false := by simp; omega
    refine seqF (regF ?_)
    refine op_assign rfl rfl ?_
    refine endF (XF.thenN ?_)
    refine retF ?_
    refine XF.thenR ?_
    refine XF.res (res1 Tryd.results39 rfl) ?_
    exact ⟨rbool (by simp [confB, e4]), hS.below⟩
   ·have hc22 := of_decide_eq_false hc; clear hc
    have e4 : decide (wl ≤ 4096) = true := by simp; omega
    refine skipF ?_
    refine XF.thenN ?_
    refine seqF ?_
    refine seqF (regF ?_)
    refine op_field (o' := 1) fa_31_1 rfl rfl rfl ?_
    refine op_load Tryd.isAgg29 rfl (cell_own (hS.at_ 0 rfl) rfl) rfl ?_
    refine op_len Tryd.underlying29 rfl rfl ?_
    refine op_move rfl rfl ?_
    refine endF (XF.thenN ?_)
    refine blockF ?_
    refine loopF (fun m l W => ∃ i : Nat, i ≤ wl ∧ m = wl - i ∧ l = [(2, .pointer (some ⟨B1, 0, none⟩)), (24, .slice wa wl wc), (25, .int .i64 (wl : Int)), (26, .int .i64 (i : Int))] ∧ (ws.take i).all (fun y => inQ y P0.sy) = true ∧ St w [(B2, [.int .i64 p, .slice wa wl wc], 31), (B1, P0.six, 28)] [] [] W) (wl - 0) ([(2, _), (24, _), (25, _), (26, _)]) ⟨rfl, rfl, rfl, rfl, trivial⟩ (⟨0, Nat.zero_le _, rfl, rfl, rfl, hS.clear⟩) ?_
    clear hS
    rintro m l W ⟨i, hi, rfl, rfl, hall, hS⟩
    refine seqF (regF ?_)
    refine op_lss rfl rfl rfl ?_
    refine endF (XF.thenN ?_)
    refine seqF ?_
    refine condF rfl (fun hc => ?_) (fun hc => ?_)
    ·have hc27 := of_decide_eq_true hc; clear hc
     have hk : i < wl := by omega
     obtain ⟨b, off, y, rfl, hy, hyc⟩ := hrow.at1 (show i < ws.length by omega)
     have k1 := hS.old hyc
     refine skipF ?_
     refine XF.thenN ?_
     refine seqF ?_
     refine blockF ?_
     refine seqF (regF ?_)
     refine op_indexA  Tryd.underlying29 Tryd.sizeOf3 rfl rfl rfl (by omega) rfl rfl ?_
     refine op_load Tryd.isAgg3 rfl (by first | assumption | exact hS.old (by assumption)) rfl ?_
     refine op_assign rfl rfl ?_
     refine endF (XF.thenN ?_)
     refine seqF (regF ?_)
     refine op_move rfl rfl ?_
     refine op_lss rfl rfl rfl ?_
     refine op_move rfl rfl ?_
     refine op_cases (d := 32) rfl (fun hc => ?_) (fun hc => ?_)
     ·have hg32 := of_decide_eq_true hc; clear hc
      have e5 : inQ y P0.sy = false := by simp [inQ]; omega
      refine op_notF (d := 32) rfl rfl rfl rfl ?_
      refine op_notF (d := 32) rfl rfl rfl rfl ?_
      refine op_notF (d := 32) rfl rfl rfl rfl ?_
      refine op_notF (d := 32) rfl rfl rfl rfl ?_
      refine op_pickT rfl rfl rfl ?_
      refine endF (XF.thenN ?_)
      refine condT rfl ?_
      refine seqF (regF ?_)
      refine op_assign rfl rfl ?_
      refine endF (XF.thenN ?_)
      refine retF ?_
      refine XF.blkR ?_
      refine XF.thenR ?_
      refine XF.thenR ?_
      refine XF.blkR ?_
      refine XF.thenR ?_
      refine XF.res (res1 Tryd.results39 rfl) ?_
      exact ⟨rbool (by simp only [confB]; rw [all_false_at hy e5]; simp), hS.below⟩
     ·have hg32 := of_decide_eq_false hc; clear hc
      refine op_wantedF (d := 32) rfl rfl ?_
      refine op_move rfl rfl ?_
      refine op_wantedF (d := 32) rfl rfl ?_
      refine op_field (o' := 4) fa_28_2 rfl rfl rfl ?_
      refine op_wantedF (d := 32) rfl rfl ?_
      refine op_load Tryd.isAgg3 rfl (cell_own (hS.at_ 1 rfl) rfl) rfl ?_
      refine op_wantedF (d := 32) rfl rfl ?_
      refine op_geq rfl rfl rfl ?_
      refine op_pickF rfl rfl rfl ?_
      refine endF (XF.thenN ?_)
      refine condF rfl (fun hc => ?_) (fun hc => ?_)
      ·have hc37 := of_decide_eq_true hc; clear hc
       have e5 : inQ y P0.sy = false := by simp [inQ]; omega
       refine seqF (regF ?_)
       refine op_assign rfl rfl ?_
       refine endF (XF.thenN ?_)
       refine retF ?_
       refine XF.blkR ?_
       refine XF.thenR ?_
       refine XF.thenR ?_
       refine XF.blkR ?_
       refine XF.thenR ?_
       refine XF.res (res1 Tryd.results39 rfl) ?_
       exact ⟨rbool (by simp only [confB]; rw [all_false_at hy e5]; simp), hS.below⟩
      ·have hc37 := of_decide_eq_false hc; clear hc
       have e5 : inQ y P0.sy = true := by simp [inQ]; omega
       refine skipF ?_
       refine XF.blkN ?_
       refine XF.thenN ?_
       refine regF ?_
       refine op_add rfl rfl (IntWalk.i64_in _ (by omega)) rfl ?_
       refine op_move rfl rfl ?_
       refine endF ?_
       exact XF.round (wl - (i + 1)) [(2, _), (24, _), (25, _), (26, _)] (by omega) ⟨rfl, rfl, rfl, rfl, trivial⟩ ⟨i + 1, by omega, rfl, rfl, all_take_at hy hall e5, hS.clear⟩
    ·have hc27 := of_decide_eq_false hc; clear hc
     refine exitF ?_
     refine XF.thenX ?_
     refine XF.thenX ?_
     refine XF.blkX ?_
     refine XF.thenN ?_
     refine seqF (regF ?_)
     refine op_assign rfl rfl ?_
     refine endF (XF.thenN ?_)
     refine retF ?_
     refine XF.res (res1 Tryd.results39 rfl) ?_
     rw [List.take_of_length_le (by omega)] at hall
     exact ⟨rbool (by simp [confB, e1, e4, hall]), hS.below⟩
theorem confA_is (p : PV) (c : CV) (w : World) (h : CIn w c) : Calls Tryd.prog 39 #[p.val, c.val] w (fun e w' => e = .returned (.bool (confB p c)) ∧ Below w.heap.size w w') := confA_c p _ _ _ _ _ w h.row h.len
theorem stepA_is (ds d : Nat) (p : PV) (c : CV) (w : World) (hp : PvIn w ds d p) (hcf : CIn w c) :
  Calls Tryd.prog 19 #[p.val, c.val] w (fun e w' => e = .returned (.int .i64 (stepE p c)) ∧ Below w.heap.size w w') := by
 refine enterF (args := [p.val, c.val]) Tryd.func19 rfl Tryd.ntmps19 rfl ?_
 have hS := St.start w
 refine seqF (regF ?_)
 refine op_box (cs := [_, _, _, _, _, _]) hS rfl rfl rfl ?_
 clear hS; intro B1 W1 hS
 refine op_box (cs := [_, _]) hS rfl rfl rfl ?_
 clear hS; intro B2 W2 hS
 refine op_assign rfl rfl ?_
 refine endF (XF.thenN ?_)
 refine seqF ?_
 refine seqF (regF ?_)
 refine op_loadA (vs := [_, _, _, _, _, _]) Tryd.isAgg28 Tryd.sizeOf28 rfl (CellsAt.own (j := 0) (m := 6) (hS.at_ 1 rfl) rfl) rfl ?_
 refine op_call (vs := [_]) hS goes_38 rfl (pdsA_is ds d p _ (hp.below hS.below)) rfl ?_
 rintro e W3 ⟨rfl, hb⟩
 refine ⟨_, rfl, hb, fun hS' => ?_⟩
 clear hS; have hS := hS'; clear hS' hb
 refine op_assign rfl rfl ?_
 refine endF (XF.thenN ?_)
 refine seqF (regF ?_)
 refine op_move rfl rfl ?_
 refine op_neq rfl rfl rfl ?_
 refine endF (XF.thenN ?_)
 refine condF rfl (fun hc => ?_) (fun hc => ?_)
 ·have hc9 := of_decide_eq_true hc; clear hc
  refine seqF (regF ?_)
  refine op_move rfl rfl ?_
  refine op_assign rfl rfl ?_
  refine endF (XF.thenN ?_)
  refine retF ?_
  refine XF.thenR ?_
  refine XF.res (res1 Tryd.results19 rfl) ?_
  exact ⟨rint (by simp only [stepE]; rw [if_pos hc9]), hS.below⟩
 ·have hc9 := of_decide_eq_false hc; clear hc
  refine skipF ?_
  refine XF.thenN ?_
  refine seqF ?_
  refine seqF (regF ?_)
  refine op_loadA (vs := [_, _, _, _, _, _]) Tryd.isAgg28 Tryd.sizeOf28 rfl (CellsAt.own (j := 0) (m := 6) (hS.at_ 1 rfl) rfl) rfl ?_
  refine op_loadA (vs := [_, _]) Tryd.isAgg31 Tryd.sizeOf31 rfl (CellsAt.own (j := 0) (m := 2) (hS.at_ 0 rfl) rfl) rfl ?_
  refine op_call (vs := [_, _]) hS goes_39 rfl (confA_is p c _ (hcf.below hS.below)) rfl ?_
  rintro e W4 ⟨rfl, hb⟩
  refine ⟨_, rfl, hb, fun hS' => ?_⟩
  clear hS; have hS := hS'; clear hS' hb
  refine op_not rfl rfl ?_
  refine endF (XF.thenN ?_)
  refine condF rfl (fun hc => ?_) (fun hc => ?_)
  ·have hc14 := hc; clear hc
   refine seqF (regF ?_)
   refine op_assign rfl rfl ?_
   refine endF (XF.thenN ?_)
   refine retF ?_
   refine XF.thenR ?_
   refine XF.res (res1 Tryd.results19 rfl) ?_
   exact ⟨rint (by simp only [stepE]; rw [if_neg hc9, if_neg (by simpa using hc14)]), hS.below⟩
  ·have hc14 := hc; clear hc
   refine skipF ?_
   refine XF.thenN ?_
   refine seqF (regF ?_)
   refine op_assign rfl rfl ?_
   refine endF (XF.thenN ?_)
   refine retF ?_
   refine XF.res (res1 Tryd.results19 rfl) ?_
   exact ⟨rint (by simp only [stepE]; rw [if_neg hc9, if_pos (by simpa using hc14)]), hS.below⟩
end Go.Proofs.YtfkbkekgnoanaaaDoor
namespace Go.Proofs.YtfkbkekgnoanaaaDoor
open Go Go.RowKit
def appB (r : RV) (p : Int) (ws : List Int) : Bool := decide (r.p = p) && (match ws[0]? with | some y => decide (y = r.g) | none => false)
theorem take_same {xs ys : List Int} {i : Nat} {y z : Int} (h : xs.take i = ys.take i) (hy : xs[i]? = some y) (hz : ys[i]? = some z) (e : y = z) : xs.take (i + 1) = ys.take (i + 1) := by
 rw [List.take_add_one, List.take_add_one, h, hy, hz, e]
theorem sameC_c (p : Int) (wa : Option Addr) (wl wc : Nat) (ws : List Int) (q : Int) (va : Option Addr) (vl vc : Nat) (vs : List Int) (w : World) (hrow : Row w wa ws) (hlen : ws.length = wl) (hrov : Row w va vs) (hlev : vs.length = vl) (hmx : wl ≤ 9223372036854775807) :
  Calls Tryd.prog 13 #[.agg #[.int .i64 p, .slice wa wl wc], .agg #[.int .i64 q, .slice va vl vc]] w (fun e w' => e = .returned (.bool (decide (p = q ∧ ws = vs))) ∧ Below w.heap.size w w') := by
 refine enterF (args := [.agg #[.int .i64 p, .slice wa wl wc], .agg #[.int .i64 q, .slice va vl vc]]) Tryd.func13 rfl Tryd.ntmps13 rfl ?_
 have hS := St.start w
 refine seqF (regF ?_)
 refine op_box (cs := [_, _]) hS rfl rfl rfl ?_
 clear hS; intro B1 W1 hS
 refine op_box (cs := [_, _]) hS rfl rfl rfl ?_
 clear hS; intro B2 W2 hS
 refine op_assign rfl rfl ?_
 refine endF (XF.thenN ?_)
 refine seqF ?_
 refine seqF (regF ?_)
 refine op_field (o' := 0) fa_31_0 rfl rfl rfl ?_
 refine op_load Tryd.isAgg3 rfl (cell_own (hS.at_ 1 rfl) rfl) rfl ?_
 refine op_field (o' := 0) fa_31_0 rfl rfl rfl ?_
 refine op_load Tryd.isAgg3 rfl (cell_own (hS.at_ 0 rfl) rfl) rfl ?_
 refine op_neq rfl rfl rfl ?_
 refine op_move rfl rfl ?_
 refine op_cases (d := 11) rfl (fun hc => ?_) (fun hc => ?_)
 ·have hg11 := of_decide_eq_true hc; clear hc
  refine op_notF (d := 11) rfl rfl rfl rfl ?_
  refine op_notF (d := 11) rfl rfl rfl rfl ?_
  refine op_notF (d := 11) rfl rfl rfl rfl ?_
  refine op_notF (d := 11) rfl rfl rfl rfl ?_
  refine op_notF (d := 11) rfl rfl rfl rfl ?_
  refine op_notF (d := 11) rfl rfl rfl rfl ?_
  refine op_notF (d := 11) rfl rfl rfl rfl ?_
  refine op_pickT rfl rfl rfl ?_
  refine endF (XF.thenN ?_)
  refine condT rfl ?_
  refine seqF (regF ?_)
  refine op_assign rfl rfl ?_
  refine endF (XF.thenN ?_)
  refine retF ?_
  refine XF.thenR ?_
  refine XF.res (res1 Tryd.results13 rfl) ?_
  exact ⟨rbool (decide_eq_false (fun h => absurd h.1 (by omega))).symm, hS.below⟩
 ·have hg11 := of_decide_eq_false hc; clear hc
  refine op_wantedF (d := 11) rfl rfl ?_
  refine op_field (o' := 1) fa_31_1 rfl rfl rfl ?_
  refine op_wantedF (d := 11) rfl rfl ?_
  refine op_load Tryd.isAgg29 rfl (cell_own (hS.at_ 1 rfl) rfl) rfl ?_
  refine op_wantedF (d := 11) rfl rfl ?_
  refine op_len Tryd.underlying29 rfl rfl ?_
  refine op_wantedF (d := 11) rfl rfl ?_
  refine op_field (o' := 1) fa_31_1 rfl rfl rfl ?_
  refine op_wantedF (d := 11) rfl rfl ?_
  refine op_load Tryd.isAgg29 rfl (cell_own (hS.at_ 0 rfl) rfl) rfl ?_
  refine op_wantedF (d := 11) rfl rfl ?_
  refine op_len Tryd.underlying29 rfl rfl ?_
  refine op_wantedF (d := 11) rfl rfl ?_
  refine op_neq rfl rfl rfl ?_
  refine op_pickF rfl rfl rfl ?_
  refine endF (XF.thenN ?_)
  refine condF rfl (fun hc => ?_) (fun hc => ?_)
  ·have hc19 := of_decide_eq_true hc; clear hc
   refine seqF (regF ?_)
   refine op_assign rfl rfl ?_
   refine endF (XF.thenN ?_)
   refine retF ?_
   refine XF.thenR ?_
   refine XF.res (res1 Tryd.results13 rfl) ?_
   exact ⟨rbool (decide_eq_false (fun h => absurd (congrArg List.length h.2) (by omega))).symm, hS.below⟩
  ·have hc19 := of_decide_eq_false hc; clear hc
   have hpq : p = q := by omega
   have hll : wl = vl := by omega
   refine skipF ?_
   refine XF.thenN ?_
   refine seqF ?_
   refine seqF (regF ?_)
   refine op_assign rfl rfl ?_
   refine endF (XF.thenN ?_)
   refine blockF ?_
   refine loopF (fun m l W => ∃ i : Nat, i ≤ wl ∧ m = wl - i ∧ l = [(2, .pointer (some ⟨B1, 0, none⟩)), (3, .pointer (some ⟨B2, 0, none⟩)), (5, .int .i64 (i : Int))] ∧ ws.take i = vs.take i ∧ St w [(B2, [.int .i64 q, .slice va vl vc], 31), (B1, [.int .i64 p, .slice wa wl wc], 31)] [] [] W) (wl - 0) ([(2, _), (3, _), (5, _)]) ⟨rfl, rfl, rfl, trivial⟩ (⟨0, Nat.zero_le _, rfl, rfl, rfl, hS.clear⟩) ?_
   clear hS
   rintro m l W ⟨i, hi, rfl, rfl, hall, hS⟩
   refine seqF ?_
   refine seqF (regF ?_)
   refine op_move rfl rfl ?_
   refine op_field (o' := 1) fa_31_1 rfl rfl rfl ?_
   refine op_load Tryd.isAgg29 rfl (cell_own (hS.at_ 1 rfl) rfl) rfl ?_
   refine op_len Tryd.underlying29 rfl rfl ?_
   refine op_lss rfl rfl rfl ?_
   refine endF (XF.thenN ?_)
   refine condF rfl (fun hc => ?_) (fun hc => ?_)
   ·have hc24 := of_decide_eq_true hc; clear hc
    have hk : i < wl := by omega
    obtain ⟨b, off, y, rfl, hy, hyc⟩ := hrow.at1 (show i < ws.length by omega)
    obtain ⟨b2, off2, z, rfl, hz, hzc⟩ := hrov.at1 (show i < vs.length by omega)
    have k1 := hS.old hyc
    have k2 := hS.old hzc
    refine skipF ?_
    refine XF.thenN ?_
    refine seqF ?_
    refine blockF ?_
    refine seqF ?_
    refine regB (m := 11) followsM hS (by kernel_rfl) (by kernel_rfl) rfl ?_
    refine bl_cons 1 rfl (isV _) (stab_isV _) (rgV (li := [(2, _)]) rfl (w_free rfl) ⟨g_fr (by kernel_rfl) rfl, trivial⟩ (fun w hw => rn_field (o' := 1) fa_31_1 rfl rfl) (at_top rfl)) ?_
    refine bl_cons 2 rfl (isV _) (stab_isV _) (rgV (li := [(27, _)]) rfl (w_free rfl) ⟨g_dep 0 (by kernel_rfl) (at_dep rfl rfl rfl), trivial⟩ (fun w hw => rn_load Tryd.isAgg29 rfl ((below_agree hw 0).cell (Nat.zero_le _) (cell_own (hS.at_ 1 rfl) rfl))) (at_top rfl)) ?_
    refine bl_cons 3 rfl (isV _) (stab_isV _) (rgV (li := [(5, _)]) rfl (w_free rfl) ⟨g_fr (by kernel_rfl) rfl, trivial⟩ (fun w hw => rn_move rfl) (at_top rfl)) ?_
    refine bl_cons 4 rfl (isV _) (stab_isV _) (rgV (li := [(28, _), (29, _)]) rfl (w_free rfl) ⟨g_dep 1 (by kernel_rfl) (at_dep rfl rfl rfl), g_dep 2 (by kernel_rfl) (at_dep rfl rfl rfl), trivial⟩ (fun w hw => rn_indexA  Tryd.underlying29 Tryd.sizeOf3 rfl rfl rfl (by omega) rfl) (at_top rfl)) ?_
    refine bl_cons 5 rfl (isV _) (stab_isV _) (rgV (li := [(30, _)]) rfl (w_free rfl) ⟨g_dep 3 (by kernel_rfl) (at_dep rfl rfl rfl), trivial⟩ (fun w hw => rn_load Tryd.isAgg3 rfl ((below_agree hw 0).cell (Nat.zero_le _) (by assumption))) (at_top rfl)) ?_
    refine bl_cons 6 rfl (isV _) (stab_isV _) (rgV (li := [(3, _)]) rfl (w_free rfl) ⟨g_fr (by kernel_rfl) rfl, trivial⟩ (fun w hw => rn_field (o' := 1) fa_31_1 rfl rfl) (at_top rfl)) ?_
    refine bl_cons 7 rfl (isV _) (stab_isV _) (rgV (li := [(32, _)]) rfl (w_free rfl) ⟨g_dep 5 (by kernel_rfl) (at_dep rfl rfl rfl), trivial⟩ (fun w hw => rn_load Tryd.isAgg29 rfl ((below_agree hw 0).cell (Nat.zero_le _) (cell_own (hS.at_ 0 rfl) rfl))) (at_top rfl)) ?_
    refine bl_cons 8 rfl (isV _) (stab_isV _) (rgV (li := [(5, _)]) rfl (w_free rfl) ⟨g_fr (by kernel_rfl) rfl, trivial⟩ (fun w hw => rn_move rfl) (at_top rfl)) ?_
    refine bl_cons 9 rfl (isV _) (stab_isV _) (rgV (li := [(33, _), (34, _)]) rfl (w_free rfl) ⟨g_dep 6 (by kernel_rfl) (at_dep rfl rfl rfl), g_dep 7 (by kernel_rfl) (at_dep rfl rfl rfl), trivial⟩ (fun w hw => rn_indexA  Tryd.underlying29 Tryd.sizeOf3 rfl rfl rfl (by omega) rfl) (at_top rfl)) ?_
    refine bl_cons 10 rfl (isV _) (stab_isV _) (rgV (li := [(35, _)]) rfl (w_free rfl) ⟨g_dep 8 (by kernel_rfl) (at_dep rfl rfl rfl), trivial⟩ (fun w hw => rn_load Tryd.isAgg3 rfl ((below_agree hw 0).cell (Nat.zero_le _) (by assumption))) (at_top rfl)) ?_
    refine bl_cons 11 rfl (isV _) (stab_isV _) (rgV (li := [(31, _), (36, _)]) rfl (w_free rfl) ⟨g_dep 4 (by kernel_rfl) (at_dep rfl rfl rfl), g_dep 9 (by kernel_rfl) (at_dep rfl rfl rfl), trivial⟩ (fun w hw => rn_neq rfl rfl) (at_top rfl)) ?_
    refine bl_nil ?_
    intro W3 hbR hS'
    clear hS; have hS := hS'; clear hS'
    refine fin_v ?_
    refine fin_v ?_
    refine fin_v ?_
    refine fin_v ?_
    refine fin_v ?_
    refine fin_v ?_
    refine fin_v ?_
    refine fin_v ?_
    refine fin_v ?_
    refine fin_v ?_
    refine fin_v ?_
    refine fin_nil ?_
    refine XF.thenN ?_
    refine condF rfl (fun hc => ?_) (fun hc => ?_)
    ·have hc37 := hc; clear hc
     refine seqF (regF ?_)
     refine op_assign rfl rfl ?_
     refine endF (XF.thenN ?_)
     refine retF ?_
     refine XF.blkR ?_
     refine XF.thenR ?_
     refine XF.thenR ?_
     refine XF.blkR ?_
     refine XF.thenR ?_
     refine XF.res (res1 Tryd.results13 rfl) ?_
     exact ⟨rbool (decide_eq_false (fun h => absurd (show y = z by have e := h.2 ▸ hy; rw [hz] at e; exact (Option.some.inj e).symm) (by simpa using hc37))).symm, hS.below⟩
    ·have hc37 := hc; clear hc
     refine skipF ?_
     refine XF.blkN ?_
     refine XF.thenN ?_
     refine regF ?_
     refine op_move rfl rfl ?_
     refine op_add rfl rfl (IntWalk.i64_in _ (by omega)) rfl ?_
     refine op_assign rfl rfl ?_
     refine endF ?_
     exact XF.round (wl - (i + 1)) [(2, _), (3, _), (5, _)] (by omega) ⟨rfl, rfl, rfl, trivial⟩ ⟨i + 1, by omega, rfl, rfl, take_same hall hy hz (by simpa using hc37), hS.clear⟩
   ·have hc24 := of_decide_eq_false hc; clear hc
    refine exitF ?_
    refine XF.thenX ?_
    refine XF.thenX ?_
    refine XF.blkX ?_
    refine XF.thenN ?_
    refine seqF (regF ?_)
    refine op_assign rfl rfl ?_
    refine endF (XF.thenN ?_)
    refine retF ?_
    refine XF.res (res1 Tryd.results13 rfl) ?_
    rw [List.take_of_length_le (by omega), List.take_of_length_le (by omega)] at hall
    exact ⟨rbool (decide_eq_true ⟨hpq, hall⟩).symm, hS.below⟩
end Go.Proofs.YtfkbkekgnoanaaaDoor
namespace Go.Proofs.YtfkbkekgnoanaaaDoor
open Go Go.RowKit
abbrev ringV (sf : SF) (f0 : WF) : Value := .agg #[.int .i64 sf.tag, .int .i64 sf.dim, .slice sf.a sf.len sf.cap, .bool f0.z, .int .i64 f0.c, .int .u64 (f0.g : Int), .slice f0.ra f0.rl f0.rc, .slice f0.ca f0.cl f0.cc, .slice f0.pa f0.pl f0.pc]
theorem ringOf_is (S : PS) (sf : SF) (w : World) (hs : SIs w S sf) (hok : S.ok) :
  Calls Tryd.prog 27 #[sf.val] w (fun e w' => ∃ f0 : WF, e = .returned (ringV sf f0) ∧ XNew w.heap.size w' S f0 (zeroX S) ∧ Below w.heap.size w w') := by
 refine enterF (args := [sf.val]) Tryd.func27 rfl Tryd.ntmps27 rfl ?_
 have hS := St.start w
 refine seqF (regF ?_)
 refine op_box (cs := [_, _, _]) hS rfl rfl rfl ?_
 clear hS; intro B1 W1 hS
 refine op_alloc (cs := [_, _, _, _, _, _, _, _, _]) hS Tryd.zeroValue77 rfl rfl ?_
 clear hS; intro B2 W2 hS
 refine endF (XF.thenN ?_)
 refine seqF (regF ?_)
 refine op_loadA (vs := [_, _, _]) Tryd.isAgg25 Tryd.sizeOf25 rfl (CellsAt.own (j := 0) (m := 3) (hS.at_ 1 rfl) rfl) rfl ?_
 have hsz := hS.below.size
 refine op_call (vs := [_]) hS goes_43 rfl (ZeroW_ok S sf _ (hs.below hS.below) hok) rfl ?_
 rintro e W3 ⟨f0, rfl, hn, hb⟩
 refine ⟨_, rfl, hb, fun hS' => ?_⟩
 clear hS; have hS := hS'; clear hS'
 refine op_move rfl rfl ?_
 refine op_extract rfl rfl rfl ?_
 refine op_extract rfl rfl rfl ?_
 refine op_alloc (cs := [_, _, _, _, _, _]) hS Tryd.zeroValue47 rfl rfl ?_
 clear hS; intro B4 W4 hS
 refine op_storeA (i := 0) (vs := [_, _, _, _, _, _]) (cs' := [_, _, _, _, _, _]) (O' := [_, _, _]) hS Tryd.sizeOf47 rfl rfl rfl rfl rfl rfl rfl ?_
 clear hS; intro W5 hS
 refine op_assign rfl rfl ?_
 refine endF (XF.thenN ?_)
 refine seqF (regF ?_)
 refine op_loadA (vs := [_, _, _]) Tryd.isAgg25 Tryd.sizeOf25 rfl (CellsAt.own (j := 0) (m := 3) (hS.at_ 2 rfl) rfl) rfl ?_
 refine op_loadA (vs := [_, _, _, _, _, _]) Tryd.isAgg47 Tryd.sizeOf47 rfl (CellsAt.own (j := 0) (m := 6) (hS.at_ 0 rfl) rfl) rfl ?_
 refine op_build (us := [(0, .agg (List.toArray [_, _, _])), (1, .agg (List.toArray [_, _, _, _, _, _]))]) rfl (bld_77_0_1 _ _ _ _ _ _ _ _ _) rfl ?_
 refine op_storeA (i := 1) (vs := [_, _, _, _, _, _, _, _, _]) (cs' := [_, _, _, _, _, _, _, _, _]) (O' := [_, _, _]) hS Tryd.sizeOf77 rfl rfl rfl rfl rfl rfl rfl ?_
 clear hS; intro W6 hS
 refine endF (XF.thenN ?_)
 refine retF ?_
 refine XF.res (resC1 (vs := [_, _, _, _, _, _, _, _, _]) Tryd.results27 Tryd.isAgg77 Tryd.sizeOf77 rfl (CellsAt.own (j := 0) (m := 9) (hS.at_ 1 rfl) rfl)) ?_
 exact ⟨f0, rfl, (hn.agree (hS.since 0 rfl)).mono hsz, hS.below⟩
theorem ringOne_is (S : PS) (sf : SF) (f0 : WF) (w : World) (hs : SIs w S sf) (hok : S.ok) :
  Calls Tryd.prog 28 #[ringV sf f0] w (WRet S (oneX S) w) := by
 refine enterF (args := [ringV sf f0]) Tryd.func28 rfl Tryd.ntmps28 rfl ?_
 have hS := St.start w
 refine seqF (regF ?_)
 refine op_box (cs := [_, _, _, _, _, _, _, _, _]) hS rfl rfl rfl ?_
 clear hS; intro B1 W1 hS
 refine op_alloc (cs := [_, _, _, _, _, _]) hS Tryd.zeroValue47 rfl rfl ?_
 clear hS; intro B2 W2 hS
 refine endF (XF.thenN ?_)
 refine seqF (regF ?_)
 refine op_field (o' := 0) fa_77_0 rfl rfl rfl ?_
 refine op_loadA (vs := [_, _, _]) Tryd.isAgg25 Tryd.sizeOf25 rfl (CellsAt.own (j := 0) (m := 3) (hS.at_ 1 rfl) rfl) rfl ?_
 have hsz := hS.below.size
 refine op_call (vs := [_]) hS goes_44 rfl (OneW_ok S sf _ (hs.below hS.below) hok) rfl ?_
 rintro e W3 ⟨f, rfl, hn, hb⟩
 refine ⟨_, rfl, hb, fun hS' => ?_⟩
 clear hS; have hS := hS'; clear hS'
 refine op_move rfl rfl ?_
 refine op_extract rfl rfl rfl ?_
 refine op_extract rfl rfl rfl ?_
 refine op_alloc (cs := [_, _, _, _, _, _]) hS Tryd.zeroValue47 rfl rfl ?_
 clear hS; intro B4 W4 hS
 refine op_storeA (i := 0) (vs := [_, _, _, _, _, _]) (cs' := [_, _, _, _, _, _]) (O' := [_, _, _]) hS Tryd.sizeOf47 rfl rfl rfl rfl rfl rfl rfl ?_
 clear hS; intro W5 hS
 refine op_assign rfl rfl ?_
 refine endF (XF.thenN ?_)
 refine seqF (regF ?_)
 refine op_loadA (vs := [_, _, _, _, _, _]) Tryd.isAgg47 Tryd.sizeOf47 rfl (CellsAt.own (j := 0) (m := 6) (hS.at_ 0 rfl) rfl) rfl ?_
 refine op_storeA (i := 1) (vs := [_, _, _, _, _, _]) (cs' := [_, _, _, _, _, _]) (O' := [_, _, _]) hS Tryd.sizeOf47 rfl rfl rfl rfl rfl rfl rfl ?_
 clear hS; intro W6 hS
 refine endF (XF.thenN ?_)
 refine retF ?_
 refine XF.res (resC1 (vs := [_, _, _, _, _, _]) Tryd.results28 Tryd.isAgg47 Tryd.sizeOf47 rfl (CellsAt.own (j := 0) (m := 6) (hS.at_ 1 rfl) rfl)) ?_
 exact ⟨f, rfl, (hn.agree (hS.since 0 rfl)).mono hsz, hS.below⟩
theorem ringTimes_is (S : PS) (sf : SF) (rf : WF) (w : World) (hs : SIs w S sf) (hok : S.ok) (a : Option Addr) (c m : Nat) (f0 : WF) (x0 : PX) (ft : List WF) (xt : List PX) (hr : FRow w a (f0 :: ft)) (hx : XL w S (f0 :: ft) (x0 :: xt)) (hm : ft.length + 1 = m) (hmc : m ≤ c) (hmx : m ≤ 9223372036854775807) (ht : Tabs w) :
  Calls Tryd.prog 31 #[ringV sf rf, .slice a m c] w (WRet S (xt.foldl (extX S) x0) w) := by
 refine enterF (args := [ringV sf rf, .slice a m c]) Tryd.func31 rfl Tryd.ntmps31 rfl ?_
 have hS := St.start w
 refine seqF (regF ?_)
 refine op_box (cs := [_, _, _, _, _, _, _, _, _]) hS rfl rfl rfl ?_
 clear hS; intro B1 W1 hS
 refine op_alloc (cs := [_, _, _, _, _, _]) hS Tryd.zeroValue47 rfl rfl ?_
 clear hS; intro B2 W2 hS
 refine endF (XF.thenN ?_)
 refine seqF (regF ?_)
 refine op_field (o' := 0) fa_77_0 rfl rfl rfl ?_
 refine op_loadA (vs := [_, _, _]) Tryd.isAgg25 Tryd.sizeOf25 rfl (CellsAt.own (j := 0) (m := 3) (hS.at_ 1 rfl) rfl) rfl ?_
 refine op_move rfl rfl ?_
 have hsz := hS.below.size
 refine op_call (vs := [_, _]) hS goes_45 rfl (ExtendW_ok S sf _ (hs.below hS.below) hok a c m f0 x0 ft xt (hr.below hS.below) (hx.below hS.below) hm hmc hmx (ht.below hS.below)) rfl ?_
 rintro e W3 ⟨f, rfl, hn, hb⟩
 refine ⟨_, rfl, hb, fun hS' => ?_⟩
 clear hS; have hS := hS'; clear hS'
 refine op_move rfl rfl ?_
 refine op_extract rfl rfl rfl ?_
 refine op_extract rfl rfl rfl ?_
 refine op_alloc (cs := [_, _, _, _, _, _]) hS Tryd.zeroValue47 rfl rfl ?_
 clear hS; intro B4 W4 hS
 refine op_storeA (i := 0) (vs := [_, _, _, _, _, _]) (cs' := [_, _, _, _, _, _]) (O' := [_, _, _]) hS Tryd.sizeOf47 rfl rfl rfl rfl rfl rfl rfl ?_
 clear hS; intro W5 hS
 refine op_assign rfl rfl ?_
 refine endF (XF.thenN ?_)
 refine seqF (regF ?_)
 refine op_loadA (vs := [_, _, _, _, _, _]) Tryd.isAgg47 Tryd.sizeOf47 rfl (CellsAt.own (j := 0) (m := 6) (hS.at_ 0 rfl) rfl) rfl ?_
 refine op_storeA (i := 1) (vs := [_, _, _, _, _, _]) (cs' := [_, _, _, _, _, _]) (O' := [_, _, _]) hS Tryd.sizeOf47 rfl rfl rfl rfl rfl rfl rfl ?_
 clear hS; intro W6 hS
 refine endF (XF.thenN ?_)
 refine retF ?_
 refine XF.res (resC1 (vs := [_, _, _, _, _, _]) Tryd.results31 Tryd.isAgg47 Tryd.sizeOf47 rfl (CellsAt.own (j := 0) (m := 6) (hS.at_ 1 rfl) rfl)) ?_
 exact ⟨f, rfl, (hn.agree (hS.since 0 rfl)).mono hsz, hS.below⟩
end Go.Proofs.YtfkbkekgnoanaaaDoor
