import Derived.IntWalk
import Derived.Laws.Tables
import Derived.Laws.Concat
import Derived.Laws.MakeOwn
import Derived.Test.YtjcminoaiieckaaGreatDoorProg
import Derived.Laws.OwnMore
import Derived.OwnWalk
import Derived.Lib.TrailingZeros
import Derived.Laws.BitsAllLaws
import Derived.Laws.Bits64
import Derived.WalkKit
import Derived.WalkSmall
import Derived.Lib.Hide
import Derived.Deep.QuietTactic
import Derived.BigQuiet
import Derived.RegionTactic
import Derived.BigRegion
import Derived.Deep.RegionHeld3
import Derived.ChangeAlike
import Derived.Deep.AppendLies
import Derived.Laws.Small
import Derived.Deep.Slices
import Derived.Deep.Fields
import Derived.ChangeSame
import Derived.Lib.SmallJoins
import Derived.ChangeSlices
import Derived.ProofKit
import Derived.Test.YtjcminoaiieckaaGreatDoorRingA
import Derived.Test.YtjcminoaiieckaaGreatDoorRingB
import Derived.Test.YtjcminoaiieckaaGreatDoorRingC
import Derived.Test.YtjcminoaiieckaaGreatDoorMakesA
import Derived.Test.YtjcminoaiieckaaGreatDoorMakesB
set_option linter.unusedVariables false
set_option linter.unusedSimpArgs false
set_option linter.unusedSectionVars false
set_option linter.unnecessarySimpa false
namespace Go.Proofs.YtjcminoaiieckaaGreatDoor
open Go Go.RowKit
set_option linter.unusedVariables false
theorem PRow.agree {A W : World} {lo : Nat} {b : Option Addr} {ys : List WV} (h : PRow A b ys) (hl : ∀ ad, b = some ad → lo ≤ ad.block) (ha : Agree lo A W) : PRow W b ys := by
  rcases h with h | ⟨B, off, rfl, hc⟩
  · exact .inl h
  · exact .inr ⟨B, off, rfl, fun i p hi => (hc i p hi).agree (hl ⟨B, off, none⟩ rfl) ha⟩
theorem frow_of {w : World} {b : Option Addr} {ys : List WV} (h : PRow w b ys) : FRow w b (ys.map (·.f)) := by
  rcases h with rfl | ⟨B, off, rfl, hc⟩
  · exact .inl rfl
  · refine .inr ⟨B, off, rfl, fun i f hi => ?_⟩
    rw [List.getElem?_map] at hi
    cases hp : ys[i]? with
    | none => rw [hp] at hi; cases hi
    | some p => rw [hp] at hi; cases hi; exact hc i p hp
theorem xl_of {w : World} {S : PS} : ∀ {ys : List WV}, (∀ y ∈ ys, ∃ p, XIs w S y.f p) → ∃ xs, XL w S (ys.map (·.f)) xs
  | [], _ => ⟨[], xl_nil⟩
  | y :: ys, h => by
    obtain ⟨p, hp⟩ := h y List.mem_cons_self
    obtain ⟨xs, hx⟩ := xl_of fun z hz => h z (List.mem_cons_of_mem _ hz)
    exact ⟨p :: xs, xl_cons hp hx⟩
theorem sub1_i64 {k : Nat} (h : k < 4611686018427387904) : IntKind.i64.wrap (((k + 1 : Nat) : Int) - 1) = (k : Int) := by
  have e : ((k + 1 : Nat) : Int) - 1 = (k : Int) := by omega
  rw [e]; exact IntWalk.i64_in _ (by omega)
theorem ExtendW_any (S : PS) (sf : SF) (w : World) (hs : SIs w S sf) (hok : S.ok) (a : Option Addr) (c m : Nat) (fs : List WF) (xs : List PX) (hr : FRow w a fs) (hx : XL w S fs xs) (hm : fs.length = m) (hmc : m ≤ c) (hmx : m ≤ 9223372036854775807) (ht : Tabs w) : Calls Tryz.prog 29 #[sf.val, .slice a m c] w (WRet2 S (xs.foldl (extX S) (oneX S)) 0 w) := by
  match fs, xs, hx with
  | [], [], _ => subst hm; exact ExtendW_nil S sf w hs hok a c
  | [], x :: xs, hx => have := hx.1; simp at this
  | f :: fs, [], hx => have := hx.1; simp at this
  | f :: fs, x :: xs, hx =>
    have h0 := hx.2 0 f x rfl rfl
    have e : (x :: xs).foldl (extX S) (oneX S) = xs.foldl (extX S) x := by rw [List.foldl_cons, oneX_ext hok h0.ok]
    rw [e]
    exact ExtendW_ok S sf w hs hok a c m f x fs xs hr hx hm hmc hmx ht

set_option maxRecDepth 100000 in
set_option maxHeartbeats 4000000 in
theorem weightMakes_walk (ds d : Nat) (s : SV) (a : Option Addr) (m c : Nat) (xs : List WV) (w : World) (hs : SIn w ds s) (hrow : PRow w a xs) (hlen : xs.length = m) (hin : ∀ x ∈ xs, WIn w d x) (hmx : m ≤ 9223372036854775807) (ht : Tabs w) :
    Calls Tryz.prog 4 #[s.f.val, .slice a m c] w (fun e w' => e = .returned (.bool true) ∧ Below w.heap.size w w') := by
  refine enterF (args := [s.f.val, .slice a m c]) Tryz.func4 rfl Tryz.ntmps4 rfl ?_
  have hS := St.start w
  refine seqF ?_
  refine regF ?_
  refine op_box (cs := [_, _, _]) hS rfl rfl rfl ?_
  clear hS; intro B1 W1 hS
  refine op_assign rfl rfl ?_
  refine endF ?_
  refine XF.thenN ?_
  refine seqF ?_
  refine regF ?_
  refine op_move rfl rfl ?_
  have hsz := hS.below.size
  refine op_call (vs := [_]) hS goes_26 rfl (few_is d a m c xs _ (hrow.below hS.below) hlen (fun x hx => WIn.below hS.below (hin x hx)) hmx) rfl ?_
  rintro e W2 ⟨fa, fn, fc, ys, rfl, hyl, hfc, hf12, hyrow, hyb, hys, hb⟩
  refine ⟨_, rfl, hb, fun hS' => ?_⟩
  clear hS; have hS := hS'; clear hS' hb
  obtain ⟨lo, A, hyr, hS⟩ : ∃ lo A, (∀ W, Agree lo A W → PRow W fa ys) ∧ St w [(B1, [.int .i64 s.f.tag, .int .i64 s.f.dim, .slice s.f.a s.f.len s.f.cap], 25)] [] [(lo, A)] _ := ⟨_, _, fun W ha => hyrow.agree hyb ha, hS⟩
  have hyin : ∀ y ∈ ys, WIn w d y := fun y hy => hin y (hys y hy).1
  have hysm : ∀ y ∈ ys, smN 4 y = true := fun y hy => (hys y hy).2
  have hfx : fn ≤ 9223372036854775807 := by omega
  clear hyrow hyb
  refine op_assign rfl rfl ?_
  refine endF ?_
  refine XF.thenN ?_
  refine seqF ?_
  refine seqF ?_
  refine regF ?_
  refine op_loadA (vs := [_, _, _]) Tryz.isAgg25 Tryz.sizeOf25 rfl (CellsAt.own (j := 0) (m := 3) (hS.at_ 0 rfl) rfl) rfl ?_
  refine op_call (vs := [_, _]) hS goes_9 rfl (smallSpace_is 4 0 ds s _ (by omega) (SIn.below hS.below hs)) rfl ?_
  rintro e W3 ⟨rfl, hb⟩
  refine ⟨_, rfl, hb, fun hS' => ?_⟩
  clear hS; have hS := hS'; clear hS' hb
  refine op_not rfl rfl ?_
  refine endF ?_
  refine XF.thenN ?_
  refine condF rfl (fun hc => ?_) (fun hc => ?_)
  · have hc22 := hc; clear hc
    refine seqF ?_
    refine regF ?_
    refine op_call (vs := []) hS goes_11 rfl (aliveW_is _ (ht.below hS.below)) rfl ?_
    rintro e W4 ⟨rfl, hb⟩
    refine ⟨_, rfl, hb, fun hS' => ?_⟩
    clear hS; have hS := hS'; clear hS' hb
    refine op_assign rfl rfl ?_
    refine endF ?_
    refine XF.thenN ?_
    refine retF ?_
    refine XF.thenR ?_
    refine XF.res (res1 Tryz.results4 rfl) ?_
    exact ⟨rfl, hS.below⟩
  · have hc22 := hc; clear hc
    refine skipF ?_
    refine XF.thenN ?_
    refine seqF ?_
    by_cases hck : chkL s ys = 0
    · obtain ⟨hse, hall⟩ := chkL_0 hck
      obtain ⟨S, hok, hsi, hwx⟩ := space_of hs hse
      obtain ⟨pxs, hxl⟩ := xl_of fun y hy => hwx y d (hyin y hy) (hall y hy)
      have hml : (ys.map (·.f)).length = fn := by rw [List.length_map]; exact hyl
      refine regF ?_
      refine op_loadA (vs := [_, _, _]) Tryz.isAgg25 Tryz.sizeOf25 rfl (CellsAt.own (j := 0) (m := 3) (hS.at_ 0 rfl) rfl) rfl ?_
      refine op_move rfl rfl ?_
      have hz1 := hS.below.size
      refine op_call (vs := [_, _]) hS goes_27 rfl (CombineW_ok S s.f _ (hsi.below hS.below) hok fa fc fn _ pxs (frow_of (hyr _ (hS.since 1 rfl))) (hxl.below hS.below) hml hfx (ht.below hS.below)) rfl ?_
      rintro e W5 ⟨f1, rfl, hn1, hb⟩
      refine ⟨_, rfl, hb, fun hS' => ?_⟩
      clear hS; have hS := hS'; clear hS' hb
      refine op_move rfl rfl ?_
      refine op_extract rfl rfl rfl ?_
      refine op_extract rfl rfl rfl ?_
      refine op_alloc (cs := [_, _, _, _, _, _]) hS Tryz.zeroValue33 rfl rfl ?_
      clear hS; intro B6 W6 hS
      refine op_storeA (i := 0) (vs := [_, _, _, _, _, _]) (cs' := [_, _, _, _, _, _]) (O' := [_, _]) hS Tryz.sizeOf33 rfl rfl rfl rfl rfl rfl rfl ?_
      clear hS; intro W7 hS
      refine op_assign rfl rfl ?_
      refine endF ?_
      refine XF.thenN ?_
      refine seqF ?_
      refine regF ?_
      refine op_loadA (vs := [_, _, _]) Tryz.isAgg25 Tryz.sizeOf25 rfl (CellsAt.own (j := 0) (m := 3) (hS.at_ 1 rfl) rfl) rfl ?_
      refine op_move rfl rfl ?_
      refine op_call (vs := [_, _]) hS goes_28 rfl (CombineR_ok S s.f _ (hsi.below hS.below) hok _ (keepsB_below w) hS.below fa fc fn _ pxs (frow_of (hyr _ (hS.since 2 rfl))) hxl.far hml hfx) rfl ?_
      rintro e W8 ⟨f2, rfl, hf2, hb⟩
      refine ⟨_, rfl, hb, fun hS' => ?_⟩
      clear hS; have hS := hS'; clear hS' hb
      refine op_move rfl rfl ?_
      refine op_extract rfl rfl rfl ?_
      refine op_extract rfl rfl rfl ?_
      refine op_alloc (cs := [_, _, _, _, _, _]) hS Tryz.zeroValue33 rfl rfl ?_
      clear hS; intro B9 W9 hS
      refine op_storeA (i := 0) (vs := [_, _, _, _, _, _]) (cs' := [_, _, _, _, _, _]) (O' := [_, _, _]) hS Tryz.sizeOf33 rfl rfl rfl rfl rfl rfl rfl ?_
      clear hS; intro W10 hS
      refine op_assign rfl rfl ?_
      refine endF ?_
      refine XF.thenN ?_
      refine seqF ?_
      refine regF ?_
      refine op_loadA (vs := [_, _, _]) Tryz.isAgg25 Tryz.sizeOf25 rfl (CellsAt.own (j := 0) (m := 3) (hS.at_ 2 rfl) rfl) rfl ?_
      refine op_move rfl rfl ?_
      have hz1 := hS.below.size
      refine op_call (vs := [_, _]) hS goes_29 rfl (ExtendW_any S s.f _ (hsi.below hS.below) hok fa fc fn _ pxs (frow_of (hyr _ (hS.since 3 rfl))) (hxl.below hS.below) hml hfc hfx (ht.below hS.below)) rfl ?_
      rintro e W11 ⟨f3, rfl, hn3, hb⟩
      refine ⟨_, rfl, hb, fun hS' => ?_⟩
      clear hS; have hS := hS'; clear hS' hb
      refine op_move rfl rfl ?_
      refine op_extract rfl rfl rfl ?_
      refine op_extract rfl rfl rfl ?_
      refine op_alloc (cs := [_, _, _, _, _, _]) hS Tryz.zeroValue33 rfl rfl ?_
      clear hS; intro B12 W12 hS
      refine op_storeA (i := 0) (vs := [_, _, _, _, _, _]) (cs' := [_, _, _, _, _, _]) (O' := [_, _, _, _]) hS Tryz.sizeOf33 rfl rfl rfl rfl rfl rfl rfl ?_
      clear hS; intro W13 hS
      refine op_assign rfl rfl ?_
      refine endF ?_
      refine XF.thenN ?_
      refine seqF ?_
      refine regF ?_
      refine op_loadA (vs := [_, _, _]) Tryz.isAgg25 Tryz.sizeOf25 rfl (CellsAt.own (j := 0) (m := 3) (hS.at_ 3 rfl) rfl) rfl ?_
      refine op_move rfl rfl ?_
      refine op_call (vs := [_, _]) hS goes_30 rfl (ExtendR_ok S s.f _ (hsi.below hS.below) hok _ (keepsB_below w) hS.below fa fc fn _ pxs (frow_of (hyr _ (hS.since 4 rfl))) hxl.far hml hfx) rfl ?_
      rintro e W14 ⟨f4, rfl, hf4, hb⟩
      refine ⟨_, rfl, hb, fun hS' => ?_⟩
      clear hS; have hS := hS'; clear hS' hb
      refine op_move rfl rfl ?_
      refine op_extract rfl rfl rfl ?_
      refine op_extract rfl rfl rfl ?_
      refine op_alloc (cs := [_, _, _, _, _, _]) hS Tryz.zeroValue33 rfl rfl ?_
      clear hS; intro B15 W15 hS
      refine op_storeA (i := 0) (vs := [_, _, _, _, _, _]) (cs' := [_, _, _, _, _, _]) (O' := [_, _, _, _, _]) hS Tryz.sizeOf33 rfl rfl rfl rfl rfl rfl rfl ?_
      clear hS; intro W16 hS
      refine op_assign rfl rfl ?_
      refine endF ?_
      refine XF.thenN ?_
      refine seqF ?_
      refine seqF ?_
      refine regF ?_
      refine op_loadA (vs := [_, _, _, _, _, _]) Tryz.isAgg33 Tryz.sizeOf33 rfl (CellsAt.own (j := 0) (m := 6) (hS.at_ 3 rfl) rfl) rfl ?_
      refine op_loadA (vs := [_, _, _, _, _, _]) Tryz.isAgg33 Tryz.sizeOf33 rfl (CellsAt.own (j := 0) (m := 6) (hS.at_ 2 rfl) rfl) rfl ?_
      refine op_call (vs := [_, _]) hS goes_22 rfl (sameW_is (hn1.agree (hS.since 3 rfl)).is (hf2.is ⟨hS.below, hS.since 2 rfl⟩) true (by simp)) rfl ?_
      rintro e W17 ⟨rfl, hb⟩
      refine ⟨_, rfl, hb, fun hS' => ?_⟩
      clear hS; have hS := hS'; clear hS' hb
      refine op_not rfl rfl ?_
      refine op_move rfl rfl ?_
      refine op_wantedF (d := 52) rfl rfl ?_
      refine op_move rfl rfl ?_
      refine op_wantedF (d := 52) rfl rfl ?_
      refine op_move rfl rfl ?_
      refine op_wantedF (d := 52) rfl rfl ?_
      refine op_neq rfl rfl rfl ?_
      refine op_pickF rfl rfl rfl ?_
      refine op_move rfl rfl ?_
      refine op_cases (d := 57) rfl (fun hc => absurd (of_decide_eq_true hc) (by exact fun h => h rfl)) (fun hc => ?_)
      have hc := of_decide_eq_false hc
      refine op_wantedF (d := 57) rfl rfl ?_
      refine op_loadA (vs := [_, _, _, _, _, _]) Tryz.isAgg33 Tryz.sizeOf33 rfl (CellsAt.own (j := 0) (m := 6) (hS.at_ 1 rfl) rfl) rfl ?_
      refine op_wantedF (d := 57) rfl rfl ?_
      refine op_loadA (vs := [_, _, _, _, _, _]) Tryz.isAgg33 Tryz.sizeOf33 rfl (CellsAt.own (j := 0) (m := 6) (hS.at_ 0 rfl) rfl) rfl ?_
      refine op_wantedF (d := 57) rfl rfl ?_
      refine op_call (vs := [_, _]) hS goes_22 rfl (sameW_is (hn3.agree (hS.since 2 rfl)).is (hf4.is ⟨hS.below, hS.since 1 rfl⟩) true (by simp)) rfl ?_
      rintro e W18 ⟨rfl, hb⟩
      refine ⟨_, rfl, hb, fun hS' => ?_⟩
      clear hS; have hS := hS'; clear hS' hb
      refine op_wantedF (d := 57) rfl rfl ?_
      refine op_not rfl rfl ?_
      refine op_pickF rfl rfl rfl ?_
      refine op_move rfl rfl ?_
      refine op_wantedF (d := 63) rfl rfl ?_
      refine op_move rfl rfl ?_
      refine op_wantedF (d := 63) rfl rfl ?_
      refine op_move rfl rfl ?_
      refine op_wantedF (d := 63) rfl rfl ?_
      refine op_neq rfl rfl rfl ?_
      refine op_pickF rfl rfl rfl ?_
      refine endF ?_
      refine XF.thenN ?_
      refine condF rfl (fun hc => absurd (of_decide_eq_true hc) (by exact fun h => h rfl)) (fun hc => ?_)
      have hc := of_decide_eq_false hc
      refine skipF ?_
      refine XF.thenN ?_
      refine seqF ?_
      refine seqF ?_
      have hS := hS.tail.tail.tail.tail
      refine regF ?_
      refine op_assign rfl rfl ?_
      refine endF ?_
      refine XF.thenN ?_
      refine blockF ?_
      refine loopF (fun q l W => ∃ k0 : Nat, k0 ≤ 12 ∧ q = 12 - k0 ∧ l = [(1, .slice fa fn fc), (2, .pointer (some ⟨B1, 0, none⟩)), (13, .int .i64 ((k0 + 1 : Nat) : Int))] ∧ St w [(B1, [.int .i64 s.f.tag, .int .i64 s.f.dim, .slice s.f.a s.f.len s.f.cap], 25)] [] [(lo, A)] W) (12 - 0) ([(1, _), (2, _), (13, _)]) ⟨rfl, rfl, rfl, trivial⟩ (⟨0, Nat.zero_le _, rfl, rfl, hS.keep [_] (fun q hq => by simp only [List.mem_cons, List.not_mem_nil, or_false] at hq; subst hq; simp)⟩) ?_
      clear hS
      rintro q l W ⟨k0, hkm, rfl, rfl, hS⟩
      refine seqF ?_
      refine seqF ?_
      refine regF ?_
      refine op_move rfl rfl ?_
      refine op_move rfl rfl ?_
      refine op_len Tryz.underlying31 rfl rfl ?_
      refine op_lss rfl rfl rfl ?_
      refine endF ?_
      refine XF.thenN ?_
      refine condF rfl (fun hc => ?_) (fun hc => ?_)
      · have hc71 := of_decide_eq_true hc; clear hc
        have hk : k0 + 1 < fn := by omega
        obtain ⟨y1, hy1⟩ : ∃ y, ys[k0]? = some y := ⟨ys[k0]'(by omega), List.getElem?_eq_getElem _⟩
        obtain ⟨y2, hy2⟩ : ∃ y, ys[k0 + 1]? = some y := ⟨ys[k0 + 1]'(by omega), List.getElem?_eq_getElem _⟩
        have hm1 := List.mem_of_getElem? hy1
        have hm2 := List.mem_of_getElem? hy2
        obtain ⟨b, off, ea, hbl, h6⟩ := (hyr _ (hS.since 0 rfl)).at_ hy1
        obtain ⟨b', off', ea', hbl', h7⟩ := (hyr _ (hS.since 0 rfl)).at_ hy2
        rw [ea] at ea'
        cases ea'
        have k6 := h6.cells
        have k7 := h7.cells
        have hX1 := hyin y1 hm1
        have hX2 := hyin y2 hm2
        have hS1 := hysm y1 hm1
        have hS2 := hysm y2 hm2
        refine skipF ?_
        refine XF.thenN ?_
        refine seqF ?_
        refine blockF ?_
        refine seqF ?_
        subst ea
        by_cases hc2 : chkL s [y1, y2] = 0
        · obtain ⟨hse2, hall2⟩ := chkL_0 hc2
          obtain ⟨S2, hok2, hsi2, hwx2⟩ := space_of hs hse2
          obtain ⟨p1, hp1⟩ := hwx2 y1 d hX1 (hall2 y1 (by simp))
          obtain ⟨p2, hp2⟩ := hwx2 y2 d hX2 (hall2 y2 (by simp))
          obtain ⟨r, hr⟩ : ∃ r : Bool, r = true ↔ combX S2 p1 p2 = p2 := by classical exact ⟨decide _, decide_eq_true_iff⟩
          refine regB (m := 16) followsM hS (by kernel_rfl) (by kernel_rfl) rfl ?_
          refine bl_cons 1 rfl (isV _) (stab_isV _) (rgV (li := [(2, _)]) rfl (w_free rfl) ⟨g_fr (by kernel_rfl) rfl, trivial⟩ (fun w hw => rn_loadA (vs := [_, _, _]) Tryz.isAgg25 Tryz.sizeOf25 rfl (CellsAt.agree (below_agree hw 0) (Nat.zero_le _) (CellsAt.own (j := 0) (m := 3) (hS.at_ 0 rfl) rfl))) (at_top rfl)) ?_
          refine bl_cons 2 rfl (isV _) (stab_isV _) (rgV (li := [(1, _)]) rfl (w_free rfl) ⟨g_fr (by kernel_rfl) rfl, trivial⟩ (fun w hw => rn_move rfl) (at_top rfl)) ?_
          refine bl_cons 3 rfl (isV _) (stab_isV _) (rgV (li := [(13, _)]) rfl (w_free rfl) ⟨g_fr (by kernel_rfl) rfl, trivial⟩ (fun w hw => rn_move rfl) (at_top rfl)) ?_
          refine bl_cons 4 rfl (isV _) (stab_isV _) (rgV (li := [(77, _)]) rfl (w_free rfl) ⟨g_dep 2 (by kernel_rfl) (at_dep rfl rfl rfl), trivial⟩ (fun w hw => rn_sub rfl rfl ((show IntKind.i64.wrap (((k0 + 1 : Nat) : Int) - 1) = (k0 : Int) from sub1_i64 (by omega)))) (at_top rfl)) ?_
          refine bl_cons 5 rfl (isV _) (stab_isV _) (rgV (li := [(76, _), (78, _)]) rfl (w_free rfl) ⟨g_dep 1 (by kernel_rfl) (at_dep rfl rfl rfl), g_dep 3 (by kernel_rfl) (at_dep rfl rfl rfl), trivial⟩ (fun w hw => rn_indexA  Tryz.underlying31 Tryz.sizeOf33 rfl rfl rfl (by omega) rfl) (at_top rfl)) ?_
          refine bl_cons 6 rfl (isV _) (stab_isV _) (rgV (li := [(79, _)]) rfl (w_free rfl) ⟨g_dep 4 (by kernel_rfl) (at_dep rfl rfl rfl), trivial⟩ (fun w hw => rn_loadA (vs := [_, _, _, _, _, _]) Tryz.isAgg33 Tryz.sizeOf33 rfl (CellsAt.agree (below_agree hw 0) (Nat.zero_le _) (by assumption))) (at_top rfl)) ?_
          refine bl_cons 7 rfl (isV _) (stab_isV _) (rgV (li := [(1, _)]) rfl (w_free rfl) ⟨g_fr (by kernel_rfl) rfl, trivial⟩ (fun w hw => rn_move rfl) (at_top rfl)) ?_
          refine bl_cons 8 rfl (isV _) (stab_isV _) (rgV (li := [(13, _)]) rfl (w_free rfl) ⟨g_fr (by kernel_rfl) rfl, trivial⟩ (fun w hw => rn_move rfl) (at_top rfl)) ?_
          refine bl_cons 9 rfl (isV _) (stab_isV _) (rgV (li := [(81, _), (82, _)]) rfl (w_free rfl) ⟨g_dep 6 (by kernel_rfl) (at_dep rfl rfl rfl), g_dep 7 (by kernel_rfl) (at_dep rfl rfl rfl), trivial⟩ (fun w hw => rn_indexA  Tryz.underlying31 Tryz.sizeOf33 rfl rfl rfl (by omega) rfl) (at_top rfl)) ?_
          refine bl_cons 10 rfl (isV _) (stab_isV _) (rgV (li := [(83, _)]) rfl (w_free rfl) ⟨g_dep 8 (by kernel_rfl) (at_dep rfl rfl rfl), trivial⟩ (fun w hw => rn_loadA (vs := [_, _, _, _, _, _]) Tryz.isAgg33 Tryz.sizeOf33 rfl (CellsAt.agree (below_agree hw 0) (Nat.zero_le _) (by assumption))) (at_top rfl)) ?_
          refine bl_cons 11 rfl (isV (.tuple #[.bool r, .int .i64 0])) (stab_isV _) (rg_call [isV _, isV _, isV _] rfl goes_31 (w_free rfl) ⟨p_tmp (g_dep 0 (by kernel_rfl) (at_dep rfl rfl rfl)), p_tmp (g_dep 5 (by kernel_rfl) (at_dep rfl rfl rfl)), p_tmp (g_dep 9 (by kernel_rfl) (at_dep rfl rfl rfl)), trivial⟩ (fun vs w' hb hh => by have e := holds_isV (us := [_, _, _]) hh; subst e; exact (BelowW_ok S2 s.f y1.f y2.f p1 p2 _ (hsi2.below (hS.below.trans (hb.mono hS.below.size))) hok2 (hp1.below (hS.below.trans (hb.mono hS.below.size))) (hp2.below (hS.below.trans (hb.mono hS.below.size))) r hr (ht.below (hS.below.trans (hb.mono hS.below.size)))).mono fun e w2 h => ⟨_, h.1, rfl, h.2⟩) (at_top rfl)) ?_
          refine bl_cons 12 rfl (isV _) (stab_isV _) (rgV (li := [(85, _)]) rfl (w_free rfl) ⟨g_dep 10 (by kernel_rfl) (at_dep rfl rfl rfl), trivial⟩ (fun w hw => rn_move rfl) (at_top rfl)) ?_
          refine bl_cons 13 rfl (isV _) (stab_isV _) (rgV (li := [(74, _)]) rfl (w_free rfl) ⟨g_dep 11 (by kernel_rfl) (at_dep rfl rfl rfl), trivial⟩ (fun w hw => rn_extract rfl rfl) (at_top rfl)) ?_
          refine bl_cons 14 rfl (isV _) (stab_isV _) (rgV (li := [(74, _)]) rfl (w_free rfl) ⟨g_dep 11 (by kernel_rfl) (at_dep rfl rfl rfl), trivial⟩ (fun w hw => rn_extract rfl rfl) (at_top rfl)) ?_
          refine bl_cons 15 rfl (isV _) (stab_isV _) (rgV (li := [(86, _)]) rfl (w_free rfl) ⟨g_dep 12 (by kernel_rfl) (at_dep rfl rfl rfl), trivial⟩ (fun w hw => rn_assign rfl) (at_top rfl)) ?_
          refine bl_cons 16 rfl (isV _) (stab_isV _) (rgV (li := [(87, _)]) rfl (w_free rfl) ⟨g_dep 13 (by kernel_rfl) (at_dep rfl rfl rfl), trivial⟩ (fun w hw => rn_assign rfl) (at_top rfl)) ?_
          refine bl_nil ?_
          intro W19 hbR hS'
          clear hS; have hS := hS'; clear hS'
          refine fin_v ?_
          refine fin_v ?_
          refine fin_v ?_
          refine fin_v ?_
          refine fin_v ?_
          refine fin_v ?_
          refine fin_v ?_
          refine fin_v ?_
          refine fin_v ?_
          refine fin_v ?_
          refine fin_v ?_
          refine fin_v ?_
          refine fin_v ?_
          refine fin_v ?_
          refine fin_v ?_
          refine fin_v ?_
          refine fin_nil ?_
          refine XF.thenN ?_
          refine seqF ?_
          have k6 := (CellsAt.agree (below_agree hbR 0) (Nat.zero_le _) k6)
          have k7 := (CellsAt.agree (below_agree hbR 0) (Nat.zero_le _) k7)
          refine regB (m := 16) followsM hS (by kernel_rfl) (by kernel_rfl) rfl ?_
          refine bl_cons 1 rfl (isV _) (stab_isV _) (rgV (li := [(2, _)]) rfl (w_free rfl) ⟨g_fr (by kernel_rfl) rfl, trivial⟩ (fun w hw => rn_loadA (vs := [_, _, _]) Tryz.isAgg25 Tryz.sizeOf25 rfl (CellsAt.agree (below_agree hw 0) (Nat.zero_le _) (CellsAt.own (j := 0) (m := 3) (hS.at_ 0 rfl) rfl))) (at_top rfl)) ?_
          refine bl_cons 2 rfl (isV _) (stab_isV _) (rgV (li := [(1, _)]) rfl (w_free rfl) ⟨g_fr (by kernel_rfl) rfl, trivial⟩ (fun w hw => rn_move rfl) (at_top rfl)) ?_
          refine bl_cons 3 rfl (isV _) (stab_isV _) (rgV (li := [(13, _)]) rfl (w_free rfl) ⟨g_fr (by kernel_rfl) rfl, trivial⟩ (fun w hw => rn_move rfl) (at_top rfl)) ?_
          refine bl_cons 4 rfl (isV _) (stab_isV _) (rgV (li := [(91, _)]) rfl (w_free rfl) ⟨g_dep 2 (by kernel_rfl) (at_dep rfl rfl rfl), trivial⟩ (fun w hw => rn_sub rfl rfl ((show IntKind.i64.wrap (((k0 + 1 : Nat) : Int) - 1) = (k0 : Int) from sub1_i64 (by omega)))) (at_top rfl)) ?_
          refine bl_cons 5 rfl (isV _) (stab_isV _) (rgV (li := [(90, _), (92, _)]) rfl (w_free rfl) ⟨g_dep 1 (by kernel_rfl) (at_dep rfl rfl rfl), g_dep 3 (by kernel_rfl) (at_dep rfl rfl rfl), trivial⟩ (fun w hw => rn_indexA  Tryz.underlying31 Tryz.sizeOf33 rfl rfl rfl (by omega) rfl) (at_top rfl)) ?_
          refine bl_cons 6 rfl (isV _) (stab_isV _) (rgV (li := [(93, _)]) rfl (w_free rfl) ⟨g_dep 4 (by kernel_rfl) (at_dep rfl rfl rfl), trivial⟩ (fun w hw => rn_loadA (vs := [_, _, _, _, _, _]) Tryz.isAgg33 Tryz.sizeOf33 rfl (CellsAt.agree (below_agree hw 0) (Nat.zero_le _) (by assumption))) (at_top rfl)) ?_
          refine bl_cons 7 rfl (isV _) (stab_isV _) (rgV (li := [(1, _)]) rfl (w_free rfl) ⟨g_fr (by kernel_rfl) rfl, trivial⟩ (fun w hw => rn_move rfl) (at_top rfl)) ?_
          refine bl_cons 8 rfl (isV _) (stab_isV _) (rgV (li := [(13, _)]) rfl (w_free rfl) ⟨g_fr (by kernel_rfl) rfl, trivial⟩ (fun w hw => rn_move rfl) (at_top rfl)) ?_
          refine bl_cons 9 rfl (isV _) (stab_isV _) (rgV (li := [(95, _), (96, _)]) rfl (w_free rfl) ⟨g_dep 6 (by kernel_rfl) (at_dep rfl rfl rfl), g_dep 7 (by kernel_rfl) (at_dep rfl rfl rfl), trivial⟩ (fun w hw => rn_indexA  Tryz.underlying31 Tryz.sizeOf33 rfl rfl rfl (by omega) rfl) (at_top rfl)) ?_
          refine bl_cons 10 rfl (isV _) (stab_isV _) (rgV (li := [(97, _)]) rfl (w_free rfl) ⟨g_dep 8 (by kernel_rfl) (at_dep rfl rfl rfl), trivial⟩ (fun w hw => rn_loadA (vs := [_, _, _, _, _, _]) Tryz.isAgg33 Tryz.sizeOf33 rfl (CellsAt.agree (below_agree hw 0) (Nat.zero_le _) (by assumption))) (at_top rfl)) ?_
          refine bl_cons 11 rfl (isV (.tuple #[.bool r, .int .i64 0])) (stab_isV _) (rg_call [isV _, isV _, isV _] rfl goes_32 (w_free rfl) ⟨p_tmp (g_dep 0 (by kernel_rfl) (at_dep rfl rfl rfl)), p_tmp (g_dep 5 (by kernel_rfl) (at_dep rfl rfl rfl)), p_tmp (g_dep 9 (by kernel_rfl) (at_dep rfl rfl rfl)), trivial⟩ (fun vs w' hb hh => by have e := holds_isV (us := [_, _, _]) hh; subst e; exact (BelowR_ok S2 s.f y1.f y2.f p1 p2 _ (hsi2.below (hS.below.trans (hb.mono hS.below.size))) hok2 (hp1.below (hS.below.trans (hb.mono hS.below.size))) (hp2.below (hS.below.trans (hb.mono hS.below.size))) r hr).mono fun e w2 h => ⟨_, h.1, rfl, h.2⟩) (at_top rfl)) ?_
          refine bl_cons 12 rfl (isV _) (stab_isV _) (rgV (li := [(99, _)]) rfl (w_free rfl) ⟨g_dep 10 (by kernel_rfl) (at_dep rfl rfl rfl), trivial⟩ (fun w hw => rn_move rfl) (at_top rfl)) ?_
          refine bl_cons 13 rfl (isV _) (stab_isV _) (rgV (li := [(88, _)]) rfl (w_free rfl) ⟨g_dep 11 (by kernel_rfl) (at_dep rfl rfl rfl), trivial⟩ (fun w hw => rn_extract rfl rfl) (at_top rfl)) ?_
          refine bl_cons 14 rfl (isV _) (stab_isV _) (rgV (li := [(88, _)]) rfl (w_free rfl) ⟨g_dep 11 (by kernel_rfl) (at_dep rfl rfl rfl), trivial⟩ (fun w hw => rn_extract rfl rfl) (at_top rfl)) ?_
          refine bl_cons 15 rfl (isV _) (stab_isV _) (rgV (li := [(100, _)]) rfl (w_free rfl) ⟨g_dep 12 (by kernel_rfl) (at_dep rfl rfl rfl), trivial⟩ (fun w hw => rn_assign rfl) (at_top rfl)) ?_
          refine bl_cons 16 rfl (isV _) (stab_isV _) (rgV (li := [(101, _)]) rfl (w_free rfl) ⟨g_dep 13 (by kernel_rfl) (at_dep rfl rfl rfl), trivial⟩ (fun w hw => rn_assign rfl) (at_top rfl)) ?_
          refine bl_nil ?_
          intro W20 hbR hS'
          clear hS; have hS := hS'; clear hS'
          refine fin_v ?_
          refine fin_v ?_
          refine fin_v ?_
          refine fin_v ?_
          refine fin_v ?_
          refine fin_v ?_
          refine fin_v ?_
          refine fin_v ?_
          refine fin_v ?_
          refine fin_v ?_
          refine fin_v ?_
          refine fin_v ?_
          refine fin_v ?_
          refine fin_v ?_
          refine fin_v ?_
          refine fin_v ?_
          refine fin_nil ?_
          refine XF.thenN ?_
          refine seqF ?_
          refine regF ?_
          refine op_move rfl rfl ?_
          refine op_move rfl rfl ?_
          refine op_neqB Tryz.underlying4 rfl rfl rfl ?_
          refine op_move rfl rfl ?_
          refine op_cases (d := 105) rfl (fun hc => absurd hc (by simp)) (fun hc => ?_)
          skip
          refine op_wantedF (d := 105) rfl rfl ?_
          refine op_move rfl rfl ?_
          refine op_wantedF (d := 105) rfl rfl ?_
          refine op_move rfl rfl ?_
          refine op_wantedF (d := 105) rfl rfl ?_
          refine op_neq rfl rfl rfl ?_
          refine op_pickF rfl rfl rfl ?_
          refine endF ?_
          refine XF.thenN ?_
          refine condF rfl (fun hc => absurd (of_decide_eq_true hc) (by exact fun h => h rfl)) (fun hc => ?_)
          have hc := of_decide_eq_false hc
          refine skipF ?_
          refine XF.blkN ?_
          refine XF.thenN ?_
          refine regF ?_
          refine op_move rfl rfl ?_
          refine op_add rfl rfl (IntWalk.i64_in _ (by omega)) rfl ?_
          refine op_assign rfl rfl ?_
          refine endF ?_
          exact XF.round (12 - (k0 + 1)) [(1, _), (2, _), (13, _)] (by omega) ⟨rfl, rfl, rfl, trivial⟩ ⟨k0 + 1, by omega, rfl, rfl, hS.keep [_] (fun q hq => by simp only [List.mem_cons, List.not_mem_nil, or_false] at hq; subst hq; simp)⟩
        · skip
          refine regB (m := 16) followsM hS (by kernel_rfl) (by kernel_rfl) rfl ?_
          refine bl_cons 1 rfl (isV _) (stab_isV _) (rgV (li := [(2, _)]) rfl (w_free rfl) ⟨g_fr (by kernel_rfl) rfl, trivial⟩ (fun w hw => rn_loadA (vs := [_, _, _]) Tryz.isAgg25 Tryz.sizeOf25 rfl (CellsAt.agree (below_agree hw 0) (Nat.zero_le _) (CellsAt.own (j := 0) (m := 3) (hS.at_ 0 rfl) rfl))) (at_top rfl)) ?_
          refine bl_cons 2 rfl (isV _) (stab_isV _) (rgV (li := [(1, _)]) rfl (w_free rfl) ⟨g_fr (by kernel_rfl) rfl, trivial⟩ (fun w hw => rn_move rfl) (at_top rfl)) ?_
          refine bl_cons 3 rfl (isV _) (stab_isV _) (rgV (li := [(13, _)]) rfl (w_free rfl) ⟨g_fr (by kernel_rfl) rfl, trivial⟩ (fun w hw => rn_move rfl) (at_top rfl)) ?_
          refine bl_cons 4 rfl (isV _) (stab_isV _) (rgV (li := [(77, _)]) rfl (w_free rfl) ⟨g_dep 2 (by kernel_rfl) (at_dep rfl rfl rfl), trivial⟩ (fun w hw => rn_sub rfl rfl ((show IntKind.i64.wrap (((k0 + 1 : Nat) : Int) - 1) = (k0 : Int) from sub1_i64 (by omega)))) (at_top rfl)) ?_
          refine bl_cons 5 rfl (isV _) (stab_isV _) (rgV (li := [(76, _), (78, _)]) rfl (w_free rfl) ⟨g_dep 1 (by kernel_rfl) (at_dep rfl rfl rfl), g_dep 3 (by kernel_rfl) (at_dep rfl rfl rfl), trivial⟩ (fun w hw => rn_indexA  Tryz.underlying31 Tryz.sizeOf33 rfl rfl rfl (by omega) rfl) (at_top rfl)) ?_
          refine bl_cons 6 rfl (isV _) (stab_isV _) (rgV (li := [(79, _)]) rfl (w_free rfl) ⟨g_dep 4 (by kernel_rfl) (at_dep rfl rfl rfl), trivial⟩ (fun w hw => rn_loadA (vs := [_, _, _, _, _, _]) Tryz.isAgg33 Tryz.sizeOf33 rfl (CellsAt.agree (below_agree hw 0) (Nat.zero_le _) (by assumption))) (at_top rfl)) ?_
          refine bl_cons 7 rfl (isV _) (stab_isV _) (rgV (li := [(1, _)]) rfl (w_free rfl) ⟨g_fr (by kernel_rfl) rfl, trivial⟩ (fun w hw => rn_move rfl) (at_top rfl)) ?_
          refine bl_cons 8 rfl (isV _) (stab_isV _) (rgV (li := [(13, _)]) rfl (w_free rfl) ⟨g_fr (by kernel_rfl) rfl, trivial⟩ (fun w hw => rn_move rfl) (at_top rfl)) ?_
          refine bl_cons 9 rfl (isV _) (stab_isV _) (rgV (li := [(81, _), (82, _)]) rfl (w_free rfl) ⟨g_dep 6 (by kernel_rfl) (at_dep rfl rfl rfl), g_dep 7 (by kernel_rfl) (at_dep rfl rfl rfl), trivial⟩ (fun w hw => rn_indexA  Tryz.underlying31 Tryz.sizeOf33 rfl rfl rfl (by omega) rfl) (at_top rfl)) ?_
          refine bl_cons 10 rfl (isV _) (stab_isV _) (rgV (li := [(83, _)]) rfl (w_free rfl) ⟨g_dep 8 (by kernel_rfl) (at_dep rfl rfl rfl), trivial⟩ (fun w hw => rn_loadA (vs := [_, _, _, _, _, _]) Tryz.isAgg33 Tryz.sizeOf33 rfl (CellsAt.agree (below_agree hw 0) (Nat.zero_le _) (by assumption))) (at_top rfl)) ?_
          refine bl_cons 11 rfl (isV (.tuple #[.bool false, .int .i64 (chkL s [y1, y2])])) (stab_isV _) (rg_call [isV _, isV _, isV _] rfl goes_31 (w_free rfl) ⟨p_tmp (g_dep 0 (by kernel_rfl) (at_dep rfl rfl rfl)), p_tmp (g_dep 5 (by kernel_rfl) (at_dep rfl rfl rfl)), p_tmp (g_dep 9 (by kernel_rfl) (at_dep rfl rfl rfl)), trivial⟩ (fun vs w' hb hh => by have e := holds_isV (us := [_, _, _]) hh; subst e; exact (BelowW_bad ds d s y1 y2 _ (SIn.below (hS.below.trans (hb.mono hS.below.size)) hs) (WIn.below (hS.below.trans (hb.mono hS.below.size)) hX1) (WIn.below (hS.below.trans (hb.mono hS.below.size)) hX2) hS1 hS2 hc2).mono fun e w2 h => ⟨_, h.1, rfl, h.2⟩) (at_top rfl)) ?_
          refine bl_cons 12 rfl (isV _) (stab_isV _) (rgV (li := [(85, _)]) rfl (w_free rfl) ⟨g_dep 10 (by kernel_rfl) (at_dep rfl rfl rfl), trivial⟩ (fun w hw => rn_move rfl) (at_top rfl)) ?_
          refine bl_cons 13 rfl (isV _) (stab_isV _) (rgV (li := [(74, _)]) rfl (w_free rfl) ⟨g_dep 11 (by kernel_rfl) (at_dep rfl rfl rfl), trivial⟩ (fun w hw => rn_extract rfl rfl) (at_top rfl)) ?_
          refine bl_cons 14 rfl (isV _) (stab_isV _) (rgV (li := [(74, _)]) rfl (w_free rfl) ⟨g_dep 11 (by kernel_rfl) (at_dep rfl rfl rfl), trivial⟩ (fun w hw => rn_extract rfl rfl) (at_top rfl)) ?_
          refine bl_cons 15 rfl (isV _) (stab_isV _) (rgV (li := [(86, _)]) rfl (w_free rfl) ⟨g_dep 12 (by kernel_rfl) (at_dep rfl rfl rfl), trivial⟩ (fun w hw => rn_assign rfl) (at_top rfl)) ?_
          refine bl_cons 16 rfl (isV _) (stab_isV _) (rgV (li := [(87, _)]) rfl (w_free rfl) ⟨g_dep 13 (by kernel_rfl) (at_dep rfl rfl rfl), trivial⟩ (fun w hw => rn_assign rfl) (at_top rfl)) ?_
          refine bl_nil ?_
          intro W21 hbR hS'
          clear hS; have hS := hS'; clear hS'
          refine fin_v ?_
          refine fin_v ?_
          refine fin_v ?_
          refine fin_v ?_
          refine fin_v ?_
          refine fin_v ?_
          refine fin_v ?_
          refine fin_v ?_
          refine fin_v ?_
          refine fin_v ?_
          refine fin_v ?_
          refine fin_v ?_
          refine fin_v ?_
          refine fin_v ?_
          refine fin_v ?_
          refine fin_v ?_
          refine fin_nil ?_
          refine XF.thenN ?_
          refine seqF ?_
          have k6 := (CellsAt.agree (below_agree hbR 0) (Nat.zero_le _) k6)
          have k7 := (CellsAt.agree (below_agree hbR 0) (Nat.zero_le _) k7)
          refine regB (m := 16) followsM hS (by kernel_rfl) (by kernel_rfl) rfl ?_
          refine bl_cons 1 rfl (isV _) (stab_isV _) (rgV (li := [(2, _)]) rfl (w_free rfl) ⟨g_fr (by kernel_rfl) rfl, trivial⟩ (fun w hw => rn_loadA (vs := [_, _, _]) Tryz.isAgg25 Tryz.sizeOf25 rfl (CellsAt.agree (below_agree hw 0) (Nat.zero_le _) (CellsAt.own (j := 0) (m := 3) (hS.at_ 0 rfl) rfl))) (at_top rfl)) ?_
          refine bl_cons 2 rfl (isV _) (stab_isV _) (rgV (li := [(1, _)]) rfl (w_free rfl) ⟨g_fr (by kernel_rfl) rfl, trivial⟩ (fun w hw => rn_move rfl) (at_top rfl)) ?_
          refine bl_cons 3 rfl (isV _) (stab_isV _) (rgV (li := [(13, _)]) rfl (w_free rfl) ⟨g_fr (by kernel_rfl) rfl, trivial⟩ (fun w hw => rn_move rfl) (at_top rfl)) ?_
          refine bl_cons 4 rfl (isV _) (stab_isV _) (rgV (li := [(91, _)]) rfl (w_free rfl) ⟨g_dep 2 (by kernel_rfl) (at_dep rfl rfl rfl), trivial⟩ (fun w hw => rn_sub rfl rfl ((show IntKind.i64.wrap (((k0 + 1 : Nat) : Int) - 1) = (k0 : Int) from sub1_i64 (by omega)))) (at_top rfl)) ?_
          refine bl_cons 5 rfl (isV _) (stab_isV _) (rgV (li := [(90, _), (92, _)]) rfl (w_free rfl) ⟨g_dep 1 (by kernel_rfl) (at_dep rfl rfl rfl), g_dep 3 (by kernel_rfl) (at_dep rfl rfl rfl), trivial⟩ (fun w hw => rn_indexA  Tryz.underlying31 Tryz.sizeOf33 rfl rfl rfl (by omega) rfl) (at_top rfl)) ?_
          refine bl_cons 6 rfl (isV _) (stab_isV _) (rgV (li := [(93, _)]) rfl (w_free rfl) ⟨g_dep 4 (by kernel_rfl) (at_dep rfl rfl rfl), trivial⟩ (fun w hw => rn_loadA (vs := [_, _, _, _, _, _]) Tryz.isAgg33 Tryz.sizeOf33 rfl (CellsAt.agree (below_agree hw 0) (Nat.zero_le _) (by assumption))) (at_top rfl)) ?_
          refine bl_cons 7 rfl (isV _) (stab_isV _) (rgV (li := [(1, _)]) rfl (w_free rfl) ⟨g_fr (by kernel_rfl) rfl, trivial⟩ (fun w hw => rn_move rfl) (at_top rfl)) ?_
          refine bl_cons 8 rfl (isV _) (stab_isV _) (rgV (li := [(13, _)]) rfl (w_free rfl) ⟨g_fr (by kernel_rfl) rfl, trivial⟩ (fun w hw => rn_move rfl) (at_top rfl)) ?_
          refine bl_cons 9 rfl (isV _) (stab_isV _) (rgV (li := [(95, _), (96, _)]) rfl (w_free rfl) ⟨g_dep 6 (by kernel_rfl) (at_dep rfl rfl rfl), g_dep 7 (by kernel_rfl) (at_dep rfl rfl rfl), trivial⟩ (fun w hw => rn_indexA  Tryz.underlying31 Tryz.sizeOf33 rfl rfl rfl (by omega) rfl) (at_top rfl)) ?_
          refine bl_cons 10 rfl (isV _) (stab_isV _) (rgV (li := [(97, _)]) rfl (w_free rfl) ⟨g_dep 8 (by kernel_rfl) (at_dep rfl rfl rfl), trivial⟩ (fun w hw => rn_loadA (vs := [_, _, _, _, _, _]) Tryz.isAgg33 Tryz.sizeOf33 rfl (CellsAt.agree (below_agree hw 0) (Nat.zero_le _) (by assumption))) (at_top rfl)) ?_
          refine bl_cons 11 rfl (isV (.tuple #[.bool false, .int .i64 (chkL s [y1, y2])])) (stab_isV _) (rg_call [isV _, isV _, isV _] rfl goes_32 (w_free rfl) ⟨p_tmp (g_dep 0 (by kernel_rfl) (at_dep rfl rfl rfl)), p_tmp (g_dep 5 (by kernel_rfl) (at_dep rfl rfl rfl)), p_tmp (g_dep 9 (by kernel_rfl) (at_dep rfl rfl rfl)), trivial⟩ (fun vs w' hb hh => by have e := holds_isV (us := [_, _, _]) hh; subst e; exact (BelowR_bad ds d s y1 y2 _ (SIn.below (hS.below.trans (hb.mono hS.below.size)) hs) (WIn.below (hS.below.trans (hb.mono hS.below.size)) hX1) (WIn.below (hS.below.trans (hb.mono hS.below.size)) hX2) hS1 hS2 hc2).mono fun e w2 h => ⟨_, h.1, rfl, h.2⟩) (at_top rfl)) ?_
          refine bl_cons 12 rfl (isV _) (stab_isV _) (rgV (li := [(99, _)]) rfl (w_free rfl) ⟨g_dep 10 (by kernel_rfl) (at_dep rfl rfl rfl), trivial⟩ (fun w hw => rn_move rfl) (at_top rfl)) ?_
          refine bl_cons 13 rfl (isV _) (stab_isV _) (rgV (li := [(88, _)]) rfl (w_free rfl) ⟨g_dep 11 (by kernel_rfl) (at_dep rfl rfl rfl), trivial⟩ (fun w hw => rn_extract rfl rfl) (at_top rfl)) ?_
          refine bl_cons 14 rfl (isV _) (stab_isV _) (rgV (li := [(88, _)]) rfl (w_free rfl) ⟨g_dep 11 (by kernel_rfl) (at_dep rfl rfl rfl), trivial⟩ (fun w hw => rn_extract rfl rfl) (at_top rfl)) ?_
          refine bl_cons 15 rfl (isV _) (stab_isV _) (rgV (li := [(100, _)]) rfl (w_free rfl) ⟨g_dep 12 (by kernel_rfl) (at_dep rfl rfl rfl), trivial⟩ (fun w hw => rn_assign rfl) (at_top rfl)) ?_
          refine bl_cons 16 rfl (isV _) (stab_isV _) (rgV (li := [(101, _)]) rfl (w_free rfl) ⟨g_dep 13 (by kernel_rfl) (at_dep rfl rfl rfl), trivial⟩ (fun w hw => rn_assign rfl) (at_top rfl)) ?_
          refine bl_nil ?_
          intro W22 hbR hS'
          clear hS; have hS := hS'; clear hS'
          refine fin_v ?_
          refine fin_v ?_
          refine fin_v ?_
          refine fin_v ?_
          refine fin_v ?_
          refine fin_v ?_
          refine fin_v ?_
          refine fin_v ?_
          refine fin_v ?_
          refine fin_v ?_
          refine fin_v ?_
          refine fin_v ?_
          refine fin_v ?_
          refine fin_v ?_
          refine fin_v ?_
          refine fin_v ?_
          refine fin_nil ?_
          refine XF.thenN ?_
          refine seqF ?_
          refine regF ?_
          refine op_move rfl rfl ?_
          refine op_move rfl rfl ?_
          refine op_neqB Tryz.underlying4 rfl rfl rfl ?_
          refine op_move rfl rfl ?_
          refine op_cases (d := 105) rfl (fun hc => absurd hc (by simp)) (fun hc => ?_)
          skip
          refine op_wantedF (d := 105) rfl rfl ?_
          refine op_move rfl rfl ?_
          refine op_wantedF (d := 105) rfl rfl ?_
          refine op_move rfl rfl ?_
          refine op_wantedF (d := 105) rfl rfl ?_
          refine op_neq rfl rfl rfl ?_
          refine op_pickF rfl rfl rfl ?_
          refine endF ?_
          refine XF.thenN ?_
          refine condF rfl (fun hc => absurd (of_decide_eq_true hc) (by exact fun h => h rfl)) (fun hc => ?_)
          have hc := of_decide_eq_false hc
          refine skipF ?_
          refine XF.blkN ?_
          refine XF.thenN ?_
          refine regF ?_
          refine op_move rfl rfl ?_
          refine op_add rfl rfl (IntWalk.i64_in _ (by omega)) rfl ?_
          refine op_assign rfl rfl ?_
          refine endF ?_
          exact XF.round (12 - (k0 + 1)) [(1, _), (2, _), (13, _)] (by omega) ⟨rfl, rfl, rfl, trivial⟩ ⟨k0 + 1, by omega, rfl, rfl, hS.keep [_] (fun q hq => by simp only [List.mem_cons, List.not_mem_nil, or_false] at hq; subst hq; simp)⟩
      · have hc71 := of_decide_eq_false hc; clear hc
        refine exitF ?_
        refine XF.thenX ?_
        refine XF.thenX ?_
        refine XF.blkX ?_
        refine XF.thenN ?_
        refine seqF ?_
        refine regF ?_
        refine op_call (vs := []) hS goes_11 rfl (aliveW_is _ (ht.below hS.below)) rfl ?_
        rintro e W23 ⟨rfl, hb⟩
        refine ⟨_, rfl, hb, fun hS' => ?_⟩
        clear hS; have hS := hS'; clear hS' hb
        refine op_assign rfl rfl ?_
        refine endF ?_
        refine XF.thenN ?_
        refine retF ?_
        refine XF.res (res1 Tryz.results4 rfl) ?_
        exact ⟨rfl, hS.below⟩
    · skip
      refine regF ?_
      refine op_loadA (vs := [_, _, _]) Tryz.isAgg25 Tryz.sizeOf25 rfl (CellsAt.own (j := 0) (m := 3) (hS.at_ 0 rfl) rfl) rfl ?_
      refine op_move rfl rfl ?_
      refine op_call (vs := [_, _]) hS goes_27 rfl (CombineW_bad ds d s fa fn fc ys _ (SIn.below hS.below hs) (hyr _ (hS.since 1 rfl)) hyl (fun x hx => WIn.below hS.below (hyin x hx)) hysm hfx hck) rfl ?_
      rintro e W24 ⟨rfl, hb⟩
      refine ⟨_, rfl, hb, fun hS' => ?_⟩
      clear hS; have hS := hS'; clear hS' hb
      refine op_move rfl rfl ?_
      refine op_extract rfl rfl rfl ?_
      refine op_extract rfl rfl rfl ?_
      refine op_alloc (cs := [_, _, _, _, _, _]) hS Tryz.zeroValue33 rfl rfl ?_
      clear hS; intro B25 W25 hS
      refine op_storeA (i := 0) (vs := [_, _, _, _, _, _]) (cs' := [_, _, _, _, _, _]) (O' := [_, _]) hS Tryz.sizeOf33 rfl rfl rfl rfl rfl rfl rfl ?_
      clear hS; intro W26 hS
      refine op_assign rfl rfl ?_
      refine endF ?_
      refine XF.thenN ?_
      refine seqF ?_
      refine regF ?_
      refine op_loadA (vs := [_, _, _]) Tryz.isAgg25 Tryz.sizeOf25 rfl (CellsAt.own (j := 0) (m := 3) (hS.at_ 1 rfl) rfl) rfl ?_
      refine op_move rfl rfl ?_
      refine op_call (vs := [_, _]) hS goes_28 rfl (CombineR_bad ds d s fa fn fc ys _ (SIn.below hS.below hs) (hyr _ (hS.since 2 rfl)) hyl (fun x hx => WIn.below hS.below (hyin x hx)) hysm hfx hck) rfl ?_
      rintro e W27 ⟨rfl, hb⟩
      refine ⟨_, rfl, hb, fun hS' => ?_⟩
      clear hS; have hS := hS'; clear hS' hb
      refine op_move rfl rfl ?_
      refine op_extract rfl rfl rfl ?_
      refine op_extract rfl rfl rfl ?_
      refine op_alloc (cs := [_, _, _, _, _, _]) hS Tryz.zeroValue33 rfl rfl ?_
      clear hS; intro B28 W28 hS
      refine op_storeA (i := 0) (vs := [_, _, _, _, _, _]) (cs' := [_, _, _, _, _, _]) (O' := [_, _, _]) hS Tryz.sizeOf33 rfl rfl rfl rfl rfl rfl rfl ?_
      clear hS; intro W29 hS
      refine op_assign rfl rfl ?_
      refine endF ?_
      refine XF.thenN ?_
      refine seqF ?_
      refine regF ?_
      refine op_loadA (vs := [_, _, _]) Tryz.isAgg25 Tryz.sizeOf25 rfl (CellsAt.own (j := 0) (m := 3) (hS.at_ 2 rfl) rfl) rfl ?_
      refine op_move rfl rfl ?_
      refine op_call (vs := [_, _]) hS goes_29 rfl (ExtendW_bad ds d s fa fn fc ys _ (SIn.below hS.below hs) (hyr _ (hS.since 3 rfl)) hyl (fun x hx => WIn.below hS.below (hyin x hx)) hysm hfx hck) rfl ?_
      rintro e W30 ⟨rfl, hb⟩
      refine ⟨_, rfl, hb, fun hS' => ?_⟩
      clear hS; have hS := hS'; clear hS' hb
      refine op_move rfl rfl ?_
      refine op_extract rfl rfl rfl ?_
      refine op_extract rfl rfl rfl ?_
      refine op_alloc (cs := [_, _, _, _, _, _]) hS Tryz.zeroValue33 rfl rfl ?_
      clear hS; intro B31 W31 hS
      refine op_storeA (i := 0) (vs := [_, _, _, _, _, _]) (cs' := [_, _, _, _, _, _]) (O' := [_, _, _, _]) hS Tryz.sizeOf33 rfl rfl rfl rfl rfl rfl rfl ?_
      clear hS; intro W32 hS
      refine op_assign rfl rfl ?_
      refine endF ?_
      refine XF.thenN ?_
      refine seqF ?_
      refine regF ?_
      refine op_loadA (vs := [_, _, _]) Tryz.isAgg25 Tryz.sizeOf25 rfl (CellsAt.own (j := 0) (m := 3) (hS.at_ 3 rfl) rfl) rfl ?_
      refine op_move rfl rfl ?_
      refine op_call (vs := [_, _]) hS goes_30 rfl (ExtendR_bad ds d s fa fn fc ys _ (SIn.below hS.below hs) (hyr _ (hS.since 4 rfl)) hyl (fun x hx => WIn.below hS.below (hyin x hx)) hysm hfx hck) rfl ?_
      rintro e W33 ⟨rfl, hb⟩
      refine ⟨_, rfl, hb, fun hS' => ?_⟩
      clear hS; have hS := hS'; clear hS' hb
      refine op_move rfl rfl ?_
      refine op_extract rfl rfl rfl ?_
      refine op_extract rfl rfl rfl ?_
      refine op_alloc (cs := [_, _, _, _, _, _]) hS Tryz.zeroValue33 rfl rfl ?_
      clear hS; intro B34 W34 hS
      refine op_storeA (i := 0) (vs := [_, _, _, _, _, _]) (cs' := [_, _, _, _, _, _]) (O' := [_, _, _, _, _]) hS Tryz.sizeOf33 rfl rfl rfl rfl rfl rfl rfl ?_
      clear hS; intro W35 hS
      refine op_assign rfl rfl ?_
      refine endF ?_
      refine XF.thenN ?_
      refine seqF ?_
      refine seqF ?_
      refine regF ?_
      refine op_loadA (vs := [_, _, _, _, _, _]) Tryz.isAgg33 Tryz.sizeOf33 rfl (CellsAt.own (j := 0) (m := 6) (hS.at_ 3 rfl) rfl) rfl ?_
      refine op_loadA (vs := [_, _, _, _, _, _]) Tryz.isAgg33 Tryz.sizeOf33 rfl (CellsAt.own (j := 0) (m := 6) (hS.at_ 2 rfl) rfl) rfl ?_
      refine op_call (vs := [_, _]) hS goes_22 rfl (sameZ _) rfl ?_
      rintro e W36 ⟨rfl, hb⟩
      refine ⟨_, rfl, hb, fun hS' => ?_⟩
      clear hS; have hS := hS'; clear hS' hb
      refine op_not rfl rfl ?_
      refine op_move rfl rfl ?_
      refine op_wantedF (d := 52) rfl rfl ?_
      refine op_move rfl rfl ?_
      refine op_wantedF (d := 52) rfl rfl ?_
      refine op_move rfl rfl ?_
      refine op_wantedF (d := 52) rfl rfl ?_
      refine op_neq rfl rfl rfl ?_
      refine op_pickF rfl rfl rfl ?_
      refine op_move rfl rfl ?_
      refine op_cases (d := 57) rfl (fun hc => absurd (of_decide_eq_true hc) (by exact fun h => h rfl)) (fun hc => ?_)
      have hc := of_decide_eq_false hc
      refine op_wantedF (d := 57) rfl rfl ?_
      refine op_loadA (vs := [_, _, _, _, _, _]) Tryz.isAgg33 Tryz.sizeOf33 rfl (CellsAt.own (j := 0) (m := 6) (hS.at_ 1 rfl) rfl) rfl ?_
      refine op_wantedF (d := 57) rfl rfl ?_
      refine op_loadA (vs := [_, _, _, _, _, _]) Tryz.isAgg33 Tryz.sizeOf33 rfl (CellsAt.own (j := 0) (m := 6) (hS.at_ 0 rfl) rfl) rfl ?_
      refine op_wantedF (d := 57) rfl rfl ?_
      refine op_call (vs := [_, _]) hS goes_22 rfl (sameZ _) rfl ?_
      rintro e W37 ⟨rfl, hb⟩
      refine ⟨_, rfl, hb, fun hS' => ?_⟩
      clear hS; have hS := hS'; clear hS' hb
      refine op_wantedF (d := 57) rfl rfl ?_
      refine op_not rfl rfl ?_
      refine op_pickF rfl rfl rfl ?_
      refine op_move rfl rfl ?_
      refine op_wantedF (d := 63) rfl rfl ?_
      refine op_move rfl rfl ?_
      refine op_wantedF (d := 63) rfl rfl ?_
      refine op_move rfl rfl ?_
      refine op_wantedF (d := 63) rfl rfl ?_
      refine op_neq rfl rfl rfl ?_
      refine op_pickF rfl rfl rfl ?_
      refine endF ?_
      refine XF.thenN ?_
      refine condF rfl (fun hc => absurd (of_decide_eq_true hc) (by exact fun h => h rfl)) (fun hc => ?_)
      have hc := of_decide_eq_false hc
      refine skipF ?_
      refine XF.thenN ?_
      refine seqF ?_
      refine seqF ?_
      have hS := hS.tail.tail.tail.tail
      refine regF ?_
      refine op_assign rfl rfl ?_
      refine endF ?_
      refine XF.thenN ?_
      refine blockF ?_
      refine loopF (fun q l W => ∃ k0 : Nat, k0 ≤ 12 ∧ q = 12 - k0 ∧ l = [(1, .slice fa fn fc), (2, .pointer (some ⟨B1, 0, none⟩)), (13, .int .i64 ((k0 + 1 : Nat) : Int))] ∧ St w [(B1, [.int .i64 s.f.tag, .int .i64 s.f.dim, .slice s.f.a s.f.len s.f.cap], 25)] [] [(lo, A)] W) (12 - 0) ([(1, _), (2, _), (13, _)]) ⟨rfl, rfl, rfl, trivial⟩ (⟨0, Nat.zero_le _, rfl, rfl, hS.keep [_] (fun q hq => by simp only [List.mem_cons, List.not_mem_nil, or_false] at hq; subst hq; simp)⟩) ?_
      clear hS
      rintro q l W ⟨k0, hkm, rfl, rfl, hS⟩
      refine seqF ?_
      refine seqF ?_
      refine regF ?_
      refine op_move rfl rfl ?_
      refine op_move rfl rfl ?_
      refine op_len Tryz.underlying31 rfl rfl ?_
      refine op_lss rfl rfl rfl ?_
      refine endF ?_
      refine XF.thenN ?_
      refine condF rfl (fun hc => ?_) (fun hc => ?_)
      · have hc71 := of_decide_eq_true hc; clear hc
        have hk : k0 + 1 < fn := by omega
        obtain ⟨y1, hy1⟩ : ∃ y, ys[k0]? = some y := ⟨ys[k0]'(by omega), List.getElem?_eq_getElem _⟩
        obtain ⟨y2, hy2⟩ : ∃ y, ys[k0 + 1]? = some y := ⟨ys[k0 + 1]'(by omega), List.getElem?_eq_getElem _⟩
        have hm1 := List.mem_of_getElem? hy1
        have hm2 := List.mem_of_getElem? hy2
        obtain ⟨b, off, ea, hbl, h6⟩ := (hyr _ (hS.since 0 rfl)).at_ hy1
        obtain ⟨b', off', ea', hbl', h7⟩ := (hyr _ (hS.since 0 rfl)).at_ hy2
        rw [ea] at ea'
        cases ea'
        have k6 := h6.cells
        have k7 := h7.cells
        have hX1 := hyin y1 hm1
        have hX2 := hyin y2 hm2
        have hS1 := hysm y1 hm1
        have hS2 := hysm y2 hm2
        refine skipF ?_
        refine XF.thenN ?_
        refine seqF ?_
        refine blockF ?_
        refine seqF ?_
        subst ea
        by_cases hc2 : chkL s [y1, y2] = 0
        · obtain ⟨hse2, hall2⟩ := chkL_0 hc2
          obtain ⟨S2, hok2, hsi2, hwx2⟩ := space_of hs hse2
          obtain ⟨p1, hp1⟩ := hwx2 y1 d hX1 (hall2 y1 (by simp))
          obtain ⟨p2, hp2⟩ := hwx2 y2 d hX2 (hall2 y2 (by simp))
          obtain ⟨r, hr⟩ : ∃ r : Bool, r = true ↔ combX S2 p1 p2 = p2 := by classical exact ⟨decide _, decide_eq_true_iff⟩
          refine regB (m := 16) followsM hS (by kernel_rfl) (by kernel_rfl) rfl ?_
          refine bl_cons 1 rfl (isV _) (stab_isV _) (rgV (li := [(2, _)]) rfl (w_free rfl) ⟨g_fr (by kernel_rfl) rfl, trivial⟩ (fun w hw => rn_loadA (vs := [_, _, _]) Tryz.isAgg25 Tryz.sizeOf25 rfl (CellsAt.agree (below_agree hw 0) (Nat.zero_le _) (CellsAt.own (j := 0) (m := 3) (hS.at_ 0 rfl) rfl))) (at_top rfl)) ?_
          refine bl_cons 2 rfl (isV _) (stab_isV _) (rgV (li := [(1, _)]) rfl (w_free rfl) ⟨g_fr (by kernel_rfl) rfl, trivial⟩ (fun w hw => rn_move rfl) (at_top rfl)) ?_
          refine bl_cons 3 rfl (isV _) (stab_isV _) (rgV (li := [(13, _)]) rfl (w_free rfl) ⟨g_fr (by kernel_rfl) rfl, trivial⟩ (fun w hw => rn_move rfl) (at_top rfl)) ?_
          refine bl_cons 4 rfl (isV _) (stab_isV _) (rgV (li := [(77, _)]) rfl (w_free rfl) ⟨g_dep 2 (by kernel_rfl) (at_dep rfl rfl rfl), trivial⟩ (fun w hw => rn_sub rfl rfl ((show IntKind.i64.wrap (((k0 + 1 : Nat) : Int) - 1) = (k0 : Int) from sub1_i64 (by omega)))) (at_top rfl)) ?_
          refine bl_cons 5 rfl (isV _) (stab_isV _) (rgV (li := [(76, _), (78, _)]) rfl (w_free rfl) ⟨g_dep 1 (by kernel_rfl) (at_dep rfl rfl rfl), g_dep 3 (by kernel_rfl) (at_dep rfl rfl rfl), trivial⟩ (fun w hw => rn_indexA  Tryz.underlying31 Tryz.sizeOf33 rfl rfl rfl (by omega) rfl) (at_top rfl)) ?_
          refine bl_cons 6 rfl (isV _) (stab_isV _) (rgV (li := [(79, _)]) rfl (w_free rfl) ⟨g_dep 4 (by kernel_rfl) (at_dep rfl rfl rfl), trivial⟩ (fun w hw => rn_loadA (vs := [_, _, _, _, _, _]) Tryz.isAgg33 Tryz.sizeOf33 rfl (CellsAt.agree (below_agree hw 0) (Nat.zero_le _) (by assumption))) (at_top rfl)) ?_
          refine bl_cons 7 rfl (isV _) (stab_isV _) (rgV (li := [(1, _)]) rfl (w_free rfl) ⟨g_fr (by kernel_rfl) rfl, trivial⟩ (fun w hw => rn_move rfl) (at_top rfl)) ?_
          refine bl_cons 8 rfl (isV _) (stab_isV _) (rgV (li := [(13, _)]) rfl (w_free rfl) ⟨g_fr (by kernel_rfl) rfl, trivial⟩ (fun w hw => rn_move rfl) (at_top rfl)) ?_
          refine bl_cons 9 rfl (isV _) (stab_isV _) (rgV (li := [(81, _), (82, _)]) rfl (w_free rfl) ⟨g_dep 6 (by kernel_rfl) (at_dep rfl rfl rfl), g_dep 7 (by kernel_rfl) (at_dep rfl rfl rfl), trivial⟩ (fun w hw => rn_indexA  Tryz.underlying31 Tryz.sizeOf33 rfl rfl rfl (by omega) rfl) (at_top rfl)) ?_
          refine bl_cons 10 rfl (isV _) (stab_isV _) (rgV (li := [(83, _)]) rfl (w_free rfl) ⟨g_dep 8 (by kernel_rfl) (at_dep rfl rfl rfl), trivial⟩ (fun w hw => rn_loadA (vs := [_, _, _, _, _, _]) Tryz.isAgg33 Tryz.sizeOf33 rfl (CellsAt.agree (below_agree hw 0) (Nat.zero_le _) (by assumption))) (at_top rfl)) ?_
          refine bl_cons 11 rfl (isV (.tuple #[.bool r, .int .i64 0])) (stab_isV _) (rg_call [isV _, isV _, isV _] rfl goes_31 (w_free rfl) ⟨p_tmp (g_dep 0 (by kernel_rfl) (at_dep rfl rfl rfl)), p_tmp (g_dep 5 (by kernel_rfl) (at_dep rfl rfl rfl)), p_tmp (g_dep 9 (by kernel_rfl) (at_dep rfl rfl rfl)), trivial⟩ (fun vs w' hb hh => by have e := holds_isV (us := [_, _, _]) hh; subst e; exact (BelowW_ok S2 s.f y1.f y2.f p1 p2 _ (hsi2.below (hS.below.trans (hb.mono hS.below.size))) hok2 (hp1.below (hS.below.trans (hb.mono hS.below.size))) (hp2.below (hS.below.trans (hb.mono hS.below.size))) r hr (ht.below (hS.below.trans (hb.mono hS.below.size)))).mono fun e w2 h => ⟨_, h.1, rfl, h.2⟩) (at_top rfl)) ?_
          refine bl_cons 12 rfl (isV _) (stab_isV _) (rgV (li := [(85, _)]) rfl (w_free rfl) ⟨g_dep 10 (by kernel_rfl) (at_dep rfl rfl rfl), trivial⟩ (fun w hw => rn_move rfl) (at_top rfl)) ?_
          refine bl_cons 13 rfl (isV _) (stab_isV _) (rgV (li := [(74, _)]) rfl (w_free rfl) ⟨g_dep 11 (by kernel_rfl) (at_dep rfl rfl rfl), trivial⟩ (fun w hw => rn_extract rfl rfl) (at_top rfl)) ?_
          refine bl_cons 14 rfl (isV _) (stab_isV _) (rgV (li := [(74, _)]) rfl (w_free rfl) ⟨g_dep 11 (by kernel_rfl) (at_dep rfl rfl rfl), trivial⟩ (fun w hw => rn_extract rfl rfl) (at_top rfl)) ?_
          refine bl_cons 15 rfl (isV _) (stab_isV _) (rgV (li := [(86, _)]) rfl (w_free rfl) ⟨g_dep 12 (by kernel_rfl) (at_dep rfl rfl rfl), trivial⟩ (fun w hw => rn_assign rfl) (at_top rfl)) ?_
          refine bl_cons 16 rfl (isV _) (stab_isV _) (rgV (li := [(87, _)]) rfl (w_free rfl) ⟨g_dep 13 (by kernel_rfl) (at_dep rfl rfl rfl), trivial⟩ (fun w hw => rn_assign rfl) (at_top rfl)) ?_
          refine bl_nil ?_
          intro W38 hbR hS'
          clear hS; have hS := hS'; clear hS'
          refine fin_v ?_
          refine fin_v ?_
          refine fin_v ?_
          refine fin_v ?_
          refine fin_v ?_
          refine fin_v ?_
          refine fin_v ?_
          refine fin_v ?_
          refine fin_v ?_
          refine fin_v ?_
          refine fin_v ?_
          refine fin_v ?_
          refine fin_v ?_
          refine fin_v ?_
          refine fin_v ?_
          refine fin_v ?_
          refine fin_nil ?_
          refine XF.thenN ?_
          refine seqF ?_
          have k6 := (CellsAt.agree (below_agree hbR 0) (Nat.zero_le _) k6)
          have k7 := (CellsAt.agree (below_agree hbR 0) (Nat.zero_le _) k7)
          refine regB (m := 16) followsM hS (by kernel_rfl) (by kernel_rfl) rfl ?_
          refine bl_cons 1 rfl (isV _) (stab_isV _) (rgV (li := [(2, _)]) rfl (w_free rfl) ⟨g_fr (by kernel_rfl) rfl, trivial⟩ (fun w hw => rn_loadA (vs := [_, _, _]) Tryz.isAgg25 Tryz.sizeOf25 rfl (CellsAt.agree (below_agree hw 0) (Nat.zero_le _) (CellsAt.own (j := 0) (m := 3) (hS.at_ 0 rfl) rfl))) (at_top rfl)) ?_
          refine bl_cons 2 rfl (isV _) (stab_isV _) (rgV (li := [(1, _)]) rfl (w_free rfl) ⟨g_fr (by kernel_rfl) rfl, trivial⟩ (fun w hw => rn_move rfl) (at_top rfl)) ?_
          refine bl_cons 3 rfl (isV _) (stab_isV _) (rgV (li := [(13, _)]) rfl (w_free rfl) ⟨g_fr (by kernel_rfl) rfl, trivial⟩ (fun w hw => rn_move rfl) (at_top rfl)) ?_
          refine bl_cons 4 rfl (isV _) (stab_isV _) (rgV (li := [(91, _)]) rfl (w_free rfl) ⟨g_dep 2 (by kernel_rfl) (at_dep rfl rfl rfl), trivial⟩ (fun w hw => rn_sub rfl rfl ((show IntKind.i64.wrap (((k0 + 1 : Nat) : Int) - 1) = (k0 : Int) from sub1_i64 (by omega)))) (at_top rfl)) ?_
          refine bl_cons 5 rfl (isV _) (stab_isV _) (rgV (li := [(90, _), (92, _)]) rfl (w_free rfl) ⟨g_dep 1 (by kernel_rfl) (at_dep rfl rfl rfl), g_dep 3 (by kernel_rfl) (at_dep rfl rfl rfl), trivial⟩ (fun w hw => rn_indexA  Tryz.underlying31 Tryz.sizeOf33 rfl rfl rfl (by omega) rfl) (at_top rfl)) ?_
          refine bl_cons 6 rfl (isV _) (stab_isV _) (rgV (li := [(93, _)]) rfl (w_free rfl) ⟨g_dep 4 (by kernel_rfl) (at_dep rfl rfl rfl), trivial⟩ (fun w hw => rn_loadA (vs := [_, _, _, _, _, _]) Tryz.isAgg33 Tryz.sizeOf33 rfl (CellsAt.agree (below_agree hw 0) (Nat.zero_le _) (by assumption))) (at_top rfl)) ?_
          refine bl_cons 7 rfl (isV _) (stab_isV _) (rgV (li := [(1, _)]) rfl (w_free rfl) ⟨g_fr (by kernel_rfl) rfl, trivial⟩ (fun w hw => rn_move rfl) (at_top rfl)) ?_
          refine bl_cons 8 rfl (isV _) (stab_isV _) (rgV (li := [(13, _)]) rfl (w_free rfl) ⟨g_fr (by kernel_rfl) rfl, trivial⟩ (fun w hw => rn_move rfl) (at_top rfl)) ?_
          refine bl_cons 9 rfl (isV _) (stab_isV _) (rgV (li := [(95, _), (96, _)]) rfl (w_free rfl) ⟨g_dep 6 (by kernel_rfl) (at_dep rfl rfl rfl), g_dep 7 (by kernel_rfl) (at_dep rfl rfl rfl), trivial⟩ (fun w hw => rn_indexA  Tryz.underlying31 Tryz.sizeOf33 rfl rfl rfl (by omega) rfl) (at_top rfl)) ?_
          refine bl_cons 10 rfl (isV _) (stab_isV _) (rgV (li := [(97, _)]) rfl (w_free rfl) ⟨g_dep 8 (by kernel_rfl) (at_dep rfl rfl rfl), trivial⟩ (fun w hw => rn_loadA (vs := [_, _, _, _, _, _]) Tryz.isAgg33 Tryz.sizeOf33 rfl (CellsAt.agree (below_agree hw 0) (Nat.zero_le _) (by assumption))) (at_top rfl)) ?_
          refine bl_cons 11 rfl (isV (.tuple #[.bool r, .int .i64 0])) (stab_isV _) (rg_call [isV _, isV _, isV _] rfl goes_32 (w_free rfl) ⟨p_tmp (g_dep 0 (by kernel_rfl) (at_dep rfl rfl rfl)), p_tmp (g_dep 5 (by kernel_rfl) (at_dep rfl rfl rfl)), p_tmp (g_dep 9 (by kernel_rfl) (at_dep rfl rfl rfl)), trivial⟩ (fun vs w' hb hh => by have e := holds_isV (us := [_, _, _]) hh; subst e; exact (BelowR_ok S2 s.f y1.f y2.f p1 p2 _ (hsi2.below (hS.below.trans (hb.mono hS.below.size))) hok2 (hp1.below (hS.below.trans (hb.mono hS.below.size))) (hp2.below (hS.below.trans (hb.mono hS.below.size))) r hr).mono fun e w2 h => ⟨_, h.1, rfl, h.2⟩) (at_top rfl)) ?_
          refine bl_cons 12 rfl (isV _) (stab_isV _) (rgV (li := [(99, _)]) rfl (w_free rfl) ⟨g_dep 10 (by kernel_rfl) (at_dep rfl rfl rfl), trivial⟩ (fun w hw => rn_move rfl) (at_top rfl)) ?_
          refine bl_cons 13 rfl (isV _) (stab_isV _) (rgV (li := [(88, _)]) rfl (w_free rfl) ⟨g_dep 11 (by kernel_rfl) (at_dep rfl rfl rfl), trivial⟩ (fun w hw => rn_extract rfl rfl) (at_top rfl)) ?_
          refine bl_cons 14 rfl (isV _) (stab_isV _) (rgV (li := [(88, _)]) rfl (w_free rfl) ⟨g_dep 11 (by kernel_rfl) (at_dep rfl rfl rfl), trivial⟩ (fun w hw => rn_extract rfl rfl) (at_top rfl)) ?_
          refine bl_cons 15 rfl (isV _) (stab_isV _) (rgV (li := [(100, _)]) rfl (w_free rfl) ⟨g_dep 12 (by kernel_rfl) (at_dep rfl rfl rfl), trivial⟩ (fun w hw => rn_assign rfl) (at_top rfl)) ?_
          refine bl_cons 16 rfl (isV _) (stab_isV _) (rgV (li := [(101, _)]) rfl (w_free rfl) ⟨g_dep 13 (by kernel_rfl) (at_dep rfl rfl rfl), trivial⟩ (fun w hw => rn_assign rfl) (at_top rfl)) ?_
          refine bl_nil ?_
          intro W39 hbR hS'
          clear hS; have hS := hS'; clear hS'
          refine fin_v ?_
          refine fin_v ?_
          refine fin_v ?_
          refine fin_v ?_
          refine fin_v ?_
          refine fin_v ?_
          refine fin_v ?_
          refine fin_v ?_
          refine fin_v ?_
          refine fin_v ?_
          refine fin_v ?_
          refine fin_v ?_
          refine fin_v ?_
          refine fin_v ?_
          refine fin_v ?_
          refine fin_v ?_
          refine fin_nil ?_
          refine XF.thenN ?_
          refine seqF ?_
          refine regF ?_
          refine op_move rfl rfl ?_
          refine op_move rfl rfl ?_
          refine op_neqB Tryz.underlying4 rfl rfl rfl ?_
          refine op_move rfl rfl ?_
          refine op_cases (d := 105) rfl (fun hc => absurd hc (by simp)) (fun hc => ?_)
          skip
          refine op_wantedF (d := 105) rfl rfl ?_
          refine op_move rfl rfl ?_
          refine op_wantedF (d := 105) rfl rfl ?_
          refine op_move rfl rfl ?_
          refine op_wantedF (d := 105) rfl rfl ?_
          refine op_neq rfl rfl rfl ?_
          refine op_pickF rfl rfl rfl ?_
          refine endF ?_
          refine XF.thenN ?_
          refine condF rfl (fun hc => absurd (of_decide_eq_true hc) (by exact fun h => h rfl)) (fun hc => ?_)
          have hc := of_decide_eq_false hc
          refine skipF ?_
          refine XF.blkN ?_
          refine XF.thenN ?_
          refine regF ?_
          refine op_move rfl rfl ?_
          refine op_add rfl rfl (IntWalk.i64_in _ (by omega)) rfl ?_
          refine op_assign rfl rfl ?_
          refine endF ?_
          exact XF.round (12 - (k0 + 1)) [(1, _), (2, _), (13, _)] (by omega) ⟨rfl, rfl, rfl, trivial⟩ ⟨k0 + 1, by omega, rfl, rfl, hS.keep [_] (fun q hq => by simp only [List.mem_cons, List.not_mem_nil, or_false] at hq; subst hq; simp)⟩
        · skip
          refine regB (m := 16) followsM hS (by kernel_rfl) (by kernel_rfl) rfl ?_
          refine bl_cons 1 rfl (isV _) (stab_isV _) (rgV (li := [(2, _)]) rfl (w_free rfl) ⟨g_fr (by kernel_rfl) rfl, trivial⟩ (fun w hw => rn_loadA (vs := [_, _, _]) Tryz.isAgg25 Tryz.sizeOf25 rfl (CellsAt.agree (below_agree hw 0) (Nat.zero_le _) (CellsAt.own (j := 0) (m := 3) (hS.at_ 0 rfl) rfl))) (at_top rfl)) ?_
          refine bl_cons 2 rfl (isV _) (stab_isV _) (rgV (li := [(1, _)]) rfl (w_free rfl) ⟨g_fr (by kernel_rfl) rfl, trivial⟩ (fun w hw => rn_move rfl) (at_top rfl)) ?_
          refine bl_cons 3 rfl (isV _) (stab_isV _) (rgV (li := [(13, _)]) rfl (w_free rfl) ⟨g_fr (by kernel_rfl) rfl, trivial⟩ (fun w hw => rn_move rfl) (at_top rfl)) ?_
          refine bl_cons 4 rfl (isV _) (stab_isV _) (rgV (li := [(77, _)]) rfl (w_free rfl) ⟨g_dep 2 (by kernel_rfl) (at_dep rfl rfl rfl), trivial⟩ (fun w hw => rn_sub rfl rfl ((show IntKind.i64.wrap (((k0 + 1 : Nat) : Int) - 1) = (k0 : Int) from sub1_i64 (by omega)))) (at_top rfl)) ?_
          refine bl_cons 5 rfl (isV _) (stab_isV _) (rgV (li := [(76, _), (78, _)]) rfl (w_free rfl) ⟨g_dep 1 (by kernel_rfl) (at_dep rfl rfl rfl), g_dep 3 (by kernel_rfl) (at_dep rfl rfl rfl), trivial⟩ (fun w hw => rn_indexA  Tryz.underlying31 Tryz.sizeOf33 rfl rfl rfl (by omega) rfl) (at_top rfl)) ?_
          refine bl_cons 6 rfl (isV _) (stab_isV _) (rgV (li := [(79, _)]) rfl (w_free rfl) ⟨g_dep 4 (by kernel_rfl) (at_dep rfl rfl rfl), trivial⟩ (fun w hw => rn_loadA (vs := [_, _, _, _, _, _]) Tryz.isAgg33 Tryz.sizeOf33 rfl (CellsAt.agree (below_agree hw 0) (Nat.zero_le _) (by assumption))) (at_top rfl)) ?_
          refine bl_cons 7 rfl (isV _) (stab_isV _) (rgV (li := [(1, _)]) rfl (w_free rfl) ⟨g_fr (by kernel_rfl) rfl, trivial⟩ (fun w hw => rn_move rfl) (at_top rfl)) ?_
          refine bl_cons 8 rfl (isV _) (stab_isV _) (rgV (li := [(13, _)]) rfl (w_free rfl) ⟨g_fr (by kernel_rfl) rfl, trivial⟩ (fun w hw => rn_move rfl) (at_top rfl)) ?_
          refine bl_cons 9 rfl (isV _) (stab_isV _) (rgV (li := [(81, _), (82, _)]) rfl (w_free rfl) ⟨g_dep 6 (by kernel_rfl) (at_dep rfl rfl rfl), g_dep 7 (by kernel_rfl) (at_dep rfl rfl rfl), trivial⟩ (fun w hw => rn_indexA  Tryz.underlying31 Tryz.sizeOf33 rfl rfl rfl (by omega) rfl) (at_top rfl)) ?_
          refine bl_cons 10 rfl (isV _) (stab_isV _) (rgV (li := [(83, _)]) rfl (w_free rfl) ⟨g_dep 8 (by kernel_rfl) (at_dep rfl rfl rfl), trivial⟩ (fun w hw => rn_loadA (vs := [_, _, _, _, _, _]) Tryz.isAgg33 Tryz.sizeOf33 rfl (CellsAt.agree (below_agree hw 0) (Nat.zero_le _) (by assumption))) (at_top rfl)) ?_
          refine bl_cons 11 rfl (isV (.tuple #[.bool false, .int .i64 (chkL s [y1, y2])])) (stab_isV _) (rg_call [isV _, isV _, isV _] rfl goes_31 (w_free rfl) ⟨p_tmp (g_dep 0 (by kernel_rfl) (at_dep rfl rfl rfl)), p_tmp (g_dep 5 (by kernel_rfl) (at_dep rfl rfl rfl)), p_tmp (g_dep 9 (by kernel_rfl) (at_dep rfl rfl rfl)), trivial⟩ (fun vs w' hb hh => by have e := holds_isV (us := [_, _, _]) hh; subst e; exact (BelowW_bad ds d s y1 y2 _ (SIn.below (hS.below.trans (hb.mono hS.below.size)) hs) (WIn.below (hS.below.trans (hb.mono hS.below.size)) hX1) (WIn.below (hS.below.trans (hb.mono hS.below.size)) hX2) hS1 hS2 hc2).mono fun e w2 h => ⟨_, h.1, rfl, h.2⟩) (at_top rfl)) ?_
          refine bl_cons 12 rfl (isV _) (stab_isV _) (rgV (li := [(85, _)]) rfl (w_free rfl) ⟨g_dep 10 (by kernel_rfl) (at_dep rfl rfl rfl), trivial⟩ (fun w hw => rn_move rfl) (at_top rfl)) ?_
          refine bl_cons 13 rfl (isV _) (stab_isV _) (rgV (li := [(74, _)]) rfl (w_free rfl) ⟨g_dep 11 (by kernel_rfl) (at_dep rfl rfl rfl), trivial⟩ (fun w hw => rn_extract rfl rfl) (at_top rfl)) ?_
          refine bl_cons 14 rfl (isV _) (stab_isV _) (rgV (li := [(74, _)]) rfl (w_free rfl) ⟨g_dep 11 (by kernel_rfl) (at_dep rfl rfl rfl), trivial⟩ (fun w hw => rn_extract rfl rfl) (at_top rfl)) ?_
          refine bl_cons 15 rfl (isV _) (stab_isV _) (rgV (li := [(86, _)]) rfl (w_free rfl) ⟨g_dep 12 (by kernel_rfl) (at_dep rfl rfl rfl), trivial⟩ (fun w hw => rn_assign rfl) (at_top rfl)) ?_
          refine bl_cons 16 rfl (isV _) (stab_isV _) (rgV (li := [(87, _)]) rfl (w_free rfl) ⟨g_dep 13 (by kernel_rfl) (at_dep rfl rfl rfl), trivial⟩ (fun w hw => rn_assign rfl) (at_top rfl)) ?_
          refine bl_nil ?_
          intro W40 hbR hS'
          clear hS; have hS := hS'; clear hS'
          refine fin_v ?_
          refine fin_v ?_
          refine fin_v ?_
          refine fin_v ?_
          refine fin_v ?_
          refine fin_v ?_
          refine fin_v ?_
          refine fin_v ?_
          refine fin_v ?_
          refine fin_v ?_
          refine fin_v ?_
          refine fin_v ?_
          refine fin_v ?_
          refine fin_v ?_
          refine fin_v ?_
          refine fin_v ?_
          refine fin_nil ?_
          refine XF.thenN ?_
          refine seqF ?_
          have k6 := (CellsAt.agree (below_agree hbR 0) (Nat.zero_le _) k6)
          have k7 := (CellsAt.agree (below_agree hbR 0) (Nat.zero_le _) k7)
          refine regB (m := 16) followsM hS (by kernel_rfl) (by kernel_rfl) rfl ?_
          refine bl_cons 1 rfl (isV _) (stab_isV _) (rgV (li := [(2, _)]) rfl (w_free rfl) ⟨g_fr (by kernel_rfl) rfl, trivial⟩ (fun w hw => rn_loadA (vs := [_, _, _]) Tryz.isAgg25 Tryz.sizeOf25 rfl (CellsAt.agree (below_agree hw 0) (Nat.zero_le _) (CellsAt.own (j := 0) (m := 3) (hS.at_ 0 rfl) rfl))) (at_top rfl)) ?_
          refine bl_cons 2 rfl (isV _) (stab_isV _) (rgV (li := [(1, _)]) rfl (w_free rfl) ⟨g_fr (by kernel_rfl) rfl, trivial⟩ (fun w hw => rn_move rfl) (at_top rfl)) ?_
          refine bl_cons 3 rfl (isV _) (stab_isV _) (rgV (li := [(13, _)]) rfl (w_free rfl) ⟨g_fr (by kernel_rfl) rfl, trivial⟩ (fun w hw => rn_move rfl) (at_top rfl)) ?_
          refine bl_cons 4 rfl (isV _) (stab_isV _) (rgV (li := [(91, _)]) rfl (w_free rfl) ⟨g_dep 2 (by kernel_rfl) (at_dep rfl rfl rfl), trivial⟩ (fun w hw => rn_sub rfl rfl ((show IntKind.i64.wrap (((k0 + 1 : Nat) : Int) - 1) = (k0 : Int) from sub1_i64 (by omega)))) (at_top rfl)) ?_
          refine bl_cons 5 rfl (isV _) (stab_isV _) (rgV (li := [(90, _), (92, _)]) rfl (w_free rfl) ⟨g_dep 1 (by kernel_rfl) (at_dep rfl rfl rfl), g_dep 3 (by kernel_rfl) (at_dep rfl rfl rfl), trivial⟩ (fun w hw => rn_indexA  Tryz.underlying31 Tryz.sizeOf33 rfl rfl rfl (by omega) rfl) (at_top rfl)) ?_
          refine bl_cons 6 rfl (isV _) (stab_isV _) (rgV (li := [(93, _)]) rfl (w_free rfl) ⟨g_dep 4 (by kernel_rfl) (at_dep rfl rfl rfl), trivial⟩ (fun w hw => rn_loadA (vs := [_, _, _, _, _, _]) Tryz.isAgg33 Tryz.sizeOf33 rfl (CellsAt.agree (below_agree hw 0) (Nat.zero_le _) (by assumption))) (at_top rfl)) ?_
          refine bl_cons 7 rfl (isV _) (stab_isV _) (rgV (li := [(1, _)]) rfl (w_free rfl) ⟨g_fr (by kernel_rfl) rfl, trivial⟩ (fun w hw => rn_move rfl) (at_top rfl)) ?_
          refine bl_cons 8 rfl (isV _) (stab_isV _) (rgV (li := [(13, _)]) rfl (w_free rfl) ⟨g_fr (by kernel_rfl) rfl, trivial⟩ (fun w hw => rn_move rfl) (at_top rfl)) ?_
          refine bl_cons 9 rfl (isV _) (stab_isV _) (rgV (li := [(95, _), (96, _)]) rfl (w_free rfl) ⟨g_dep 6 (by kernel_rfl) (at_dep rfl rfl rfl), g_dep 7 (by kernel_rfl) (at_dep rfl rfl rfl), trivial⟩ (fun w hw => rn_indexA  Tryz.underlying31 Tryz.sizeOf33 rfl rfl rfl (by omega) rfl) (at_top rfl)) ?_
          refine bl_cons 10 rfl (isV _) (stab_isV _) (rgV (li := [(97, _)]) rfl (w_free rfl) ⟨g_dep 8 (by kernel_rfl) (at_dep rfl rfl rfl), trivial⟩ (fun w hw => rn_loadA (vs := [_, _, _, _, _, _]) Tryz.isAgg33 Tryz.sizeOf33 rfl (CellsAt.agree (below_agree hw 0) (Nat.zero_le _) (by assumption))) (at_top rfl)) ?_
          refine bl_cons 11 rfl (isV (.tuple #[.bool false, .int .i64 (chkL s [y1, y2])])) (stab_isV _) (rg_call [isV _, isV _, isV _] rfl goes_32 (w_free rfl) ⟨p_tmp (g_dep 0 (by kernel_rfl) (at_dep rfl rfl rfl)), p_tmp (g_dep 5 (by kernel_rfl) (at_dep rfl rfl rfl)), p_tmp (g_dep 9 (by kernel_rfl) (at_dep rfl rfl rfl)), trivial⟩ (fun vs w' hb hh => by have e := holds_isV (us := [_, _, _]) hh; subst e; exact (BelowR_bad ds d s y1 y2 _ (SIn.below (hS.below.trans (hb.mono hS.below.size)) hs) (WIn.below (hS.below.trans (hb.mono hS.below.size)) hX1) (WIn.below (hS.below.trans (hb.mono hS.below.size)) hX2) hS1 hS2 hc2).mono fun e w2 h => ⟨_, h.1, rfl, h.2⟩) (at_top rfl)) ?_
          refine bl_cons 12 rfl (isV _) (stab_isV _) (rgV (li := [(99, _)]) rfl (w_free rfl) ⟨g_dep 10 (by kernel_rfl) (at_dep rfl rfl rfl), trivial⟩ (fun w hw => rn_move rfl) (at_top rfl)) ?_
          refine bl_cons 13 rfl (isV _) (stab_isV _) (rgV (li := [(88, _)]) rfl (w_free rfl) ⟨g_dep 11 (by kernel_rfl) (at_dep rfl rfl rfl), trivial⟩ (fun w hw => rn_extract rfl rfl) (at_top rfl)) ?_
          refine bl_cons 14 rfl (isV _) (stab_isV _) (rgV (li := [(88, _)]) rfl (w_free rfl) ⟨g_dep 11 (by kernel_rfl) (at_dep rfl rfl rfl), trivial⟩ (fun w hw => rn_extract rfl rfl) (at_top rfl)) ?_
          refine bl_cons 15 rfl (isV _) (stab_isV _) (rgV (li := [(100, _)]) rfl (w_free rfl) ⟨g_dep 12 (by kernel_rfl) (at_dep rfl rfl rfl), trivial⟩ (fun w hw => rn_assign rfl) (at_top rfl)) ?_
          refine bl_cons 16 rfl (isV _) (stab_isV _) (rgV (li := [(101, _)]) rfl (w_free rfl) ⟨g_dep 13 (by kernel_rfl) (at_dep rfl rfl rfl), trivial⟩ (fun w hw => rn_assign rfl) (at_top rfl)) ?_
          refine bl_nil ?_
          intro W41 hbR hS'
          clear hS; have hS := hS'; clear hS'
          refine fin_v ?_
          refine fin_v ?_
          refine fin_v ?_
          refine fin_v ?_
          refine fin_v ?_
          refine fin_v ?_
          refine fin_v ?_
          refine fin_v ?_
          refine fin_v ?_
          refine fin_v ?_
          refine fin_v ?_
          refine fin_v ?_
          refine fin_v ?_
          refine fin_v ?_
          refine fin_v ?_
          refine fin_v ?_
          refine fin_nil ?_
          refine XF.thenN ?_
          refine seqF ?_
          refine regF ?_
          refine op_move rfl rfl ?_
          refine op_move rfl rfl ?_
          refine op_neqB Tryz.underlying4 rfl rfl rfl ?_
          refine op_move rfl rfl ?_
          refine op_cases (d := 105) rfl (fun hc => absurd hc (by simp)) (fun hc => ?_)
          skip
          refine op_wantedF (d := 105) rfl rfl ?_
          refine op_move rfl rfl ?_
          refine op_wantedF (d := 105) rfl rfl ?_
          refine op_move rfl rfl ?_
          refine op_wantedF (d := 105) rfl rfl ?_
          refine op_neq rfl rfl rfl ?_
          refine op_pickF rfl rfl rfl ?_
          refine endF ?_
          refine XF.thenN ?_
          refine condF rfl (fun hc => absurd (of_decide_eq_true hc) (by exact fun h => h rfl)) (fun hc => ?_)
          have hc := of_decide_eq_false hc
          refine skipF ?_
          refine XF.blkN ?_
          refine XF.thenN ?_
          refine regF ?_
          refine op_move rfl rfl ?_
          refine op_add rfl rfl (IntWalk.i64_in _ (by omega)) rfl ?_
          refine op_assign rfl rfl ?_
          refine endF ?_
          exact XF.round (12 - (k0 + 1)) [(1, _), (2, _), (13, _)] (by omega) ⟨rfl, rfl, rfl, trivial⟩ ⟨k0 + 1, by omega, rfl, rfl, hS.keep [_] (fun q hq => by simp only [List.mem_cons, List.not_mem_nil, or_false] at hq; subst hq; simp)⟩
      · have hc71 := of_decide_eq_false hc; clear hc
        refine exitF ?_
        refine XF.thenX ?_
        refine XF.thenX ?_
        refine XF.blkX ?_
        refine XF.thenN ?_
        refine seqF ?_
        refine regF ?_
        refine op_call (vs := []) hS goes_11 rfl (aliveW_is _ (ht.below hS.below)) rfl ?_
        rintro e W42 ⟨rfl, hb⟩
        refine ⟨_, rfl, hb, fun hS' => ?_⟩
        clear hS; have hS := hS'; clear hS' hb
        refine op_assign rfl rfl ?_
        refine endF ?_
        refine XF.thenN ?_
        refine retF ?_
        refine XF.res (res1 Tryz.results4 rfl) ?_
        exact ⟨rfl, hS.below⟩
end Go.Proofs.YtjcminoaiieckaaGreatDoor
namespace Go.Proofs.YtjcminoaiieckaaGreatDoor
open Go.RowKit Go.ChangeShapes Go.WideShapes Go.Deep Go.Joins
set_option linter.unusedVariables false
section
variable {H : Type} {enc : TypeId × Value → H} {w : World} {base : Nat} {spare : Nat → Bool} {held : Bool}
set_option maxRecDepth 100000 in
theorem space_open {r : Reach} {b0 : Nat} {v : Value} {d : DataW H} {p : List MemPlace} (hv : Value.okWide Tryz.prog w r b0 25 v) (h : DataW.Trod enc Tryz.prog w base spare held 25 v d p) :
    ∃ (n : Nat) (s : SV), v = s.f.val ∧ SIn w n s := by
  obtain ⟨cs, rfl, _⟩ := okWide_struct Tryz.underlying25 hv
  obtain ⟨n, h⟩ := h
  obtain ⟨s, e, hs⟩ := space_in n h
  have e' : cs.toList = _ := e
  exact ⟨n, s, by show Value.agg cs = Value.agg _; congr 1; exact Array.ext' e', hs⟩
end
end Go.Proofs.YtjcminoaiieckaaGreatDoor
namespace Go.Proofs.YtjcminoaiieckaaGreatDoor
open Go.RowKit Go.ChangeShapes Go.WideShapes Go.Deep Go.Joins
set_option linter.unusedVariables false
section
variable {H : Type} {enc : TypeId × Value → H} {w : World} {base : Nat} {spare : Nat → Bool} {held : Bool}
set_option maxRecDepth 100000 in
theorem weights_open {n : Nat} {a : Option Addr} {len cap : Nat} {x : DataW H × List MemPlace} (h : DataW.trod enc Tryz.prog w base spare held n 31 [.slice a len cap] = some x) :
    ∃ ps : List WV, ps.length = len ∧ PRow w a ps ∧ (∀ p ∈ ps, WIn w n p) ∧ len ≤ 9223372036854775807 := by
  rcases DataW.trod_slice Tryz.underlying31 h with ⟨hcs, _⟩ | ⟨ad, len', cap', elems, rest, n', hn', hcs, _, hb, hle, hcap, hel, hi, _, _⟩
  · simp at hcs
    obtain ⟨rfl, rfl, rfl⟩ := hcs
    exact ⟨[], rfl, .inl rfl, fun p hp => by (cases hp), by omega⟩
  · simp at hcs
    obtain ⟨rfl, rfl, rfl⟩ := hcs
    rw [show Tryz.prog.cellsOf 33 = 6 by kernel_rfl] at hi
    obtain ⟨ps, hpl, hps⟩ := list_pick len (fun i (p : WV) => (w.cell? (ad.add (i * 6)) = some (.bool p.f.z) ∧ w.cell? (ad.add (i * 6 + 1)) = some (.int .i64 p.f.c) ∧ w.cell? (ad.add (i * 6 + 2)) = some (.int .u64 (p.f.g : Int)) ∧ w.cell? (ad.add (i * 6 + 3)) = some (.slice p.f.ra p.f.rl p.f.rc) ∧ w.cell? (ad.add (i * 6 + 4)) = some (.slice p.f.ca p.f.cl p.f.cc) ∧ w.cell? (ad.add (i * 6 + 5)) = some (.slice p.f.pa p.f.pl p.f.pc)) ∧ WIn w n' p) (fun i hil => by
      have hii := hi i hil
      rw [List.getElem?_eq_getElem (by omega)] at hii
      obtain ⟨cs', hc, ht⟩ := Option.bind_eq_some_iff.1 hii
      obtain ⟨_, hcl, hat⟩ := World.cells?_some hc
      obtain ⟨s, rfl, hs⟩ := weight_in n' ht
      have e0 := hat 0 (by omega)
      have e1 := hat 1 (by omega)
      have e2 := hat 2 (by omega)
      have e3 := hat 3 (by omega)
      have e4 := hat 4 (by omega)
      have e5 := hat 5 (by omega)
      rw [Go.Deep.add_add] at e0 e1 e2 e3 e4 e5
      exact ⟨s, ⟨e0, e1, e2, e3, e4, e5⟩, hs⟩)
    refine ⟨ps, hpl, ?_, fun p hp => ?_, by have h1 : cap ≤ maxLen := hcap; simp only [maxLen] at h1; omega⟩
    · rcases Nat.eq_zero_or_pos len with h0 | h0
      · exact .inl (List.length_eq_zero_iff.1 (by omega))
      · obtain ⟨b, off, spot⟩ := ad
        obtain ⟨⟨h1, _⟩, _⟩ := hps 0 (ps[0]'(by omega)) (List.getElem?_eq_getElem (by omega))
        have hspot : spot = none := by simpa [Addr.add] using World.cell?_spot h1
        subst hspot
        refine .inr ⟨b, off, rfl, fun i c hic => ?_⟩
        have e : ∀ k, ({ block := b, off := off } : Addr).add k = ⟨b, off + k, none⟩ := fun k => by simp [Addr.add]
        have h3 := (hps i c hic).1
        rw [e, e, e, e, e, e, ← Nat.add_assoc, ← Nat.add_assoc, ← Nat.add_assoc, ← Nat.add_assoc, ← Nat.add_assoc] at h3
        exact h3
    · obtain ⟨i, hi', hic⟩ := List.mem_iff_getElem.1 hp
      exact (hps i p (by rw [← hic]; exact List.getElem?_eq_getElem hi')).2.more (by omega)
end
end Go.Proofs.YtjcminoaiieckaaGreatDoor
