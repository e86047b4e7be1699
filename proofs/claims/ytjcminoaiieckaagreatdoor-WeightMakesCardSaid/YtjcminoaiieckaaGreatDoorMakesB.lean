import Derived.IntWalk
import Derived.Laws.Tables
import Derived.Laws.Concat
import Derived.Laws.MakeOwn
import Derived.Test.YtjcminoaiieckaaGreatDoorProg
import Derived.Laws.OwnMore
import Derived.OwnWalk
import Derived.Lib.TrailingZeros
import Derived.Laws.BitsAllLaws
import Derived.Laws.Bits64
import Derived.WalkKit
import Derived.WalkSmall
import Derived.Lib.Hide
import Derived.Deep.QuietTactic
import Derived.BigQuiet
import Derived.RegionTactic
import Derived.BigRegion
import Derived.Deep.RegionHeld3
import Derived.ChangeAlike
import Derived.Deep.AppendLies
import Derived.Laws.Small
import Derived.Deep.Slices
import Derived.Deep.Fields
import Derived.ChangeSame
import Derived.Lib.SmallJoins
import Derived.ChangeSlices
import Derived.ProofKit
import Derived.Test.YtjcminoaiieckaaGreatDoorRingA
import Derived.Test.YtjcminoaiieckaaGreatDoorRingB
import Derived.Test.YtjcminoaiieckaaGreatDoorRingC
import Derived.Test.YtjcminoaiieckaaGreatDoorMakesA
set_option linter.unusedVariables false
set_option linter.unusedSimpArgs false
set_option linter.unusedSectionVars false
set_option linter.unnecessarySimpa false
namespace Go.Proofs.YtjcminoaiieckaaGreatDoor
open Go Go.RowKit
set_option linter.unusedVariables false
set_option maxRecDepth 100000 in
set_option maxHeartbeats 4000000 in
theorem oneR_not4 (t n : Int) (sa : Option Addr) (sc : Nat) (w : World) (hp : plainB t n 0 = true) (ht4 : t ≠ 4) :
    Calls Tryz.prog 40 #[.agg #[.int .i64 t, .int .i64 n, .slice sa 0 sc]] w (WRet (.one t n) (.one (oneP t n)) w) := by
  refine enterF (args := [.agg #[.int .i64 t, .int .i64 n, .slice sa 0 sc]]) Tryz.func40 rfl Tryz.ntmps40 rfl ?_
  have hS := St.start w
  refine seqF ?_
  refine regF ?_
  refine op_box (cs := [_, _, _]) hS rfl rfl rfl ?_
  clear hS; intro B1 W1 hS
  refine op_alloc (cs := [_, _, _, _, _, _]) hS Tryz.zeroValue33 rfl rfl ?_
  clear hS; intro B2 W2 hS
  refine endF ?_
  refine XF.thenN ?_
  refine seqF ?_
  refine regF ?_
  refine op_build (us := []) rfl (bld_33) rfl ?_
  refine op_alloc (cs := [_, _, _, _, _, _]) hS Tryz.zeroValue33 rfl rfl ?_
  clear hS; intro B3 W3 hS
  refine op_storeA (i := 0) (vs := [_, _, _, _, _, _]) (cs' := [_, _, _, _, _, _]) (O' := [_, _, _]) hS Tryz.sizeOf33 rfl rfl rfl rfl rfl rfl rfl ?_
  clear hS; intro W4 hS
  refine endF ?_
  refine XF.thenN ?_
  refine seqF ?_
  refine seqF ?_
  refine regF ?_
  refine op_field (o' := 0) fa_25_0 rfl rfl rfl ?_
  refine op_load Tryz.isAgg22 rfl (cell_own (hS.at_ 2 rfl) rfl) rfl ?_
  refine endF ?_
  refine XF.thenN ?_
  refine blockF ?_
  refine seqF ?_
  refine regF ?_
  refine op_eql rfl rfl rfl ?_
  refine op_assign rfl rfl ?_
  refine endF ?_
  refine XF.thenN ?_
  refine condF rfl (fun hc => ?_) (fun hc => ?_)
  · have hc8 := of_decide_eq_true hc; clear hc
    have e3 : t = 3 := hc8
    subst e3
    obtain ⟨m, rfl, hm⟩ := dim3 hp (.inl rfl)
    refine regF ?_
    refine op_field (o' := 1) fa_25_1 rfl rfl rfl ?_
    refine op_load Tryz.isAgg3 rfl (cell_own (hS.at_ 2 rfl) rfl) rfl ?_
    have hsz := hS.below.size
    refine op_call (vs := [_]) hS goes_68 rfl ((oneR_is m _ _ (one_good hm).1 _ (one_good hm).2).mono fun _ _ h => FOwn.ret h) rfl ?_
    rintro e W5 ⟨a1, c1, rfl, hv, hl, hb⟩
    refine ⟨_, rfl, hb, fun hS' => ?_⟩
    clear hS; have hS := hS'; clear hS'
    refine op_move rfl rfl ?_
    refine op_extract rfl rfl rfl ?_
    refine op_extract rfl rfl rfl ?_
    refine op_field (o' := 2) fa_33_2 rfl rfl rfl ?_
    refine op_storeA (i := 0) (vs := [_, _]) (cs' := [_, _, _, _, _, _]) (O' := [_, _, _]) hS Tryz.sizeOf29 rfl rfl rfl rfl rfl rfl rfl ?_
    clear hS; intro W6 hS
    refine endF ?_
    refine XF.blkN ?_
    refine XF.thenN ?_
    refine seqF ?_
    refine regF ?_
    refine op_loadA (vs := [_, _, _, _, _, _]) Tryz.isAgg33 Tryz.sizeOf33 rfl (CellsAt.own (j := 0) (m := 6) (hS.at_ 0 rfl) rfl) rfl ?_
    refine op_storeA (i := 1) (vs := [_, _, _, _, _, _]) (cs' := [_, _, _, _, _, _]) (O' := [_, _, _]) hS Tryz.sizeOf33 rfl rfl rfl rfl rfl rfl rfl ?_
    clear hS; intro W7 hS
    refine endF ?_
    refine XF.thenN ?_
    refine retF ?_
    refine XF.res (resC1 (vs := [_, _, _, _, _, _]) Tryz.results40 Tryz.isAgg33 Tryz.sizeOf33 rfl (CellsAt.own (j := 0) (m := 6) (hS.at_ 1 rfl) rfl)) ?_
    exact wret_one (one_f3 hm (hv.agree (fun ad e => (hl ad e).1) (hS.since 0 rfl)) (fun ad e => Nat.le_trans hsz (hl ad e).1)) hS.below
  · have hc8 := of_decide_eq_false hc; clear hc
    refine seqF ?_
    refine regF ?_
    refine op_eql rfl rfl rfl ?_
    refine op_assign rfl rfl ?_
    refine endF ?_
    refine XF.thenN ?_
    refine condF rfl (fun hc => absurd (of_decide_eq_true hc) (by exact ht4)) (fun hc => ?_)
    have hc := of_decide_eq_false hc
    refine seqF ?_
    refine regF ?_
    refine op_eql rfl rfl rfl ?_
    refine op_assign rfl rfl ?_
    refine endF ?_
    refine XF.thenN ?_
    refine condF rfl (fun hc => absurd (of_decide_eq_true hc) (by exact plain_ne5 hp)) (fun hc => ?_)
    have hc := of_decide_eq_false hc
    refine skipF ?_
    refine XF.blkN ?_
    refine XF.thenN ?_
    refine seqF ?_
    refine regF ?_
    refine op_loadA (vs := [_, _, _, _, _, _]) Tryz.isAgg33 Tryz.sizeOf33 rfl (CellsAt.own (j := 0) (m := 6) (hS.at_ 0 rfl) rfl) rfl ?_
    refine op_storeA (i := 1) (vs := [_, _, _, _, _, _]) (cs' := [_, _, _, _, _, _]) (O' := [_, _, _]) hS Tryz.sizeOf33 rfl rfl rfl rfl rfl rfl rfl ?_
    clear hS; intro W8 hS
    refine endF ?_
    refine XF.thenN ?_
    refine retF ?_
    refine XF.res (resC1 (vs := [_, _, _, _, _, _]) Tryz.results40 Tryz.isAgg33 Tryz.sizeOf33 rfl (CellsAt.own (j := 0) (m := 6) (hS.at_ 1 rfl) rfl)) ?_
    exact wret_one (one_f1 hp hc8 ht4) hS.below

set_option maxRecDepth 100000 in
set_option maxHeartbeats 4000000 in
theorem oneR_pair (t n u m : Int) (a1 a2 : Option Addr) (c1 c2 b off sc : Nat) (w : World) (hs1 : S3 w b off ⟨t, n, a1, 0, c1⟩) (hs2 : S3 w b (off + 3) ⟨u, m, a2, 0, c2⟩) (hp1 : plainB t n 0 = true) (hp2 : plainB u m 0 = true) (ih10 : ∀ W : World, Calls Tryz.prog 40 #[.agg #[.int .i64 t, .int .i64 n, .slice a1 0 c1]] W (WRet (.one t n) (.one (oneP t n)) W)) (ih20 : ∀ W : World, Calls Tryz.prog 40 #[.agg #[.int .i64 u, .int .i64 m, .slice a2 0 c2]] W (WRet (.one u m) (.one (oneP u m)) W)) :
    Calls Tryz.prog 40 #[.agg #[.int .i64 5, .int .i64 0, .slice (some ⟨b, off, none⟩) 2 sc]] w (WRet (.two t n u m) (.two (oneP t n) (oneP u m)) w) := by
  refine enterF (args := [.agg #[.int .i64 5, .int .i64 0, .slice (some ⟨b, off, none⟩) 2 sc]]) Tryz.func40 rfl Tryz.ntmps40 rfl ?_
  have hS := St.start w
  refine seqF ?_
  refine regF ?_
  refine op_box (cs := [_, _, _]) hS rfl rfl rfl ?_
  clear hS; intro B1 W1 hS
  refine op_alloc (cs := [_, _, _, _, _, _]) hS Tryz.zeroValue33 rfl rfl ?_
  clear hS; intro B2 W2 hS
  refine endF ?_
  refine XF.thenN ?_
  refine seqF ?_
  refine regF ?_
  refine op_build (us := []) rfl (bld_33) rfl ?_
  refine op_alloc (cs := [_, _, _, _, _, _]) hS Tryz.zeroValue33 rfl rfl ?_
  clear hS; intro B3 W3 hS
  refine op_storeA (i := 0) (vs := [_, _, _, _, _, _]) (cs' := [_, _, _, _, _, _]) (O' := [_, _, _]) hS Tryz.sizeOf33 rfl rfl rfl rfl rfl rfl rfl ?_
  clear hS; intro W4 hS
  refine endF ?_
  refine XF.thenN ?_
  refine seqF ?_
  refine seqF ?_
  refine regF ?_
  refine op_field (o' := 0) fa_25_0 rfl rfl rfl ?_
  refine op_load Tryz.isAgg22 rfl (cell_own (hS.at_ 2 rfl) rfl) rfl ?_
  refine endF ?_
  refine XF.thenN ?_
  refine blockF ?_
  refine seqF ?_
  refine regF ?_
  refine op_eql rfl rfl rfl ?_
  refine op_assign rfl rfl ?_
  refine endF ?_
  refine XF.thenN ?_
  refine condF rfl (fun hc => absurd (of_decide_eq_true hc) (by omega)) (fun hc => ?_)
  have hc := of_decide_eq_false hc
  refine seqF ?_
  refine regF ?_
  refine op_eql rfl rfl rfl ?_
  refine op_assign rfl rfl ?_
  refine endF ?_
  refine XF.thenN ?_
  refine condF rfl (fun hc => absurd (of_decide_eq_true hc) (by omega)) (fun hc => ?_)
  have hc := of_decide_eq_false hc
  refine seqF ?_
  refine regF ?_
  refine op_eql rfl rfl rfl ?_
  refine op_assign rfl rfl ?_
  refine endF ?_
  refine XF.thenN ?_
  refine condF rfl (fun hc => ?_) (fun hc => absurd (of_decide_eq_false hc) (by omega))
  have hc := of_decide_eq_true hc
  have hsz := hS.below.size
  have k1 := CellsAt.agree hS.agree (Nat.zero_le _) hs1.cells
  have k2 := CellsAt.agree hS.agree (Nat.zero_le _) hs2.cells
  have ih1 := fun (W2 : World) (_ : Below W4.heap.size W4 W2) => ih10 W2
  have ih2 := fun (W2 : World) (_ : Below W4.heap.size W4 W2) => ih20 W2
  refine regBK followsM 12 hS rfl rfl (by kernel_rfl) (by kernel_rfl) (by kernel_rfl) (fun d hd => by cases hd) ?_
  refine bl_cons 1 rfl (isV _) (stab_isV _) (rgV (li := [(1, _)]) rfl (w_free rfl) ⟨g_fr (by kernel_rfl) rfl, trivial⟩ (fun w hw => rn_field (o' := 2) fa_25_2 rfl rfl) (at_top rfl)) ?_
  refine bl_cons 2 rfl (isV _) (stab_isV _) (rgV (li := [(35, _)]) rfl (w_free rfl) ⟨g_dep 0 (by kernel_rfl) (at_dep rfl rfl rfl), trivial⟩ (fun w hw => rn_load Tryz.isAgg23 rfl ((below_agree hw 0).cell (Nat.zero_le _) (cell_own (hS.at_ 2 rfl) rfl))) (at_top rfl)) ?_
  refine bl_cons 3 rfl (isV _) (stab_isV _) (rgV (li := [(36, _)]) rfl (w_free rfl) ⟨g_dep 1 (by kernel_rfl) (at_dep rfl rfl rfl), trivial⟩ (fun w hw => rn_indexA (j := 0) Tryz.underlying23 Tryz.sizeOf25 rfl rfl rfl (by omega) (Nat.add_zero _)) (at_top rfl)) ?_
  refine bl_cons 4 rfl (isV _) (stab_isV _) (rgV (li := [(37, _)]) rfl (w_free rfl) ⟨g_dep 2 (by kernel_rfl) (at_dep rfl rfl rfl), trivial⟩ (fun w hw => rn_loadA (vs := [_, _, _]) Tryz.isAgg25 Tryz.sizeOf25 rfl (CellsAt.agree (below_agree hw 0) (Nat.zero_le _) (by assumption))) (at_top rfl)) ?_
  refine bl_cons 5 rfl (isNew W4.heap.size (.one t n) (.one (oneP t n))) (stab_isNew) (rg_call [isV _] rfl goes_40 (w_free rfl) ⟨p_tmp (g_dep 3 (by kernel_rfl) (at_dep rfl rfl rfl)), trivial⟩ (fun vs w' hb hh => by have e := holds_isV (us := [_]) hh; subst e; exact wret_gives hb.size (ih1 _ hb)) (at_top rfl)) ?_
  refine bl_cons 6 rfl (isV _) (stab_isV _) (rgV (li := [(1, _)]) rfl (w_free rfl) ⟨g_fr (by kernel_rfl) rfl, trivial⟩ (fun w hw => rn_field (o' := 2) fa_25_2 rfl rfl) (at_top rfl)) ?_
  refine bl_cons 7 rfl (isV _) (stab_isV _) (rgV (li := [(40, _)]) rfl (w_free rfl) ⟨g_dep 5 (by kernel_rfl) (at_dep rfl rfl rfl), trivial⟩ (fun w hw => rn_load Tryz.isAgg23 rfl ((below_agree hw 0).cell (Nat.zero_le _) (cell_own (hS.at_ 2 rfl) rfl))) (at_top rfl)) ?_
  refine bl_cons 8 rfl (isV _) (stab_isV _) (rgV (li := [(41, _)]) rfl (w_free rfl) ⟨g_dep 6 (by kernel_rfl) (at_dep rfl rfl rfl), trivial⟩ (fun w hw => rn_indexA (j := 1) Tryz.underlying23 Tryz.sizeOf25 rfl rfl rfl (by omega) rfl) (at_top rfl)) ?_
  refine bl_cons 9 rfl (isV _) (stab_isV _) (rgV (li := [(42, _)]) rfl (w_free rfl) ⟨g_dep 7 (by kernel_rfl) (at_dep rfl rfl rfl), trivial⟩ (fun w hw => rn_loadA (vs := [_, _, _]) Tryz.isAgg25 Tryz.sizeOf25 rfl (CellsAt.agree (below_agree hw 0) (Nat.zero_le _) (by assumption))) (at_top rfl)) ?_
  refine bl_cons 10 rfl (isNew W4.heap.size (.one u m) (.one (oneP u m))) (stab_isNew) (rg_call [isV _] rfl goes_40 (w_free rfl) ⟨p_tmp (g_dep 8 (by kernel_rfl) (at_dep rfl rfl rfl)), trivial⟩ (fun vs w' hb hh => by have e := holds_isV (us := [_]) hh; subst e; exact wret_gives hb.size (ih2 _ hb)) (at_top rfl)) ?_
  refine bl_cons 11 rfl (isPairRow W4.heap.size (.two t n u m) (.two (oneP t n) (oneP u m))) (stab_isPairRow) (rg_pairRow rfl (w_free rfl) ⟨p_tmp (g_dep 4 (by kernel_rfl) (at_dep rfl rfl rfl)), p_tmp (g_dep 9 (by kernel_rfl) (at_dep rfl rfl rfl)), trivial⟩ (at_top rfl)) ?_
  refine bl_cons 12 rfl (isV _) (stab_isV _) (rgV (li := [(3, _)]) rfl (w_free rfl) ⟨g_fr (by kernel_rfl) rfl, trivial⟩ (fun w hw => rn_field (o' := 5) fa_33_4 rfl rfl) (at_top rfl)) ?_
  refine bl_nil ?_
  intro W5 hbR hS'
  clear hS; have hS := hS'; clear hS'
  refine fin_v ?_
  refine fin_v ?_
  refine fin_v ?_
  refine fin_v ?_
  refine fin_p ?_; rintro _ ⟨v1, rfl, hn1⟩
  refine fin_v ?_
  refine fin_v ?_
  refine fin_v ?_
  refine fin_v ?_
  refine fin_p ?_; rintro _ ⟨v2, rfl, hn2⟩
  refine fin_p ?_; rintro _ ⟨b9, rfl, hn9⟩
  refine fin_v ?_
  refine fin_nil ?_
  refine op_store (i := 0) (cs' := [_, _, _, _, _, _]) (O' := [_, _, _]) hS Tryz.sizeOf31 rfl rfl rfl rfl rfl rfl rfl ?_
  clear hS; intro W6 hS
  refine endF ?_
  refine XF.blkN ?_
  refine XF.thenN ?_
  refine seqF ?_
  refine regF ?_
  refine op_loadA (vs := [_, _, _, _, _, _]) Tryz.isAgg33 Tryz.sizeOf33 rfl (CellsAt.own (j := 0) (m := 6) (hS.at_ 0 rfl) rfl) rfl ?_
  refine op_storeA (i := 1) (vs := [_, _, _, _, _, _]) (cs' := [_, _, _, _, _, _]) (O' := [_, _, _]) hS Tryz.sizeOf33 rfl rfl rfl rfl rfl rfl rfl ?_
  clear hS; intro W7 hS
  refine endF ?_
  refine XF.thenN ?_
  refine retF ?_
  refine XF.res (resC1 (vs := [_, _, _, _, _, _]) Tryz.results40 Tryz.isAgg33 Tryz.sizeOf33 rfl (CellsAt.own (j := 0) (m := 6) (hS.at_ 1 rfl) rfl)) ?_
  exact ⟨pairF b9, rfl, (hn9.agree (hS.since 0 rfl)).mono hsz, hS.below⟩
end Go.Proofs.YtjcminoaiieckaaGreatDoor
namespace Go.Proofs.YtjcminoaiieckaaGreatDoor
open Go Go.RowKit
set_option linter.unusedVariables false
section
variable {β : Option Nat} {w w' w'' W : World} {p : Asr} {v c : Value}
end
section
variable {P : Program} {n : Nat} {Q : Exit → Act → World → Prop} {l : Fr} {w0 W : World} {ops : Array Oper} {os : List Oper} {O : Own} {G : Grows} {K : List (Nat × World)} {L : List Asr} {i : Nat}
variable {d : Nat} {op : Op} {ty : TypeId} {pos : String} {aft : Array Edge} {v : Value} {gd : Option (Nat × Bool)}
def anyA : Asr := fun _ _ => True
theorem stab_anyA : Stab anyA := fun _ _ _ _ _ => trivial
variable {Goal : List Asr → Prop}
end
end Go.Proofs.YtjcminoaiieckaaGreatDoor
namespace Go.Proofs.YtjcminoaiieckaaGreatDoor
open Go Go.RowKit
set_option linter.unusedVariables false
section
variable {P : Program} {n : Nat} {Q : Exit → Act → World → Prop} {l : Fr} {w0 W : World} {ops : Array Oper} {os : List Oper} {O : Own} {G : Grows} {K : List (Nat × World)} {L L2 : List Asr} {i : Nat}
theorem region_lastS {k : Nat} {dn : Nat → Bool} {t0 : Array Value} {d0 : List Deferred} {G : World → Prop} {I : Nat → Value → World → Prop} (hl : lastR ops k = true) (ht : tidyR ops t0.size = true) (hst : ∀ i v w w', G w → I i v w → Below w.heap.size w w' → I i v w')
    (hstep : ∀ i, i < k → dn i = false → RStep P ops Q t0 G I i) (hfin : RFin ops t0 d0 G I k (wpOp P ops Q k (Q .normal))) :
    ∀ (fuel : Nat) (L : Array Bool) (a : Act) (w : World), L.size = ops.size → L.getD k true = false → (∀ i, dn i = true → L.getD i false = true) → L.toList.count false ≤ fuel → RInv ops t0 d0 G I L a w → wpAny P .any ops Q fuel L a w := by
  simp only [lastR, Bool.and_eq_true, decide_eq_true_eq] at hl
  obtain ⟨hk, hl⟩ := hl
  have cnt : ∀ (L : Array Bool) i, L.getD i true = false → L.toList[i]? = some false := fun L i h1 => by
    rw [Array.getD_eq_getD_getElem?] at h1
    rw [Array.getElem?_toList]
    cases hL : L[i]? with
    | none => rw [hL] at h1; cases h1
    | some b => rw [hL] at h1; simpa using h1
  intro fuel
  induction fuel with
  | zero =>
    intro L a w hs hlk hlp hc h
    have := cnt_set _ _ (cnt L k hlk)
    omega
  | succ fuel ih =>
    intro L a w hs hlk hlp hc h
    refine ⟨fun hr => ?_, fun i hi => ?_⟩
    · rw [ready_nil ht hs hr k (by omega)] at hlk
      cases hlk
    · obtain ⟨h1, o, ho, hdep⟩ := mem_ready.1 hi
      have his : i < ops.size := (Array.getElem?_eq_some_iff.1 ho).1
      have hc1 := cnt_set _ _ (cnt L i h1)
      have hip : dn i = false := by
        cases hd : dn i with
        | false => rfl
        | true =>
          have h3 := hlp i hd
          have h2 := cnt L i h1
          rw [Array.getElem?_toList] at h2
          rw [Array.getD_eq_getD_getElem?, h2] at h3
          cases h3
      by_cases hik : i = k
      · subst hik
        simp only [ho] at hl
        have hall : ∀ j, j < i → L.getD j false = true := fun j hj => by
          have := List.all_eq_true.1 hl j (List.mem_range.2 hj)
          obtain ⟨e, he, h2⟩ := Array.any_eq_true'.1 this
          simp only [Bool.and_eq_true, beq_iff_eq] at h2
          have := hdep e he h2.2
          rw [h2.1] at this
          exact this
        refine wpOp_mono ?_ (hfin a w h.size h.defers h.frame h.glob fun j d hj hd => h.done j d hd (hall j hj))
        intro a' w' hq
        have hnil : Region.ready .any ops (L.setIfInBounds i true) = [] := by
          cases hr : Region.ready .any ops (L.setIfInBounds i true) with
          | nil => rfl
          | cons j rest =>
            have hj : j ∈ Region.ready .any ops (L.setIfInBounds i true) := by rw [hr]; exact List.mem_cons_self
            obtain ⟨h5, o', ho', _⟩ := mem_ready.1 hj
            have hjs : j < ops.size := (Array.getElem?_eq_some_iff.1 ho').1
            by_cases hji : j = i
            · subst hji
              rw [Array.getD_eq_getD_getElem?, Array.getElem?_eq_getElem (by simpa using (by omega : j < L.size))] at h5
              simp at h5
            · rw [getD_set_ne true (Ne.symm hji)] at h5
              have h6 := hall j (by omega)
              rw [Array.getD_eq_getD_getElem?] at h5 h6
              rw [Array.getElem?_eq_getElem (by omega)] at h5 h6
              simp at h5 h6
              rw [h5] at h6
              cases h6
        cases fuel with
        | zero => exact ⟨hnil, hq⟩
        | succ fuel => exact ⟨fun _ => hq, by rw [hnil]; simp⟩
      · refine wpOp_mono ?_ (hstep i (by omega) hip a w h.frameE h.glob (h.deps hi))
        rintro a' w' ⟨⟨v, rfl, hI⟩, hG, hB⟩
        refine ih _ _ _ (by simpa using hs) (by rw [getD_set_ne true hik]; exact hlk) (fun j hj => ?_) ?_ (h.next ht h1 hst hI hG hB)
        · have hij : i ≠ j := fun e => by subst e; rw [hip] at hj; cases hj
          rw [getD_set_ne false hij]; exact hlp j hj
        · rw [Array.toList_setIfInBounds]
          omega
def aft (ops : Array Oper) (j : Nat) : List Nat := match ops[j]? with | some o => (o.after.toList.filter fun e => Region.binds .any e).map (·.on) | none => []
def earlyL (ops : Array Oper) (p : Nat) : List Nat := (List.range p).reverse.foldl (fun S j => bif S.contains j then aft ops j ++ S else S) (aft ops p)
theorem early_done {p : Nat} {D : Nat → Prop} (h0 : ∀ x ∈ aft ops p, D x) (hc : ∀ j, D j → ∀ x ∈ aft ops j, D x) : ∀ x ∈ earlyL ops p, D x := by
  have key : ∀ (js S : List Nat), (∀ x ∈ S, D x) → ∀ x ∈ js.foldl (fun S j => bif S.contains j then aft ops j ++ S else S) S, D x := by
    intro js
    induction js with
    | nil => intro S h; exact h
    | cons j js ih =>
      intro S h
      refine ih _ ?_
      show ∀ x ∈ (bif S.contains j then aft ops j ++ S else S), D x
      cases hj : S.contains j with
      | false => exact h
      | true =>
        intro x hx
        rw [cond_true] at hx
        rcases List.mem_append.1 hx with hx | hx
        · exact hc j (h j (List.contains_iff_mem.1 hj)) x hx
        · exact h x hx
  exact key _ _ h0
theorem aft_mem {j : Nat} {o : Oper} (ho : ops[j]? = some o) {x : Nat} (hx : x ∈ aft ops j) : ∃ e ∈ o.after, e.on = x ∧ Region.binds .any e = true := by
  unfold aft at hx
  rw [ho] at hx
  obtain ⟨e, he, rfl⟩ := List.mem_map.1 hx
  obtain ⟨h1, h2⟩ := List.mem_filter.1 he
  exact ⟨e, Array.mem_toList_iff.1 h1, rfl, h2⟩
def IP (L2 : List Asr) (p : Nat) (v' : Value) (i : Nat) (v : Value) (w : World) : Prop := (i = p → v = v') ∧ atI L2 i v w
theorem region_append {k p dp : Nat} {t0 : Array Value} {d0 : List Deferred} {late : Nat → Bool} {o : Oper} {RA : World → Value → World → Prop} (hl : lastR ops k = true) (ht : tidyR ops t0.size = true) (hst : StabL L) (hst2 : StabL L2) (hpk : p < k) (hp : ops[p]? = some o) (hod : o.dst = some dp) (hog : o.guard = none)
    (hearly : ∀ j, j < k → j ≠ p → late j = false → j ∈ earlyL ops p)
    (hstep : ∀ i, i < k → i ≠ p → RStep P ops Q t0 (fun w => Below W.heap.size W w) (atI L) i)
    (happ : ∀ (a : Act) (w : World), (∀ t, freeT ops t = true → a.eval (.tmp t) = t0.getD t undef) → Below W.heap.size W w → (∀ j d, waitsFor ops p j d = true → atI L j (a.eval (.tmp d)) w) → ∃ v w', (execOp a.eval o).run P w = .ok (.value v) w' ∧ RA w v w')
    (hL2p : atI L2 p = anyA) (hpure : ∀ i, i < k → i ≠ p → ∀ v w w', atI L i v w → atI L2 i v w')
    (hlate : ∀ v' W2 i, i < k → i ≠ p → late i = true → RStep P ops Q t0 (fun w => w = W2) (IP L2 p v') i)
    (hfin : ∀ A v' W2, Below W.heap.size W A → RA A v' W2 → RFin ops t0 d0 (fun w => w = W2) (IP L2 p v') k (wpOp P ops Q k (Q .normal))) :
    ∀ (fuel : Nat) (LB : Array Bool) (a : Act) (w : World), LB.size = ops.size → LB.getD k true = false → LB.toList.count false ≤ fuel → LB.getD p true = false → (∀ j, LB.getD j false = true → ∀ x ∈ aft ops j, LB.getD x false = true) → RInv ops t0 d0 (fun w => Below W.heap.size W w) (atI L) LB a w → wpAny P .any ops Q fuel LB a w := by
  have hl0 := hl
  simp only [lastR, Bool.and_eq_true, decide_eq_true_eq] at hl
  obtain ⟨hk, hl⟩ := hl
  have cnt : ∀ (L : Array Bool) i, L.getD i true = false → L.toList[i]? = some false := fun L i h1 => by
    rw [Array.getD_eq_getD_getElem?] at h1
    rw [Array.getElem?_toList]
    cases hL : L[i]? with
    | none => rw [hL] at h1; cases h1
    | some b => rw [hL] at h1; simpa using h1
  intro fuel
  induction fuel with
  | zero =>
    intro LB a w hs hlk hc hlp hcl h
    have := cnt_set _ _ (cnt LB k hlk)
    omega
  | succ fuel ih =>
    intro LB a w hs hlk hc hlp hcl h
    refine ⟨fun hr => ?_, fun i hi => ?_⟩
    · rw [ready_nil ht hs hr k (by omega)] at hlk
      cases hlk
    · obtain ⟨h1, o', ho, hdep⟩ := mem_ready.1 hi
      have his : i < ops.size := (Array.getElem?_eq_some_iff.1 ho).1
      have hc1 := cnt_set _ _ (cnt LB i h1)
      by_cases hik : i = k
      · subst hik
        simp only [ho] at hl
        have := List.all_eq_true.1 hl p (List.mem_range.2 hpk)
        obtain ⟨e, he, h2⟩ := Array.any_eq_true'.1 this
        simp only [Bool.and_eq_true, beq_iff_eq] at h2
        have h3 := hdep e he h2.2
        rw [h2.1] at h3
        have h4 := cnt LB p hlp
        rw [Array.getElem?_toList] at h4
        rw [Array.getD_eq_getD_getElem?, h4] at h3
        cases h3
      · by_cases hip : i = p
        · subst hip
          rw [hp] at ho
          have ho' := (Option.some.inj ho).symm
          subst ho'
          obtain ⟨v', w', hr, hRA⟩ := happ a w h.frameE h.glob (h.deps hi)
          have step : wpOp P ops Q i (fun a2 w2 => a2 = a.put (some dp) v' ∧ w2 = w') a w := by
            unfold wpOp
            simp only [hp, wanted_free hog, if_true]
            refine .inl ?_
            unfold Oper.wp
            rw [hr]
            exact ⟨by rw [hod], rfl⟩
          refine wpOp_mono ?_ step
          rintro a2 w2 ⟨rfl, rfl⟩
          have hdst : (ops[i]?).bind (·.dst) = some dp := by rw [hp]; exact hod
          refine region_lastS (t0 := t0) (d0 := d0) (dn := fun j => decide (j = i) || (decide (j < k) && !late j)) (G := fun w => w = w2) (I := IP L2 i v') hl0 ht ?_ ?_ (hfin _ _ _ h.glob hRA) fuel _ _ _ (by simpa using hs) (by rw [getD_set_ne true hik]; exact hlk) ?_ ?_ ?_
          · rintro j v w1 w3 _ ⟨h5, h6⟩ hb
            exact ⟨h5, atI_stab hst2 _ _ _ _ h6 hb⟩
          · intro j hj hd
            simp only [Bool.or_eq_false_iff, decide_eq_false_iff_not, Bool.and_eq_false_iff, Bool.not_eq_false'] at hd
            refine hlate v' w2 j hj hd.1 ?_
            rcases hd.2 with h5 | h5
            · exact absurd hj h5
            · exact h5
          · intro j hd
            simp only [Bool.or_eq_true, decide_eq_true_eq, Bool.and_eq_true, Bool.not_eq_true'] at hd
            by_cases hji : j = i
            · subst hji
              rw [Array.getD_eq_getD_getElem?, Array.getElem?_setIfInBounds_self_of_lt (by omega)]; rfl
            · rcases hd with hd | ⟨hd1, hd2⟩
              · exact absurd hd hji
              · rw [getD_set_ne false (Ne.symm hji)]
                refine early_done (D := fun x => LB.getD x false = true) (fun x hx => ?_) (fun j hj x hx => hcl j hj x hx) j (hearly j hd1 hji hd2)
                obtain ⟨e, he, h5, h6⟩ := aft_mem hp hx
                have h7 := hdep e he h6
                rw [h5] at h7
                exact h7
          · rw [Array.toList_setIfInBounds]; omega
          · refine ⟨by rw [put_size]; exact h.size, by rw [put_defers]; exact h.defers, fun t hf => ?_, rfl, fun j d hd hj => ?_⟩
            · rw [put_other ?_]
              · exact h.frame t hf
              · intro e
                have := Array.all_eq_true'.1 hf _ (Array.mem_of_getElem? hp)
                simp at this
                exact this (hod.trans e)
            · by_cases hji : j = i
              · subst hji
                rw [hdst] at hd
                rw [put_at hd (by rw [h.size]; exact (tidy_dst ht (hdst.trans hd)).1)]
                exact ⟨fun _ => rfl, by rw [hL2p]; trivial⟩
              · rw [getD_set_ne false (Ne.symm hji)] at hj
                rw [put_other (fun e => hji ((tidy_dst ht (hdst.trans e)).2 j hd))]
                have hjk : j < k := by
                  obtain ⟨o2, ho2, _⟩ := Option.bind_eq_some_iff.1 hd
                  have h5 := (Array.getElem?_eq_some_iff.1 ho2).1
                  have h6 : j ≠ k := fun e => by
                    subst e
                    have h4 := cnt LB j hlk
                    rw [Array.getElem?_toList] at h4
                    rw [Array.getD_eq_getD_getElem?, h4] at hj
                    cases hj
                  omega
                exact ⟨fun e => absurd e hji, hpure j hjk hji _ _ _ (h.done j d hd hj)⟩
        · refine wpOp_mono ?_ (hstep i (by omega) hip a w h.frameE h.glob (h.deps hi))
          rintro a' w' ⟨⟨v, rfl, hI⟩, hG, hB⟩
          refine ih _ _ _ (by simpa using hs) (by rw [getD_set_ne true hik]; exact hlk) ?_ (by rw [getD_set_ne true hip]; exact hlp) (fun j hj x hx => ?_) (h.next ht h1 (fun i v w w' _ h hb => atI_stab hst i v w w' h hb) hI hG hB)
          · rw [Array.toList_setIfInBounds]
            omega
          · have hx2 : LB.getD x false = true := by
              by_cases hji : j = i
              · subst hji
                obtain ⟨e, he, h5, h6⟩ := aft_mem ho hx
                have h7 := hdep e he h6
                rw [h5] at h7
                exact h7
              · rw [getD_set_ne false (Ne.symm hji)] at hj
                exact hcl j hj x hx
            by_cases hxi : x = i
            · subst hxi
              rw [Array.getD_eq_getD_getElem?, Array.getElem?_setIfInBounds_self_of_lt (by omega)]; rfl
            · rw [getD_set_ne false (Ne.symm hxi)]; exact hx2
def pvL (v : Value) (p : Nat) : Nat → List Asr → List Asr
  | _, [] => []
  | j, q :: L => (bif Nat.beq j p then isV v else q) :: pvL v p (j + 1) L
theorem atI_pvL {v : Value} {p : Nat} : ∀ (L : List Asr) (j i : Nat), i < L.length → atI (pvL v p j L) i = if i + j = p then isV v else atI L i
  | [], j, i, h => by simp at h
  | q :: L, j, 0, h => by
    show (bif Nat.beq j p then isV v else q) = _
    cases hb : Nat.beq j p with
    | true => rw [if_pos (by rw [Nat.zero_add]; exact Nat.eq_of_beq_eq_true hb)]; rfl
    | false => rw [if_neg (by rw [Nat.zero_add]; intro e; rw [e, Nat.beq_refl] at hb; cases hb)]; rfl
  | q :: L, j, i + 1, h => by
    show atI (pvL v p (j + 1) L) i = _
    rw [atI_pvL L (j + 1) i (by simpa using h)]
    by_cases h1 : i + (j + 1) = p
    · rw [if_pos h1, if_pos (by omega)]
    · rw [if_neg h1, if_neg (by omega)]; rfl
variable {d : Nat} {op : Op} {ty : TypeId} {pos : String} {aft : Array Edge} {v : Value} {gd : Option (Nat × Bool)}
def RGL (P : Program) (n : Nat) (ops : Array Oper) (Q : Exit → Act → World → Prop) (l : Fr) (L2 : List Asr) (p i : Nat) : Prop := ∀ v' W2 a, Has n l a → RStep P ops Q a.tmps (fun w => w = W2) (IP L2 p v') i
theorem lgV {p : Nat} (li : Fr) (hi : ops[i]? = some ⟨some d, op, ty, pos, aft, gd⟩) (hw : Wants ops L2 i ⟨some d, op, ty, pos, aft, gd⟩) (hli : AllO n ops l L2 i li) (hr : ∀ w, Runs P li ⟨some d, op, ty, pos, #[], none⟩ w v w) (hI : atI L2 i = isV v) (hip : Nat.beq i p = false) : RGL P n ops Q l L2 p i :=
  fun v' W2 a ha => RStep.value hi fun b w hF hG hD => ⟨hw.yes (fun j d h => (hD j d h).2), v, w, by rw [execOp_guard b.eval _ _ _ _ pos _ #[] _ none]; exact hr w b.eval (allO_has ha hF (fun j d h => (hD j d h).2) hli), ⟨fun e => absurd hip (by rw [e, Nat.beq_refl]; decide), by rw [hI]; rfl⟩, hG, Below.refl _ _⟩
theorem RGL.ext {L1 L2 : List Asr} {p : Nat} (ht : tidyR ops n = true) (hag : ∀ j, j ≤ i → atI L1 j = atI L2 j) (h : RGL P n ops Q l L1 p i) : RGL P n ops Q l L2 p i := fun v' W2 a ha => by
  have h1 := h v' W2 a ha
  intro b w hF hG hD
  have hlt : ∀ j d, waitsFor ops i j d = true → j < i := fun j d hw => by
    cases ho : ops[i]? with
    | none => simp [waitsFor, ho] at hw
    | some o =>
      simp only [waitsFor, ho, Bool.and_eq_true, beq_iff_eq] at hw
      obtain ⟨e, he, h2⟩ := Array.any_eq_true'.1 hw.1
      simp only [Bool.and_eq_true, beq_iff_eq] at h2
      rw [← h2.1]; exact tidy_after ht ho e he h2.2
  have h2 := h1 b w hF hG (fun j d hw => by unfold IP; rw [hag j (Nat.le_of_lt (hlt j d hw))]; exact hD j d hw)
  unfold IP at h2
  rw [hag i (Nat.le_refl _)] at h2
  exact h2
def PureA (q q2 : Asr) : Prop := ∀ v w w', q v w → q2 v w'
theorem pure_v {c : Value} : PureA (isV c) (isV c) := fun _ _ _ h => h
theorem pure_any {q : Asr} : PureA q anyA := fun _ _ _ _ => trivial
def earlyR (ops : Array Oper) (p j : Nat) : Bool := (earlyL ops p).contains j
def BLP (P : Program) (n : Nat) (ops : Array Oper) (Q : Exit → Act → World → Prop) (l : Fr) (W : World) (p : Nat) (Goal : List Asr → List Asr → Prop) : Nat → List Asr → List Asr → Nat → Prop
  | 0, Lr, L2r, _ => Goal Lr L2r
  | m + 1, Lr, L2r, k => ∃ q q2, Stab q ∧ Stab q2 ∧ PureA q q2 ∧ ((k = p ∧ q2 = anyA) ∨ (k ≠ p ∧ RG P n ops Q l W (q :: Lr).reverse k ∧ (earlyR ops p k = true ∨ RGL P n ops Q l (q2 :: L2r).reverse p k))) ∧ BLP P n ops Q l W p Goal m (q :: Lr) (q2 :: L2r) (k + 1)
variable {Goal : List Asr → List Asr → Prop}
theorem blp_nil {Lr L2r : List Asr} {k p : Nat} (h : Goal Lr L2r) : BLP P n ops Q l W p Goal 0 Lr L2r k := h
theorem blp_v {m k p : Nat} {Lr L2r : List Asr} {c : Value} (k' : Nat) (hk : k + 1 = k') (hne : Nat.beq k p = false) (he : earlyR ops p k = true) (h : RG P n ops Q l W (isV c :: Lr).reverse k) (hr : BLP P n ops Q l W p Goal m (isV c :: Lr) (isV c :: L2r) k') : BLP P n ops Q l W p Goal (m + 1) Lr L2r k := by
  subst hk; exact ⟨isV c, isV c, stab_isV _, stab_isV _, pure_v, .inr ⟨fun e => absurd hne (by rw [e, Nat.beq_refl]; decide), h, .inl he⟩, hr⟩
theorem blp_q {m k p : Nat} {Lr L2r : List Asr} (k' : Nat) (hk : k + 1 = k') (hne : Nat.beq k p = false) (he : earlyR ops p k = true) (q : Asr) (hs : Stab q) (h : RG P n ops Q l W (q :: Lr).reverse k) (hr : BLP P n ops Q l W p Goal m (q :: Lr) (anyA :: L2r) k') : BLP P n ops Q l W p Goal (m + 1) Lr L2r k := by
  subst hk; exact ⟨q, anyA, hs, stab_anyA, pure_any, .inr ⟨fun e => absurd hne (by rw [e, Nat.beq_refl]; decide), h, .inl he⟩, hr⟩
theorem blp_late {m k p : Nat} {Lr L2r : List Asr} {c : Value} (k' : Nat) (hk : k + 1 = k') (hne : Nat.beq k p = false) (h : RG P n ops Q l W (isV c :: Lr).reverse k) (h2 : RGL P n ops Q l (isV c :: L2r).reverse p k) (hr : BLP P n ops Q l W p Goal m (isV c :: Lr) (isV c :: L2r) k') : BLP P n ops Q l W p Goal (m + 1) Lr L2r k := by
  subst hk; exact ⟨isV c, isV c, stab_isV _, stab_isV _, pure_v, .inr ⟨fun e => absurd hne (by rw [e, Nat.beq_refl]; decide), h, .inr h2⟩, hr⟩
theorem blp_app {m k p : Nat} {Lr L2r : List Asr} (k' : Nat) (hk : k + 1 = k') (hp : k = p) (hr : BLP P n ops Q l W p Goal m (anyA :: Lr) (anyA :: L2r) k') : BLP P n ops Q l W p Goal (m + 1) Lr L2r k := by
  subst hk; exact ⟨anyA, anyA, stab_anyA, stab_anyA, pure_any, .inl ⟨hp, rfl⟩, hr⟩
def BG (P : Program) (n : Nat) (ops : Array Oper) (Q : Exit → Act → World → Prop) (l : Fr) (W : World) (p : Nat) (L L2 : List Asr) (i : Nat) : Prop := PureA (atI L i) (atI L2 i) ∧ ((i = p ∧ atI L2 i = anyA) ∨ (i ≠ p ∧ RG P n ops Q l W L i ∧ (earlyR ops p i = true ∨ RGL P n ops Q l L2 p i)))
theorem blp_run (p : Nat) (ht : tidyR ops n = true) : ∀ (m k : Nat) (Lr L2r : List Asr), Lr.length = k → L2r.length = k → (∀ q ∈ Lr, Stab q) → (∀ q ∈ L2r, Stab q) → (∀ i, i < k → BG P n ops Q l W p Lr.reverse L2r.reverse i) → BLP P n ops Q l W p Goal m Lr L2r k →
    ∃ Lr' L2r', Lr'.length = k + m ∧ L2r'.length = k + m ∧ (∀ q ∈ Lr', Stab q) ∧ (∀ q ∈ L2r', Stab q) ∧ (∀ i, i < k + m → BG P n ops Q l W p Lr'.reverse L2r'.reverse i) ∧ Goal Lr' L2r'
  | 0, k, Lr, L2r, hl, hl2, hs, hs2, hg, h => ⟨Lr, L2r, hl, hl2, hs, hs2, hg, h⟩
  | m + 1, k, Lr, L2r, hl, hl2, hs, hs2, hg, ⟨q, q2, hp, hp2, hpu, hr, hn⟩ => by
    obtain ⟨L', L2', h1, h2, h3, h4, h5, h6⟩ := blp_run p ht m (k + 1) (q :: Lr) (q2 :: L2r) (by simp [hl]) (by simp [hl2]) (fun r hq => by
      rcases List.mem_cons.1 hq with rfl | hq
      · exact hp
      · exact hs r hq) (fun r hq => by
      rcases List.mem_cons.1 hq with rfl | hq
      · exact hp2
      · exact hs2 r hq) (fun i hi => by
      by_cases hik : i = k
      · subst hik
        refine ⟨by rw [at_top hl, at_top hl2]; exact hpu, ?_⟩
        rcases hr with ⟨e1, e2⟩ | hr
        · exact .inl ⟨e1, by rw [at_top hl2]; exact e2⟩
        · exact .inr hr
      · have hap : ∀ j, j ≤ i → atI Lr.reverse j = atI (q :: Lr).reverse j := fun j hj => by rw [List.reverse_cons, atI_append (by simp; omega)]
        have hap2 : ∀ j, j ≤ i → atI L2r.reverse j = atI (q2 :: L2r).reverse j := fun j hj => by rw [List.reverse_cons, atI_append (by simp; omega)]
        obtain ⟨g1, g2⟩ := hg i (by omega)
        refine ⟨by rw [← hap i (Nat.le_refl _), ← hap2 i (Nat.le_refl _)]; exact g1, ?_⟩
        rcases g2 with ⟨e1, e2⟩ | ⟨e1, e2, e3⟩
        · exact .inl ⟨e1, by rw [← hap2 i (Nat.le_refl _)]; exact e2⟩
        · exact .inr ⟨e1, RG.ext ht hap e2, e3.imp id (RGL.ext ht hap2)⟩) hn
    exact ⟨L', L2', by omega, by omega, h3, h4, fun i hi => h5 i (by omega), h6⟩
def RowOf (m s : Nat) (q : List Value → World → Prop) (py : Asr) : Prop := ∀ v w, py v w → ∃ b o c cs, v = .slice (some ⟨b, o, none⟩) m c ∧ CellsAt w b o cs ∧ cs.length = m * s ∧ cs.all Value.oneCell' = true ∧ q cs w
theorem rowOf_isRow {lo m s : Nat} {e : TypeId} {cs : List Value} (hl : Nat.beq cs.length (m * s) = true) (h1 : cs.all Value.oneCell' = true) : RowOf m s (fun xs _ => xs = cs) (isRow lo m e cs) := fun v w ⟨B, hv, _, hc⟩ =>
  ⟨B, 0, m, cs, hv, CellsAt.own (j := 0) (m := cs.length) hc (by simp), Nat.eq_of_beq_eq_true hl, h1, rfl⟩
theorem regBP {id dp p k : Nat} {o : Oper} {t e tx tz : TypeId} {inf : TypeInfo} {z : Value} {gi m : Nat} {g : GR} {aftp : Array Edge} (hm : P.follows .mixedOrders = true) (hS : St w0 O G K W) (hk : os[k]? = some o) (hlen : os.length = k + 1) (hl : lastR os.toArray k = true) (ht : tidyR os.toArray n = true) (hdst : (os.take k).all (fun o => o.dst.isSome) = true) (hfree : ∀ d, o.dst = some d → look l d = none)
    (hp : os[p]? = some ⟨some dp, .call { callee := .builtin .append, args := #[.tmp tx, .tmp tz], argTypes := #[t, t] }, ty, pos, aftp, none⟩) (hpk : Nat.blt p k = true)
    (hU : P.underlying t = some (.slice e)) (hinf : P.info? e = some inf) (hz : inf.zero = some z) (hzs : z.cells.size = inf.size) (hsz : 0 < inf.size)
    (hi : G[gi]? = some g) (he : g.e = e) (hgs : g.size = inf.size) (h63 : g.n + m ≤ maxLen) (hbytes : (g.n + m) * inf.bytes ≤ 140737488355328)
    (h : BLP P n os.toArray Q l W p (fun Lr L2r => ∃ (py : Asr) (q : List Value → World → Prop), OpG n os.toArray l Lr.reverse p tx (isV g.v) ∧ OpG n os.toArray l Lr.reverse p tz py ∧ RowOf m inf.size q py ∧
      ∀ A v' news W', Below W.heap.size W A → q news A → St w0 O (G.set gi ⟨v', g.n + m, g.xs ++ news, e, g.size⟩) ((W.heap.size, A) :: K) W' → FinI (os.take k) (pvL v' p 0 L2r.reverse) l (fun l' W' => OpsF P n os.toArray Q [o] l' W') W') k [] [] 0) : CodeF P n (.region id os.toArray true) Q l W := by
  obtain ⟨Lr, L2r, h1, h2, h3, h4, h5, py, q, hx, hy, hpy, hfin⟩ := blp_run p ht k 0 [] [] rfl rfl (fun p hp => by cases hp) (fun p hp => by cases hp) (fun i hi => by omega) h
  have hpk' : p < k := Nat.lt_of_lt_of_le (Nat.lt_succ_self _) (Nat.le_of_ble_eq_true hpk)
  subst he
  rw [Nat.zero_add] at h1 h2 h5
  have hpo : os.toArray[p]? = some ⟨some dp, .call { callee := .builtin .append, args := #[.tmp tx, .tmp tz], argTypes := #[t, t] }, ty, pos, aftp, none⟩ := by simpa using hp
  have hko : os.toArray[k]? = some o := by simpa using hk
  have hL2p : atI L2r.reverse p = anyA := by
    rcases (h5 p hpk').2 with h6 | h6
    · exact h6.2
    · exact absurd rfl h6.1
  intro a ha
  refine wp_region_any hm (region_append (W := W) (t0 := a.tmps) (d0 := a.defers) (L := Lr.reverse) (L2 := L2r.reverse) (late := fun j => !earlyR os.toArray p j)
    (RA := fun A v' W' => ∃ news, q news A ∧ St w0 O (G.set gi ⟨v', g.n + m, g.xs ++ news, g.e, g.size⟩) ((W.heap.size, A) :: K) W') hl (by rw [ha.size]; exact ht) (stabL_of fun q hq => h3 q (List.mem_reverse.1 hq)) (stabL_of fun q hq => h4 q (List.mem_reverse.1 hq)) hpk' hpo rfl rfl ?_ ?_ ?_ hL2p ?_ ?_ ?_ _ _ _ _ (by simp) ?_ (count_rep _) ?_ (fun j hj => by rw [Array.getD_eq_getD_getElem?, Array.getElem?_replicate] at hj; split at hj <;> simp at hj) (inv_zero ((Below.refl _ _).drew)))
  · intro j hj hjp he
    simp only [Bool.not_eq_false'] at he
    exact List.contains_iff_mem.1 he
  · intro i hi hip
    rcases (h5 i hi).2 with h6 | h6
    · exact absurd h6.1 hip
    · exact h6.2.1 a ha
  · intro b w hF hG hD
    have ex : b.eval (.tmp tx) = g.v := hx a ha b w hF hD
    obtain ⟨bb, oo, c, cs, ey, hc, hcl, h1c, hq⟩ := hpy _ w (hy a ha b w hF hD)
    have hS2 := hS.call hG
    have hrow := hS2.row gi hi
    rw [hgs] at hrow
    obtain ⟨v', W', hr, k2, k3, k4⟩ := append_own2 (P := P) (w := w) w0.heap.size t ty g.e inf z hU hinf hz hzs hsz g.v g.n g.xs hrow ⟨bb, oo, none⟩ m c cs hcl (fun j u hj => by rw [Addr.add_lit]; exact hc.get j u hj) (fun u hu => List.all_eq_true.1 h1c u hu) h63 hbytes hS2.below.size
    rw [← hgs] at k2
    refine ⟨v', W', ?_, cs, hq, hS2.setG gi hi k2 k3 k4⟩
    unfold execOp
    simp only [resolve, invoke, builtin, Sem.run_bind, Sem.run_pure, Result.andThen_ok, List.map_toArray, List.map_cons, List.map_nil, ex, ey, hr]
  · intro i hi hip v w w' hv
    exact (h5 i hi).1 v w w' hv
  · intro v' W2 i hi hip hlt
    rcases (h5 i hi).2 with h6 | h6
    · exact absurd h6.1 hip
    · rcases h6.2.2 with h7 | h7
      · rw [h7] at hlt; cases hlt
      · exact h7 v' W2 a ha
  · rintro A v' W2 hB ⟨news, hq, hS2⟩
    intro a' W' hs hd hf hG hI
    subst hG
    have hdst' : ∀ o ∈ os.take k, ∃ d, o.dst = some d := fun o ho => Option.isSome_iff_exists.1 (List.all_eq_true.1 hdst o ho)
    have htk : (os.take k).length = k := by simp; omega
    refine fin_has (os.take k) (pvL v' p 0 L2r.reverse) l (fun i d hi hd' => ?_) (hs.trans ha.size) (hd.trans ha.defers) ?_ hdst' (fun l' h ha' => ?_) (hfin A v' news W' hB hq hS2)
    · have hik : i < k := by omega
      have h6 := hI i d hik (by rw [List.getElem?_take, if_pos hik] at hd'; simpa using hd')
      rw [atI_pvL L2r.reverse 0 i (by simp; omega)]
      by_cases hip : i + 0 = p
      · rw [if_pos hip]; exact h6.1 hip
      · rw [if_neg hip]; exact h6.2
    · intro t' v hv hno
      rw [hf t' (by
        unfold freeT; rw [Array.all_eq_true']; intro o' ho'
        have ho2 : o' ∈ os := by simpa using ho'
        obtain ⟨j, hj⟩ := List.getElem?_of_mem ho2
        by_cases hjk : j < k
        · have : o' ∈ os.take k := List.mem_of_getElem? (by rw [List.getElem?_take, if_pos hjk]; exact hj)
          simpa using hno o' this
        · have hjl := (List.getElem?_eq_some_iff.1 hj).1
          have : j = k := by omega
          subst this
          rw [hk] at hj
          have e2 := Option.some.inj hj
          subst e2
          cases hx : o.dst with
          | none => simp
          | some d => simp; intro e; subst e; rw [hfree d hx] at hv; cases hv)]
      exact ha.at_ t' v hv
    · have h6 := h a' ha'
      unfold wpOp
      rw [hko]
      exact h6
  · rw [Array.getD_eq_getD_getElem?, Array.getElem?_replicate, if_pos (by simp; omega)]; rfl
  · rw [Array.getD_eq_getD_getElem?, Array.getElem?_replicate, if_pos (by simp; omega)]; rfl
end
end Go.Proofs.YtjcminoaiieckaaGreatDoor
namespace Go.Proofs.YtjcminoaiieckaaGreatDoor
open Go Go.RowKit
set_option linter.unusedVariables false
set_option maxRecDepth 100000 in
set_option maxHeartbeats 4000000 in
theorem oneR_4 (m : Nat) (sa : Option Addr) (sc : Nat) (w : World) (hm : m ≤ 64) :
    Calls Tryz.prog 40 #[.agg #[.int .i64 4, .int .i64 (m : Int), .slice sa 0 sc]] w (WRet (.one 4 m) (.one (oneP 4 m)) w) := by
  refine enterF (args := [.agg #[.int .i64 4, .int .i64 (m : Int), .slice sa 0 sc]]) Tryz.func40 rfl Tryz.ntmps40 rfl ?_
  have hS := St.start w
  refine seqF ?_
  refine regF ?_
  refine op_box (cs := [_, _, _]) hS rfl rfl rfl ?_
  clear hS; intro B1 W1 hS
  refine op_alloc (cs := [_, _, _, _, _, _]) hS Tryz.zeroValue33 rfl rfl ?_
  clear hS; intro B2 W2 hS
  refine endF ?_
  refine XF.thenN ?_
  refine seqF ?_
  refine regF ?_
  refine op_build (us := []) rfl (bld_33) rfl ?_
  refine op_alloc (cs := [_, _, _, _, _, _]) hS Tryz.zeroValue33 rfl rfl ?_
  clear hS; intro B3 W3 hS
  refine op_storeA (i := 0) (vs := [_, _, _, _, _, _]) (cs' := [_, _, _, _, _, _]) (O' := [_, _, _]) hS Tryz.sizeOf33 rfl rfl rfl rfl rfl rfl rfl ?_
  clear hS; intro W4 hS
  refine endF ?_
  refine XF.thenN ?_
  refine seqF ?_
  refine seqF ?_
  refine regF ?_
  refine op_field (o' := 0) fa_25_0 rfl rfl rfl ?_
  refine op_load Tryz.isAgg22 rfl (cell_own (hS.at_ 2 rfl) rfl) rfl ?_
  refine endF ?_
  refine XF.thenN ?_
  refine blockF ?_
  refine seqF ?_
  refine regF ?_
  refine op_eql rfl rfl rfl ?_
  refine op_assign rfl rfl ?_
  refine endF ?_
  refine XF.thenN ?_
  refine condF rfl (fun hc => absurd (of_decide_eq_true hc) (by omega)) (fun hc => ?_)
  have hc := of_decide_eq_false hc
  refine seqF ?_
  refine regF ?_
  refine op_eql rfl rfl rfl ?_
  refine op_assign rfl rfl ?_
  refine endF ?_
  refine XF.thenN ?_
  refine condF rfl (fun hc => ?_) (fun hc => absurd (of_decide_eq_false hc) (by omega))
  have hc := of_decide_eq_true hc
  refine seqF ?_
  refine regF ?_
  refine op_assign rfl rfl ?_
  refine endF ?_
  refine XF.thenN ?_
  refine blockF ?_
  refine loopF (fun q l W => ∃ (k : Nat) (v : Value), k ≤ m ∧ q = m - k ∧ l = [(1, .pointer (some ⟨B1, 0, none⟩)), (2, .pointer (some ⟨B2, 0, none⟩)), (3, .pointer (some ⟨B3, 0, none⟩)), (4, .int .i64 (k : Int))] ∧ St w [(B3, [.bool false, .int .i64 0, .int .u64 0, .slice none 0 0, v, .slice none 0 0], 33), (B2, [.bool false, .int .i64 0, .int .u64 0, .slice none 0 0, .slice none 0 0, .slice none 0 0], 33), (B1, [.int .i64 4, .int .i64 (m : Int), .slice sa 0 sc], 25)] [⟨v, k, flat ((unitC m).take k), 73, 3⟩] [] W) (m - 0) ([(1, _), (2, _), (3, _), (4, _)]) ⟨rfl, rfl, rfl, rfl, trivial⟩ (⟨0, .slice none 0 0, Nat.zero_le _, rfl, rfl, hS.clear.newG _ _⟩) ?_
  clear hS
  rintro q l W ⟨k, v, hkm, rfl, rfl, hS⟩
  refine seqF ?_
  refine seqF ?_
  refine regF ?_
  refine op_move rfl rfl ?_
  refine op_field (o' := 1) fa_25_1 rfl rfl rfl ?_
  refine op_load Tryz.isAgg3 rfl (cell_own (hS.at_ 2 rfl) rfl) rfl ?_
  refine op_lss rfl rfl rfl ?_
  refine endF ?_
  refine XF.thenN ?_
  refine condF rfl (fun hc => ?_) (fun hc => ?_)
  · have hc22 := of_decide_eq_true hc; clear hc
    have hk : k < m := by omega
    refine skipF ?_
    refine XF.thenN ?_
    refine seqF ?_
    refine blockF ?_
    refine regBP (p := 6) (k := 8) (gi := 0) (m := 1) followsM hS rfl rfl (by kernel_rfl) (by kernel_rfl) (by kernel_rfl) (fun d hd => by cases hd) rfl rfl Tryz.underlying30 inf_73 rfl rfl (by show 0 < 3; decide) rfl rfl rfl (by dsimp only; simp only [maxLen]; omega) (by dsimp only; show _ * 24 ≤ _; omega) ?_
    refine blp_v 1 rfl rfl (by kernel_rfl) (rgV (li := [(3, _)]) rfl (w_free rfl) ⟨g_fr (by kernel_rfl) rfl, trivial⟩ (fun w hw => rn_field (o' := 4) fa_33_3 rfl rfl) (at_top rfl)) ?_
    refine blp_v 2 rfl rfl (by kernel_rfl) (rgV (li := [(25, _)]) rfl (w_free rfl) ⟨g_dep 0 (by kernel_rfl) (at_dep rfl rfl rfl), trivial⟩ (fun w hw => rn_load Tryz.isAgg30 rfl ((below_agree hw 0).cell (Nat.zero_le _) (cell_own (hS.at_ 0 rfl) rfl))) (at_top rfl)) ?_
    refine blp_v 3 rfl rfl (by kernel_rfl) (rgV (li := [(4, _)]) rfl (w_free rfl) ⟨g_fr (by kernel_rfl) rfl, trivial⟩ (fun w hw => rn_move rfl) (at_top rfl)) ?_
    refine blp_v 4 rfl rfl (by kernel_rfl) (rg_call [isV _] rfl goes_69 (w_free rfl) ⟨p_tmp (g_dep 2 (by kernel_rfl) (at_dep rfl rfl rfl)), trivial⟩ (fun vs w' hb hh => by have e := holds_isV (us := [_]) hh; subst e; exact (worth_at (k : Int) k (2 ^ k) (by omega) rfl (by omega) _).mono fun e w2 h => ⟨_, h.1, rfl, h.2 ▸ Below.refl _ _⟩) (at_top rfl)) ?_
    refine blp_v 5 rfl rfl (by kernel_rfl) (rgV (li := [(28, _)]) rfl (w_free rfl) ⟨g_dep 3 (by kernel_rfl) (at_dep rfl rfl rfl), trivial⟩ (fun w hw => rn_build (us := [(0, .int .u64 _)]) rfl (bld_73_0 _)) (at_top rfl)) ?_
    refine blp_q 6 rfl rfl (by kernel_rfl) (isRow W.heap.size 1 73 _) (stab_isRow) (rg_rowV (us := [.agg (List.toArray [_, _, _])]) rfl (w_free rfl) Tryz.underlying30 Tryz.sizeOf73 Tryz.zeroValue73 rfl rfl ⟨p_tmp (g_dep 4 (by kernel_rfl) (at_dep rfl rfl rfl)), trivial⟩ (bs_30_1 _ _ _) (at_top rfl)) ?_
    refine blp_app 7 rfl rfl ?_
    refine blp_late 8 rfl rfl (rgV (li := [(3, _)]) rfl (w_free rfl) ⟨g_fr (by kernel_rfl) rfl, trivial⟩ (fun w hw => rn_field (o' := 4) fa_33_3 rfl rfl) (at_top rfl)) (lgV (li := [(3, _)]) rfl (w_free rfl) ⟨g_fr (by kernel_rfl) rfl, trivial⟩ (fun w => rn_field (o' := 4) fa_33_3 rfl rfl) (at_top rfl) rfl) ?_
    refine blp_nil ⟨_, _, g_dep 1 (by kernel_rfl) (at_dep rfl rfl rfl), g_dep 5 (by kernel_rfl) (at_dep rfl rfl rfl), rowOf_isRow rfl rfl, ?_⟩
    intro A5 v5 news5 W5 hbR hqA5 hS'
    clear hS; have hS := hS'; clear hS'
    cases hqA5
    refine fin_v ?_
    refine fin_v ?_
    refine fin_v ?_
    refine fin_v ?_
    refine fin_v ?_
    refine fin_p ?_; intro _ _
    refine fin_v ?_
    refine fin_v ?_
    obtain ⟨g9, c9, e9, _, _⟩ := (hS.row 0 rfl).form (by show 0 < k + 1; omega)
    dsimp only at e9
    subst e9
    refine fin_nil ?_
    refine op_store (i := 0) (cs' := [_, _, _, _, _, _]) (O' := [_, _, _]) hS Tryz.sizeOf30 rfl rfl rfl rfl rfl rfl rfl ?_
    clear hS; intro W6 hS
    refine endF ?_
    refine XF.blkN ?_
    refine XF.thenN ?_
    refine regF ?_
    refine op_move rfl rfl ?_
    refine op_add rfl rfl (IntWalk.i64_in _ (by omega)) rfl ?_
    refine op_assign rfl rfl ?_
    refine endF ?_
    exact XF.round (m - (k + 1)) [(1, _), (2, _), (3, _), (4, _)] (by omega) ⟨rfl, rfl, rfl, rfl, trivial⟩ ⟨k + 1, _, by omega, rfl, rfl, by rw [unit_snoc hk, flat_snoc]; exact hS.clear⟩
  · have hc22 := of_decide_eq_false hc; clear hc
    refine exitF ?_
    refine XF.thenX ?_
    refine XF.thenX ?_
    refine XF.blkX ?_
    refine XF.blkN ?_
    refine XF.thenN ?_
    refine seqF ?_
    obtain rfl : k = m := by omega
    have hrow := hS.row 0 rfl
    have ht : (unitC k).take k = unitC k := List.take_of_length_le (by rw [unit_length]; exact Nat.le_refl _)
    simp only [ht] at hrow
    obtain ⟨hn, a9, c9, rfl, _, _⟩ := crow_of_own hrow
    clear hrow
    refine regF ?_
    refine op_loadA (vs := [_, _, _, _, _, _]) Tryz.isAgg33 Tryz.sizeOf33 rfl (CellsAt.own (j := 0) (m := 6) (hS.at_ 0 rfl) rfl) rfl ?_
    refine op_storeA (i := 1) (vs := [_, _, _, _, _, _]) (cs' := [_, _, _, _, _, _]) (O' := [_, _, _]) hS Tryz.sizeOf33 rfl rfl rfl rfl rfl rfl rfl ?_
    clear hS; intro W7 hS
    refine endF ?_
    refine XF.thenN ?_
    refine retF ?_
    refine XF.res (resC1 (vs := [_, _, _, _, _, _]) Tryz.results40 Tryz.isAgg33 Tryz.sizeOf33 rfl (CellsAt.own (j := 0) (m := 6) (hS.at_ 1 rfl) rfl)) ?_
    have hrow := hS.row 0 rfl
    simp only [ht] at hrow
    obtain ⟨_, a8, c8, e8, hr9, hf9⟩ := crow_of_own hrow
    cases e8
    have e9 : (unitC k).length = k := unit_length k
    refine ⟨cellsF a9 c9 (unitC k), ?_, one_f4 hm hr9 (fun ad e => (hf9 ad e).1), hS.below⟩
    show _ = Ending.returned (Value.agg #[.bool false, .int .i64 0, .int .u64 ((0 : Nat) : Int), .slice none 0 0, .slice a9 (unitC k).length c9, .slice none 0 0])
    rw [e9]
    rfl

theorem oneR_plain (t n : Int) (sa : Option Addr) (sc : Nat) (w : World) (hp : plainB t n 0 = true) : Calls Tryz.prog 40 #[.agg #[.int .i64 t, .int .i64 n, .slice sa 0 sc]] w (WRet (.one t n) (.one (oneP t n)) w) := by
  by_cases h4 : t = 4
  · subst h4
    obtain ⟨m, rfl, hm⟩ := dim3 hp (.inr rfl)
    exact oneR_4 m sa sc w hm
  · exact oneR_not4 t n sa sc w hp h4
theorem oneR_ok {S : PS} {sf : SF} {w : World} (hs : SIs w S sf) (hok : S.ok) : Calls Tryz.prog 40 #[sf.val] w (WRet S (oneX S) w) := by
  cases S with
  | one t n =>
    obtain ⟨a, c, rfl⟩ := hs
    exact oneR_plain _ _ _ _ _ hok
  | two t n u m =>
    obtain ⟨b, off, c, a1, c1, a2, c2, rfl, h1, h2⟩ := hs
    exact oneR_pair _ _ _ _ _ _ _ _ _ _ _ _ h1 h2 hok.1 hok.2 (fun W => oneR_plain _ _ _ _ _ hok.1) (fun W => oneR_plain _ _ _ _ _ hok.2)

end Go.Proofs.YtjcminoaiieckaaGreatDoor
namespace Go.Proofs.YtjcminoaiieckaaGreatDoor
open Go Go.RowKit
set_option linter.unusedVariables false
section
variable {P : Program} {n : Nat} {Q : Exit → Act → World → Prop} {l : Fr} {W : World} {ops : Array Oper} {os : List Oper} {d : Nat} {ty : TypeId} {pos : String} {aft : Array Edge} {x y : Operand} {k : IntKind} {a b : Int} {ts : Array TypeId}
theorem rn_min (hx : evL l x = some (.int k a)) (hy : evL l y = some (.int k b)) : Runs P l ⟨some d, .call { callee := .builtin .min, args := #[x, y], argTypes := ts }, ty, pos, aft, none⟩ W (.int k (min a b)) W := fun ev he => by
  have e : (if b < a then b else a) = min a b := by omega
  unfold execOp
  simp only [resolve, invoke, builtin, Sem.run_bind, Sem.run_pure, Result.andThen_ok, List.map_toArray, List.map_cons, List.map_nil, he x _ hx, he y _ hy, run_min_int2, e]
theorem op_min (hx : evL l x = some (.int k a)) (hy : evL l y = some (.int k b)) (hd : Nat.blt d n = true) (h : OpsF P n ops Q os ((d, .int k (min a b)) :: l) W) : OpsF P n ops Q (⟨some d, .call { callee := .builtin .min, args := #[x, y], argTypes := ts }, ty, pos, aft, none⟩ :: os) l W := opV (rn_min hx hy) hd h
end
end Go.Proofs.YtjcminoaiieckaaGreatDoor
namespace Go.Proofs.YtjcminoaiieckaaGreatDoor
open Go Go.RowKit
set_option linter.unusedVariables false
theorem has_bit {f k : Nat} (hk : k < 64) : hasB f (k : Int) = f.testBit k := by
  unfold hasB
  rw [decide_eq_true (by omega), decide_eq_true (by omega), Int.toNat_natCast]
  rfl
theorem flat_step {xs : List Cl} {k : Nat} {c : Cl} (h : xs[k]? = some c) : flat (xs.take (k + 1)) = flat (xs.take k) ++ vals c := by
  rw [List.take_add_one, h]; exact flat_snoc _ _

set_option maxRecDepth 100000 in
set_option maxHeartbeats 4000000 in
theorem behindR_is (a : Option Addr) (cap len : Nat) (row : List Cl) (c : Cl) (w : World) (hlen : row.length = len) (hm : len ≤ 64) (hra : CRow w a row) (hok : ∀ (i : Nat) x, row[i]? = some x → x.ok) (hc : c.ok) :
    Calls Tryz.prog 88 #[.slice a len cap, c.val] w (fun e w' => e = .returned (ofC row c).val ∧ Below w.heap.size w w') := by
  refine enterF (args := [.slice a len cap, c.val]) Tryz.func88 rfl Tryz.ntmps88 rfl ?_
  have hS := St.start w
  refine seqF ?_
  refine regF ?_
  refine op_box (cs := [_, _, _]) hS rfl rfl rfl ?_
  clear hS; intro B1 W1 hS
  refine op_alloc (cs := [_, _, _]) hS Tryz.zeroValue73 rfl rfl ?_
  clear hS; intro B2 W2 hS
  refine endF ?_
  refine XF.thenN ?_
  refine seqF ?_
  refine regF ?_
  refine op_field (o' := 1) fa_73_1 rfl rfl rfl ?_
  refine op_load Tryz.isAgg71 rfl (cell_own (hS.at_ 1 rfl) rfl) rfl ?_
  refine op_field (o' := 2) fa_73_2 rfl rfl rfl ?_
  refine op_load Tryz.isAgg2 rfl (cell_own (hS.at_ 1 rfl) rfl) rfl ?_
  refine op_build (us := [(1, .int .i64 _), (2, .int .i64 _)]) rfl (bld_73_1_2 _ _) rfl ?_
  refine op_alloc (cs := [_, _, _]) hS Tryz.zeroValue73 rfl rfl ?_
  clear hS; intro B3 W3 hS
  refine op_storeA (i := 0) (vs := [_, _, _]) (cs' := [_, _, _]) (O' := [_, _, _]) hS Tryz.sizeOf73 rfl rfl rfl rfl rfl rfl rfl ?_
  clear hS; intro W4 hS
  refine endF ?_
  refine XF.thenN ?_
  refine seqF ?_
  refine seqF ?_
  refine regF ?_
  refine op_assign rfl rfl ?_
  refine endF ?_
  refine XF.thenN ?_
  refine blockF ?_
  refine loopF (fun q l W => ∃ k : Nat, k ≤ len ∧ q = len - k ∧ l = [(0, .slice a len cap), (3, .pointer (some ⟨B1, 0, none⟩)), (4, .pointer (some ⟨B2, 0, none⟩)), (5, .pointer (some ⟨B3, 0, none⟩)), (6, .int .i64 (k : Int))] ∧ St w [(B3, [.int .u64 ((ofTo row c k).f : Int), .int .i64 (ofTo row c k).k, .int .i64 (ofTo row c k).v], 73), (B2, [.int .u64 0, .int .i64 0, .int .i64 0], 73), (B1, [.int .u64 (c.f : Int), .int .i64 c.k, .int .i64 c.v], 73)] [] [] W) (len - 0) ([(0, _), (3, _), (4, _), (5, _), (6, _)]) ⟨rfl, rfl, rfl, rfl, rfl, trivial⟩ (⟨0, Nat.zero_le _, rfl, rfl, hS.clear⟩) ?_
  clear hS
  rintro q l W ⟨k, hkm, rfl, rfl, hS⟩
  refine seqF ?_
  refine seqF ?_
  refine regF ?_
  refine op_move rfl rfl ?_
  refine op_move rfl rfl ?_
  refine op_len Tryz.underlying30 rfl rfl ?_
  refine op_lss rfl rfl rfl ?_
  refine endF ?_
  refine XF.thenN ?_
  refine condF rfl (fun hc => ?_) (fun hc => ?_)
  · have hc15 := of_decide_eq_true hc; clear hc
    have hk : k < len := by omega
    obtain ⟨ba, offa, x, rfl, hx, hba, a0, a1, a2⟩ := (hra.below hS.below).at_ (k := k) (by omega)
    have k1 : CellsAt W ba (offa + k * 3) [.int .u64 (x.f : Int), .int .i64 x.k, .int .i64 x.v] := ⟨a0, a1, a2, trivial⟩
    refine skipF ?_
    refine XF.thenN ?_
    refine seqF ?_
    refine blockF ?_
    refine seqF ?_
    refine regF ?_
    refine op_field (o' := 0) fa_73_0 rfl rfl rfl ?_
    refine op_load Tryz.isAgg26 rfl (cell_own (hS.at_ 2 rfl) rfl) rfl ?_
    refine op_move rfl rfl ?_
    refine op_call (vs := [_, _]) hS goes_123 rfl (hasR_is c.f (k : Int) (c.f.testBit k) (has_bit (by omega)) hc.1 _) rfl ?_
    rintro e W5 ⟨rfl, rfl⟩
    refine ⟨_, rfl, Below.refl _ _, fun hS' => ?_⟩
    clear hS; have hS := hS'; clear hS'
    refine endF ?_
    refine XF.thenN ?_
    refine condF rfl (fun hc => ?_) (fun hc => ?_)
    · have hc21 := hc; clear hc
      refine regBK followsM 6 hS rfl rfl (by kernel_rfl) (by kernel_rfl) (by kernel_rfl) (fun d hd => by cases hd) ?_
      refine bl_cons 1 rfl (isV _) (stab_isV _) (rgV (li := [(5, _)]) rfl (w_free rfl) ⟨g_fr (by kernel_rfl) rfl, trivial⟩ (fun w hw => rn_loadA (vs := [_, _, _]) Tryz.isAgg73 Tryz.sizeOf73 rfl (CellsAt.agree (below_agree hw 0) (Nat.zero_le _) (CellsAt.own (j := 0) (m := 3) (hS.at_ 0 rfl) rfl))) (at_top rfl)) ?_
      refine bl_cons 2 rfl (isV _) (stab_isV _) (rgV (li := [(0, _)]) rfl (w_free rfl) ⟨g_fr (by kernel_rfl) rfl, trivial⟩ (fun w hw => rn_move rfl) (at_top rfl)) ?_
      refine bl_cons 3 rfl (isV _) (stab_isV _) (rgV (li := [(6, _)]) rfl (w_free rfl) ⟨g_fr (by kernel_rfl) rfl, trivial⟩ (fun w hw => rn_move rfl) (at_top rfl)) ?_
      refine bl_cons 4 rfl (isV _) (stab_isV _) (rgV (li := [(23, _), (24, _)]) rfl (w_free rfl) ⟨g_dep 1 (by kernel_rfl) (at_dep rfl rfl rfl), g_dep 2 (by kernel_rfl) (at_dep rfl rfl rfl), trivial⟩ (fun w hw => rn_indexA  Tryz.underlying30 Tryz.sizeOf73 rfl rfl rfl (by omega) rfl) (at_top rfl)) ?_
      refine bl_cons 5 rfl (isV _) (stab_isV _) (rgV (li := [(25, _)]) rfl (w_free rfl) ⟨g_dep 3 (by kernel_rfl) (at_dep rfl rfl rfl), trivial⟩ (fun w hw => rn_loadA (vs := [_, _, _]) Tryz.isAgg73 Tryz.sizeOf73 rfl (CellsAt.agree (below_agree hw 0) (Nat.zero_le _) (by assumption))) (at_top rfl)) ?_
      refine bl_cons 6 rfl (isV (join (ofTo row c k) x).val) (stab_isV _) (rg_call [isV _, isV _] rfl goes_81 (w_free rfl) ⟨p_tmp (g_dep 0 (by kernel_rfl) (at_dep rfl rfl rfl)), p_tmp (g_dep 4 (by kernel_rfl) (at_dep rfl rfl rfl)), trivial⟩ (fun vs w' hb hh => by have e := holds_isV (us := [_, _]) hh; subst e; exact (jn_any (ofTo row c k) x (ofTo_ok hc hok k) (hok k x hx) _).mono fun e w2 h => ⟨_, h.1, rfl, h.2⟩) (at_top rfl)) ?_
      refine bl_nil ?_
      intro W6 hbR hS'
      clear hS; have hS := hS'; clear hS'
      refine fin_v ?_
      refine fin_v ?_
      refine fin_v ?_
      refine fin_v ?_
      refine fin_v ?_
      refine fin_v ?_
      refine fin_nil ?_
      refine op_storeA (i := 0) (vs := [_, _, _]) (cs' := [_, _, _]) (O' := [_, _, _]) hS Tryz.sizeOf73 rfl rfl rfl rfl rfl rfl rfl ?_
      clear hS; intro W7 hS
      refine endF ?_
      refine XF.blkN ?_
      refine XF.thenN ?_
      refine regF ?_
      refine op_move rfl rfl ?_
      refine op_add rfl rfl (IntWalk.i64_in _ (by omega)) rfl ?_
      refine op_assign rfl rfl ?_
      refine endF ?_
      exact XF.round (len - (k + 1)) [(0, _), (3, _), (4, _), (5, _), (6, _)] (by omega) ⟨rfl, rfl, rfl, rfl, rfl, trivial⟩ ⟨k + 1, by omega, rfl, rfl, by rw [ofTo_yes hc21 hx]; exact hS.clear⟩
    · have hc21 := hc; clear hc
      refine skipF ?_
      refine XF.blkN ?_
      refine XF.thenN ?_
      refine regF ?_
      refine op_move rfl rfl ?_
      refine op_add rfl rfl (IntWalk.i64_in _ (by omega)) rfl ?_
      refine op_assign rfl rfl ?_
      refine endF ?_
      exact XF.round (len - (k + 1)) [(0, _), (3, _), (4, _), (5, _), (6, _)] (by omega) ⟨rfl, rfl, rfl, rfl, rfl, trivial⟩ ⟨k + 1, by omega, rfl, rfl, by rw [ofTo_no hc21]; exact hS.clear⟩
  · have hc15 := of_decide_eq_false hc; clear hc
    refine exitF ?_
    refine XF.thenX ?_
    refine XF.thenX ?_
    refine XF.blkX ?_
    refine XF.thenN ?_
    refine seqF ?_
    refine regF ?_
    refine op_loadA (vs := [_, _, _]) Tryz.isAgg73 Tryz.sizeOf73 rfl (CellsAt.own (j := 0) (m := 3) (hS.at_ 0 rfl) rfl) rfl ?_
    refine op_storeA (i := 1) (vs := [_, _, _]) (cs' := [_, _, _]) (O' := [_, _, _]) hS Tryz.sizeOf73 rfl rfl rfl rfl rfl rfl rfl ?_
    clear hS; intro W8 hS
    refine endF ?_
    refine XF.thenN ?_
    refine retF ?_
    refine XF.res (resC1 (vs := [_, _, _]) Tryz.results88 Tryz.isAgg73 Tryz.sizeOf73 rfl (CellsAt.own (j := 0) (m := 3) (hS.at_ 1 rfl) rfl)) ?_
    have e1 : row.length = k := by omega
    exact ⟨by unfold ofC; rw [e1], hS.below⟩
end Go.Proofs.YtjcminoaiieckaaGreatDoor
namespace Go.Proofs.YtjcminoaiieckaaGreatDoor
open Go Go.RowKit
set_option linter.unusedVariables false
section
variable {w W : World} {k : Nat} {n : Int} {f g : WF} {x y : PF}
theorem ext_f2R (hx : PIs w 2 n f x) (hy : PIs w 2 n g y) (hf : f.z = false) (hg : g.z = false) (p0 : 0 ≤ f.c) (p1 : f.c ≤ n) (q0 : 0 ≤ g.c) (q1 : g.c ≤ n) : PNew k W 2 n (costF (min (f.c + g.c) n)) (extP 2 n x y) := by
  obtain ⟨rfl, _, _⟩ := hx.k2 hf
  obtain ⟨rfl, _, _⟩ := hy.k2 hg
  rw [ext_2]
  exact new_cost (.cost _ rfl (by omega) (by omega))
theorem ext_f4C {m : Nat} {a : Option Addr} {cap : Nat} (hx : PIs w 4 m f x) (hy : PIs w 4 m g y) (hf : f.z = false) (hg : g.z = false) (hv : CRow W a (thenC f.cells g.cells)) (hl : ∀ ad, a = some ad → k ≤ ad.block) : PNew k W 4 m (cellsF a cap (thenC f.cells g.cells)) (extP 4 m x y) := by
  obtain ⟨hx', h0⟩ := hx.k4 hf
  obtain ⟨hy', h1⟩ := hy.k4 hg
  have hv2 := val_then h0 h1
  rw [hx', hy', ext_4]
  exact new_cells (.cells m _ rfl rfl hv2) hv2.bits (by have := hv2.le; have := hv2.len; unfold maxLen; omega) hv hl
end
set_option maxRecDepth 100000 in
set_option maxHeartbeats 4000000 in
theorem thenR_plain (t n : Int) (sa : Option Addr) (sc : Nat) (f g : WF) (x y : PF) (w : World) (hp : plainB t n 0 = true) (hx : PIs w t n f x) (hy : PIs w t n g y) :
    Calls Tryz.prog 57 #[.agg #[.int .i64 t, .int .i64 n, .slice sa 0 sc], f.val, g.val] w (WRet (.one t n) (.one (extP t n x y)) w) := by
  refine enterF (args := [.agg #[.int .i64 t, .int .i64 n, .slice sa 0 sc], f.val, g.val]) Tryz.func57 rfl Tryz.ntmps57 rfl ?_
  have hS := St.start w
  refine seqF ?_
  refine regF ?_
  refine op_box (cs := [_, _, _]) hS rfl rfl rfl ?_
  clear hS; intro B1 W1 hS
  refine op_box (cs := [_, _, _, _, _, _]) hS rfl rfl rfl ?_
  clear hS; intro B2 W2 hS
  refine op_box (cs := [_, _, _, _, _, _]) hS rfl rfl rfl ?_
  clear hS; intro B3 W3 hS
  refine op_alloc (cs := [_, _, _, _, _, _]) hS Tryz.zeroValue33 rfl rfl ?_
  clear hS; intro B4 W4 hS
  refine endF ?_
  refine XF.thenN ?_
  refine seqF ?_
  refine seqF ?_
  refine regF ?_
  refine op_field (o' := 0) fa_33_0 rfl rfl rfl ?_
  refine op_load Tryz.isAgg4 rfl (cell_own (hS.at_ 2 rfl) rfl) rfl ?_
  refine op_move rfl rfl ?_
  refine op_cases (d := 11) rfl (fun hc => ?_) (fun hc => ?_)
  · have hg11 := hc; clear hc
    have hz := hg11
    refine op_notF (d := 11) rfl rfl rfl rfl ?_
    refine op_notF (d := 11) rfl rfl rfl rfl ?_
    refine op_pickT rfl rfl rfl ?_
    refine endF ?_
    refine XF.thenN ?_
    refine condT rfl ?_
    refine seqF ?_
    refine regF ?_
    refine op_build (us := [(0, .bool _)]) rfl (bld_33_0 _) rfl ?_
    refine op_storeA (i := 0) (vs := [_, _, _, _, _, _]) (cs' := [_, _, _, _, _, _]) (O' := [_, _, _, _]) hS Tryz.sizeOf33 rfl rfl rfl rfl rfl rfl rfl ?_
    clear hS; intro W5 hS
    refine endF ?_
    refine XF.thenN ?_
    refine retF ?_
    refine XF.thenR ?_
    refine XF.res (resC1 (vs := [_, _, _, _, _, _]) Tryz.results57 Tryz.isAgg33 Tryz.sizeOf33 rfl (CellsAt.own (j := 0) (m := 6) (hS.at_ 0 rfl) rfl)) ?_
    exact ext_zL hx hz hS.below
  · have hg11 := hc; clear hc
    have hf := hg11
    refine op_wantedF (d := 11) rfl rfl ?_
    refine op_field (o' := 0) fa_33_0 rfl rfl rfl ?_
    refine op_wantedF (d := 11) rfl rfl ?_
    refine op_load Tryz.isAgg4 rfl (cell_own (hS.at_ 1 rfl) rfl) rfl ?_
    refine op_pickF rfl rfl rfl ?_
    refine endF ?_
    refine XF.thenN ?_
    refine condF rfl (fun hc => ?_) (fun hc => ?_)
    · have hc14 := hc; clear hc
      refine seqF ?_
      refine regF ?_
      refine op_build (us := [(0, .bool _)]) rfl (bld_33_0 _) rfl ?_
      refine op_storeA (i := 0) (vs := [_, _, _, _, _, _]) (cs' := [_, _, _, _, _, _]) (O' := [_, _, _, _]) hS Tryz.sizeOf33 rfl rfl rfl rfl rfl rfl rfl ?_
      clear hS; intro W6 hS
      refine endF ?_
      refine XF.thenN ?_
      refine retF ?_
      refine XF.thenR ?_
      refine XF.res (resC1 (vs := [_, _, _, _, _, _]) Tryz.results57 Tryz.isAgg33 Tryz.sizeOf33 rfl (CellsAt.own (j := 0) (m := 6) (hS.at_ 0 rfl) rfl)) ?_
      exact ext_zR hy hc14 hS.below
    · have hc14 := hc; clear hc
      have hg := hc14
      refine skipF ?_
      refine XF.thenN ?_
      refine seqF ?_
      refine regF ?_
      refine op_build (us := []) rfl (bld_33) rfl ?_
      refine op_alloc (cs := [_, _, _, _, _, _]) hS Tryz.zeroValue33 rfl rfl ?_
      clear hS; intro B7 W7 hS
      refine op_storeA (i := 0) (vs := [_, _, _, _, _, _]) (cs' := [_, _, _, _, _, _]) (O' := [_, _, _, _, _]) hS Tryz.sizeOf33 rfl rfl rfl rfl rfl rfl rfl ?_
      clear hS; intro W8 hS
      refine endF ?_
      refine XF.thenN ?_
      refine seqF ?_
      refine seqF ?_
      refine regF ?_
      refine op_field (o' := 0) fa_25_0 rfl rfl rfl ?_
      refine op_load Tryz.isAgg22 rfl (cell_own (hS.at_ 4 rfl) rfl) rfl ?_
      refine endF ?_
      refine XF.thenN ?_
      refine blockF ?_
      refine seqF ?_
      refine regF ?_
      refine op_eql rfl rfl rfl ?_
      refine op_assign rfl rfl ?_
      refine endF ?_
      refine XF.thenN ?_
      refine condF rfl (fun hc => ?_) (fun hc => ?_)
      · have hc19 := of_decide_eq_true hc; clear hc
        have e2 : t = 2 := hc19
        subst e2
        obtain ⟨_, p0, p1⟩ := hx.k2 hf
        obtain ⟨_, q0, q1⟩ := hy.k2 hg
        obtain ⟨d0, d1, _⟩ := plainB_dim hp
        refine regF ?_
        refine op_field (o' := 1) fa_33_1 rfl rfl rfl ?_
        refine op_load Tryz.isAgg3 rfl (cell_own (hS.at_ 3 rfl) rfl) rfl ?_
        refine op_field (o' := 1) fa_33_1 rfl rfl rfl ?_
        refine op_load Tryz.isAgg3 rfl (cell_own (hS.at_ 2 rfl) rfl) rfl ?_
        refine op_add rfl rfl (IntWalk.i64_in _ (by omega)) rfl ?_
        refine op_field (o' := 1) fa_25_1 rfl rfl rfl ?_
        refine op_load Tryz.isAgg3 rfl (cell_own (hS.at_ 4 rfl) rfl) rfl ?_
        refine op_min rfl rfl rfl ?_
        refine op_field (o' := 1) fa_33_1 rfl rfl rfl ?_
        refine op_store (i := 0) (cs' := [_, _, _, _, _, _]) (O' := [_, _, _, _, _]) hS Tryz.sizeOf3 rfl rfl rfl rfl rfl rfl rfl ?_
        clear hS; intro W9 hS
        refine endF ?_
        refine XF.blkN ?_
        refine XF.thenN ?_
        refine seqF ?_
        refine regF ?_
        refine op_loadA (vs := [_, _, _, _, _, _]) Tryz.isAgg33 Tryz.sizeOf33 rfl (CellsAt.own (j := 0) (m := 6) (hS.at_ 0 rfl) rfl) rfl ?_
        refine op_storeA (i := 1) (vs := [_, _, _, _, _, _]) (cs' := [_, _, _, _, _, _]) (O' := [_, _, _, _, _]) hS Tryz.sizeOf33 rfl rfl rfl rfl rfl rfl rfl ?_
        clear hS; intro W10 hS
        refine endF ?_
        refine XF.thenN ?_
        refine retF ?_
        refine XF.res (resC1 (vs := [_, _, _, _, _, _]) Tryz.results57 Tryz.isAgg33 Tryz.sizeOf33 rfl (CellsAt.own (j := 0) (m := 6) (hS.at_ 1 rfl) rfl)) ?_
        exact wret_one (ext_f2R hx hy hf hg p0 p1 q0 q1) hS.below
      · have hc19 := of_decide_eq_false hc; clear hc
        refine seqF ?_
        refine regF ?_
        refine op_eql rfl rfl rfl ?_
        refine op_assign rfl rfl ?_
        refine endF ?_
        refine XF.thenN ?_
        refine condF rfl (fun hc => ?_) (fun hc => ?_)
        · have hc30 := of_decide_eq_true hc; clear hc
          have e3 : t = 3 := hc30
          subst e3
          obtain ⟨m, rfl, hm⟩ := dim3 hp (.inl rfl)
          refine regF ?_
          refine op_field (o' := 1) fa_25_1 rfl rfl rfl ?_
          refine op_load Tryz.isAgg3 rfl (cell_own (hS.at_ 4 rfl) rfl) rfl ?_
          refine op_field (o' := 2) fa_33_2 rfl rfl rfl ?_
          refine op_loadA (vs := [_, _]) Tryz.isAgg29 Tryz.sizeOf29 rfl (CellsAt.own (j := 2) (m := 2) (hS.at_ 3 rfl) rfl) rfl ?_
          refine op_field (o' := 2) fa_33_2 rfl rfl rfl ?_
          refine op_loadA (vs := [_, _]) Tryz.isAgg29 Tryz.sizeOf29 rfl (CellsAt.own (j := 2) (m := 2) (hS.at_ 2 rfl) rfl) rfl ?_
          have hsz := hS.below.size
          refine op_call (vs := [_, _, _]) hS goes_87 rfl (extR_is _ _ _ _ _ _ _ _ _ _ (hx.at_.fat (by have := hx.rows64 (l := 0); omega) |>.below hS.below) (hy.at_.fat (by have := hy.rows64 (l := 0); omega) |>.below hS.below) _ rfl _ rfl _ rfl _ _ hx.at_.rl hy.at_.rl) rfl ?_
          rintro e W11 ⟨a1, c1, rfl, hv, hl, hb⟩
          refine ⟨_, rfl, hb, fun hS' => ?_⟩
          clear hS; have hS := hS'; clear hS'
          refine op_move rfl rfl ?_
          refine op_extract rfl rfl rfl ?_
          refine op_extract rfl rfl rfl ?_
          refine op_field (o' := 2) fa_33_2 rfl rfl rfl ?_
          refine op_storeA (i := 0) (vs := [_, _]) (cs' := [_, _, _, _, _, _]) (O' := [_, _, _, _, _]) hS Tryz.sizeOf29 rfl rfl rfl rfl rfl rfl rfl ?_
          clear hS; intro W12 hS
          refine endF ?_
          refine XF.blkN ?_
          refine XF.thenN ?_
          refine seqF ?_
          refine regF ?_
          refine op_loadA (vs := [_, _, _, _, _, _]) Tryz.isAgg33 Tryz.sizeOf33 rfl (CellsAt.own (j := 0) (m := 6) (hS.at_ 0 rfl) rfl) rfl ?_
          refine op_storeA (i := 1) (vs := [_, _, _, _, _, _]) (cs' := [_, _, _, _, _, _]) (O' := [_, _, _, _, _]) hS Tryz.sizeOf33 rfl rfl rfl rfl rfl rfl rfl ?_
          clear hS; intro W13 hS
          refine endF ?_
          refine XF.thenN ?_
          refine retF ?_
          refine XF.res (resC1 (vs := [_, _, _, _, _, _]) Tryz.results57 Tryz.isAgg33 Tryz.sizeOf33 rfl (CellsAt.own (j := 0) (m := 6) (hS.at_ 1 rfl) rfl)) ?_
          exact wret_one (ext_f3 hx hy hf hg (hv.agree (fun ad e => (hl ad e).1) (hS.since 0 rfl)) (fun ad e => Nat.le_trans hsz (hl ad e).1)) hS.below
        · have hc30 := of_decide_eq_false hc; clear hc
          refine seqF ?_
          refine regF ?_
          refine op_eql rfl rfl rfl ?_
          refine op_assign rfl rfl ?_
          refine endF ?_
          refine XF.thenN ?_
          refine condF rfl (fun hc => ?_) (fun hc => ?_)
          · have hc43 := of_decide_eq_true hc; clear hc
            have e4 : t = 4 := hc43
            subst e4
            obtain ⟨m, rfl, hm⟩ := dim3 hp (.inr rfl)
            obtain ⟨hpx, vx⟩ := hx.k4 hf
            obtain ⟨hpy, vy⟩ := hy.k4 hg
            refine seqF ?_
            refine regF ?_
            refine op_assign rfl rfl ?_
            refine endF ?_
            refine XF.thenN ?_
            refine blockF ?_
            refine loopF (fun q l W => ∃ (k : Nat) (v : Value), k ≤ m ∧ q = m - k ∧ l = [(3, .pointer (some ⟨B1, 0, none⟩)), (4, .pointer (some ⟨B2, 0, none⟩)), (5, .pointer (some ⟨B3, 0, none⟩)), (6, .pointer (some ⟨B4, 0, none⟩)), (7, .pointer (some ⟨B7, 0, none⟩)), (8, .int .i64 (k : Int))] ∧ St w [(B7, [.bool false, .int .i64 0, .int .u64 0, .slice none 0 0, v, .slice none 0 0], 33), (B4, [.bool false, .int .i64 0, .int .u64 0, .slice none 0 0, .slice none 0 0, .slice none 0 0], 33), (B3, [.bool g.z, .int .i64 g.c, .int .u64 (g.g : Int), .slice g.ra g.rl g.rc, .slice g.ca g.cl g.cc, .slice g.pa g.pl g.pc], 33), (B2, [.bool f.z, .int .i64 f.c, .int .u64 (f.g : Int), .slice f.ra f.rl f.rc, .slice f.ca f.cl f.cc, .slice f.pa f.pl f.pc], 33), (B1, [.int .i64 4, .int .i64 (m : Int), .slice sa 0 sc], 25)] [⟨v, k, flat ((thenC f.cells g.cells).take k), 73, 3⟩] [] W) (m - 0) ([(3, _), (4, _), (5, _), (6, _), (7, _), (8, _)]) ⟨rfl, rfl, rfl, rfl, rfl, rfl, trivial⟩ (⟨0, .slice none 0 0, Nat.zero_le _, rfl, rfl, hS.clear.newG _ _⟩) ?_
            clear hS
            rintro q l W ⟨k, v, hkm, rfl, rfl, hS⟩
            refine seqF ?_
            refine seqF ?_
            refine regF ?_
            refine op_move rfl rfl ?_
            refine op_field (o' := 1) fa_25_1 rfl rfl rfl ?_
            refine op_load Tryz.isAgg3 rfl (cell_own (hS.at_ 4 rfl) rfl) rfl ?_
            refine op_lss rfl rfl rfl ?_
            refine endF ?_
            refine XF.thenN ?_
            refine condF rfl (fun hc => ?_) (fun hc => ?_)
            · have hc48 := of_decide_eq_true hc; clear hc
              have hk : k < m := by omega
              have hlx := vx.len
              have hly := vy.len
              obtain ⟨ba, offa, y1, eca, hy1, hba, a0, a1, a2⟩ := (hy.at_.cells.below hS.below).at_ (k := k) (by omega)
              have k1 : CellsAt W ba (offa + k * 3) [.int .u64 (y1.f : Int), .int .i64 y1.k, .int .i64 y1.v] := ⟨a0, a1, a2, trivial⟩
              have h1 : (thenC f.cells g.cells)[k]? = some (ofC f.cells y1) := by unfold thenC; rw [List.getElem?_map, hy1]; rfl
              have hcl := hx.at_.cl
              have hclg := hy.at_.cl
              simp only [eca] at hS
              refine skipF ?_
              refine XF.thenN ?_
              refine seqF ?_
              refine blockF ?_
              refine regBP (p := 11) (k := 13) (gi := 0) (m := 1) followsM hS rfl rfl (by kernel_rfl) (by kernel_rfl) (by kernel_rfl) (fun d hd => by cases hd) rfl rfl Tryz.underlying30 inf_73 rfl rfl (by show 0 < 3; decide) rfl rfl rfl (by dsimp only; simp only [maxLen]; omega) (by dsimp only; show _ * 24 ≤ _; omega) ?_
              refine blp_v 1 rfl rfl (by kernel_rfl) (rgV (li := [(7, _)]) rfl (w_free rfl) ⟨g_fr (by kernel_rfl) rfl, trivial⟩ (fun w hw => rn_field (o' := 4) fa_33_3 rfl rfl) (at_top rfl)) ?_
              refine blp_v 2 rfl rfl (by kernel_rfl) (rgV (li := [(51, _)]) rfl (w_free rfl) ⟨g_dep 0 (by kernel_rfl) (at_dep rfl rfl rfl), trivial⟩ (fun w hw => rn_load Tryz.isAgg30 rfl ((below_agree hw 0).cell (Nat.zero_le _) (cell_own (hS.at_ 0 rfl) rfl))) (at_top rfl)) ?_
              refine blp_v 3 rfl rfl (by kernel_rfl) (rgV (li := [(4, _)]) rfl (w_free rfl) ⟨g_fr (by kernel_rfl) rfl, trivial⟩ (fun w hw => rn_field (o' := 4) fa_33_3 rfl rfl) (at_top rfl)) ?_
              refine blp_v 4 rfl rfl (by kernel_rfl) (rgV (li := [(53, _)]) rfl (w_free rfl) ⟨g_dep 2 (by kernel_rfl) (at_dep rfl rfl rfl), trivial⟩ (fun w hw => rn_load Tryz.isAgg30 rfl ((below_agree hw 0).cell (Nat.zero_le _) (cell_own (hS.at_ 3 rfl) rfl))) (at_top rfl)) ?_
              refine blp_v 5 rfl rfl (by kernel_rfl) (rgV (li := [(5, _)]) rfl (w_free rfl) ⟨g_fr (by kernel_rfl) rfl, trivial⟩ (fun w hw => rn_field (o' := 4) fa_33_3 rfl rfl) (at_top rfl)) ?_
              refine blp_v 6 rfl rfl (by kernel_rfl) (rgV (li := [(55, _)]) rfl (w_free rfl) ⟨g_dep 4 (by kernel_rfl) (at_dep rfl rfl rfl), trivial⟩ (fun w hw => rn_load Tryz.isAgg30 rfl ((below_agree hw 0).cell (Nat.zero_le _) (cell_own (hS.at_ 2 rfl) rfl))) (at_top rfl)) ?_
              refine blp_v 7 rfl rfl (by kernel_rfl) (rgV (li := [(8, _)]) rfl (w_free rfl) ⟨g_fr (by kernel_rfl) rfl, trivial⟩ (fun w hw => rn_move rfl) (at_top rfl)) ?_
              refine blp_v 8 rfl rfl (by kernel_rfl) (rgV (li := [(56, _), (57, _)]) rfl (w_free rfl) ⟨g_dep 5 (by kernel_rfl) (at_dep rfl rfl rfl), g_dep 6 (by kernel_rfl) (at_dep rfl rfl rfl), trivial⟩ (fun w hw => rn_indexA  Tryz.underlying30 Tryz.sizeOf73 rfl rfl rfl (by omega) rfl) (at_top rfl)) ?_
              refine blp_v 9 rfl rfl (by kernel_rfl) (rgV (li := [(58, _)]) rfl (w_free rfl) ⟨g_dep 7 (by kernel_rfl) (at_dep rfl rfl rfl), trivial⟩ (fun w hw => rn_loadA (vs := [_, _, _]) Tryz.isAgg73 Tryz.sizeOf73 rfl (CellsAt.agree (below_agree hw 0) (Nat.zero_le _) (by assumption))) (at_top rfl)) ?_
              refine blp_v 10 rfl rfl (by kernel_rfl) (rg_call [isV _, isV _] rfl goes_88 (w_free rfl) ⟨p_tmp (g_dep 3 (by kernel_rfl) (at_dep rfl rfl rfl)), p_tmp (g_dep 8 (by kernel_rfl) (at_dep rfl rfl rfl)), trivial⟩ (fun vs w' hb hh => by have e := holds_isV (us := [_, _]) hh; subst e; exact (behindR_is f.ca f.cc f.cl f.cells y1 _ hx.at_.cl (by omega) ((hx.at_.cells.below hS.below).below hb) vx.oks (vy.oks k y1 hy1)).mono fun e w2 h => ⟨_, h.1, rfl, h.2⟩) (at_top rfl)) ?_
              refine blp_q 11 rfl rfl (by kernel_rfl) (isRow W.heap.size 1 73 _) (stab_isRow) (rg_rowV (us := [.agg (List.toArray [_, _, _])]) rfl (w_free rfl) Tryz.underlying30 Tryz.sizeOf73 Tryz.zeroValue73 rfl rfl ⟨p_tmp (g_dep 9 (by kernel_rfl) (at_dep rfl rfl rfl)), trivial⟩ (bs_30_1 _ _ _) (at_top rfl)) ?_
              refine blp_app 12 rfl rfl ?_
              refine blp_late 13 rfl rfl (rgV (li := [(7, _)]) rfl (w_free rfl) ⟨g_fr (by kernel_rfl) rfl, trivial⟩ (fun w hw => rn_field (o' := 4) fa_33_3 rfl rfl) (at_top rfl)) (lgV (li := [(7, _)]) rfl (w_free rfl) ⟨g_fr (by kernel_rfl) rfl, trivial⟩ (fun w => rn_field (o' := 4) fa_33_3 rfl rfl) (at_top rfl) rfl) ?_
              refine blp_nil ⟨_, _, g_dep 1 (by kernel_rfl) (at_dep rfl rfl rfl), g_dep 10 (by kernel_rfl) (at_dep rfl rfl rfl), rowOf_isRow rfl rfl, ?_⟩
              intro A14 v14 news14 W14 hbR hqA14 hS'
              clear hS; have hS := hS'; clear hS'
              cases hqA14
              refine fin_v ?_
              refine fin_v ?_
              refine fin_v ?_
              refine fin_v ?_
              refine fin_v ?_
              refine fin_v ?_
              refine fin_v ?_
              refine fin_v ?_
              refine fin_v ?_
              refine fin_v ?_
              refine fin_p ?_; intro _ _
              refine fin_v ?_
              refine fin_v ?_
              obtain ⟨g9, c9, e9, _, _⟩ := (hS.row 0 rfl).form (by show 0 < k + 1; omega)
              dsimp only at e9
              subst e9
              refine fin_nil ?_
              refine op_store (i := 0) (cs' := [_, _, _, _, _, _]) (O' := [_, _, _, _, _]) hS Tryz.sizeOf30 rfl rfl rfl rfl rfl rfl rfl ?_
              clear hS; intro W15 hS
              refine endF ?_
              refine XF.blkN ?_
              refine XF.thenN ?_
              refine regF ?_
              refine op_move rfl rfl ?_
              refine op_add rfl rfl (IntWalk.i64_in _ (by omega)) rfl ?_
              refine op_assign rfl rfl ?_
              refine endF ?_
              simp only [← eca] at hS
              exact XF.round (m - (k + 1)) [(3, _), (4, _), (5, _), (6, _), (7, _), (8, _)] (by omega) ⟨rfl, rfl, rfl, rfl, rfl, rfl, trivial⟩ ⟨k + 1, _, by omega, rfl, rfl, by rw [flat_step h1]; exact hS.clear⟩
            · have hc48 := of_decide_eq_false hc; clear hc
              refine exitF ?_
              refine XF.thenX ?_
              refine XF.thenX ?_
              refine XF.blkX ?_
              refine XF.blkN ?_
              refine XF.thenN ?_
              refine seqF ?_
              obtain rfl : k = m := by omega
              have hrow := hS.row 0 rfl
              have hln : (thenC f.cells g.cells).length = k := by unfold thenC; rw [List.length_map]; exact vy.len
              have ht0 : (thenC f.cells g.cells).take k = thenC f.cells g.cells := List.take_of_length_le (by rw [hln]; exact Nat.le_refl _)
              simp only [ht0] at hrow
              obtain ⟨hn, a9, c9, rfl, _, _⟩ := crow_of_own hrow
              clear hrow
              refine regF ?_
              refine op_loadA (vs := [_, _, _, _, _, _]) Tryz.isAgg33 Tryz.sizeOf33 rfl (CellsAt.own (j := 0) (m := 6) (hS.at_ 0 rfl) rfl) rfl ?_
              refine op_storeA (i := 1) (vs := [_, _, _, _, _, _]) (cs' := [_, _, _, _, _, _]) (O' := [_, _, _, _, _]) hS Tryz.sizeOf33 rfl rfl rfl rfl rfl rfl rfl ?_
              clear hS; intro W16 hS
              refine endF ?_
              refine XF.thenN ?_
              refine retF ?_
              refine XF.res (resC1 (vs := [_, _, _, _, _, _]) Tryz.results57 Tryz.isAgg33 Tryz.sizeOf33 rfl (CellsAt.own (j := 0) (m := 6) (hS.at_ 1 rfl) rfl)) ?_
              have hrow := hS.row 0 rfl
              simp only [ht0] at hrow
              obtain ⟨_, a8, c8, e8, hr9, hf9⟩ := crow_of_own hrow
              cases e8
              refine ⟨cellsF a9 c9 (thenC f.cells g.cells), ?_, ext_f4C hx hy hf hg hr9 (fun ad e => (hf9 ad e).1), hS.below⟩
              show _ = Ending.returned (Value.agg #[.bool false, .int .i64 0, .int .u64 ((0 : Nat) : Int), .slice none 0 0, .slice a9 (thenC f.cells g.cells).length c9, .slice none 0 0])
              rw [hln]
              rfl
          · have hc43 := of_decide_eq_false hc; clear hc
            refine seqF ?_
            refine regF ?_
            refine op_eql rfl rfl rfl ?_
            refine op_assign rfl rfl ?_
            refine endF ?_
            refine XF.thenN ?_
            refine condF rfl (fun hc => absurd (of_decide_eq_true hc) (by exact plain_ne5 hp)) (fun hc => ?_)
            have hc := of_decide_eq_false hc
            refine skipF ?_
            refine XF.blkN ?_
            refine XF.thenN ?_
            refine seqF ?_
            refine regF ?_
            refine op_loadA (vs := [_, _, _, _, _, _]) Tryz.isAgg33 Tryz.sizeOf33 rfl (CellsAt.own (j := 0) (m := 6) (hS.at_ 0 rfl) rfl) rfl ?_
            refine op_storeA (i := 1) (vs := [_, _, _, _, _, _]) (cs' := [_, _, _, _, _, _]) (O' := [_, _, _, _, _]) hS Tryz.sizeOf33 rfl rfl rfl rfl rfl rfl rfl ?_
            clear hS; intro W17 hS
            refine endF ?_
            refine XF.thenN ?_
            refine retF ?_
            refine XF.res (resC1 (vs := [_, _, _, _, _, _]) Tryz.results57 Tryz.isAgg33 Tryz.sizeOf33 rfl (CellsAt.own (j := 0) (m := 6) (hS.at_ 1 rfl) rfl)) ?_
            have e1 : t = 1 := by
              have := (plainB_tag hp).2
              omega
            subst e1
            exact wret_one (ext_f1 hx hy hf hg) hS.below

set_option maxRecDepth 100000 in
set_option maxHeartbeats 4000000 in
theorem thenR_pair (t n u m : Int) (a1 a2 : Option Addr) (c1 c2 b off sc : Nat) (w : World) (hs1 : S3 w b off ⟨t, n, a1, 0, c1⟩) (hs2 : S3 w b (off + 3) ⟨u, m, a2, 0, c2⟩) (hp1 : plainB t n 0 = true) (hp2 : plainB u m 0 = true)(fra fca : Option Addr) (frc fcc fpc fb fo : Nat) (f1 f2 : WF) (x1 x2 : PF) (hf6 : W6 w fb fo f1) (hf7 : W6 w fb (fo + 6) f2) (hx1 : PIs w t n f1 x1) (hx2 : PIs w u m f2 x2)(gra gca : Option Addr) (grc gcc gpc gb go : Nat) (g1 g2 : WF) (y1 y2 : PF) (hg6 : W6 w gb go g1) (hg7 : W6 w gb (go + 6) g2) (hy1 : PIs w t n g1 y1) (hy2 : PIs w u m g2 y2) :
    Calls Tryz.prog 57 #[.agg #[.int .i64 5, .int .i64 0, .slice (some ⟨b, off, none⟩) 2 sc], .agg #[.bool false, .int .i64 0, .int .u64 0, .slice fra 0 frc, .slice fca 0 fcc, .slice (some ⟨fb, fo, none⟩) 2 fpc], .agg #[.bool false, .int .i64 0, .int .u64 0, .slice gra 0 grc, .slice gca 0 gcc, .slice (some ⟨gb, go, none⟩) 2 gpc]] w (WRet (.two t n u m) (.two (extP t n x1 y1) (extP u m x2 y2)) w) := by
  refine enterF (args := [.agg #[.int .i64 5, .int .i64 0, .slice (some ⟨b, off, none⟩) 2 sc], .agg #[.bool false, .int .i64 0, .int .u64 0, .slice fra 0 frc, .slice fca 0 fcc, .slice (some ⟨fb, fo, none⟩) 2 fpc], .agg #[.bool false, .int .i64 0, .int .u64 0, .slice gra 0 grc, .slice gca 0 gcc, .slice (some ⟨gb, go, none⟩) 2 gpc]]) Tryz.func57 rfl Tryz.ntmps57 rfl ?_
  have hS := St.start w
  refine seqF ?_
  refine regF ?_
  refine op_box (cs := [_, _, _]) hS rfl rfl rfl ?_
  clear hS; intro B1 W1 hS
  refine op_box (cs := [_, _, _, _, _, _]) hS rfl rfl rfl ?_
  clear hS; intro B2 W2 hS
  refine op_box (cs := [_, _, _, _, _, _]) hS rfl rfl rfl ?_
  clear hS; intro B3 W3 hS
  refine op_alloc (cs := [_, _, _, _, _, _]) hS Tryz.zeroValue33 rfl rfl ?_
  clear hS; intro B4 W4 hS
  refine endF ?_
  refine XF.thenN ?_
  refine seqF ?_
  refine seqF ?_
  refine regF ?_
  refine op_field (o' := 0) fa_33_0 rfl rfl rfl ?_
  refine op_load Tryz.isAgg4 rfl (cell_own (hS.at_ 2 rfl) rfl) rfl ?_
  refine op_move rfl rfl ?_
  refine op_cases (d := 11) rfl (fun hc => absurd hc (by decide)) (fun hc => ?_)
  skip
  refine op_wantedF (d := 11) rfl rfl ?_
  refine op_field (o' := 0) fa_33_0 rfl rfl rfl ?_
  refine op_wantedF (d := 11) rfl rfl ?_
  refine op_load Tryz.isAgg4 rfl (cell_own (hS.at_ 1 rfl) rfl) rfl ?_
  refine op_pickF rfl rfl rfl ?_
  refine endF ?_
  refine XF.thenN ?_
  refine condF rfl (fun hc => absurd hc (by decide)) (fun hc => ?_)
  skip
  refine skipF ?_
  refine XF.thenN ?_
  refine seqF ?_
  refine regF ?_
  refine op_build (us := []) rfl (bld_33) rfl ?_
  refine op_alloc (cs := [_, _, _, _, _, _]) hS Tryz.zeroValue33 rfl rfl ?_
  clear hS; intro B5 W5 hS
  refine op_storeA (i := 0) (vs := [_, _, _, _, _, _]) (cs' := [_, _, _, _, _, _]) (O' := [_, _, _, _, _]) hS Tryz.sizeOf33 rfl rfl rfl rfl rfl rfl rfl ?_
  clear hS; intro W6 hS
  refine endF ?_
  refine XF.thenN ?_
  refine seqF ?_
  refine seqF ?_
  refine regF ?_
  refine op_field (o' := 0) fa_25_0 rfl rfl rfl ?_
  refine op_load Tryz.isAgg22 rfl (cell_own (hS.at_ 4 rfl) rfl) rfl ?_
  refine endF ?_
  refine XF.thenN ?_
  refine blockF ?_
  refine seqF ?_
  refine regF ?_
  refine op_eql rfl rfl rfl ?_
  refine op_assign rfl rfl ?_
  refine endF ?_
  refine XF.thenN ?_
  refine condF rfl (fun hc => absurd (of_decide_eq_true hc) (by omega)) (fun hc => ?_)
  have hc := of_decide_eq_false hc
  refine seqF ?_
  refine regF ?_
  refine op_eql rfl rfl rfl ?_
  refine op_assign rfl rfl ?_
  refine endF ?_
  refine XF.thenN ?_
  refine condF rfl (fun hc => absurd (of_decide_eq_true hc) (by omega)) (fun hc => ?_)
  have hc := of_decide_eq_false hc
  refine seqF ?_
  refine regF ?_
  refine op_eql rfl rfl rfl ?_
  refine op_assign rfl rfl ?_
  refine endF ?_
  refine XF.thenN ?_
  refine condF rfl (fun hc => absurd (of_decide_eq_true hc) (by omega)) (fun hc => ?_)
  have hc := of_decide_eq_false hc
  refine seqF ?_
  refine regF ?_
  refine op_eql rfl rfl rfl ?_
  refine op_assign rfl rfl ?_
  refine endF ?_
  refine XF.thenN ?_
  refine condF rfl (fun hc => ?_) (fun hc => absurd (of_decide_eq_false hc) (by omega))
  have hc := of_decide_eq_true hc
  have hsz := hS.below.size
  have k1 := CellsAt.agree hS.agree (Nat.zero_le _) hs1.cells
  have k2 := CellsAt.agree hS.agree (Nat.zero_le _) hs2.cells
  have kf1 := CellsAt.agree hS.agree (Nat.zero_le _) hf6.cells
  have kf2 := CellsAt.agree hS.agree (Nat.zero_le _) hf7.cells
  have kg1 := CellsAt.agree hS.agree (Nat.zero_le _) hg6.cells
  have kg2 := CellsAt.agree hS.agree (Nat.zero_le _) hg7.cells
  refine regBK followsM 28 hS rfl rfl (by kernel_rfl) (by kernel_rfl) (by kernel_rfl) (fun d hd => by cases hd) ?_
  refine bl_cons 1 rfl (isV _) (stab_isV _) (rgV (li := [(3, _)]) rfl (w_free rfl) ⟨g_fr (by kernel_rfl) rfl, trivial⟩ (fun w hw => rn_field (o' := 2) fa_25_2 rfl rfl) (at_top rfl)) ?_
  refine bl_cons 2 rfl (isV _) (stab_isV _) (rgV (li := [(66, _)]) rfl (w_free rfl) ⟨g_dep 0 (by kernel_rfl) (at_dep rfl rfl rfl), trivial⟩ (fun w hw => rn_load Tryz.isAgg23 rfl ((below_agree hw 0).cell (Nat.zero_le _) (cell_own (hS.at_ 4 rfl) rfl))) (at_top rfl)) ?_
  refine bl_cons 3 rfl (isV _) (stab_isV _) (rgV (li := [(67, _)]) rfl (w_free rfl) ⟨g_dep 1 (by kernel_rfl) (at_dep rfl rfl rfl), trivial⟩ (fun w hw => rn_indexA (j := 0) Tryz.underlying23 Tryz.sizeOf25 rfl rfl rfl (by omega) (Nat.add_zero _)) (at_top rfl)) ?_
  refine bl_cons 4 rfl (isV _) (stab_isV _) (rgV (li := [(68, _)]) rfl (w_free rfl) ⟨g_dep 2 (by kernel_rfl) (at_dep rfl rfl rfl), trivial⟩ (fun w hw => rn_loadA (vs := [_, _, _]) Tryz.isAgg25 Tryz.sizeOf25 rfl (CellsAt.agree (below_agree hw 0) (Nat.zero_le _) (by assumption))) (at_top rfl)) ?_
  refine bl_cons 5 rfl (isV _) (stab_isV _) (rgV (li := [(4, _)]) rfl (w_free rfl) ⟨g_fr (by kernel_rfl) rfl, trivial⟩ (fun w hw => rn_field (o' := 5) fa_33_4 rfl rfl) (at_top rfl)) ?_
  refine bl_cons 6 rfl (isV _) (stab_isV _) (rgV (li := [(70, _)]) rfl (w_free rfl) ⟨g_dep 4 (by kernel_rfl) (at_dep rfl rfl rfl), trivial⟩ (fun w hw => rn_load Tryz.isAgg31 rfl ((below_agree hw 0).cell (Nat.zero_le _) (cell_own (hS.at_ 3 rfl) rfl))) (at_top rfl)) ?_
  refine bl_cons 7 rfl (isV _) (stab_isV _) (rgV (li := [(71, _)]) rfl (w_free rfl) ⟨g_dep 5 (by kernel_rfl) (at_dep rfl rfl rfl), trivial⟩ (fun w hw => rn_indexA (j := 0) Tryz.underlying31 Tryz.sizeOf33 rfl rfl rfl (by omega) (Nat.add_zero _)) (at_top rfl)) ?_
  refine bl_cons 8 rfl (isV _) (stab_isV _) (rgV (li := [(72, _)]) rfl (w_free rfl) ⟨g_dep 6 (by kernel_rfl) (at_dep rfl rfl rfl), trivial⟩ (fun w hw => rn_loadA (vs := [_, _, _, _, _, _]) Tryz.isAgg33 Tryz.sizeOf33 rfl (CellsAt.agree (below_agree hw 0) (Nat.zero_le _) (by assumption))) (at_top rfl)) ?_
  refine bl_cons 9 rfl (isV _) (stab_isV _) (rgV (li := [(5, _)]) rfl (w_free rfl) ⟨g_fr (by kernel_rfl) rfl, trivial⟩ (fun w hw => rn_field (o' := 5) fa_33_4 rfl rfl) (at_top rfl)) ?_
  refine bl_cons 10 rfl (isV _) (stab_isV _) (rgV (li := [(74, _)]) rfl (w_free rfl) ⟨g_dep 8 (by kernel_rfl) (at_dep rfl rfl rfl), trivial⟩ (fun w hw => rn_load Tryz.isAgg31 rfl ((below_agree hw 0).cell (Nat.zero_le _) (cell_own (hS.at_ 2 rfl) rfl))) (at_top rfl)) ?_
  refine bl_cons 11 rfl (isV _) (stab_isV _) (rgV (li := [(75, _)]) rfl (w_free rfl) ⟨g_dep 9 (by kernel_rfl) (at_dep rfl rfl rfl), trivial⟩ (fun w hw => rn_indexA (j := 0) Tryz.underlying31 Tryz.sizeOf33 rfl rfl rfl (by omega) (Nat.add_zero _)) (at_top rfl)) ?_
  refine bl_cons 12 rfl (isV _) (stab_isV _) (rgV (li := [(76, _)]) rfl (w_free rfl) ⟨g_dep 10 (by kernel_rfl) (at_dep rfl rfl rfl), trivial⟩ (fun w hw => rn_loadA (vs := [_, _, _, _, _, _]) Tryz.isAgg33 Tryz.sizeOf33 rfl (CellsAt.agree (below_agree hw 0) (Nat.zero_le _) (by assumption))) (at_top rfl)) ?_
  refine bl_cons 13 rfl (isNew W6.heap.size (.one t n) (.one (extP t n x1 y1))) (stab_isNew) (rg_call [isV _, isV _, isV _] rfl goes_57 (w_free rfl) ⟨p_tmp (g_dep 3 (by kernel_rfl) (at_dep rfl rfl rfl)), p_tmp (g_dep 7 (by kernel_rfl) (at_dep rfl rfl rfl)), p_tmp (g_dep 11 (by kernel_rfl) (at_dep rfl rfl rfl)), trivial⟩ (fun vs w' hb hh => by have e := holds_isV (us := [_, _, _]) hh; subst e; exact wret_gives hb.size (thenR_plain _ _ _ _ _ _ _ _ _ hp1 (hx1.below (hS.below.trans (hb.mono hS.below.size))) (hy1.below (hS.below.trans (hb.mono hS.below.size))))) (at_top rfl)) ?_
  refine bl_cons 14 rfl (isV _) (stab_isV _) (rgV (li := [(3, _)]) rfl (w_free rfl) ⟨g_fr (by kernel_rfl) rfl, trivial⟩ (fun w hw => rn_field (o' := 2) fa_25_2 rfl rfl) (at_top rfl)) ?_
  refine bl_cons 15 rfl (isV _) (stab_isV _) (rgV (li := [(79, _)]) rfl (w_free rfl) ⟨g_dep 13 (by kernel_rfl) (at_dep rfl rfl rfl), trivial⟩ (fun w hw => rn_load Tryz.isAgg23 rfl ((below_agree hw 0).cell (Nat.zero_le _) (cell_own (hS.at_ 4 rfl) rfl))) (at_top rfl)) ?_
  refine bl_cons 16 rfl (isV _) (stab_isV _) (rgV (li := [(80, _)]) rfl (w_free rfl) ⟨g_dep 14 (by kernel_rfl) (at_dep rfl rfl rfl), trivial⟩ (fun w hw => rn_indexA (j := 1) Tryz.underlying23 Tryz.sizeOf25 rfl rfl rfl (by omega) rfl) (at_top rfl)) ?_
  refine bl_cons 17 rfl (isV _) (stab_isV _) (rgV (li := [(81, _)]) rfl (w_free rfl) ⟨g_dep 15 (by kernel_rfl) (at_dep rfl rfl rfl), trivial⟩ (fun w hw => rn_loadA (vs := [_, _, _]) Tryz.isAgg25 Tryz.sizeOf25 rfl (CellsAt.agree (below_agree hw 0) (Nat.zero_le _) (by assumption))) (at_top rfl)) ?_
  refine bl_cons 18 rfl (isV _) (stab_isV _) (rgV (li := [(4, _)]) rfl (w_free rfl) ⟨g_fr (by kernel_rfl) rfl, trivial⟩ (fun w hw => rn_field (o' := 5) fa_33_4 rfl rfl) (at_top rfl)) ?_
  refine bl_cons 19 rfl (isV _) (stab_isV _) (rgV (li := [(83, _)]) rfl (w_free rfl) ⟨g_dep 17 (by kernel_rfl) (at_dep rfl rfl rfl), trivial⟩ (fun w hw => rn_load Tryz.isAgg31 rfl ((below_agree hw 0).cell (Nat.zero_le _) (cell_own (hS.at_ 3 rfl) rfl))) (at_top rfl)) ?_
  refine bl_cons 20 rfl (isV _) (stab_isV _) (rgV (li := [(84, _)]) rfl (w_free rfl) ⟨g_dep 18 (by kernel_rfl) (at_dep rfl rfl rfl), trivial⟩ (fun w hw => rn_indexA (j := 1) Tryz.underlying31 Tryz.sizeOf33 rfl rfl rfl (by omega) rfl) (at_top rfl)) ?_
  refine bl_cons 21 rfl (isV _) (stab_isV _) (rgV (li := [(85, _)]) rfl (w_free rfl) ⟨g_dep 19 (by kernel_rfl) (at_dep rfl rfl rfl), trivial⟩ (fun w hw => rn_loadA (vs := [_, _, _, _, _, _]) Tryz.isAgg33 Tryz.sizeOf33 rfl (CellsAt.agree (below_agree hw 0) (Nat.zero_le _) (by assumption))) (at_top rfl)) ?_
  refine bl_cons 22 rfl (isV _) (stab_isV _) (rgV (li := [(5, _)]) rfl (w_free rfl) ⟨g_fr (by kernel_rfl) rfl, trivial⟩ (fun w hw => rn_field (o' := 5) fa_33_4 rfl rfl) (at_top rfl)) ?_
  refine bl_cons 23 rfl (isV _) (stab_isV _) (rgV (li := [(87, _)]) rfl (w_free rfl) ⟨g_dep 21 (by kernel_rfl) (at_dep rfl rfl rfl), trivial⟩ (fun w hw => rn_load Tryz.isAgg31 rfl ((below_agree hw 0).cell (Nat.zero_le _) (cell_own (hS.at_ 2 rfl) rfl))) (at_top rfl)) ?_
  refine bl_cons 24 rfl (isV _) (stab_isV _) (rgV (li := [(88, _)]) rfl (w_free rfl) ⟨g_dep 22 (by kernel_rfl) (at_dep rfl rfl rfl), trivial⟩ (fun w hw => rn_indexA (j := 1) Tryz.underlying31 Tryz.sizeOf33 rfl rfl rfl (by omega) rfl) (at_top rfl)) ?_
  refine bl_cons 25 rfl (isV _) (stab_isV _) (rgV (li := [(89, _)]) rfl (w_free rfl) ⟨g_dep 23 (by kernel_rfl) (at_dep rfl rfl rfl), trivial⟩ (fun w hw => rn_loadA (vs := [_, _, _, _, _, _]) Tryz.isAgg33 Tryz.sizeOf33 rfl (CellsAt.agree (below_agree hw 0) (Nat.zero_le _) (by assumption))) (at_top rfl)) ?_
  refine bl_cons 26 rfl (isNew W6.heap.size (.one u m) (.one (extP u m x2 y2))) (stab_isNew) (rg_call [isV _, isV _, isV _] rfl goes_57 (w_free rfl) ⟨p_tmp (g_dep 16 (by kernel_rfl) (at_dep rfl rfl rfl)), p_tmp (g_dep 20 (by kernel_rfl) (at_dep rfl rfl rfl)), p_tmp (g_dep 24 (by kernel_rfl) (at_dep rfl rfl rfl)), trivial⟩ (fun vs w' hb hh => by have e := holds_isV (us := [_, _, _]) hh; subst e; exact wret_gives hb.size (thenR_plain _ _ _ _ _ _ _ _ _ hp2 (hx2.below (hS.below.trans (hb.mono hS.below.size))) (hy2.below (hS.below.trans (hb.mono hS.below.size))))) (at_top rfl)) ?_
  refine bl_cons 27 rfl (isPairRow W6.heap.size (.two t n u m) (.two (extP t n x1 y1) (extP u m x2 y2))) (stab_isPairRow) (rg_pairRow rfl (w_free rfl) ⟨p_tmp (g_dep 12 (by kernel_rfl) (at_dep rfl rfl rfl)), p_tmp (g_dep 25 (by kernel_rfl) (at_dep rfl rfl rfl)), trivial⟩ (at_top rfl)) ?_
  refine bl_cons 28 rfl (isV _) (stab_isV _) (rgV (li := [(7, _)]) rfl (w_free rfl) ⟨g_fr (by kernel_rfl) rfl, trivial⟩ (fun w hw => rn_field (o' := 5) fa_33_4 rfl rfl) (at_top rfl)) ?_
  refine bl_nil ?_
  intro W7 hbR hS'
  clear hS; have hS := hS'; clear hS'
  refine fin_v ?_
  refine fin_v ?_
  refine fin_v ?_
  refine fin_v ?_
  refine fin_v ?_
  refine fin_v ?_
  refine fin_v ?_
  refine fin_v ?_
  refine fin_v ?_
  refine fin_v ?_
  refine fin_v ?_
  refine fin_v ?_
  refine fin_p ?_; rintro _ ⟨v1, rfl, hn1⟩
  refine fin_v ?_
  refine fin_v ?_
  refine fin_v ?_
  refine fin_v ?_
  refine fin_v ?_
  refine fin_v ?_
  refine fin_v ?_
  refine fin_v ?_
  refine fin_v ?_
  refine fin_v ?_
  refine fin_v ?_
  refine fin_v ?_
  refine fin_p ?_; rintro _ ⟨v2, rfl, hn2⟩
  refine fin_p ?_; rintro _ ⟨b9, rfl, hn9⟩
  refine fin_v ?_
  refine fin_nil ?_
  refine op_store (i := 0) (cs' := [_, _, _, _, _, _]) (O' := [_, _, _, _, _]) hS Tryz.sizeOf31 rfl rfl rfl rfl rfl rfl rfl ?_
  clear hS; intro W8 hS
  refine endF ?_
  refine XF.blkN ?_
  refine XF.thenN ?_
  refine seqF ?_
  refine regF ?_
  refine op_loadA (vs := [_, _, _, _, _, _]) Tryz.isAgg33 Tryz.sizeOf33 rfl (CellsAt.own (j := 0) (m := 6) (hS.at_ 0 rfl) rfl) rfl ?_
  refine op_storeA (i := 1) (vs := [_, _, _, _, _, _]) (cs' := [_, _, _, _, _, _]) (O' := [_, _, _, _, _]) hS Tryz.sizeOf33 rfl rfl rfl rfl rfl rfl rfl ?_
  clear hS; intro W9 hS
  refine endF ?_
  refine XF.thenN ?_
  refine retF ?_
  refine XF.res (resC1 (vs := [_, _, _, _, _, _]) Tryz.results57 Tryz.isAgg33 Tryz.sizeOf33 rfl (CellsAt.own (j := 0) (m := 6) (hS.at_ 1 rfl) rfl)) ?_
  exact ⟨pairF b9, rfl, (hn9.agree (hS.since 0 rfl)).mono hsz, hS.below⟩

theorem thenR_ok {S : PS} {sf : SF} {f g : WF} {x y : PX} {w : World} (hs : SIs w S sf) (hok : S.ok) (hx : XIs w S f x) (hy : XIs w S g y) : Calls Tryz.prog 57 #[sf.val, f.val, g.val] w (WRet S (extX S x y) w) := by
  cases S <;> cases x <;> cases y <;> first | exact hx.elim | exact hy.elim | skip
  · obtain ⟨a, c, rfl⟩ := hs
    exact thenR_plain _ _ _ _ _ _ _ _ _ hok hx hy
  · obtain ⟨b, off, c, a1, c1, a2, c2, rfl, h1, h2⟩ := hs
    obtain ⟨ra, ca, rc, cc, pc, fb, fo, f1, f2, rfl, h6, h7, h8, h9⟩ := hx.two
    obtain ⟨ra', ca', rc', cc', pc', gb, go, g1, g2, rfl, h6', h7', h8', h9'⟩ := hy.two
    exact thenR_pair _ _ _ _ _ _ _ _ _ _ _ _ h1 h2 hok.1 hok.2 _ _ _ _ _ _ _ _ _ _ _ h6 h7 h8 h9 _ _ _ _ _ _ _ _ _ _ _ h6' h7' h8' h9'
end Go.Proofs.YtjcminoaiieckaaGreatDoor
namespace Go.Proofs.YtjcminoaiieckaaGreatDoor
open Go Go.RowKit
set_option linter.unusedVariables false
def KeepsB (M : World → Prop) : Prop := ∀ W W', M W → Below W.heap.size W W' → M W'
def FarP (M : World → Prop) (t n : Int) (f : WF) (x : PF) : Prop := ∀ W, M W → PIs W t n f x
def FarX (M : World → Prop) : PS → WF → PX → Prop
  | .one t n, f, .one a => FarP M t n f a
  | .two t n u m, f, .two a b => f.pf = pC 0 ∧ f.rl = 0 ∧ f.cl = 0 ∧ f.pl = 2 ∧ ∃ blk off g h, f.pa = some ⟨blk, off, none⟩ ∧ (∀ W, M W → W6 W blk off g ∧ W6 W blk (off + 6) h) ∧ FarP M t n g a ∧ FarP M u m h b
  | _, _, _ => False
theorem FarX.is {M : World → Prop} {S : PS} {f : WF} {x : PX} {w : World} (h : FarX M S f x) (hM : M w) : XIs w S f x := by
  cases S <;> cases x <;> first | exact h.elim | exact (show FarP M _ _ f _ from h) w hM | skip
  obtain ⟨h1, h2, h3, h4, blk, off, g, k, h5, h6, h7, h8⟩ := h
  exact ⟨h1, h2, h3, h4, blk, off, g, k, h5, (h6 w hM).1, (h6 w hM).2, h7 w hM, h8 w hM⟩
theorem FarX.mono {M M' : World → Prop} {S : PS} {f : WF} {x : PX} (h : FarX M S f x) (hm : ∀ W, M' W → M W) : FarX M' S f x := by
  cases S <;> cases x <;> first | exact h.elim | exact (fun W hW => (show FarP M _ _ f _ from h) W (hm W hW)) | skip
  obtain ⟨h1, h2, h3, h4, blk, off, g, k, h5, h6, h7, h8⟩ := h
  exact ⟨h1, h2, h3, h4, blk, off, g, k, h5, fun W hW => h6 W (hm W hW), fun W hW => h7 W (hm W hW), fun W hW => h8 W (hm W hW)⟩
theorem XNew.far {lo : Nat} {A : World} {S : PS} {f : WF} {x : PX} (h : XNew lo A S f x) : FarX (fun W => Agree lo A W) S f x := by
  cases S <;> cases x <;> first | exact h.elim | exact (fun W hW => (PNew.agree h hW).is) | skip
  obtain ⟨h1, h2, h3, h4, blk, g, k, h5, h0, h6, h7, h8, h9⟩ := h
  exact ⟨h1, h2, h3, h4, blk, 0, g, k, h5, fun W hW => ⟨h6.agree h0 hW, h7.agree h0 hW⟩, fun W hW => (h8.agree hW).is, fun W hW => (h9.agree hW).is⟩
theorem XIs.far {w : World} {S : PS} {f : WF} {x : PX} (h : XIs w S f x) : FarX (fun W => Below w.heap.size w W) S f x := by
  cases S <;> cases x <;> first | exact h.elim | exact (fun W hW => PIs.below h hW) | skip
  obtain ⟨h1, h2, h3, h4, blk, off, g, k, h5, h6, h7, h8, h9⟩ := h
  exact ⟨h1, h2, h3, h4, blk, off, g, k, h5, fun W hW => ⟨h6.below hW, h7.below hW⟩, fun W hW => h8.below hW, fun W hW => h9.below hW⟩
def MRet (M : World → Prop) (S : PS) (x : PX) (w : World) (e : Ending) (w' : World) : Prop := ∃ f : WF, e = .returned f.val ∧ FarX (fun W => M W ∧ Agree w.heap.size w' W) S f x ∧ Below w.heap.size w w'
def isFar (M : World → Prop) (lo : Nat) (S : PS) (x : PX) : Asr := fun v w => ∃ f : WF, v = f.val ∧ FarX (fun W => M W ∧ Agree lo w W) S f x
theorem stab_isFar {M : World → Prop} {lo : Nat} {S : PS} {x : PX} : Stab (isFar M lo S x) := fun v w w' ⟨f, h1, h2⟩ hb => ⟨f, h1, h2.mono fun W hW => ⟨hW.1, (below_agree hb lo).trans hW.2⟩⟩
theorem mret_gives {P : Program} {f : FuncId} {vs : Array Value} {M : World → Prop} {w : World} {S : PS} {x : PX} {lo : Nat} (hlo : lo ≤ w.heap.size) (h : Calls P f vs w (MRet M S x w)) : Calls P f vs w (Gives (isFar M lo S x) w) := h.mono fun e w' ⟨f, he, hn, hb⟩ => ⟨f.val, he, ⟨f, rfl, hn.mono fun W hW => ⟨hW.1, hW.2.mono hlo⟩⟩, hb⟩
theorem mret_one {M : World → Prop} {w W : World} {t n : Int} {f : WF} {x : PF} (h : PNew w.heap.size W t n f x) (hb : Below w.heap.size w W) : MRet M (.one t n) (.one x) w (.returned f.val) W := ⟨f, rfl, fun W2 hW => (h.agree hW.2).is, hb⟩
section
variable {w W : World} {k : Nat} {n : Int} {f g : WF} {x y : PF}
theorem comb_f2R (hx : PIs w 2 n f x) (hy : PIs w 2 n g y) (hf : f.z = false) (hg : g.z = false) (p0 : 0 ≤ f.c) (p1 : f.c ≤ n) (q0 : 0 ≤ g.c) (q1 : g.c ≤ n) : PNew k W 2 n (costF (min f.c g.c)) (combP 2 n x y) := by
  obtain ⟨rfl, _, _⟩ := hx.k2 hf
  obtain ⟨rfl, _, _⟩ := hy.k2 hg
  rw [comb_2]
  exact new_cost (.cost _ rfl (by omega) (by omega))
theorem comb_f4C {m : Nat} {a : Option Addr} {cap : Nat} (hx : PIs w 4 m f x) (hy : PIs w 4 m g y) (hf : f.z = false) (hg : g.z = false) (hv : CRow W a (bothC f.cells g.cells)) (hl : ∀ ad, a = some ad → k ≤ ad.block) : PNew k W 4 m (cellsF a cap (bothC f.cells g.cells)) (combP 4 m x y) := by
  obtain ⟨hx', h0⟩ := hx.k4 hf
  obtain ⟨hy', h1⟩ := hy.k4 hg
  have hv2 := val_both h0 h1
  rw [hx', hy', comb_4]
  exact new_cells (.cells m _ rfl rfl hv2) hv2.bits (by have := hv2.le; have := hv2.len; unfold maxLen; omega) hv hl
end
def isFarRow (M : World → Prop) (lo : Nat) (S : PS) (x : PX) : Asr := fun v w => ∃ b, v = .slice (some ⟨b, 0, none⟩) 2 2 ∧ FarX (fun W => M W ∧ Agree lo w W) S (pairF b) x
theorem stab_isFarRow {M : World → Prop} {lo : Nat} {S : PS} {x : PX} : Stab (isFarRow M lo S x) := fun v w w' ⟨b, h1, h2⟩ hb => ⟨b, h1, h2.mono fun W hW => ⟨hW.1, (below_agree hb lo).trans hW.2⟩⟩
section
variable {n : Nat} {Q : Exit → Act → World → Prop} {l : Fr} {W : World} {ops : Array Oper} {L : List Asr} {i d : Nat} {ty : TypeId} {pos : String} {aft : Array Edge} {gd : Option (Nat × Bool)} {t k u m : Int} {x y : PF} {p q : Operand} {M : World → Prop}
theorem rg_farRow (hi : ops[i]? = some ⟨some d, .buildSlice 31 2 (List.toArray [(0, p), (1, q)]), ty, pos, aft, gd⟩) (hw : Wants ops L i ⟨some d, .buildSlice 31 2 (List.toArray [(0, p), (1, q)]), ty, pos, aft, gd⟩) (hp : AllP n ops l L i [p, q] [isFar M W.heap.size (.one t k) (.one x), isFar M W.heap.size (.one u m) (.one y)]) (hI : atI L i = isFarRow M W.heap.size (.two t k u m) (.two x y)) : RG Tryz.prog n ops Q l W L i :=
  rg_row [isFar M W.heap.size (.one t k) (.one x), isFar M W.heap.size (.one u m) (.one y)] hi hw Tryz.underlying31 Tryz.sizeOf33 Tryz.zeroValue33 rfl rfl hp fun vs w hb hh => by
    obtain ⟨v1, v2, rfl, ⟨f, rfl, hf⟩, g, rfl, hg⟩ := holds2 hh
    refine ⟨f.six ++ g.six, bs_31_2 _ _ _ _ _ _ _ _ _ _ _ _, fun B w' hB h1 h2 => ?_⟩
    rw [hI]
    rcases frow2 h1 with h | ⟨b, off, e, h3⟩
    · cases h
    · cases e
      have hlo : W.heap.size ≤ B := by rw [← hB]; exact hb.size
      exact ⟨B, rfl, rfl, rfl, rfl, rfl, B, 0, f, g, rfl, fun W2 hW => ⟨(h3 0 f rfl).agree hlo hW.2, (h3 1 g rfl).agree hlo hW.2⟩, fun W2 hW => (show FarP _ t k f x from hf) W2 ⟨hW.1, (below_agree h2 _).trans hW.2⟩, fun W2 hW => (show FarP _ u m g y from hg) W2 ⟨hW.1, (below_agree h2 _).trans hW.2⟩⟩
end
set_option maxRecDepth 100000 in
set_option maxHeartbeats 4000000 in
theorem eitherR_plain (M : World → Prop) (t n : Int) (sa : Option Addr) (sc : Nat) (f g : WF) (x y : PF) (w : World) (hp : plainB t n 0 = true) (hw : M w) (hfx : FarP M t n f x) (hfy : FarP M t n g y) :
    Calls Tryz.prog 54 #[.agg #[.int .i64 t, .int .i64 n, .slice sa 0 sc], f.val, g.val] w (MRet M (.one t n) (.one (combP t n x y)) w) := by
  have hx := hfx w hw
  have hy := hfy w hw
  refine enterF (args := [.agg #[.int .i64 t, .int .i64 n, .slice sa 0 sc], f.val, g.val]) Tryz.func54 rfl Tryz.ntmps54 rfl ?_
  have hS := St.start w
  refine seqF ?_
  refine regF ?_
  refine op_box (cs := [_, _, _]) hS rfl rfl rfl ?_
  clear hS; intro B1 W1 hS
  refine op_box (cs := [_, _, _, _, _, _]) hS rfl rfl rfl ?_
  clear hS; intro B2 W2 hS
  refine op_box (cs := [_, _, _, _, _, _]) hS rfl rfl rfl ?_
  clear hS; intro B3 W3 hS
  refine op_alloc (cs := [_, _, _, _, _, _]) hS Tryz.zeroValue33 rfl rfl ?_
  clear hS; intro B4 W4 hS
  refine endF ?_
  refine XF.thenN ?_
  refine seqF ?_
  refine seqF ?_
  refine regF ?_
  refine op_field (o' := 0) fa_33_0 rfl rfl rfl ?_
  refine op_load Tryz.isAgg4 rfl (cell_own (hS.at_ 2 rfl) rfl) rfl ?_
  refine endF ?_
  refine XF.thenN ?_
  refine condF rfl (fun hc => ?_) (fun hc => ?_)
  · have hc10 := hc; clear hc
    have hz := hc10
    refine seqF ?_
    refine regF ?_
    refine op_loadA (vs := [_, _, _, _, _, _]) Tryz.isAgg33 Tryz.sizeOf33 rfl (CellsAt.own (j := 0) (m := 6) (hS.at_ 1 rfl) rfl) rfl ?_
    refine op_storeA (i := 0) (vs := [_, _, _, _, _, _]) (cs' := [_, _, _, _, _, _]) (O' := [_, _, _, _]) hS Tryz.sizeOf33 rfl rfl rfl rfl rfl rfl rfl ?_
    clear hS; intro W5 hS
    refine endF ?_
    refine XF.thenN ?_
    refine retF ?_
    refine XF.thenR ?_
    refine XF.res (resC1 (vs := [_, _, _, _, _, _]) Tryz.results54 Tryz.isAgg33 Tryz.sizeOf33 rfl (CellsAt.own (j := 0) (m := 6) (hS.at_ 0 rfl) rfl)) ?_
    exact ⟨g, rfl, fun W hM => by rw [hx.zero hc10, comb_zl]; exact hfy W hM.1, hS.below⟩
  · have hc10 := hc; clear hc
    have hf := hc10
    refine skipF ?_
    refine XF.thenN ?_
    refine seqF ?_
    refine seqF ?_
    refine regF ?_
    refine op_field (o' := 0) fa_33_0 rfl rfl rfl ?_
    refine op_load Tryz.isAgg4 rfl (cell_own (hS.at_ 1 rfl) rfl) rfl ?_
    refine endF ?_
    refine XF.thenN ?_
    refine condF rfl (fun hc => ?_) (fun hc => ?_)
    · have hc13 := hc; clear hc
      refine seqF ?_
      refine regF ?_
      refine op_loadA (vs := [_, _, _, _, _, _]) Tryz.isAgg33 Tryz.sizeOf33 rfl (CellsAt.own (j := 0) (m := 6) (hS.at_ 2 rfl) rfl) rfl ?_
      refine op_storeA (i := 0) (vs := [_, _, _, _, _, _]) (cs' := [_, _, _, _, _, _]) (O' := [_, _, _, _]) hS Tryz.sizeOf33 rfl rfl rfl rfl rfl rfl rfl ?_
      clear hS; intro W6 hS
      refine endF ?_
      refine XF.thenN ?_
      refine retF ?_
      refine XF.thenR ?_
      refine XF.res (resC1 (vs := [_, _, _, _, _, _]) Tryz.results54 Tryz.isAgg33 Tryz.sizeOf33 rfl (CellsAt.own (j := 0) (m := 6) (hS.at_ 0 rfl) rfl)) ?_
      exact ⟨f, rfl, fun W hM => by rw [hy.zero hc13, comb_zr hx.ok]; exact hfx W hM.1, hS.below⟩
    · have hc13 := hc; clear hc
      have hg := hc13
      refine skipF ?_
      refine XF.thenN ?_
      refine seqF ?_
      refine regF ?_
      refine op_build (us := []) rfl (bld_33) rfl ?_
      refine op_alloc (cs := [_, _, _, _, _, _]) hS Tryz.zeroValue33 rfl rfl ?_
      clear hS; intro B7 W7 hS
      refine op_storeA (i := 0) (vs := [_, _, _, _, _, _]) (cs' := [_, _, _, _, _, _]) (O' := [_, _, _, _, _]) hS Tryz.sizeOf33 rfl rfl rfl rfl rfl rfl rfl ?_
      clear hS; intro W8 hS
      refine endF ?_
      refine XF.thenN ?_
      refine seqF ?_
      refine seqF ?_
      refine regF ?_
      refine op_field (o' := 0) fa_25_0 rfl rfl rfl ?_
      refine op_load Tryz.isAgg22 rfl (cell_own (hS.at_ 4 rfl) rfl) rfl ?_
      refine endF ?_
      refine XF.thenN ?_
      refine blockF ?_
      refine seqF ?_
      refine regF ?_
      refine op_eql rfl rfl rfl ?_
      refine op_assign rfl rfl ?_
      refine endF ?_
      refine XF.thenN ?_
      refine condF rfl (fun hc => ?_) (fun hc => ?_)
      · have hc18 := of_decide_eq_true hc; clear hc
        have e2 : t = 2 := hc18
        subst e2
        obtain ⟨_, p0, p1⟩ := hx.k2 hf
        obtain ⟨_, q0, q1⟩ := hy.k2 hg
        refine regF ?_
        refine op_field (o' := 1) fa_33_1 rfl rfl rfl ?_
        refine op_load Tryz.isAgg3 rfl (cell_own (hS.at_ 3 rfl) rfl) rfl ?_
        refine op_field (o' := 1) fa_33_1 rfl rfl rfl ?_
        refine op_load Tryz.isAgg3 rfl (cell_own (hS.at_ 2 rfl) rfl) rfl ?_
        refine op_min rfl rfl rfl ?_
        refine op_field (o' := 1) fa_33_1 rfl rfl rfl ?_
        refine op_store (i := 0) (cs' := [_, _, _, _, _, _]) (O' := [_, _, _, _, _]) hS Tryz.sizeOf3 rfl rfl rfl rfl rfl rfl rfl ?_
        clear hS; intro W9 hS
        refine endF ?_
        refine XF.blkN ?_
        refine XF.thenN ?_
        refine seqF ?_
        refine regF ?_
        refine op_loadA (vs := [_, _, _, _, _, _]) Tryz.isAgg33 Tryz.sizeOf33 rfl (CellsAt.own (j := 0) (m := 6) (hS.at_ 0 rfl) rfl) rfl ?_
        refine op_storeA (i := 1) (vs := [_, _, _, _, _, _]) (cs' := [_, _, _, _, _, _]) (O' := [_, _, _, _, _]) hS Tryz.sizeOf33 rfl rfl rfl rfl rfl rfl rfl ?_
        clear hS; intro W10 hS
        refine endF ?_
        refine XF.thenN ?_
        refine retF ?_
        refine XF.res (resC1 (vs := [_, _, _, _, _, _]) Tryz.results54 Tryz.isAgg33 Tryz.sizeOf33 rfl (CellsAt.own (j := 0) (m := 6) (hS.at_ 1 rfl) rfl)) ?_
        exact mret_one (comb_f2R hx hy hf hg p0 p1 q0 q1) hS.below
      · have hc18 := of_decide_eq_false hc; clear hc
        refine seqF ?_
        refine regF ?_
        refine op_eql rfl rfl rfl ?_
        refine op_assign rfl rfl ?_
        refine endF ?_
        refine XF.thenN ?_
        refine condF rfl (fun hc => ?_) (fun hc => ?_)
        · have hc26 := of_decide_eq_true hc; clear hc
          have e3 : t = 3 := hc26
          subst e3
          obtain ⟨m, rfl, hm⟩ := dim3 hp (.inl rfl)
          refine regF ?_
          refine op_field (o' := 1) fa_25_1 rfl rfl rfl ?_
          refine op_load Tryz.isAgg3 rfl (cell_own (hS.at_ 4 rfl) rfl) rfl ?_
          refine op_field (o' := 2) fa_33_2 rfl rfl rfl ?_
          refine op_loadA (vs := [_, _]) Tryz.isAgg29 Tryz.sizeOf29 rfl (CellsAt.own (j := 2) (m := 2) (hS.at_ 3 rfl) rfl) rfl ?_
          refine op_field (o' := 2) fa_33_2 rfl rfl rfl ?_
          refine op_loadA (vs := [_, _]) Tryz.isAgg29 Tryz.sizeOf29 rfl (CellsAt.own (j := 2) (m := 2) (hS.at_ 2 rfl) rfl) rfl ?_
          have hsz := hS.below.size
          refine op_call (vs := [_, _, _]) hS goes_80 rfl (combR_is _ _ _ _ _ _ _ _ _ _ (hx.at_.fat (by have := hx.rows64 (l := 0); omega) |>.below hS.below) (hy.at_.fat (by have := hy.rows64 (l := 0); omega) |>.below hS.below) _ rfl _ rfl _ rfl _ _ hx.at_.rl hy.at_.rl) rfl ?_
          rintro e W11 ⟨a1, c1, rfl, hv, hl, hb⟩
          refine ⟨_, rfl, hb, fun hS' => ?_⟩
          clear hS; have hS := hS'; clear hS'
          refine op_move rfl rfl ?_
          refine op_extract rfl rfl rfl ?_
          refine op_extract rfl rfl rfl ?_
          refine op_field (o' := 2) fa_33_2 rfl rfl rfl ?_
          refine op_storeA (i := 0) (vs := [_, _]) (cs' := [_, _, _, _, _, _]) (O' := [_, _, _, _, _]) hS Tryz.sizeOf29 rfl rfl rfl rfl rfl rfl rfl ?_
          clear hS; intro W12 hS
          refine endF ?_
          refine XF.blkN ?_
          refine XF.thenN ?_
          refine seqF ?_
          refine regF ?_
          refine op_loadA (vs := [_, _, _, _, _, _]) Tryz.isAgg33 Tryz.sizeOf33 rfl (CellsAt.own (j := 0) (m := 6) (hS.at_ 0 rfl) rfl) rfl ?_
          refine op_storeA (i := 1) (vs := [_, _, _, _, _, _]) (cs' := [_, _, _, _, _, _]) (O' := [_, _, _, _, _]) hS Tryz.sizeOf33 rfl rfl rfl rfl rfl rfl rfl ?_
          clear hS; intro W13 hS
          refine endF ?_
          refine XF.thenN ?_
          refine retF ?_
          refine XF.res (resC1 (vs := [_, _, _, _, _, _]) Tryz.results54 Tryz.isAgg33 Tryz.sizeOf33 rfl (CellsAt.own (j := 0) (m := 6) (hS.at_ 1 rfl) rfl)) ?_
          exact mret_one (comb_f3 hx hy hf hg (hv.agree (fun ad e => (hl ad e).1) (hS.since 0 rfl)) (fun ad e => Nat.le_trans hsz (hl ad e).1)) hS.below
        · have hc26 := of_decide_eq_false hc; clear hc
          refine seqF ?_
          refine regF ?_
          refine op_eql rfl rfl rfl ?_
          refine op_assign rfl rfl ?_
          refine endF ?_
          refine XF.thenN ?_
          refine condF rfl (fun hc => ?_) (fun hc => ?_)
          · have hc39 := of_decide_eq_true hc; clear hc
            have e4 : t = 4 := hc39
            subst e4
            obtain ⟨m, rfl, hm⟩ := dim3 hp (.inr rfl)
            obtain ⟨hpx, vx⟩ := hx.k4 hf
            obtain ⟨hpy, vy⟩ := hy.k4 hg
            refine seqF ?_
            refine regF ?_
            refine op_assign rfl rfl ?_
            refine endF ?_
            refine XF.thenN ?_
            refine blockF ?_
            refine loopF (fun q l W => ∃ (k : Nat) (v : Value), k ≤ m ∧ q = m - k ∧ l = [(3, .pointer (some ⟨B1, 0, none⟩)), (4, .pointer (some ⟨B2, 0, none⟩)), (5, .pointer (some ⟨B3, 0, none⟩)), (6, .pointer (some ⟨B4, 0, none⟩)), (7, .pointer (some ⟨B7, 0, none⟩)), (8, .int .i64 (k : Int))] ∧ St w [(B7, [.bool false, .int .i64 0, .int .u64 0, .slice none 0 0, v, .slice none 0 0], 33), (B4, [.bool false, .int .i64 0, .int .u64 0, .slice none 0 0, .slice none 0 0, .slice none 0 0], 33), (B3, [.bool g.z, .int .i64 g.c, .int .u64 (g.g : Int), .slice g.ra g.rl g.rc, .slice g.ca g.cl g.cc, .slice g.pa g.pl g.pc], 33), (B2, [.bool f.z, .int .i64 f.c, .int .u64 (f.g : Int), .slice f.ra f.rl f.rc, .slice f.ca f.cl f.cc, .slice f.pa f.pl f.pc], 33), (B1, [.int .i64 4, .int .i64 (m : Int), .slice sa 0 sc], 25)] [⟨v, k, flat ((bothC f.cells g.cells).take k), 73, 3⟩] [] W) (m - 0) ([(3, _), (4, _), (5, _), (6, _), (7, _), (8, _)]) ⟨rfl, rfl, rfl, rfl, rfl, rfl, trivial⟩ (⟨0, .slice none 0 0, Nat.zero_le _, rfl, rfl, hS.clear.newG _ _⟩) ?_
            clear hS
            rintro q l W ⟨k, v, hkm, rfl, rfl, hS⟩
            refine seqF ?_
            refine seqF ?_
            refine regF ?_
            refine op_move rfl rfl ?_
            refine op_field (o' := 1) fa_25_1 rfl rfl rfl ?_
            refine op_load Tryz.isAgg3 rfl (cell_own (hS.at_ 4 rfl) rfl) rfl ?_
            refine op_lss rfl rfl rfl ?_
            refine endF ?_
            refine XF.thenN ?_
            refine condF rfl (fun hc => ?_) (fun hc => ?_)
            · have hc44 := of_decide_eq_true hc; clear hc
              have hk : k < m := by omega
              have hlx := vx.len
              have hly := vy.len
              obtain ⟨bx, offx, x1, ecx, hx1, hbx, c0, c1, c2⟩ := (hx.at_.cells.below hS.below).at_ (k := k) (by omega)
              obtain ⟨ba, offa, y1, eca, hy1, hba, a0, a1, a2⟩ := (hy.at_.cells.below hS.below).at_ (k := k) (by omega)
              have k0 : CellsAt W bx (offx + k * 3) [.int .u64 (x1.f : Int), .int .i64 x1.k, .int .i64 x1.v] := ⟨c0, c1, c2, trivial⟩
              have k1 : CellsAt W ba (offa + k * 3) [.int .u64 (y1.f : Int), .int .i64 y1.k, .int .i64 y1.v] := ⟨a0, a1, a2, trivial⟩
              have h1 : (bothC f.cells g.cells)[k]? = some (join x1 y1) := by unfold bothC; rw [List.getElem?_zipWith, hx1, hy1]
              have hcl := hx.at_.cl
              have hclg := hy.at_.cl
              simp only [ecx, eca] at hS
              refine skipF ?_
              refine XF.thenN ?_
              refine seqF ?_
              refine blockF ?_
              refine regBP (p := 14) (k := 16) (gi := 0) (m := 1) followsM hS rfl rfl (by kernel_rfl) (by kernel_rfl) (by kernel_rfl) (fun d hd => by cases hd) rfl rfl Tryz.underlying30 inf_73 rfl rfl (by show 0 < 3; decide) rfl rfl rfl (by dsimp only; simp only [maxLen]; omega) (by dsimp only; show _ * 24 ≤ _; omega) ?_
              refine blp_v 1 rfl rfl (by kernel_rfl) (rgV (li := [(7, _)]) rfl (w_free rfl) ⟨g_fr (by kernel_rfl) rfl, trivial⟩ (fun w hw => rn_field (o' := 4) fa_33_3 rfl rfl) (at_top rfl)) ?_
              refine blp_v 2 rfl rfl (by kernel_rfl) (rgV (li := [(47, _)]) rfl (w_free rfl) ⟨g_dep 0 (by kernel_rfl) (at_dep rfl rfl rfl), trivial⟩ (fun w hw => rn_load Tryz.isAgg30 rfl ((below_agree hw 0).cell (Nat.zero_le _) (cell_own (hS.at_ 0 rfl) rfl))) (at_top rfl)) ?_
              refine blp_v 3 rfl rfl (by kernel_rfl) (rgV (li := [(4, _)]) rfl (w_free rfl) ⟨g_fr (by kernel_rfl) rfl, trivial⟩ (fun w hw => rn_field (o' := 4) fa_33_3 rfl rfl) (at_top rfl)) ?_
              refine blp_v 4 rfl rfl (by kernel_rfl) (rgV (li := [(49, _)]) rfl (w_free rfl) ⟨g_dep 2 (by kernel_rfl) (at_dep rfl rfl rfl), trivial⟩ (fun w hw => rn_load Tryz.isAgg30 rfl ((below_agree hw 0).cell (Nat.zero_le _) (cell_own (hS.at_ 3 rfl) rfl))) (at_top rfl)) ?_
              refine blp_v 5 rfl rfl (by kernel_rfl) (rgV (li := [(8, _)]) rfl (w_free rfl) ⟨g_fr (by kernel_rfl) rfl, trivial⟩ (fun w hw => rn_move rfl) (at_top rfl)) ?_
              refine blp_v 6 rfl rfl (by kernel_rfl) (rgV (li := [(50, _), (51, _)]) rfl (w_free rfl) ⟨g_dep 3 (by kernel_rfl) (at_dep rfl rfl rfl), g_dep 4 (by kernel_rfl) (at_dep rfl rfl rfl), trivial⟩ (fun w hw => rn_indexA  Tryz.underlying30 Tryz.sizeOf73 rfl rfl rfl (by omega) rfl) (at_top rfl)) ?_
              refine blp_v 7 rfl rfl (by kernel_rfl) (rgV (li := [(52, _)]) rfl (w_free rfl) ⟨g_dep 5 (by kernel_rfl) (at_dep rfl rfl rfl), trivial⟩ (fun w hw => rn_loadA (vs := [_, _, _]) Tryz.isAgg73 Tryz.sizeOf73 rfl (CellsAt.agree (below_agree hw 0) (Nat.zero_le _) (by assumption))) (at_top rfl)) ?_
              refine blp_v 8 rfl rfl (by kernel_rfl) (rgV (li := [(5, _)]) rfl (w_free rfl) ⟨g_fr (by kernel_rfl) rfl, trivial⟩ (fun w hw => rn_field (o' := 4) fa_33_3 rfl rfl) (at_top rfl)) ?_
              refine blp_v 9 rfl rfl (by kernel_rfl) (rgV (li := [(54, _)]) rfl (w_free rfl) ⟨g_dep 7 (by kernel_rfl) (at_dep rfl rfl rfl), trivial⟩ (fun w hw => rn_load Tryz.isAgg30 rfl ((below_agree hw 0).cell (Nat.zero_le _) (cell_own (hS.at_ 2 rfl) rfl))) (at_top rfl)) ?_
              refine blp_v 10 rfl rfl (by kernel_rfl) (rgV (li := [(8, _)]) rfl (w_free rfl) ⟨g_fr (by kernel_rfl) rfl, trivial⟩ (fun w hw => rn_move rfl) (at_top rfl)) ?_
              refine blp_v 11 rfl rfl (by kernel_rfl) (rgV (li := [(55, _), (56, _)]) rfl (w_free rfl) ⟨g_dep 8 (by kernel_rfl) (at_dep rfl rfl rfl), g_dep 9 (by kernel_rfl) (at_dep rfl rfl rfl), trivial⟩ (fun w hw => rn_indexA  Tryz.underlying30 Tryz.sizeOf73 rfl rfl rfl (by omega) rfl) (at_top rfl)) ?_
              refine blp_v 12 rfl rfl (by kernel_rfl) (rgV (li := [(57, _)]) rfl (w_free rfl) ⟨g_dep 10 (by kernel_rfl) (at_dep rfl rfl rfl), trivial⟩ (fun w hw => rn_loadA (vs := [_, _, _]) Tryz.isAgg73 Tryz.sizeOf73 rfl (CellsAt.agree (below_agree hw 0) (Nat.zero_le _) (by assumption))) (at_top rfl)) ?_
              refine blp_v 13 rfl rfl (by kernel_rfl) (rg_call [isV _, isV _] rfl goes_81 (w_free rfl) ⟨p_tmp (g_dep 6 (by kernel_rfl) (at_dep rfl rfl rfl)), p_tmp (g_dep 11 (by kernel_rfl) (at_dep rfl rfl rfl)), trivial⟩ (fun vs w' hb hh => by have e := holds_isV (us := [_, _]) hh; subst e; exact (jn_any x1 y1 (vx.oks k x1 hx1) (vy.oks k y1 hy1) _).mono fun e w2 h => ⟨_, h.1, rfl, h.2⟩) (at_top rfl)) ?_
              refine blp_q 14 rfl rfl (by kernel_rfl) (isRow W.heap.size 1 73 _) (stab_isRow) (rg_rowV (us := [.agg (List.toArray [_, _, _])]) rfl (w_free rfl) Tryz.underlying30 Tryz.sizeOf73 Tryz.zeroValue73 rfl rfl ⟨p_tmp (g_dep 12 (by kernel_rfl) (at_dep rfl rfl rfl)), trivial⟩ (bs_30_1 _ _ _) (at_top rfl)) ?_
              refine blp_app 15 rfl rfl ?_
              refine blp_late 16 rfl rfl (rgV (li := [(7, _)]) rfl (w_free rfl) ⟨g_fr (by kernel_rfl) rfl, trivial⟩ (fun w hw => rn_field (o' := 4) fa_33_3 rfl rfl) (at_top rfl)) (lgV (li := [(7, _)]) rfl (w_free rfl) ⟨g_fr (by kernel_rfl) rfl, trivial⟩ (fun w => rn_field (o' := 4) fa_33_3 rfl rfl) (at_top rfl) rfl) ?_
              refine blp_nil ⟨_, _, g_dep 1 (by kernel_rfl) (at_dep rfl rfl rfl), g_dep 13 (by kernel_rfl) (at_dep rfl rfl rfl), rowOf_isRow rfl rfl, ?_⟩
              intro A14 v14 news14 W14 hbR hqA14 hS'
              clear hS; have hS := hS'; clear hS'
              cases hqA14
              refine fin_v ?_
              refine fin_v ?_
              refine fin_v ?_
              refine fin_v ?_
              refine fin_v ?_
              refine fin_v ?_
              refine fin_v ?_
              refine fin_v ?_
              refine fin_v ?_
              refine fin_v ?_
              refine fin_v ?_
              refine fin_v ?_
              refine fin_v ?_
              refine fin_p ?_; intro _ _
              refine fin_v ?_
              refine fin_v ?_
              obtain ⟨g9, c9, e9, _, _⟩ := (hS.row 0 rfl).form (by show 0 < k + 1; omega)
              dsimp only at e9
              subst e9
              refine fin_nil ?_
              refine op_store (i := 0) (cs' := [_, _, _, _, _, _]) (O' := [_, _, _, _, _]) hS Tryz.sizeOf30 rfl rfl rfl rfl rfl rfl rfl ?_
              clear hS; intro W15 hS
              refine endF ?_
              refine XF.blkN ?_
              refine XF.thenN ?_
              refine regF ?_
              refine op_move rfl rfl ?_
              refine op_add rfl rfl (IntWalk.i64_in _ (by omega)) rfl ?_
              refine op_assign rfl rfl ?_
              refine endF ?_
              simp only [← ecx, ← eca] at hS
              exact XF.round (m - (k + 1)) [(3, _), (4, _), (5, _), (6, _), (7, _), (8, _)] (by omega) ⟨rfl, rfl, rfl, rfl, rfl, rfl, trivial⟩ ⟨k + 1, _, by omega, rfl, rfl, by rw [flat_step h1]; exact hS.clear⟩
            · have hc44 := of_decide_eq_false hc; clear hc
              refine exitF ?_
              refine XF.thenX ?_
              refine XF.thenX ?_
              refine XF.blkX ?_
              refine XF.blkN ?_
              refine XF.thenN ?_
              refine seqF ?_
              obtain rfl : k = m := by omega
              have hrow := hS.row 0 rfl
              have hln : (bothC f.cells g.cells).length = k := by unfold bothC; rw [List.length_zipWith, vx.len, vy.len, Nat.min_self]
              have ht0 : (bothC f.cells g.cells).take k = bothC f.cells g.cells := List.take_of_length_le (by rw [hln]; exact Nat.le_refl _)
              simp only [ht0] at hrow
              obtain ⟨hn, a9, c9, rfl, _, _⟩ := crow_of_own hrow
              clear hrow
              refine regF ?_
              refine op_loadA (vs := [_, _, _, _, _, _]) Tryz.isAgg33 Tryz.sizeOf33 rfl (CellsAt.own (j := 0) (m := 6) (hS.at_ 0 rfl) rfl) rfl ?_
              refine op_storeA (i := 1) (vs := [_, _, _, _, _, _]) (cs' := [_, _, _, _, _, _]) (O' := [_, _, _, _, _]) hS Tryz.sizeOf33 rfl rfl rfl rfl rfl rfl rfl ?_
              clear hS; intro W16 hS
              refine endF ?_
              refine XF.thenN ?_
              refine retF ?_
              refine XF.res (resC1 (vs := [_, _, _, _, _, _]) Tryz.results54 Tryz.isAgg33 Tryz.sizeOf33 rfl (CellsAt.own (j := 0) (m := 6) (hS.at_ 1 rfl) rfl)) ?_
              have hrow := hS.row 0 rfl
              simp only [ht0] at hrow
              obtain ⟨_, a8, c8, e8, hr9, hf9⟩ := crow_of_own hrow
              cases e8
              refine ⟨cellsF a9 c9 (bothC f.cells g.cells), ?_, fun W2 hW => ((comb_f4C (k := w.heap.size) hx hy hf hg hr9 (fun ad e => (hf9 ad e).1)).agree hW.2).is, hS.below⟩
              show _ = Ending.returned (Value.agg #[.bool false, .int .i64 0, .int .u64 ((0 : Nat) : Int), .slice none 0 0, .slice a9 (bothC f.cells g.cells).length c9, .slice none 0 0])
              rw [hln]
              rfl
          · have hc39 := of_decide_eq_false hc; clear hc
            refine seqF ?_
            refine regF ?_
            refine op_eql rfl rfl rfl ?_
            refine op_assign rfl rfl ?_
            refine endF ?_
            refine XF.thenN ?_
            refine condF rfl (fun hc => absurd (of_decide_eq_true hc) (by exact plain_ne5 hp)) (fun hc => ?_)
            have hc := of_decide_eq_false hc
            refine skipF ?_
            refine XF.blkN ?_
            refine XF.thenN ?_
            refine seqF ?_
            refine regF ?_
            refine op_loadA (vs := [_, _, _, _, _, _]) Tryz.isAgg33 Tryz.sizeOf33 rfl (CellsAt.own (j := 0) (m := 6) (hS.at_ 0 rfl) rfl) rfl ?_
            refine op_storeA (i := 1) (vs := [_, _, _, _, _, _]) (cs' := [_, _, _, _, _, _]) (O' := [_, _, _, _, _]) hS Tryz.sizeOf33 rfl rfl rfl rfl rfl rfl rfl ?_
            clear hS; intro W17 hS
            refine endF ?_
            refine XF.thenN ?_
            refine retF ?_
            refine XF.res (resC1 (vs := [_, _, _, _, _, _]) Tryz.results54 Tryz.isAgg33 Tryz.sizeOf33 rfl (CellsAt.own (j := 0) (m := 6) (hS.at_ 1 rfl) rfl)) ?_
            have e1 : t = 1 := by
              have := (plainB_tag hp).2
              omega
            subst e1
            exact mret_one (comb_f1 hx hy hf hg) hS.below

set_option maxRecDepth 100000 in
set_option maxHeartbeats 4000000 in
theorem eitherR_pair (M : World → Prop) (hM : KeepsB M) (t n u m : Int) (a1 a2 : Option Addr) (c1 c2 b off sc : Nat) (w : World) (hs1 : S3 w b off ⟨t, n, a1, 0, c1⟩) (hs2 : S3 w b (off + 3) ⟨u, m, a2, 0, c2⟩) (hp1 : plainB t n 0 = true) (hp2 : plainB u m 0 = true)(fra fca : Option Addr) (frc fcc fpc fb fo : Nat) (f1 f2 : WF) (x1 x2 : PF) (hf6 : W6 w fb fo f1) (hf7 : W6 w fb (fo + 6) f2) (hx1 : FarP M t n f1 x1) (hx2 : FarP M u m f2 x2)(gra gca : Option Addr) (grc gcc gpc gb go : Nat) (g1 g2 : WF) (y1 y2 : PF) (hg6 : W6 w gb go g1) (hg7 : W6 w gb (go + 6) g2) (hy1 : FarP M t n g1 y1) (hy2 : FarP M u m g2 y2) (hw : M w) :
    Calls Tryz.prog 54 #[.agg #[.int .i64 5, .int .i64 0, .slice (some ⟨b, off, none⟩) 2 sc], .agg #[.bool false, .int .i64 0, .int .u64 0, .slice fra 0 frc, .slice fca 0 fcc, .slice (some ⟨fb, fo, none⟩) 2 fpc], .agg #[.bool false, .int .i64 0, .int .u64 0, .slice gra 0 grc, .slice gca 0 gcc, .slice (some ⟨gb, go, none⟩) 2 gpc]] w (MRet M (.two t n u m) (.two (combP t n x1 y1) (combP u m x2 y2)) w) := by
  refine enterF (args := [.agg #[.int .i64 5, .int .i64 0, .slice (some ⟨b, off, none⟩) 2 sc], .agg #[.bool false, .int .i64 0, .int .u64 0, .slice fra 0 frc, .slice fca 0 fcc, .slice (some ⟨fb, fo, none⟩) 2 fpc], .agg #[.bool false, .int .i64 0, .int .u64 0, .slice gra 0 grc, .slice gca 0 gcc, .slice (some ⟨gb, go, none⟩) 2 gpc]]) Tryz.func54 rfl Tryz.ntmps54 rfl ?_
  have hS := St.start w
  refine seqF ?_
  refine regF ?_
  refine op_box (cs := [_, _, _]) hS rfl rfl rfl ?_
  clear hS; intro B1 W1 hS
  refine op_box (cs := [_, _, _, _, _, _]) hS rfl rfl rfl ?_
  clear hS; intro B2 W2 hS
  refine op_box (cs := [_, _, _, _, _, _]) hS rfl rfl rfl ?_
  clear hS; intro B3 W3 hS
  refine op_alloc (cs := [_, _, _, _, _, _]) hS Tryz.zeroValue33 rfl rfl ?_
  clear hS; intro B4 W4 hS
  refine endF ?_
  refine XF.thenN ?_
  refine seqF ?_
  refine seqF ?_
  refine regF ?_
  refine op_field (o' := 0) fa_33_0 rfl rfl rfl ?_
  refine op_load Tryz.isAgg4 rfl (cell_own (hS.at_ 2 rfl) rfl) rfl ?_
  refine endF ?_
  refine XF.thenN ?_
  refine condF rfl (fun hc => absurd hc (by decide)) (fun hc => ?_)
  skip
  refine skipF ?_
  refine XF.thenN ?_
  refine seqF ?_
  refine seqF ?_
  refine regF ?_
  refine op_field (o' := 0) fa_33_0 rfl rfl rfl ?_
  refine op_load Tryz.isAgg4 rfl (cell_own (hS.at_ 1 rfl) rfl) rfl ?_
  refine endF ?_
  refine XF.thenN ?_
  refine condF rfl (fun hc => absurd hc (by decide)) (fun hc => ?_)
  skip
  refine skipF ?_
  refine XF.thenN ?_
  refine seqF ?_
  refine regF ?_
  refine op_build (us := []) rfl (bld_33) rfl ?_
  refine op_alloc (cs := [_, _, _, _, _, _]) hS Tryz.zeroValue33 rfl rfl ?_
  clear hS; intro B5 W5 hS
  refine op_storeA (i := 0) (vs := [_, _, _, _, _, _]) (cs' := [_, _, _, _, _, _]) (O' := [_, _, _, _, _]) hS Tryz.sizeOf33 rfl rfl rfl rfl rfl rfl rfl ?_
  clear hS; intro W6 hS
  refine endF ?_
  refine XF.thenN ?_
  refine seqF ?_
  refine seqF ?_
  refine regF ?_
  refine op_field (o' := 0) fa_25_0 rfl rfl rfl ?_
  refine op_load Tryz.isAgg22 rfl (cell_own (hS.at_ 4 rfl) rfl) rfl ?_
  refine endF ?_
  refine XF.thenN ?_
  refine blockF ?_
  refine seqF ?_
  refine regF ?_
  refine op_eql rfl rfl rfl ?_
  refine op_assign rfl rfl ?_
  refine endF ?_
  refine XF.thenN ?_
  refine condF rfl (fun hc => absurd (of_decide_eq_true hc) (by omega)) (fun hc => ?_)
  have hc := of_decide_eq_false hc
  refine seqF ?_
  refine regF ?_
  refine op_eql rfl rfl rfl ?_
  refine op_assign rfl rfl ?_
  refine endF ?_
  refine XF.thenN ?_
  refine condF rfl (fun hc => absurd (of_decide_eq_true hc) (by omega)) (fun hc => ?_)
  have hc := of_decide_eq_false hc
  refine seqF ?_
  refine regF ?_
  refine op_eql rfl rfl rfl ?_
  refine op_assign rfl rfl ?_
  refine endF ?_
  refine XF.thenN ?_
  refine condF rfl (fun hc => absurd (of_decide_eq_true hc) (by omega)) (fun hc => ?_)
  have hc := of_decide_eq_false hc
  refine seqF ?_
  refine regF ?_
  refine op_eql rfl rfl rfl ?_
  refine op_assign rfl rfl ?_
  refine endF ?_
  refine XF.thenN ?_
  refine condF rfl (fun hc => ?_) (fun hc => absurd (of_decide_eq_false hc) (by omega))
  have hc := of_decide_eq_true hc
  have hsz := hS.below.size
  have k1 := CellsAt.agree hS.agree (Nat.zero_le _) hs1.cells
  have k2 := CellsAt.agree hS.agree (Nat.zero_le _) hs2.cells
  have kf1 := CellsAt.agree hS.agree (Nat.zero_le _) hf6.cells
  have kf2 := CellsAt.agree hS.agree (Nat.zero_le _) hf7.cells
  have kg1 := CellsAt.agree hS.agree (Nat.zero_le _) hg6.cells
  have kg2 := CellsAt.agree hS.agree (Nat.zero_le _) hg7.cells
  refine regBK followsM 28 hS rfl rfl (by kernel_rfl) (by kernel_rfl) (by kernel_rfl) (fun d hd => by cases hd) ?_
  refine bl_cons 1 rfl (isV _) (stab_isV _) (rgV (li := [(3, _)]) rfl (w_free rfl) ⟨g_fr (by kernel_rfl) rfl, trivial⟩ (fun w hw => rn_field (o' := 2) fa_25_2 rfl rfl) (at_top rfl)) ?_
  refine bl_cons 2 rfl (isV _) (stab_isV _) (rgV (li := [(65, _)]) rfl (w_free rfl) ⟨g_dep 0 (by kernel_rfl) (at_dep rfl rfl rfl), trivial⟩ (fun w hw => rn_load Tryz.isAgg23 rfl ((below_agree hw 0).cell (Nat.zero_le _) (cell_own (hS.at_ 4 rfl) rfl))) (at_top rfl)) ?_
  refine bl_cons 3 rfl (isV _) (stab_isV _) (rgV (li := [(66, _)]) rfl (w_free rfl) ⟨g_dep 1 (by kernel_rfl) (at_dep rfl rfl rfl), trivial⟩ (fun w hw => rn_indexA (j := 0) Tryz.underlying23 Tryz.sizeOf25 rfl rfl rfl (by omega) (Nat.add_zero _)) (at_top rfl)) ?_
  refine bl_cons 4 rfl (isV _) (stab_isV _) (rgV (li := [(67, _)]) rfl (w_free rfl) ⟨g_dep 2 (by kernel_rfl) (at_dep rfl rfl rfl), trivial⟩ (fun w hw => rn_loadA (vs := [_, _, _]) Tryz.isAgg25 Tryz.sizeOf25 rfl (CellsAt.agree (below_agree hw 0) (Nat.zero_le _) (by assumption))) (at_top rfl)) ?_
  refine bl_cons 5 rfl (isV _) (stab_isV _) (rgV (li := [(4, _)]) rfl (w_free rfl) ⟨g_fr (by kernel_rfl) rfl, trivial⟩ (fun w hw => rn_field (o' := 5) fa_33_4 rfl rfl) (at_top rfl)) ?_
  refine bl_cons 6 rfl (isV _) (stab_isV _) (rgV (li := [(69, _)]) rfl (w_free rfl) ⟨g_dep 4 (by kernel_rfl) (at_dep rfl rfl rfl), trivial⟩ (fun w hw => rn_load Tryz.isAgg31 rfl ((below_agree hw 0).cell (Nat.zero_le _) (cell_own (hS.at_ 3 rfl) rfl))) (at_top rfl)) ?_
  refine bl_cons 7 rfl (isV _) (stab_isV _) (rgV (li := [(70, _)]) rfl (w_free rfl) ⟨g_dep 5 (by kernel_rfl) (at_dep rfl rfl rfl), trivial⟩ (fun w hw => rn_indexA (j := 0) Tryz.underlying31 Tryz.sizeOf33 rfl rfl rfl (by omega) (Nat.add_zero _)) (at_top rfl)) ?_
  refine bl_cons 8 rfl (isV _) (stab_isV _) (rgV (li := [(71, _)]) rfl (w_free rfl) ⟨g_dep 6 (by kernel_rfl) (at_dep rfl rfl rfl), trivial⟩ (fun w hw => rn_loadA (vs := [_, _, _, _, _, _]) Tryz.isAgg33 Tryz.sizeOf33 rfl (CellsAt.agree (below_agree hw 0) (Nat.zero_le _) (by assumption))) (at_top rfl)) ?_
  refine bl_cons 9 rfl (isV _) (stab_isV _) (rgV (li := [(5, _)]) rfl (w_free rfl) ⟨g_fr (by kernel_rfl) rfl, trivial⟩ (fun w hw => rn_field (o' := 5) fa_33_4 rfl rfl) (at_top rfl)) ?_
  refine bl_cons 10 rfl (isV _) (stab_isV _) (rgV (li := [(73, _)]) rfl (w_free rfl) ⟨g_dep 8 (by kernel_rfl) (at_dep rfl rfl rfl), trivial⟩ (fun w hw => rn_load Tryz.isAgg31 rfl ((below_agree hw 0).cell (Nat.zero_le _) (cell_own (hS.at_ 2 rfl) rfl))) (at_top rfl)) ?_
  refine bl_cons 11 rfl (isV _) (stab_isV _) (rgV (li := [(74, _)]) rfl (w_free rfl) ⟨g_dep 9 (by kernel_rfl) (at_dep rfl rfl rfl), trivial⟩ (fun w hw => rn_indexA (j := 0) Tryz.underlying31 Tryz.sizeOf33 rfl rfl rfl (by omega) (Nat.add_zero _)) (at_top rfl)) ?_
  refine bl_cons 12 rfl (isV _) (stab_isV _) (rgV (li := [(75, _)]) rfl (w_free rfl) ⟨g_dep 10 (by kernel_rfl) (at_dep rfl rfl rfl), trivial⟩ (fun w hw => rn_loadA (vs := [_, _, _, _, _, _]) Tryz.isAgg33 Tryz.sizeOf33 rfl (CellsAt.agree (below_agree hw 0) (Nat.zero_le _) (by assumption))) (at_top rfl)) ?_
  refine bl_cons 13 rfl (isFar M W6.heap.size (.one t n) (.one (combP t n x1 y1))) (stab_isFar) (rg_call [isV _, isV _, isV _] rfl goes_54 (w_free rfl) ⟨p_tmp (g_dep 3 (by kernel_rfl) (at_dep rfl rfl rfl)), p_tmp (g_dep 7 (by kernel_rfl) (at_dep rfl rfl rfl)), p_tmp (g_dep 11 (by kernel_rfl) (at_dep rfl rfl rfl)), trivial⟩ (fun vs w' hb hh => by have e := holds_isV (us := [_, _, _]) hh; subst e; exact mret_gives hb.size (eitherR_plain M _ _ _ _ _ _ _ _ _ hp1 (hM _ _ hw (hS.below.trans (hb.mono hS.below.size))) hx1 hy1)) (at_top rfl)) ?_
  refine bl_cons 14 rfl (isV _) (stab_isV _) (rgV (li := [(3, _)]) rfl (w_free rfl) ⟨g_fr (by kernel_rfl) rfl, trivial⟩ (fun w hw => rn_field (o' := 2) fa_25_2 rfl rfl) (at_top rfl)) ?_
  refine bl_cons 15 rfl (isV _) (stab_isV _) (rgV (li := [(78, _)]) rfl (w_free rfl) ⟨g_dep 13 (by kernel_rfl) (at_dep rfl rfl rfl), trivial⟩ (fun w hw => rn_load Tryz.isAgg23 rfl ((below_agree hw 0).cell (Nat.zero_le _) (cell_own (hS.at_ 4 rfl) rfl))) (at_top rfl)) ?_
  refine bl_cons 16 rfl (isV _) (stab_isV _) (rgV (li := [(79, _)]) rfl (w_free rfl) ⟨g_dep 14 (by kernel_rfl) (at_dep rfl rfl rfl), trivial⟩ (fun w hw => rn_indexA (j := 1) Tryz.underlying23 Tryz.sizeOf25 rfl rfl rfl (by omega) rfl) (at_top rfl)) ?_
  refine bl_cons 17 rfl (isV _) (stab_isV _) (rgV (li := [(80, _)]) rfl (w_free rfl) ⟨g_dep 15 (by kernel_rfl) (at_dep rfl rfl rfl), trivial⟩ (fun w hw => rn_loadA (vs := [_, _, _]) Tryz.isAgg25 Tryz.sizeOf25 rfl (CellsAt.agree (below_agree hw 0) (Nat.zero_le _) (by assumption))) (at_top rfl)) ?_
  refine bl_cons 18 rfl (isV _) (stab_isV _) (rgV (li := [(4, _)]) rfl (w_free rfl) ⟨g_fr (by kernel_rfl) rfl, trivial⟩ (fun w hw => rn_field (o' := 5) fa_33_4 rfl rfl) (at_top rfl)) ?_
  refine bl_cons 19 rfl (isV _) (stab_isV _) (rgV (li := [(82, _)]) rfl (w_free rfl) ⟨g_dep 17 (by kernel_rfl) (at_dep rfl rfl rfl), trivial⟩ (fun w hw => rn_load Tryz.isAgg31 rfl ((below_agree hw 0).cell (Nat.zero_le _) (cell_own (hS.at_ 3 rfl) rfl))) (at_top rfl)) ?_
  refine bl_cons 20 rfl (isV _) (stab_isV _) (rgV (li := [(83, _)]) rfl (w_free rfl) ⟨g_dep 18 (by kernel_rfl) (at_dep rfl rfl rfl), trivial⟩ (fun w hw => rn_indexA (j := 1) Tryz.underlying31 Tryz.sizeOf33 rfl rfl rfl (by omega) rfl) (at_top rfl)) ?_
  refine bl_cons 21 rfl (isV _) (stab_isV _) (rgV (li := [(84, _)]) rfl (w_free rfl) ⟨g_dep 19 (by kernel_rfl) (at_dep rfl rfl rfl), trivial⟩ (fun w hw => rn_loadA (vs := [_, _, _, _, _, _]) Tryz.isAgg33 Tryz.sizeOf33 rfl (CellsAt.agree (below_agree hw 0) (Nat.zero_le _) (by assumption))) (at_top rfl)) ?_
  refine bl_cons 22 rfl (isV _) (stab_isV _) (rgV (li := [(5, _)]) rfl (w_free rfl) ⟨g_fr (by kernel_rfl) rfl, trivial⟩ (fun w hw => rn_field (o' := 5) fa_33_4 rfl rfl) (at_top rfl)) ?_
  refine bl_cons 23 rfl (isV _) (stab_isV _) (rgV (li := [(86, _)]) rfl (w_free rfl) ⟨g_dep 21 (by kernel_rfl) (at_dep rfl rfl rfl), trivial⟩ (fun w hw => rn_load Tryz.isAgg31 rfl ((below_agree hw 0).cell (Nat.zero_le _) (cell_own (hS.at_ 2 rfl) rfl))) (at_top rfl)) ?_
  refine bl_cons 24 rfl (isV _) (stab_isV _) (rgV (li := [(87, _)]) rfl (w_free rfl) ⟨g_dep 22 (by kernel_rfl) (at_dep rfl rfl rfl), trivial⟩ (fun w hw => rn_indexA (j := 1) Tryz.underlying31 Tryz.sizeOf33 rfl rfl rfl (by omega) rfl) (at_top rfl)) ?_
  refine bl_cons 25 rfl (isV _) (stab_isV _) (rgV (li := [(88, _)]) rfl (w_free rfl) ⟨g_dep 23 (by kernel_rfl) (at_dep rfl rfl rfl), trivial⟩ (fun w hw => rn_loadA (vs := [_, _, _, _, _, _]) Tryz.isAgg33 Tryz.sizeOf33 rfl (CellsAt.agree (below_agree hw 0) (Nat.zero_le _) (by assumption))) (at_top rfl)) ?_
  refine bl_cons 26 rfl (isFar M W6.heap.size (.one u m) (.one (combP u m x2 y2))) (stab_isFar) (rg_call [isV _, isV _, isV _] rfl goes_54 (w_free rfl) ⟨p_tmp (g_dep 16 (by kernel_rfl) (at_dep rfl rfl rfl)), p_tmp (g_dep 20 (by kernel_rfl) (at_dep rfl rfl rfl)), p_tmp (g_dep 24 (by kernel_rfl) (at_dep rfl rfl rfl)), trivial⟩ (fun vs w' hb hh => by have e := holds_isV (us := [_, _, _]) hh; subst e; exact mret_gives hb.size (eitherR_plain M _ _ _ _ _ _ _ _ _ hp2 (hM _ _ hw (hS.below.trans (hb.mono hS.below.size))) hx2 hy2)) (at_top rfl)) ?_
  refine bl_cons 27 rfl (isFarRow M W6.heap.size (.two t n u m) (.two (combP t n x1 y1) (combP u m x2 y2))) (stab_isFarRow) (rg_farRow rfl (w_free rfl) ⟨p_tmp (g_dep 12 (by kernel_rfl) (at_dep rfl rfl rfl)), p_tmp (g_dep 25 (by kernel_rfl) (at_dep rfl rfl rfl)), trivial⟩ (at_top rfl)) ?_
  refine bl_cons 28 rfl (isV _) (stab_isV _) (rgV (li := [(7, _)]) rfl (w_free rfl) ⟨g_fr (by kernel_rfl) rfl, trivial⟩ (fun w hw => rn_field (o' := 5) fa_33_4 rfl rfl) (at_top rfl)) ?_
  refine bl_nil ?_
  intro W7 hbR hS'
  clear hS; have hS := hS'; clear hS'
  refine fin_v ?_
  refine fin_v ?_
  refine fin_v ?_
  refine fin_v ?_
  refine fin_v ?_
  refine fin_v ?_
  refine fin_v ?_
  refine fin_v ?_
  refine fin_v ?_
  refine fin_v ?_
  refine fin_v ?_
  refine fin_v ?_
  refine fin_p ?_; rintro _ ⟨v1, rfl, hn1⟩
  refine fin_v ?_
  refine fin_v ?_
  refine fin_v ?_
  refine fin_v ?_
  refine fin_v ?_
  refine fin_v ?_
  refine fin_v ?_
  refine fin_v ?_
  refine fin_v ?_
  refine fin_v ?_
  refine fin_v ?_
  refine fin_v ?_
  refine fin_p ?_; rintro _ ⟨v2, rfl, hn2⟩
  refine fin_p ?_; rintro _ ⟨b9, rfl, hn9⟩
  refine fin_v ?_
  refine fin_nil ?_
  refine op_store (i := 0) (cs' := [_, _, _, _, _, _]) (O' := [_, _, _, _, _]) hS Tryz.sizeOf31 rfl rfl rfl rfl rfl rfl rfl ?_
  clear hS; intro W8 hS
  refine endF ?_
  refine XF.blkN ?_
  refine XF.thenN ?_
  refine seqF ?_
  refine regF ?_
  refine op_loadA (vs := [_, _, _, _, _, _]) Tryz.isAgg33 Tryz.sizeOf33 rfl (CellsAt.own (j := 0) (m := 6) (hS.at_ 0 rfl) rfl) rfl ?_
  refine op_storeA (i := 1) (vs := [_, _, _, _, _, _]) (cs' := [_, _, _, _, _, _]) (O' := [_, _, _, _, _]) hS Tryz.sizeOf33 rfl rfl rfl rfl rfl rfl rfl ?_
  clear hS; intro W9 hS
  refine endF ?_
  refine XF.thenN ?_
  refine retF ?_
  refine XF.res (resC1 (vs := [_, _, _, _, _, _]) Tryz.results54 Tryz.isAgg33 Tryz.sizeOf33 rfl (CellsAt.own (j := 0) (m := 6) (hS.at_ 1 rfl) rfl)) ?_
  exact ⟨pairF b9, rfl, hn9.mono fun W hW => ⟨hW.1, (hS.since 0 rfl).trans (hW.2.mono hsz)⟩, hS.below⟩

theorem FarX.two {M : World → Prop} {t n u m : Int} {f : WF} {a b : PF} (h : FarX M (.two t n u m) f (.two a b)) : ∃ (ra ca : Option Addr) (rc cc pc fb fo : Nat) (f1 f2 : WF), f = ⟨false, 0, 0, ra, 0, rc, [], ca, 0, cc, [], some ⟨fb, fo, none⟩, 2, pc⟩ ∧ (∀ W, M W → W6 W fb fo f1 ∧ W6 W fb (fo + 6) f2) ∧ FarP M t n f1 a ∧ FarP M u m f2 b := by
  obtain ⟨h1, h2, h3, h4, blk, off, g, k, h5, h6, h7, h8⟩ := h
  obtain ⟨z, c, gg, ra, rl, rc, rows, ca, cl, cc, cells, pa, pl, pc⟩ := f
  simp only [WF.pf, pC, PF.mk.injEq] at h1
  obtain ⟨rfl, rfl, rfl, rfl, rfl⟩ := h1
  dsimp only at h2 h3 h4 h5
  subst h2; subst h3; subst h4; subst h5
  exact ⟨ra, ca, rc, cc, pc, blk, off, g, k, rfl, h6, h7, h8⟩
theorem eitherR_ok {M : World → Prop} {S : PS} {sf : SF} {f g : WF} {x y : PX} {w : World} (hM : KeepsB M) (hs : SIs w S sf) (hok : S.ok) (hw : M w) (hx : FarX M S f x) (hy : FarX M S g y) : Calls Tryz.prog 54 #[sf.val, f.val, g.val] w (MRet M S (combX S x y) w) := by
  cases S <;> cases x <;> cases y <;> first | exact hx.elim | exact hy.elim | skip
  · obtain ⟨a, c, rfl⟩ := hs
    exact eitherR_plain M _ _ _ _ _ _ _ _ _ hok hw hx hy
  · obtain ⟨b, off, c, a1, c1, a2, c2, rfl, h1, h2⟩ := hs
    obtain ⟨ra, ca, rc, cc, pc, fb, fo, f1, f2, rfl, h6, h8, h9⟩ := hx.two
    obtain ⟨ra', ca', rc', cc', pc', gb, go, g1, g2, rfl, h6', h8', h9'⟩ := hy.two
    exact eitherR_pair M hM _ _ _ _ _ _ _ _ _ _ _ _ h1 h2 hok.1 hok.2 _ _ _ _ _ _ _ _ _ _ _ (h6 w hw).1 (h6 w hw).2 h8 h9 _ _ _ _ _ _ _ _ _ _ _ (h6' w hw).1 (h6' w hw).2 h8' h9' hw
end Go.Proofs.YtjcminoaiieckaaGreatDoor
namespace Go.Proofs.YtjcminoaiieckaaGreatDoor
open Go Go.RowKit
set_option linter.unusedVariables false
theorem smN_100 {w : World} {e : Nat} {x : WV} (hx : WIn w e x) (h : smN 4 x = true) : x.f.rl ≤ 100 ∧ ∀ p ∈ x.ps, p.f.rl ≤ 100 := by
  obtain ⟨f, ps⟩ := x
  simp only [smN, Bool.and_eq_true, decide_eq_true_eq, List.all_eq_true] at h
  refine ⟨by have := h.1; show f.rl ≤ 100; omega, fun p hp => ?_⟩
  have h2 := h.2.2.2 p hp
  obtain ⟨g, qs⟩ := p
  simp only [smN, Bool.and_eq_true, decide_eq_true_eq] at h2
  have := h2.1
  show g.rl ≤ 100
  omega
theorem okW_plain {f : SF} {ps : List SV} {x : WV} (hp : plainB f.tag f.dim f.len = true) (ho : okW (.mk f ps) x = true) : pwOk f.tag f.dim x.f = true := by
  have h : (if plainB f.tag f.dim f.len = true then pwOk f.tag f.dim x.f else (match (generalizing := false) ps with | [p, q] => pairOk p q x.f x.ps | _ => false)) = true := ho
  rw [if_pos hp] at h
  exact h
theorem space_of {w : World} {d : Nat} {s : SV} (hs : SIn w d s) (hse : spaceE s = 0) : ∃ S : PS, S.ok ∧ SIs w S s.f ∧ ∀ (x : WV) (e : Nat), WIn w e x → okW s x = true → ∃ y, XIs w S x.f y := by
  match d, s, hs with
  | d + 1, .mk f ps, hs =>
    by_cases hp : plainB f.tag f.dim f.len = true
    · obtain ⟨t, n, a, l, c⟩ := f
      dsimp only at hp
      obtain rfl : l = 0 := (plainB_tag hp).1
      refine ⟨.one t n, hp, ⟨a, c, rfl⟩, fun x e hx ho => ?_⟩
      match e, x, hx, ho with
      | e + 1, .mk g qs, hx, ho =>
        exact ⟨.one g.pf, PIs.of hp hx.1 (okW_plain (f := ⟨t, n, a, 0, c⟩) hp ho)⟩
    · have hse' : (if plainB f.tag f.dim f.len = true then (0 : Int) else if f.tag = 5 ∧ f.dim = 0 ∧ ps.length = 2 ∧ ps.all SV.pl = true then 0 else 50) = 0 := hse
      rw [if_neg hp] at hse'
      split at hse'
      · rename_i hq
        obtain ⟨h5, h0, h2, hall⟩ := hq
        obtain ⟨t, n, a, l, c⟩ := f
        dsimp only at h5 h0 hp
        subst h5; subst h0
        obtain ⟨p, q, rfl⟩ := two_of h2
        have hl : 2 = l := hs.1
        subst hl
        simp only [List.all_cons, List.all_nil, Bool.and_true, Bool.and_eq_true] at hall
        obtain ⟨_, b, off, ha, _, hp3, hq3, _, _⟩ := hs.two
        dsimp only at ha
        subst ha
        obtain ⟨⟨pt, pn, pa, pl, pc⟩, pps⟩ := p
        obtain ⟨⟨qt, qn, qa, ql, qc⟩, qps⟩ := q
        have e1 : plainB pt pn pl = true := hall.1
        have e2 : plainB qt qn ql = true := hall.2
        obtain rfl : pl = 0 := (plainB_tag e1).1
        obtain rfl : ql = 0 := (plainB_tag e2).1
        refine ⟨.two pt pn qt qn, ⟨e1, e2⟩, ⟨b, off, c, pa, pc, qa, qc, rfl, hp3, hq3⟩, fun x e hx ho => ?_⟩
        match e, x, hx, ho with
        | e + 1, .mk g qs, hx, ho =>
          have ho' : (if plainB 5 0 2 = true then pwOk 5 0 g else pairOk (.mk ⟨pt, pn, pa, 0, pc⟩ pps) (.mk ⟨qt, qn, qa, 0, qc⟩ qps) g qs) = true := ho
          rw [if_neg (show ¬ plainB 5 0 2 = true from hp)] at ho'
          unfold pairOk at ho'
          simp only [Bool.and_eq_true, Bool.not_eq_true', decide_eq_true_eq] at ho'
          obtain ⟨hbare, hz, h2q, o1, o2⟩ := ho'
          obtain ⟨x1, x2, rfl⟩ := two_of h2q
          obtain ⟨hpl, wb, wo, hpa, _, h6, h7, hx1, hx2⟩ := hx.two
          have hat := hx.1
          have hg : g.c = 0 ∧ g.g = 0 ∧ g.rl = 0 ∧ g.cl = 0 := by
            simp only [bareB, onlyB, hz, Bool.not_false, Bool.true_and, Bool.and_eq_true, Bool.or_eq_true, decide_eq_true_eq] at hbare
            obtain ⟨k1, k2, k3, _⟩ := hbare
            exact ⟨k1.resolve_left (by decide), (k2.resolve_left (by decide)).1, (k2.resolve_left (by decide)).2, k3.resolve_left (by decide)⟩
          have hr0 : g.rows = [] := List.eq_nil_of_length_eq_zero (by have := hat.rl; omega)
          have hc0 : g.cells = [] := List.eq_nil_of_length_eq_zero (by have := hat.cl; omega)
          refine ⟨.two x1.f.pf x2.f.pf, ?_, hg.2.2.1, hg.2.2.2, hpl, wb, wo, x1.f, x2.f, hpa, h6, h7, PIs.of e1 (WIn.at_ hx1) o1, PIs.of e2 (WIn.at_ hx2) o2⟩
          show (⟨g.z, g.c, g.g, g.rows, g.cells⟩ : PF) = pC 0
          unfold pC
          rw [hz, hg.1, hg.2.1, hr0, hc0]
      · cases hse'
section
variable {n : Nat} {Q : Exit → Act → World → Prop} {l : Fr} {W : World} {ops : Array Oper} {L : List Asr} {i d : Nat} {ty : TypeId} {pos : String} {aft : Array Edge} {gd : Option (Nat × Bool)} {S : PS} {x y z : PX} {p q r : Operand}
end
section
variable {w : World} {S : PS} {sf : SF} {x y z : PX} {vs : List Value}
end
end Go.Proofs.YtjcminoaiieckaaGreatDoor
namespace Go.Proofs.YtjcminoaiieckaaGreatDoor
open Go Go.RowKit
set_option linter.unusedVariables false
def chkL (s : SV) (xs : List WV) : Int := if spaceE s = 0 then (if xs.all (okW s) = true then 0 else 51) else spaceE s
theorem chkL_ne {s : SV} {xs : List WV} (h : spaceE s ≠ 0) : chkL s xs = spaceE s := by unfold chkL; rw [if_neg h]
theorem chkL_bad {s : SV} {xs : List WV} (h : spaceE s = 0) (ha : xs.all (okW s) = false) : chkL s xs = 51 := by unfold chkL; rw [if_pos h, if_neg (by rw [ha]; decide)]
theorem chkL_ok {s : SV} {xs : List WV} (h : spaceE s = 0) (ha : xs.all (okW s) = true) : chkL s xs = 0 := by unfold chkL; rw [if_pos h, if_pos ha]
theorem chkL_0 {s : SV} {xs : List WV} (h : chkL s xs = 0) : spaceE s = 0 ∧ ∀ x ∈ xs, okW s x = true := by
  unfold chkL at h
  by_cases h1 : spaceE s = 0
  · rw [if_pos h1] at h
    by_cases h2 : xs.all (okW s) = true
    · exact ⟨h1, List.all_eq_true.1 h2⟩
    · rw [if_neg h2] at h; omega
  · rw [if_neg h1] at h; exact absurd h h1
theorem prow2 {W : World} {B : Nat} {T : TypeId} {x y : WV} (h : W.heap[B]? = some (.cells (List.toArray (x.f.six ++ y.f.six)) T (0, 0))) : PRow W (some ⟨B, 0, none⟩) [x, y] := by
  rcases frow2 h with h' | ⟨b, off, e, h3⟩
  · cases h'
  · refine .inr ⟨b, off, e, fun i p hi => ?_⟩
    match i, hi with
    | 0, hi => simp at hi; subst hi; exact h3 0 _ rfl
    | 1, hi => simp at hi; subst hi; exact h3 1 _ rfl
theorem two_all {α : Type} {p : α → Prop} {x y : α} (hx : p x) (hy : p y) : ∀ z ∈ [x, y], p z := fun z hz => by
  simp only [List.mem_cons, List.not_mem_nil, or_false] at hz
  rcases hz with rfl | rfl
  · exact hx
  · exact hy

set_option maxRecDepth 100000 in
set_option maxHeartbeats 4000000 in
theorem checkAllW_gen (ds d : Nat) (s : SV) (a : Option Addr) (m c : Nat) (xs : List WV) (w : World) (hs : SIn w ds s) (hrow : PRow w a xs) (hlen : xs.length = m) (hin : ∀ x ∈ xs, WIn w d x) (hsm : ∀ x ∈ xs, smN 4 x = true) (hmx : m ≤ 9223372036854775807) :
    Calls Tryz.prog 45 #[s.f.val, .slice a m c] w (fun e w' => e = .returned (.int .i64 (chkL s xs)) ∧ Below w.heap.size w w') := by
  refine enterF (args := [s.f.val, .slice a m c]) Tryz.func45 rfl Tryz.ntmps45 rfl ?_
  have hS := St.start w
  refine seqF ?_
  refine regF ?_
  refine op_box (cs := [_, _, _]) hS rfl rfl rfl ?_
  clear hS; intro B1 W1 hS
  refine op_assign rfl rfl ?_
  refine endF ?_
  refine XF.thenN ?_
  refine seqF ?_
  refine seqF ?_
  refine regF ?_
  refine op_loadA (vs := [_, _, _]) Tryz.isAgg25 Tryz.sizeOf25 rfl (CellsAt.own (j := 0) (m := 3) (hS.at_ 0 rfl) rfl) rfl ?_
  refine op_call (vs := [_]) hS goes_18 rfl (spaceA_is ds s _ _ (SIn.below hS.below hs) rfl) rfl ?_
  rintro e W2 ⟨rfl, hb⟩
  refine ⟨_, rfl, hb, fun hS' => ?_⟩
  clear hS; have hS := hS'; clear hS' hb
  refine op_assign rfl rfl ?_
  refine endF ?_
  refine XF.thenN ?_
  refine seqF ?_
  refine regF ?_
  refine op_move rfl rfl ?_
  refine op_neq rfl rfl rfl ?_
  refine endF ?_
  refine XF.thenN ?_
  refine condF rfl (fun hc => ?_) (fun hc => ?_)
  · have hc11 := of_decide_eq_true hc; clear hc
    refine seqF ?_
    refine regF ?_
    refine op_move rfl rfl ?_
    refine op_assign rfl rfl ?_
    refine endF ?_
    refine XF.thenN ?_
    refine retF ?_
    refine XF.thenR ?_
    refine XF.res (res1 Tryz.results45 rfl) ?_
    exact ⟨by rw [chkL_ne hc11], hS.below⟩
  · have hc11 := of_decide_eq_false hc; clear hc
    have hse : spaceE s = 0 := by omega
    refine skipF ?_
    refine XF.thenN ?_
    refine seqF ?_
    refine seqF ?_
    refine regF ?_
    refine op_move rfl rfl ?_
    refine op_len Tryz.underlying31 rfl rfl ?_
    refine op_move rfl rfl ?_
    refine endF ?_
    refine XF.thenN ?_
    refine blockF ?_
    refine loopF (fun q l W => ∃ k : Nat, k ≤ m ∧ q = m - k ∧ l = [(2, .pointer (some ⟨B1, 0, none⟩)), (13, .slice a m c), (14, .int .i64 (m : Int)), (15, .int .i64 (k : Int))] ∧ (xs.take k).all (okW s) = true ∧ St w [(B1, [.int .i64 s.f.tag, .int .i64 s.f.dim, .slice s.f.a s.f.len s.f.cap], 25)] [] [] W) (m - 0) ([(2, _), (13, _), (14, _), (15, _)]) ⟨rfl, rfl, rfl, rfl, trivial⟩ (⟨0, Nat.zero_le _, rfl, rfl, rfl, hS.clear⟩) ?_
    clear hS
    rintro q l W ⟨k, hkm, rfl, rfl, hall, hS⟩
    refine seqF ?_
    refine regF ?_
    refine op_lss rfl rfl rfl ?_
    refine endF ?_
    refine XF.thenN ?_
    refine seqF ?_
    refine condF rfl (fun hc => ?_) (fun hc => ?_)
    · have hc16 := of_decide_eq_true hc; clear hc
      have hk : k < m := by omega
      obtain ⟨x, hxk⟩ : ∃ x, xs[k]? = some x := ⟨xs[k]'(by omega), List.getElem?_eq_getElem _⟩
      obtain ⟨b, off, rfl, hbl, h6⟩ := hrow.at_ hxk
      have hxm := List.mem_of_getElem? hxk
      have hxin := hin x hxm
      obtain ⟨hx1, hx2⟩ := smN_100 hxin (hsm x hxm)
      have k6 := CellsAt.agree hS.agree (Nat.zero_le _) h6.cells
      refine skipF ?_
      refine XF.thenN ?_
      refine seqF ?_
      refine blockF ?_
      refine seqF ?_
      refine regF ?_
      refine op_indexA  Tryz.underlying31 Tryz.sizeOf33 rfl rfl rfl (by omega) rfl rfl ?_
      refine op_loadA (vs := [_, _, _, _, _, _]) Tryz.isAgg33 Tryz.sizeOf33 rfl (by assumption) rfl ?_
      refine op_alloc (cs := [_, _, _, _, _, _]) hS Tryz.zeroValue33 rfl rfl ?_
      clear hS; intro B3 W3 hS
      refine op_storeA (i := 0) (vs := [_, _, _, _, _, _]) (cs' := [_, _, _, _, _, _]) (O' := [_, _]) hS Tryz.sizeOf33 rfl rfl rfl rfl rfl rfl rfl ?_
      clear hS; intro W4 hS
      refine endF ?_
      refine XF.thenN ?_
      refine seqF ?_
      refine regF ?_
      refine op_loadA (vs := [_, _, _]) Tryz.isAgg25 Tryz.sizeOf25 rfl (CellsAt.own (j := 0) (m := 3) (hS.at_ 1 rfl) rfl) rfl ?_
      refine op_loadA (vs := [_, _, _, _, _, _]) Tryz.isAgg33 Tryz.sizeOf33 rfl (CellsAt.own (j := 0) (m := 6) (hS.at_ 0 rfl) rfl) rfl ?_
      refine op_call (vs := [_, _]) hS goes_63 rfl (isA_gen (SIn.below hS.below hs) hse (WIn.below hS.below hxin) hx1 hx2) rfl ?_
      rintro e W5 ⟨rfl, hb⟩
      refine ⟨_, rfl, hb, fun hS' => ?_⟩
      clear hS; have hS := hS'; clear hS' hb
      refine op_not rfl rfl ?_
      refine endF ?_
      refine XF.thenN ?_
      refine condF rfl (fun hc => ?_) (fun hc => ?_)
      · have hc22 := hc; clear hc
        refine seqF ?_
        refine regF ?_
        refine op_assign rfl rfl ?_
        refine endF ?_
        refine XF.thenN ?_
        refine retF ?_
        refine XF.blkR ?_
        refine XF.thenR ?_
        refine XF.thenR ?_
        refine XF.blkR ?_
        refine XF.thenR ?_
        refine XF.res (res1 Tryz.results45 rfl) ?_
        exact ⟨by rw [chkL_bad hse (all_false_at hxk (by simpa using hc22))], hS.below⟩
      · have hc22 := hc; clear hc
        refine skipF ?_
        refine XF.blkN ?_
        refine XF.thenN ?_
        refine regF ?_
        refine op_add rfl rfl (IntWalk.i64_in _ (by omega)) rfl ?_
        refine op_move rfl rfl ?_
        refine endF ?_
        exact XF.round (m - (k + 1)) [(2, _), (13, _), (14, _), (15, _)] (by omega) ⟨rfl, rfl, rfl, rfl, trivial⟩ ⟨k + 1, by omega, rfl, rfl, all_take_at hxk hall (by simpa using hc22), hS.tail.clear⟩
    · have hc16 := of_decide_eq_false hc; clear hc
      refine exitF ?_
      refine XF.thenX ?_
      refine XF.thenX ?_
      refine XF.blkX ?_
      refine XF.thenN ?_
      refine seqF ?_
      refine regF ?_
      refine op_assign rfl rfl ?_
      refine endF ?_
      refine XF.thenN ?_
      refine retF ?_
      refine XF.res (res1 Tryz.results45 rfl) ?_
      rw [List.take_of_length_le (by omega)] at hall
      exact ⟨by rw [chkL_ok hse hall], hS.below⟩

set_option maxRecDepth 100000 in
set_option maxHeartbeats 4000000 in
theorem allR_gen (ds d : Nat) (s : SV) (a : Option Addr) (m c : Nat) (xs : List WV) (w : World) (hs : SIn w ds s) (hrow : PRow w a xs) (hlen : xs.length = m) (hin : ∀ x ∈ xs, WIn w d x) (hsm : ∀ x ∈ xs, smN 4 x = true) (hmx : m ≤ 9223372036854775807) :
    Calls Tryz.prog 53 #[s.f.val, .slice a m c] w (fun e w' => e = .returned (.int .i64 (chkL s xs)) ∧ Below w.heap.size w w') := by
  refine enterF (args := [s.f.val, .slice a m c]) Tryz.func53 rfl Tryz.ntmps53 rfl ?_
  have hS := St.start w
  refine seqF ?_
  refine regF ?_
  refine op_box (cs := [_, _, _]) hS rfl rfl rfl ?_
  clear hS; intro B1 W1 hS
  refine op_assign rfl rfl ?_
  refine endF ?_
  refine XF.thenN ?_
  refine seqF ?_
  refine seqF ?_
  refine regF ?_
  refine op_loadA (vs := [_, _, _]) Tryz.isAgg25 Tryz.sizeOf25 rfl (CellsAt.own (j := 0) (m := 3) (hS.at_ 0 rfl) rfl) rfl ?_
  refine op_call (vs := [_]) hS goes_19 rfl (spaceR_is ds s _ _ (SIn.below hS.below hs) rfl) rfl ?_
  rintro e W2 ⟨rfl, hb⟩
  refine ⟨_, rfl, hb, fun hS' => ?_⟩
  clear hS; have hS := hS'; clear hS' hb
  refine op_neq rfl rfl rfl ?_
  refine endF ?_
  refine XF.thenN ?_
  refine condF rfl (fun hc => ?_) (fun hc => ?_)
  · have hc8 := of_decide_eq_true hc; clear hc
    refine seqF ?_
    refine regF ?_
    refine op_assign rfl rfl ?_
    refine endF ?_
    refine XF.thenN ?_
    refine retF ?_
    refine XF.thenR ?_
    refine XF.res (res1 Tryz.results53 rfl) ?_
    exact ⟨by rw [chkL_ne hc8, space_50 hc8], hS.below⟩
  · have hc8 := of_decide_eq_false hc; clear hc
    have hse : spaceE s = 0 := by omega
    refine skipF ?_
    refine XF.thenN ?_
    refine seqF ?_
    refine seqF ?_
    refine regF ?_
    refine op_assign rfl rfl ?_
    refine endF ?_
    refine XF.thenN ?_
    refine blockF ?_
    refine loopF (fun q l W => ∃ k : Nat, k ≤ m ∧ q = m - k ∧ l = [(1, .slice a m c), (2, .pointer (some ⟨B1, 0, none⟩)), (5, .int .i64 (k : Int))] ∧ (xs.take k).all (okW s) = true ∧ St w [(B1, [.int .i64 s.f.tag, .int .i64 s.f.dim, .slice s.f.a s.f.len s.f.cap], 25)] [] [] W) (m - 0) ([(1, _), (2, _), (5, _)]) ⟨rfl, rfl, rfl, trivial⟩ (⟨0, Nat.zero_le _, rfl, rfl, rfl, hS.clear⟩) ?_
    clear hS
    rintro q l W ⟨k, hkm, rfl, rfl, hall, hS⟩
    refine seqF ?_
    refine seqF ?_
    refine regF ?_
    refine op_move rfl rfl ?_
    refine op_move rfl rfl ?_
    refine op_len Tryz.underlying31 rfl rfl ?_
    refine op_lss rfl rfl rfl ?_
    refine endF ?_
    refine XF.thenN ?_
    refine condF rfl (fun hc => ?_) (fun hc => ?_)
    · have hc12 := of_decide_eq_true hc; clear hc
      have hk : k < m := by omega
      obtain ⟨x, hxk⟩ : ∃ x, xs[k]? = some x := ⟨xs[k]'(by omega), List.getElem?_eq_getElem _⟩
      obtain ⟨b, off, rfl, hbl, h6⟩ := hrow.at_ hxk
      have hxm := List.mem_of_getElem? hxk
      have hxin := hin x hxm
      obtain ⟨hx1, hx2⟩ := smN_100 hxin (hsm x hxm)
      have k6 := CellsAt.agree hS.agree (Nat.zero_le _) h6.cells
      refine skipF ?_
      refine XF.thenN ?_
      refine seqF ?_
      refine blockF ?_
      refine seqF ?_
      refine regB (m := 7) followsM hS (by kernel_rfl) (by kernel_rfl) rfl ?_
      refine bl_cons 1 rfl (isV _) (stab_isV _) (rgV (li := [(2, _)]) rfl (w_free rfl) ⟨g_fr (by kernel_rfl) rfl, trivial⟩ (fun w hw => rn_loadA (vs := [_, _, _]) Tryz.isAgg25 Tryz.sizeOf25 rfl (CellsAt.agree (below_agree hw 0) (Nat.zero_le _) (CellsAt.own (j := 0) (m := 3) (hS.at_ 0 rfl) rfl))) (at_top rfl)) ?_
      refine bl_cons 2 rfl (isV _) (stab_isV _) (rgV (li := [(1, _)]) rfl (w_free rfl) ⟨g_fr (by kernel_rfl) rfl, trivial⟩ (fun w hw => rn_move rfl) (at_top rfl)) ?_
      refine bl_cons 3 rfl (isV _) (stab_isV _) (rgV (li := [(5, _)]) rfl (w_free rfl) ⟨g_fr (by kernel_rfl) rfl, trivial⟩ (fun w hw => rn_move rfl) (at_top rfl)) ?_
      refine bl_cons 4 rfl (isV _) (stab_isV _) (rgV (li := [(16, _), (17, _)]) rfl (w_free rfl) ⟨g_dep 1 (by kernel_rfl) (at_dep rfl rfl rfl), g_dep 2 (by kernel_rfl) (at_dep rfl rfl rfl), trivial⟩ (fun w hw => rn_indexA  Tryz.underlying31 Tryz.sizeOf33 rfl rfl rfl (by omega) rfl) (at_top rfl)) ?_
      refine bl_cons 5 rfl (isV _) (stab_isV _) (rgV (li := [(18, _)]) rfl (w_free rfl) ⟨g_dep 3 (by kernel_rfl) (at_dep rfl rfl rfl), trivial⟩ (fun w hw => rn_loadA (vs := [_, _, _, _, _, _]) Tryz.isAgg33 Tryz.sizeOf33 rfl (CellsAt.agree (below_agree hw 0) (Nat.zero_le _) (by assumption))) (at_top rfl)) ?_
      refine bl_cons 6 rfl (isV (.bool (okW s x))) (stab_isV _) (rg_call [isV _, isV _] rfl goes_46 (w_free rfl) ⟨p_tmp (g_dep 0 (by kernel_rfl) (at_dep rfl rfl rfl)), p_tmp (g_dep 4 (by kernel_rfl) (at_dep rfl rfl rfl)), trivial⟩ (fun vs w' hb hh => by have e := holds_isV (us := [_, _]) hh; subst e; exact (isR_gen (SIn.below (hS.below.trans (hb.mono hS.below.size)) hs) hse (WIn.below (hS.below.trans (hb.mono hS.below.size)) hxin) hx1 hx2).mono fun e w2 h => ⟨_, h.1, rfl, h.2⟩) (at_top rfl)) ?_
      refine bl_cons 7 rfl (isV _) (stab_isV _) (rgV (li := [(20, _)]) rfl (w_free rfl) ⟨g_dep 5 (by kernel_rfl) (at_dep rfl rfl rfl), trivial⟩ (fun w hw => rn_not rfl) (at_top rfl)) ?_
      refine bl_nil ?_
      intro W3 hbR hS'
      clear hS; have hS := hS'; clear hS'
      refine fin_v ?_
      refine fin_v ?_
      refine fin_v ?_
      refine fin_v ?_
      refine fin_v ?_
      refine fin_v ?_
      refine fin_v ?_
      refine fin_nil ?_
      refine XF.thenN ?_
      refine condF rfl (fun hc => ?_) (fun hc => ?_)
      · have hc21 := hc; clear hc
        refine seqF ?_
        refine regF ?_
        refine op_assign rfl rfl ?_
        refine endF ?_
        refine XF.thenN ?_
        refine retF ?_
        refine XF.blkR ?_
        refine XF.thenR ?_
        refine XF.thenR ?_
        refine XF.blkR ?_
        refine XF.thenR ?_
        refine XF.res (res1 Tryz.results53 rfl) ?_
        exact ⟨by rw [chkL_bad hse (all_false_at hxk (by simpa using hc21))], hS.below⟩
      · have hc21 := hc; clear hc
        refine skipF ?_
        refine XF.blkN ?_
        refine XF.thenN ?_
        refine regF ?_
        refine op_move rfl rfl ?_
        refine op_add rfl rfl (IntWalk.i64_in _ (by omega)) rfl ?_
        refine op_assign rfl rfl ?_
        refine endF ?_
        exact XF.round (m - (k + 1)) [(1, _), (2, _), (5, _)] (by omega) ⟨rfl, rfl, rfl, trivial⟩ ⟨k + 1, by omega, rfl, rfl, all_take_at hxk hall (by simpa using hc21), hS.clear⟩
    · have hc12 := of_decide_eq_false hc; clear hc
      refine exitF ?_
      refine XF.thenX ?_
      refine XF.thenX ?_
      refine XF.blkX ?_
      refine XF.thenN ?_
      refine seqF ?_
      refine regF ?_
      refine op_assign rfl rfl ?_
      refine endF ?_
      refine XF.thenN ?_
      refine retF ?_
      refine XF.res (res1 Tryz.results53 rfl) ?_
      rw [List.take_of_length_le (by omega)] at hall
      exact ⟨by rw [chkL_ok hse hall], hS.below⟩

set_option maxRecDepth 100000 in
set_option maxHeartbeats 4000000 in
theorem CombineW_bad (ds d : Nat) (s : SV) (a : Option Addr) (m c : Nat) (xs : List WV) (w : World) (hs : SIn w ds s) (hrow : PRow w a xs) (hlen : xs.length = m) (hin : ∀ x ∈ xs, WIn w d x) (hsm : ∀ x ∈ xs, smN 4 x = true) (hmx : m ≤ 9223372036854775807) (hne : chkL s xs ≠ 0) :
    Calls Tryz.prog 27 #[s.f.val, .slice a m c] w (fun e w' => e = .returned (.tuple #[.agg #[.bool false, .int .i64 0, .int .u64 0, .slice none 0 0, .slice none 0 0, .slice none 0 0], .int .i64 (chkL s xs)]) ∧ Below w.heap.size w w') := by
  refine enterF (args := [s.f.val, .slice a m c]) Tryz.func27 rfl Tryz.ntmps27 rfl ?_
  have hS := St.start w
  refine seqF ?_
  refine regF ?_
  refine op_box (cs := [_, _, _]) hS rfl rfl rfl ?_
  clear hS; intro B1 W1 hS
  refine op_alloc (cs := [_, _, _, _, _, _]) hS Tryz.zeroValue33 rfl rfl ?_
  clear hS; intro B2 W2 hS
  refine op_assign rfl rfl ?_
  refine endF ?_
  refine XF.thenN ?_
  refine seqF ?_
  refine seqF ?_
  refine regF ?_
  refine op_loadA (vs := [_, _, _]) Tryz.isAgg25 Tryz.sizeOf25 rfl (CellsAt.own (j := 0) (m := 3) (hS.at_ 1 rfl) rfl) rfl ?_
  refine op_move rfl rfl ?_
  refine op_call (vs := [_, _]) hS goes_45 rfl (checkAllW_gen ds d s a m c xs _ (SIn.below hS.below hs) (hrow.below hS.below) hlen (fun x hx => WIn.below hS.below (hin x hx)) hsm hmx) rfl ?_
  rintro e W3 ⟨rfl, hb⟩
  refine ⟨_, rfl, hb, fun hS' => ?_⟩
  clear hS; have hS := hS'; clear hS' hb
  refine op_assign rfl rfl ?_
  refine endF ?_
  refine XF.thenN ?_
  refine seqF ?_
  refine regF ?_
  refine op_move rfl rfl ?_
  refine op_neq rfl rfl rfl ?_
  refine endF ?_
  refine XF.thenN ?_
  refine condF rfl (fun hc => ?_) (fun hc => absurd (of_decide_eq_false hc) (by omega))
  have hc := of_decide_eq_true hc
  refine seqF ?_
  refine regF ?_
  refine op_build (us := []) rfl (bld_33) rfl ?_
  refine op_move rfl rfl ?_
  refine op_storeA (i := 0) (vs := [_, _, _, _, _, _]) (cs' := [_, _, _, _, _, _]) (O' := [_, _]) hS Tryz.sizeOf33 rfl rfl rfl rfl rfl rfl rfl ?_
  clear hS; intro W4 hS
  refine op_assign rfl rfl ?_
  refine endF ?_
  refine XF.thenN ?_
  refine retF ?_
  refine XF.thenR ?_
  refine XF.res (resCT (vs := [_, _, _, _, _, _]) Tryz.results27 Tryz.isAgg33 Tryz.sizeOf33 rfl (CellsAt.own (j := 0) (m := 6) (hS.at_ 0 rfl) rfl) rfl) ?_
  exact ⟨rfl, hS.below⟩

set_option maxRecDepth 100000 in
set_option maxHeartbeats 4000000 in
theorem ExtendW_bad (ds d : Nat) (s : SV) (a : Option Addr) (m c : Nat) (xs : List WV) (w : World) (hs : SIn w ds s) (hrow : PRow w a xs) (hlen : xs.length = m) (hin : ∀ x ∈ xs, WIn w d x) (hsm : ∀ x ∈ xs, smN 4 x = true) (hmx : m ≤ 9223372036854775807) (hne : chkL s xs ≠ 0) :
    Calls Tryz.prog 29 #[s.f.val, .slice a m c] w (fun e w' => e = .returned (.tuple #[.agg #[.bool false, .int .i64 0, .int .u64 0, .slice none 0 0, .slice none 0 0, .slice none 0 0], .int .i64 (chkL s xs)]) ∧ Below w.heap.size w w') := by
  refine enterF (args := [s.f.val, .slice a m c]) Tryz.func29 rfl Tryz.ntmps29 rfl ?_
  have hS := St.start w
  refine seqF ?_
  refine regF ?_
  refine op_box (cs := [_, _, _]) hS rfl rfl rfl ?_
  clear hS; intro B1 W1 hS
  refine op_alloc (cs := [_, _, _, _, _, _]) hS Tryz.zeroValue33 rfl rfl ?_
  clear hS; intro B2 W2 hS
  refine op_assign rfl rfl ?_
  refine endF ?_
  refine XF.thenN ?_
  refine seqF ?_
  refine seqF ?_
  refine regF ?_
  refine op_loadA (vs := [_, _, _]) Tryz.isAgg25 Tryz.sizeOf25 rfl (CellsAt.own (j := 0) (m := 3) (hS.at_ 1 rfl) rfl) rfl ?_
  refine op_move rfl rfl ?_
  refine op_call (vs := [_, _]) hS goes_45 rfl (checkAllW_gen ds d s a m c xs _ (SIn.below hS.below hs) (hrow.below hS.below) hlen (fun x hx => WIn.below hS.below (hin x hx)) hsm hmx) rfl ?_
  rintro e W3 ⟨rfl, hb⟩
  refine ⟨_, rfl, hb, fun hS' => ?_⟩
  clear hS; have hS := hS'; clear hS' hb
  refine op_assign rfl rfl ?_
  refine endF ?_
  refine XF.thenN ?_
  refine seqF ?_
  refine regF ?_
  refine op_move rfl rfl ?_
  refine op_neq rfl rfl rfl ?_
  refine endF ?_
  refine XF.thenN ?_
  refine condF rfl (fun hc => ?_) (fun hc => absurd (of_decide_eq_false hc) (by omega))
  have hc := of_decide_eq_true hc
  refine seqF ?_
  refine regF ?_
  refine op_build (us := []) rfl (bld_33) rfl ?_
  refine op_move rfl rfl ?_
  refine op_storeA (i := 0) (vs := [_, _, _, _, _, _]) (cs' := [_, _, _, _, _, _]) (O' := [_, _]) hS Tryz.sizeOf33 rfl rfl rfl rfl rfl rfl rfl ?_
  clear hS; intro W4 hS
  refine op_assign rfl rfl ?_
  refine endF ?_
  refine XF.thenN ?_
  refine retF ?_
  refine XF.thenR ?_
  refine XF.res (resCT (vs := [_, _, _, _, _, _]) Tryz.results29 Tryz.isAgg33 Tryz.sizeOf33 rfl (CellsAt.own (j := 0) (m := 6) (hS.at_ 0 rfl) rfl) rfl) ?_
  exact ⟨rfl, hS.below⟩

set_option maxRecDepth 100000 in
set_option maxHeartbeats 4000000 in
theorem CombineR_bad (ds d : Nat) (s : SV) (a : Option Addr) (m c : Nat) (xs : List WV) (w : World) (hs : SIn w ds s) (hrow : PRow w a xs) (hlen : xs.length = m) (hin : ∀ x ∈ xs, WIn w d x) (hsm : ∀ x ∈ xs, smN 4 x = true) (hmx : m ≤ 9223372036854775807) (hne : chkL s xs ≠ 0) :
    Calls Tryz.prog 28 #[s.f.val, .slice a m c] w (fun e w' => e = .returned (.tuple #[.agg #[.bool false, .int .i64 0, .int .u64 0, .slice none 0 0, .slice none 0 0, .slice none 0 0], .int .i64 (chkL s xs)]) ∧ Below w.heap.size w w') := by
  refine enterF (args := [s.f.val, .slice a m c]) Tryz.func28 rfl Tryz.ntmps28 rfl ?_
  have hS := St.start w
  refine seqF ?_
  refine regF ?_
  refine op_box (cs := [_, _, _]) hS rfl rfl rfl ?_
  clear hS; intro B1 W1 hS
  refine op_alloc (cs := [_, _, _, _, _, _]) hS Tryz.zeroValue33 rfl rfl ?_
  clear hS; intro B2 W2 hS
  refine op_assign rfl rfl ?_
  refine endF ?_
  refine XF.thenN ?_
  refine seqF ?_
  refine regF ?_
  refine op_loadA (vs := [_, _, _]) Tryz.isAgg25 Tryz.sizeOf25 rfl (CellsAt.own (j := 0) (m := 3) (hS.at_ 1 rfl) rfl) rfl ?_
  refine op_move rfl rfl ?_
  refine op_call (vs := [_, _]) hS goes_53 rfl (allR_gen ds d s a m c xs _ (SIn.below hS.below hs) (hrow.below hS.below) hlen (fun x hx => WIn.below hS.below (hin x hx)) hsm hmx) rfl ?_
  rintro e W3 ⟨rfl, hb⟩
  refine ⟨_, rfl, hb, fun hS' => ?_⟩
  clear hS; have hS := hS'; clear hS' hb
  refine op_assign rfl rfl ?_
  refine endF ?_
  refine XF.thenN ?_
  refine seqF ?_
  refine seqF ?_
  refine regF ?_
  refine op_move rfl rfl ?_
  refine op_neq rfl rfl rfl ?_
  refine endF ?_
  refine XF.thenN ?_
  refine condF rfl (fun hc => ?_) (fun hc => absurd (of_decide_eq_false hc) (by omega))
  have hc := of_decide_eq_true hc
  refine seqF ?_
  refine regF ?_
  refine op_build (us := []) rfl (bld_33) rfl ?_
  refine op_move rfl rfl ?_
  refine op_storeA (i := 0) (vs := [_, _, _, _, _, _]) (cs' := [_, _, _, _, _, _]) (O' := [_, _]) hS Tryz.sizeOf33 rfl rfl rfl rfl rfl rfl rfl ?_
  clear hS; intro W4 hS
  refine op_assign rfl rfl ?_
  refine endF ?_
  refine XF.thenN ?_
  refine retF ?_
  refine XF.thenR ?_
  refine XF.res (resCT (vs := [_, _, _, _, _, _]) Tryz.results28 Tryz.isAgg33 Tryz.sizeOf33 rfl (CellsAt.own (j := 0) (m := 6) (hS.at_ 0 rfl) rfl) rfl) ?_
  exact ⟨rfl, hS.below⟩

set_option maxRecDepth 100000 in
set_option maxHeartbeats 4000000 in
theorem ExtendR_bad (ds d : Nat) (s : SV) (a : Option Addr) (m c : Nat) (xs : List WV) (w : World) (hs : SIn w ds s) (hrow : PRow w a xs) (hlen : xs.length = m) (hin : ∀ x ∈ xs, WIn w d x) (hsm : ∀ x ∈ xs, smN 4 x = true) (hmx : m ≤ 9223372036854775807) (hne : chkL s xs ≠ 0) :
    Calls Tryz.prog 30 #[s.f.val, .slice a m c] w (fun e w' => e = .returned (.tuple #[.agg #[.bool false, .int .i64 0, .int .u64 0, .slice none 0 0, .slice none 0 0, .slice none 0 0], .int .i64 (chkL s xs)]) ∧ Below w.heap.size w w') := by
  refine enterF (args := [s.f.val, .slice a m c]) Tryz.func30 rfl Tryz.ntmps30 rfl ?_
  have hS := St.start w
  refine seqF ?_
  refine regF ?_
  refine op_box (cs := [_, _, _]) hS rfl rfl rfl ?_
  clear hS; intro B1 W1 hS
  refine op_alloc (cs := [_, _, _, _, _, _]) hS Tryz.zeroValue33 rfl rfl ?_
  clear hS; intro B2 W2 hS
  refine op_assign rfl rfl ?_
  refine endF ?_
  refine XF.thenN ?_
  refine seqF ?_
  refine regF ?_
  refine op_loadA (vs := [_, _, _]) Tryz.isAgg25 Tryz.sizeOf25 rfl (CellsAt.own (j := 0) (m := 3) (hS.at_ 1 rfl) rfl) rfl ?_
  refine op_move rfl rfl ?_
  refine op_call (vs := [_, _]) hS goes_53 rfl (allR_gen ds d s a m c xs _ (SIn.below hS.below hs) (hrow.below hS.below) hlen (fun x hx => WIn.below hS.below (hin x hx)) hsm hmx) rfl ?_
  rintro e W3 ⟨rfl, hb⟩
  refine ⟨_, rfl, hb, fun hS' => ?_⟩
  clear hS; have hS := hS'; clear hS' hb
  refine op_assign rfl rfl ?_
  refine endF ?_
  refine XF.thenN ?_
  refine seqF ?_
  refine seqF ?_
  refine regF ?_
  refine op_move rfl rfl ?_
  refine op_neq rfl rfl rfl ?_
  refine endF ?_
  refine XF.thenN ?_
  refine condF rfl (fun hc => ?_) (fun hc => absurd (of_decide_eq_false hc) (by omega))
  have hc := of_decide_eq_true hc
  refine seqF ?_
  refine regF ?_
  refine op_build (us := []) rfl (bld_33) rfl ?_
  refine op_move rfl rfl ?_
  refine op_storeA (i := 0) (vs := [_, _, _, _, _, _]) (cs' := [_, _, _, _, _, _]) (O' := [_, _]) hS Tryz.sizeOf33 rfl rfl rfl rfl rfl rfl rfl ?_
  clear hS; intro W4 hS
  refine op_assign rfl rfl ?_
  refine endF ?_
  refine XF.thenN ?_
  refine retF ?_
  refine XF.thenR ?_
  refine XF.res (resCT (vs := [_, _, _, _, _, _]) Tryz.results30 Tryz.isAgg33 Tryz.sizeOf33 rfl (CellsAt.own (j := 0) (m := 6) (hS.at_ 0 rfl) rfl) rfl) ?_
  exact ⟨rfl, hS.below⟩

set_option maxRecDepth 100000 in
set_option maxHeartbeats 4000000 in
theorem BelowW_bad (ds d : Nat) (s : SV) (x y : WV) (w : World) (hs : SIn w ds s) (hx : WIn w d x) (hy : WIn w d y) (hxs : smN 4 x = true) (hys : smN 4 y = true) (hne : chkL s [x, y] ≠ 0) :
    Calls Tryz.prog 31 #[s.f.val, x.f.val, y.f.val] w (fun e w' => e = .returned (.tuple #[.bool false, .int .i64 (chkL s [x, y])]) ∧ Below w.heap.size w w') := by
  refine enterF (args := [s.f.val, x.f.val, y.f.val]) Tryz.func31 rfl Tryz.ntmps31 rfl ?_
  have hS := St.start w
  refine seqF ?_
  refine regF ?_
  refine op_box (cs := [_, _, _]) hS rfl rfl rfl ?_
  clear hS; intro B1 W1 hS
  refine op_box (cs := [_, _, _, _, _, _]) hS rfl rfl rfl ?_
  clear hS; intro B2 W2 hS
  refine op_box (cs := [_, _, _, _, _, _]) hS rfl rfl rfl ?_
  clear hS; intro B3 W3 hS
  refine op_assign rfl rfl ?_
  refine op_assign rfl rfl ?_
  refine endF ?_
  refine XF.thenN ?_
  refine seqF ?_
  refine seqF ?_
  refine regF ?_
  refine op_loadA (vs := [_, _, _]) Tryz.isAgg25 Tryz.sizeOf25 rfl (CellsAt.own (j := 0) (m := 3) (hS.at_ 2 rfl) rfl) rfl ?_
  refine op_loadA (vs := [_, _, _, _, _, _]) Tryz.isAgg33 Tryz.sizeOf33 rfl (CellsAt.own (j := 0) (m := 6) (hS.at_ 1 rfl) rfl) rfl ?_
  refine op_loadA (vs := [_, _, _, _, _, _]) Tryz.isAgg33 Tryz.sizeOf33 rfl (CellsAt.own (j := 0) (m := 6) (hS.at_ 0 rfl) rfl) rfl ?_
  refine op_buildSlice (us := [(0, .agg (List.toArray [_, _, _, _, _, _])), (1, .agg (List.toArray [_, _, _, _, _, _]))]) hS Tryz.underlying31 Tryz.sizeOf33 Tryz.zeroValue33 rfl rfl rfl (bs_31_2 _ _ _ _ _ _ _ _ _ _ _ _) rfl ?_
  clear hS; intro B4 W4 hS
  refine op_call (vs := [_, _]) hS goes_45 rfl (checkAllW_gen ds d s _ 2 2 [x, y] _ (SIn.below hS.below hs) (prow2 (hS.at_ 0 rfl)) rfl (two_all (WIn.below hS.below hx) (WIn.below hS.below hy)) (two_all hxs hys) (by decide)) rfl ?_
  rintro e W5 ⟨rfl, hb⟩
  refine ⟨_, rfl, hb, fun hS' => ?_⟩
  clear hS; have hS := hS'; clear hS' hb
  refine op_assign rfl rfl ?_
  refine endF ?_
  refine XF.thenN ?_
  refine seqF ?_
  refine regF ?_
  refine op_move rfl rfl ?_
  refine op_neq rfl rfl rfl ?_
  refine endF ?_
  refine XF.thenN ?_
  refine condF rfl (fun hc => ?_) (fun hc => absurd (of_decide_eq_false hc) (by omega))
  have hc := of_decide_eq_true hc
  refine seqF ?_
  refine regF ?_
  refine op_move rfl rfl ?_
  refine op_assign rfl rfl ?_
  refine op_assign rfl rfl ?_
  refine endF ?_
  refine XF.thenN ?_
  refine retF ?_
  refine XF.thenR ?_
  refine XF.res (res2 Tryz.results31 rfl rfl) ?_
  exact ⟨rfl, hS.below⟩

set_option maxRecDepth 100000 in
set_option maxHeartbeats 4000000 in
theorem BelowR_bad (ds d : Nat) (s : SV) (x y : WV) (w : World) (hs : SIn w ds s) (hx : WIn w d x) (hy : WIn w d y) (hxs : smN 4 x = true) (hys : smN 4 y = true) (hne : chkL s [x, y] ≠ 0) :
    Calls Tryz.prog 32 #[s.f.val, x.f.val, y.f.val] w (fun e w' => e = .returned (.tuple #[.bool false, .int .i64 (chkL s [x, y])]) ∧ Below w.heap.size w w') := by
  refine enterF (args := [s.f.val, x.f.val, y.f.val]) Tryz.func32 rfl Tryz.ntmps32 rfl ?_
  have hS := St.start w
  refine seqF ?_
  refine regF ?_
  refine op_box (cs := [_, _, _]) hS rfl rfl rfl ?_
  clear hS; intro B1 W1 hS
  refine op_box (cs := [_, _, _, _, _, _]) hS rfl rfl rfl ?_
  clear hS; intro B2 W2 hS
  refine op_box (cs := [_, _, _, _, _, _]) hS rfl rfl rfl ?_
  clear hS; intro B3 W3 hS
  refine op_assign rfl rfl ?_
  refine op_assign rfl rfl ?_
  refine endF ?_
  refine XF.thenN ?_
  refine seqF ?_
  refine regF ?_
  refine op_loadA (vs := [_, _, _]) Tryz.isAgg25 Tryz.sizeOf25 rfl (CellsAt.own (j := 0) (m := 3) (hS.at_ 2 rfl) rfl) rfl ?_
  refine op_loadA (vs := [_, _, _, _, _, _]) Tryz.isAgg33 Tryz.sizeOf33 rfl (CellsAt.own (j := 0) (m := 6) (hS.at_ 1 rfl) rfl) rfl ?_
  refine op_loadA (vs := [_, _, _, _, _, _]) Tryz.isAgg33 Tryz.sizeOf33 rfl (CellsAt.own (j := 0) (m := 6) (hS.at_ 0 rfl) rfl) rfl ?_
  refine op_buildSlice (us := [(0, .agg (List.toArray [_, _, _, _, _, _])), (1, .agg (List.toArray [_, _, _, _, _, _]))]) hS Tryz.underlying31 Tryz.sizeOf33 Tryz.zeroValue33 rfl rfl rfl (bs_31_2 _ _ _ _ _ _ _ _ _ _ _ _) rfl ?_
  clear hS; intro B4 W4 hS
  refine op_call (vs := [_, _]) hS goes_28 rfl (CombineR_bad ds d s _ 2 2 [x, y] _ (SIn.below hS.below hs) (prow2 (hS.at_ 0 rfl)) rfl (two_all (WIn.below hS.below hx) (WIn.below hS.below hy)) (two_all hxs hys) (by decide) hne) rfl ?_
  rintro e W5 ⟨rfl, hb⟩
  refine ⟨_, rfl, hb, fun hS' => ?_⟩
  clear hS; have hS := hS'; clear hS' hb
  refine op_move rfl rfl ?_
  refine op_extract rfl rfl rfl ?_
  refine op_extract rfl rfl rfl ?_
  refine op_alloc (cs := [_, _, _, _, _, _]) hS Tryz.zeroValue33 rfl rfl ?_
  clear hS; intro B6 W6 hS
  refine op_storeA (i := 0) (vs := [_, _, _, _, _, _]) (cs' := [_, _, _, _, _, _]) (O' := [_, _, _, _, _]) hS Tryz.sizeOf33 rfl rfl rfl rfl rfl rfl rfl ?_
  clear hS; intro W7 hS
  refine op_assign rfl rfl ?_
  refine endF ?_
  refine XF.thenN ?_
  refine seqF ?_
  refine regF ?_
  refine op_move rfl rfl ?_
  refine op_eql rfl rfl rfl ?_
  refine op_move rfl rfl ?_
  refine op_cases (d := 20) rfl (fun hc => absurd (of_decide_eq_true hc) (by exact hne)) (fun hc => ?_)
  have hc := of_decide_eq_false hc
  refine op_notF (d := 20) rfl rfl rfl rfl ?_
  refine op_notF (d := 20) rfl rfl rfl rfl ?_
  refine op_notF (d := 20) rfl rfl rfl rfl ?_
  refine op_pickF rfl rfl rfl ?_
  refine op_move rfl rfl ?_
  refine op_assign rfl rfl ?_
  refine op_assign rfl rfl ?_
  refine endF ?_
  refine XF.thenN ?_
  refine retF ?_
  refine XF.res (res2 Tryz.results32 rfl rfl) ?_
  exact ⟨rfl, hS.below⟩
end Go.Proofs.YtjcminoaiieckaaGreatDoor
namespace Go.Proofs.YtjcminoaiieckaaGreatDoor
open Go Go.RowKit
set_option linter.unusedVariables false
def MK (M : World → Prop) (K : List (Nat × World)) (W : World) : Prop := M W ∧ ∀ q ∈ K, Agree q.1 q.2 W
theorem MK.head {M : World → Prop} {W : World} {q : Nat × World} {K : List (Nat × World)} (h : MK M (q :: K) W) : Agree q.1 q.2 W := h.2 q List.mem_cons_self
theorem MK.tail {M : World → Prop} {W : World} {q : Nat × World} {K : List (Nat × World)} (h : MK M (q :: K) W) : MK M K W := ⟨h.1, fun r hr => h.2 r (List.mem_cons_of_mem _ hr)⟩
theorem MK.keep {M : World → Prop} {W W' : World} {K : List (Nat × World)} (h : MK M K W) (hM : KeepsB M) (hb : Below W.heap.size W W') : MK M K W' := ⟨hM _ _ h.1 hb, fun q hq => (h.2 q hq).trans (below_agree hb _)⟩
theorem keepsB_MK {M : World → Prop} (hM : KeepsB M) (K : List (Nat × World)) : KeepsB (MK M K) := fun W W' h hb => h.keep hM hb
theorem St.stays {M : World → Prop} {w0 W : World} {O : Own} {G : Grows} {K : List (Nat × World)} (h : St w0 O G K W) (hM : KeepsB M) (hw : M w0) : MK M K W := ⟨hM _ _ hw h.below, fun q hq => (h.kept q hq).1⟩
theorem one_le {lo n : Nat} {A : World} (h : lo ≤ n) : ∀ q ∈ [(n, A)], lo ≤ q.1 := fun q hq => by
  simp only [List.mem_cons, List.not_mem_nil, or_false] at hq
  subst hq; exact h
theorem St.keep1 {w0 W : World} {O : Own} {G : Grows} {q : Nat × World} {K : List (Nat × World)} (h : St w0 O G (q :: K) W) : St w0 O G [q] W := h.keep [q] (fun r hr => by
  simp only [List.mem_cons, List.not_mem_nil, or_false] at hr
  subst hr; exact List.mem_cons_self)
def XRet2 (M : World → Prop) (S : PS) (x : PX) (e0 : Int) (w : World) (e : Ending) (w' : World) : Prop := ∃ f : WF, e = .returned (.tuple #[f.val, .int .i64 e0]) ∧ FarX (fun W => M W ∧ Agree w.heap.size w' W) S f x ∧ Below w.heap.size w w'
def XLF (M : World → Prop) (S : PS) (fs : List WF) (xs : List PX) : Prop := fs.length = xs.length ∧ ∀ (i : Nat) f x, fs[i]? = some f → xs[i]? = some x → FarX M S f x
theorem XLF.is {M : World → Prop} {w : World} {S : PS} {fs : List WF} {xs : List PX} (h : XLF M S fs xs) (hw : M w) : XL w S fs xs := ⟨h.1, fun i f x hf hx => (h.2 i f x hf hx).is hw⟩
theorem XLF.at_ {M : World → Prop} {S : PS} {fs : List WF} {xs : List PX} (h : XLF M S fs xs) {k : Nat} (hk : k < fs.length) : ∃ f x, fs[k]? = some f ∧ xs[k]? = some x ∧ FarX M S f x :=
  ⟨fs[k], xs[k]'(by have := h.1; omega), by simp [hk], by have := h.1; simp [show k < xs.length by omega], h.2 k _ _ (by simp [hk]) (by have := h.1; simp [show k < xs.length by omega])⟩
theorem XL.far {w : World} {S : PS} {fs : List WF} {xs : List PX} (h : XL w S fs xs) : XLF (fun W => Below w.heap.size w W) S fs xs := ⟨h.1, fun i f x hf hx => (h.2 i f x hf hx).far⟩
theorem keepsB_below (w : World) : KeepsB (fun W => Below w.heap.size w W) := fun W W' h hb => h.trans (hb.mono h.size)
theorem comb2 {S : PS} {x y : PX} (hx : OkX S x) : [x, y].foldl (combX S) (zeroX S) = combX S x y := by
  simp only [List.foldl_cons, List.foldl_nil, combX_zero hx]
theorem isR_ok {w : World} {S : PS} {sf : SF} {f : WF} {x : PX} (hs : SIs w S sf) (hok : S.ok) (hx : XIs w S f x) : Calls Tryz.prog 46 #[sf.val, f.val] w fun e w' => e = .returned (.bool true) ∧ Below w.heap.size w w' := by
  cases S <;> cases x <;> first | exact hx.elim | skip
  · obtain ⟨a, c, rfl⟩ := hs
    exact isR_plain _ _ _ _ _ _ hok (PIs.rl100 hx) w (PIs.at_ hx) true (PIs.pw hx)
  · obtain ⟨b, off, c, a1, c1, a2, c2, rfl, h1, h2⟩ := hs
    obtain ⟨ra, ca, rc, cc, pc, fb, fo, f1, f2, rfl, h6, h7, h8, h9⟩ := hx.two
    exact isR_pair 1 _ _ _ _ _ _ w (sin_two h1 h2) hok.1 hok.2 1 (two_win h6 h7 h8 h9) (by intro p hp; simp at hp; rcases hp with rfl | rfl <;> first | exact h8.rl100 | exact h9.rl100) true (two_pairOk h8 h9)
theorem eq_one {w : World} {t n : Int} {f g : WF} {x y : PF} (hx : PIs w t n f x) (hy : PIs w t n g y) : eqW 1 (.mk f []) (.mk g []) = true ↔ x = y := by
  rw [eqW_iff, ← hx.pf, ← hy.pf]
  simp [WF.pf]
theorem win_one {w : World} {t n : Int} {f : WF} {x : PF} (hx : PIs w t n f x) (d : Nat) : WIn w (d + 1) (.mk f []) := ⟨hx.at_, hx.pl.symm, .inl rfl, by simp⟩
theorem smN_one {w : World} {t n : Int} {f : WF} {x : PF} (hx : PIs w t n f x) (k : Nat) : smN (k + 1) (.mk f []) = true := by
  have h := hx.rows64 (l := 0)
  simp only [smN, Bool.and_eq_true, decide_eq_true_eq, List.all_nil]
  exact ⟨by omega, by omega, by rw [hx.pl]; decide, trivial⟩
theorem sameA_ok {w : World} {S : PS} {f g : WF} {x y : PX} (hx : XIs w S f x) (hy : XIs w S g y) (r : Bool) (hr : r = true ↔ x = y) : Calls Tryz.prog 23 #[f.val, g.val] w fun e w' => e = .returned (.bool r) ∧ Below w.heap.size w w' := by
  cases S <;> cases x <;> cases y <;> first | exact hx.elim | exact hy.elim | skip
  · refine (sameWA_is 2 4 (.mk f []) (.mk g []) w (win_one hx 1) (win_one hy 1) (smN_one hx 3) (smN_one hy 3)).mono fun e w' h => ⟨h.1.trans (rbool (r_same hr ?_)), h.2⟩
    rw [eqW_iff]
    have h1 := (eq_one hx hy).symm
    rw [eqW_iff] at h1
    simp only [PX.one.injEq]
    exact h1
  · obtain ⟨ra, ca, rc, cc, pc, fb, fo, f1, f2, rfl, h6, h7, h8, h9⟩ := hx.two
    obtain ⟨ra', ca', rc', cc', pc', gb, go, g1, g2, rfl, h6', h7', h8', h9'⟩ := hy.two
    have sm : ∀ {t n u m : Int} {a b : PF} {f1 f2 : WF} {ra ca : Option Addr} {rc cc pc fb fo : Nat}, PIs w t n f1 a → PIs w u m f2 b → smN 4 (.mk ⟨false, 0, 0, ra, 0, rc, [], ca, 0, cc, [], some ⟨fb, fo, none⟩, 2, pc⟩ [.mk f1 [], .mk f2 []]) = true := by
      intro t n u m a b f1 f2 ra ca rc cc pc fb fo ha hb
      have e1 := smN_one ha 2
      have e2 := smN_one hb 2
      show (decide _ && (decide _ && (decide _ && [WV.mk f1 [], WV.mk f2 []].all (smN 3)))) = true
      simp [e1, e2]
    refine (sameWA_is 2 4 _ _ w (two_win h6 h7 h8 h9) (two_win h6' h7' h8' h9') (sm h8 h9) (sm h8' h9')).mono fun e w' h => ⟨h.1.trans (rbool (r_same hr ?_)), h.2⟩
    rw [eqW_iff]
    have e1 := eq_one h8 h8'
    have e2 := eq_one h9 h9'
    simp [e1, e2]

set_option maxRecDepth 100000 in
set_option maxHeartbeats 4000000 in
theorem allR_ok (S : PS) (sf : SF) (w : World) (hs : SIs w S sf) (hok : S.ok) (a : Option Addr) (c m : Nat) (fs : List WF) (xs : List PX) (hr : FRow w a fs) (hx : XL w S fs xs) (hm : fs.length = m) (hmx : m ≤ 9223372036854775807) :
    Calls Tryz.prog 53 #[sf.val, .slice a m c] w (fun e w' => e = .returned (.int .i64 0) ∧ Below w.heap.size w w') := by
  refine enterF (args := [sf.val, .slice a m c]) Tryz.func53 rfl Tryz.ntmps53 rfl ?_
  have hS := St.start w
  refine seqF ?_
  refine regF ?_
  refine op_box (cs := [_, _, _]) hS rfl rfl rfl ?_
  clear hS; intro B1 W1 hS
  refine op_assign rfl rfl ?_
  refine endF ?_
  refine XF.thenN ?_
  refine seqF ?_
  refine seqF ?_
  refine regF ?_
  refine op_loadA (vs := [_, _, _]) Tryz.isAgg25 Tryz.sizeOf25 rfl (CellsAt.own (j := 0) (m := 3) (hS.at_ 0 rfl) rfl) rfl ?_
  refine op_call (vs := [_]) hS goes_19 rfl (spaceR_ok (hs.below hS.below) hok) rfl ?_
  rintro e W2 ⟨rfl, hb⟩
  refine ⟨_, rfl, hb, fun hS' => ?_⟩
  clear hS; have hS := hS'; clear hS' hb
  refine op_neq rfl rfl rfl ?_
  refine endF ?_
  refine XF.thenN ?_
  refine condF rfl (fun hc => absurd (of_decide_eq_true hc) (by omega)) (fun hc => ?_)
  have hc := of_decide_eq_false hc
  refine skipF ?_
  refine XF.thenN ?_
  refine seqF ?_
  refine seqF ?_
  refine regF ?_
  refine op_assign rfl rfl ?_
  refine endF ?_
  refine XF.thenN ?_
  refine blockF ?_
  refine loopF (fun q l W => ∃ k : Nat, k ≤ m ∧ q = m - k ∧ l = [(1, .slice a m c), (2, .pointer (some ⟨B1, 0, none⟩)), (5, .int .i64 (k : Int))] ∧ St w [(B1, [.int .i64 sf.tag, .int .i64 sf.dim, .slice sf.a sf.len sf.cap], 25)] [] [] W) (m - 0) ([(1, _), (2, _), (5, _)]) ⟨rfl, rfl, rfl, trivial⟩ (⟨0, Nat.zero_le _, rfl, rfl, hS.clear⟩) ?_
  clear hS
  rintro q l W ⟨k, hkm, rfl, rfl, hS⟩
  refine seqF ?_
  refine seqF ?_
  refine regF ?_
  refine op_move rfl rfl ?_
  refine op_move rfl rfl ?_
  refine op_len Tryz.underlying31 rfl rfl ?_
  refine op_lss rfl rfl rfl ?_
  refine endF ?_
  refine XF.thenN ?_
  refine condF rfl (fun hc => ?_) (fun hc => ?_)
  · have hc12 := of_decide_eq_true hc; clear hc
    have hk : k < m := by omega
    obtain ⟨f, x, hf, hxk, hxx⟩ := hx.at_ (k := k) (by omega)
    obtain ⟨b, off, rfl, h6⟩ := hr.at_ hf
    have k1 := CellsAt.agree hS.agree (Nat.zero_le _) h6.cells
    refine skipF ?_
    refine XF.thenN ?_
    refine seqF ?_
    refine blockF ?_
    refine seqF ?_
    refine regB (m := 7) followsM hS (by kernel_rfl) (by kernel_rfl) rfl ?_
    refine bl_cons 1 rfl (isV _) (stab_isV _) (rgV (li := [(2, _)]) rfl (w_free rfl) ⟨g_fr (by kernel_rfl) rfl, trivial⟩ (fun w hw => rn_loadA (vs := [_, _, _]) Tryz.isAgg25 Tryz.sizeOf25 rfl (CellsAt.agree (below_agree hw 0) (Nat.zero_le _) (CellsAt.own (j := 0) (m := 3) (hS.at_ 0 rfl) rfl))) (at_top rfl)) ?_
    refine bl_cons 2 rfl (isV _) (stab_isV _) (rgV (li := [(1, _)]) rfl (w_free rfl) ⟨g_fr (by kernel_rfl) rfl, trivial⟩ (fun w hw => rn_move rfl) (at_top rfl)) ?_
    refine bl_cons 3 rfl (isV _) (stab_isV _) (rgV (li := [(5, _)]) rfl (w_free rfl) ⟨g_fr (by kernel_rfl) rfl, trivial⟩ (fun w hw => rn_move rfl) (at_top rfl)) ?_
    refine bl_cons 4 rfl (isV _) (stab_isV _) (rgV (li := [(16, _), (17, _)]) rfl (w_free rfl) ⟨g_dep 1 (by kernel_rfl) (at_dep rfl rfl rfl), g_dep 2 (by kernel_rfl) (at_dep rfl rfl rfl), trivial⟩ (fun w hw => rn_indexA  Tryz.underlying31 Tryz.sizeOf33 rfl rfl rfl (by omega) rfl) (at_top rfl)) ?_
    refine bl_cons 5 rfl (isV _) (stab_isV _) (rgV (li := [(18, _)]) rfl (w_free rfl) ⟨g_dep 3 (by kernel_rfl) (at_dep rfl rfl rfl), trivial⟩ (fun w hw => rn_loadA (vs := [_, _, _, _, _, _]) Tryz.isAgg33 Tryz.sizeOf33 rfl (CellsAt.agree (below_agree hw 0) (Nat.zero_le _) (by assumption))) (at_top rfl)) ?_
    refine bl_cons 6 rfl (isV (.bool true)) (stab_isV _) (rg_call [isV _, isV _] rfl goes_46 (w_free rfl) ⟨p_tmp (g_dep 0 (by kernel_rfl) (at_dep rfl rfl rfl)), p_tmp (g_dep 4 (by kernel_rfl) (at_dep rfl rfl rfl)), trivial⟩ (fun vs w' hb hh => by have e := holds_isV (us := [_, _]) hh; subst e; exact (isR_ok (hs.below (hS.below.trans (hb.mono hS.below.size))) hok (hxx.below (hS.below.trans (hb.mono hS.below.size)))).mono fun e w2 h => ⟨_, h.1, rfl, h.2⟩) (at_top rfl)) ?_
    refine bl_cons 7 rfl (isV (.bool false)) (stab_isV _) (rgVe (li := [(20, _)]) rfl (w_free rfl) ⟨g_dep 5 (by kernel_rfl) (at_dep rfl rfl rfl), trivial⟩ (fun w hw => rn_not rfl) (rfl) (at_top rfl)) ?_
    refine bl_nil ?_
    intro W3 hbR hS'
    clear hS; have hS := hS'; clear hS'
    refine fin_v ?_
    refine fin_v ?_
    refine fin_v ?_
    refine fin_v ?_
    refine fin_v ?_
    refine fin_v ?_
    refine fin_v ?_
    refine fin_nil ?_
    refine XF.thenN ?_
    refine condN rfl ?_
    refine skipF ?_
    refine XF.blkN ?_
    refine XF.thenN ?_
    refine regF ?_
    refine op_move rfl rfl ?_
    refine op_add rfl rfl (IntWalk.i64_in _ (by omega)) rfl ?_
    refine op_assign rfl rfl ?_
    refine endF ?_
    exact XF.round (m - (k + 1)) [(1, _), (2, _), (5, _)] (by omega) ⟨rfl, rfl, rfl, trivial⟩ ⟨k + 1, by omega, rfl, rfl, hS.clear⟩
  · have hc12 := of_decide_eq_false hc; clear hc
    refine exitF ?_
    refine XF.thenX ?_
    refine XF.thenX ?_
    refine XF.blkX ?_
    refine XF.thenN ?_
    refine seqF ?_
    refine regF ?_
    refine op_assign rfl rfl ?_
    refine endF ?_
    refine XF.thenN ?_
    refine retF ?_
    refine XF.res (res1 Tryz.results53 rfl) ?_
    exact ⟨rfl, hS.below⟩

set_option maxRecDepth 100000 in
set_option maxHeartbeats 4000000 in
theorem CombineR_ok (S : PS) (sf : SF) (w : World) (hs : SIs w S sf) (hok : S.ok) (M : World → Prop) (hM : KeepsB M) (hw : M w) (a : Option Addr) (c m : Nat) (fs : List WF) (xs : List PX) (hr : FRow w a fs) (hx : XLF M S fs xs) (hm : fs.length = m) (hmx : m ≤ 9223372036854775807) :
    Calls Tryz.prog 28 #[sf.val, .slice a m c] w (XRet2 M S (xs.foldl (combX S) (zeroX S)) 0 w) := by
  refine enterF (args := [sf.val, .slice a m c]) Tryz.func28 rfl Tryz.ntmps28 rfl ?_
  have hS := St.start w
  refine seqF ?_
  refine regF ?_
  refine op_box (cs := [_, _, _]) hS rfl rfl rfl ?_
  clear hS; intro B1 W1 hS
  refine op_alloc (cs := [_, _, _, _, _, _]) hS Tryz.zeroValue33 rfl rfl ?_
  clear hS; intro B2 W2 hS
  refine op_assign rfl rfl ?_
  refine endF ?_
  refine XF.thenN ?_
  refine seqF ?_
  refine regF ?_
  refine op_loadA (vs := [_, _, _]) Tryz.isAgg25 Tryz.sizeOf25 rfl (CellsAt.own (j := 0) (m := 3) (hS.at_ 1 rfl) rfl) rfl ?_
  refine op_move rfl rfl ?_
  refine op_call (vs := [_, _]) hS goes_53 rfl (allR_ok S sf _ (hs.below hS.below) hok a c m fs xs (hr.below hS.below) ((hx.is hw).below hS.below) hm hmx) rfl ?_
  rintro e W3 ⟨rfl, hb⟩
  refine ⟨_, rfl, hb, fun hS' => ?_⟩
  clear hS; have hS := hS'; clear hS' hb
  refine op_assign rfl rfl ?_
  refine endF ?_
  refine XF.thenN ?_
  refine seqF ?_
  refine seqF ?_
  refine regF ?_
  refine op_move rfl rfl ?_
  refine op_neq rfl rfl rfl ?_
  refine endF ?_
  refine XF.thenN ?_
  refine condF rfl (fun hc => absurd (of_decide_eq_true hc) (by omega)) (fun hc => ?_)
  have hc := of_decide_eq_false hc
  refine skipF ?_
  refine XF.thenN ?_
  refine seqF ?_
  refine regF ?_
  refine op_loadA (vs := [_, _, _]) Tryz.isAgg25 Tryz.sizeOf25 rfl (CellsAt.own (j := 0) (m := 3) (hS.at_ 1 rfl) rfl) rfl ?_
  have hsz0 := hS.below.size
  refine op_call (vs := [_]) hS goes_42 rfl (zeroR_ok (hs.below hS.below) hok) rfl ?_
  rintro e W4 ⟨f0, rfl, hn, hb⟩
  refine ⟨_, rfl, hb, fun hS' => ?_⟩
  clear hS; have hS := hS'; clear hS'
  refine op_alloc (cs := [_, _, _, _, _, _]) hS Tryz.zeroValue33 rfl rfl ?_
  clear hS; intro B5 W5 hS
  refine op_storeA (i := 0) (vs := [_, _, _, _, _, _]) (cs' := [_, _, _, _, _, _]) (O' := [_, _, _]) hS Tryz.sizeOf33 rfl rfl rfl rfl rfl rfl rfl ?_
  clear hS; intro W6 hS
  refine endF ?_
  refine XF.thenN ?_
  refine seqF ?_
  refine seqF ?_
  refine regF ?_
  refine op_assign rfl rfl ?_
  refine endF ?_
  refine XF.thenN ?_
  refine blockF ?_
  refine loopF (fun q l W => ∃ (k : Nat) (f0 : WF) (K : List (Nat × World)), k ≤ m ∧ q = m - k ∧ l = [(1, .slice a m c), (2, .pointer (some ⟨B1, 0, none⟩)), (4, .pointer (some ⟨B2, 0, none⟩)), (7, .pointer (some ⟨B5, 0, none⟩)), (8, .int .i64 (k : Int))] ∧ FarX (MK M K) S f0 ((xs.take k).foldl (combX S) (zeroX S)) ∧ (∀ q ∈ K, w.heap.size ≤ q.1) ∧ St w [(B5, f0.six, 33), (B2, [.bool false, .int .i64 0, .int .u64 0, .slice none 0 0, .slice none 0 0, .slice none 0 0], 33), (B1, [.int .i64 sf.tag, .int .i64 sf.dim, .slice sf.a sf.len sf.cap], 25)] [] K W) (m - 0) ([(1, _), (2, _), (4, _), (7, _), (8, _)]) ⟨rfl, rfl, rfl, rfl, rfl, trivial⟩ (⟨0, f0, _, Nat.zero_le _, rfl, rfl, hn.far.mono (fun W2 h2 => h2.2 _ (List.mem_of_getElem? (i := 0) rfl)), one_le hsz0, hS.keep1⟩) ?_
  clear hS
  rintro q l W ⟨k, f0, K, hkm, rfl, rfl, hn0, hK, hS⟩
  refine seqF ?_
  refine seqF ?_
  refine regF ?_
  refine op_move rfl rfl ?_
  refine op_move rfl rfl ?_
  refine op_len Tryz.underlying31 rfl rfl ?_
  refine op_lss rfl rfl rfl ?_
  refine endF ?_
  refine XF.thenN ?_
  refine condF rfl (fun hc => ?_) (fun hc => ?_)
  · have hc21 := of_decide_eq_true hc; clear hc
    have hk : k < m := by omega
    obtain ⟨f, x, hf, hxk, hxx⟩ := hx.at_ (k := k) (by omega)
    obtain ⟨b, off, rfl, h6⟩ := hr.at_ hf
    have k1 := CellsAt.agree hS.agree (Nat.zero_le _) h6.cells
    have hsz2 := hS.below.size
    refine skipF ?_
    refine XF.thenN ?_
    refine seqF ?_
    refine blockF ?_
    refine regBK followsM 7 hS rfl rfl (by kernel_rfl) (by kernel_rfl) (by kernel_rfl) (fun d hd => by cases hd) ?_
    refine bl_cons 1 rfl (isV _) (stab_isV _) (rgV (li := [(2, _)]) rfl (w_free rfl) ⟨g_fr (by kernel_rfl) rfl, trivial⟩ (fun w hw => rn_loadA (vs := [_, _, _]) Tryz.isAgg25 Tryz.sizeOf25 rfl (CellsAt.agree (below_agree hw 0) (Nat.zero_le _) (CellsAt.own (j := 0) (m := 3) (hS.at_ 2 rfl) rfl))) (at_top rfl)) ?_
    refine bl_cons 2 rfl (isV _) (stab_isV _) (rgV (li := [(7, _)]) rfl (w_free rfl) ⟨g_fr (by kernel_rfl) rfl, trivial⟩ (fun w hw => rn_loadA (vs := [_, _, _, _, _, _]) Tryz.isAgg33 Tryz.sizeOf33 rfl (CellsAt.agree (below_agree hw 0) (Nat.zero_le _) (CellsAt.own (j := 0) (m := 6) (hS.at_ 0 rfl) rfl))) (at_top rfl)) ?_
    refine bl_cons 3 rfl (isV _) (stab_isV _) (rgV (li := [(1, _)]) rfl (w_free rfl) ⟨g_fr (by kernel_rfl) rfl, trivial⟩ (fun w hw => rn_move rfl) (at_top rfl)) ?_
    refine bl_cons 4 rfl (isV _) (stab_isV _) (rgV (li := [(8, _)]) rfl (w_free rfl) ⟨g_fr (by kernel_rfl) rfl, trivial⟩ (fun w hw => rn_move rfl) (at_top rfl)) ?_
    refine bl_cons 5 rfl (isV _) (stab_isV _) (rgV (li := [(26, _), (27, _)]) rfl (w_free rfl) ⟨g_dep 2 (by kernel_rfl) (at_dep rfl rfl rfl), g_dep 3 (by kernel_rfl) (at_dep rfl rfl rfl), trivial⟩ (fun w hw => rn_indexA  Tryz.underlying31 Tryz.sizeOf33 rfl rfl rfl (by omega) rfl) (at_top rfl)) ?_
    refine bl_cons 6 rfl (isV _) (stab_isV _) (rgV (li := [(28, _)]) rfl (w_free rfl) ⟨g_dep 4 (by kernel_rfl) (at_dep rfl rfl rfl), trivial⟩ (fun w hw => rn_loadA (vs := [_, _, _, _, _, _]) Tryz.isAgg33 Tryz.sizeOf33 rfl (CellsAt.agree (below_agree hw 0) (Nat.zero_le _) (by assumption))) (at_top rfl)) ?_
    refine bl_cons 7 rfl (isFar (MK M K) W.heap.size S (combX S ((xs.take k).foldl (combX S) (zeroX S)) x)) (stab_isFar) (rg_call [isV _, isV _, isV _] rfl goes_54 (w_free rfl) ⟨p_tmp (g_dep 0 (by kernel_rfl) (at_dep rfl rfl rfl)), p_tmp (g_dep 1 (by kernel_rfl) (at_dep rfl rfl rfl)), p_tmp (g_dep 5 (by kernel_rfl) (at_dep rfl rfl rfl)), trivial⟩ (fun vs w' hb hh => by have e := holds_isV (us := [_, _, _]) hh; subst e; exact mret_gives hb.size (eitherR_ok (keepsB_MK hM K) (hs.below (hS.below.trans (hb.mono hS.below.size))) hok ((hS.stays hM hw).keep hM hb) hn0 (hxx.mono fun W2 h2 => h2.1))) (at_top rfl)) ?_
    refine bl_nil ?_
    intro W7 hbR hS'
    clear hS; have hS := hS'; clear hS'
    refine fin_v ?_
    refine fin_v ?_
    refine fin_v ?_
    refine fin_v ?_
    refine fin_v ?_
    refine fin_v ?_
    refine fin_p ?_; rintro _ ⟨f2, rfl, hn2⟩; have hn2 := hn2.mono (M' := MK M ((_, W7) :: K)) (fun W2 h2 => ⟨h2.tail, h2.head⟩)
    refine fin_nil ?_
    refine op_storeA (i := 0) (vs := [_, _, _, _, _, _]) (cs' := [_, _, _, _, _, _]) (O' := [_, _, _]) hS Tryz.sizeOf33 rfl rfl rfl rfl rfl rfl rfl ?_
    clear hS; intro W8 hS
    refine endF ?_
    refine XF.blkN ?_
    refine XF.thenN ?_
    refine regF ?_
    refine op_move rfl rfl ?_
    refine op_add rfl rfl (IntWalk.i64_in _ (by omega)) rfl ?_
    refine op_assign rfl rfl ?_
    refine endF ?_
    exact XF.round (m - (k + 1)) [(1, _), (2, _), (4, _), (7, _), (8, _)] (by omega) ⟨rfl, rfl, rfl, rfl, rfl, trivial⟩ ⟨k + 1, f2, _, by omega, rfl, rfl, by rw [take_fold hxk]; exact hn2, (fun q hq => by rcases List.mem_cons.1 hq with rfl | hq; exact hsz2; exact hK q hq), hS⟩
  · have hc21 := of_decide_eq_false hc; clear hc
    refine exitF ?_
    refine XF.thenX ?_
    refine XF.thenX ?_
    refine XF.blkX ?_
    refine XF.thenN ?_
    refine seqF ?_
    refine regF ?_
    refine op_loadA (vs := [_, _, _, _, _, _]) Tryz.isAgg33 Tryz.sizeOf33 rfl (CellsAt.own (j := 0) (m := 6) (hS.at_ 0 rfl) rfl) rfl ?_
    refine op_storeA (i := 1) (vs := [_, _, _, _, _, _]) (cs' := [_, _, _, _, _, _]) (O' := [_, _, _]) hS Tryz.sizeOf33 rfl rfl rfl rfl rfl rfl rfl ?_
    clear hS; intro W9 hS
    refine op_assign rfl rfl ?_
    refine endF ?_
    refine XF.thenN ?_
    refine retF ?_
    refine XF.res (resCT (vs := [_, _, _, _, _, _]) Tryz.results28 Tryz.isAgg33 Tryz.sizeOf33 rfl (CellsAt.own (j := 0) (m := 6) (hS.at_ 1 rfl) rfl) rfl) ?_
    have e1 : xs.take k = xs := List.take_of_length_le (by have := hx.1; omega)
    rw [e1] at hn0
    exact ⟨f0, rfl, hn0.mono (fun W2 h2 => ⟨h2.1, fun q hq => ((hS.kept q hq).1).trans (h2.2.mono (hK q hq))⟩), hS.below⟩

set_option maxRecDepth 100000 in
set_option maxHeartbeats 4000000 in
theorem ExtendR_ok (S : PS) (sf : SF) (w : World) (hs : SIs w S sf) (hok : S.ok) (M : World → Prop) (hM : KeepsB M) (hw : M w) (a : Option Addr) (c m : Nat) (fs : List WF) (xs : List PX) (hr : FRow w a fs) (hx : XLF M S fs xs) (hm : fs.length = m) (hmx : m ≤ 9223372036854775807) :
    Calls Tryz.prog 30 #[sf.val, .slice a m c] w (XRet2 M S (xs.foldl (extX S) (oneX S)) 0 w) := by
  refine enterF (args := [sf.val, .slice a m c]) Tryz.func30 rfl Tryz.ntmps30 rfl ?_
  have hS := St.start w
  refine seqF ?_
  refine regF ?_
  refine op_box (cs := [_, _, _]) hS rfl rfl rfl ?_
  clear hS; intro B1 W1 hS
  refine op_alloc (cs := [_, _, _, _, _, _]) hS Tryz.zeroValue33 rfl rfl ?_
  clear hS; intro B2 W2 hS
  refine op_assign rfl rfl ?_
  refine endF ?_
  refine XF.thenN ?_
  refine seqF ?_
  refine regF ?_
  refine op_loadA (vs := [_, _, _]) Tryz.isAgg25 Tryz.sizeOf25 rfl (CellsAt.own (j := 0) (m := 3) (hS.at_ 1 rfl) rfl) rfl ?_
  refine op_move rfl rfl ?_
  refine op_call (vs := [_, _]) hS goes_53 rfl (allR_ok S sf _ (hs.below hS.below) hok a c m fs xs (hr.below hS.below) ((hx.is hw).below hS.below) hm hmx) rfl ?_
  rintro e W3 ⟨rfl, hb⟩
  refine ⟨_, rfl, hb, fun hS' => ?_⟩
  clear hS; have hS := hS'; clear hS' hb
  refine op_assign rfl rfl ?_
  refine endF ?_
  refine XF.thenN ?_
  refine seqF ?_
  refine seqF ?_
  refine regF ?_
  refine op_move rfl rfl ?_
  refine op_neq rfl rfl rfl ?_
  refine endF ?_
  refine XF.thenN ?_
  refine condF rfl (fun hc => absurd (of_decide_eq_true hc) (by omega)) (fun hc => ?_)
  have hc := of_decide_eq_false hc
  refine skipF ?_
  refine XF.thenN ?_
  refine seqF ?_
  refine regF ?_
  refine op_loadA (vs := [_, _, _]) Tryz.isAgg25 Tryz.sizeOf25 rfl (CellsAt.own (j := 0) (m := 3) (hS.at_ 1 rfl) rfl) rfl ?_
  have hsz0 := hS.below.size
  refine op_call (vs := [_]) hS goes_40 rfl (oneR_ok (hs.below hS.below) hok) rfl ?_
  rintro e W4 ⟨f0, rfl, hn, hb⟩
  refine ⟨_, rfl, hb, fun hS' => ?_⟩
  clear hS; have hS := hS'; clear hS'
  refine op_alloc (cs := [_, _, _, _, _, _]) hS Tryz.zeroValue33 rfl rfl ?_
  clear hS; intro B5 W5 hS
  refine op_storeA (i := 0) (vs := [_, _, _, _, _, _]) (cs' := [_, _, _, _, _, _]) (O' := [_, _, _]) hS Tryz.sizeOf33 rfl rfl rfl rfl rfl rfl rfl ?_
  clear hS; intro W6 hS
  refine endF ?_
  refine XF.thenN ?_
  refine seqF ?_
  refine seqF ?_
  refine regF ?_
  refine op_assign rfl rfl ?_
  refine endF ?_
  refine XF.thenN ?_
  refine blockF ?_
  refine loopF (fun q l W => ∃ (k : Nat) (f0 : WF) (K : List (Nat × World)), k ≤ m ∧ q = m - k ∧ l = [(1, .slice a m c), (2, .pointer (some ⟨B1, 0, none⟩)), (4, .pointer (some ⟨B2, 0, none⟩)), (7, .pointer (some ⟨B5, 0, none⟩)), (8, .int .i64 (k : Int))] ∧ FarX (MK M K) S f0 ((xs.take k).foldl (extX S) (oneX S)) ∧ (∀ q ∈ K, w.heap.size ≤ q.1) ∧ St w [(B5, f0.six, 33), (B2, [.bool false, .int .i64 0, .int .u64 0, .slice none 0 0, .slice none 0 0, .slice none 0 0], 33), (B1, [.int .i64 sf.tag, .int .i64 sf.dim, .slice sf.a sf.len sf.cap], 25)] [] K W) (m - 0) ([(1, _), (2, _), (4, _), (7, _), (8, _)]) ⟨rfl, rfl, rfl, rfl, rfl, trivial⟩ (⟨0, f0, _, Nat.zero_le _, rfl, rfl, hn.far.mono (fun W2 h2 => h2.2 _ (List.mem_of_getElem? (i := 0) rfl)), one_le hsz0, hS.keep1⟩) ?_
  clear hS
  rintro q l W ⟨k, f0, K, hkm, rfl, rfl, hn0, hK, hS⟩
  refine seqF ?_
  refine seqF ?_
  refine regF ?_
  refine op_move rfl rfl ?_
  refine op_move rfl rfl ?_
  refine op_len Tryz.underlying31 rfl rfl ?_
  refine op_lss rfl rfl rfl ?_
  refine endF ?_
  refine XF.thenN ?_
  refine condF rfl (fun hc => ?_) (fun hc => ?_)
  · have hc21 := of_decide_eq_true hc; clear hc
    have hk : k < m := by omega
    obtain ⟨f, x, hf, hxk, hxx⟩ := hx.at_ (k := k) (by omega)
    obtain ⟨b, off, rfl, h6⟩ := hr.at_ hf
    have k1 := CellsAt.agree hS.agree (Nat.zero_le _) h6.cells
    have hsz2 := hS.below.size
    refine skipF ?_
    refine XF.thenN ?_
    refine seqF ?_
    refine blockF ?_
    refine regBK followsM 7 hS rfl rfl (by kernel_rfl) (by kernel_rfl) (by kernel_rfl) (fun d hd => by cases hd) ?_
    refine bl_cons 1 rfl (isV _) (stab_isV _) (rgV (li := [(2, _)]) rfl (w_free rfl) ⟨g_fr (by kernel_rfl) rfl, trivial⟩ (fun w hw => rn_loadA (vs := [_, _, _]) Tryz.isAgg25 Tryz.sizeOf25 rfl (CellsAt.agree (below_agree hw 0) (Nat.zero_le _) (CellsAt.own (j := 0) (m := 3) (hS.at_ 2 rfl) rfl))) (at_top rfl)) ?_
    refine bl_cons 2 rfl (isV _) (stab_isV _) (rgV (li := [(7, _)]) rfl (w_free rfl) ⟨g_fr (by kernel_rfl) rfl, trivial⟩ (fun w hw => rn_loadA (vs := [_, _, _, _, _, _]) Tryz.isAgg33 Tryz.sizeOf33 rfl (CellsAt.agree (below_agree hw 0) (Nat.zero_le _) (CellsAt.own (j := 0) (m := 6) (hS.at_ 0 rfl) rfl))) (at_top rfl)) ?_
    refine bl_cons 3 rfl (isV _) (stab_isV _) (rgV (li := [(1, _)]) rfl (w_free rfl) ⟨g_fr (by kernel_rfl) rfl, trivial⟩ (fun w hw => rn_move rfl) (at_top rfl)) ?_
    refine bl_cons 4 rfl (isV _) (stab_isV _) (rgV (li := [(8, _)]) rfl (w_free rfl) ⟨g_fr (by kernel_rfl) rfl, trivial⟩ (fun w hw => rn_move rfl) (at_top rfl)) ?_
    refine bl_cons 5 rfl (isV _) (stab_isV _) (rgV (li := [(26, _), (27, _)]) rfl (w_free rfl) ⟨g_dep 2 (by kernel_rfl) (at_dep rfl rfl rfl), g_dep 3 (by kernel_rfl) (at_dep rfl rfl rfl), trivial⟩ (fun w hw => rn_indexA  Tryz.underlying31 Tryz.sizeOf33 rfl rfl rfl (by omega) rfl) (at_top rfl)) ?_
    refine bl_cons 6 rfl (isV _) (stab_isV _) (rgV (li := [(28, _)]) rfl (w_free rfl) ⟨g_dep 4 (by kernel_rfl) (at_dep rfl rfl rfl), trivial⟩ (fun w hw => rn_loadA (vs := [_, _, _, _, _, _]) Tryz.isAgg33 Tryz.sizeOf33 rfl (CellsAt.agree (below_agree hw 0) (Nat.zero_le _) (by assumption))) (at_top rfl)) ?_
    refine bl_cons 7 rfl (isNew W.heap.size S (extX S ((xs.take k).foldl (extX S) (oneX S)) x)) (stab_isNew) (rg_call [isV _, isV _, isV _] rfl goes_57 (w_free rfl) ⟨p_tmp (g_dep 0 (by kernel_rfl) (at_dep rfl rfl rfl)), p_tmp (g_dep 1 (by kernel_rfl) (at_dep rfl rfl rfl)), p_tmp (g_dep 5 (by kernel_rfl) (at_dep rfl rfl rfl)), trivial⟩ (fun vs w' hb hh => by have e := holds_isV (us := [_, _, _]) hh; subst e; exact wret_gives hb.size (thenR_ok (hs.below (hS.below.trans (hb.mono hS.below.size))) hok (hn0.is ((hS.stays hM hw).keep hM hb)) (hxx.is (hM _ _ hw (hS.below.trans (hb.mono hS.below.size)))))) (at_top rfl)) ?_
    refine bl_nil ?_
    intro W7 hbR hS'
    clear hS; have hS := hS'; clear hS'
    refine fin_v ?_
    refine fin_v ?_
    refine fin_v ?_
    refine fin_v ?_
    refine fin_v ?_
    refine fin_v ?_
    refine fin_p ?_; rintro _ ⟨f2, rfl, hn2⟩; have hn2 := hn2.far.mono (M' := MK M ((_, W7) :: K)) (fun W2 h2 => h2.head)
    refine fin_nil ?_
    refine op_storeA (i := 0) (vs := [_, _, _, _, _, _]) (cs' := [_, _, _, _, _, _]) (O' := [_, _, _]) hS Tryz.sizeOf33 rfl rfl rfl rfl rfl rfl rfl ?_
    clear hS; intro W8 hS
    refine endF ?_
    refine XF.blkN ?_
    refine XF.thenN ?_
    refine regF ?_
    refine op_move rfl rfl ?_
    refine op_add rfl rfl (IntWalk.i64_in _ (by omega)) rfl ?_
    refine op_assign rfl rfl ?_
    refine endF ?_
    exact XF.round (m - (k + 1)) [(1, _), (2, _), (4, _), (7, _), (8, _)] (by omega) ⟨rfl, rfl, rfl, rfl, rfl, trivial⟩ ⟨k + 1, f2, _, by omega, rfl, rfl, by rw [take_fold hxk]; exact hn2, (fun q hq => by rcases List.mem_cons.1 hq with rfl | hq; exact hsz2; exact hK q hq), hS⟩
  · have hc21 := of_decide_eq_false hc; clear hc
    refine exitF ?_
    refine XF.thenX ?_
    refine XF.thenX ?_
    refine XF.blkX ?_
    refine XF.thenN ?_
    refine seqF ?_
    refine regF ?_
    refine op_loadA (vs := [_, _, _, _, _, _]) Tryz.isAgg33 Tryz.sizeOf33 rfl (CellsAt.own (j := 0) (m := 6) (hS.at_ 0 rfl) rfl) rfl ?_
    refine op_storeA (i := 1) (vs := [_, _, _, _, _, _]) (cs' := [_, _, _, _, _, _]) (O' := [_, _, _]) hS Tryz.sizeOf33 rfl rfl rfl rfl rfl rfl rfl ?_
    clear hS; intro W9 hS
    refine op_assign rfl rfl ?_
    refine endF ?_
    refine XF.thenN ?_
    refine retF ?_
    refine XF.res (resCT (vs := [_, _, _, _, _, _]) Tryz.results30 Tryz.isAgg33 Tryz.sizeOf33 rfl (CellsAt.own (j := 0) (m := 6) (hS.at_ 1 rfl) rfl) rfl) ?_
    have e1 : xs.take k = xs := List.take_of_length_le (by have := hx.1; omega)
    rw [e1] at hn0
    exact ⟨f0, rfl, hn0.mono (fun W2 h2 => ⟨h2.1, fun q hq => ((hS.kept q hq).1).trans (h2.2.mono (hK q hq))⟩), hS.below⟩

set_option maxRecDepth 100000 in
set_option maxHeartbeats 4000000 in
theorem ExtendW_nil (S : PS) (sf : SF) (w : World) (hs : SIs w S sf) (hok : S.ok) (a : Option Addr) (c : Nat) :
    Calls Tryz.prog 29 #[sf.val, .slice a 0 c] w (WRet2 S (oneX S) 0 w) := by
  refine enterF (args := [sf.val, .slice a 0 c]) Tryz.func29 rfl Tryz.ntmps29 rfl ?_
  have hS := St.start w
  refine seqF ?_
  refine regF ?_
  refine op_box (cs := [_, _, _]) hS rfl rfl rfl ?_
  clear hS; intro B1 W1 hS
  refine op_alloc (cs := [_, _, _, _, _, _]) hS Tryz.zeroValue33 rfl rfl ?_
  clear hS; intro B2 W2 hS
  refine op_assign rfl rfl ?_
  refine endF ?_
  refine XF.thenN ?_
  refine seqF ?_
  refine seqF ?_
  refine regF ?_
  refine op_loadA (vs := [_, _, _]) Tryz.isAgg25 Tryz.sizeOf25 rfl (CellsAt.own (j := 0) (m := 3) (hS.at_ 1 rfl) rfl) rfl ?_
  refine op_move rfl rfl ?_
  refine op_call (vs := [_, _]) hS goes_45 rfl (checkAllW_ok S sf _ (hs.below hS.below) hok a c 0 [] [] (.inl rfl) xl_nil rfl (by decide)) rfl ?_
  rintro e W3 ⟨rfl, hb⟩
  refine ⟨_, rfl, hb, fun hS' => ?_⟩
  clear hS; have hS := hS'; clear hS' hb
  refine op_assign rfl rfl ?_
  refine endF ?_
  refine XF.thenN ?_
  refine seqF ?_
  refine regF ?_
  refine op_move rfl rfl ?_
  refine op_neq rfl rfl rfl ?_
  refine endF ?_
  refine XF.thenN ?_
  refine condF rfl (fun hc => absurd (of_decide_eq_true hc) (by omega)) (fun hc => ?_)
  have hc := of_decide_eq_false hc
  refine skipF ?_
  refine XF.thenN ?_
  refine seqF ?_
  refine seqF ?_
  refine regF ?_
  refine op_move rfl rfl ?_
  refine op_len Tryz.underlying31 rfl rfl ?_
  refine op_eql rfl rfl rfl ?_
  refine endF ?_
  refine XF.thenN ?_
  refine condF rfl (fun hc => ?_) (fun hc => absurd (of_decide_eq_false hc) (by decide))
  have hc := of_decide_eq_true hc
  refine seqF ?_
  refine regF ?_
  refine op_loadA (vs := [_, _, _]) Tryz.isAgg25 Tryz.sizeOf25 rfl (CellsAt.own (j := 0) (m := 3) (hS.at_ 1 rfl) rfl) rfl ?_
  have hsz := hS.below.size
  refine op_call (vs := [_]) hS goes_39 rfl (oneA_ok (hs.below hS.below) hok) rfl ?_
  rintro e W4 ⟨f, rfl, hn, hb⟩
  refine ⟨_, rfl, hb, fun hS' => ?_⟩
  clear hS; have hS := hS'; clear hS'
  refine op_storeA (i := 0) (vs := [_, _, _, _, _, _]) (cs' := [_, _, _, _, _, _]) (O' := [_, _]) hS Tryz.sizeOf33 rfl rfl rfl rfl rfl rfl rfl ?_
  clear hS; intro W5 hS
  refine op_assign rfl rfl ?_
  refine endF ?_
  refine XF.thenN ?_
  refine retF ?_
  refine XF.thenR ?_
  refine XF.res (resCT (vs := [_, _, _, _, _, _]) Tryz.results29 Tryz.isAgg33 Tryz.sizeOf33 rfl (CellsAt.own (j := 0) (m := 6) (hS.at_ 0 rfl) rfl) rfl) ?_
  exact ⟨f, rfl, (hn.agree (hS.since 0 rfl)).mono hsz, hS.below⟩

set_option maxRecDepth 100000 in
set_option maxHeartbeats 4000000 in
theorem BelowW_ok (S : PS) (sf : SF) (f g : WF) (x y : PX) (w : World) (hs : SIs w S sf) (hok : S.ok) (hx : XIs w S f x) (hy : XIs w S g y) (r : Bool) (hr : r = true ↔ combX S x y = y) (ht : Tabs w) :
    Calls Tryz.prog 31 #[sf.val, f.val, g.val] w (fun e w' => e = .returned (.tuple #[.bool r, .int .i64 0]) ∧ Below w.heap.size w w') := by
  refine enterF (args := [sf.val, f.val, g.val]) Tryz.func31 rfl Tryz.ntmps31 rfl ?_
  have hS := St.start w
  refine seqF ?_
  refine regF ?_
  refine op_box (cs := [_, _, _]) hS rfl rfl rfl ?_
  clear hS; intro B1 W1 hS
  refine op_box (cs := [_, _, _, _, _, _]) hS rfl rfl rfl ?_
  clear hS; intro B2 W2 hS
  refine op_box (cs := [_, _, _, _, _, _]) hS rfl rfl rfl ?_
  clear hS; intro B3 W3 hS
  refine op_assign rfl rfl ?_
  refine op_assign rfl rfl ?_
  refine endF ?_
  refine XF.thenN ?_
  refine seqF ?_
  refine seqF ?_
  refine regF ?_
  refine op_loadA (vs := [_, _, _]) Tryz.isAgg25 Tryz.sizeOf25 rfl (CellsAt.own (j := 0) (m := 3) (hS.at_ 2 rfl) rfl) rfl ?_
  refine op_loadA (vs := [_, _, _, _, _, _]) Tryz.isAgg33 Tryz.sizeOf33 rfl (CellsAt.own (j := 0) (m := 6) (hS.at_ 1 rfl) rfl) rfl ?_
  refine op_loadA (vs := [_, _, _, _, _, _]) Tryz.isAgg33 Tryz.sizeOf33 rfl (CellsAt.own (j := 0) (m := 6) (hS.at_ 0 rfl) rfl) rfl ?_
  refine op_buildSlice (us := [(0, .agg (List.toArray [_, _, _, _, _, _])), (1, .agg (List.toArray [_, _, _, _, _, _]))]) hS Tryz.underlying31 Tryz.sizeOf33 Tryz.zeroValue33 rfl rfl rfl (bs_31_2 _ _ _ _ _ _ _ _ _ _ _ _) rfl ?_
  clear hS; intro B4 W4 hS
  refine op_call (vs := [_, _]) hS goes_45 rfl (checkAllW_ok S sf _ (hs.below hS.below) hok _ 2 2 [f, g] [x, y] (frow2 (hS.at_ 0 rfl)) (xl_cons (hx.below hS.below) (xl_cons (hy.below hS.below) xl_nil)) rfl (by decide)) rfl ?_
  rintro e W5 ⟨rfl, hb⟩
  refine ⟨_, rfl, hb, fun hS' => ?_⟩
  clear hS; have hS := hS'; clear hS' hb
  refine op_assign rfl rfl ?_
  refine endF ?_
  refine XF.thenN ?_
  refine seqF ?_
  refine regF ?_
  refine op_move rfl rfl ?_
  refine op_neq rfl rfl rfl ?_
  refine endF ?_
  refine XF.thenN ?_
  refine condF rfl (fun hc => absurd (of_decide_eq_true hc) (by omega)) (fun hc => ?_)
  have hc := of_decide_eq_false hc
  refine skipF ?_
  refine XF.thenN ?_
  refine seqF ?_
  refine regB (m := 8) followsM hS (by kernel_rfl) (by kernel_rfl) rfl ?_
  refine bl_cons 1 rfl (isV _) (stab_isV _) (rgV (li := [(3, _)]) rfl (w_free rfl) ⟨g_fr (by kernel_rfl) rfl, trivial⟩ (fun w hw => rn_loadA (vs := [_, _, _]) Tryz.isAgg25 Tryz.sizeOf25 rfl (CellsAt.agree (below_agree hw 0) (Nat.zero_le _) (CellsAt.own (j := 0) (m := 3) (hS.at_ 3 rfl) rfl))) (at_top rfl)) ?_
  refine bl_cons 2 rfl (isV _) (stab_isV _) (rgV (li := [(4, _)]) rfl (w_free rfl) ⟨g_fr (by kernel_rfl) rfl, trivial⟩ (fun w hw => rn_loadA (vs := [_, _, _, _, _, _]) Tryz.isAgg33 Tryz.sizeOf33 rfl (CellsAt.agree (below_agree hw 0) (Nat.zero_le _) (CellsAt.own (j := 0) (m := 6) (hS.at_ 2 rfl) rfl))) (at_top rfl)) ?_
  refine bl_cons 3 rfl (isV _) (stab_isV _) (rgV (li := [(5, _)]) rfl (w_free rfl) ⟨g_fr (by kernel_rfl) rfl, trivial⟩ (fun w hw => rn_loadA (vs := [_, _, _, _, _, _]) Tryz.isAgg33 Tryz.sizeOf33 rfl (CellsAt.agree (below_agree hw 0) (Nat.zero_le _) (CellsAt.own (j := 0) (m := 6) (hS.at_ 1 rfl) rfl))) (at_top rfl)) ?_
  refine bl_cons 4 rfl (isNew W5.heap.size S (combX S x y)) (stab_isNew) (rg_call [isV _, isV _, isV _] rfl goes_52 (w_free rfl) ⟨p_tmp (g_dep 0 (by kernel_rfl) (at_dep rfl rfl rfl)), p_tmp (g_dep 1 (by kernel_rfl) (at_dep rfl rfl rfl)), p_tmp (g_dep 2 (by kernel_rfl) (at_dep rfl rfl rfl)), trivial⟩ (fun vs w' hb hh => by have e := holds_isV (us := [_, _, _]) hh; subst e; exact wret_gives hb.size (wComb_is (hs.below (hS.below.trans (hb.mono hS.below.size))) hok (hx.below (hS.below.trans (hb.mono hS.below.size))) (hy.below (hS.below.trans (hb.mono hS.below.size))) (ht.below (hS.below.trans (hb.mono hS.below.size))))) (at_top rfl)) ?_
  refine bl_cons 5 rfl (isV _) (stab_isV _) (rgV (li := [(5, _)]) rfl (w_free rfl) ⟨g_fr (by kernel_rfl) rfl, trivial⟩ (fun w hw => rn_loadA (vs := [_, _, _, _, _, _]) Tryz.isAgg33 Tryz.sizeOf33 rfl (CellsAt.agree (below_agree hw 0) (Nat.zero_le _) (CellsAt.own (j := 0) (m := 6) (hS.at_ 1 rfl) rfl))) (at_top rfl)) ?_
  refine bl_cons 6 rfl (isV (.bool r)) (stab_isV _) (rg_call [isNew _ S (combX S x y), isV g.val] rfl goes_23 (w_free rfl) ⟨p_tmp (g_dep 3 (by kernel_rfl) (at_dep rfl rfl rfl)), p_tmp (g_dep 4 (by kernel_rfl) (at_dep rfl rfl rfl)), trivial⟩ (fun vs w' hb hh => by obtain ⟨v1, v2, rfl, ⟨f3, rfl, hf3⟩, rfl⟩ := holds2 hh; exact (sameA_ok hf3.is (hy.below (hS.below.trans (hb.mono hS.below.size))) r hr).mono fun e w2 h => ⟨_, h.1, rfl, h.2⟩) (at_top rfl)) ?_
  refine bl_cons 7 rfl (isV _) (stab_isV _) (rgV (li := [(22, _)]) rfl (w_free rfl) ⟨g_dep 5 (by kernel_rfl) (at_dep rfl rfl rfl), trivial⟩ (fun w hw => rn_assign rfl) (at_top rfl)) ?_
  refine bl_cons 8 rfl (isV _) (stab_isV _) (rgV (li := []) rfl (w_free rfl) trivial (fun w hw => rn_assign rfl) (at_top rfl)) ?_
  refine bl_nil ?_
  intro W6 hbR hS'
  clear hS; have hS := hS'; clear hS'
  refine fin_v ?_
  refine fin_v ?_
  refine fin_v ?_
  refine fin_p ?_; rintro _ ⟨f2, rfl, hn2⟩
  refine fin_v ?_
  refine fin_v ?_
  refine fin_v ?_
  refine fin_v ?_
  refine fin_nil ?_
  refine XF.thenN ?_
  refine retF ?_
  refine XF.res (res2 Tryz.results31 rfl rfl) ?_
  exact ⟨rfl, hS.below⟩

set_option maxRecDepth 100000 in
set_option maxHeartbeats 4000000 in
theorem BelowR_ok (S : PS) (sf : SF) (f g : WF) (x y : PX) (w : World) (hs : SIs w S sf) (hok : S.ok) (hx : XIs w S f x) (hy : XIs w S g y) (r : Bool) (hr : r = true ↔ combX S x y = y) :
    Calls Tryz.prog 32 #[sf.val, f.val, g.val] w (fun e w' => e = .returned (.tuple #[.bool r, .int .i64 0]) ∧ Below w.heap.size w w') := by
  refine enterF (args := [sf.val, f.val, g.val]) Tryz.func32 rfl Tryz.ntmps32 rfl ?_
  have hS := St.start w
  refine seqF ?_
  refine regF ?_
  refine op_box (cs := [_, _, _]) hS rfl rfl rfl ?_
  clear hS; intro B1 W1 hS
  refine op_box (cs := [_, _, _, _, _, _]) hS rfl rfl rfl ?_
  clear hS; intro B2 W2 hS
  refine op_box (cs := [_, _, _, _, _, _]) hS rfl rfl rfl ?_
  clear hS; intro B3 W3 hS
  refine op_assign rfl rfl ?_
  refine op_assign rfl rfl ?_
  refine endF ?_
  refine XF.thenN ?_
  refine seqF ?_
  refine regF ?_
  refine op_loadA (vs := [_, _, _]) Tryz.isAgg25 Tryz.sizeOf25 rfl (CellsAt.own (j := 0) (m := 3) (hS.at_ 2 rfl) rfl) rfl ?_
  refine op_loadA (vs := [_, _, _, _, _, _]) Tryz.isAgg33 Tryz.sizeOf33 rfl (CellsAt.own (j := 0) (m := 6) (hS.at_ 1 rfl) rfl) rfl ?_
  refine op_loadA (vs := [_, _, _, _, _, _]) Tryz.isAgg33 Tryz.sizeOf33 rfl (CellsAt.own (j := 0) (m := 6) (hS.at_ 0 rfl) rfl) rfl ?_
  refine op_buildSlice (us := [(0, .agg (List.toArray [_, _, _, _, _, _])), (1, .agg (List.toArray [_, _, _, _, _, _]))]) hS Tryz.underlying31 Tryz.sizeOf33 Tryz.zeroValue33 rfl rfl rfl (bs_31_2 _ _ _ _ _ _ _ _ _ _ _ _) rfl ?_
  clear hS; intro B4 W4 hS
  refine op_call (vs := [_, _]) hS goes_28 rfl (CombineR_ok S sf _ (hs.below hS.below) hok _ (keepsB_below w) hS.below _ 2 2 [f, g] [x, y] (frow2 (hS.at_ 0 rfl)) (xl_cons hx (xl_cons hy xl_nil)).far rfl (by decide)) rfl ?_
  rintro e W5 ⟨f2, rfl, hf2, hb⟩
  refine ⟨_, rfl, hb, fun hS' => ?_⟩
  clear hS; have hS := hS'; clear hS' hb
  refine op_move rfl rfl ?_
  refine op_extract rfl rfl rfl ?_
  refine op_extract rfl rfl rfl ?_
  refine op_alloc (cs := [_, _, _, _, _, _]) hS Tryz.zeroValue33 rfl rfl ?_
  clear hS; intro B6 W6 hS
  refine op_storeA (i := 0) (vs := [_, _, _, _, _, _]) (cs' := [_, _, _, _, _, _]) (O' := [_, _, _, _, _]) hS Tryz.sizeOf33 rfl rfl rfl rfl rfl rfl rfl ?_
  clear hS; intro W7 hS
  refine op_assign rfl rfl ?_
  refine endF ?_
  refine XF.thenN ?_
  refine seqF ?_
  refine regF ?_
  refine op_move rfl rfl ?_
  refine op_eql rfl rfl rfl ?_
  refine op_move rfl rfl ?_
  refine op_cases (d := 20) rfl (fun hc => ?_) (fun hc => absurd (of_decide_eq_false hc) (by decide))
  have hc := of_decide_eq_true hc
  refine op_wantedF (d := 20) rfl rfl ?_
  refine op_loadA (vs := [_, _, _, _, _, _]) Tryz.isAgg33 Tryz.sizeOf33 rfl (CellsAt.own (j := 0) (m := 6) (hS.at_ 0 rfl) rfl) rfl ?_
  refine op_wantedF (d := 20) rfl rfl ?_
  refine op_loadA (vs := [_, _, _, _, _, _]) Tryz.isAgg33 Tryz.sizeOf33 rfl (CellsAt.own (j := 0) (m := 6) (hS.at_ 2 rfl) rfl) rfl ?_
  refine op_wantedF (d := 20) rfl rfl ?_
  refine op_call (vs := [_, _]) hS goes_22 rfl (sameW_is (hf2.is ⟨hS.below, hS.since 0 rfl⟩) (hy.below hS.below) r (by rw [hr, comb2 hx.ok])) rfl ?_
  rintro e W8 ⟨rfl, hb⟩
  refine ⟨_, rfl, hb, fun hS' => ?_⟩
  clear hS; have hS := hS'; clear hS' hb
  refine op_pickT rfl rfl rfl ?_
  refine op_move rfl rfl ?_
  refine op_assign rfl rfl ?_
  refine op_assign rfl rfl ?_
  refine endF ?_
  refine XF.thenN ?_
  refine retF ?_
  refine XF.res (res2 Tryz.results32 rfl rfl) ?_
  exact ⟨rfl, hS.below⟩
end Go.Proofs.YtjcminoaiieckaaGreatDoor
namespace Go.Proofs.YtjcminoaiieckaaGreatDoor
open Go Go.RowKit
set_option linter.unusedVariables false
theorem few_snoc {xs ys : List WV} {x : WV} (h : ∀ y ∈ ys, y ∈ xs ∧ smN 4 y = true) (hx : x ∈ xs) (hs : smN 4 x = true) : ∀ y ∈ ys ++ [x], y ∈ xs ∧ smN 4 y = true := fun y hy => by
  rcases List.mem_append.1 hy with hy | hy
  · exact h y hy
  · simp only [List.mem_cons, List.not_mem_nil, or_false] at hy
    subst hy; exact ⟨hx, hs⟩
theorem flat6_snoc (ys : List WV) (x : WV) : (ys ++ [x]).flatMap (fun y => y.f.six) = ys.flatMap (fun y => y.f.six) ++ x.f.six := by simp
theorem flat6_at : ∀ {ys : List WV} {i : Nat} {y : WV}, ys[i]? = some y → ∀ j v, y.f.six[j]? = some v → (ys.flatMap (fun y => y.f.six))[i * 6 + j]? = some v
  | [], i, y, h, _, _, _ => by simp at h
  | x :: ys, 0, y, h, j, v, hv => by
    simp at h; subst h
    rw [List.flatMap_cons, Nat.zero_mul, Nat.zero_add, List.getElem?_append_left (by
      have := (List.getElem?_eq_some_iff.1 hv).1; simpa using this)]
    exact hv
  | x :: ys, i + 1, y, h, j, v, hv => by
    rw [List.flatMap_cons, show (i + 1) * 6 + j = 6 + (i * 6 + j) by omega, List.getElem?_append_right (by simp)]
    have e : 6 + (i * 6 + j) - x.f.six.length = i * 6 + j := by simp
    rw [e]
    exact flat6_at (by simpa using h) j v hv
theorem prow_of_own {w : World} {base n : Nat} {b : Option Addr} {c : Nat} {ys : List WV} {E : TypeId} (hl : ys.length = n) (h : w.ownsRow base E 6 (.slice b n c) n (ys.flatMap (fun y => y.f.six))) : PRow w b ys ∧ n ≤ c ∧ ∀ ad, b = some ad → base ≤ ad.block := by
  rcases h.2 with ⟨e, h0⟩ | ⟨g, cap, cur, e, hg, hh, hnc, hcm, hcs, ht⟩
  · cases e
    exact ⟨.inl (List.eq_nil_of_length_eq_zero (by omega)), by omega, fun ad e => by cases e⟩
  · cases e
    refine ⟨.inr ⟨g, 0, rfl, fun i p hi => ?_⟩, hnc, fun ad e => by cases e; exact hg⟩
    have hin := (List.getElem?_eq_some_iff.1 hi).1
    have key : ∀ j v, p.f.six[j]? = some v → w.cell? ⟨g, 0 + i * 6 + j, none⟩ = some v := fun j v hv => by
      have h1 := flat6_at hi j v hv
      have hj : j < 6 := by have := (List.getElem?_eq_some_iff.1 hv).1; simpa using this
      have h2 := h.cellAt (i * 6 + j) (by omega)
      rw [Nat.zero_add]
      exact h2.trans h1
    exact ⟨key 0 _ rfl, key 1 _ rfl, key 2 _ rfl, key 3 _ rfl, key 4 _ rfl, key 5 _ rfl⟩

set_option maxRecDepth 100000 in
set_option maxHeartbeats 4000000 in
theorem few_is (d : Nat) (a : Option Addr) (m c : Nat) (xs : List WV) (w : World) (hrow : PRow w a xs) (hlen : xs.length = m) (hin : ∀ x ∈ xs, WIn w d x) (hmx : m ≤ 9223372036854775807) :
    Calls Tryz.prog 26 #[.slice a m c] w (fun e w' => ∃ (b : Option Addr) (n c' : Nat) (ys : List WV), e = .returned (.slice b n c') ∧ ys.length = n ∧ n ≤ c' ∧ n ≤ 12 ∧ PRow w' b ys ∧ (∀ ad, b = some ad → w.heap.size ≤ ad.block) ∧ (∀ y ∈ ys, y ∈ xs ∧ smN 4 y = true) ∧ Below w.heap.size w w') := by
  refine enterF (args := [.slice a m c]) Tryz.func26 rfl Tryz.ntmps26 rfl ?_
  have hS := St.start w
  refine seqF ?_
  refine regF ?_
  refine op_assign rfl rfl ?_
  refine endF ?_
  refine XF.thenN ?_
  refine seqF ?_
  refine regF ?_
  refine op_assign rfl rfl ?_
  refine endF ?_
  refine XF.thenN ?_
  refine seqF ?_
  refine seqF ?_
  refine regF ?_
  refine op_assign rfl rfl ?_
  refine endF ?_
  refine XF.thenN ?_
  refine blockF ?_
  refine loopF (fun q l W => ∃ (k n : Nat) (v : Value) (ys : List WV), k ≤ m ∧ n ≤ 12 ∧ q = m - k ∧ l = [(0, .slice a m c), (3, v), (4, .int .i64 (k : Int))] ∧ (∃ b c', v = .slice b n c') ∧ ys.length = n ∧ (∀ y ∈ ys, y ∈ xs ∧ smN 4 y = true) ∧ St w [] [⟨v, n, ys.flatMap (fun y => y.f.six), 33, 6⟩] [] W) (m - 0) ([(0, _), (3, _), (4, _)]) ⟨rfl, rfl, rfl, trivial⟩ (⟨0, 0, .slice none 0 0, [], Nat.zero_le _, Nat.zero_le _, rfl, rfl, ⟨none, 0, rfl⟩, rfl, (fun y hy => by cases hy), hS.clear.newG _ _⟩) ?_
  clear hS
  rintro q l W ⟨k, n, v, ys, hkm, hn12, rfl, rfl, ⟨vb, vc, rfl⟩, hyl, hys, hS⟩
  refine seqF ?_
  refine seqF ?_
  refine regF ?_
  refine op_move rfl rfl ?_
  refine op_move rfl rfl ?_
  refine op_len Tryz.underlying31 rfl rfl ?_
  refine op_lss rfl rfl rfl ?_
  refine op_move rfl rfl ?_
  refine op_cases (d := 9) rfl (fun hc => ?_) (fun hc => ?_)
  · have hg9 := of_decide_eq_true hc; clear hc
    skip
    refine op_wantedF (d := 9) rfl rfl ?_
    refine op_move rfl rfl ?_
    refine op_wantedF (d := 9) rfl rfl ?_
    refine op_len Tryz.underlying31 rfl rfl ?_
    refine op_wantedF (d := 9) rfl rfl ?_
    refine op_lss rfl rfl rfl ?_
    refine op_pickT rfl rfl rfl ?_
    refine endF ?_
    refine XF.thenN ?_
    refine condF rfl (fun hc => ?_) (fun hc => ?_)
    · have hc13 := of_decide_eq_true hc; clear hc
      have hk : k < m := by omega
      obtain ⟨x, hxk⟩ : ∃ x, xs[k]? = some x := ⟨xs[k]'(by omega), List.getElem?_eq_getElem _⟩
      obtain ⟨b, off, ea, hbl, h6⟩ := hrow.at_ hxk
      have hxm := List.mem_of_getElem? hxk
      have hxin := hin x hxm
      subst ea
      have k6 := CellsAt.agree hS.agree (Nat.zero_le _) h6.cells
      refine skipF ?_
      refine XF.thenN ?_
      refine seqF ?_
      refine blockF ?_
      refine seqF ?_
      refine regF ?_
      refine op_move rfl rfl ?_
      refine op_move rfl rfl ?_
      refine op_indexA  Tryz.underlying31 Tryz.sizeOf33 rfl rfl rfl (by omega) rfl rfl ?_
      refine op_loadA (vs := [_, _, _, _, _, _]) Tryz.isAgg33 Tryz.sizeOf33 rfl (by assumption) rfl ?_
      refine op_call (vs := [_, _]) hS goes_10 rfl (small_is 4 0 d x _ (by omega) (WIn.below hS.below hxin)) rfl ?_
      rintro e W1 ⟨rfl, hb⟩
      refine ⟨_, rfl, hb, fun hS' => ?_⟩
      clear hS; have hS := hS'; clear hS' hb
      refine endF ?_
      refine XF.thenN ?_
      refine condF rfl (fun hc => ?_) (fun hc => ?_)
      · have hc20 := hc; clear hc
        have hn11 : n < 12 := by omega
        have k7 := CellsAt.agree hS.agree (Nat.zero_le _) h6.cells
        refine regF ?_
        refine op_move rfl rfl ?_
        refine op_move rfl rfl ?_
        refine op_move rfl rfl ?_
        refine op_indexA  Tryz.underlying31 Tryz.sizeOf33 rfl rfl rfl (by omega) rfl rfl ?_
        refine op_loadA (vs := [_, _, _, _, _, _]) Tryz.isAgg33 Tryz.sizeOf33 rfl (by assumption) rfl ?_
        refine op_buildSlice (us := [(0, .agg (List.toArray [_, _, _, _, _, _]))]) hS Tryz.underlying31 Tryz.sizeOf33 Tryz.zeroValue33 rfl rfl rfl (bs_31_1 _ _ _ _ _ _) rfl ?_
        clear hS; intro B2 W2 hS
        refine op_append (i := 0) (news := [_, _, _, _, _, _]) hS Tryz.underlying31 inf_33 rfl rfl (by show 0 < 6; decide) rfl rfl rfl rfl rfl (CellsAt.own (j := 0) (m := 6) (hS.at_ 0 rfl) rfl) rfl rfl (by dsimp only; simp only [maxLen]; omega) (by dsimp only; show _ * 96 ≤ _; omega) rfl ?_
        clear hS; intro v3 W3 hS
        refine op_assign rfl rfl ?_
        refine endF ?_
        refine XF.blkN ?_
        refine XF.thenN ?_
        refine regF ?_
        refine op_move rfl rfl ?_
        refine op_add rfl rfl (IntWalk.i64_in _ (by omega)) rfl ?_
        refine op_assign rfl rfl ?_
        refine endF ?_
        obtain ⟨g9, c9, e9, _, _⟩ := (hS.row 0 rfl).form (by show 0 < n + 1; omega)
        dsimp only at e9
        subst e9
        exact XF.round (m - (k + 1)) [(0, _), (3, _), (4, _)] (by omega) ⟨rfl, rfl, rfl, trivial⟩ ⟨k + 1, n + 1, _, ys ++ [x], by omega, by omega, rfl, rfl, ⟨_, _, rfl⟩, by rw [List.length_append, hyl]; rfl, few_snoc hys hxm (by simpa using hc20), by rw [flat6_snoc]; exact hS.tail.clear⟩
      · have hc20 := hc; clear hc
        refine skipF ?_
        refine XF.blkN ?_
        refine XF.thenN ?_
        refine regF ?_
        refine op_move rfl rfl ?_
        refine op_add rfl rfl (IntWalk.i64_in _ (by omega)) rfl ?_
        refine op_assign rfl rfl ?_
        refine endF ?_
        exact XF.round (m - (k + 1)) [(0, _), (3, _), (4, _)] (by omega) ⟨rfl, rfl, rfl, trivial⟩ ⟨k + 1, n, _, ys, by omega, hn12, rfl, rfl, ⟨_, _, rfl⟩, hyl, hys, hS.clear⟩
    · have hc13 := of_decide_eq_false hc; clear hc
      refine exitF ?_
      refine XF.thenX ?_
      refine XF.thenX ?_
      refine XF.blkX ?_
      refine XF.thenN ?_
      refine seqF ?_
      refine regF ?_
      refine op_move rfl rfl ?_
      refine op_assign rfl rfl ?_
      refine endF ?_
      refine XF.thenN ?_
      refine retF ?_
      refine XF.res (res1 Tryz.results26 rfl) ?_
      obtain ⟨h1, h2, h3⟩ := prow_of_own hyl (hS.row 0 rfl)
      exact ⟨vb, n, vc, ys, rfl, hyl, h2, hn12, h1, h3, hys, hS.below⟩
  · have hg9 := of_decide_eq_false hc; clear hc
    refine op_notF (d := 9) rfl rfl rfl rfl ?_
    refine op_notF (d := 9) rfl rfl rfl rfl ?_
    refine op_notF (d := 9) rfl rfl rfl rfl ?_
    refine op_pickF rfl rfl rfl ?_
    refine endF ?_
    refine XF.thenN ?_
    refine condN rfl ?_
    refine exitF ?_
    refine XF.thenX ?_
    refine XF.thenX ?_
    refine XF.blkX ?_
    refine XF.thenN ?_
    refine seqF ?_
    refine regF ?_
    refine op_move rfl rfl ?_
    refine op_assign rfl rfl ?_
    refine endF ?_
    refine XF.thenN ?_
    refine retF ?_
    refine XF.res (res1 Tryz.results26 rfl) ?_
    obtain ⟨h1, h2, h3⟩ := prow_of_own hyl (hS.row 0 rfl)
    exact ⟨vb, n, vc, ys, rfl, hyl, h2, hn12, h1, h3, hys, hS.below⟩
end Go.Proofs.YtjcminoaiieckaaGreatDoor
namespace Go.Proofs.YtjcminoaiieckaaGreatDoor
open Go.RowKit Go.ChangeShapes Go.WideShapes Go.Deep
set_option linter.unusedVariables false
section
variable {H : Type} {enc : TypeId × Value → H} {w : World} {base : Nat} {spare : Nat → Bool} {held : Bool}
theorem three_len {cs : List Value} (h : cs.length = 3) : ∃ a b c, cs = [a, b, c] := by
  match cs, h with
  | [a, b, c], _ => exact ⟨a, b, c, rfl⟩
set_option maxRecDepth 100000 in
theorem cell_open {n : Nat} {cs : List Value} {x : DataW H × List MemPlace} (hl : cs.length = 3) (h : DataW.trod enc Tryz.prog w base spare held n 73 cs = some x) :
    ∃ c : Cl, c.f < 18446744073709551616 ∧ cs = [.int .u64 (c.f : Int), .int .i64 c.k, .int .i64 c.v] := by
  obtain ⟨xs, n', _, hx, _, hlen, hg⟩ := DataW.trod_struct Tryz.underlying73 h
  obtain ⟨a, b, c, rfl⟩ := three_len hl
  · skip
    have hlen3 : xs.length = 3 := hlen
    have g0 := hg 0 _ rfl
    have g1 := hg 1 _ rfl
    have g2 := hg 2 _ rfl
    rw [show Tryz.prog.cellsOf _ = 1 by kernel_rfl, List.getElem?_eq_getElem (by omega)] at g0 g1 g2
    obtain ⟨z0, e0, _, w0⟩ := DataW.trod_int Tryz.underlying26 g0
    obtain ⟨z1, e1, _, w1⟩ := DataW.trod_int (k := .i64) (by kernel_rfl) g1
    obtain ⟨z2, e2, _, w2⟩ := DataW.trod_int (k := .i64) (by kernel_rfl) g2
    simp at e0 e1 e2
    subst e0 e1 e2
    have hw : 0 ≤ z0 ∧ z0 ≤ 18446744073709551615 := by simpa [Lit.wf, IntKind.signed, IntKind.bits, IntKind.min, IntKind.max] using w0
    exact ⟨⟨z0.toNat, z1, z2⟩, by show z0.toNat < _; omega, by simp; omega⟩
theorem list_of : ∀ (n : Nat) (p : Nat → Cl → Prop), (∀ i, i < n → ∃ c, p i c) → ∃ xs : List Cl, xs.length = n ∧ ∀ i c, xs[i]? = some c → p i c
  | 0, p, h => ⟨[], rfl, fun i c hi => by simp at hi⟩
  | n + 1, p, h => by
    obtain ⟨xs, hl, hp⟩ := list_of n p (fun i hi => h i (by omega))
    obtain ⟨c, hc⟩ := h n (by omega)
    refine ⟨xs ++ [c], by simp [hl], fun i d hi => ?_⟩
    rcases Nat.lt_or_ge i n with h1 | h1
    · rw [List.getElem?_append_left (by omega)] at hi
      exact hp i d hi
    · obtain ⟨h2, _⟩ := List.getElem?_eq_some_iff.1 hi
      simp [hl] at h2
      obtain rfl : i = n := by omega
      rw [List.getElem?_append_right (by omega), hl, Nat.sub_self] at hi
      simp at hi
      subst hi
      exact hc
theorem cells_open {n : Nat} {a : Option Addr} {len cap : Nat} {x : DataW H × List MemPlace} (h : DataW.trod enc Tryz.prog w base spare held n 30 [.slice a len cap] = some x) :
    ∃ xs, IsCells w a len cap xs := by
  rcases open_slice Tryz.underlying30 h with ⟨hcs, _⟩ | ⟨ad, len', cap', m, n', D, Pl, hcs, hb, hl, hm, hmm, hx, hi⟩
  · simp at hcs
    obtain ⟨rfl, rfl, rfl⟩ := hcs
    exact ⟨[], rfl, by simp, .inl rfl, fun c hc => by simp at hc⟩
  · simp at hcs
    obtain ⟨rfl, rfl, rfl⟩ := hcs
    rw [show Tryz.prog.cellsOf 73 = 3 by kernel_rfl] at hi
    obtain ⟨xs, hxl, hxs⟩ := list_of len (fun i c => c.f < 18446744073709551616 ∧ w.cell? (ad.add (i * 3)) = some (.int .u64 (c.f : Int)) ∧ w.cell? (ad.add (i * 3 + 1)) = some (.int .i64 c.k) ∧ w.cell? (ad.add (i * 3 + 2)) = some (.int .i64 c.v)) (fun i hil => by
      obtain ⟨cs', hc, ht⟩ := hi i (by rw [hmm]; split <;> omega)
      obtain ⟨_, hcl, hat⟩ := World.cells?_some hc
      obtain ⟨c, hf, rfl⟩ := cell_open hcl ht
      have e0 := hat 0 (by omega)
      have e1 := hat 1 (by omega)
      have e2 := hat 2 (by omega)
      rw [add_add] at e0 e1 e2
      exact ⟨c, hf, e0, e1, e2⟩)
    refine ⟨xs, hxl.symm, by omega, ?_, fun c hc => ?_⟩
    · rcases Nat.eq_zero_or_pos len with h0 | h0
      · exact .inl (List.length_eq_zero_iff.1 (by omega))
      · obtain ⟨b, off, spot⟩ := ad
        obtain ⟨_, h1, _, _⟩ := hxs 0 (xs[0]'(by omega)) (List.getElem?_eq_getElem (by omega))
        have hspot : spot = none := by simpa [Addr.add] using World.cell?_spot h1
        subst hspot
        refine .inr ⟨b, off, rfl, fun i c hic => ?_⟩
        have e : ∀ k, ({ block := b, off := off } : Addr).add k = ⟨b, off + k, none⟩ := fun k => by simp [Addr.add]
        have h3 := (hxs i c hic).2
        rw [e, e, e, ← Nat.add_assoc, ← Nat.add_assoc] at h3
        exact h3
    · obtain ⟨i, hi', hic⟩ := List.mem_iff_getElem.1 hc
      exact (hxs i c (by rw [← hic]; exact List.getElem?_eq_getElem hi')).1
end
end Go.Proofs.YtjcminoaiieckaaGreatDoor
namespace Go.Proofs.YtjcminoaiieckaaGreatDoor
open Go.RowKit Go.ChangeShapes Go.WideShapes Go.Deep
set_option linter.unusedVariables false
section
variable {H : Type} {enc : TypeId × Value → H} {w : World} {base : Nat} {spare : Nat → Bool} {held : Bool}
theorem slice_form {n : Nat} {cs : List Value} {x : DataW H × List MemPlace} (h : DataW.trod enc Tryz.prog w base spare held n 30 cs = some x) : ∃ a len cap, cs = [.slice a len cap] := by
  rcases open_slice Tryz.underlying30 h with ⟨hcs, _⟩ | ⟨ad, len', cap', m, n', D, Pl, hcs, _⟩
  · exact ⟨_, _, _, hcs⟩
  · exact ⟨_, _, _, hcs⟩
end
end Go.Proofs.YtjcminoaiieckaaGreatDoor
namespace Go.Proofs.YtjcminoaiieckaaGreatDoor
open Go.RowKit Go.ChangeShapes Go.WideShapes Go.Deep Go.Joins
set_option linter.unusedVariables false
theorem list_pick {α : Type} : ∀ (n : Nat) (p : Nat → α → Prop), (∀ i, i < n → ∃ c, p i c) → ∃ xs : List α, xs.length = n ∧ ∀ i c, xs[i]? = some c → p i c
  | 0, p, h => ⟨[], rfl, fun i c hi => by simp at hi⟩
  | n + 1, p, h => by
    obtain ⟨xs, hl, hp⟩ := list_pick n p (fun i hi => h i (by omega))
    obtain ⟨c, hc⟩ := h n (by omega)
    refine ⟨xs ++ [c], by simp [hl], fun i d hi => ?_⟩
    rcases Nat.lt_or_ge i n with h1 | h1
    · rw [List.getElem?_append_left (by omega)] at hi
      exact hp i d hi
    · obtain ⟨h2, _⟩ := List.getElem?_eq_some_iff.1 hi
      simp [hl] at h2
      obtain rfl : i = n := by omega
      rw [List.getElem?_append_right (by omega), hl, Nat.sub_self] at hi
      simp at hi
      subst hi
      exact hc
theorem SIn.more {w : World} : ∀ {d e : Nat} {s : SV}, d ≤ e → SIn w d s → SIn w e s
  | 0, _, _, _, h => h.elim
  | d + 1, 0, _, hl, _ => by omega
  | d + 1, e + 1, .mk f ps, hl, ⟨h1, h2, h3⟩ => ⟨h1, h2, fun p hp => SIn.more (by omega) (h3 p hp)⟩
theorem WIn.more {w : World} : ∀ {d e : Nat} {s : WV}, d ≤ e → WIn w d s → WIn w e s
  | 0, _, _, _, h => h.elim
  | d + 1, 0, _, hl, _ => by omega
  | d + 1, e + 1, .mk f ps, hl, ⟨h0, h1, h2, h3⟩ => ⟨h0, h1, h2, fun p hp => WIn.more (by omega) (h3 p hp)⟩
theorem six_len {cs : List Value} (h : cs.length = 6) : ∃ a b c d e f, cs = [a, b, c, d, e, f] := by
  match cs, h with
  | [a, b, c, d, e, f], _ => exact ⟨a, b, c, d, e, f, rfl⟩
section
variable {H : Type} {enc : TypeId × Value → H} {w : World} {base : Nat} {spare : Nat → Bool} {held : Bool}
set_option maxRecDepth 100000 in
theorem space_in : ∀ (fuel : Nat) {cs : List Value} {x : DataW H × List MemPlace}, DataW.trod enc Tryz.prog w base spare held fuel 25 cs = some x → ∃ s : SV, cs = [.int .i64 s.f.tag, .int .i64 s.f.dim, .slice s.f.a s.f.len s.f.cap] ∧ SIn w fuel s := by
  intro fuel
  induction fuel using Nat.strongRecOn with
  | _ fuel ih =>
  intro cs x h
  obtain ⟨xs, n, hn, _, hl, hlen, hg⟩ := DataW.trod_struct Tryz.underlying25 h
  rw [show Tryz.prog.cellsOf 25 = 3 by kernel_rfl] at hl
  obtain ⟨a, b, c, rfl⟩ := three_len hl
  have hlen3 : xs.length = 3 := hlen
  have g0 := hg 0 _ rfl
  have g1 := hg 1 _ rfl
  have g2 := hg 2 _ rfl
  rw [show Tryz.prog.cellsOf _ = 1 by kernel_rfl, List.getElem?_eq_getElem (by omega)] at g0 g1 g2
  obtain ⟨z0, e0, _, w0⟩ := DataW.trod_int (k := .i64) (by kernel_rfl) g0
  obtain ⟨z1, e1, _, w1⟩ := DataW.trod_int (k := .i64) (by kernel_rfl) g1
  simp at e0 e1
  subst e0 e1
  rcases DataW.trod_slice Tryz.underlying23 g2 with ⟨hcs, _⟩ | ⟨ad, len, cap, elems, rest, n', hn', hcs, _, hb, hle, hcap, hel, hi, _, _⟩
  · simp at hcs
    subst hcs
    subst hn
    exact ⟨.mk ⟨z0, z1, none, 0, 0⟩ [], rfl, rfl, .inl rfl, fun p hp => by cases hp⟩
  · simp at hcs
    subst hcs
    subst hn
    rw [show Tryz.prog.cellsOf 25 = 3 by kernel_rfl] at hi
    obtain ⟨ps, hpl, hps⟩ := list_pick len (fun i (p : SV) => (w.cell? (ad.add (i * 3)) = some (.int .i64 p.f.tag) ∧ w.cell? (ad.add (i * 3 + 1)) = some (.int .i64 p.f.dim) ∧ w.cell? (ad.add (i * 3 + 2)) = some (.slice p.f.a p.f.len p.f.cap)) ∧ SIn w n' p) (fun i hil => by
      have hii := hi i hil
      rw [List.getElem?_eq_getElem (by omega)] at hii
      obtain ⟨cs', hc, ht⟩ := Option.bind_eq_some_iff.1 hii
      obtain ⟨_, hcl, hat⟩ := World.cells?_some hc
      obtain ⟨s, rfl, hs⟩ := ih n' (by omega) ht
      have e0 := hat 0 (by omega)
      have e1 := hat 1 (by omega)
      have e2 := hat 2 (by omega)
      rw [Go.Deep.add_add] at e0 e1 e2
      exact ⟨s, ⟨e0, e1, e2⟩, hs⟩)
    refine ⟨.mk ⟨z0, z1, some ad, len, cap⟩ ps, rfl, hpl, ?_, fun p hp => ?_⟩
    · rcases Nat.eq_zero_or_pos len with h0 | h0
      · exact .inl (List.length_eq_zero_iff.1 (by omega))
      · obtain ⟨b, off, spot⟩ := ad
        obtain ⟨⟨h1, _, _⟩, _⟩ := hps 0 (ps[0]'(by omega)) (List.getElem?_eq_getElem (by omega))
        have hspot : spot = none := by simpa [Addr.add] using World.cell?_spot h1
        subst hspot
        refine .inr ⟨b, off, rfl, fun i c hic => ?_⟩
        have e : ∀ k, ({ block := b, off := off } : Addr).add k = ⟨b, off + k, none⟩ := fun k => by simp [Addr.add]
        have h3 := (hps i c hic).1
        rw [e, e, e, ← Nat.add_assoc, ← Nat.add_assoc] at h3
        exact h3
    · obtain ⟨i, hi', hic⟩ := List.mem_iff_getElem.1 hp
      exact (hps i p (by rw [← hic]; exact List.getElem?_eq_getElem hi')).2.more (by omega)
set_option maxRecDepth 100000 in
theorem u64s_open {n : Nat} {v : Value} {x : DataW H × List MemPlace} (h : DataW.trod enc Tryz.prog w base spare held n 27 [v] = some x) :
    ∃ (a : Option Addr) (len cap : Nat) (rows : List Nat), v = .slice a len cap ∧ VRow w a (u64s rows) ∧ rows.length = len ∧ ∀ r ∈ rows, r < 18446744073709551616 := by
  rcases open_ints (t := 27) (e := 26) (k := .u64) (by kernel_rfl) (by kernel_rfl) (by kernel_rfl) h with ⟨hcs, _⟩ | ⟨x, len, cap, zs, hcs, _, hl, hm, hz, _, hcell, hwz⟩
  · have hcs' : v = .slice none 0 0 := by simpa using hcs
    subst hcs'
    exact ⟨none, 0, 0, [], rfl, .inl rfl, rfl, fun r hr => by cases hr⟩
  · have hcs' : v = .slice (some x) len cap := by simpa using hcs
    subst hcs'
    have hzl : len ≤ zs.length := by rw [hz]; split <;> omega
    refine ⟨some x, len, cap, (zs.take len).map Int.toNat, rfl, ?_, ?_, ?_⟩
    · rcases Nat.eq_zero_or_pos len with h0 | h0
      · subst h0; exact .inl (by simp [u64s])
      · obtain ⟨b, off, spot⟩ := x
        have hc0 := hcell 0 (by omega)
        have hspot : spot = none := by simpa [Addr.add] using World.cell?_spot hc0
        subst hspot
        refine .inr ⟨b, off, rfl, fun i v hi => ?_⟩
        obtain ⟨q, hq, rfl⟩ := u64s_at hi
        rw [List.getElem?_map, List.getElem?_take] at hq
        split at hq
        · rename_i hlt
          have hi2 : i < zs.length := by omega
          rw [List.getElem?_eq_getElem hi2] at hq
          have hq' : (zs[i]).toNat = q := by simpa using hq
          obtain ⟨m, hm1, hm2⟩ := u64_nat (hwz _ (List.getElem_mem hi2))
          have hc := hcell i hi2
          have e : ({ block := b, off := off } : Addr).add i = ⟨b, off + i, none⟩ := by simp [Addr.add]
          rw [e] at hc
          rw [hc]
          have : zs.getD i 0 = zs[i] := by simp [List.getD, List.getElem?_eq_getElem hi2]
          rw [this, hm1, ← hq', hm1]
          rfl
        · cases hq
    · simp; omega
    · intro r hr
      obtain ⟨z, hz1, rfl⟩ := List.mem_map.1 hr
      obtain ⟨m, hm1, hm2⟩ := u64_nat (hwz z (List.mem_of_mem_take hz1))
      rw [hm1]; exact hm2
set_option maxRecDepth 100000 in
theorem facts_in {n : Nat} {a b : Value} {x : DataW H × List MemPlace} (h : DataW.trod enc Tryz.prog w base spare held n 29 [a, b] = some x) :
    ∃ (g : Nat) (ra : Option Addr) (rl rc : Nat) (rows : List Nat), a = .int .u64 (g : Int) ∧ b = .slice ra rl rc ∧ g < 18446744073709551616 ∧ VRow w ra (u64s rows) ∧ rows.length = rl ∧ ∀ r ∈ rows, r < 18446744073709551616 := by
  obtain ⟨xs, n', _, _, hl, hlen, hg⟩ := DataW.trod_struct Tryz.underlying29 h
  have hlen2 : xs.length = 2 := hlen
  have g0 := hg 0 _ rfl
  have g1 := hg 1 _ rfl
  rw [show Tryz.prog.cellsOf _ = 1 by kernel_rfl, List.getElem?_eq_getElem (by omega)] at g0 g1
  obtain ⟨z0, e0, _, w0⟩ := DataW.trod_int (k := .u64) (by kernel_rfl) g0
  simp at e0
  subst e0
  obtain ⟨g, rfl, hg64⟩ := u64_nat w0
  obtain ⟨ra, rl, rc, rows, e1, h1, h2, h3⟩ := u64s_open (v := b) g1
  exact ⟨g, ra, rl, rc, rows, rfl, e1, hg64, h1, h2, h3⟩
set_option maxRecDepth 100000 in
theorem weight_in : ∀ (fuel : Nat) {cs : List Value} {x : DataW H × List MemPlace}, DataW.trod enc Tryz.prog w base spare held fuel 33 cs = some x → ∃ s : WV, cs = s.f.six ∧ WIn w fuel s := by
  intro fuel
  induction fuel using Nat.strongRecOn with
  | _ fuel ih =>
  intro cs x h
  obtain ⟨xs, n, hn, _, hl, hlen, hg⟩ := DataW.trod_struct Tryz.underlying33 h
  rw [show Tryz.prog.cellsOf 33 = 6 by kernel_rfl] at hl
  obtain ⟨a, b, c, d, e, f, rfl⟩ := six_len hl
  have hlen5 : xs.length = 5 := hlen
  have g0 := hg 0 _ rfl
  have g1 := hg 1 _ rfl
  have g2 := hg 2 _ rfl
  have g3 := hg 3 _ rfl
  have g4 := hg 4 _ rfl
  rw [show Tryz.prog.cellsOf _ = 1 by kernel_rfl, List.getElem?_eq_getElem (by omega)] at g0 g1 g3 g4
  rw [show Tryz.prog.cellsOf _ = 2 by kernel_rfl, List.getElem?_eq_getElem (by omega)] at g2
  obtain ⟨z0, e0, _⟩ := DataW.trod_bool (by kernel_rfl) g0
  obtain ⟨z1, e1, _, w1⟩ := DataW.trod_int (k := .i64) (by kernel_rfl) g1
  simp at e0 e1
  subst e0 e1
  obtain ⟨gg, ra, rl, rc, rows, rfl, rfl, hg64, hrow, hrl, hr64⟩ := facts_in (a := c) (b := d) g2
  obtain ⟨ca, cl, cc, e3⟩ := slice_form g3
  have e3' : e = .slice ca cl cc := by simpa using e3
  subst e3'
  obtain ⟨cells, hcl, hcm, hcrow, hcbits⟩ := cells_open (a := ca) (len := cl) (cap := cc) g3
  rcases DataW.trod_slice Tryz.underlying31 g4 with ⟨hcs, _⟩ | ⟨ad, len, cap, elems, rest, n', hn', hcs, _, hb, hle, hcap, hel, hi, _, _⟩
  · simp at hcs
    subst hcs
    subst hn
    exact ⟨.mk ⟨z0, z1, gg, ra, rl, rc, rows, ca, cl, cc, cells, none, 0, 0⟩ [], rfl, ⟨hrow, hrl, hg64, hr64, hcrow, hcl.symm, hcbits, by dsimp only; omega⟩, rfl, .inl rfl, fun p hp => by cases hp⟩
  · simp at hcs
    subst hcs
    subst hn
    rw [show Tryz.prog.cellsOf 33 = 6 by kernel_rfl] at hi
    obtain ⟨ps, hpl, hps⟩ := list_pick len (fun i (p : WV) => (w.cell? (ad.add (i * 6)) = some (.bool p.f.z) ∧ w.cell? (ad.add (i * 6 + 1)) = some (.int .i64 p.f.c) ∧ w.cell? (ad.add (i * 6 + 2)) = some (.int .u64 (p.f.g : Int)) ∧ w.cell? (ad.add (i * 6 + 3)) = some (.slice p.f.ra p.f.rl p.f.rc) ∧ w.cell? (ad.add (i * 6 + 4)) = some (.slice p.f.ca p.f.cl p.f.cc) ∧ w.cell? (ad.add (i * 6 + 5)) = some (.slice p.f.pa p.f.pl p.f.pc)) ∧ WIn w n' p) (fun i hil => by
      have hii := hi i hil
      rw [List.getElem?_eq_getElem (by omega)] at hii
      obtain ⟨cs', hc, ht⟩ := Option.bind_eq_some_iff.1 hii
      obtain ⟨_, hcl, hat⟩ := World.cells?_some hc
      obtain ⟨s, rfl, hs⟩ := ih n' (by omega) ht
      have e0 := hat 0 (by omega)
      have e1 := hat 1 (by omega)
      have e2 := hat 2 (by omega)
      have e3 := hat 3 (by omega)
      have e4 := hat 4 (by omega)
      have e5 := hat 5 (by omega)
      rw [Go.Deep.add_add] at e0 e1 e2 e3 e4 e5
      exact ⟨s, ⟨e0, e1, e2, e3, e4, e5⟩, hs⟩)
    refine ⟨.mk ⟨z0, z1, gg, ra, rl, rc, rows, ca, cl, cc, cells, some ad, len, cap⟩ ps, rfl, ⟨hrow, hrl, hg64, hr64, hcrow, hcl.symm, hcbits, by dsimp only; omega⟩, hpl, ?_, fun p hp => ?_⟩
    · rcases Nat.eq_zero_or_pos len with h0 | h0
      · exact .inl (List.length_eq_zero_iff.1 (by omega))
      · obtain ⟨b, off, spot⟩ := ad
        obtain ⟨⟨h1, _⟩, _⟩ := hps 0 (ps[0]'(by omega)) (List.getElem?_eq_getElem (by omega))
        have hspot : spot = none := by simpa [Addr.add] using World.cell?_spot h1
        subst hspot
        refine .inr ⟨b, off, rfl, fun i c hic => ?_⟩
        have e : ∀ k, ({ block := b, off := off } : Addr).add k = ⟨b, off + k, none⟩ := fun k => by simp [Addr.add]
        have h3 := (hps i c hic).1
        rw [e, e, e, e, e, e, ← Nat.add_assoc, ← Nat.add_assoc, ← Nat.add_assoc, ← Nat.add_assoc, ← Nat.add_assoc] at h3
        exact h3
    · obtain ⟨i, hi', hic⟩ := List.mem_iff_getElem.1 hp
      exact (hps i p (by rw [← hic]; exact List.getElem?_eq_getElem hi')).2.more (by omega)
end
end Go.Proofs.YtjcminoaiieckaaGreatDoor
namespace Go.Proofs.YtjcminoaiieckaaGreatDoor
open Go Go.RowKit
set_option linter.unusedVariables false
def zvW : WV := .mk ⟨false, 0, 0, none, 0, 0, [], none, 0, 0, [], none, 0, 0⟩ []
theorem zv_in (w : World) : WIn w 1 zvW :=
  ⟨⟨.inl rfl, rfl, by decide, (fun r hr => by cases hr), .inl rfl, rfl, (fun c hc => by cases hc), by decide⟩, rfl, .inl rfl, fun p hp => by cases hp⟩
theorem sameZ (w : World) : Calls Tryz.prog 22 #[.agg #[.bool false, .int .i64 0, .int .u64 0, .slice none 0 0, .slice none 0 0, .slice none 0 0], .agg #[.bool false, .int .i64 0, .int .u64 0, .slice none 0 0, .slice none 0 0, .slice none 0 0]] w fun e w' => e = .returned (.bool true) ∧ Below w.heap.size w w' :=
  sameWR_is 1 1 zvW zvW w (zv_in w) (zv_in w) rfl rfl

end Go.Proofs.YtjcminoaiieckaaGreatDoor
