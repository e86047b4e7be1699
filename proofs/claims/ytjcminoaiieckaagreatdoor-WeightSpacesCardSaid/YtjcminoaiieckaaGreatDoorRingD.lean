import Derived.Test.YtjcminoaiieckaaGreatDoorRows
import Derived.Lib.LaidTab
import Derived.Lib.ItoaNum
import Derived.Lib.TrailingZeros
import Derived.Stop.LaidErr
import Derived.WalkSmall
import Derived.LaidMore
import Derived.WalkKit
import Derived.Shelf.Spec.TrailingZeros
import Derived.Test.YtjcminoaiieckaaGreatDoorProg
import Derived.Laws.BitsAllLaws
import Derived.Laws.Bits64
import Derived.Lib.Hide
import Derived.Deep.QuietTactic
import Derived.BigQuiet
import Derived.RegionTactic
import Derived.BigRegion
import Derived.Deep.RegionHeld3
import Derived.ChangeAlike
import Derived.RangeFuncNested
import Derived.RangeFuncBound
import Derived.RangeFuncCalls
import Derived.RangeFuncLeaves
import Derived.Shelf.Abstract
import Derived.Shelf.RegionOpen
import Derived.OwnWalkIn
import Derived.TacticsInMore
import Derived.LoopNIn
import Derived.LoopIn
import Derived.Maps.AppendAt
import Derived.Deep.AppendLies
import Derived.Laws.Bits128
import Derived.Below
import Derived.Shelf.Strings.Builder1
import Derived.Shelf.Strings.Builder2
import Derived.Shelf.Strings.OnBuilder
import Derived.Shelf.Strconv.Itoa0
import Derived.Shelf.Strconv.Itoa1
import Derived.Shelf.LaysM
import Derived.Shelf.Strconv.Itoa2
import Derived.Shelf.Strconv.Itoa3
import Derived.Shelf.Strconv.Itoa4
import Derived.Shelf.Strings.Search1
import Derived.Shelf.Strings.Search2
import Derived.Shelf.Strings.Search3
import Derived.Shelf.Strings.Cut
import Derived.Shelf.Strings.Count
import Derived.Shelf.Strings.Shaped
import Derived.Shelf.Strconv.AppendUint10
import Derived.Shelf.Strconv.AppendInt10
import Derived.Shelf.Strconv.AppendIntPublic10
import Derived.Shelf.Unicode.DecodeSlow
import Derived.Lib.OthersKept
import Derived.Laws.IdiomStrings
import Derived.StillTailTactics
import Derived.Deep.RegionLaw
import Derived.Deep.DeepCutAuto
import Derived.Deep.CutRange
import Derived.Deep.RegionWith
import Derived.Laws.Bits64b
import Derived.Lib.SliceRun
import Derived.Laws.OwnMore
import Derived.OwnWalk
import Derived.WalkSpells
import Derived.Lib.Join
import Derived.Deep.DrawnRows
import Derived.Orders
import Derived.Deep.RegionHeld
import Derived.KernelRfl
import Derived.Laws.Rows
import Derived.Laws.AppendOwn
import Derived.Laws.Strings
import Derived.Laws.Small
import Derived.IntWalk
import Derived.Laws.Tables
import Derived.Laws.Concat
import Derived.Laws.MakeOwn
import Derived.Deep.Slices
import Derived.Deep.Fields
import Derived.ChangeSame
import Derived.Lib.SmallJoins
import Derived.ChangeSlices
import Derived.ProofKit
import Derived.Test.YtjcminoaiieckaaGreatDoorRingA
import Derived.Test.YtjcminoaiieckaaGreatDoorRingB
import Derived.Test.YtjcminoaiieckaaGreatDoorRingC
set_option linter.unusedVariables false
set_option linter.unusedSimpArgs false
set_option linter.unusedSectionVars false
set_option linter.unnecessarySimpa false
namespace Go.Proofs.YtjcminoaiieckaaGreatDoor
open Go Go.RowKit
set_option linter.unusedVariables false
theorem own_two {w : World} {base : Nat} {v : Value} {g h : WF} (hr : w.ownsRow base 33 6 v 2 (g.six ++ h.six)) : ∃ b c, v = .slice (some ⟨b, 0, none⟩) 2 c ∧ base ≤ b ∧ W6 w b 0 g ∧ W6 w b 6 h := by
  rcases hr.2 with ⟨_, h2⟩ | ⟨b, cap, cur, rfl, hb, hh, h1, h2, h3, h4⟩
  · cases h2
  · have key : ∀ i v, (g.six ++ h.six)[i]? = some v → w.cell? ⟨b, i, none⟩ = some v := fun i v hi => by
      rw [← h4, List.getElem?_take] at hi
      split at hi
      · unfold World.cell?; simp only [hh]; simpa using hi
      · cases hi
    exact ⟨b, cap, rfl, hb, ⟨key 0 _ rfl, key 1 _ rfl, key 2 _ rfl, key 3 _ rfl, key 4 _ rfl, key 5 _ rfl⟩, ⟨key 6 _ rfl, key 7 _ rfl, key 8 _ rfl, key 9 _ rfl, key 10 _ rfl, key 11 _ rfl⟩⟩
theorem copied_fin {w W : World} {t n u m : Int} {ra ca : Option Addr} {rc cc lo1 lo2 : Nat} {v : Value} {g h : WF} {x y : PF} (hb : Below w.heap.size w W) (hr : W.ownsRow w.heap.size 33 6 v 2 (g.six ++ h.six)) (h1 : w.heap.size ≤ lo1) (k1 : PNew lo1 W t n g x) (h2 : w.heap.size ≤ lo2) (k2 : PNew lo2 W u m h y) :
    WRet (.two t n u m) (.two x y) w (.returned (.agg (List.toArray [.bool false, .int .i64 0, .int .u64 0, .slice ra 0 rc, .slice ca 0 cc, v]))) W := by
  obtain ⟨b, c, rfl, hb0, h6, h7⟩ := own_two hr
  exact ⟨⟨false, 0, 0, ra, 0, rc, [], ca, 0, cc, [], some ⟨b, 0, none⟩, 2, c⟩, rfl, ⟨rfl, rfl, rfl, rfl, b, g, h, rfl, hb0, h6, h7, k1.mono h1, k2.mono h2⟩, hb⟩

set_option maxRecDepth 100000 in
set_option maxHeartbeats 4000000 in
theorem copied_pair (t n u m0 : Int) (w : World) (fra fca : Option Addr) (frc fcc fpc fb fo : Nat) (f1 f2 : WF) (x1 x2 : PF) (hf6 : W6 w fb fo f1) (hf7 : W6 w fb (fo + 6) f2) (hx1 : PIs w t n f1 x1) (hx2 : PIs w u m0 f2 x2) :
    Calls Tryz.prog 55 #[.agg #[.bool false, .int .i64 0, .int .u64 0, .slice fra 0 frc, .slice fca 0 fcc, .slice (some ⟨fb, fo, none⟩) 2 fpc]] w (WRet (.two t n u m0) (.two x1 x2) w) := by
  refine enterF (args := [.agg #[.bool false, .int .i64 0, .int .u64 0, .slice fra 0 frc, .slice fca 0 fcc, .slice (some ⟨fb, fo, none⟩) 2 fpc]]) Tryz.func55 rfl Tryz.ntmps55 rfl ?_
  have hS := St.start w
  refine seqF ?_
  refine regF ?_
  refine op_box (cs := [_, _, _, _, _, _]) hS rfl rfl rfl ?_
  clear hS; intro B1 W1 hS
  refine op_alloc (cs := [_, _, _, _, _, _]) hS Tryz.zeroValue33 rfl rfl ?_
  clear hS; intro B2 W2 hS
  refine endF ?_
  refine XF.thenN ?_
  refine seqF ?_
  refine regF ?_
  refine op_field (o' := 2) fa_33_2 rfl rfl rfl ?_
  refine op_field (o' := 3) fa_29_1 rfl rfl rfl ?_
  refine op_load Tryz.isAgg27 rfl (cell_own (hS.at_ 1 rfl) rfl) rfl ?_
  refine op_call (vs := [_]) hS goes_82 rfl (clone_is _ _ [] _ (by simp) (.inl rfl) 0 rfl) rfl ?_
  rintro e W3 ⟨v, rfl, hown, hb⟩
  refine ⟨_, rfl, hb, fun hS' => ?_⟩
  clear hS; have hS := hS'; clear hS' hb
  obtain ⟨ra1, rc1, rfl, _, _⟩ := (urow_of_own (rows := []) hown).2
  clear hown
  refine op_field (o' := 2) fa_33_2 rfl rfl rfl ?_
  refine op_field (o' := 3) fa_29_1 rfl rfl rfl ?_
  refine op_store (i := 1) (cs' := [_, _, _, _, _, _]) (O' := [_, _]) hS Tryz.sizeOf27 rfl rfl rfl rfl rfl rfl rfl ?_
  clear hS; intro W4 hS
  refine endF ?_
  refine XF.thenN ?_
  refine seqF ?_
  refine regF ?_
  refine op_field (o' := 4) fa_33_3 rfl rfl rfl ?_
  refine op_load Tryz.isAgg30 rfl (cell_own (hS.at_ 1 rfl) rfl) rfl ?_
  refine op_call (vs := [_]) hS goes_83 rfl (cclone_is _ _ [] _ (by simp) (.inl rfl) 0 rfl) rfl ?_
  rintro e W5 ⟨ca1, cc1, rfl, _, _, hb⟩
  refine ⟨_, rfl, hb, fun hS' => ?_⟩
  clear hS; have hS := hS'; clear hS' hb
  refine op_field (o' := 4) fa_33_3 rfl rfl rfl ?_
  refine op_store (i := 1) (cs' := [_, _, _, _, _, _]) (O' := [_, _]) hS Tryz.sizeOf30 rfl rfl rfl rfl rfl rfl rfl ?_
  clear hS; intro W6 hS
  refine endF ?_
  refine XF.thenN ?_
  refine seqF ?_
  refine regF ?_
  refine op_assign rfl rfl ?_
  refine endF ?_
  refine XF.thenN ?_
  refine seqF ?_
  refine seqF ?_
  have hS := (hS.newG 33 6).clear
  refine regF ?_
  refine op_field (o' := 5) fa_33_4 rfl rfl rfl ?_
  refine op_load Tryz.isAgg31 rfl (cell_own (hS.at_ 1 rfl) rfl) rfl ?_
  refine op_len Tryz.underlying31 rfl rfl ?_
  refine op_move rfl rfl ?_
  refine endF ?_
  refine XF.thenN ?_
  refine blockF ?_
  refine loopF (fun m l W => (m = 2 ∧ l = [(1, .pointer (some ⟨B1, 0, none⟩)), (2, .pointer (some ⟨B2, 0, none⟩)), (3, .slice none 0 0), (17, .slice (some ⟨fb, fo, none⟩) 2 fpc), (18, .int .i64 2), (19, .int .i64 0)] ∧ St w [(B2, [.bool false, .int .i64 0, .int .u64 0, .slice none 0 0, .slice none 0 0, .slice none 0 0], 33), (B1, [.bool false, .int .i64 0, .int .u64 0, .slice ra1 0 rc1, .slice ca1 0 cc1, .slice (some ⟨fb, fo, none⟩) 2 fpc], 33)] [⟨.slice none 0 0, 0, [], 33, 6⟩] [] W) ∨ (∃ v1 lo1 A1 h1, m = 1 ∧ l = [(1, .pointer (some ⟨B1, 0, none⟩)), (2, .pointer (some ⟨B2, 0, none⟩)), (3, v1), (17, .slice (some ⟨fb, fo, none⟩) 2 fpc), (18, .int .i64 2), (19, .int .i64 1)] ∧ w.heap.size ≤ lo1 ∧ PNew lo1 A1 t n h1 x1 ∧ St w [(B2, [.bool false, .int .i64 0, .int .u64 0, .slice none 0 0, .slice none 0 0, .slice none 0 0], 33), (B1, [.bool false, .int .i64 0, .int .u64 0, .slice ra1 0 rc1, .slice ca1 0 cc1, .slice (some ⟨fb, fo, none⟩) 2 fpc], 33)] [⟨v1, 1, h1.six, 33, 6⟩] [(lo1, A1)] W) ∨ (∃ v2 lo1 A1 h1 lo2 A2 h2, m = 0 ∧ l = [(1, .pointer (some ⟨B1, 0, none⟩)), (2, .pointer (some ⟨B2, 0, none⟩)), (3, v2), (17, .slice (some ⟨fb, fo, none⟩) 2 fpc), (18, .int .i64 2), (19, .int .i64 2)] ∧ w.heap.size ≤ lo1 ∧ PNew lo1 A1 t n h1 x1 ∧ w.heap.size ≤ lo2 ∧ PNew lo2 A2 u m0 h2 x2 ∧ St w [(B2, [.bool false, .int .i64 0, .int .u64 0, .slice none 0 0, .slice none 0 0, .slice none 0 0], 33), (B1, [.bool false, .int .i64 0, .int .u64 0, .slice ra1 0 rc1, .slice ca1 0 cc1, .slice (some ⟨fb, fo, none⟩) 2 fpc], 33)] [⟨v2, 2, h1.six ++ h2.six, 33, 6⟩] [(lo2, A2), (lo1, A1)] W)) (2) ([(1, _), (2, _), (3, _), (17, _), (18, _), (19, _)]) ⟨rfl, rfl, rfl, rfl, rfl, rfl, trivial⟩ (.inl ⟨rfl, rfl, hS⟩) ?_
  clear hS
  rintro m l W (⟨rfl, rfl, hS⟩ | ⟨v1, lo1, A1, h1, rfl, rfl, hlo1, hn1, hS⟩ | ⟨v2, lo1, A1, h1, lo2, A2, h2, rfl, rfl, hlo1, hn1, hlo2, hn2, hS⟩)
  · have k1 := CellsAt.agree hS.agree (Nat.zero_le _) hf6.cells
    refine seqF ?_
    refine regF ?_
    refine op_lss rfl rfl rfl ?_
    refine endF ?_
    refine XF.thenN ?_
    refine seqF ?_
    refine condF rfl (fun hc => ?_) (fun hc => absurd (of_decide_eq_false hc) (by omega))
    have hc := of_decide_eq_true hc
    refine skipF ?_
    refine XF.thenN ?_
    refine seqF ?_
    refine blockF ?_
    refine seqF ?_
    refine regF ?_
    refine op_indexA (j := 0) Tryz.underlying31 Tryz.sizeOf33 rfl rfl rfl (by omega) (Nat.add_zero _) rfl ?_
    refine op_loadA (vs := [_, _, _, _, _, _]) Tryz.isAgg33 Tryz.sizeOf33 rfl (by assumption) rfl ?_
    refine op_alloc (cs := [_, _, _, _, _, _]) hS Tryz.zeroValue33 rfl rfl ?_
    clear hS; intro B7 W7 hS
    refine op_storeA (i := 0) (vs := [_, _, _, _, _, _]) (cs' := [_, _, _, _, _, _]) (O' := [_, _, _]) hS Tryz.sizeOf33 rfl rfl rfl rfl rfl rfl rfl ?_
    clear hS; intro W8 hS
    refine endF ?_
    refine XF.thenN ?_
    refine regF ?_
    refine op_move rfl rfl ?_
    refine op_loadA (vs := [_, _, _, _, _, _]) Tryz.isAgg33 Tryz.sizeOf33 rfl (CellsAt.own (j := 0) (m := 6) (hS.at_ 0 rfl) rfl) rfl ?_
    have hsz := hS.below.size
    refine op_call (vs := [_]) hS goes_55 rfl (copied_plain t n f1 _ _ (hx1.below hS.below)) rfl ?_
    rintro e W9 ⟨h1, rfl, hn, hb⟩
    refine ⟨_, rfl, hb, fun hS' => ?_⟩
    clear hS; have hS := hS'; clear hS'
    refine op_buildSlice (us := [(0, .agg (List.toArray [_, _, _, _, _, _]))]) hS Tryz.underlying31 Tryz.sizeOf33 Tryz.zeroValue33 rfl rfl rfl (bs_31_1 _ _ _ _ _ _) rfl ?_
    clear hS; intro B10 W10 hS
    refine op_append (i := 0) (news := [_, _, _, _, _, _]) hS Tryz.underlying31 inf_33 rfl rfl (by show 0 < 6; decide) rfl rfl rfl rfl rfl (CellsAt.own (j := 0) (m := 6) (hS.at_ 0 rfl) rfl) rfl rfl (by dsimp only; simp only [maxLen]; omega) (by dsimp only; show _ * 96 ≤ _; omega) rfl ?_
    clear hS; intro v11 W11 hS
    refine op_assign rfl rfl ?_
    refine endF ?_
    refine XF.blkN ?_
    refine XF.thenN ?_
    refine regF ?_
    refine op_add rfl rfl (IntWalk.i64_in _ (by omega)) rfl ?_
    refine op_move rfl rfl ?_
    refine endF ?_
    exact XF.round 1 [(1, _), (2, _), (3, _), (17, _), (18, _), (19, _)] (by omega) ⟨rfl, rfl, rfl, rfl, rfl, rfl, trivial⟩ (.inr (.inl ⟨_, _, _, h1, rfl, rfl, hsz, hn, hS.tail.tail⟩))
  · have k1 := CellsAt.agree hS.agree (Nat.zero_le _) hf7.cells
    refine seqF ?_
    refine regF ?_
    refine op_lss rfl rfl rfl ?_
    refine endF ?_
    refine XF.thenN ?_
    refine seqF ?_
    refine condF rfl (fun hc => ?_) (fun hc => absurd (of_decide_eq_false hc) (by omega))
    have hc := of_decide_eq_true hc
    refine skipF ?_
    refine XF.thenN ?_
    refine seqF ?_
    refine blockF ?_
    refine seqF ?_
    refine regF ?_
    refine op_indexA (j := 1) Tryz.underlying31 Tryz.sizeOf33 rfl rfl rfl (by omega) rfl rfl ?_
    refine op_loadA (vs := [_, _, _, _, _, _]) Tryz.isAgg33 Tryz.sizeOf33 rfl (by assumption) rfl ?_
    refine op_alloc (cs := [_, _, _, _, _, _]) hS Tryz.zeroValue33 rfl rfl ?_
    clear hS; intro B12 W12 hS
    refine op_storeA (i := 0) (vs := [_, _, _, _, _, _]) (cs' := [_, _, _, _, _, _]) (O' := [_, _, _]) hS Tryz.sizeOf33 rfl rfl rfl rfl rfl rfl rfl ?_
    clear hS; intro W13 hS
    refine endF ?_
    refine XF.thenN ?_
    refine regF ?_
    refine op_move rfl rfl ?_
    refine op_loadA (vs := [_, _, _, _, _, _]) Tryz.isAgg33 Tryz.sizeOf33 rfl (CellsAt.own (j := 0) (m := 6) (hS.at_ 0 rfl) rfl) rfl ?_
    have hsz := hS.below.size
    refine op_call (vs := [_]) hS goes_55 rfl (copied_plain u m0 f2 _ _ (hx2.below hS.below)) rfl ?_
    rintro e W14 ⟨h2, rfl, hn, hb⟩
    refine ⟨_, rfl, hb, fun hS' => ?_⟩
    clear hS; have hS := hS'; clear hS'
    refine op_buildSlice (us := [(0, .agg (List.toArray [_, _, _, _, _, _]))]) hS Tryz.underlying31 Tryz.sizeOf33 Tryz.zeroValue33 rfl rfl rfl (bs_31_1 _ _ _ _ _ _) rfl ?_
    clear hS; intro B15 W15 hS
    refine op_append (i := 0) (news := [_, _, _, _, _, _]) hS Tryz.underlying31 inf_33 rfl rfl (by show 0 < 6; decide) rfl rfl rfl rfl rfl (CellsAt.own (j := 0) (m := 6) (hS.at_ 0 rfl) rfl) rfl rfl (by dsimp only; simp only [maxLen]; omega) (by dsimp only; show _ * 96 ≤ _; omega) rfl ?_
    clear hS; intro v16 W16 hS
    refine op_assign rfl rfl ?_
    refine endF ?_
    refine XF.blkN ?_
    refine XF.thenN ?_
    refine regF ?_
    refine op_add rfl rfl (IntWalk.i64_in _ (by omega)) rfl ?_
    refine op_move rfl rfl ?_
    refine endF ?_
    exact XF.round 0 [(1, _), (2, _), (3, _), (17, _), (18, _), (19, _)] (by omega) ⟨rfl, rfl, rfl, rfl, rfl, rfl, trivial⟩ (.inr (.inr ⟨_, _, _, h1, _, _, h2, rfl, rfl, hlo1, hn1, hsz, hn, hS.tail.tail⟩))
  · skip
    refine seqF ?_
    refine regF ?_
    refine op_lss rfl rfl rfl ?_
    refine endF ?_
    refine XF.thenN ?_
    refine seqF ?_
    refine condF rfl (fun hc => absurd (of_decide_eq_true hc) (by omega)) (fun hc => ?_)
    have hc := of_decide_eq_false hc
    refine exitF ?_
    refine XF.thenX ?_
    refine XF.thenX ?_
    refine XF.blkX ?_
    refine XF.thenN ?_
    refine seqF ?_
    obtain ⟨gb, gc, rfl, hgb, hg6, hg7⟩ := own_two (hS.row 0 rfl)
    clear hgb hg6 hg7
    refine regF ?_
    refine op_move rfl rfl ?_
    refine op_field (o' := 5) fa_33_4 rfl rfl rfl ?_
    refine op_store (i := 1) (cs' := [_, _, _, _, _, _]) (O' := [_, _]) hS Tryz.sizeOf31 rfl rfl rfl rfl rfl rfl rfl ?_
    clear hS; intro W17 hS
    refine endF ?_
    refine XF.thenN ?_
    refine seqF ?_
    refine regF ?_
    refine op_loadA (vs := [_, _, _, _, _, _]) Tryz.isAgg33 Tryz.sizeOf33 rfl (CellsAt.own (j := 0) (m := 6) (hS.at_ 1 rfl) rfl) rfl ?_
    refine op_storeA (i := 0) (vs := [_, _, _, _, _, _]) (cs' := [_, _, _, _, _, _]) (O' := [_, _]) hS Tryz.sizeOf33 rfl rfl rfl rfl rfl rfl rfl ?_
    clear hS; intro W18 hS
    refine endF ?_
    refine XF.thenN ?_
    refine retF ?_
    refine XF.res (resC1 (vs := [_, _, _, _, _, _]) Tryz.results55 Tryz.isAgg33 Tryz.sizeOf33 rfl (CellsAt.own (j := 0) (m := 6) (hS.at_ 0 rfl) rfl)) ?_
    exact copied_fin hS.below (hS.row 0 rfl) hlo1 (hn1.agree (hS.since 1 rfl)) hlo2 (hn2.agree (hS.since 0 rfl))
end Go.Proofs.YtjcminoaiieckaaGreatDoor
namespace Go.Proofs.YtjcminoaiieckaaGreatDoor
open Go Go.RowKit
set_option linter.unusedVariables false
section
variable {w : World} {S : PS} {sf : SF} {f g : WF} {x y : PX}
theorem copied_ok (hx : XIs w S f x) : Calls Tryz.prog 55 #[f.val] w (WRet S x w) := by
  cases S <;> cases x <;> first | exact hx.elim | skip
  · exact copied_plain _ _ _ _ _ hx
  · obtain ⟨ra, ca, rc, cc, pc, fb, fo, f1, f2, rfl, h6, h7, h8, h9⟩ := hx.two
    exact copied_pair _ _ _ _ _ _ _ _ _ _ _ _ _ _ _ _ h6 h7 h8 h9
theorem wComb_is (hs : SIs w S sf) (hok : S.ok) (hx : XIs w S f x) (hy : XIs w S g y) (ht : Tabs w) : Calls Tryz.prog 52 #[sf.val, f.val, g.val] w (WRet S (combX S x y) w) := by
  cases S <;> cases x <;> cases y <;> first | exact hx.elim | exact hy.elim | skip
  · obtain ⟨a, c, rfl⟩ := hs
    exact combA_plain _ _ _ _ _ _ _ _ _ hok hx hy ht
  · obtain ⟨b, off, c, a1, c1, a2, c2, rfl, h1, h2⟩ := hs
    obtain ⟨ra, ca, rc, cc, pc, fb, fo, f1, f2, rfl, h6, h7, h8, h9⟩ := hx.two
    obtain ⟨ra', ca', rc', cc', pc', gb, go, g1, g2, rfl, h6', h7', h8', h9'⟩ := hy.two
    exact combA_pair _ _ _ _ _ _ _ _ _ _ _ _ h1 h2 hok.1 hok.2 _ _ _ _ _ _ _ _ _ _ _ h6 h7 h8 h9 _ _ _ _ _ _ _ _ _ _ _ h6' h7' h8' h9' ht
end
def FRow (w : World) (a : Option Addr) (fs : List WF) : Prop := fs = [] ∨ ∃ b off, a = some ⟨b, off, none⟩ ∧ ∀ (i : Nat) f, fs[i]? = some f → W6 w b (off + i * 6) f
theorem FRow.at_ {w : World} {a : Option Addr} {fs : List WF} (h : FRow w a fs) {i : Nat} {f : WF} (hi : fs[i]? = some f) : ∃ b off, a = some ⟨b, off, none⟩ ∧ W6 w b (off + i * 6) f := by
  rcases h with rfl | ⟨b, off, ha, hc⟩
  · simp at hi
  · exact ⟨b, off, ha, hc i f hi⟩
def XL (w : World) (S : PS) (fs : List WF) (xs : List PX) : Prop := fs.length = xs.length ∧ ∀ (i : Nat) f x, fs[i]? = some f → xs[i]? = some x → XIs w S f x
theorem XL.at_ {w : World} {S : PS} {fs : List WF} {xs : List PX} (h : XL w S fs xs) {k : Nat} (hk : k < fs.length) : ∃ f x, fs[k]? = some f ∧ xs[k]? = some x ∧ XIs w S f x :=
  ⟨fs[k], xs[k]'(by have := h.1; omega), by simp [hk], by have := h.1; simp [show k < xs.length by omega], h.2 k _ _ (by simp [hk]) (by have := h.1; simp [show k < xs.length by omega])⟩
def WRet2 (S : PS) (x : PX) (e0 : Int) (w : World) (e : Ending) (w' : World) : Prop := ∃ f : WF, e = .returned (.tuple #[f.val, .int .i64 e0]) ∧ XNew w.heap.size w' S f x ∧ Below w.heap.size w w'
theorem take_fold {α β : Type} {f : β → α → β} {b : β} {xs : List α} {k : Nat} {x : α} (h : xs[k]? = some x) : (xs.take (k + 1)).foldl f b = f ((xs.take k).foldl f b) x := by
  rw [List.take_add_one, h]; simp [List.foldl_append]
theorem FRow.below {w w' : World} {a : Option Addr} {fs : List WF} (h : FRow w a fs) (hb : Below w.heap.size w w') : FRow w' a fs := by
  rcases h with h | ⟨b, off, rfl, hc⟩
  · exact .inl h
  · exact .inr ⟨b, off, rfl, fun i f hi => (hc i f hi).below hb⟩
theorem XL.below {w w' : World} {S : PS} {fs : List WF} {xs : List PX} (h : XL w S fs xs) (hb : Below w.heap.size w w') : XL w' S fs xs := ⟨h.1, fun i f x hf hx => (h.2 i f x hf hx).below hb⟩

set_option maxRecDepth 100000 in
set_option maxHeartbeats 4000000 in
theorem checkAllW_ok (S : PS) (sf : SF) (w : World) (hs : SIs w S sf) (hok : S.ok) (a : Option Addr) (c m : Nat) (fs : List WF) (xs : List PX) (hr : FRow w a fs) (hx : XL w S fs xs) (hm : fs.length = m) (hmx : m ≤ 9223372036854775807) :
    Calls Tryz.prog 45 #[sf.val, .slice a m c] w (fun e w' => e = .returned (.int .i64 0) ∧ Below w.heap.size w w') := by
  refine enterF (args := [sf.val, .slice a m c]) Tryz.func45 rfl Tryz.ntmps45 rfl ?_
  have hS := St.start w
  refine seqF ?_
  refine regF ?_
  refine op_box (cs := [_, _, _]) hS rfl rfl rfl ?_
  clear hS; intro B1 W1 hS
  refine op_assign rfl rfl ?_
  refine endF ?_
  refine XF.thenN ?_
  refine seqF ?_
  refine seqF ?_
  refine regF ?_
  refine op_loadA (vs := [_, _, _]) Tryz.isAgg25 Tryz.sizeOf25 rfl (CellsAt.own (j := 0) (m := 3) (hS.at_ 0 rfl) rfl) rfl ?_
  refine op_call (vs := [_]) hS goes_18 rfl (spaceA_ok (hs.below hS.below) hok) rfl ?_
  rintro e W2 ⟨rfl, hb⟩
  refine ⟨_, rfl, hb, fun hS' => ?_⟩
  clear hS; have hS := hS'; clear hS' hb
  refine op_assign rfl rfl ?_
  refine endF ?_
  refine XF.thenN ?_
  refine seqF ?_
  refine regF ?_
  refine op_move rfl rfl ?_
  refine op_neq rfl rfl rfl ?_
  refine endF ?_
  refine XF.thenN ?_
  refine condF rfl (fun hc => absurd (of_decide_eq_true hc) (by omega)) (fun hc => ?_)
  have hc := of_decide_eq_false hc
  refine skipF ?_
  refine XF.thenN ?_
  refine seqF ?_
  refine seqF ?_
  refine regF ?_
  refine op_move rfl rfl ?_
  refine op_len Tryz.underlying31 rfl rfl ?_
  refine op_move rfl rfl ?_
  refine endF ?_
  refine XF.thenN ?_
  refine blockF ?_
  refine loopF (fun q l W => ∃ k : Nat, k ≤ m ∧ q = m - k ∧ l = [(2, .pointer (some ⟨B1, 0, none⟩)), (13, .slice a m c), (14, .int .i64 (m : Int)), (15, .int .i64 (k : Int))] ∧ St w [(B1, [.int .i64 sf.tag, .int .i64 sf.dim, .slice sf.a sf.len sf.cap], 25)] [] [] W) (m - 0) ([(2, _), (13, _), (14, _), (15, _)]) ⟨rfl, rfl, rfl, rfl, trivial⟩ (⟨0, Nat.zero_le _, rfl, rfl, hS.clear⟩) ?_
  clear hS
  rintro q l W ⟨k, hkm, rfl, rfl, hS⟩
  refine seqF ?_
  refine regF ?_
  refine op_lss rfl rfl rfl ?_
  refine endF ?_
  refine XF.thenN ?_
  refine seqF ?_
  refine condF rfl (fun hc => ?_) (fun hc => ?_)
  · have hc16 := of_decide_eq_true hc; clear hc
    have hk : k < m := by omega
    obtain ⟨f, x, hf, hxk, hxx⟩ := hx.at_ (k := k) (by omega)
    obtain ⟨b, off, rfl, h6⟩ := hr.at_ hf
    have k1 := CellsAt.agree hS.agree (Nat.zero_le _) h6.cells
    refine skipF ?_
    refine XF.thenN ?_
    refine seqF ?_
    refine blockF ?_
    refine seqF ?_
    refine regF ?_
    refine op_indexA  Tryz.underlying31 Tryz.sizeOf33 rfl rfl rfl (by omega) rfl rfl ?_
    refine op_loadA (vs := [_, _, _, _, _, _]) Tryz.isAgg33 Tryz.sizeOf33 rfl (by assumption) rfl ?_
    refine op_alloc (cs := [_, _, _, _, _, _]) hS Tryz.zeroValue33 rfl rfl ?_
    clear hS; intro B3 W3 hS
    refine op_storeA (i := 0) (vs := [_, _, _, _, _, _]) (cs' := [_, _, _, _, _, _]) (O' := [_, _]) hS Tryz.sizeOf33 rfl rfl rfl rfl rfl rfl rfl ?_
    clear hS; intro W4 hS
    refine endF ?_
    refine XF.thenN ?_
    refine seqF ?_
    refine regF ?_
    refine op_loadA (vs := [_, _, _]) Tryz.isAgg25 Tryz.sizeOf25 rfl (CellsAt.own (j := 0) (m := 3) (hS.at_ 1 rfl) rfl) rfl ?_
    refine op_loadA (vs := [_, _, _, _, _, _]) Tryz.isAgg33 Tryz.sizeOf33 rfl (CellsAt.own (j := 0) (m := 6) (hS.at_ 0 rfl) rfl) rfl ?_
    refine op_call (vs := [_, _]) hS goes_63 rfl (isA_ok (hs.below hS.below) hok (hxx.below hS.below)) rfl ?_
    rintro e W5 ⟨rfl, hb⟩
    refine ⟨_, rfl, hb, fun hS' => ?_⟩
    clear hS; have hS := hS'; clear hS' hb
    refine op_not rfl rfl ?_
    refine endF ?_
    refine XF.thenN ?_
    refine condN rfl ?_
    refine skipF ?_
    refine XF.blkN ?_
    refine XF.thenN ?_
    refine regF ?_
    refine op_add rfl rfl (IntWalk.i64_in _ (by omega)) rfl ?_
    refine op_move rfl rfl ?_
    refine endF ?_
    exact XF.round (m - (k + 1)) [(2, _), (13, _), (14, _), (15, _)] (by omega) ⟨rfl, rfl, rfl, rfl, trivial⟩ ⟨k + 1, by omega, rfl, rfl, hS.tail.clear⟩
  · have hc16 := of_decide_eq_false hc; clear hc
    refine exitF ?_
    refine XF.thenX ?_
    refine XF.thenX ?_
    refine XF.blkX ?_
    refine XF.thenN ?_
    refine seqF ?_
    refine regF ?_
    refine op_assign rfl rfl ?_
    refine endF ?_
    refine XF.thenN ?_
    refine retF ?_
    refine XF.res (res1 Tryz.results45 rfl) ?_
    exact ⟨rfl, hS.below⟩

set_option maxRecDepth 100000 in
set_option maxHeartbeats 4000000 in
theorem CombineW_ok (S : PS) (sf : SF) (w : World) (hs : SIs w S sf) (hok : S.ok) (a : Option Addr) (c m : Nat) (fs : List WF) (xs : List PX) (hr : FRow w a fs) (hx : XL w S fs xs) (hm : fs.length = m) (hmx : m ≤ 9223372036854775807) (ht : Tabs w) :
    Calls Tryz.prog 27 #[sf.val, .slice a m c] w (WRet2 S (xs.foldl (combX S) (zeroX S)) 0 w) := by
  refine enterF (args := [sf.val, .slice a m c]) Tryz.func27 rfl Tryz.ntmps27 rfl ?_
  have hS := St.start w
  refine seqF ?_
  refine regF ?_
  refine op_box (cs := [_, _, _]) hS rfl rfl rfl ?_
  clear hS; intro B1 W1 hS
  refine op_alloc (cs := [_, _, _, _, _, _]) hS Tryz.zeroValue33 rfl rfl ?_
  clear hS; intro B2 W2 hS
  refine op_assign rfl rfl ?_
  refine endF ?_
  refine XF.thenN ?_
  refine seqF ?_
  refine seqF ?_
  refine regF ?_
  refine op_loadA (vs := [_, _, _]) Tryz.isAgg25 Tryz.sizeOf25 rfl (CellsAt.own (j := 0) (m := 3) (hS.at_ 1 rfl) rfl) rfl ?_
  refine op_move rfl rfl ?_
  refine op_call (vs := [_, _]) hS goes_45 rfl (checkAllW_ok S sf _ (hs.below hS.below) hok a c m fs xs (hr.below hS.below) (hx.below hS.below) hm hmx) rfl ?_
  rintro e W3 ⟨rfl, hb⟩
  refine ⟨_, rfl, hb, fun hS' => ?_⟩
  clear hS; have hS := hS'; clear hS' hb
  refine op_assign rfl rfl ?_
  refine endF ?_
  refine XF.thenN ?_
  refine seqF ?_
  refine regF ?_
  refine op_move rfl rfl ?_
  refine op_neq rfl rfl rfl ?_
  refine endF ?_
  refine XF.thenN ?_
  refine condF rfl (fun hc => absurd (of_decide_eq_true hc) (by omega)) (fun hc => ?_)
  have hc := of_decide_eq_false hc
  refine skipF ?_
  refine XF.thenN ?_
  refine seqF ?_
  refine regF ?_
  refine op_loadA (vs := [_, _, _]) Tryz.isAgg25 Tryz.sizeOf25 rfl (CellsAt.own (j := 0) (m := 3) (hS.at_ 1 rfl) rfl) rfl ?_
  have hsz := hS.below.size
  refine op_call (vs := [_]) hS goes_41 rfl (zeroA_ok (hs.below hS.below) hok) rfl ?_
  rintro e W4 ⟨f0, rfl, hn, hb⟩
  refine ⟨_, rfl, hb, fun hS' => ?_⟩
  clear hS; have hS := hS'; clear hS'
  refine op_alloc (cs := [_, _, _, _, _, _]) hS Tryz.zeroValue33 rfl rfl ?_
  clear hS; intro B5 W5 hS
  refine op_storeA (i := 0) (vs := [_, _, _, _, _, _]) (cs' := [_, _, _, _, _, _]) (O' := [_, _, _]) hS Tryz.sizeOf33 rfl rfl rfl rfl rfl rfl rfl ?_
  clear hS; intro W6 hS
  refine endF ?_
  refine XF.thenN ?_
  refine seqF ?_
  refine seqF ?_
  refine regF ?_
  refine op_move rfl rfl ?_
  refine op_len Tryz.underlying31 rfl rfl ?_
  refine op_move rfl rfl ?_
  refine endF ?_
  refine XF.thenN ?_
  refine blockF ?_
  refine loopF (fun q l W => ∃ (k : Nat) (f0 : WF) (lo : Nat) (A : World), k ≤ m ∧ q = m - k ∧ l = [(2, .pointer (some ⟨B1, 0, none⟩)), (4, .pointer (some ⟨B2, 0, none⟩)), (7, .pointer (some ⟨B5, 0, none⟩)), (19, .slice a m c), (20, .int .i64 (m : Int)), (21, .int .i64 (k : Int))] ∧ w.heap.size ≤ lo ∧ XNew lo A S f0 ((xs.take k).foldl (combX S) (zeroX S)) ∧ St w [(B5, f0.six, 33), (B2, [.bool false, .int .i64 0, .int .u64 0, .slice none 0 0, .slice none 0 0, .slice none 0 0], 33), (B1, [.int .i64 sf.tag, .int .i64 sf.dim, .slice sf.a sf.len sf.cap], 25)] [] [(lo, A)] W) (m - 0) ([(2, _), (4, _), (7, _), (19, _), (20, _), (21, _)]) ⟨rfl, rfl, rfl, rfl, rfl, rfl, trivial⟩ (⟨0, f0, _, _, Nat.zero_le _, rfl, rfl, hsz, hn, hS.keep [_] (fun q hq => by simp at hq; subst hq; exact List.mem_cons_self)⟩) ?_
  clear hS
  rintro q l W ⟨k, f0, lo, A, hkm, rfl, rfl, hlo, hn0, hS⟩
  refine seqF ?_
  refine regF ?_
  refine op_lss rfl rfl rfl ?_
  refine endF ?_
  refine XF.thenN ?_
  refine seqF ?_
  refine condF rfl (fun hc => ?_) (fun hc => ?_)
  · have hc22 := of_decide_eq_true hc; clear hc
    have hk : k < m := by omega
    obtain ⟨f, x, hf, hxk, hxx⟩ := hx.at_ (k := k) (by omega)
    obtain ⟨b, off, rfl, h6⟩ := hr.at_ hf
    have k1 := CellsAt.agree hS.agree (Nat.zero_le _) h6.cells
    refine skipF ?_
    refine XF.thenN ?_
    refine seqF ?_
    refine blockF ?_
    refine seqF ?_
    refine regF ?_
    refine op_indexA  Tryz.underlying31 Tryz.sizeOf33 rfl rfl rfl (by omega) rfl rfl ?_
    refine op_loadA (vs := [_, _, _, _, _, _]) Tryz.isAgg33 Tryz.sizeOf33 rfl (by assumption) rfl ?_
    refine op_alloc (cs := [_, _, _, _, _, _]) hS Tryz.zeroValue33 rfl rfl ?_
    clear hS; intro B7 W7 hS
    refine op_storeA (i := 0) (vs := [_, _, _, _, _, _]) (cs' := [_, _, _, _, _, _]) (O' := [_, _, _, _]) hS Tryz.sizeOf33 rfl rfl rfl rfl rfl rfl rfl ?_
    clear hS; intro W8 hS
    refine endF ?_
    refine XF.thenN ?_
    refine regF ?_
    refine op_loadA (vs := [_, _, _]) Tryz.isAgg25 Tryz.sizeOf25 rfl (CellsAt.own (j := 0) (m := 3) (hS.at_ 3 rfl) rfl) rfl ?_
    refine op_loadA (vs := [_, _, _, _, _, _]) Tryz.isAgg33 Tryz.sizeOf33 rfl (CellsAt.own (j := 0) (m := 6) (hS.at_ 1 rfl) rfl) rfl ?_
    refine op_loadA (vs := [_, _, _, _, _, _]) Tryz.isAgg33 Tryz.sizeOf33 rfl (CellsAt.own (j := 0) (m := 6) (hS.at_ 0 rfl) rfl) rfl ?_
    have hsz2 := hS.below.size
    have hb0 := hS.below
    refine op_call (vs := [_, _, _]) hS goes_52 rfl (wComb_is (hs.below hS.below) hok ((hn0.agree (hS.since 0 rfl)).is) (hxx.below hS.below) (ht.below hS.below)) rfl ?_
    rintro e W9 ⟨f2, rfl, hn2, hb⟩
    refine ⟨_, rfl, hb, fun hS' => ?_⟩
    clear hS; have hS := hS'; clear hS'
    refine op_storeA (i := 1) (vs := [_, _, _, _, _, _]) (cs' := [_, _, _, _, _, _]) (O' := [_, _, _, _]) hS Tryz.sizeOf33 rfl rfl rfl rfl rfl rfl rfl ?_
    clear hS; intro W10 hS
    refine endF ?_
    refine XF.blkN ?_
    refine XF.thenN ?_
    refine regF ?_
    refine op_add rfl rfl (IntWalk.i64_in _ (by omega)) rfl ?_
    refine op_move rfl rfl ?_
    refine endF ?_
    exact XF.round (m - (k + 1)) [(2, _), (4, _), (7, _), (19, _), (20, _), (21, _)] (by omega) ⟨rfl, rfl, rfl, rfl, rfl, rfl, trivial⟩ ⟨k + 1, f2, _, _, by omega, rfl, rfl, hsz2, by rw [take_fold hxk]; exact hn2, hS.tail.keep [_] (fun q hq => by simp at hq; subst hq; exact List.mem_cons_self)⟩
  · have hc22 := of_decide_eq_false hc; clear hc
    refine exitF ?_
    refine XF.thenX ?_
    refine XF.thenX ?_
    refine XF.blkX ?_
    refine XF.thenN ?_
    refine seqF ?_
    refine regF ?_
    refine op_loadA (vs := [_, _, _, _, _, _]) Tryz.isAgg33 Tryz.sizeOf33 rfl (CellsAt.own (j := 0) (m := 6) (hS.at_ 0 rfl) rfl) rfl ?_
    refine op_storeA (i := 1) (vs := [_, _, _, _, _, _]) (cs' := [_, _, _, _, _, _]) (O' := [_, _, _]) hS Tryz.sizeOf33 rfl rfl rfl rfl rfl rfl rfl ?_
    clear hS; intro W11 hS
    refine op_assign rfl rfl ?_
    refine endF ?_
    refine XF.thenN ?_
    refine retF ?_
    refine XF.res (resCT (vs := [_, _, _, _, _, _]) Tryz.results27 Tryz.isAgg33 Tryz.sizeOf33 rfl (CellsAt.own (j := 0) (m := 6) (hS.at_ 1 rfl) rfl) rfl) ?_
    have e1 : xs.take k = xs := List.take_of_length_le (by have := hx.1; omega)
    rw [e1] at hn0
    exact ⟨f0, rfl, (hn0.agree (hS.since 0 rfl)).mono hlo, hS.below⟩
end Go.Proofs.YtjcminoaiieckaaGreatDoor
namespace Go.Proofs.YtjcminoaiieckaaGreatDoor
open Go Go.RowKit
set_option linter.unusedVariables false
theorem XL.tail {w : World} {S : PS} {f : WF} {fs : List WF} {x : PX} {xs : List PX} (h : XL w S (f :: fs) (x :: xs)) : XL w S fs xs :=
  ⟨by have := h.1; simpa using this, fun i g y hg hy => h.2 (i + 1) g y (by simpa using hg) (by simpa using hy)⟩
theorem FRow.tail {w : World} {a a' : Option Addr} {f : WF} {fs : List WF} {m c : Nat} (h : FRow w a (f :: fs)) (hm : fs.length + 1 = m) (hmc : m ≤ c) (h1 : c = 1 → a' = a) (h2 : c ≠ 1 → a' = a.map (·.add (1 * 6))) : FRow w a' fs := by
  by_cases hc : c = 1
  · exact .inl (List.eq_nil_of_length_eq_zero (by omega))
  · rcases h with h | ⟨b, off, rfl, hh⟩
    · cases h
    · refine .inr ⟨b, off + 6, by rw [h2 hc, Option.map_some, Addr.add_lit], fun i g hg => ?_⟩
      have := hh (i + 1) g (by simpa using hg)
      rwa [show off + (i + 1) * 6 = off + 6 + i * 6 by omega] at this

set_option maxRecDepth 100000 in
set_option maxHeartbeats 4000000 in
theorem ExtendW_ok (S : PS) (sf : SF) (w : World) (hs : SIs w S sf) (hok : S.ok) (a : Option Addr) (c m : Nat) (f0 : WF) (x0 : PX) (ft : List WF) (xt : List PX) (hr : FRow w a (f0 :: ft)) (hx : XL w S (f0 :: ft) (x0 :: xt)) (hm : ft.length + 1 = m) (hmc : m ≤ c) (hmx : m ≤ 9223372036854775807) (ht : Tabs w) :
    Calls Tryz.prog 29 #[sf.val, .slice a m c] w (WRet2 S (xt.foldl (extX S) x0) 0 w) := by
  refine enterF (args := [sf.val, .slice a m c]) Tryz.func29 rfl Tryz.ntmps29 rfl ?_
  have hS := St.start w
  refine seqF ?_
  refine regF ?_
  refine op_box (cs := [_, _, _]) hS rfl rfl rfl ?_
  clear hS; intro B1 W1 hS
  refine op_alloc (cs := [_, _, _, _, _, _]) hS Tryz.zeroValue33 rfl rfl ?_
  clear hS; intro B2 W2 hS
  refine op_assign rfl rfl ?_
  refine endF ?_
  refine XF.thenN ?_
  refine seqF ?_
  refine seqF ?_
  refine regF ?_
  refine op_loadA (vs := [_, _, _]) Tryz.isAgg25 Tryz.sizeOf25 rfl (CellsAt.own (j := 0) (m := 3) (hS.at_ 1 rfl) rfl) rfl ?_
  refine op_move rfl rfl ?_
  refine op_call (vs := [_, _]) hS goes_45 rfl (checkAllW_ok S sf _ (hs.below hS.below) hok a c m _ _ (hr.below hS.below) (hx.below hS.below) (by simpa using hm) hmx) rfl ?_
  rintro e W3 ⟨rfl, hb⟩
  refine ⟨_, rfl, hb, fun hS' => ?_⟩
  clear hS; have hS := hS'; clear hS' hb
  refine op_assign rfl rfl ?_
  refine endF ?_
  refine XF.thenN ?_
  refine seqF ?_
  refine regF ?_
  refine op_move rfl rfl ?_
  refine op_neq rfl rfl rfl ?_
  refine endF ?_
  refine XF.thenN ?_
  refine condF rfl (fun hc => absurd (of_decide_eq_true hc) (by omega)) (fun hc => ?_)
  have hc := of_decide_eq_false hc
  refine skipF ?_
  refine XF.thenN ?_
  refine seqF ?_
  refine seqF ?_
  refine regF ?_
  refine op_move rfl rfl ?_
  refine op_len Tryz.underlying31 rfl rfl ?_
  refine op_eql rfl rfl rfl ?_
  refine endF ?_
  refine XF.thenN ?_
  refine condF rfl (fun hc => absurd (of_decide_eq_true hc) (by omega)) (fun hc => ?_)
  have hc := of_decide_eq_false hc
  refine skipF ?_
  refine XF.thenN ?_
  refine seqF ?_
  obtain ⟨b, off, rfl, h6⟩ := hr.at_ (i := 0) rfl
  have k0 : CellsAt W3 b off f0.six := CellsAt.agree hS.agree (Nat.zero_le _) (show W6 w b off f0 by simpa using h6).cells
  have hsz := hS.below.size
  refine regF ?_
  refine op_move rfl rfl ?_
  refine op_indexA (j := 0) Tryz.underlying31 Tryz.sizeOf33 rfl rfl rfl (by omega) (Nat.add_zero _) rfl ?_
  refine op_loadA (vs := [_, _, _, _, _, _]) Tryz.isAgg33 Tryz.sizeOf33 rfl (by assumption) rfl ?_
  refine op_call (vs := [_]) hS goes_55 rfl (copied_ok ((hx.2 0 f0 x0 rfl rfl).below hS.below)) rfl ?_
  rintro e W4 ⟨f1, rfl, hn, hb⟩
  refine ⟨_, rfl, hb, fun hS' => ?_⟩
  clear hS; have hS := hS'; clear hS'
  refine op_alloc (cs := [_, _, _, _, _, _]) hS Tryz.zeroValue33 rfl rfl ?_
  clear hS; intro B5 W5 hS
  refine op_storeA (i := 0) (vs := [_, _, _, _, _, _]) (cs' := [_, _, _, _, _, _]) (O' := [_, _, _]) hS Tryz.sizeOf33 rfl rfl rfl rfl rfl rfl rfl ?_
  clear hS; intro W6 hS
  refine endF ?_
  refine XF.thenN ?_
  refine seqF ?_
  refine seqF ?_
  refine regF ?_
  refine op_move rfl rfl ?_
  refine op_sliceFrom (j := 1) Tryz.underlying31 Tryz.sizeOf33 rfl rfl rfl (by omega) rfl ?_
  intro ad7 hadE7 hadN7
  have hrt := FRow.tail hr hm hmc hadE7 hadN7
  have hxt := XL.tail hx
  clear hadE7 hadN7
  refine op_len Tryz.underlying31 rfl rfl ?_
  refine op_move rfl rfl ?_
  refine endF ?_
  refine XF.thenN ?_
  refine blockF ?_
  refine loopF (fun q l W => ∃ (k : Nat) (g : WF) (lo : Nat) (A : World), k ≤ m - 1 ∧ q = m - 1 - k ∧ l = [(2, .pointer (some ⟨B1, 0, none⟩)), (4, .pointer (some ⟨B2, 0, none⟩)), (7, .pointer (some ⟨B5, 0, none⟩)), (27, .slice ad7 (m - 1) (c - 1)), (28, .int .i64 ((m - 1 : Nat) : Int)), (29, .int .i64 (k : Int))] ∧ w.heap.size ≤ lo ∧ XNew lo A S g ((xt.take k).foldl (extX S) x0) ∧ St w [(B5, g.six, 33), (B2, [.bool false, .int .i64 0, .int .u64 0, .slice none 0 0, .slice none 0 0, .slice none 0 0], 33), (B1, [.int .i64 sf.tag, .int .i64 sf.dim, .slice sf.a sf.len sf.cap], 25)] [] [(lo, A)] W) (m - 1 - 0) ([(2, _), (4, _), (7, _), (27, _), (28, _), (29, _)]) ⟨rfl, rfl, rfl, rfl, rfl, rfl, trivial⟩ (⟨0, f1, _, _, Nat.zero_le _, rfl, rfl, hsz, hn, hS.keep [_] (fun q hq => by simp at hq; subst hq; exact List.mem_cons_self)⟩) ?_
  clear hS
  rintro q l W ⟨k, g, lo, A, hkm, rfl, rfl, hlo, hn0, hS⟩
  refine seqF ?_
  refine regF ?_
  refine op_lss rfl rfl rfl ?_
  refine endF ?_
  refine XF.thenN ?_
  refine seqF ?_
  refine condF rfl (fun hc => ?_) (fun hc => ?_)
  · have hc30 := of_decide_eq_true hc; clear hc
    have hk : k < m - 1 := by omega
    obtain ⟨f, x, hf, hxk, hxx⟩ := hxt.at_ (k := k) (by omega)
    obtain ⟨b2, off2, rfl, h62⟩ := hrt.at_ hf
    have k1 := CellsAt.agree hS.agree (Nat.zero_le _) h62.cells
    refine skipF ?_
    refine XF.thenN ?_
    refine seqF ?_
    refine blockF ?_
    refine seqF ?_
    refine regF ?_
    refine op_indexA  Tryz.underlying31 Tryz.sizeOf33 rfl rfl rfl (by omega) rfl rfl ?_
    refine op_loadA (vs := [_, _, _, _, _, _]) Tryz.isAgg33 Tryz.sizeOf33 rfl (by assumption) rfl ?_
    refine op_alloc (cs := [_, _, _, _, _, _]) hS Tryz.zeroValue33 rfl rfl ?_
    clear hS; intro B8 W8 hS
    refine op_storeA (i := 0) (vs := [_, _, _, _, _, _]) (cs' := [_, _, _, _, _, _]) (O' := [_, _, _, _]) hS Tryz.sizeOf33 rfl rfl rfl rfl rfl rfl rfl ?_
    clear hS; intro W9 hS
    refine endF ?_
    refine XF.thenN ?_
    refine regF ?_
    refine op_loadA (vs := [_, _, _]) Tryz.isAgg25 Tryz.sizeOf25 rfl (CellsAt.own (j := 0) (m := 3) (hS.at_ 3 rfl) rfl) rfl ?_
    refine op_loadA (vs := [_, _, _, _, _, _]) Tryz.isAgg33 Tryz.sizeOf33 rfl (CellsAt.own (j := 0) (m := 6) (hS.at_ 1 rfl) rfl) rfl ?_
    refine op_loadA (vs := [_, _, _, _, _, _]) Tryz.isAgg33 Tryz.sizeOf33 rfl (CellsAt.own (j := 0) (m := 6) (hS.at_ 0 rfl) rfl) rfl ?_
    have hsz2 := hS.below.size
    refine op_call (vs := [_, _, _]) hS goes_56 rfl (wExt_is (hs.below hS.below) hok ((hn0.agree (hS.since 0 rfl)).is) (hxx.below hS.below) (ht.below hS.below)) rfl ?_
    rintro e W10 ⟨f2, rfl, hn2, hb⟩
    refine ⟨_, rfl, hb, fun hS' => ?_⟩
    clear hS; have hS := hS'; clear hS'
    refine op_storeA (i := 1) (vs := [_, _, _, _, _, _]) (cs' := [_, _, _, _, _, _]) (O' := [_, _, _, _]) hS Tryz.sizeOf33 rfl rfl rfl rfl rfl rfl rfl ?_
    clear hS; intro W11 hS
    refine endF ?_
    refine XF.blkN ?_
    refine XF.thenN ?_
    refine regF ?_
    refine op_add rfl rfl (IntWalk.i64_in _ (by omega)) rfl ?_
    refine op_move rfl rfl ?_
    refine endF ?_
    exact XF.round (m - 1 - (k + 1)) [(2, _), (4, _), (7, _), (27, _), (28, _), (29, _)] (by omega) ⟨rfl, rfl, rfl, rfl, rfl, rfl, trivial⟩ ⟨k + 1, f2, _, _, by omega, rfl, rfl, hsz2, by rw [take_fold hxk]; exact hn2, hS.tail.keep [_] (fun q hq => by simp at hq; subst hq; exact List.mem_cons_self)⟩
  · have hc30 := of_decide_eq_false hc; clear hc
    refine exitF ?_
    refine XF.thenX ?_
    refine XF.thenX ?_
    refine XF.blkX ?_
    refine XF.thenN ?_
    refine seqF ?_
    refine regF ?_
    refine op_loadA (vs := [_, _, _, _, _, _]) Tryz.isAgg33 Tryz.sizeOf33 rfl (CellsAt.own (j := 0) (m := 6) (hS.at_ 0 rfl) rfl) rfl ?_
    refine op_storeA (i := 1) (vs := [_, _, _, _, _, _]) (cs' := [_, _, _, _, _, _]) (O' := [_, _, _]) hS Tryz.sizeOf33 rfl rfl rfl rfl rfl rfl rfl ?_
    clear hS; intro W12 hS
    refine op_assign rfl rfl ?_
    refine endF ?_
    refine XF.thenN ?_
    refine retF ?_
    refine XF.res (resCT (vs := [_, _, _, _, _, _]) Tryz.results29 Tryz.isAgg33 Tryz.sizeOf33 rfl (CellsAt.own (j := 0) (m := 6) (hS.at_ 1 rfl) rfl) rfl) ?_
    have e1 : xt.take k = xt := List.take_of_length_le (by have := hxt.1; omega)
    rw [e1] at hn0
    exact ⟨g, rfl, (hn0.agree (hS.since 0 rfl)).mono hlo, hS.below⟩

set_option maxRecDepth 100000 in
set_option maxHeartbeats 4000000 in
theorem OneW_ok (S : PS) (sf : SF) (w : World) (hs : SIs w S sf) (hok : S.ok) :
    Calls Tryz.prog 12 #[sf.val] w (WRet2 S (oneX S) 0 w) := by
  refine enterF (args := [sf.val]) Tryz.func12 rfl Tryz.ntmps12 rfl ?_
  have hS := St.start w
  refine seqF ?_
  refine regF ?_
  refine op_box (cs := [_, _, _]) hS rfl rfl rfl ?_
  clear hS; intro B1 W1 hS
  refine op_alloc (cs := [_, _, _, _, _, _]) hS Tryz.zeroValue33 rfl rfl ?_
  clear hS; intro B2 W2 hS
  refine op_assign rfl rfl ?_
  refine endF ?_
  refine XF.thenN ?_
  refine seqF ?_
  refine seqF ?_
  refine regF ?_
  refine op_loadA (vs := [_, _, _]) Tryz.isAgg25 Tryz.sizeOf25 rfl (CellsAt.own (j := 0) (m := 3) (hS.at_ 1 rfl) rfl) rfl ?_
  refine op_call (vs := [_]) hS goes_18 rfl (spaceA_ok (hs.below hS.below) hok) rfl ?_
  rintro e W3 ⟨rfl, hb⟩
  refine ⟨_, rfl, hb, fun hS' => ?_⟩
  clear hS; have hS := hS'; clear hS' hb
  refine op_assign rfl rfl ?_
  refine endF ?_
  refine XF.thenN ?_
  refine seqF ?_
  refine regF ?_
  refine op_move rfl rfl ?_
  refine op_neq rfl rfl rfl ?_
  refine endF ?_
  refine XF.thenN ?_
  refine condF rfl (fun hc => absurd (of_decide_eq_true hc) (by omega)) (fun hc => ?_)
  have hc := of_decide_eq_false hc
  refine skipF ?_
  refine XF.thenN ?_
  refine seqF ?_
  refine regF ?_
  refine op_loadA (vs := [_, _, _]) Tryz.isAgg25 Tryz.sizeOf25 rfl (CellsAt.own (j := 0) (m := 3) (hS.at_ 1 rfl) rfl) rfl ?_
  have hsz := hS.below.size
  refine op_call (vs := [_]) hS goes_39 rfl (oneA_ok (hs.below hS.below) hok) rfl ?_
  rintro e W4 ⟨f, rfl, hn, hb⟩
  refine ⟨_, rfl, hb, fun hS' => ?_⟩
  clear hS; have hS := hS'; clear hS'
  refine op_storeA (i := 0) (vs := [_, _, _, _, _, _]) (cs' := [_, _, _, _, _, _]) (O' := [_, _]) hS Tryz.sizeOf33 rfl rfl rfl rfl rfl rfl rfl ?_
  clear hS; intro W5 hS
  refine op_assign rfl rfl ?_
  refine endF ?_
  refine XF.thenN ?_
  refine retF ?_
  refine XF.res (resCT (vs := [_, _, _, _, _, _]) Tryz.results12 Tryz.isAgg33 Tryz.sizeOf33 rfl (CellsAt.own (j := 0) (m := 6) (hS.at_ 0 rfl) rfl) rfl) ?_
  exact ⟨f, rfl, (hn.agree (hS.since 0 rfl)).mono hsz, hS.below⟩

set_option maxRecDepth 100000 in
set_option maxHeartbeats 4000000 in
theorem ZeroW_ok (S : PS) (sf : SF) (w : World) (hs : SIs w S sf) (hok : S.ok) :
    Calls Tryz.prog 14 #[sf.val] w (WRet2 S (zeroX S) 0 w) := by
  refine enterF (args := [sf.val]) Tryz.func14 rfl Tryz.ntmps14 rfl ?_
  have hS := St.start w
  refine seqF ?_
  refine regF ?_
  refine op_box (cs := [_, _, _]) hS rfl rfl rfl ?_
  clear hS; intro B1 W1 hS
  refine op_alloc (cs := [_, _, _, _, _, _]) hS Tryz.zeroValue33 rfl rfl ?_
  clear hS; intro B2 W2 hS
  refine op_assign rfl rfl ?_
  refine endF ?_
  refine XF.thenN ?_
  refine seqF ?_
  refine seqF ?_
  refine regF ?_
  refine op_loadA (vs := [_, _, _]) Tryz.isAgg25 Tryz.sizeOf25 rfl (CellsAt.own (j := 0) (m := 3) (hS.at_ 1 rfl) rfl) rfl ?_
  refine op_call (vs := [_]) hS goes_18 rfl (spaceA_ok (hs.below hS.below) hok) rfl ?_
  rintro e W3 ⟨rfl, hb⟩
  refine ⟨_, rfl, hb, fun hS' => ?_⟩
  clear hS; have hS := hS'; clear hS' hb
  refine op_assign rfl rfl ?_
  refine endF ?_
  refine XF.thenN ?_
  refine seqF ?_
  refine regF ?_
  refine op_move rfl rfl ?_
  refine op_neq rfl rfl rfl ?_
  refine endF ?_
  refine XF.thenN ?_
  refine condF rfl (fun hc => absurd (of_decide_eq_true hc) (by omega)) (fun hc => ?_)
  have hc := of_decide_eq_false hc
  refine skipF ?_
  refine XF.thenN ?_
  refine seqF ?_
  refine regF ?_
  refine op_loadA (vs := [_, _, _]) Tryz.isAgg25 Tryz.sizeOf25 rfl (CellsAt.own (j := 0) (m := 3) (hS.at_ 1 rfl) rfl) rfl ?_
  have hsz := hS.below.size
  refine op_call (vs := [_]) hS goes_41 rfl (zeroA_ok (hs.below hS.below) hok) rfl ?_
  rintro e W4 ⟨f, rfl, hn, hb⟩
  refine ⟨_, rfl, hb, fun hS' => ?_⟩
  clear hS; have hS := hS'; clear hS'
  refine op_storeA (i := 0) (vs := [_, _, _, _, _, _]) (cs' := [_, _, _, _, _, _]) (O' := [_, _]) hS Tryz.sizeOf33 rfl rfl rfl rfl rfl rfl rfl ?_
  clear hS; intro W5 hS
  refine op_assign rfl rfl ?_
  refine endF ?_
  refine XF.thenN ?_
  refine retF ?_
  refine XF.res (resCT (vs := [_, _, _, _, _, _]) Tryz.results14 Tryz.isAgg33 Tryz.sizeOf33 rfl (CellsAt.own (j := 0) (m := 6) (hS.at_ 0 rfl) rfl) rfl) ?_
  exact ⟨f, rfl, (hn.agree (hS.since 0 rfl)).mono hsz, hS.below⟩

set_option maxRecDepth 100000 in
set_option maxHeartbeats 4000000 in
theorem combineL_ok (S : PS) (sf : SF) (w : World) (hs : SIs w S sf) (hok : S.ok) (a : Option Addr) (c m : Nat) (fs : List WF) (xs : List PX) (hr : FRow w a fs) (hx : XL w S fs xs) (hm : fs.length = m) (hmx : m ≤ 9223372036854775807) (ht : Tabs w) :
    Calls Tryz.prog 37 #[sf.val, .slice a m c] w (WRet S (xs.foldl (combX S) (zeroX S)) w) := by
  refine enterF (args := [sf.val, .slice a m c]) Tryz.func37 rfl Tryz.ntmps37 rfl ?_
  have hS := St.start w
  refine seqF ?_
  refine regF ?_
  refine op_box (cs := [_, _, _]) hS rfl rfl rfl ?_
  clear hS; intro B1 W1 hS
  refine op_alloc (cs := [_, _, _, _, _, _]) hS Tryz.zeroValue33 rfl rfl ?_
  clear hS; intro B2 W2 hS
  refine endF ?_
  refine XF.thenN ?_
  refine seqF ?_
  refine regF ?_
  refine op_loadA (vs := [_, _, _]) Tryz.isAgg25 Tryz.sizeOf25 rfl (CellsAt.own (j := 0) (m := 3) (hS.at_ 1 rfl) rfl) rfl ?_
  refine op_move rfl rfl ?_
  have hsz := hS.below.size
  refine op_call (vs := [_, _]) hS goes_27 rfl (CombineW_ok S sf _ (hs.below hS.below) hok a c m fs xs (hr.below hS.below) (hx.below hS.below) hm hmx (ht.below hS.below)) rfl ?_
  rintro e W3 ⟨f, rfl, hn, hb⟩
  refine ⟨_, rfl, hb, fun hS' => ?_⟩
  clear hS; have hS := hS'; clear hS'
  refine op_move rfl rfl ?_
  refine op_extract rfl rfl rfl ?_
  refine op_extract rfl rfl rfl ?_
  refine op_alloc (cs := [_, _, _, _, _, _]) hS Tryz.zeroValue33 rfl rfl ?_
  clear hS; intro B4 W4 hS
  refine op_storeA (i := 0) (vs := [_, _, _, _, _, _]) (cs' := [_, _, _, _, _, _]) (O' := [_, _, _]) hS Tryz.sizeOf33 rfl rfl rfl rfl rfl rfl rfl ?_
  clear hS; intro W5 hS
  refine op_assign rfl rfl ?_
  refine endF ?_
  refine XF.thenN ?_
  refine seqF ?_
  refine regF ?_
  refine op_loadA (vs := [_, _, _, _, _, _]) Tryz.isAgg33 Tryz.sizeOf33 rfl (CellsAt.own (j := 0) (m := 6) (hS.at_ 0 rfl) rfl) rfl ?_
  refine op_storeA (i := 1) (vs := [_, _, _, _, _, _]) (cs' := [_, _, _, _, _, _]) (O' := [_, _, _]) hS Tryz.sizeOf33 rfl rfl rfl rfl rfl rfl rfl ?_
  clear hS; intro W6 hS
  refine endF ?_
  refine XF.thenN ?_
  refine retF ?_
  refine XF.res (resC1 (vs := [_, _, _, _, _, _]) Tryz.results37 Tryz.isAgg33 Tryz.sizeOf33 rfl (CellsAt.own (j := 0) (m := 6) (hS.at_ 1 rfl) rfl)) ?_
  exact ⟨f, rfl, (hn.agree (hS.since 0 rfl)).mono hsz, hS.below⟩

set_option maxRecDepth 100000 in
set_option maxHeartbeats 4000000 in
theorem extendL_ok (S : PS) (sf : SF) (w : World) (hs : SIs w S sf) (hok : S.ok) (a : Option Addr) (c m : Nat) (f0 : WF) (x0 : PX) (ft : List WF) (xt : List PX) (hr : FRow w a (f0 :: ft)) (hx : XL w S (f0 :: ft) (x0 :: xt)) (hm : ft.length + 1 = m) (hmc : m ≤ c) (hmx : m ≤ 9223372036854775807) (ht : Tabs w) :
    Calls Tryz.prog 38 #[sf.val, .slice a m c] w (WRet S (xt.foldl (extX S) x0) w) := by
  refine enterF (args := [sf.val, .slice a m c]) Tryz.func38 rfl Tryz.ntmps38 rfl ?_
  have hS := St.start w
  refine seqF ?_
  refine regF ?_
  refine op_box (cs := [_, _, _]) hS rfl rfl rfl ?_
  clear hS; intro B1 W1 hS
  refine op_alloc (cs := [_, _, _, _, _, _]) hS Tryz.zeroValue33 rfl rfl ?_
  clear hS; intro B2 W2 hS
  refine endF ?_
  refine XF.thenN ?_
  refine seqF ?_
  refine regF ?_
  refine op_loadA (vs := [_, _, _]) Tryz.isAgg25 Tryz.sizeOf25 rfl (CellsAt.own (j := 0) (m := 3) (hS.at_ 1 rfl) rfl) rfl ?_
  refine op_move rfl rfl ?_
  have hsz := hS.below.size
  refine op_call (vs := [_, _]) hS goes_29 rfl (ExtendW_ok S sf _ (hs.below hS.below) hok a c m f0 x0 ft xt (hr.below hS.below) (hx.below hS.below) hm hmc hmx (ht.below hS.below)) rfl ?_
  rintro e W3 ⟨f, rfl, hn, hb⟩
  refine ⟨_, rfl, hb, fun hS' => ?_⟩
  clear hS; have hS := hS'; clear hS'
  refine op_move rfl rfl ?_
  refine op_extract rfl rfl rfl ?_
  refine op_extract rfl rfl rfl ?_
  refine op_alloc (cs := [_, _, _, _, _, _]) hS Tryz.zeroValue33 rfl rfl ?_
  clear hS; intro B4 W4 hS
  refine op_storeA (i := 0) (vs := [_, _, _, _, _, _]) (cs' := [_, _, _, _, _, _]) (O' := [_, _, _]) hS Tryz.sizeOf33 rfl rfl rfl rfl rfl rfl rfl ?_
  clear hS; intro W5 hS
  refine op_assign rfl rfl ?_
  refine endF ?_
  refine XF.thenN ?_
  refine seqF ?_
  refine regF ?_
  refine op_loadA (vs := [_, _, _, _, _, _]) Tryz.isAgg33 Tryz.sizeOf33 rfl (CellsAt.own (j := 0) (m := 6) (hS.at_ 0 rfl) rfl) rfl ?_
  refine op_storeA (i := 1) (vs := [_, _, _, _, _, _]) (cs' := [_, _, _, _, _, _]) (O' := [_, _, _]) hS Tryz.sizeOf33 rfl rfl rfl rfl rfl rfl rfl ?_
  clear hS; intro W6 hS
  refine endF ?_
  refine XF.thenN ?_
  refine retF ?_
  refine XF.res (resC1 (vs := [_, _, _, _, _, _]) Tryz.results38 Tryz.isAgg33 Tryz.sizeOf33 rfl (CellsAt.own (j := 0) (m := 6) (hS.at_ 1 rfl) rfl)) ?_
  exact ⟨f, rfl, (hn.agree (hS.since 0 rfl)).mono hsz, hS.below⟩
end Go.Proofs.YtjcminoaiieckaaGreatDoor
namespace Go.Proofs.YtjcminoaiieckaaGreatDoor
open Go Go.RowKit
set_option linter.unusedVariables false
def smN : Nat → WV → Bool
  | 0, _ => false
  | k + 1, .mk f ps => decide (f.rl ≤ 70) && (decide (f.cl ≤ 70) && (decide (f.pl ≤ 3) && ps.all (smN k)))
def smS : Nat → SV → Bool
  | 0, _ => false
  | k + 1, .mk f ps => decide (f.len ≤ 3) && ps.all (smS k)
theorem all_false_at {α : Type} {l : List α} {q : α → Bool} {i : Nat} {x : α} (h : l[i]? = some x) (hq : q x = false) : l.all q = false := by
  rw [List.all_eq_false]; exact ⟨x, List.mem_of_getElem? h, by rw [hq]; decide⟩
theorem all_take_at {α : Type} {l : List α} {q : α → Bool} {i : Nat} {x : α} (h : l[i]? = some x) (ha : (l.take i).all q = true) (hq : q x = true) : (l.take (i + 1)).all q = true := by
  rw [List.take_add_one, h]; simp [ha, hq]
def okW (s : SV) (x : WV) : Bool := if plainB s.f.tag s.f.dim s.f.len = true then pwOk s.f.tag s.f.dim x.f else match s.ps with | [p, q] => pairOk p q x.f x.ps | _ => false
def chkW (s : SV) (x : WV) : Int := if spaceE s = 0 then (if okW s x = true then 0 else 51) else spaceE s
theorem isR_gen {w : World} {ds da : Nat} {s : SV} {x : WV} (hs : SIn w ds s) (hse : spaceE s = 0) (hx : WIn w da x) (h100 : x.f.rl ≤ 100) (h101 : ∀ p ∈ x.ps, p.f.rl ≤ 100) :
    Calls Tryz.prog 46 #[s.f.val, x.f.val] w fun e w' => e = .returned (.bool (okW s x)) ∧ Below w.heap.size w w' := by
  match ds, da, s, x, hs, hx with
  | ds + 1, da + 1, .mk f ps, .mk g qs, hs, hx =>
    by_cases hp : plainB f.tag f.dim f.len = true
    · refine isR_plain f.tag f.dim f.a f.len f.cap g hp h100 w hx.1 _ ?_
      unfold okW; exact (if_pos hp).symm
    · have hse' : (if plainB f.tag f.dim f.len = true then (0 : Int) else if f.tag = 5 ∧ f.dim = 0 ∧ ps.length = 2 ∧ ps.all SV.pl = true then 0 else 50) = 0 := hse
      rw [if_neg hp] at hse'
      split at hse'
      · rename_i hq
        obtain ⟨h5, h0, h2, hall⟩ := hq
        obtain ⟨t, n, a, l, c⟩ := f
        dsimp only at h5 h0 hp
        subst h5; subst h0
        obtain ⟨p, q, rfl⟩ := two_of h2
        have hl : 2 = l := hs.1
        subst hl
        simp only [List.all_cons, List.all_nil, Bool.and_true, Bool.and_eq_true] at hall
        refine isR_pair ds a c p q g qs w hs hall.1 hall.2 da hx h101 _ ?_
        unfold okW; exact (if_neg hp).symm
      · cases hse'

set_option maxRecDepth 100000 in
set_option maxHeartbeats 4000000 in
theorem small_step (deep k e0 : Nat) (z : Bool) (c : Int) (g : Nat) (ra : Option Addr) (rl rc : Nat) (rows : List Nat) (ca : Option Addr) (cl cc : Nat) (cells : List Cl) (pa : Option Addr) (pl pc : Nat) (ps : List WV) (w : World) (hd : deep ≤ 3) (hps : ps.length = pl) (hrow : PRow w pa ps) (hin : ∀ p ∈ ps, WIn w e0 p) (ih : ∀ (p : WV) (W : World), WIn W e0 p → Calls Tryz.prog 10 #[p.f.val, .int .i64 ((deep + 1 : Nat) : Int)] W fun e w' => e = .returned (.bool (smN k p)) ∧ Below W.heap.size W w') :
    Calls Tryz.prog 10 #[.agg #[.bool z, .int .i64 c, .int .u64 (g : Int), .slice ra rl rc, .slice ca cl cc, .slice pa pl pc], .int .i64 (deep : Int)] w (fun e w' => e = .returned (.bool (smN (k + 1) (.mk ⟨z, c, g, ra, rl, rc, rows, ca, cl, cc, cells, pa, pl, pc⟩ ps))) ∧ Below w.heap.size w w') := by
  refine enterF (args := [.agg #[.bool z, .int .i64 c, .int .u64 (g : Int), .slice ra rl rc, .slice ca cl cc, .slice pa pl pc], .int .i64 (deep : Int)]) Tryz.func10 rfl Tryz.ntmps10 rfl ?_
  have hS := St.start w
  refine seqF ?_
  refine regF ?_
  refine op_box (cs := [_, _, _, _, _, _]) hS rfl rfl rfl ?_
  clear hS; intro B1 W1 hS
  refine op_assign rfl rfl ?_
  refine endF ?_
  refine XF.thenN ?_
  refine seqF ?_
  refine seqF ?_
  refine regF ?_
  refine op_field (o' := 2) fa_33_2 rfl rfl rfl ?_
  refine op_field (o' := 3) fa_29_1 rfl rfl rfl ?_
  refine op_load Tryz.isAgg27 rfl (cell_own (hS.at_ 0 rfl) rfl) rfl ?_
  refine op_len Tryz.underlying27 rfl rfl ?_
  refine op_gtr rfl rfl rfl ?_
  refine op_move rfl rfl ?_
  refine op_cases (d := 11) rfl (fun hc => ?_) (fun hc => ?_)
  · have hg11 := of_decide_eq_true hc; clear hc
    refine op_notF (d := 11) rfl rfl rfl rfl ?_
    refine op_notF (d := 11) rfl rfl rfl rfl ?_
    refine op_notF (d := 11) rfl rfl rfl rfl ?_
    refine op_notF (d := 11) rfl rfl rfl rfl ?_
    refine op_pickT rfl rfl rfl ?_
    refine op_move rfl rfl ?_
    refine op_notF (d := 17) rfl rfl rfl rfl ?_
    refine op_notF (d := 17) rfl rfl rfl rfl ?_
    refine op_notF (d := 17) rfl rfl rfl rfl ?_
    refine op_notF (d := 17) rfl rfl rfl rfl ?_
    refine op_pickT rfl rfl rfl ?_
    refine op_move rfl rfl ?_
    refine op_notF (d := 23) rfl rfl rfl rfl ?_
    refine op_notF (d := 23) rfl rfl rfl rfl ?_
    refine op_pickT rfl rfl rfl ?_
    refine endF ?_
    refine XF.thenN ?_
    refine condT rfl ?_
    refine seqF ?_
    refine regF ?_
    refine op_assign rfl rfl ?_
    refine endF ?_
    refine XF.thenN ?_
    refine retF ?_
    refine XF.thenR ?_
    refine XF.res (res1 Tryz.results10 rfl) ?_
    exact ⟨rbool (by simp only [smN]; rw [decide_eq_false (show ¬ rl ≤ 70 by omega)]; rfl), hS.below⟩
  · have hg11 := of_decide_eq_false hc; clear hc
    refine op_wantedF (d := 11) rfl rfl ?_
    refine op_field (o' := 4) fa_33_3 rfl rfl rfl ?_
    refine op_wantedF (d := 11) rfl rfl ?_
    refine op_load Tryz.isAgg30 rfl (cell_own (hS.at_ 0 rfl) rfl) rfl ?_
    refine op_wantedF (d := 11) rfl rfl ?_
    refine op_len Tryz.underlying30 rfl rfl ?_
    refine op_wantedF (d := 11) rfl rfl ?_
    refine op_gtr rfl rfl rfl ?_
    refine op_pickF rfl rfl rfl ?_
    refine op_move rfl rfl ?_
    refine op_cases (d := 17) rfl (fun hc => ?_) (fun hc => ?_)
    · have hg17 := of_decide_eq_true hc; clear hc
      refine op_notF (d := 17) rfl rfl rfl rfl ?_
      refine op_notF (d := 17) rfl rfl rfl rfl ?_
      refine op_notF (d := 17) rfl rfl rfl rfl ?_
      refine op_notF (d := 17) rfl rfl rfl rfl ?_
      refine op_pickT rfl rfl rfl ?_
      refine op_move rfl rfl ?_
      refine op_notF (d := 23) rfl rfl rfl rfl ?_
      refine op_notF (d := 23) rfl rfl rfl rfl ?_
      refine op_pickT rfl rfl rfl ?_
      refine endF ?_
      refine XF.thenN ?_
      refine condT rfl ?_
      refine seqF ?_
      refine regF ?_
      refine op_assign rfl rfl ?_
      refine endF ?_
      refine XF.thenN ?_
      refine retF ?_
      refine XF.thenR ?_
      refine XF.res (res1 Tryz.results10 rfl) ?_
      exact ⟨rbool (by simp only [smN]; rw [decide_eq_false (show ¬ cl ≤ 70 by omega)]; simp), hS.below⟩
    · have hg17 := of_decide_eq_false hc; clear hc
      refine op_wantedF (d := 17) rfl rfl ?_
      refine op_field (o' := 5) fa_33_4 rfl rfl rfl ?_
      refine op_wantedF (d := 17) rfl rfl ?_
      refine op_load Tryz.isAgg31 rfl (cell_own (hS.at_ 0 rfl) rfl) rfl ?_
      refine op_wantedF (d := 17) rfl rfl ?_
      refine op_len Tryz.underlying31 rfl rfl ?_
      refine op_wantedF (d := 17) rfl rfl ?_
      refine op_gtr rfl rfl rfl ?_
      refine op_pickF rfl rfl rfl ?_
      refine op_move rfl rfl ?_
      refine op_cases (d := 23) rfl (fun hc => ?_) (fun hc => ?_)
      · have hg23 := of_decide_eq_true hc; clear hc
        refine op_notF (d := 23) rfl rfl rfl rfl ?_
        refine op_notF (d := 23) rfl rfl rfl rfl ?_
        refine op_pickT rfl rfl rfl ?_
        refine endF ?_
        refine XF.thenN ?_
        refine condT rfl ?_
        refine seqF ?_
        refine regF ?_
        refine op_assign rfl rfl ?_
        refine endF ?_
        refine XF.thenN ?_
        refine retF ?_
        refine XF.thenR ?_
        refine XF.res (res1 Tryz.results10 rfl) ?_
        exact ⟨rbool (by simp only [smN]; rw [decide_eq_false (show ¬ pl ≤ 3 by omega)]; simp), hS.below⟩
      · have hg23 := of_decide_eq_false hc; clear hc
        refine op_wantedF (d := 23) rfl rfl ?_
        refine op_move rfl rfl ?_
        refine op_wantedF (d := 23) rfl rfl ?_
        refine op_gtr rfl rfl rfl ?_
        refine op_pickF rfl rfl rfl ?_
        refine endF ?_
        refine XF.thenN ?_
        refine condF rfl (fun hc => absurd (of_decide_eq_true hc) (by omega)) (fun hc => ?_)
        have hc := of_decide_eq_false hc
        refine skipF ?_
        refine XF.thenN ?_
        refine seqF ?_
        refine seqF ?_
        refine regF ?_
        refine op_assign rfl rfl ?_
        refine endF ?_
        refine XF.thenN ?_
        refine blockF ?_
        refine loopF (fun q l W => ∃ i : Nat, i ≤ pl ∧ q = pl - i ∧ l = [(1, .int .i64 (deep : Int)), (2, .pointer (some ⟨B1, 0, none⟩)), (5, .int .i64 (i : Int))] ∧ (ps.take i).all (smN k) = true ∧ St w [(B1, [.bool z, .int .i64 c, .int .u64 (g : Int), .slice ra rl rc, .slice ca cl cc, .slice pa pl pc], 33)] [] [] W) (pl - 0) ([(1, _), (2, _), (5, _)]) ⟨rfl, rfl, rfl, trivial⟩ (⟨0, Nat.zero_le _, rfl, rfl, rfl, hS.clear⟩) ?_
        clear hS
        rintro q l W ⟨i, hi, rfl, rfl, hall, hS⟩
        refine seqF ?_
        refine seqF ?_
        refine regF ?_
        refine op_move rfl rfl ?_
        refine op_field (o' := 5) fa_33_4 rfl rfl rfl ?_
        refine op_load Tryz.isAgg31 rfl (cell_own (hS.at_ 0 rfl) rfl) rfl ?_
        refine op_len Tryz.underlying31 rfl rfl ?_
        refine op_lss rfl rfl rfl ?_
        refine endF ?_
        refine XF.thenN ?_
        refine condF rfl (fun hc => ?_) (fun hc => ?_)
        · have hc31 := of_decide_eq_true hc; clear hc
          have hk : i < pl := by omega
          obtain ⟨p, hp⟩ : ∃ p, ps[i]? = some p := ⟨ps[i]'(by omega), by simp [show i < ps.length by omega]⟩
          obtain ⟨b, off, hpa, hb, h6⟩ := hrow.at_ hp
          subst hpa
          have k1 := CellsAt.agree hS.agree (Nat.zero_le _) h6.cells
          refine skipF ?_
          refine XF.thenN ?_
          refine seqF ?_
          refine blockF ?_
          refine seqF ?_
          refine regF ?_
          refine op_field (o' := 5) fa_33_4 rfl rfl rfl ?_
          refine op_load Tryz.isAgg31 rfl (cell_own (hS.at_ 0 rfl) rfl) rfl ?_
          refine op_move rfl rfl ?_
          refine op_indexA  Tryz.underlying31 Tryz.sizeOf33 rfl rfl rfl (by omega) rfl rfl ?_
          refine op_loadA (vs := [_, _, _, _, _, _]) Tryz.isAgg33 Tryz.sizeOf33 rfl (by assumption) rfl ?_
          refine op_move rfl rfl ?_
          refine op_add rfl rfl (IntWalk.i64_in _ (by omega)) rfl ?_
          refine op_call (vs := [_, _]) hS goes_10 rfl (ih p _ (WIn.below hS.below (hin p (List.mem_of_getElem? hp)))) rfl ?_
          rintro e W2 ⟨rfl, hb⟩
          refine ⟨_, rfl, hb, fun hS' => ?_⟩
          clear hS; have hS := hS'; clear hS' hb
          refine op_not rfl rfl ?_
          refine endF ?_
          refine XF.thenN ?_
          refine condF rfl (fun hc => ?_) (fun hc => ?_)
          · have hc42 := hc; clear hc
            refine seqF ?_
            refine regF ?_
            refine op_assign rfl rfl ?_
            refine endF ?_
            refine XF.thenN ?_
            refine retF ?_
            refine XF.blkR ?_
            refine XF.thenR ?_
            refine XF.thenR ?_
            refine XF.blkR ?_
            refine XF.thenR ?_
            refine XF.res (res1 Tryz.results10 rfl) ?_
            exact ⟨rbool (by simp only [smN]; rw [all_false_at hp (by simpa using hc42)]; simp), hS.below⟩
          · have hc42 := hc; clear hc
            refine skipF ?_
            refine XF.blkN ?_
            refine XF.thenN ?_
            refine regF ?_
            refine op_move rfl rfl ?_
            refine op_add rfl rfl (IntWalk.i64_in _ (by omega)) rfl ?_
            refine op_assign rfl rfl ?_
            refine endF ?_
            exact XF.round (pl - (i + 1)) [(1, _), (2, _), (5, _)] (by omega) ⟨rfl, rfl, rfl, trivial⟩ ⟨i + 1, by omega, rfl, rfl, all_take_at hp hall (by simpa using hc42), hS.clear⟩
        · have hc31 := of_decide_eq_false hc; clear hc
          refine exitF ?_
          refine XF.thenX ?_
          refine XF.thenX ?_
          refine XF.blkX ?_
          refine XF.thenN ?_
          refine seqF ?_
          refine regF ?_
          refine op_assign rfl rfl ?_
          refine endF ?_
          refine XF.thenN ?_
          refine retF ?_
          refine XF.res (res1 Tryz.results10 rfl) ?_
          rw [List.take_of_length_le (by omega)] at hall
          exact ⟨rbool (by simp only [smN]; rw [hall, decide_eq_true (show rl ≤ 70 by omega), decide_eq_true (show cl ≤ 70 by omega), decide_eq_true (show pl ≤ 3 by omega)]; rfl), hS.below⟩

set_option maxRecDepth 100000 in
set_option maxHeartbeats 4000000 in
theorem smallSpace_step (deep k e0 : Nat) (t n : Int) (pa : Option Addr) (pl pc : Nat) (ps : List SV) (w : World) (hd : deep ≤ 3) (hps : ps.length = pl) (hrow : SRow w pa ps) (hin : ∀ p ∈ ps, SIn w e0 p) (ih : ∀ (p : SV) (W : World), SIn W e0 p → Calls Tryz.prog 9 #[p.f.val, .int .i64 ((deep + 1 : Nat) : Int)] W fun e w' => e = .returned (.bool (smS k p)) ∧ Below W.heap.size W w') :
    Calls Tryz.prog 9 #[.agg #[.int .i64 t, .int .i64 n, .slice pa pl pc], .int .i64 (deep : Int)] w (fun e w' => e = .returned (.bool (smS (k + 1) (.mk ⟨t, n, pa, pl, pc⟩ ps))) ∧ Below w.heap.size w w') := by
  refine enterF (args := [.agg #[.int .i64 t, .int .i64 n, .slice pa pl pc], .int .i64 (deep : Int)]) Tryz.func9 rfl Tryz.ntmps9 rfl ?_
  have hS := St.start w
  refine seqF ?_
  refine regF ?_
  refine op_box (cs := [_, _, _]) hS rfl rfl rfl ?_
  clear hS; intro B1 W1 hS
  refine op_assign rfl rfl ?_
  refine endF ?_
  refine XF.thenN ?_
  refine seqF ?_
  refine seqF ?_
  refine regF ?_
  refine op_field (o' := 2) fa_25_2 rfl rfl rfl ?_
  refine op_load Tryz.isAgg23 rfl (cell_own (hS.at_ 0 rfl) rfl) rfl ?_
  refine op_len Tryz.underlying23 rfl rfl ?_
  refine op_gtr rfl rfl rfl ?_
  refine op_move rfl rfl ?_
  refine op_cases (d := 10) rfl (fun hc => ?_) (fun hc => ?_)
  · have hg10 := of_decide_eq_true hc; clear hc
    refine op_notF (d := 10) rfl rfl rfl rfl ?_
    refine op_notF (d := 10) rfl rfl rfl rfl ?_
    refine op_pickT rfl rfl rfl ?_
    refine endF ?_
    refine XF.thenN ?_
    refine condT rfl ?_
    refine seqF ?_
    refine regF ?_
    refine op_assign rfl rfl ?_
    refine endF ?_
    refine XF.thenN ?_
    refine retF ?_
    refine XF.thenR ?_
    refine XF.res (res1 Tryz.results9 rfl) ?_
    exact ⟨rbool (by simp only [smS]; rw [decide_eq_false (show ¬ pl ≤ 3 by omega)]; rfl), hS.below⟩
  · have hg10 := of_decide_eq_false hc; clear hc
    refine op_wantedF (d := 10) rfl rfl ?_
    refine op_move rfl rfl ?_
    refine op_wantedF (d := 10) rfl rfl ?_
    refine op_gtr rfl rfl rfl ?_
    refine op_pickF rfl rfl rfl ?_
    refine endF ?_
    refine XF.thenN ?_
    refine condF rfl (fun hc => absurd (of_decide_eq_true hc) (by omega)) (fun hc => ?_)
    have hc := of_decide_eq_false hc
    refine skipF ?_
    refine XF.thenN ?_
    refine seqF ?_
    refine seqF ?_
    refine regF ?_
    refine op_assign rfl rfl ?_
    refine endF ?_
    refine XF.thenN ?_
    refine blockF ?_
    refine loopF (fun q l W => ∃ i : Nat, i ≤ pl ∧ q = pl - i ∧ l = [(1, .int .i64 (deep : Int)), (2, .pointer (some ⟨B1, 0, none⟩)), (5, .int .i64 (i : Int))] ∧ (ps.take i).all (smS k) = true ∧ St w [(B1, [.int .i64 t, .int .i64 n, .slice pa pl pc], 25)] [] [] W) (pl - 0) ([(1, _), (2, _), (5, _)]) ⟨rfl, rfl, rfl, trivial⟩ (⟨0, Nat.zero_le _, rfl, rfl, rfl, hS.clear⟩) ?_
    clear hS
    rintro q l W ⟨i, hi, rfl, rfl, hall, hS⟩
    refine seqF ?_
    refine seqF ?_
    refine regF ?_
    refine op_move rfl rfl ?_
    refine op_field (o' := 2) fa_25_2 rfl rfl rfl ?_
    refine op_load Tryz.isAgg23 rfl (cell_own (hS.at_ 0 rfl) rfl) rfl ?_
    refine op_len Tryz.underlying23 rfl rfl ?_
    refine op_lss rfl rfl rfl ?_
    refine endF ?_
    refine XF.thenN ?_
    refine condF rfl (fun hc => ?_) (fun hc => ?_)
    · have hc18 := of_decide_eq_true hc; clear hc
      have hk : i < pl := by omega
      obtain ⟨p, hp⟩ : ∃ p, ps[i]? = some p := ⟨ps[i]'(by omega), by simp [show i < ps.length by omega]⟩
      obtain ⟨b, off, hpa, hb, h6⟩ := hrow.at_ hp
      subst hpa
      have k1 := CellsAt.agree hS.agree (Nat.zero_le _) h6.cells
      refine skipF ?_
      refine XF.thenN ?_
      refine seqF ?_
      refine blockF ?_
      refine seqF ?_
      refine regF ?_
      refine op_field (o' := 2) fa_25_2 rfl rfl rfl ?_
      refine op_load Tryz.isAgg23 rfl (cell_own (hS.at_ 0 rfl) rfl) rfl ?_
      refine op_move rfl rfl ?_
      refine op_indexA  Tryz.underlying23 Tryz.sizeOf25 rfl rfl rfl (by omega) rfl rfl ?_
      refine op_loadA (vs := [_, _, _]) Tryz.isAgg25 Tryz.sizeOf25 rfl (by assumption) rfl ?_
      refine op_move rfl rfl ?_
      refine op_add rfl rfl (IntWalk.i64_in _ (by omega)) rfl ?_
      refine op_call (vs := [_, _]) hS goes_9 rfl (ih p _ (SIn.below hS.below (hin p (List.mem_of_getElem? hp)))) rfl ?_
      rintro e W2 ⟨rfl, hb⟩
      refine ⟨_, rfl, hb, fun hS' => ?_⟩
      clear hS; have hS := hS'; clear hS' hb
      refine op_not rfl rfl ?_
      refine endF ?_
      refine XF.thenN ?_
      refine condF rfl (fun hc => ?_) (fun hc => ?_)
      · have hc29 := hc; clear hc
        refine seqF ?_
        refine regF ?_
        refine op_assign rfl rfl ?_
        refine endF ?_
        refine XF.thenN ?_
        refine retF ?_
        refine XF.blkR ?_
        refine XF.thenR ?_
        refine XF.thenR ?_
        refine XF.blkR ?_
        refine XF.thenR ?_
        refine XF.res (res1 Tryz.results9 rfl) ?_
        exact ⟨rbool (by simp only [smS]; rw [all_false_at hp (by simpa using hc29)]; simp), hS.below⟩
      · have hc29 := hc; clear hc
        refine skipF ?_
        refine XF.blkN ?_
        refine XF.thenN ?_
        refine regF ?_
        refine op_move rfl rfl ?_
        refine op_add rfl rfl (IntWalk.i64_in _ (by omega)) rfl ?_
        refine op_assign rfl rfl ?_
        refine endF ?_
        exact XF.round (pl - (i + 1)) [(1, _), (2, _), (5, _)] (by omega) ⟨rfl, rfl, rfl, trivial⟩ ⟨i + 1, by omega, rfl, rfl, all_take_at hp hall (by simpa using hc29), hS.clear⟩
    · have hc18 := of_decide_eq_false hc; clear hc
      refine exitF ?_
      refine XF.thenX ?_
      refine XF.thenX ?_
      refine XF.blkX ?_
      refine XF.thenN ?_
      refine seqF ?_
      refine regF ?_
      refine op_assign rfl rfl ?_
      refine endF ?_
      refine XF.thenN ?_
      refine retF ?_
      refine XF.res (res1 Tryz.results9 rfl) ?_
      rw [List.take_of_length_le (by omega)] at hall
      exact ⟨rbool (by simp only [smS]; rw [hall, decide_eq_true (show pl ≤ 3 by omega)]; rfl), hS.below⟩

set_option maxRecDepth 100000 in
set_option maxHeartbeats 4000000 in
theorem checkR_gen (ds da : Nat) (s : SV) (x : WV) (w : World) (hs : SIn w ds s) (hx : WIn w da x) (h100 : x.f.rl ≤ 100) (h101 : ∀ p ∈ x.ps, p.f.rl ≤ 100) :
    Calls Tryz.prog 21 #[s.f.val, x.f.val] w (fun e w' => e = .returned (.int .i64 (chkW s x)) ∧ Below w.heap.size w w') := by
  refine enterF (args := [s.f.val, x.f.val]) Tryz.func21 rfl Tryz.ntmps21 rfl ?_
  have hS := St.start w
  refine seqF ?_
  refine regF ?_
  refine op_box (cs := [_, _, _]) hS rfl rfl rfl ?_
  clear hS; intro B1 W1 hS
  refine op_box (cs := [_, _, _, _, _, _]) hS rfl rfl rfl ?_
  clear hS; intro B2 W2 hS
  refine op_assign rfl rfl ?_
  refine endF ?_
  refine XF.thenN ?_
  refine seqF ?_
  refine regF ?_
  refine op_loadA (vs := [_, _, _]) Tryz.isAgg25 Tryz.sizeOf25 rfl (CellsAt.own (j := 0) (m := 3) (hS.at_ 1 rfl) rfl) rfl ?_
  refine op_call (vs := [_]) hS goes_19 rfl (spaceR_is ds s _ _ (SIn.below hS.below hs) rfl) rfl ?_
  rintro e W3 ⟨rfl, hb⟩
  refine ⟨_, rfl, hb, fun hS' => ?_⟩
  clear hS; have hS := hS'; clear hS' hb
  refine op_assign rfl rfl ?_
  refine endF ?_
  refine XF.thenN ?_
  refine seqF ?_
  refine seqF ?_
  refine regF ?_
  refine op_move rfl rfl ?_
  refine op_neq rfl rfl rfl ?_
  refine endF ?_
  refine XF.thenN ?_
  refine condF rfl (fun hc => ?_) (fun hc => ?_)
  · have hc9 := of_decide_eq_true hc; clear hc
    refine seqF ?_
    refine regF ?_
    refine op_move rfl rfl ?_
    refine op_assign rfl rfl ?_
    refine endF ?_
    refine XF.thenN ?_
    refine retF ?_
    refine XF.thenR ?_
    refine XF.res (res1 Tryz.results21 rfl) ?_
    exact ⟨rint (by unfold chkW; rw [if_neg hc9]), hS.below⟩
  · have hc9 := of_decide_eq_false hc; clear hc
    have hse : spaceE s = 0 := by omega
    refine skipF ?_
    refine XF.thenN ?_
    refine seqF ?_
    refine seqF ?_
    refine regF ?_
    refine op_loadA (vs := [_, _, _]) Tryz.isAgg25 Tryz.sizeOf25 rfl (CellsAt.own (j := 0) (m := 3) (hS.at_ 1 rfl) rfl) rfl ?_
    refine op_loadA (vs := [_, _, _, _, _, _]) Tryz.isAgg33 Tryz.sizeOf33 rfl (CellsAt.own (j := 0) (m := 6) (hS.at_ 0 rfl) rfl) rfl ?_
    refine op_call (vs := [_, _]) hS goes_46 rfl (isR_gen (SIn.below hS.below hs) hse (WIn.below hS.below hx) h100 h101) rfl ?_
    rintro e W4 ⟨rfl, hb⟩
    refine ⟨_, rfl, hb, fun hS' => ?_⟩
    clear hS; have hS := hS'; clear hS' hb
    refine op_not rfl rfl ?_
    refine endF ?_
    refine XF.thenN ?_
    refine condF rfl (fun hc => ?_) (fun hc => ?_)
    · have hc14 := hc; clear hc
      refine seqF ?_
      refine regF ?_
      refine op_assign rfl rfl ?_
      refine endF ?_
      refine XF.thenN ?_
      refine retF ?_
      refine XF.thenR ?_
      refine XF.res (res1 Tryz.results21 rfl) ?_
      exact ⟨rint (by unfold chkW; rw [if_pos hse, if_neg (by simpa using hc14)]), hS.below⟩
    · have hc14 := hc; clear hc
      refine skipF ?_
      refine XF.thenN ?_
      refine seqF ?_
      refine regF ?_
      refine op_assign rfl rfl ?_
      refine endF ?_
      refine XF.thenN ?_
      refine retF ?_
      refine XF.res (res1 Tryz.results21 rfl) ?_
      exact ⟨rint (by unfold chkW; rw [if_pos hse, if_pos (by simpa using hc14)]), hS.below⟩

set_option maxRecDepth 100000 in
set_option maxHeartbeats 4000000 in
theorem small_deep (deep : Nat) (x : WV) (w : World) (hd : deep = 4) :
    Calls Tryz.prog 10 #[x.f.val, .int .i64 (deep : Int)] w (fun e w' => e = .returned (.bool (smN 0 x)) ∧ Below w.heap.size w w') := by
  refine enterF (args := [x.f.val, .int .i64 (deep : Int)]) Tryz.func10 rfl Tryz.ntmps10 rfl ?_
  have hS := St.start w
  refine seqF ?_
  refine regF ?_
  refine op_box (cs := [_, _, _, _, _, _]) hS rfl rfl rfl ?_
  clear hS; intro B1 W1 hS
  refine op_assign rfl rfl ?_
  refine endF ?_
  refine XF.thenN ?_
  refine seqF ?_
  refine seqF ?_
  refine regF ?_
  refine op_field (o' := 2) fa_33_2 rfl rfl rfl ?_
  refine op_field (o' := 3) fa_29_1 rfl rfl rfl ?_
  refine op_load Tryz.isAgg27 rfl (cell_own (hS.at_ 0 rfl) rfl) rfl ?_
  refine op_len Tryz.underlying27 rfl rfl ?_
  refine op_gtr rfl rfl rfl ?_
  refine op_move rfl rfl ?_
  refine op_cases (d := 11) rfl (fun hc => ?_) (fun hc => ?_)
  · have hg11 := of_decide_eq_true hc; clear hc
    refine op_notF (d := 11) rfl rfl rfl rfl ?_
    refine op_notF (d := 11) rfl rfl rfl rfl ?_
    refine op_notF (d := 11) rfl rfl rfl rfl ?_
    refine op_notF (d := 11) rfl rfl rfl rfl ?_
    refine op_pickT rfl rfl rfl ?_
    refine op_move rfl rfl ?_
    refine op_notF (d := 17) rfl rfl rfl rfl ?_
    refine op_notF (d := 17) rfl rfl rfl rfl ?_
    refine op_notF (d := 17) rfl rfl rfl rfl ?_
    refine op_notF (d := 17) rfl rfl rfl rfl ?_
    refine op_pickT rfl rfl rfl ?_
    refine op_move rfl rfl ?_
    refine op_notF (d := 23) rfl rfl rfl rfl ?_
    refine op_notF (d := 23) rfl rfl rfl rfl ?_
    refine op_pickT rfl rfl rfl ?_
    refine endF ?_
    refine XF.thenN ?_
    refine condT rfl ?_
    refine seqF ?_
    refine regF ?_
    refine op_assign rfl rfl ?_
    refine endF ?_
    refine XF.thenN ?_
    refine retF ?_
    refine XF.thenR ?_
    refine XF.res (res1 Tryz.results10 rfl) ?_
    exact ⟨rfl, hS.below⟩
  · have hg11 := of_decide_eq_false hc; clear hc
    refine op_wantedF (d := 11) rfl rfl ?_
    refine op_field (o' := 4) fa_33_3 rfl rfl rfl ?_
    refine op_wantedF (d := 11) rfl rfl ?_
    refine op_load Tryz.isAgg30 rfl (cell_own (hS.at_ 0 rfl) rfl) rfl ?_
    refine op_wantedF (d := 11) rfl rfl ?_
    refine op_len Tryz.underlying30 rfl rfl ?_
    refine op_wantedF (d := 11) rfl rfl ?_
    refine op_gtr rfl rfl rfl ?_
    refine op_pickF rfl rfl rfl ?_
    refine op_move rfl rfl ?_
    refine op_cases (d := 17) rfl (fun hc => ?_) (fun hc => ?_)
    · have hg17 := of_decide_eq_true hc; clear hc
      refine op_notF (d := 17) rfl rfl rfl rfl ?_
      refine op_notF (d := 17) rfl rfl rfl rfl ?_
      refine op_notF (d := 17) rfl rfl rfl rfl ?_
      refine op_notF (d := 17) rfl rfl rfl rfl ?_
      refine op_pickT rfl rfl rfl ?_
      refine op_move rfl rfl ?_
      refine op_notF (d := 23) rfl rfl rfl rfl ?_
      refine op_notF (d := 23) rfl rfl rfl rfl ?_
      refine op_pickT rfl rfl rfl ?_
      refine endF ?_
      refine XF.thenN ?_
      refine condT rfl ?_
      refine seqF ?_
      refine regF ?_
      refine op_assign rfl rfl ?_
      refine endF ?_
      refine XF.thenN ?_
      refine retF ?_
      refine XF.thenR ?_
      refine XF.res (res1 Tryz.results10 rfl) ?_
      exact ⟨rfl, hS.below⟩
    · have hg17 := of_decide_eq_false hc; clear hc
      refine op_wantedF (d := 17) rfl rfl ?_
      refine op_field (o' := 5) fa_33_4 rfl rfl rfl ?_
      refine op_wantedF (d := 17) rfl rfl ?_
      refine op_load Tryz.isAgg31 rfl (cell_own (hS.at_ 0 rfl) rfl) rfl ?_
      refine op_wantedF (d := 17) rfl rfl ?_
      refine op_len Tryz.underlying31 rfl rfl ?_
      refine op_wantedF (d := 17) rfl rfl ?_
      refine op_gtr rfl rfl rfl ?_
      refine op_pickF rfl rfl rfl ?_
      refine op_move rfl rfl ?_
      refine op_cases (d := 23) rfl (fun hc => ?_) (fun hc => ?_)
      · have hg23 := of_decide_eq_true hc; clear hc
        refine op_notF (d := 23) rfl rfl rfl rfl ?_
        refine op_notF (d := 23) rfl rfl rfl rfl ?_
        refine op_pickT rfl rfl rfl ?_
        refine endF ?_
        refine XF.thenN ?_
        refine condT rfl ?_
        refine seqF ?_
        refine regF ?_
        refine op_assign rfl rfl ?_
        refine endF ?_
        refine XF.thenN ?_
        refine retF ?_
        refine XF.thenR ?_
        refine XF.res (res1 Tryz.results10 rfl) ?_
        exact ⟨rfl, hS.below⟩
      · have hg23 := of_decide_eq_false hc; clear hc
        refine op_wantedF (d := 23) rfl rfl ?_
        refine op_move rfl rfl ?_
        refine op_wantedF (d := 23) rfl rfl ?_
        refine op_gtr rfl rfl rfl ?_
        refine op_pickF rfl rfl rfl ?_
        refine endF ?_
        refine XF.thenN ?_
        refine condF rfl (fun hc => ?_) (fun hc => absurd (of_decide_eq_false hc) (by omega))
        have hc := of_decide_eq_true hc
        refine seqF ?_
        refine regF ?_
        refine op_assign rfl rfl ?_
        refine endF ?_
        refine XF.thenN ?_
        refine retF ?_
        refine XF.thenR ?_
        refine XF.res (res1 Tryz.results10 rfl) ?_
        exact ⟨rfl, hS.below⟩

set_option maxRecDepth 100000 in
set_option maxHeartbeats 4000000 in
theorem smallSpace_deep (deep : Nat) (x : SV) (w : World) (hd : deep = 4) :
    Calls Tryz.prog 9 #[x.f.val, .int .i64 (deep : Int)] w (fun e w' => e = .returned (.bool (smS 0 x)) ∧ Below w.heap.size w w') := by
  refine enterF (args := [x.f.val, .int .i64 (deep : Int)]) Tryz.func9 rfl Tryz.ntmps9 rfl ?_
  have hS := St.start w
  refine seqF ?_
  refine regF ?_
  refine op_box (cs := [_, _, _]) hS rfl rfl rfl ?_
  clear hS; intro B1 W1 hS
  refine op_assign rfl rfl ?_
  refine endF ?_
  refine XF.thenN ?_
  refine seqF ?_
  refine seqF ?_
  refine regF ?_
  refine op_field (o' := 2) fa_25_2 rfl rfl rfl ?_
  refine op_load Tryz.isAgg23 rfl (cell_own (hS.at_ 0 rfl) rfl) rfl ?_
  refine op_len Tryz.underlying23 rfl rfl ?_
  refine op_gtr rfl rfl rfl ?_
  refine op_move rfl rfl ?_
  refine op_cases (d := 10) rfl (fun hc => ?_) (fun hc => ?_)
  · have hg10 := of_decide_eq_true hc; clear hc
    refine op_notF (d := 10) rfl rfl rfl rfl ?_
    refine op_notF (d := 10) rfl rfl rfl rfl ?_
    refine op_pickT rfl rfl rfl ?_
    refine endF ?_
    refine XF.thenN ?_
    refine condT rfl ?_
    refine seqF ?_
    refine regF ?_
    refine op_assign rfl rfl ?_
    refine endF ?_
    refine XF.thenN ?_
    refine retF ?_
    refine XF.thenR ?_
    refine XF.res (res1 Tryz.results9 rfl) ?_
    exact ⟨rfl, hS.below⟩
  · have hg10 := of_decide_eq_false hc; clear hc
    refine op_wantedF (d := 10) rfl rfl ?_
    refine op_move rfl rfl ?_
    refine op_wantedF (d := 10) rfl rfl ?_
    refine op_gtr rfl rfl rfl ?_
    refine op_pickF rfl rfl rfl ?_
    refine endF ?_
    refine XF.thenN ?_
    refine condF rfl (fun hc => ?_) (fun hc => absurd (of_decide_eq_false hc) (by omega))
    have hc := of_decide_eq_true hc
    refine seqF ?_
    refine regF ?_
    refine op_assign rfl rfl ?_
    refine endF ?_
    refine XF.thenN ?_
    refine retF ?_
    refine XF.thenR ?_
    refine XF.res (res1 Tryz.results9 rfl) ?_
    exact ⟨rfl, hS.below⟩

theorem small_is : ∀ (k deep e0 : Nat) (x : WV) (w : World), deep + k = 4 → WIn w e0 x → Calls Tryz.prog 10 #[x.f.val, .int .i64 (deep : Int)] w fun e w' => e = .returned (.bool (smN k x)) ∧ Below w.heap.size w w'
  | 0, deep, e0, x, w, hd, hx => small_deep deep x w (by omega)
  | k + 1, deep, e0 + 1, .mk f ps, w, hd, hx => by
    obtain ⟨z, c, g, ra, rl, rc, rows, ca, cl, cc, cells, pa, pl, pc⟩ := f
    exact small_step deep k e0 z c g ra rl rc rows ca cl cc cells pa pl pc ps w (by omega) hx.2.1 hx.2.2.1 hx.2.2.2 (fun p W hp => small_is k (deep + 1) e0 p W (by omega) hp)
theorem smallSpace_is : ∀ (k deep e0 : Nat) (x : SV) (w : World), deep + k = 4 → SIn w e0 x → Calls Tryz.prog 9 #[x.f.val, .int .i64 (deep : Int)] w fun e w' => e = .returned (.bool (smS k x)) ∧ Below w.heap.size w w'
  | 0, deep, e0, x, w, hd, hx => smallSpace_deep deep x w (by omega)
  | k + 1, deep, e0 + 1, .mk f ps, w, hd, hx => by
    obtain ⟨t, n, a, l, c⟩ := f
    exact smallSpace_step deep k e0 t n a l c ps w (by omega) hx.1 hx.2.1 hx.2.2 (fun p W hp => smallSpace_is k (deep + 1) e0 p W (by omega) hp)
end Go.Proofs.YtjcminoaiieckaaGreatDoor
namespace Go.Proofs.YtjcminoaiieckaaGreatDoor
open Go Go.RowKit
set_option linter.unusedVariables false
theorem r_false {r : Bool} {C : Prop} (hr : r = true ↔ C) (h : ¬ C) : false = r := by
  cases r
  · rfl
  · exact absurd (hr.1 rfl) h
theorem r_true {r : Bool} {C : Prop} (hr : r = true ↔ C) (h : C) : true = r := (hr.2 h).symm

set_option maxRecDepth 100000 in
set_option maxHeartbeats 4000000 in
theorem sameW_one (az : Bool) (ac : Int) (ag : Nat) (ara : Option Addr) (arl arc : Nat) (arows : List Nat) (aca : Option Addr) (acl acc : Nat) (acells : List Cl) (apa : Option Addr) (apc : Nat)(bz : Bool) (bc : Int) (bg : Nat) (bra : Option Addr) (brl brc : Nat) (brows : List Nat) (bca : Option Addr) (bcl bcc : Nat) (bcells : List Cl) (bpa : Option Addr) (bpc : Nat)(w : World) (hra : VRow w ara (u64s arows)) (hla : arows.length = arl) (hma : arl ≤ 100) (hca : CRow w aca acells) (hka : acells.length = acl) (hna : acl ≤ 100)(hrb : VRow w bra (u64s brows)) (hlb : brows.length = brl) (hmb : brl ≤ 100) (hcb : CRow w bca bcells) (hkb : bcells.length = bcl) (hnb : bcl ≤ 100)(r : Bool) (hr : r = true ↔ (az = bz ∧ ac = bc ∧ ag = bg ∧ arows = brows ∧ acells = bcells)) :
    Calls Tryz.prog 22 #[.agg #[.bool az, .int .i64 ac, .int .u64 (ag : Int), .slice ara arl arc, .slice aca acl acc, .slice apa 0 apc], .agg #[.bool bz, .int .i64 bc, .int .u64 (bg : Int), .slice bra brl brc, .slice bca bcl bcc, .slice bpa 0 bpc]] w (fun e w' => e = .returned (.bool r) ∧ Below w.heap.size w w') := by
  refine enterF (args := [.agg #[.bool az, .int .i64 ac, .int .u64 (ag : Int), .slice ara arl arc, .slice aca acl acc, .slice apa 0 apc], .agg #[.bool bz, .int .i64 bc, .int .u64 (bg : Int), .slice bra brl brc, .slice bca bcl bcc, .slice bpa 0 bpc]]) Tryz.func22 rfl Tryz.ntmps22 rfl ?_
  have hS := St.start w
  refine seqF ?_
  refine regF ?_
  refine op_box (cs := [_, _, _, _, _, _]) hS rfl rfl rfl ?_
  clear hS; intro B1 W1 hS
  refine op_box (cs := [_, _, _, _, _, _]) hS rfl rfl rfl ?_
  clear hS; intro B2 W2 hS
  refine op_assign rfl rfl ?_
  refine endF ?_
  refine XF.thenN ?_
  refine seqF ?_
  refine seqF ?_
  refine regF ?_
  refine op_field (o' := 0) fa_33_0 rfl rfl rfl ?_
  refine op_load Tryz.isAgg4 rfl (cell_own (hS.at_ 1 rfl) rfl) rfl ?_
  refine op_field (o' := 0) fa_33_0 rfl rfl rfl ?_
  refine op_load Tryz.isAgg4 rfl (cell_own (hS.at_ 0 rfl) rfl) rfl ?_
  refine op_neqB Tryz.underlying4 rfl rfl rfl ?_
  refine op_move rfl rfl ?_
  refine op_cases (d := 12) rfl (fun hc => ?_) (fun hc => ?_)
  · have hg12 := hc; clear hc
    refine op_notF (d := 12) rfl rfl rfl rfl ?_
    refine op_notF (d := 12) rfl rfl rfl rfl ?_
    refine op_notF (d := 12) rfl rfl rfl rfl ?_
    refine op_notF (d := 12) rfl rfl rfl rfl ?_
    refine op_notF (d := 12) rfl rfl rfl rfl ?_
    refine op_pickT rfl rfl rfl ?_
    refine op_move rfl rfl ?_
    refine op_notF (d := 19) rfl rfl rfl rfl ?_
    refine op_notF (d := 19) rfl rfl rfl rfl ?_
    refine op_notF (d := 19) rfl rfl rfl rfl ?_
    refine op_notF (d := 19) rfl rfl rfl rfl ?_
    refine op_notF (d := 19) rfl rfl rfl rfl ?_
    refine op_notF (d := 19) rfl rfl rfl rfl ?_
    refine op_pickT rfl rfl rfl ?_
    refine op_move rfl rfl ?_
    refine op_notF (d := 27) rfl rfl rfl rfl ?_
    refine op_notF (d := 27) rfl rfl rfl rfl ?_
    refine op_notF (d := 27) rfl rfl rfl rfl ?_
    refine op_notF (d := 27) rfl rfl rfl rfl ?_
    refine op_notF (d := 27) rfl rfl rfl rfl ?_
    refine op_notF (d := 27) rfl rfl rfl rfl ?_
    refine op_notF (d := 27) rfl rfl rfl rfl ?_
    refine op_pickT rfl rfl rfl ?_
    refine op_move rfl rfl ?_
    refine op_notF (d := 36) rfl rfl rfl rfl ?_
    refine op_notF (d := 36) rfl rfl rfl rfl ?_
    refine op_notF (d := 36) rfl rfl rfl rfl ?_
    refine op_notF (d := 36) rfl rfl rfl rfl ?_
    refine op_notF (d := 36) rfl rfl rfl rfl ?_
    refine op_notF (d := 36) rfl rfl rfl rfl ?_
    refine op_notF (d := 36) rfl rfl rfl rfl ?_
    refine op_pickT rfl rfl rfl ?_
    refine endF ?_
    refine XF.thenN ?_
    refine condT rfl ?_
    refine seqF ?_
    refine regF ?_
    refine op_assign rfl rfl ?_
    refine endF ?_
    refine XF.thenN ?_
    refine retF ?_
    refine XF.thenR ?_
    refine XF.res (res1 Tryz.results22 rfl) ?_
    exact ⟨rbool (r_false hr (fun h => by have h1 := h.1; subst h1; simp at hg12)), hS.below⟩
  · have hg12 := hc; clear hc
    refine op_wantedF (d := 12) rfl rfl ?_
    refine op_field (o' := 1) fa_33_1 rfl rfl rfl ?_
    refine op_wantedF (d := 12) rfl rfl ?_
    refine op_load Tryz.isAgg3 rfl (cell_own (hS.at_ 1 rfl) rfl) rfl ?_
    refine op_wantedF (d := 12) rfl rfl ?_
    refine op_field (o' := 1) fa_33_1 rfl rfl rfl ?_
    refine op_wantedF (d := 12) rfl rfl ?_
    refine op_load Tryz.isAgg3 rfl (cell_own (hS.at_ 0 rfl) rfl) rfl ?_
    refine op_wantedF (d := 12) rfl rfl ?_
    refine op_neq rfl rfl rfl ?_
    refine op_pickF rfl rfl rfl ?_
    refine op_move rfl rfl ?_
    refine op_cases (d := 19) rfl (fun hc => ?_) (fun hc => ?_)
    · have hg19 := of_decide_eq_true hc; clear hc
      refine op_notF (d := 19) rfl rfl rfl rfl ?_
      refine op_notF (d := 19) rfl rfl rfl rfl ?_
      refine op_notF (d := 19) rfl rfl rfl rfl ?_
      refine op_notF (d := 19) rfl rfl rfl rfl ?_
      refine op_notF (d := 19) rfl rfl rfl rfl ?_
      refine op_notF (d := 19) rfl rfl rfl rfl ?_
      refine op_pickT rfl rfl rfl ?_
      refine op_move rfl rfl ?_
      refine op_notF (d := 27) rfl rfl rfl rfl ?_
      refine op_notF (d := 27) rfl rfl rfl rfl ?_
      refine op_notF (d := 27) rfl rfl rfl rfl ?_
      refine op_notF (d := 27) rfl rfl rfl rfl ?_
      refine op_notF (d := 27) rfl rfl rfl rfl ?_
      refine op_notF (d := 27) rfl rfl rfl rfl ?_
      refine op_notF (d := 27) rfl rfl rfl rfl ?_
      refine op_pickT rfl rfl rfl ?_
      refine op_move rfl rfl ?_
      refine op_notF (d := 36) rfl rfl rfl rfl ?_
      refine op_notF (d := 36) rfl rfl rfl rfl ?_
      refine op_notF (d := 36) rfl rfl rfl rfl ?_
      refine op_notF (d := 36) rfl rfl rfl rfl ?_
      refine op_notF (d := 36) rfl rfl rfl rfl ?_
      refine op_notF (d := 36) rfl rfl rfl rfl ?_
      refine op_notF (d := 36) rfl rfl rfl rfl ?_
      refine op_pickT rfl rfl rfl ?_
      refine endF ?_
      refine XF.thenN ?_
      refine condT rfl ?_
      refine seqF ?_
      refine regF ?_
      refine op_assign rfl rfl ?_
      refine endF ?_
      refine XF.thenN ?_
      refine retF ?_
      refine XF.thenR ?_
      refine XF.res (res1 Tryz.results22 rfl) ?_
      exact ⟨rbool (r_false hr (fun h => hg19 h.2.1)), hS.below⟩
    · have hg19 := of_decide_eq_false hc; clear hc
      refine op_wantedF (d := 19) rfl rfl ?_
      refine op_field (o' := 2) fa_33_2 rfl rfl rfl ?_
      refine op_wantedF (d := 19) rfl rfl ?_
      refine op_loadA (vs := [_, _]) Tryz.isAgg29 Tryz.sizeOf29 rfl (CellsAt.own (j := 2) (m := 2) (hS.at_ 1 rfl) rfl) rfl ?_
      refine op_wantedF (d := 19) rfl rfl ?_
      refine op_field (o' := 2) fa_33_2 rfl rfl rfl ?_
      refine op_wantedF (d := 19) rfl rfl ?_
      refine op_loadA (vs := [_, _]) Tryz.isAgg29 Tryz.sizeOf29 rfl (CellsAt.own (j := 2) (m := 2) (hS.at_ 0 rfl) rfl) rfl ?_
      refine op_wantedF (d := 19) rfl rfl ?_
      refine op_call (vs := [_, _]) hS goes_47 rfl (sameR_is _ _ _ _ _ _ _ _ _ (by omega) (by omega) (VRow.below hra hS.below) (VRow.below hrb hS.below) _ rfl _ _ hla hlb) rfl ?_
      rintro e W3 ⟨rfl, hb⟩
      refine ⟨_, rfl, hb, fun hS' => ?_⟩
      clear hS; have hS := hS'; clear hS' hb
      refine op_wantedF (d := 19) rfl rfl ?_
      refine op_not rfl rfl ?_
      refine op_pickF rfl rfl rfl ?_
      refine op_move rfl rfl ?_
      refine op_cases (d := 27) rfl (fun hc => ?_) (fun hc => ?_)
      · have hg27 := hc; clear hc
        refine op_notF (d := 27) rfl rfl rfl rfl ?_
        refine op_notF (d := 27) rfl rfl rfl rfl ?_
        refine op_notF (d := 27) rfl rfl rfl rfl ?_
        refine op_notF (d := 27) rfl rfl rfl rfl ?_
        refine op_notF (d := 27) rfl rfl rfl rfl ?_
        refine op_notF (d := 27) rfl rfl rfl rfl ?_
        refine op_notF (d := 27) rfl rfl rfl rfl ?_
        refine op_pickT rfl rfl rfl ?_
        refine op_move rfl rfl ?_
        refine op_notF (d := 36) rfl rfl rfl rfl ?_
        refine op_notF (d := 36) rfl rfl rfl rfl ?_
        refine op_notF (d := 36) rfl rfl rfl rfl ?_
        refine op_notF (d := 36) rfl rfl rfl rfl ?_
        refine op_notF (d := 36) rfl rfl rfl rfl ?_
        refine op_notF (d := 36) rfl rfl rfl rfl ?_
        refine op_notF (d := 36) rfl rfl rfl rfl ?_
        refine op_pickT rfl rfl rfl ?_
        refine endF ?_
        refine XF.thenN ?_
        refine condT rfl ?_
        refine seqF ?_
        refine regF ?_
        refine op_assign rfl rfl ?_
        refine endF ?_
        refine XF.thenN ?_
        refine retF ?_
        refine XF.thenR ?_
        refine XF.res (res1 Tryz.results22 rfl) ?_
        exact ⟨rbool (r_false hr (fun h => by obtain ⟨_, _, h3, h4, _⟩ := h; subst h3; subst h4; rw [same_self] at hg27; cases hg27)), hS.below⟩
      · have hg27 := hc; clear hc
        refine op_wantedF (d := 27) rfl rfl ?_
        refine op_field (o' := 4) fa_33_3 rfl rfl rfl ?_
        refine op_wantedF (d := 27) rfl rfl ?_
        refine op_load Tryz.isAgg30 rfl (cell_own (hS.at_ 1 rfl) rfl) rfl ?_
        refine op_wantedF (d := 27) rfl rfl ?_
        refine op_len Tryz.underlying30 rfl rfl ?_
        refine op_wantedF (d := 27) rfl rfl ?_
        refine op_field (o' := 4) fa_33_3 rfl rfl rfl ?_
        refine op_wantedF (d := 27) rfl rfl ?_
        refine op_load Tryz.isAgg30 rfl (cell_own (hS.at_ 0 rfl) rfl) rfl ?_
        refine op_wantedF (d := 27) rfl rfl ?_
        refine op_len Tryz.underlying30 rfl rfl ?_
        refine op_wantedF (d := 27) rfl rfl ?_
        refine op_neq rfl rfl rfl ?_
        refine op_pickF rfl rfl rfl ?_
        refine op_move rfl rfl ?_
        refine op_cases (d := 36) rfl (fun hc => ?_) (fun hc => ?_)
        · have hg36 := of_decide_eq_true hc; clear hc
          refine op_notF (d := 36) rfl rfl rfl rfl ?_
          refine op_notF (d := 36) rfl rfl rfl rfl ?_
          refine op_notF (d := 36) rfl rfl rfl rfl ?_
          refine op_notF (d := 36) rfl rfl rfl rfl ?_
          refine op_notF (d := 36) rfl rfl rfl rfl ?_
          refine op_notF (d := 36) rfl rfl rfl rfl ?_
          refine op_notF (d := 36) rfl rfl rfl rfl ?_
          refine op_pickT rfl rfl rfl ?_
          refine endF ?_
          refine XF.thenN ?_
          refine condT rfl ?_
          refine seqF ?_
          refine regF ?_
          refine op_assign rfl rfl ?_
          refine endF ?_
          refine XF.thenN ?_
          refine retF ?_
          refine XF.thenR ?_
          refine XF.res (res1 Tryz.results22 rfl) ?_
          exact ⟨rbool (r_false hr (fun h => by have h5 := h.2.2.2.2; subst h5; omega)), hS.below⟩
        · have hg36 := of_decide_eq_false hc; clear hc
          have hz : az = bz := by simpa using hg12
          have hcc : ac = bc := by omega
          have hff : ag = bg ∧ arows = brows := by simpa [sameB] using hg27
          have hcl : acl = bcl := by omega
          refine op_wantedF (d := 36) rfl rfl ?_
          refine op_field (o' := 5) fa_33_4 rfl rfl rfl ?_
          refine op_wantedF (d := 36) rfl rfl ?_
          refine op_load Tryz.isAgg31 rfl (cell_own (hS.at_ 1 rfl) rfl) rfl ?_
          refine op_wantedF (d := 36) rfl rfl ?_
          refine op_len Tryz.underlying31 rfl rfl ?_
          refine op_wantedF (d := 36) rfl rfl ?_
          refine op_field (o' := 5) fa_33_4 rfl rfl rfl ?_
          refine op_wantedF (d := 36) rfl rfl ?_
          refine op_load Tryz.isAgg31 rfl (cell_own (hS.at_ 0 rfl) rfl) rfl ?_
          refine op_wantedF (d := 36) rfl rfl ?_
          refine op_len Tryz.underlying31 rfl rfl ?_
          refine op_wantedF (d := 36) rfl rfl ?_
          refine op_neq rfl rfl rfl ?_
          refine op_pickF rfl rfl rfl ?_
          refine endF ?_
          refine XF.thenN ?_
          refine condF rfl (fun hc => absurd (of_decide_eq_true hc) (by omega)) (fun hc => ?_)
          have hc := of_decide_eq_false hc
          refine skipF ?_
          refine XF.thenN ?_
          refine seqF ?_
          refine seqF ?_
          refine regF ?_
          refine op_assign rfl rfl ?_
          refine endF ?_
          refine XF.thenN ?_
          refine blockF ?_
          refine loopF (fun q l W => ∃ i : Nat, i ≤ acl ∧ q = acl - i ∧ l = [(2, .pointer (some ⟨B1, 0, none⟩)), (3, .pointer (some ⟨B2, 0, none⟩)), (5, .int .i64 (i : Int))] ∧ acells.take i = bcells.take i ∧ St w [(B2, [.bool bz, .int .i64 bc, .int .u64 (bg : Int), .slice bra brl brc, .slice bca bcl bcc, .slice bpa 0 bpc], 33), (B1, [.bool az, .int .i64 ac, .int .u64 (ag : Int), .slice ara arl arc, .slice aca acl acc, .slice apa 0 apc], 33)] [] [] W) (acl - 0) ([(2, _), (3, _), (5, _)]) ⟨rfl, rfl, rfl, trivial⟩ (⟨0, Nat.zero_le _, rfl, rfl, rfl, hS.clear⟩) ?_
          clear hS
          rintro q l W ⟨i, hi, rfl, rfl, hall, hS⟩
          refine seqF ?_
          refine seqF ?_
          refine regF ?_
          refine op_move rfl rfl ?_
          refine op_field (o' := 4) fa_33_3 rfl rfl rfl ?_
          refine op_load Tryz.isAgg30 rfl (cell_own (hS.at_ 1 rfl) rfl) rfl ?_
          refine op_len Tryz.underlying30 rfl rfl ?_
          refine op_lss rfl rfl rfl ?_
          refine endF ?_
          refine XF.thenN ?_
          refine condF rfl (fun hc => ?_) (fun hc => ?_)
          · have hc49 := of_decide_eq_true hc; clear hc
            have hk : i < acl := by omega
            obtain ⟨b1, o1, x, hx1, hx2, _, x0, x1, x2⟩ := hca.at_ (k := i) (by omega)
            obtain ⟨b2, o2, y, hy1, hy2, _, y0, y1, y2⟩ := hcb.at_ (k := i) (by omega)
            subst hx1; subst hy1
            have k1 : CellsAt W b1 (o1 + i * 3) [.int .u64 (x.f : Int), .int .i64 x.k, .int .i64 x.v] := CellsAt.agree hS.agree (Nat.zero_le _) ⟨x0, x1, x2, trivial⟩
            have k2 : CellsAt W b2 (o2 + i * 3) [.int .u64 (y.f : Int), .int .i64 y.k, .int .i64 y.v] := CellsAt.agree hS.agree (Nat.zero_le _) ⟨y0, y1, y2, trivial⟩
            refine skipF ?_
            refine XF.thenN ?_
            refine seqF ?_
            refine blockF ?_
            refine seqF ?_
            refine regB (m := 11) followsM hS (by kernel_rfl) (by kernel_rfl) rfl ?_
            refine bl_cons 1 rfl (isV _) (stab_isV _) (rgV (li := [(2, _)]) rfl (w_free rfl) ⟨g_fr (by kernel_rfl) rfl, trivial⟩ (fun w hw => rn_field (o' := 4) fa_33_3 rfl rfl) (at_top rfl)) ?_
            refine bl_cons 2 rfl (isV _) (stab_isV _) (rgV (li := [(52, _)]) rfl (w_free rfl) ⟨g_dep 0 (by kernel_rfl) (at_dep rfl rfl rfl), trivial⟩ (fun w hw => rn_load Tryz.isAgg30 rfl ((below_agree hw 0).cell (Nat.zero_le _) (cell_own (hS.at_ 1 rfl) rfl))) (at_top rfl)) ?_
            refine bl_cons 3 rfl (isV _) (stab_isV _) (rgV (li := [(5, _)]) rfl (w_free rfl) ⟨g_fr (by kernel_rfl) rfl, trivial⟩ (fun w hw => rn_move rfl) (at_top rfl)) ?_
            refine bl_cons 4 rfl (isV _) (stab_isV _) (rgV (li := [(53, _), (54, _)]) rfl (w_free rfl) ⟨g_dep 1 (by kernel_rfl) (at_dep rfl rfl rfl), g_dep 2 (by kernel_rfl) (at_dep rfl rfl rfl), trivial⟩ (fun w hw => rn_indexA  Tryz.underlying30 Tryz.sizeOf73 rfl rfl rfl (by omega) rfl) (at_top rfl)) ?_
            refine bl_cons 5 rfl (isV _) (stab_isV _) (rgV (li := [(55, _)]) rfl (w_free rfl) ⟨g_dep 3 (by kernel_rfl) (at_dep rfl rfl rfl), trivial⟩ (fun w hw => rn_loadA (vs := [_, _, _]) Tryz.isAgg73 Tryz.sizeOf73 rfl (CellsAt.agree (below_agree hw 0) (Nat.zero_le _) (by assumption))) (at_top rfl)) ?_
            refine bl_cons 6 rfl (isV _) (stab_isV _) (rgV (li := [(3, _)]) rfl (w_free rfl) ⟨g_fr (by kernel_rfl) rfl, trivial⟩ (fun w hw => rn_field (o' := 4) fa_33_3 rfl rfl) (at_top rfl)) ?_
            refine bl_cons 7 rfl (isV _) (stab_isV _) (rgV (li := [(57, _)]) rfl (w_free rfl) ⟨g_dep 5 (by kernel_rfl) (at_dep rfl rfl rfl), trivial⟩ (fun w hw => rn_load Tryz.isAgg30 rfl ((below_agree hw 0).cell (Nat.zero_le _) (cell_own (hS.at_ 0 rfl) rfl))) (at_top rfl)) ?_
            refine bl_cons 8 rfl (isV _) (stab_isV _) (rgV (li := [(5, _)]) rfl (w_free rfl) ⟨g_fr (by kernel_rfl) rfl, trivial⟩ (fun w hw => rn_move rfl) (at_top rfl)) ?_
            refine bl_cons 9 rfl (isV _) (stab_isV _) (rgV (li := [(58, _), (59, _)]) rfl (w_free rfl) ⟨g_dep 6 (by kernel_rfl) (at_dep rfl rfl rfl), g_dep 7 (by kernel_rfl) (at_dep rfl rfl rfl), trivial⟩ (fun w hw => rn_indexA  Tryz.underlying30 Tryz.sizeOf73 rfl rfl rfl (by omega) rfl) (at_top rfl)) ?_
            refine bl_cons 10 rfl (isV _) (stab_isV _) (rgV (li := [(60, _)]) rfl (w_free rfl) ⟨g_dep 8 (by kernel_rfl) (at_dep rfl rfl rfl), trivial⟩ (fun w hw => rn_loadA (vs := [_, _, _]) Tryz.isAgg73 Tryz.sizeOf73 rfl (CellsAt.agree (below_agree hw 0) (Nat.zero_le _) (by assumption))) (at_top rfl)) ?_
            refine bl_cons 11 rfl (isV _) (stab_isV _) (rgV (li := [(56, _), (61, _)]) rfl (w_free rfl) ⟨g_dep 4 (by kernel_rfl) (at_dep rfl rfl rfl), g_dep 9 (by kernel_rfl) (at_dep rfl rfl rfl), trivial⟩ (fun w hw => rn_binG rfl rfl (run_eqGuard_agg _ _ _ _ _ _ _ (by kernel_rfl)) (neq_is x y _ rfl w)) (at_top rfl)) ?_
            refine bl_nil ?_
            intro W4 hbR hS'
            clear hS; have hS := hS'; clear hS'
            refine fin_v ?_
            refine fin_v ?_
            refine fin_v ?_
            refine fin_v ?_
            refine fin_v ?_
            refine fin_v ?_
            refine fin_v ?_
            refine fin_v ?_
            refine fin_v ?_
            refine fin_v ?_
            refine fin_v ?_
            refine fin_nil ?_
            refine XF.thenN ?_
            refine condF rfl (fun hc => ?_) (fun hc => ?_)
            · have hc62 := hc; clear hc
              refine seqF ?_
              refine regF ?_
              refine op_assign rfl rfl ?_
              refine endF ?_
              refine XF.thenN ?_
              refine retF ?_
              refine XF.blkR ?_
              refine XF.thenR ?_
              refine XF.thenR ?_
              refine XF.blkR ?_
              refine XF.thenR ?_
              refine XF.res (res1 Tryz.results22 rfl) ?_
              exact ⟨rbool (r_false hr (fun h => by have h5 := h.2.2.2.2; subst h5; rw [hx2] at hy2; cases hy2; simp [sameCl] at hc62)), hS.below⟩
            · have hc62 := hc; clear hc
              have hxy : x = y := by
                obtain ⟨xf, xk, xv⟩ := x
                obtain ⟨yf, yk, yv⟩ := y
                simp [sameCl] at hc62
                simp [hc62]
              subst hxy
              refine skipF ?_
              refine XF.blkN ?_
              refine XF.thenN ?_
              refine regF ?_
              refine op_move rfl rfl ?_
              refine op_add rfl rfl (IntWalk.i64_in _ (by omega)) rfl ?_
              refine op_assign rfl rfl ?_
              refine endF ?_
              exact XF.round (acl - (i + 1)) [(2, _), (3, _), (5, _)] (by omega) ⟨rfl, rfl, rfl, trivial⟩ ⟨i + 1, by omega, rfl, rfl, by rw [List.take_add_one, List.take_add_one, hx2, hy2, hall], hS.clear⟩
          · have hc49 := of_decide_eq_false hc; clear hc
            have hce : acells = bcells := by
              rw [List.take_of_length_le (by omega), List.take_of_length_le (by omega)] at hall
              exact hall
            refine exitF ?_
            refine XF.thenX ?_
            refine XF.thenX ?_
            refine XF.blkX ?_
            refine XF.thenN ?_
            refine seqF ?_
            refine seqF ?_
            refine regF ?_
            refine op_assign rfl rfl ?_
            refine endF ?_
            refine XF.thenN ?_
            refine blockF ?_
            refine loopF (fun q l W => l = [(2, .pointer (some ⟨B1, 0, none⟩)), (3, .pointer (some ⟨B2, 0, none⟩)), (6, .int .i64 0)] ∧ St w [(B2, [.bool bz, .int .i64 bc, .int .u64 (bg : Int), .slice bra brl brc, .slice bca bcl bcc, .slice bpa 0 bpc], 33), (B1, [.bool az, .int .i64 ac, .int .u64 (ag : Int), .slice ara arl arc, .slice aca acl acc, .slice apa 0 apc], 33)] [] [] W) (0) ([(2, _), (3, _), (6, _)]) ⟨rfl, rfl, rfl, trivial⟩ (⟨rfl, hS⟩) ?_
            clear hS
            rintro q l W ⟨rfl, hS⟩
            refine seqF ?_
            refine seqF ?_
            refine regF ?_
            refine op_move rfl rfl ?_
            refine op_field (o' := 5) fa_33_4 rfl rfl rfl ?_
            refine op_load Tryz.isAgg31 rfl (cell_own (hS.at_ 1 rfl) rfl) rfl ?_
            refine op_len Tryz.underlying31 rfl rfl ?_
            refine op_lss rfl rfl rfl ?_
            refine endF ?_
            refine XF.thenN ?_
            refine condF rfl (fun hc => absurd (of_decide_eq_true hc) (by omega)) (fun hc => ?_)
            have hc := of_decide_eq_false hc
            refine exitF ?_
            refine XF.thenX ?_
            refine XF.thenX ?_
            refine XF.blkX ?_
            refine XF.thenN ?_
            refine seqF ?_
            refine regF ?_
            refine op_assign rfl rfl ?_
            refine endF ?_
            refine XF.thenN ?_
            refine retF ?_
            refine XF.res (res1 Tryz.results22 rfl) ?_
            exact ⟨rbool (r_true hr ⟨hz, hcc, hff.1, hff.2, hce⟩), hS.below⟩

theorem sameW_plain {w : World} {t n : Int} {f g : WF} {x y : PF} (hx : PIs w t n f x) (hy : PIs w t n g y) (r : Bool) (hr : r = true ↔ x = y) : Calls Tryz.prog 22 #[f.val, g.val] w fun e w' => e = .returned (.bool r) ∧ Below w.heap.size w w' := by
  have h1 := hx.rows64 (l := 0); have h2 := hy.rows64 (l := 0)
  have e1 := hx.pl; have e2 := hy.pl
  have a1 := hx.at_; have a2 := hy.at_
  obtain rfl := hx.pf
  obtain rfl := hy.pf
  obtain ⟨az, ac, ag, ara, arl, arc, arows, aca, acl, acc, acells, apa, apl, apc⟩ := f
  obtain ⟨bz, bc, bg, bra, brl, brc, brows, bca, bcl, bcc, bcells, bpa, bpl, bpc⟩ := g
  dsimp only at e1 e2 h1 h2
  subst e1; subst e2
  refine sameW_one _ _ _ _ _ _ _ _ _ _ _ _ _ _ _ _ _ _ _ _ _ _ _ _ _ _ w a1.rows a1.rl (by dsimp only; omega) a1.cells a1.cl (by dsimp only; omega) a2.rows a2.rl (by dsimp only; omega) a2.cells a2.cl (by dsimp only; omega) r ?_
  rw [hr]
  simp [WF.pf]

set_option maxRecDepth 100000 in
set_option maxHeartbeats 4000000 in
theorem sameW_two (t n u m : Int) (fra fca : Option Addr) (frc fcc fpc fb fo : Nat) (f1 f2 : WF)(gra gca : Option Addr) (grc gcc gpc gb go : Nat) (g1 g2 : WF)(x1 x2 y1 y2 : PF) (w : World) (hf6 : W6 w fb fo f1) (hf7 : W6 w fb (fo + 6) f2) (hg6 : W6 w gb go g1) (hg7 : W6 w gb (go + 6) g2) (hx1 : PIs w t n f1 x1) (hx2 : PIs w u m f2 x2) (hy1 : PIs w t n g1 y1) (hy2 : PIs w u m g2 y2) (r r1 r2 : Bool) (hr : r = true ↔ (x1 = y1 ∧ x2 = y2)) (hr1 : r1 = true ↔ x1 = y1) (hr2 : r2 = true ↔ x2 = y2) :
    Calls Tryz.prog 22 #[.agg #[.bool false, .int .i64 0, .int .u64 0, .slice fra 0 frc, .slice fca 0 fcc, .slice (some ⟨fb, fo, none⟩) 2 fpc], .agg #[.bool false, .int .i64 0, .int .u64 0, .slice gra 0 grc, .slice gca 0 gcc, .slice (some ⟨gb, go, none⟩) 2 gpc]] w (fun e w' => e = .returned (.bool r) ∧ Below w.heap.size w w') := by
  refine enterF (args := [.agg #[.bool false, .int .i64 0, .int .u64 0, .slice fra 0 frc, .slice fca 0 fcc, .slice (some ⟨fb, fo, none⟩) 2 fpc], .agg #[.bool false, .int .i64 0, .int .u64 0, .slice gra 0 grc, .slice gca 0 gcc, .slice (some ⟨gb, go, none⟩) 2 gpc]]) Tryz.func22 rfl Tryz.ntmps22 rfl ?_
  have hS := St.start w
  refine seqF ?_
  refine regF ?_
  refine op_box (cs := [_, _, _, _, _, _]) hS rfl rfl rfl ?_
  clear hS; intro B1 W1 hS
  refine op_box (cs := [_, _, _, _, _, _]) hS rfl rfl rfl ?_
  clear hS; intro B2 W2 hS
  refine op_assign rfl rfl ?_
  refine endF ?_
  refine XF.thenN ?_
  refine seqF ?_
  refine seqF ?_
  refine regF ?_
  refine op_field (o' := 0) fa_33_0 rfl rfl rfl ?_
  refine op_load Tryz.isAgg4 rfl (cell_own (hS.at_ 1 rfl) rfl) rfl ?_
  refine op_field (o' := 0) fa_33_0 rfl rfl rfl ?_
  refine op_load Tryz.isAgg4 rfl (cell_own (hS.at_ 0 rfl) rfl) rfl ?_
  refine op_neqB Tryz.underlying4 rfl rfl rfl ?_
  refine op_move rfl rfl ?_
  refine op_cases (d := 12) rfl (fun hc => absurd hc (by decide)) (fun hc => ?_)
  skip
  refine op_wantedF (d := 12) rfl rfl ?_
  refine op_field (o' := 1) fa_33_1 rfl rfl rfl ?_
  refine op_wantedF (d := 12) rfl rfl ?_
  refine op_load Tryz.isAgg3 rfl (cell_own (hS.at_ 1 rfl) rfl) rfl ?_
  refine op_wantedF (d := 12) rfl rfl ?_
  refine op_field (o' := 1) fa_33_1 rfl rfl rfl ?_
  refine op_wantedF (d := 12) rfl rfl ?_
  refine op_load Tryz.isAgg3 rfl (cell_own (hS.at_ 0 rfl) rfl) rfl ?_
  refine op_wantedF (d := 12) rfl rfl ?_
  refine op_neq rfl rfl rfl ?_
  refine op_pickF rfl rfl rfl ?_
  refine op_move rfl rfl ?_
  refine op_cases (d := 19) rfl (fun hc => absurd (of_decide_eq_true hc) (by omega)) (fun hc => ?_)
  have hc := of_decide_eq_false hc
  refine op_wantedF (d := 19) rfl rfl ?_
  refine op_field (o' := 2) fa_33_2 rfl rfl rfl ?_
  refine op_wantedF (d := 19) rfl rfl ?_
  refine op_loadA (vs := [_, _]) Tryz.isAgg29 Tryz.sizeOf29 rfl (CellsAt.own (j := 2) (m := 2) (hS.at_ 1 rfl) rfl) rfl ?_
  refine op_wantedF (d := 19) rfl rfl ?_
  refine op_field (o' := 2) fa_33_2 rfl rfl rfl ?_
  refine op_wantedF (d := 19) rfl rfl ?_
  refine op_loadA (vs := [_, _]) Tryz.isAgg29 Tryz.sizeOf29 rfl (CellsAt.own (j := 2) (m := 2) (hS.at_ 0 rfl) rfl) rfl ?_
  refine op_wantedF (d := 19) rfl rfl ?_
  refine op_call (vs := [_, _]) hS goes_47 rfl (sameR_is _ _ _ _ 0 0 [] [] _ (by simp) (by simp) (.inl rfl) (.inl rfl) true rfl _ _ rfl rfl) rfl ?_
  rintro e W3 ⟨rfl, hb⟩
  refine ⟨_, rfl, hb, fun hS' => ?_⟩
  clear hS; have hS := hS'; clear hS' hb
  refine op_wantedF (d := 19) rfl rfl ?_
  refine op_not rfl rfl ?_
  refine op_pickF rfl rfl rfl ?_
  refine op_move rfl rfl ?_
  refine op_cases (d := 27) rfl (fun hc => absurd hc (by decide)) (fun hc => ?_)
  skip
  refine op_wantedF (d := 27) rfl rfl ?_
  refine op_field (o' := 4) fa_33_3 rfl rfl rfl ?_
  refine op_wantedF (d := 27) rfl rfl ?_
  refine op_load Tryz.isAgg30 rfl (cell_own (hS.at_ 1 rfl) rfl) rfl ?_
  refine op_wantedF (d := 27) rfl rfl ?_
  refine op_len Tryz.underlying30 rfl rfl ?_
  refine op_wantedF (d := 27) rfl rfl ?_
  refine op_field (o' := 4) fa_33_3 rfl rfl rfl ?_
  refine op_wantedF (d := 27) rfl rfl ?_
  refine op_load Tryz.isAgg30 rfl (cell_own (hS.at_ 0 rfl) rfl) rfl ?_
  refine op_wantedF (d := 27) rfl rfl ?_
  refine op_len Tryz.underlying30 rfl rfl ?_
  refine op_wantedF (d := 27) rfl rfl ?_
  refine op_neq rfl rfl rfl ?_
  refine op_pickF rfl rfl rfl ?_
  refine op_move rfl rfl ?_
  refine op_cases (d := 36) rfl (fun hc => absurd (of_decide_eq_true hc) (by omega)) (fun hc => ?_)
  have hc := of_decide_eq_false hc
  refine op_wantedF (d := 36) rfl rfl ?_
  refine op_field (o' := 5) fa_33_4 rfl rfl rfl ?_
  refine op_wantedF (d := 36) rfl rfl ?_
  refine op_load Tryz.isAgg31 rfl (cell_own (hS.at_ 1 rfl) rfl) rfl ?_
  refine op_wantedF (d := 36) rfl rfl ?_
  refine op_len Tryz.underlying31 rfl rfl ?_
  refine op_wantedF (d := 36) rfl rfl ?_
  refine op_field (o' := 5) fa_33_4 rfl rfl rfl ?_
  refine op_wantedF (d := 36) rfl rfl ?_
  refine op_load Tryz.isAgg31 rfl (cell_own (hS.at_ 0 rfl) rfl) rfl ?_
  refine op_wantedF (d := 36) rfl rfl ?_
  refine op_len Tryz.underlying31 rfl rfl ?_
  refine op_wantedF (d := 36) rfl rfl ?_
  refine op_neq rfl rfl rfl ?_
  refine op_pickF rfl rfl rfl ?_
  refine endF ?_
  refine XF.thenN ?_
  refine condF rfl (fun hc => absurd (of_decide_eq_true hc) (by omega)) (fun hc => ?_)
  have hc := of_decide_eq_false hc
  refine skipF ?_
  refine XF.thenN ?_
  refine seqF ?_
  refine seqF ?_
  refine regF ?_
  refine op_assign rfl rfl ?_
  refine endF ?_
  refine XF.thenN ?_
  refine blockF ?_
  refine loopF (fun q l W => l = [(2, .pointer (some ⟨B1, 0, none⟩)), (3, .pointer (some ⟨B2, 0, none⟩)), (5, .int .i64 0)] ∧ St w [(B2, [.bool false, .int .i64 0, .int .u64 0, .slice gra 0 grc, .slice gca 0 gcc, .slice (some ⟨gb, go, none⟩) 2 gpc], 33), (B1, [.bool false, .int .i64 0, .int .u64 0, .slice fra 0 frc, .slice fca 0 fcc, .slice (some ⟨fb, fo, none⟩) 2 fpc], 33)] [] [] W) (0) ([(2, _), (3, _), (5, _)]) ⟨rfl, rfl, rfl, trivial⟩ (⟨rfl, hS.clear⟩) ?_
  clear hS
  rintro q l W ⟨rfl, hS⟩
  refine seqF ?_
  refine seqF ?_
  refine regF ?_
  refine op_move rfl rfl ?_
  refine op_field (o' := 4) fa_33_3 rfl rfl rfl ?_
  refine op_load Tryz.isAgg30 rfl (cell_own (hS.at_ 1 rfl) rfl) rfl ?_
  refine op_len Tryz.underlying30 rfl rfl ?_
  refine op_lss rfl rfl rfl ?_
  refine endF ?_
  refine XF.thenN ?_
  refine condF rfl (fun hc => absurd (of_decide_eq_true hc) (by omega)) (fun hc => ?_)
  have hc := of_decide_eq_false hc
  refine exitF ?_
  refine XF.thenX ?_
  refine XF.thenX ?_
  refine XF.blkX ?_
  refine XF.thenN ?_
  refine seqF ?_
  refine seqF ?_
  refine regF ?_
  refine op_assign rfl rfl ?_
  refine endF ?_
  refine XF.thenN ?_
  refine blockF ?_
  refine loopF (fun q l W => (q = 2 ∧ l = [(2, .pointer (some ⟨B1, 0, none⟩)), (3, .pointer (some ⟨B2, 0, none⟩)), (6, .int .i64 0)] ∧ St w [(B2, [.bool false, .int .i64 0, .int .u64 0, .slice gra 0 grc, .slice gca 0 gcc, .slice (some ⟨gb, go, none⟩) 2 gpc], 33), (B1, [.bool false, .int .i64 0, .int .u64 0, .slice fra 0 frc, .slice fca 0 fcc, .slice (some ⟨fb, fo, none⟩) 2 fpc], 33)] [] [] W) ∨ (q = 1 ∧ l = [(2, .pointer (some ⟨B1, 0, none⟩)), (3, .pointer (some ⟨B2, 0, none⟩)), (6, .int .i64 1)] ∧ r1 = true ∧ St w [(B2, [.bool false, .int .i64 0, .int .u64 0, .slice gra 0 grc, .slice gca 0 gcc, .slice (some ⟨gb, go, none⟩) 2 gpc], 33), (B1, [.bool false, .int .i64 0, .int .u64 0, .slice fra 0 frc, .slice fca 0 fcc, .slice (some ⟨fb, fo, none⟩) 2 fpc], 33)] [] [] W) ∨ (q = 0 ∧ l = [(2, .pointer (some ⟨B1, 0, none⟩)), (3, .pointer (some ⟨B2, 0, none⟩)), (6, .int .i64 2)] ∧ r1 = true ∧ r2 = true ∧ St w [(B2, [.bool false, .int .i64 0, .int .u64 0, .slice gra 0 grc, .slice gca 0 gcc, .slice (some ⟨gb, go, none⟩) 2 gpc], 33), (B1, [.bool false, .int .i64 0, .int .u64 0, .slice fra 0 frc, .slice fca 0 fcc, .slice (some ⟨fb, fo, none⟩) 2 fpc], 33)] [] [] W)) (2) ([(2, _), (3, _), (6, _)]) ⟨rfl, rfl, rfl, trivial⟩ (.inl ⟨rfl, rfl, hS⟩) ?_
  clear hS
  rintro q l W (⟨rfl, rfl, hS⟩ | ⟨rfl, rfl, hq1, hS⟩ | ⟨rfl, rfl, hq1, hq2, hS⟩)
  · have k1 := CellsAt.agree hS.agree (Nat.zero_le _) hf6.cells
    have k2 := CellsAt.agree hS.agree (Nat.zero_le _) hg6.cells
    refine seqF ?_
    refine seqF ?_
    refine regF ?_
    refine op_move rfl rfl ?_
    refine op_field (o' := 5) fa_33_4 rfl rfl rfl ?_
    refine op_load Tryz.isAgg31 rfl (cell_own (hS.at_ 1 rfl) rfl) rfl ?_
    refine op_len Tryz.underlying31 rfl rfl ?_
    refine op_lss rfl rfl rfl ?_
    refine endF ?_
    refine XF.thenN ?_
    refine condF rfl (fun hc => ?_) (fun hc => absurd (of_decide_eq_false hc) (by omega))
    have hc := of_decide_eq_true hc
    refine skipF ?_
    refine XF.thenN ?_
    refine seqF ?_
    refine blockF ?_
    refine seqF ?_
    refine regB (m := 12) followsM hS (by kernel_rfl) (by kernel_rfl) rfl ?_
    refine bl_cons 1 rfl (isV _) (stab_isV _) (rgV (li := [(2, _)]) rfl (w_free rfl) ⟨g_fr (by kernel_rfl) rfl, trivial⟩ (fun w hw => rn_field (o' := 5) fa_33_4 rfl rfl) (at_top rfl)) ?_
    refine bl_cons 2 rfl (isV _) (stab_isV _) (rgV (li := [(70, _)]) rfl (w_free rfl) ⟨g_dep 0 (by kernel_rfl) (at_dep rfl rfl rfl), trivial⟩ (fun w hw => rn_load Tryz.isAgg31 rfl ((below_agree hw 0).cell (Nat.zero_le _) (cell_own (hS.at_ 1 rfl) rfl))) (at_top rfl)) ?_
    refine bl_cons 3 rfl (isV _) (stab_isV _) (rgV (li := [(6, _)]) rfl (w_free rfl) ⟨g_fr (by kernel_rfl) rfl, trivial⟩ (fun w hw => rn_move rfl) (at_top rfl)) ?_
    refine bl_cons 4 rfl (isV _) (stab_isV _) (rgV (li := [(71, _), (72, _)]) rfl (w_free rfl) ⟨g_dep 1 (by kernel_rfl) (at_dep rfl rfl rfl), g_dep 2 (by kernel_rfl) (at_dep rfl rfl rfl), trivial⟩ (fun w hw => rn_indexA (j := 0) Tryz.underlying31 Tryz.sizeOf33 rfl rfl rfl (by omega) (Nat.add_zero _)) (at_top rfl)) ?_
    refine bl_cons 5 rfl (isV _) (stab_isV _) (rgV (li := [(73, _)]) rfl (w_free rfl) ⟨g_dep 3 (by kernel_rfl) (at_dep rfl rfl rfl), trivial⟩ (fun w hw => rn_loadA (vs := [_, _, _, _, _, _]) Tryz.isAgg33 Tryz.sizeOf33 rfl (CellsAt.agree (below_agree hw 0) (Nat.zero_le _) (by assumption))) (at_top rfl)) ?_
    refine bl_cons 6 rfl (isV _) (stab_isV _) (rgV (li := [(3, _)]) rfl (w_free rfl) ⟨g_fr (by kernel_rfl) rfl, trivial⟩ (fun w hw => rn_field (o' := 5) fa_33_4 rfl rfl) (at_top rfl)) ?_
    refine bl_cons 7 rfl (isV _) (stab_isV _) (rgV (li := [(75, _)]) rfl (w_free rfl) ⟨g_dep 5 (by kernel_rfl) (at_dep rfl rfl rfl), trivial⟩ (fun w hw => rn_load Tryz.isAgg31 rfl ((below_agree hw 0).cell (Nat.zero_le _) (cell_own (hS.at_ 0 rfl) rfl))) (at_top rfl)) ?_
    refine bl_cons 8 rfl (isV _) (stab_isV _) (rgV (li := [(6, _)]) rfl (w_free rfl) ⟨g_fr (by kernel_rfl) rfl, trivial⟩ (fun w hw => rn_move rfl) (at_top rfl)) ?_
    refine bl_cons 9 rfl (isV _) (stab_isV _) (rgV (li := [(76, _), (77, _)]) rfl (w_free rfl) ⟨g_dep 6 (by kernel_rfl) (at_dep rfl rfl rfl), g_dep 7 (by kernel_rfl) (at_dep rfl rfl rfl), trivial⟩ (fun w hw => rn_indexA (j := 0) Tryz.underlying31 Tryz.sizeOf33 rfl rfl rfl (by omega) (Nat.add_zero _)) (at_top rfl)) ?_
    refine bl_cons 10 rfl (isV _) (stab_isV _) (rgV (li := [(78, _)]) rfl (w_free rfl) ⟨g_dep 8 (by kernel_rfl) (at_dep rfl rfl rfl), trivial⟩ (fun w hw => rn_loadA (vs := [_, _, _, _, _, _]) Tryz.isAgg33 Tryz.sizeOf33 rfl (CellsAt.agree (below_agree hw 0) (Nat.zero_le _) (by assumption))) (at_top rfl)) ?_
    refine bl_cons 11 rfl (isV (.bool r1)) (stab_isV _) (rg_call [isV _, isV _] rfl goes_22 (w_free rfl) ⟨p_tmp (g_dep 4 (by kernel_rfl) (at_dep rfl rfl rfl)), p_tmp (g_dep 9 (by kernel_rfl) (at_dep rfl rfl rfl)), trivial⟩ (fun vs w' hb hh => by have e := holds_isV (us := [_, _]) hh; subst e; exact (sameW_plain (hx1.below (hS.below.trans (hb.mono hS.below.size))) (hy1.below (hS.below.trans (hb.mono hS.below.size))) r1 hr1).mono fun e w2 h => ⟨.bool r1, h.1, rfl, h.2⟩) (at_top rfl)) ?_
    refine bl_cons 12 rfl (isV _) (stab_isV _) (rgV (li := [(80, _)]) rfl (w_free rfl) ⟨g_dep 10 (by kernel_rfl) (at_dep rfl rfl rfl), trivial⟩ (fun w hw => rn_not rfl) (at_top rfl)) ?_
    refine bl_nil ?_
    intro W4 hbR hS'
    clear hS; have hS := hS'; clear hS'
    refine fin_v ?_
    refine fin_v ?_
    refine fin_v ?_
    refine fin_v ?_
    refine fin_v ?_
    refine fin_v ?_
    refine fin_v ?_
    refine fin_v ?_
    refine fin_v ?_
    refine fin_v ?_
    refine fin_v ?_
    refine fin_v ?_
    refine fin_nil ?_
    refine XF.thenN ?_
    refine condF rfl (fun hc => ?_) (fun hc => ?_)
    · have hc81 := hc; clear hc
      refine seqF ?_
      refine regF ?_
      refine op_assign rfl rfl ?_
      refine endF ?_
      refine XF.thenN ?_
      refine retF ?_
      refine XF.blkR ?_
      refine XF.thenR ?_
      refine XF.thenR ?_
      refine XF.blkR ?_
      refine XF.thenR ?_
      refine XF.res (res1 Tryz.results22 rfl) ?_
      exact ⟨rbool (r_false hr (fun h => by rw [hr1.2 h.1] at hc81; cases hc81)), hS.below⟩
    · have hc81 := hc; clear hc
      refine skipF ?_
      refine XF.blkN ?_
      refine XF.thenN ?_
      refine regF ?_
      refine op_move rfl rfl ?_
      refine op_add rfl rfl (IntWalk.i64_in _ (by omega)) rfl ?_
      refine op_assign rfl rfl ?_
      refine endF ?_
      exact XF.round 1 [(2, _), (3, _), (6, _)] (by omega) ⟨rfl, rfl, rfl, trivial⟩ (.inr (.inl ⟨rfl, rfl, by simpa using hc81, hS.clear⟩))
  · have k1 := CellsAt.agree hS.agree (Nat.zero_le _) hf7.cells
    have k2 := CellsAt.agree hS.agree (Nat.zero_le _) hg7.cells
    refine seqF ?_
    refine seqF ?_
    refine regF ?_
    refine op_move rfl rfl ?_
    refine op_field (o' := 5) fa_33_4 rfl rfl rfl ?_
    refine op_load Tryz.isAgg31 rfl (cell_own (hS.at_ 1 rfl) rfl) rfl ?_
    refine op_len Tryz.underlying31 rfl rfl ?_
    refine op_lss rfl rfl rfl ?_
    refine endF ?_
    refine XF.thenN ?_
    refine condF rfl (fun hc => ?_) (fun hc => absurd (of_decide_eq_false hc) (by omega))
    have hc := of_decide_eq_true hc
    refine skipF ?_
    refine XF.thenN ?_
    refine seqF ?_
    refine blockF ?_
    refine seqF ?_
    refine regB (m := 12) followsM hS (by kernel_rfl) (by kernel_rfl) rfl ?_
    refine bl_cons 1 rfl (isV _) (stab_isV _) (rgV (li := [(2, _)]) rfl (w_free rfl) ⟨g_fr (by kernel_rfl) rfl, trivial⟩ (fun w hw => rn_field (o' := 5) fa_33_4 rfl rfl) (at_top rfl)) ?_
    refine bl_cons 2 rfl (isV _) (stab_isV _) (rgV (li := [(70, _)]) rfl (w_free rfl) ⟨g_dep 0 (by kernel_rfl) (at_dep rfl rfl rfl), trivial⟩ (fun w hw => rn_load Tryz.isAgg31 rfl ((below_agree hw 0).cell (Nat.zero_le _) (cell_own (hS.at_ 1 rfl) rfl))) (at_top rfl)) ?_
    refine bl_cons 3 rfl (isV _) (stab_isV _) (rgV (li := [(6, _)]) rfl (w_free rfl) ⟨g_fr (by kernel_rfl) rfl, trivial⟩ (fun w hw => rn_move rfl) (at_top rfl)) ?_
    refine bl_cons 4 rfl (isV _) (stab_isV _) (rgV (li := [(71, _), (72, _)]) rfl (w_free rfl) ⟨g_dep 1 (by kernel_rfl) (at_dep rfl rfl rfl), g_dep 2 (by kernel_rfl) (at_dep rfl rfl rfl), trivial⟩ (fun w hw => rn_indexA (j := 1) Tryz.underlying31 Tryz.sizeOf33 rfl rfl rfl (by omega) rfl) (at_top rfl)) ?_
    refine bl_cons 5 rfl (isV _) (stab_isV _) (rgV (li := [(73, _)]) rfl (w_free rfl) ⟨g_dep 3 (by kernel_rfl) (at_dep rfl rfl rfl), trivial⟩ (fun w hw => rn_loadA (vs := [_, _, _, _, _, _]) Tryz.isAgg33 Tryz.sizeOf33 rfl (CellsAt.agree (below_agree hw 0) (Nat.zero_le _) (by assumption))) (at_top rfl)) ?_
    refine bl_cons 6 rfl (isV _) (stab_isV _) (rgV (li := [(3, _)]) rfl (w_free rfl) ⟨g_fr (by kernel_rfl) rfl, trivial⟩ (fun w hw => rn_field (o' := 5) fa_33_4 rfl rfl) (at_top rfl)) ?_
    refine bl_cons 7 rfl (isV _) (stab_isV _) (rgV (li := [(75, _)]) rfl (w_free rfl) ⟨g_dep 5 (by kernel_rfl) (at_dep rfl rfl rfl), trivial⟩ (fun w hw => rn_load Tryz.isAgg31 rfl ((below_agree hw 0).cell (Nat.zero_le _) (cell_own (hS.at_ 0 rfl) rfl))) (at_top rfl)) ?_
    refine bl_cons 8 rfl (isV _) (stab_isV _) (rgV (li := [(6, _)]) rfl (w_free rfl) ⟨g_fr (by kernel_rfl) rfl, trivial⟩ (fun w hw => rn_move rfl) (at_top rfl)) ?_
    refine bl_cons 9 rfl (isV _) (stab_isV _) (rgV (li := [(76, _), (77, _)]) rfl (w_free rfl) ⟨g_dep 6 (by kernel_rfl) (at_dep rfl rfl rfl), g_dep 7 (by kernel_rfl) (at_dep rfl rfl rfl), trivial⟩ (fun w hw => rn_indexA (j := 1) Tryz.underlying31 Tryz.sizeOf33 rfl rfl rfl (by omega) rfl) (at_top rfl)) ?_
    refine bl_cons 10 rfl (isV _) (stab_isV _) (rgV (li := [(78, _)]) rfl (w_free rfl) ⟨g_dep 8 (by kernel_rfl) (at_dep rfl rfl rfl), trivial⟩ (fun w hw => rn_loadA (vs := [_, _, _, _, _, _]) Tryz.isAgg33 Tryz.sizeOf33 rfl (CellsAt.agree (below_agree hw 0) (Nat.zero_le _) (by assumption))) (at_top rfl)) ?_
    refine bl_cons 11 rfl (isV (.bool r2)) (stab_isV _) (rg_call [isV _, isV _] rfl goes_22 (w_free rfl) ⟨p_tmp (g_dep 4 (by kernel_rfl) (at_dep rfl rfl rfl)), p_tmp (g_dep 9 (by kernel_rfl) (at_dep rfl rfl rfl)), trivial⟩ (fun vs w' hb hh => by have e := holds_isV (us := [_, _]) hh; subst e; exact (sameW_plain (hx2.below (hS.below.trans (hb.mono hS.below.size))) (hy2.below (hS.below.trans (hb.mono hS.below.size))) r2 hr2).mono fun e w2 h => ⟨.bool r2, h.1, rfl, h.2⟩) (at_top rfl)) ?_
    refine bl_cons 12 rfl (isV _) (stab_isV _) (rgV (li := [(80, _)]) rfl (w_free rfl) ⟨g_dep 10 (by kernel_rfl) (at_dep rfl rfl rfl), trivial⟩ (fun w hw => rn_not rfl) (at_top rfl)) ?_
    refine bl_nil ?_
    intro W5 hbR hS'
    clear hS; have hS := hS'; clear hS'
    refine fin_v ?_
    refine fin_v ?_
    refine fin_v ?_
    refine fin_v ?_
    refine fin_v ?_
    refine fin_v ?_
    refine fin_v ?_
    refine fin_v ?_
    refine fin_v ?_
    refine fin_v ?_
    refine fin_v ?_
    refine fin_v ?_
    refine fin_nil ?_
    refine XF.thenN ?_
    refine condF rfl (fun hc => ?_) (fun hc => ?_)
    · have hc81 := hc; clear hc
      refine seqF ?_
      refine regF ?_
      refine op_assign rfl rfl ?_
      refine endF ?_
      refine XF.thenN ?_
      refine retF ?_
      refine XF.blkR ?_
      refine XF.thenR ?_
      refine XF.thenR ?_
      refine XF.blkR ?_
      refine XF.thenR ?_
      refine XF.res (res1 Tryz.results22 rfl) ?_
      exact ⟨rbool (r_false hr (fun h => by rw [hr2.2 h.2] at hc81; cases hc81)), hS.below⟩
    · have hc81 := hc; clear hc
      refine skipF ?_
      refine XF.blkN ?_
      refine XF.thenN ?_
      refine regF ?_
      refine op_move rfl rfl ?_
      refine op_add rfl rfl (IntWalk.i64_in _ (by omega)) rfl ?_
      refine op_assign rfl rfl ?_
      refine endF ?_
      exact XF.round 0 [(2, _), (3, _), (6, _)] (by omega) ⟨rfl, rfl, rfl, trivial⟩ (.inr (.inr ⟨rfl, rfl, hq1, by simpa using hc81, hS.clear⟩))
  · skip
    refine seqF ?_
    refine seqF ?_
    refine regF ?_
    refine op_move rfl rfl ?_
    refine op_field (o' := 5) fa_33_4 rfl rfl rfl ?_
    refine op_load Tryz.isAgg31 rfl (cell_own (hS.at_ 1 rfl) rfl) rfl ?_
    refine op_len Tryz.underlying31 rfl rfl ?_
    refine op_lss rfl rfl rfl ?_
    refine endF ?_
    refine XF.thenN ?_
    refine condF rfl (fun hc => absurd (of_decide_eq_true hc) (by omega)) (fun hc => ?_)
    have hc := of_decide_eq_false hc
    refine exitF ?_
    refine XF.thenX ?_
    refine XF.thenX ?_
    refine XF.blkX ?_
    refine XF.thenN ?_
    refine seqF ?_
    refine regF ?_
    refine op_assign rfl rfl ?_
    refine endF ?_
    refine XF.thenN ?_
    refine retF ?_
    refine XF.res (res1 Tryz.results22 rfl) ?_
    exact ⟨rbool (r_true hr ⟨hr1.1 hq1, hr2.1 hq2⟩), hS.below⟩

theorem sameW_is {w : World} {S : PS} {f g : WF} {x y : PX} (hx : XIs w S f x) (hy : XIs w S g y) (r : Bool) (hr : r = true ↔ x = y) : Calls Tryz.prog 22 #[f.val, g.val] w fun e w' => e = .returned (.bool r) ∧ Below w.heap.size w w' := by
  classical
  cases S <;> cases x <;> cases y <;> first | exact hx.elim | exact hy.elim | skip
  · exact sameW_plain hx hy r (by rw [hr]; simp)
  · obtain ⟨ra, ca, rc, cc, pc, fb, fo, f1, f2, rfl, h6, h7, h8, h9⟩ := hx.two
    obtain ⟨ra', ca', rc', cc', pc', gb, go, g1, g2, rfl, h6', h7', h8', h9'⟩ := hy.two
    exact sameW_two _ _ _ _ _ _ _ _ _ _ _ _ _ _ _ _ _ _ _ _ _ _ _ _ _ _ w h6 h7 h6' h7' h8 h9 h8' h9' r (decide _) (decide _) (by rw [hr]; simp) decide_eq_true_iff decide_eq_true_iff
end Go.Proofs.YtjcminoaiieckaaGreatDoor
namespace Go.Proofs.YtjcminoaiieckaaGreatDoor
open Go Go.RowKit
set_option linter.unusedVariables false
def textFive : ByteArray := ⟨#[123, 48, 125, 43, 45, 53]⟩
theorem itoa5 : (⟨(Lib.itoa (-5)).toArray⟩ : ByteArray) = ⟨#[45, 53]⟩ := by kernel_rfl
theorem five_is : textB 1 ++ (⟨#[43]⟩ ++ (⟨#[45, 53]⟩ : ByteArray)) = textFive := by kernel_rfl
theorem five_size : (textB 1).size + ((⟨#[43]⟩ : ByteArray) ++ (⟨#[45, 53]⟩ : ByteArray)).size ≤ 9223372036854775807 := Nat.le_of_ble_eq_true (by kernel_rfl)
theorem join_five : (⟨(Lib.join ([textFive].map (·.data.toList)) (ByteArray.mk #[59]).data.toList).toArray⟩ : ByteArray) = textFive := by kernel_rfl
theorem join_cells {w0 W : World} {O : Own} {G : Grows} {K : List (Nat × World)} {B : Nat} (hS : St w0 ((B, [.string textFive], 9) :: O) G K W) {j : Nat} {x : ByteArray} (hj : [textFive][j]? = some x) : W.cell? ⟨B, 0 + j, none⟩ = some (.string x) := by
  match j, hj with
  | 0, hj => simp at hj; subst hj; exact cell_own (hS.at_ 0 rfl) rfl
theorem frow1 {W : World} {B : Nat} {T : TypeId} {f : WF} (h : W.heap[B]? = some (.cells (List.toArray f.six) T (0, 0))) : FRow W (some ⟨B, 0, none⟩) [f] :=
  .inr ⟨B, 0, rfl, fun i g hi => by
    match i, hi with
    | 0, hi => simp at hi; subst hi; exact W6.of_cells (CellsAt.own (j := 0) (m := 6) h rfl)⟩
theorem frow2 {W : World} {B : Nat} {T : TypeId} {f g : WF} (h : W.heap[B]? = some (.cells (List.toArray (f.six ++ g.six)) T (0, 0))) : FRow W (some ⟨B, 0, none⟩) [f, g] :=
  .inr ⟨B, 0, rfl, fun i k hi => by
    match i, hi with
    | 0, hi => simp at hi; subst hi; exact W6.of_cells (CellsAt.own (j := 0) (m := 6) h rfl)
    | 1, hi => simp at hi; subst hi; exact W6.of_cells (CellsAt.own (j := 6) (m := 6) h rfl)⟩
theorem frow3 {W : World} {B : Nat} {T : TypeId} {f g k : WF} (h : W.heap[B]? = some (.cells (List.toArray (f.six ++ (g.six ++ k.six))) T (0, 0))) : FRow W (some ⟨B, 0, none⟩) [f, g, k] :=
  .inr ⟨B, 0, rfl, fun i u hi => by
    match i, hi with
    | 0, hi => simp at hi; subst hi; exact W6.of_cells (CellsAt.own (j := 0) (m := 6) h rfl)
    | 1, hi => simp at hi; subst hi; exact W6.of_cells (CellsAt.own (j := 6) (m := 6) h rfl)
    | 2, hi => simp at hi; subst hi; exact W6.of_cells (CellsAt.own (j := 12) (m := 6) h rfl)⟩
theorem xl_cons {w : World} {S : PS} {f : WF} {x : PX} {fs : List WF} {xs : List PX} (h : XIs w S f x) (hx : XL w S fs xs) : XL w S (f :: fs) (x :: xs) :=
  ⟨by simp [hx.1], fun i g y hg hy => by
    match i, hg, hy with
    | 0, hg, hy => simp at hg hy; subst hg; subst hy; exact h
    | i + 1, hg, hy => exact hx.2 i g y (by simpa using hg) (by simpa using hy)⟩
theorem xl_nil {w : World} {S : PS} : XL w S [] [] := ⟨rfl, fun i g y hg => by simp at hg⟩
theorem two_xl (w : World) : XL w (.one 2 5) [costF 2, costF 4] [.one (pC 2), .one (pC 4)] :=
  xl_cons (new_cost (n := 0) (.cost 2 rfl (by decide) (by decide))).is (xl_cons (new_cost (n := 0) (.cost 4 rfl (by decide) (by decide))).is xl_nil)
theorem five_val : Val 1 [⟨1, 1, -5⟩] := ⟨by decide, rfl, fun i c hi => by
  match i, hi with
  | 0, hi => simp at hi; subst hi; decide⟩
theorem five_xl {w : World} {b : Nat} (hc : CellsAt w b 0 [.int .u64 1, .int .i64 1, .int .i64 (-5)]) : XL w (.one 4 1) [cellsF (some ⟨b, 0, none⟩) 1 [⟨1, 1, -5⟩]] [.one (pX [⟨1, 1, -5⟩])] :=
  xl_cons (new_cells (n := 0) (.cells 1 _ rfl rfl five_val) five_val.bits (by decide) (.inr ⟨b, 0, rfl, fun i c hi => by
    match i, hi with
    | 0, hi => simp at hi; subst hi; exact ⟨hc.1, hc.2.1, hc.2.2.1⟩⟩) (fun ad e => Nat.zero_le _)).is xl_nil
theorem comb24 {w w' : World} {e : Ending} (h : WRet2 (.one 2 5) ([.one (pC 2), .one (pC 4)].foldl (combX (.one 2 5)) (zeroX (.one 2 5))) 0 w e w') : ∃ f : WF, e = .returned (.tuple #[f.val, .int .i64 0]) ∧ f.c = 2 ∧ Below w.heap.size w w' := by
  obtain ⟨f, he, hn, hb⟩ := h
  refine ⟨f, he, ?_, hb⟩
  have h1 : PNew w.heap.size w' 2 5 f (combP 2 5 (combP 2 5 zeroP (pC 2)) (pC 4)) := hn
  have := (pf_inj h1.is.pf).2.1
  rw [this]; decide
theorem ext24 {w w' : World} {e : Ending} (h : WRet2 (.one 2 5) ([.one (pC 4)].foldl (extX (.one 2 5)) (.one (pC 2))) 0 w e w') : ∃ f : WF, e = .returned (.tuple #[f.val, .int .i64 0]) ∧ f.c = 5 ∧ Below w.heap.size w w' := by
  obtain ⟨f, he, hn, hb⟩ := h
  refine ⟨f, he, ?_, hb⟩
  have h1 : PNew w.heap.size w' 2 5 f (extP 2 5 (pC 2) (pC 4)) := hn
  have := (pf_inj h1.is.pf).2.1
  rw [this]; decide

set_option maxRecDepth 100000 in
set_option maxHeartbeats 4000000 in
theorem cellText_five (w : World) (ht : Tabs w) :
    Calls Tryz.prog 127 #[.agg #[.int .u64 1, .int .i64 1, .int .i64 (-5)]] w (fun e w' => e = .returned (.string textFive) ∧ Below w.heap.size w w') := by
  refine enterF (args := [.agg #[.int .u64 1, .int .i64 1, .int .i64 (-5)]]) Tryz.func127 rfl Tryz.ntmps127 rfl ?_
  have hS := St.start w
  refine seqF ?_
  refine regF ?_
  refine op_box (cs := [_, _, _]) hS rfl rfl rfl ?_
  clear hS; intro B1 W1 hS
  refine op_assign rfl rfl ?_
  refine endF ?_
  refine XF.thenN ?_
  refine seqF ?_
  refine regF ?_
  refine op_field (o' := 0) fa_73_0 rfl rfl rfl ?_
  refine op_load Tryz.isAgg26 rfl (cell_own (hS.at_ 0 rfl) rfl) rfl ?_
  refine op_call (vs := [_]) hS goes_125 rfl (textA_any 1 (by omega) _ (ht.below hS.below)) rfl ?_
  rintro e W2 ⟨rfl, hb⟩
  refine ⟨_, rfl, hb, fun hS' => ?_⟩
  clear hS; have hS := hS'; clear hS' hb
  refine op_assign rfl rfl ?_
  refine endF ?_
  refine XF.thenN ?_
  refine seqF ?_
  refine seqF ?_
  refine regF ?_
  refine op_field (o' := 1) fa_73_1 rfl rfl rfl ?_
  refine op_load Tryz.isAgg71 rfl (cell_own (hS.at_ 0 rfl) rfl) rfl ?_
  refine endF ?_
  refine XF.thenN ?_
  refine blockF ?_
  refine seqF ?_
  refine regF ?_
  refine op_eql rfl rfl rfl ?_
  refine op_assign rfl rfl ?_
  refine endF ?_
  refine XF.thenN ?_
  refine condF rfl (fun hc => ?_) (fun hc => absurd (of_decide_eq_false hc) (by omega))
  have hc := of_decide_eq_true hc
  refine regF ?_
  refine op_move rfl rfl ?_
  refine op_field (o' := 2) fa_73_2 rfl rfl rfl ?_
  refine op_load Tryz.isAgg2 rfl (cell_own (hS.at_ 0 rfl) rfl) rfl ?_
  refine op_call (vs := [_, _]) hS goes_93 rfl (formatInt_calls (-5) (by omega) (by omega) _ (ht.below hS.below)) rfl ?_
  rintro e W3 ⟨rfl, hb⟩
  refine ⟨_, rfl, hb, fun hS' => ?_⟩
  clear hS; have hS := hS'; clear hS' hb
  refine op_addS rfl rfl (by rw [itoa5]; decide) rfl ?_
  refine op_addS rfl rfl (by rw [itoa5]; exact five_size) rfl ?_
  refine op_assign rfl rfl ?_
  refine endF ?_
  refine XF.blkN ?_
  refine XF.thenN ?_
  refine seqF ?_
  refine regF ?_
  refine op_move rfl rfl ?_
  refine op_assign rfl rfl ?_
  refine endF ?_
  refine XF.thenN ?_
  refine retF ?_
  refine XF.res (res1 Tryz.results127 rfl) ?_
  exact ⟨by rw [itoa5]; exact congrArg (fun z => Ending.returned (.string z)) five_is, hS.below⟩

set_option maxRecDepth 100000 in
set_option maxHeartbeats 4000000 in
theorem cellsText_five (b : Nat) (w : World) (hcl : CellsAt w b 0 [.int .u64 1, .int .i64 1, .int .i64 (-5)]) (ht : Tabs w) :
    Calls Tryz.prog 91 #[.slice (some ⟨b, 0, none⟩) 1 1] w (fun e w' => e = .returned (.string textFive) ∧ Below w.heap.size w w') := by
  refine enterF (args := [.slice (some ⟨b, 0, none⟩) 1 1]) Tryz.func91 rfl Tryz.ntmps91 rfl ?_
  have hS := St.start w
  refine seqF ?_
  refine regF ?_
  refine op_assign rfl rfl ?_
  refine endF ?_
  refine XF.thenN ?_
  refine seqF ?_
  refine seqF ?_
  refine regF ?_
  refine op_move rfl rfl ?_
  refine op_len Tryz.underlying30 rfl rfl ?_
  refine op_eql rfl rfl rfl ?_
  refine endF ?_
  refine XF.thenN ?_
  refine condF rfl (fun hc => absurd (of_decide_eq_true hc) (by omega)) (fun hc => ?_)
  have hc := of_decide_eq_false hc
  refine skipF ?_
  refine XF.thenN ?_
  refine seqF ?_
  refine regF ?_
  refine op_move rfl rfl ?_
  refine op_len Tryz.underlying30 rfl rfl ?_
  refine op_make (m := 1) (cs := [.string ⟨#[]⟩]) hS Tryz.underlying128 inf_9 rfl rfl rfl (rfl) (rfl) (by kernel_rfl) (by show (16 : Int) * _ ≤ _; omega) (by omega) rfl ?_
  clear hS; intro B1 W1 hS
  refine op_assign rfl rfl ?_
  refine endF ?_
  refine XF.thenN ?_
  refine seqF ?_
  refine seqF ?_
  refine regF ?_
  refine op_move rfl rfl ?_
  refine op_len Tryz.underlying30 rfl rfl ?_
  refine op_move rfl rfl ?_
  refine endF ?_
  refine XF.thenN ?_
  refine blockF ?_
  refine loopF (fun q l W => (q = 1 ∧ l = [(3, .slice (some ⟨B1, 0, none⟩) 1 1), (12, .slice (some ⟨b, 0, none⟩) 1 1), (13, .int .i64 1), (14, .int .i64 0)] ∧ St w [(B1, [.string ⟨#[]⟩], 9)] [] [] W) ∨ (q = 0 ∧ l = [(3, .slice (some ⟨B1, 0, none⟩) 1 1), (12, .slice (some ⟨b, 0, none⟩) 1 1), (13, .int .i64 1), (14, .int .i64 1)] ∧ St w [(B1, [.string textFive], 9)] [] [] W)) (1) ([(3, _), (12, _), (13, _), (14, _)]) ⟨rfl, rfl, rfl, rfl, trivial⟩ (.inl ⟨rfl, rfl, hS⟩) ?_
  clear hS
  rintro q l W (⟨rfl, rfl, hS⟩ | ⟨rfl, rfl, hS⟩)
  · have k1 := CellsAt.agree hS.agree (Nat.zero_le _) hcl
    refine seqF ?_
    refine regF ?_
    refine op_lss rfl rfl rfl ?_
    refine endF ?_
    refine XF.thenN ?_
    refine seqF ?_
    refine condF rfl (fun hc => ?_) (fun hc => absurd (of_decide_eq_false hc) (by omega))
    have hc := of_decide_eq_true hc
    refine skipF ?_
    refine XF.thenN ?_
    refine seqF ?_
    refine blockF ?_
    refine seqF ?_
    refine regF ?_
    refine op_move rfl rfl ?_
    refine op_indexA (j := 0) Tryz.underlying30 Tryz.sizeOf73 rfl rfl rfl (by omega) (Nat.add_zero _) rfl ?_
    refine op_loadA (vs := [_, _, _]) Tryz.isAgg73 Tryz.sizeOf73 rfl (by assumption) rfl ?_
    refine op_alloc (cs := [_, _, _]) hS Tryz.zeroValue73 rfl rfl ?_
    clear hS; intro B2 W2 hS
    refine op_assign rfl rfl ?_
    refine op_storeA (i := 0) (vs := [_, _, _]) (cs' := [_, _, _]) (O' := [_, _]) hS Tryz.sizeOf73 rfl rfl rfl rfl rfl rfl rfl ?_
    clear hS; intro W3 hS
    refine endF ?_
    refine XF.thenN ?_
    refine regF ?_
    refine op_move rfl rfl ?_
    refine op_move rfl rfl ?_
    refine op_loadA (vs := [_, _, _]) Tryz.isAgg73 Tryz.sizeOf73 rfl (CellsAt.own (j := 0) (m := 3) (hS.at_ 0 rfl) rfl) rfl ?_
    refine op_call (vs := [_]) hS goes_127 rfl (cellText_five _ (ht.below hS.below)) rfl ?_
    rintro e W4 ⟨rfl, hb⟩
    refine ⟨_, rfl, hb, fun hS' => ?_⟩
    clear hS; have hS := hS'; clear hS' hb
    refine op_indexA (j := 0) (o' := 0) Tryz.underlying128 Tryz.sizeOf9 rfl rfl rfl (by omega) rfl rfl ?_
    refine op_store (i := 1) (cs' := [_]) (O' := [_, _]) hS Tryz.sizeOf9 rfl rfl rfl rfl rfl rfl rfl ?_
    clear hS; intro W5 hS
    refine endF ?_
    refine XF.blkN ?_
    refine XF.thenN ?_
    refine regF ?_
    refine op_add rfl rfl (IntWalk.i64_in _ (by omega)) rfl ?_
    refine op_move rfl rfl ?_
    refine endF ?_
    exact XF.round 0 [(3, _), (12, _), (13, _), (14, _)] (by omega) ⟨rfl, rfl, rfl, rfl, trivial⟩ (.inr ⟨rfl, rfl, hS.tail.clear⟩)
  · skip
    refine seqF ?_
    refine regF ?_
    refine op_lss rfl rfl rfl ?_
    refine endF ?_
    refine XF.thenN ?_
    refine seqF ?_
    refine condF rfl (fun hc => absurd (of_decide_eq_true hc) (by omega)) (fun hc => ?_)
    have hc := of_decide_eq_false hc
    refine exitF ?_
    refine XF.thenX ?_
    refine XF.thenX ?_
    refine XF.blkX ?_
    refine XF.thenN ?_
    refine seqF ?_
    refine regF ?_
    refine op_move rfl rfl ?_
    refine op_call (vs := [_, _]) hS goes_126 rfl (Tryz.strings_Join _ 0 1 [textFive] ⟨#[59]⟩ _ (fun j x hj => join_cells hS hj) (lt_of_heap (hS.at_ 0 rfl)) (by decide) (by decide) (by decide)) rfl ?_
    rintro e W6 ⟨rfl, hb⟩
    refine ⟨_, rfl, hb, fun hS' => ?_⟩
    clear hS; have hS := hS'; clear hS' hb
    refine op_assign rfl rfl ?_
    refine endF ?_
    refine XF.thenN ?_
    refine retF ?_
    refine XF.res (res1 Tryz.results91 rfl) ?_
    exact ⟨by rw [join_five], hS.below⟩

set_option maxRecDepth 100000 in
set_option maxHeartbeats 4000000 in
theorem text_five (b : Nat) (w : World) (hcl : CellsAt w b 0 [.int .u64 1, .int .i64 1, .int .i64 (-5)]) (ht : Tabs w) :
    Calls Tryz.prog 58 #[.agg #[.int .i64 4, .int .i64 1, .slice none 0 0], .agg #[.bool false, .int .i64 0, .int .u64 0, .slice none 0 0, .slice (some ⟨b, 0, none⟩) 1 1, .slice none 0 0]] w (fun e w' => e = .returned (.string textFive) ∧ Below w.heap.size w w') := by
  refine enterF (args := [.agg #[.int .i64 4, .int .i64 1, .slice none 0 0], .agg #[.bool false, .int .i64 0, .int .u64 0, .slice none 0 0, .slice (some ⟨b, 0, none⟩) 1 1, .slice none 0 0]]) Tryz.func58 rfl Tryz.ntmps58 rfl ?_
  have hS := St.start w
  refine seqF ?_
  refine regF ?_
  refine op_box (cs := [_, _, _]) hS rfl rfl rfl ?_
  clear hS; intro B1 W1 hS
  refine op_box (cs := [_, _, _, _, _, _]) hS rfl rfl rfl ?_
  clear hS; intro B2 W2 hS
  refine op_assign rfl rfl ?_
  refine endF ?_
  refine XF.thenN ?_
  refine seqF ?_
  refine seqF ?_
  refine regF ?_
  refine op_field (o' := 0) fa_33_0 rfl rfl rfl ?_
  refine op_load Tryz.isAgg4 rfl (cell_own (hS.at_ 0 rfl) rfl) rfl ?_
  refine endF ?_
  refine XF.thenN ?_
  refine condF rfl (fun hc => absurd hc (by decide)) (fun hc => ?_)
  skip
  refine skipF ?_
  refine XF.thenN ?_
  refine seqF ?_
  refine seqF ?_
  refine regF ?_
  refine op_field (o' := 0) fa_25_0 rfl rfl rfl ?_
  refine op_load Tryz.isAgg22 rfl (cell_own (hS.at_ 1 rfl) rfl) rfl ?_
  refine endF ?_
  refine XF.thenN ?_
  refine blockF ?_
  refine seqF ?_
  refine regF ?_
  refine op_eql rfl rfl rfl ?_
  refine op_assign rfl rfl ?_
  refine endF ?_
  refine XF.thenN ?_
  refine condF rfl (fun hc => absurd (of_decide_eq_true hc) (by omega)) (fun hc => ?_)
  have hc := of_decide_eq_false hc
  refine seqF ?_
  refine regF ?_
  refine op_eql rfl rfl rfl ?_
  refine op_assign rfl rfl ?_
  refine endF ?_
  refine XF.thenN ?_
  refine condF rfl (fun hc => absurd (of_decide_eq_true hc) (by omega)) (fun hc => ?_)
  have hc := of_decide_eq_false hc
  refine seqF ?_
  refine regF ?_
  refine op_eql rfl rfl rfl ?_
  refine op_assign rfl rfl ?_
  refine endF ?_
  refine XF.thenN ?_
  refine condF rfl (fun hc => ?_) (fun hc => absurd (of_decide_eq_false hc) (by omega))
  have hc := of_decide_eq_true hc
  refine seqF ?_
  refine regF ?_
  refine op_field (o' := 4) fa_33_3 rfl rfl rfl ?_
  refine op_load Tryz.isAgg30 rfl (cell_own (hS.at_ 0 rfl) rfl) rfl ?_
  refine op_call (vs := [_]) hS goes_91 rfl (cellsText_five b _ (CellsAt.agree hS.agree (Nat.zero_le _) hcl) (ht.below hS.below)) rfl ?_
  rintro e W3 ⟨rfl, hb⟩
  refine ⟨_, rfl, hb, fun hS' => ?_⟩
  clear hS; have hS := hS'; clear hS' hb
  refine op_assign rfl rfl ?_
  refine endF ?_
  refine XF.thenN ?_
  refine retF ?_
  refine XF.blkR ?_
  refine XF.thenR ?_
  refine XF.res (res1 Tryz.results58 rfl) ?_
  exact ⟨rfl, hS.below⟩

set_option maxRecDepth 100000 in
set_option maxHeartbeats 4000000 in
theorem Text_five (b : Nat) (w : World) (hcl : CellsAt w b 0 [.int .u64 1, .int .i64 1, .int .i64 (-5)]) (ht : Tabs w) :
    Calls Tryz.prog 33 #[.agg #[.int .i64 4, .int .i64 1, .slice none 0 0], .agg #[.bool false, .int .i64 0, .int .u64 0, .slice none 0 0, .slice (some ⟨b, 0, none⟩) 1 1, .slice none 0 0]] w (fun e w' => e = .returned (.tuple #[.string textFive, .int .i64 0]) ∧ Below w.heap.size w w') := by
  refine enterF (args := [.agg #[.int .i64 4, .int .i64 1, .slice none 0 0], .agg #[.bool false, .int .i64 0, .int .u64 0, .slice none 0 0, .slice (some ⟨b, 0, none⟩) 1 1, .slice none 0 0]]) Tryz.func33 rfl Tryz.ntmps33 rfl ?_
  have hS := St.start w
  refine seqF ?_
  refine regF ?_
  refine op_box (cs := [_, _, _]) hS rfl rfl rfl ?_
  clear hS; intro B1 W1 hS
  refine op_box (cs := [_, _, _, _, _, _]) hS rfl rfl rfl ?_
  clear hS; intro B2 W2 hS
  refine op_assign rfl rfl ?_
  refine op_assign rfl rfl ?_
  refine endF ?_
  refine XF.thenN ?_
  refine seqF ?_
  refine seqF ?_
  refine regF ?_
  refine op_loadA (vs := [_, _, _]) Tryz.isAgg25 Tryz.sizeOf25 rfl (CellsAt.own (j := 0) (m := 3) (hS.at_ 1 rfl) rfl) rfl ?_
  refine op_loadA (vs := [_, _, _, _, _, _]) Tryz.isAgg33 Tryz.sizeOf33 rfl (CellsAt.own (j := 0) (m := 6) (hS.at_ 0 rfl) rfl) rfl ?_
  refine op_buildSlice (us := [(0, .agg (List.toArray [_, _, _, _, _, _]))]) hS Tryz.underlying31 Tryz.sizeOf33 Tryz.zeroValue33 rfl rfl rfl (bs_31_1 _ _ _ _ _ _) rfl ?_
  clear hS; intro B3 W3 hS
  refine op_call (vs := [_, _]) hS goes_45 rfl (checkAllW_ok (.one 4 1) ⟨4, 1, none, 0, 0⟩ _ ⟨_, _, rfl⟩ (by show plainB 4 1 0 = true; decide) _ 1 1 [cellsF (some ⟨b, 0, none⟩) 1 [⟨1, 1, -5⟩]] [.one (pX [⟨1, 1, -5⟩])] (frow1 (hS.at_ 0 rfl)) (five_xl (CellsAt.agree hS.agree (Nat.zero_le _) hcl)) rfl (by decide)) rfl ?_
  rintro e W4 ⟨rfl, hb⟩
  refine ⟨_, rfl, hb, fun hS' => ?_⟩
  clear hS; have hS := hS'; clear hS' hb
  refine op_assign rfl rfl ?_
  refine endF ?_
  refine XF.thenN ?_
  refine seqF ?_
  refine regF ?_
  refine op_move rfl rfl ?_
  refine op_neq rfl rfl rfl ?_
  refine endF ?_
  refine XF.thenN ?_
  refine condF rfl (fun hc => absurd (of_decide_eq_true hc) (by omega)) (fun hc => ?_)
  have hc := of_decide_eq_false hc
  refine skipF ?_
  refine XF.thenN ?_
  refine seqF ?_
  refine regF ?_
  refine op_loadA (vs := [_, _, _]) Tryz.isAgg25 Tryz.sizeOf25 rfl (CellsAt.own (j := 0) (m := 3) (hS.at_ 2 rfl) rfl) rfl ?_
  refine op_loadA (vs := [_, _, _, _, _, _]) Tryz.isAgg33 Tryz.sizeOf33 rfl (CellsAt.own (j := 0) (m := 6) (hS.at_ 1 rfl) rfl) rfl ?_
  refine op_call (vs := [_, _]) hS goes_58 rfl (text_five b _ (CellsAt.agree hS.agree (Nat.zero_le _) hcl) (ht.below hS.below)) rfl ?_
  rintro e W5 ⟨rfl, hb⟩
  refine ⟨_, rfl, hb, fun hS' => ?_⟩
  clear hS; have hS := hS'; clear hS' hb
  refine op_assign rfl rfl ?_
  refine op_assign rfl rfl ?_
  refine endF ?_
  refine XF.thenN ?_
  refine retF ?_
  refine XF.res (res2 Tryz.results33 rfl rfl) ?_
  exact ⟨rfl, hS.below⟩

set_option maxRecDepth 100000 in
set_option maxHeartbeats 4000000 in
theorem aliveW_is (w : World) (ht : Tabs w) :
    Calls Tryz.prog 11 #[] w (fun e w' => e = .returned (.bool true) ∧ Below w.heap.size w w') := by
  refine enterF (args := []) Tryz.func11 rfl Tryz.ntmps11 rfl ?_
  have hS := St.start w
  refine seqF ?_
  refine regF ?_
  refine op_assign rfl rfl ?_
  refine endF ?_
  refine XF.thenN ?_
  refine seqF ?_
  refine regF ?_
  refine op_build (us := [(0, .int .i64 _), (1, .int .i64 _)]) rfl (bld_25_0_1 _ _) rfl ?_
  refine op_alloc (cs := [_, _, _]) hS Tryz.zeroValue25 rfl rfl ?_
  clear hS; intro B1 W1 hS
  refine op_storeA (i := 0) (vs := [_, _, _]) (cs' := [_, _, _]) (O' := [_]) hS Tryz.sizeOf25 rfl rfl rfl rfl rfl rfl rfl ?_
  clear hS; intro W2 hS
  refine endF ?_
  refine XF.thenN ?_
  refine seqF ?_
  refine regF ?_
  refine op_loadA (vs := [_, _, _]) Tryz.isAgg25 Tryz.sizeOf25 rfl (CellsAt.own (j := 0) (m := 3) (hS.at_ 0 rfl) rfl) rfl ?_
  refine op_build (us := [(1, .int .i64 _)]) rfl (bld_33_1 _) rfl ?_
  refine op_build (us := [(1, .int .i64 _)]) rfl (bld_33_1 _) rfl ?_
  refine op_buildSlice (us := [(0, .agg (List.toArray [_, _, _, _, _, _])), (1, .agg (List.toArray [_, _, _, _, _, _]))]) hS Tryz.underlying31 Tryz.sizeOf33 Tryz.zeroValue33 rfl rfl rfl (bs_31_2 _ _ _ _ _ _ _ _ _ _ _ _) rfl ?_
  clear hS; intro B3 W3 hS
  refine op_call (vs := [_, _]) hS goes_27 rfl ((CombineW_ok (.one 2 5) ⟨2, 5, none, 0, 0⟩ _ ⟨_, _, rfl⟩ (by show plainB 2 5 0 = true; decide) _ 2 2 [costF 2, costF 4] [.one (pC 2), .one (pC 4)] (frow2 (hS.at_ 0 rfl)) (two_xl _) rfl (by decide) (ht.below hS.below)).mono fun e w2 h => comb24 h) rfl ?_
  rintro e W4 ⟨f, rfl, hfc, hb⟩
  refine ⟨_, rfl, hb, fun hS' => ?_⟩
  clear hS; have hS := hS'; clear hS' hb
  refine op_move rfl rfl ?_
  refine op_extract rfl rfl rfl ?_
  refine op_extract rfl rfl rfl ?_
  refine op_alloc (cs := [_, _, _, _, _, _]) hS Tryz.zeroValue33 rfl rfl ?_
  clear hS; intro B5 W5 hS
  refine op_storeA (i := 0) (vs := [_, _, _, _, _, _]) (cs' := [_, _, _, _, _, _]) (O' := [_, _, _]) hS Tryz.sizeOf33 rfl rfl rfl rfl rfl rfl rfl ?_
  clear hS; intro W6 hS
  refine op_assign rfl rfl ?_
  refine endF ?_
  refine XF.thenN ?_
  refine seqF ?_
  refine regF ?_
  refine op_loadA (vs := [_, _, _]) Tryz.isAgg25 Tryz.sizeOf25 rfl (CellsAt.own (j := 0) (m := 3) (hS.at_ 2 rfl) rfl) rfl ?_
  refine op_build (us := [(1, .int .i64 _)]) rfl (bld_33_1 _) rfl ?_
  refine op_build (us := [(1, .int .i64 _)]) rfl (bld_33_1 _) rfl ?_
  refine op_buildSlice (us := [(0, .agg (List.toArray [_, _, _, _, _, _])), (1, .agg (List.toArray [_, _, _, _, _, _]))]) hS Tryz.underlying31 Tryz.sizeOf33 Tryz.zeroValue33 rfl rfl rfl (bs_31_2 _ _ _ _ _ _ _ _ _ _ _ _) rfl ?_
  clear hS; intro B7 W7 hS
  refine op_call (vs := [_, _]) hS goes_29 rfl ((ExtendW_ok (.one 2 5) ⟨2, 5, none, 0, 0⟩ _ ⟨_, _, rfl⟩ (by show plainB 2 5 0 = true; decide) _ 2 2 (costF 2) (.one (pC 2)) [costF 4] [.one (pC 4)] (frow2 (hS.at_ 0 rfl)) (two_xl _) rfl (by decide) (by decide) (ht.below hS.below)).mono fun e w2 h => ext24 h) rfl ?_
  rintro e W8 ⟨f2, rfl, hf2c, hb⟩
  refine ⟨_, rfl, hb, fun hS' => ?_⟩
  clear hS; have hS := hS'; clear hS' hb
  refine op_move rfl rfl ?_
  refine op_extract rfl rfl rfl ?_
  refine op_extract rfl rfl rfl ?_
  refine op_alloc (cs := [_, _, _, _, _, _]) hS Tryz.zeroValue33 rfl rfl ?_
  clear hS; intro B9 W9 hS
  refine op_storeA (i := 0) (vs := [_, _, _, _, _, _]) (cs' := [_, _, _, _, _, _]) (O' := [_, _, _, _, _]) hS Tryz.sizeOf33 rfl rfl rfl rfl rfl rfl rfl ?_
  clear hS; intro W10 hS
  refine op_assign rfl rfl ?_
  refine endF ?_
  refine XF.thenN ?_
  refine seqF ?_
  refine regF ?_
  refine op_build (us := [(0, .int .i64 _), (1, .int .i64 _)]) rfl (bld_25_0_1 _ _) rfl ?_
  refine op_build (us := [(0, .int .u64 _), (1, .int .i64 _), (2, .int .i64 _)]) rfl (bld_73_0_1_2 _ _ _) rfl ?_
  refine op_buildSlice (us := [(0, .agg (List.toArray [_, _, _]))]) hS Tryz.underlying30 Tryz.sizeOf73 Tryz.zeroValue73 rfl rfl rfl (bs_30_1 _ _ _) rfl ?_
  clear hS; intro B11 W11 hS
  refine op_build (us := [(3, .slice _ _ _)]) rfl (bld_33_3 _ _ _) rfl ?_
  refine op_call (vs := [_, _]) hS goes_33 rfl (Text_five _ _ (CellsAt.own (j := 0) (m := 3) (hS.at_ 0 rfl) rfl) (ht.below hS.below)) rfl ?_
  rintro e W12 ⟨rfl, hb⟩
  refine ⟨_, rfl, hb, fun hS' => ?_⟩
  clear hS; have hS := hS'; clear hS' hb
  refine op_move rfl rfl ?_
  refine op_extract rfl rfl rfl ?_
  refine op_extract rfl rfl rfl ?_
  refine op_assign rfl rfl ?_
  refine op_assign rfl rfl ?_
  refine endF ?_
  refine XF.thenN ?_
  refine seqF ?_
  refine regF ?_
  refine op_move rfl rfl ?_
  refine op_eql rfl rfl rfl ?_
  refine op_move rfl rfl ?_
  refine op_cases (d := 35) rfl (fun hc => ?_) (fun hc => absurd (of_decide_eq_false hc) (by omega))
  have hc := of_decide_eq_true hc
  refine op_wantedF (d := 35) rfl rfl ?_
  refine op_move rfl rfl ?_
  refine op_wantedF (d := 35) rfl rfl ?_
  refine op_eql rfl rfl rfl ?_
  refine op_pickT rfl rfl rfl ?_
  refine op_move rfl rfl ?_
  refine op_cases (d := 39) rfl (fun hc => ?_) (fun hc => absurd (of_decide_eq_false hc) (by omega))
  have hc := of_decide_eq_true hc
  refine op_wantedF (d := 39) rfl rfl ?_
  refine op_move rfl rfl ?_
  refine op_wantedF (d := 39) rfl rfl ?_
  refine op_eql rfl rfl rfl ?_
  refine op_pickT rfl rfl rfl ?_
  refine op_move rfl rfl ?_
  refine op_cases (d := 43) rfl (fun hc => ?_) (fun hc => absurd (of_decide_eq_false hc) (by omega))
  have hc := of_decide_eq_true hc
  refine op_wantedF (d := 43) rfl rfl ?_
  refine op_field (o' := 1) fa_33_1 rfl rfl rfl ?_
  refine op_wantedF (d := 43) rfl rfl ?_
  refine op_load Tryz.isAgg3 rfl (cell_own (hS.at_ 3 rfl) rfl) rfl ?_
  refine op_wantedF (d := 43) rfl rfl ?_
  refine op_eql rfl rfl rfl ?_
  refine op_pickT rfl rfl rfl ?_
  refine op_move rfl rfl ?_
  refine op_cases (d := 48) rfl (fun hc => ?_) (fun hc => absurd (of_decide_eq_false hc) (by omega))
  have hc := of_decide_eq_true hc
  refine op_wantedF (d := 48) rfl rfl ?_
  refine op_field (o' := 1) fa_33_1 rfl rfl rfl ?_
  refine op_wantedF (d := 48) rfl rfl ?_
  refine op_load Tryz.isAgg3 rfl (cell_own (hS.at_ 1 rfl) rfl) rfl ?_
  refine op_wantedF (d := 48) rfl rfl ?_
  refine op_eql rfl rfl rfl ?_
  refine op_pickT rfl rfl rfl ?_
  refine op_move rfl rfl ?_
  refine op_cases (d := 53) rfl (fun hc => ?_) (fun hc => absurd (of_decide_eq_false hc) (by omega))
  have hc := of_decide_eq_true hc
  refine op_wantedF (d := 53) rfl rfl ?_
  refine op_move rfl rfl ?_
  refine op_wantedF (d := 53) rfl rfl ?_
  refine op_binG rfl rfl rfl (run_eqlS_same _ _ _) rfl ?_
  refine op_pickT rfl rfl rfl ?_
  refine op_assign rfl rfl ?_
  refine endF ?_
  refine XF.thenN ?_
  refine retF ?_
  refine XF.res (res1 Tryz.results11 rfl) ?_
  exact ⟨rfl, hS.below⟩
end Go.Proofs.YtjcminoaiieckaaGreatDoor
namespace Go.Proofs.YtjcminoaiieckaaGreatDoor
open Go Go.RowKit
set_option linter.unusedVariables false
theorem smN_100 {w : World} {e : Nat} {x : WV} (hx : WIn w e x) (h : smN 4 x = true) : x.f.rl ≤ 100 ∧ ∀ p ∈ x.ps, p.f.rl ≤ 100 := by
  obtain ⟨f, ps⟩ := x
  simp only [smN, Bool.and_eq_true, decide_eq_true_eq, List.all_eq_true] at h
  refine ⟨by have := h.1; show f.rl ≤ 100; omega, fun p hp => ?_⟩
  have h2 := h.2.2.2 p hp
  obtain ⟨g, qs⟩ := p
  simp only [smN, Bool.and_eq_true, decide_eq_true_eq] at h2
  have := h2.1
  show g.rl ≤ 100
  omega
theorem chk0 {s : SV} {x : WV} (h : chkW s x = 0) : spaceE s = 0 ∧ okW s x = true := by
  unfold chkW at h
  by_cases h1 : spaceE s = 0
  · rw [if_pos h1] at h
    by_cases h2 : okW s x = true
    · exact ⟨h1, h2⟩
    · rw [if_neg h2] at h; omega
  · rw [if_neg h1] at h; exact absurd h h1
theorem okW_plain {f : SF} {ps : List SV} {x : WV} (hp : plainB f.tag f.dim f.len = true) (ho : okW (.mk f ps) x = true) : pwOk f.tag f.dim x.f = true := by
  have h : (if plainB f.tag f.dim f.len = true then pwOk f.tag f.dim x.f else (match (generalizing := false) ps with | [p, q] => pairOk p q x.f x.ps | _ => false)) = true := ho
  rw [if_pos hp] at h
  exact h
theorem space_of {w : World} {d : Nat} {s : SV} (hs : SIn w d s) (hse : spaceE s = 0) : ∃ S : PS, S.ok ∧ SIs w S s.f ∧ ∀ (x : WV) (e : Nat), WIn w e x → okW s x = true → ∃ y, XIs w S x.f y := by
  match d, s, hs with
  | d + 1, .mk f ps, hs =>
    by_cases hp : plainB f.tag f.dim f.len = true
    · obtain ⟨t, n, a, l, c⟩ := f
      dsimp only at hp
      obtain rfl : l = 0 := (plainB_tag hp).1
      refine ⟨.one t n, hp, ⟨a, c, rfl⟩, fun x e hx ho => ?_⟩
      match e, x, hx, ho with
      | e + 1, .mk g qs, hx, ho =>
        exact ⟨.one g.pf, PIs.of hp hx.1 (okW_plain (f := ⟨t, n, a, 0, c⟩) hp ho)⟩
    · have hse' : (if plainB f.tag f.dim f.len = true then (0 : Int) else if f.tag = 5 ∧ f.dim = 0 ∧ ps.length = 2 ∧ ps.all SV.pl = true then 0 else 50) = 0 := hse
      rw [if_neg hp] at hse'
      split at hse'
      · rename_i hq
        obtain ⟨h5, h0, h2, hall⟩ := hq
        obtain ⟨t, n, a, l, c⟩ := f
        dsimp only at h5 h0 hp
        subst h5; subst h0
        obtain ⟨p, q, rfl⟩ := two_of h2
        have hl : 2 = l := hs.1
        subst hl
        simp only [List.all_cons, List.all_nil, Bool.and_true, Bool.and_eq_true] at hall
        obtain ⟨_, b, off, ha, _, hp3, hq3, _, _⟩ := hs.two
        dsimp only at ha
        subst ha
        obtain ⟨⟨pt, pn, pa, pl, pc⟩, pps⟩ := p
        obtain ⟨⟨qt, qn, qa, ql, qc⟩, qps⟩ := q
        have e1 : plainB pt pn pl = true := hall.1
        have e2 : plainB qt qn ql = true := hall.2
        obtain rfl : pl = 0 := (plainB_tag e1).1
        obtain rfl : ql = 0 := (plainB_tag e2).1
        refine ⟨.two pt pn qt qn, ⟨e1, e2⟩, ⟨b, off, c, pa, pc, qa, qc, rfl, hp3, hq3⟩, fun x e hx ho => ?_⟩
        match e, x, hx, ho with
        | e + 1, .mk g qs, hx, ho =>
          have ho' : (if plainB 5 0 2 = true then pwOk 5 0 g else pairOk (.mk ⟨pt, pn, pa, 0, pc⟩ pps) (.mk ⟨qt, qn, qa, 0, qc⟩ qps) g qs) = true := ho
          rw [if_neg (show ¬ plainB 5 0 2 = true from hp)] at ho'
          unfold pairOk at ho'
          simp only [Bool.and_eq_true, Bool.not_eq_true', decide_eq_true_eq] at ho'
          obtain ⟨hbare, hz, h2q, o1, o2⟩ := ho'
          obtain ⟨x1, x2, rfl⟩ := two_of h2q
          obtain ⟨hpl, wb, wo, hpa, _, h6, h7, hx1, hx2⟩ := hx.two
          have hat := hx.1
          have hg : g.c = 0 ∧ g.g = 0 ∧ g.rl = 0 ∧ g.cl = 0 := by
            simp only [bareB, onlyB, hz, Bool.not_false, Bool.true_and, Bool.and_eq_true, Bool.or_eq_true, decide_eq_true_eq] at hbare
            obtain ⟨k1, k2, k3, _⟩ := hbare
            exact ⟨k1.resolve_left (by decide), (k2.resolve_left (by decide)).1, (k2.resolve_left (by decide)).2, k3.resolve_left (by decide)⟩
          have hr0 : g.rows = [] := List.eq_nil_of_length_eq_zero (by have := hat.rl; omega)
          have hc0 : g.cells = [] := List.eq_nil_of_length_eq_zero (by have := hat.cl; omega)
          refine ⟨.two x1.f.pf x2.f.pf, ?_, hg.2.2.1, hg.2.2.2, hpl, wb, wo, x1.f, x2.f, hpa, h6, h7, PIs.of e1 (WIn.at_ hx1) o1, PIs.of e2 (WIn.at_ hx2) o2⟩
          show (⟨g.z, g.c, g.g, g.rows, g.cells⟩ : PF) = pC 0
          unfold pC
          rw [hz, hg.1, hg.2.1, hr0, hc0]
      · cases hse'
def isX (S : PS) (x : PX) : Asr := fun v w => ∃ f : WF, v = f.val ∧ XIs w S f x
theorem stab_isX {S : PS} {x : PX} : Stab (isX S x) := fun v w w' ⟨f, h1, h2⟩ hb => ⟨f, h1, h2.below hb⟩
def isRowX (S : PS) (xs : List PX) : Asr := fun v w => ∃ b fs, v = .slice (some ⟨b, 0, none⟩) xs.length xs.length ∧ FRow w (some ⟨b, 0, none⟩) fs ∧ XL w S fs xs
theorem stab_isRowX {S : PS} {xs : List PX} : Stab (isRowX S xs) := fun v w w' ⟨b, fs, h1, h2, h3⟩ hb => ⟨b, fs, h1, h2.below hb, h3.below hb⟩
theorem holds3 {p q r : Asr} {vs : List Value} {w : World} (h : Holds [p, q, r] vs w) : ∃ a b c, vs = [a, b, c] ∧ p a w ∧ q b w ∧ r c w := by
  match vs, h with
  | [a, b, c], h => exact ⟨a, b, c, rfl, h.1, h.2.1, h.2.2.1⟩
section
variable {n : Nat} {Q : Exit → Act → World → Prop} {l : Fr} {W : World} {ops : Array Oper} {L : List Asr} {i d : Nat} {ty : TypeId} {pos : String} {aft : Array Edge} {gd : Option (Nat × Bool)} {S : PS} {x y z : PX} {p q r : Operand}
theorem rg_rowX2 (hi : ops[i]? = some ⟨some d, .buildSlice 31 2 (List.toArray [(0, p), (1, q)]), ty, pos, aft, gd⟩) (hw : Wants ops L i ⟨some d, .buildSlice 31 2 (List.toArray [(0, p), (1, q)]), ty, pos, aft, gd⟩) (hp : AllP n ops l L i [p, q] [isX S x, isX S y]) (hI : atI L i = isRowX S [x, y]) : RG Tryz.prog n ops Q l W L i :=
  rg_row [isX S x, isX S y] hi hw Tryz.underlying31 Tryz.sizeOf33 Tryz.zeroValue33 rfl rfl hp fun vs w hb hh => by
    obtain ⟨v1, v2, rfl, ⟨f, rfl, hf⟩, g, rfl, hg⟩ := holds2 hh
    exact ⟨f.six ++ g.six, bs_31_2 _ _ _ _ _ _ _ _ _ _ _ _, fun B w' hB h1 h2 => by rw [hI]; exact ⟨B, [f, g], rfl, frow2 h1, xl_cons (hf.below h2) (xl_cons (hg.below h2) xl_nil)⟩⟩
theorem rg_rowX3 (hi : ops[i]? = some ⟨some d, .buildSlice 31 3 (List.toArray [(0, p), (1, q), (2, r)]), ty, pos, aft, gd⟩) (hw : Wants ops L i ⟨some d, .buildSlice 31 3 (List.toArray [(0, p), (1, q), (2, r)]), ty, pos, aft, gd⟩) (hp : AllP n ops l L i [p, q, r] [isX S x, isX S y, isX S z]) (hI : atI L i = isRowX S [x, y, z]) : RG Tryz.prog n ops Q l W L i :=
  rg_row [isX S x, isX S y, isX S z] hi hw Tryz.underlying31 Tryz.sizeOf33 Tryz.zeroValue33 rfl rfl hp fun vs w hb hh => by
    obtain ⟨v1, v2, v3, rfl, ⟨f, rfl, hf⟩, ⟨g, rfl, hg⟩, k, rfl, hk⟩ := holds3 hh
    exact ⟨f.six ++ (g.six ++ k.six), bs_31_3 _ _ _ _ _ _ _ _ _ _ _ _ _ _ _ _ _ _, fun B w' hB h1 h2 => by rw [hI]; exact ⟨B, [f, g, k], rfl, frow3 h1, xl_cons (hf.below h2) (xl_cons (hg.below h2) (xl_cons (hk.below h2) xl_nil))⟩⟩
end
section
variable {w : World} {S : PS} {sf : SF} {x y z : PX} {vs : List Value}
theorem comb2_gives (hh : Holds [isV sf.val, isRowX S [x, y]] vs w) (hs : SIs w S sf) (hok : S.ok) (ht : Tabs w) : Calls Tryz.prog 37 vs.toArray w (Gives (isX S (combX S x y)) w) := by
  obtain ⟨v1, v2, rfl, rfl, b, fs, rfl, hr, hx⟩ := holds2 hh
  refine (combineL_ok S sf w hs hok _ 2 2 fs [x, y] hr hx hx.1 (by decide) ht).mono ?_
  rintro e w' ⟨f, rfl, hn, hb⟩
  obtain ⟨f1, x1, hf1, hx1, h1⟩ := hx.at_ (k := 0) (by have := hx.1; simp at this; omega)
  simp at hx1; subst hx1
  refine ⟨_, rfl, ⟨f, rfl, ?_⟩, hb⟩
  have := hn.is
  simp only [List.foldl_cons, List.foldl_nil, combX_zero h1.ok] at this
  exact this
theorem comb3_gives (hh : Holds [isV sf.val, isRowX S [x, y, z]] vs w) (hs : SIs w S sf) (hok : S.ok) (ht : Tabs w) : Calls Tryz.prog 37 vs.toArray w (Gives (isX S (combX S (combX S x y) z)) w) := by
  obtain ⟨v1, v2, rfl, rfl, b, fs, rfl, hr, hx⟩ := holds2 hh
  refine (combineL_ok S sf w hs hok _ 3 3 fs [x, y, z] hr hx hx.1 (by decide) ht).mono ?_
  rintro e w' ⟨f, rfl, hn, hb⟩
  obtain ⟨f1, x1, hf1, hx1, h1⟩ := hx.at_ (k := 0) (by have := hx.1; simp at this; omega)
  simp at hx1; subst hx1
  refine ⟨_, rfl, ⟨f, rfl, ?_⟩, hb⟩
  have := hn.is
  simp only [List.foldl_cons, List.foldl_nil, combX_zero h1.ok] at this
  exact this
theorem ext2_gives (hh : Holds [isV sf.val, isRowX S [x, y]] vs w) (hs : SIs w S sf) (hok : S.ok) (ht : Tabs w) : Calls Tryz.prog 38 vs.toArray w (Gives (isX S (extX S x y)) w) := by
  obtain ⟨v1, v2, rfl, rfl, b, fs, rfl, hr, hx⟩ := holds2 hh
  match fs, hr, hx with
  | f0 :: ft, hr, hx =>
    refine (extendL_ok S sf w hs hok _ 2 2 f0 x ft [y] hr hx (by have := hx.1; simpa using this) (by decide) (by decide) ht).mono ?_
    rintro e w' ⟨f, rfl, hn, hb⟩
    exact ⟨_, rfl, ⟨f, rfl, hn.is⟩, hb⟩
  | [], hr, hx => exact absurd hx.1 (by simp)
theorem same_gives (hh : Holds [isX S x, isX S y] vs w) (e : x = y) : Calls Tryz.prog 22 vs.toArray w (Gives (isV (.bool true)) w) := by
  obtain ⟨v1, v2, rfl, ⟨f, rfl, hf⟩, g, rfl, hg⟩ := holds2 hh
  exact (sameW_is hf hg true (by simp [e])).mono fun e w' h => ⟨_, h.1, rfl, h.2⟩
end
set_option maxRecDepth 100000 in
set_option maxHeartbeats 4000000 in
theorem weightRing_walk (ds da db dc : Nat) (s : SV) (a b c : WV) (w : World) (hs : SIn w ds s) (ha : WIn w da a) (hb0 : WIn w db b) (hc0 : WIn w dc c) (ht : Tabs w) :
    Calls Tryz.prog 6 #[s.f.val, a.f.val, b.f.val, c.f.val] w (fun e w' => e = .returned (.bool true) ∧ Below w.heap.size w w') := by
  refine enterF (args := [s.f.val, a.f.val, b.f.val, c.f.val]) Tryz.func6 rfl Tryz.ntmps6 rfl ?_
  have hS := St.start w
  refine seqF ?_
  refine regF ?_
  refine op_box (cs := [_, _, _]) hS rfl rfl rfl ?_
  clear hS; intro B1 W1 hS
  refine op_box (cs := [_, _, _, _, _, _]) hS rfl rfl rfl ?_
  clear hS; intro B2 W2 hS
  refine op_box (cs := [_, _, _, _, _, _]) hS rfl rfl rfl ?_
  clear hS; intro B3 W3 hS
  refine op_box (cs := [_, _, _, _, _, _]) hS rfl rfl rfl ?_
  clear hS; intro B4 W4 hS
  refine op_assign rfl rfl ?_
  refine endF ?_
  refine XF.thenN ?_
  refine seqF ?_
  refine seqF ?_
  refine regF ?_
  refine op_loadA (vs := [_, _, _]) Tryz.isAgg25 Tryz.sizeOf25 rfl (CellsAt.own (j := 0) (m := 3) (hS.at_ 3 rfl) rfl) rfl ?_
  refine op_call (vs := [_, _]) hS goes_9 rfl (smallSpace_is 4 0 ds s _ (by omega) (SIn.below hS.below hs)) rfl ?_
  rintro e W5 ⟨rfl, hb⟩
  refine ⟨_, rfl, hb, fun hS' => ?_⟩
  clear hS; have hS := hS'; clear hS' hb
  refine op_not rfl rfl ?_
  refine op_move rfl rfl ?_
  refine op_cases (d := 16) rfl (fun hc => ?_) (fun hc => ?_)
  · have hg16 := hc; clear hc
    refine op_notF (d := 16) rfl rfl rfl rfl ?_
    refine op_notF (d := 16) rfl rfl rfl rfl ?_
    refine op_notF (d := 16) rfl rfl rfl rfl ?_
    refine op_pickT rfl rfl rfl ?_
    refine op_move rfl rfl ?_
    refine op_notF (d := 21) rfl rfl rfl rfl ?_
    refine op_notF (d := 21) rfl rfl rfl rfl ?_
    refine op_notF (d := 21) rfl rfl rfl rfl ?_
    refine op_pickT rfl rfl rfl ?_
    refine op_move rfl rfl ?_
    refine op_notF (d := 26) rfl rfl rfl rfl ?_
    refine op_notF (d := 26) rfl rfl rfl rfl ?_
    refine op_notF (d := 26) rfl rfl rfl rfl ?_
    refine op_pickT rfl rfl rfl ?_
    refine op_move rfl rfl ?_
    refine op_notF (d := 31) rfl rfl rfl rfl ?_
    refine op_notF (d := 31) rfl rfl rfl rfl ?_
    refine op_notF (d := 31) rfl rfl rfl rfl ?_
    refine op_notF (d := 31) rfl rfl rfl rfl ?_
    refine op_pickT rfl rfl rfl ?_
    refine op_move rfl rfl ?_
    refine op_notF (d := 37) rfl rfl rfl rfl ?_
    refine op_notF (d := 37) rfl rfl rfl rfl ?_
    refine op_notF (d := 37) rfl rfl rfl rfl ?_
    refine op_notF (d := 37) rfl rfl rfl rfl ?_
    refine op_pickT rfl rfl rfl ?_
    refine op_move rfl rfl ?_
    refine op_notF (d := 43) rfl rfl rfl rfl ?_
    refine op_notF (d := 43) rfl rfl rfl rfl ?_
    refine op_notF (d := 43) rfl rfl rfl rfl ?_
    refine op_notF (d := 43) rfl rfl rfl rfl ?_
    refine op_pickT rfl rfl rfl ?_
    refine endF ?_
    refine XF.thenN ?_
    refine condT rfl ?_
    refine seqF ?_
    refine regF ?_
    refine op_call (vs := []) hS goes_11 rfl (aliveW_is _ (ht.below hS.below)) rfl ?_
    rintro e W6 ⟨rfl, hb⟩
    refine ⟨_, rfl, hb, fun hS' => ?_⟩
    clear hS; have hS := hS'; clear hS' hb
    refine op_assign rfl rfl ?_
    refine endF ?_
    refine XF.thenN ?_
    refine retF ?_
    refine XF.thenR ?_
    refine XF.res (res1 Tryz.results6 rfl) ?_
    exact ⟨rfl, hS.below⟩
  · have hg16 := hc; clear hc
    refine op_wantedF (d := 16) rfl rfl ?_
    refine op_loadA (vs := [_, _, _, _, _, _]) Tryz.isAgg33 Tryz.sizeOf33 rfl (CellsAt.own (j := 0) (m := 6) (hS.at_ 2 rfl) rfl) rfl ?_
    refine op_wantedF (d := 16) rfl rfl ?_
    refine op_call (vs := [_, _]) hS goes_10 rfl (small_is 4 0 da a _ (by omega) (WIn.below hS.below ha)) rfl ?_
    rintro e W7 ⟨rfl, hb⟩
    refine ⟨_, rfl, hb, fun hS' => ?_⟩
    clear hS; have hS := hS'; clear hS' hb
    refine op_wantedF (d := 16) rfl rfl ?_
    refine op_not rfl rfl ?_
    refine op_pickF rfl rfl rfl ?_
    refine op_move rfl rfl ?_
    refine op_cases (d := 21) rfl (fun hc => ?_) (fun hc => ?_)
    · have hg21 := hc; clear hc
      refine op_notF (d := 21) rfl rfl rfl rfl ?_
      refine op_notF (d := 21) rfl rfl rfl rfl ?_
      refine op_notF (d := 21) rfl rfl rfl rfl ?_
      refine op_pickT rfl rfl rfl ?_
      refine op_move rfl rfl ?_
      refine op_notF (d := 26) rfl rfl rfl rfl ?_
      refine op_notF (d := 26) rfl rfl rfl rfl ?_
      refine op_notF (d := 26) rfl rfl rfl rfl ?_
      refine op_pickT rfl rfl rfl ?_
      refine op_move rfl rfl ?_
      refine op_notF (d := 31) rfl rfl rfl rfl ?_
      refine op_notF (d := 31) rfl rfl rfl rfl ?_
      refine op_notF (d := 31) rfl rfl rfl rfl ?_
      refine op_notF (d := 31) rfl rfl rfl rfl ?_
      refine op_pickT rfl rfl rfl ?_
      refine op_move rfl rfl ?_
      refine op_notF (d := 37) rfl rfl rfl rfl ?_
      refine op_notF (d := 37) rfl rfl rfl rfl ?_
      refine op_notF (d := 37) rfl rfl rfl rfl ?_
      refine op_notF (d := 37) rfl rfl rfl rfl ?_
      refine op_pickT rfl rfl rfl ?_
      refine op_move rfl rfl ?_
      refine op_notF (d := 43) rfl rfl rfl rfl ?_
      refine op_notF (d := 43) rfl rfl rfl rfl ?_
      refine op_notF (d := 43) rfl rfl rfl rfl ?_
      refine op_notF (d := 43) rfl rfl rfl rfl ?_
      refine op_pickT rfl rfl rfl ?_
      refine endF ?_
      refine XF.thenN ?_
      refine condT rfl ?_
      refine seqF ?_
      refine regF ?_
      refine op_call (vs := []) hS goes_11 rfl (aliveW_is _ (ht.below hS.below)) rfl ?_
      rintro e W8 ⟨rfl, hb⟩
      refine ⟨_, rfl, hb, fun hS' => ?_⟩
      clear hS; have hS := hS'; clear hS' hb
      refine op_assign rfl rfl ?_
      refine endF ?_
      refine XF.thenN ?_
      refine retF ?_
      refine XF.thenR ?_
      refine XF.res (res1 Tryz.results6 rfl) ?_
      exact ⟨rfl, hS.below⟩
    · have hg21 := hc; clear hc
      obtain ⟨ha1, ha2⟩ := smN_100 ha (by simpa using hg21)
      refine op_wantedF (d := 21) rfl rfl ?_
      refine op_loadA (vs := [_, _, _, _, _, _]) Tryz.isAgg33 Tryz.sizeOf33 rfl (CellsAt.own (j := 0) (m := 6) (hS.at_ 1 rfl) rfl) rfl ?_
      refine op_wantedF (d := 21) rfl rfl ?_
      refine op_call (vs := [_, _]) hS goes_10 rfl (small_is 4 0 db b _ (by omega) (WIn.below hS.below hb0)) rfl ?_
      rintro e W9 ⟨rfl, hb⟩
      refine ⟨_, rfl, hb, fun hS' => ?_⟩
      clear hS; have hS := hS'; clear hS' hb
      refine op_wantedF (d := 21) rfl rfl ?_
      refine op_not rfl rfl ?_
      refine op_pickF rfl rfl rfl ?_
      refine op_move rfl rfl ?_
      refine op_cases (d := 26) rfl (fun hc => ?_) (fun hc => ?_)
      · have hg26 := hc; clear hc
        refine op_notF (d := 26) rfl rfl rfl rfl ?_
        refine op_notF (d := 26) rfl rfl rfl rfl ?_
        refine op_notF (d := 26) rfl rfl rfl rfl ?_
        refine op_pickT rfl rfl rfl ?_
        refine op_move rfl rfl ?_
        refine op_notF (d := 31) rfl rfl rfl rfl ?_
        refine op_notF (d := 31) rfl rfl rfl rfl ?_
        refine op_notF (d := 31) rfl rfl rfl rfl ?_
        refine op_notF (d := 31) rfl rfl rfl rfl ?_
        refine op_pickT rfl rfl rfl ?_
        refine op_move rfl rfl ?_
        refine op_notF (d := 37) rfl rfl rfl rfl ?_
        refine op_notF (d := 37) rfl rfl rfl rfl ?_
        refine op_notF (d := 37) rfl rfl rfl rfl ?_
        refine op_notF (d := 37) rfl rfl rfl rfl ?_
        refine op_pickT rfl rfl rfl ?_
        refine op_move rfl rfl ?_
        refine op_notF (d := 43) rfl rfl rfl rfl ?_
        refine op_notF (d := 43) rfl rfl rfl rfl ?_
        refine op_notF (d := 43) rfl rfl rfl rfl ?_
        refine op_notF (d := 43) rfl rfl rfl rfl ?_
        refine op_pickT rfl rfl rfl ?_
        refine endF ?_
        refine XF.thenN ?_
        refine condT rfl ?_
        refine seqF ?_
        refine regF ?_
        refine op_call (vs := []) hS goes_11 rfl (aliveW_is _ (ht.below hS.below)) rfl ?_
        rintro e W10 ⟨rfl, hb⟩
        refine ⟨_, rfl, hb, fun hS' => ?_⟩
        clear hS; have hS := hS'; clear hS' hb
        refine op_assign rfl rfl ?_
        refine endF ?_
        refine XF.thenN ?_
        refine retF ?_
        refine XF.thenR ?_
        refine XF.res (res1 Tryz.results6 rfl) ?_
        exact ⟨rfl, hS.below⟩
      · have hg26 := hc; clear hc
        obtain ⟨hb1, hb2⟩ := smN_100 hb0 (by simpa using hg26)
        refine op_wantedF (d := 26) rfl rfl ?_
        refine op_loadA (vs := [_, _, _, _, _, _]) Tryz.isAgg33 Tryz.sizeOf33 rfl (CellsAt.own (j := 0) (m := 6) (hS.at_ 0 rfl) rfl) rfl ?_
        refine op_wantedF (d := 26) rfl rfl ?_
        refine op_call (vs := [_, _]) hS goes_10 rfl (small_is 4 0 dc c _ (by omega) (WIn.below hS.below hc0)) rfl ?_
        rintro e W11 ⟨rfl, hb⟩
        refine ⟨_, rfl, hb, fun hS' => ?_⟩
        clear hS; have hS := hS'; clear hS' hb
        refine op_wantedF (d := 26) rfl rfl ?_
        refine op_not rfl rfl ?_
        refine op_pickF rfl rfl rfl ?_
        refine op_move rfl rfl ?_
        refine op_cases (d := 31) rfl (fun hc => ?_) (fun hc => ?_)
        · have hg31 := hc; clear hc
          refine op_notF (d := 31) rfl rfl rfl rfl ?_
          refine op_notF (d := 31) rfl rfl rfl rfl ?_
          refine op_notF (d := 31) rfl rfl rfl rfl ?_
          refine op_notF (d := 31) rfl rfl rfl rfl ?_
          refine op_pickT rfl rfl rfl ?_
          refine op_move rfl rfl ?_
          refine op_notF (d := 37) rfl rfl rfl rfl ?_
          refine op_notF (d := 37) rfl rfl rfl rfl ?_
          refine op_notF (d := 37) rfl rfl rfl rfl ?_
          refine op_notF (d := 37) rfl rfl rfl rfl ?_
          refine op_pickT rfl rfl rfl ?_
          refine op_move rfl rfl ?_
          refine op_notF (d := 43) rfl rfl rfl rfl ?_
          refine op_notF (d := 43) rfl rfl rfl rfl ?_
          refine op_notF (d := 43) rfl rfl rfl rfl ?_
          refine op_notF (d := 43) rfl rfl rfl rfl ?_
          refine op_pickT rfl rfl rfl ?_
          refine endF ?_
          refine XF.thenN ?_
          refine condT rfl ?_
          refine seqF ?_
          refine regF ?_
          refine op_call (vs := []) hS goes_11 rfl (aliveW_is _ (ht.below hS.below)) rfl ?_
          rintro e W12 ⟨rfl, hb⟩
          refine ⟨_, rfl, hb, fun hS' => ?_⟩
          clear hS; have hS := hS'; clear hS' hb
          refine op_assign rfl rfl ?_
          refine endF ?_
          refine XF.thenN ?_
          refine retF ?_
          refine XF.thenR ?_
          refine XF.res (res1 Tryz.results6 rfl) ?_
          exact ⟨rfl, hS.below⟩
        · have hg31 := hc; clear hc
          obtain ⟨hc1, hc2⟩ := smN_100 hc0 (by simpa using hg31)
          refine op_wantedF (d := 31) rfl rfl ?_
          refine op_loadA (vs := [_, _, _]) Tryz.isAgg25 Tryz.sizeOf25 rfl (CellsAt.own (j := 0) (m := 3) (hS.at_ 3 rfl) rfl) rfl ?_
          refine op_wantedF (d := 31) rfl rfl ?_
          refine op_loadA (vs := [_, _, _, _, _, _]) Tryz.isAgg33 Tryz.sizeOf33 rfl (CellsAt.own (j := 0) (m := 6) (hS.at_ 2 rfl) rfl) rfl ?_
          refine op_wantedF (d := 31) rfl rfl ?_
          refine op_call (vs := [_, _]) hS goes_21 rfl (checkR_gen ds da s a _ (SIn.below hS.below hs) (WIn.below hS.below ha) ha1 ha2) rfl ?_
          rintro e W13 ⟨rfl, hb⟩
          refine ⟨_, rfl, hb, fun hS' => ?_⟩
          clear hS; have hS := hS'; clear hS' hb
          refine op_wantedF (d := 31) rfl rfl ?_
          refine op_neq rfl rfl rfl ?_
          refine op_pickF rfl rfl rfl ?_
          refine op_move rfl rfl ?_
          refine op_cases (d := 37) rfl (fun hc => ?_) (fun hc => ?_)
          · have hg37 := of_decide_eq_true hc; clear hc
            refine op_notF (d := 37) rfl rfl rfl rfl ?_
            refine op_notF (d := 37) rfl rfl rfl rfl ?_
            refine op_notF (d := 37) rfl rfl rfl rfl ?_
            refine op_notF (d := 37) rfl rfl rfl rfl ?_
            refine op_pickT rfl rfl rfl ?_
            refine op_move rfl rfl ?_
            refine op_notF (d := 43) rfl rfl rfl rfl ?_
            refine op_notF (d := 43) rfl rfl rfl rfl ?_
            refine op_notF (d := 43) rfl rfl rfl rfl ?_
            refine op_notF (d := 43) rfl rfl rfl rfl ?_
            refine op_pickT rfl rfl rfl ?_
            refine endF ?_
            refine XF.thenN ?_
            refine condT rfl ?_
            refine seqF ?_
            refine regF ?_
            refine op_call (vs := []) hS goes_11 rfl (aliveW_is _ (ht.below hS.below)) rfl ?_
            rintro e W14 ⟨rfl, hb⟩
            refine ⟨_, rfl, hb, fun hS' => ?_⟩
            clear hS; have hS := hS'; clear hS' hb
            refine op_assign rfl rfl ?_
            refine endF ?_
            refine XF.thenN ?_
            refine retF ?_
            refine XF.thenR ?_
            refine XF.res (res1 Tryz.results6 rfl) ?_
            exact ⟨rfl, hS.below⟩
          · have hg37 := of_decide_eq_false hc; clear hc
            refine op_wantedF (d := 37) rfl rfl ?_
            refine op_loadA (vs := [_, _, _]) Tryz.isAgg25 Tryz.sizeOf25 rfl (CellsAt.own (j := 0) (m := 3) (hS.at_ 3 rfl) rfl) rfl ?_
            refine op_wantedF (d := 37) rfl rfl ?_
            refine op_loadA (vs := [_, _, _, _, _, _]) Tryz.isAgg33 Tryz.sizeOf33 rfl (CellsAt.own (j := 0) (m := 6) (hS.at_ 1 rfl) rfl) rfl ?_
            refine op_wantedF (d := 37) rfl rfl ?_
            refine op_call (vs := [_, _]) hS goes_21 rfl (checkR_gen ds db s b _ (SIn.below hS.below hs) (WIn.below hS.below hb0) hb1 hb2) rfl ?_
            rintro e W15 ⟨rfl, hb⟩
            refine ⟨_, rfl, hb, fun hS' => ?_⟩
            clear hS; have hS := hS'; clear hS' hb
            refine op_wantedF (d := 37) rfl rfl ?_
            refine op_neq rfl rfl rfl ?_
            refine op_pickF rfl rfl rfl ?_
            refine op_move rfl rfl ?_
            refine op_cases (d := 43) rfl (fun hc => ?_) (fun hc => ?_)
            · have hg43 := of_decide_eq_true hc; clear hc
              refine op_notF (d := 43) rfl rfl rfl rfl ?_
              refine op_notF (d := 43) rfl rfl rfl rfl ?_
              refine op_notF (d := 43) rfl rfl rfl rfl ?_
              refine op_notF (d := 43) rfl rfl rfl rfl ?_
              refine op_pickT rfl rfl rfl ?_
              refine endF ?_
              refine XF.thenN ?_
              refine condT rfl ?_
              refine seqF ?_
              refine regF ?_
              refine op_call (vs := []) hS goes_11 rfl (aliveW_is _ (ht.below hS.below)) rfl ?_
              rintro e W16 ⟨rfl, hb⟩
              refine ⟨_, rfl, hb, fun hS' => ?_⟩
              clear hS; have hS := hS'; clear hS' hb
              refine op_assign rfl rfl ?_
              refine endF ?_
              refine XF.thenN ?_
              refine retF ?_
              refine XF.thenR ?_
              refine XF.res (res1 Tryz.results6 rfl) ?_
              exact ⟨rfl, hS.below⟩
            · have hg43 := of_decide_eq_false hc; clear hc
              refine op_wantedF (d := 43) rfl rfl ?_
              refine op_loadA (vs := [_, _, _]) Tryz.isAgg25 Tryz.sizeOf25 rfl (CellsAt.own (j := 0) (m := 3) (hS.at_ 3 rfl) rfl) rfl ?_
              refine op_wantedF (d := 43) rfl rfl ?_
              refine op_loadA (vs := [_, _, _, _, _, _]) Tryz.isAgg33 Tryz.sizeOf33 rfl (CellsAt.own (j := 0) (m := 6) (hS.at_ 0 rfl) rfl) rfl ?_
              refine op_wantedF (d := 43) rfl rfl ?_
              refine op_call (vs := [_, _]) hS goes_21 rfl (checkR_gen ds dc s c _ (SIn.below hS.below hs) (WIn.below hS.below hc0) hc1 hc2) rfl ?_
              rintro e W17 ⟨rfl, hb⟩
              refine ⟨_, rfl, hb, fun hS' => ?_⟩
              clear hS; have hS := hS'; clear hS' hb
              refine op_wantedF (d := 43) rfl rfl ?_
              refine op_neq rfl rfl rfl ?_
              refine op_pickF rfl rfl rfl ?_
              refine endF ?_
              refine XF.thenN ?_
              refine condF rfl (fun hc => ?_) (fun hc => ?_)
              · have hc48 := of_decide_eq_true hc; clear hc
                refine seqF ?_
                refine regF ?_
                refine op_call (vs := []) hS goes_11 rfl (aliveW_is _ (ht.below hS.below)) rfl ?_
                rintro e W18 ⟨rfl, hb⟩
                refine ⟨_, rfl, hb, fun hS' => ?_⟩
                clear hS; have hS := hS'; clear hS' hb
                refine op_assign rfl rfl ?_
                refine endF ?_
                refine XF.thenN ?_
                refine retF ?_
                refine XF.thenR ?_
                refine XF.res (res1 Tryz.results6 rfl) ?_
                exact ⟨rfl, hS.below⟩
              · have hc48 := of_decide_eq_false hc; clear hc
                obtain ⟨S, hok, hsi, hw⟩ := space_of hs (chk0 (show chkW s a = 0 by omega)).1
                obtain ⟨x, hx⟩ := hw a da ha (chk0 (show chkW s a = 0 by omega)).2
                obtain ⟨y, hy⟩ := hw b db hb0 (chk0 (show chkW s b = 0 by omega)).2
                obtain ⟨z, hz⟩ := hw c dc hc0 (chk0 (show chkW s c = 0 by omega)).2
                have ox := hx.ok
                have oy := hy.ok
                have oz := hz.ok
                have hS := hS.clear
                refine skipF ?_
                refine XF.thenN ?_
                refine seqF ?_
                refine regF ?_
                refine op_loadA (vs := [_, _, _]) Tryz.isAgg25 Tryz.sizeOf25 rfl (CellsAt.own (j := 0) (m := 3) (hS.at_ 3 rfl) rfl) rfl ?_
                refine op_call (vs := [_]) hS goes_12 rfl (OneW_ok S s.f _ (hsi.below hS.below) hok) rfl ?_
                rintro e W19 ⟨fo, rfl, hno, hb⟩
                refine ⟨_, rfl, hb, fun hS' => ?_⟩
                clear hS; have hS := hS'; clear hS' hb
                refine op_move rfl rfl ?_
                refine op_extract rfl rfl rfl ?_
                refine op_extract rfl rfl rfl ?_
                refine op_alloc (cs := [_, _, _, _, _, _]) hS Tryz.zeroValue33 rfl rfl ?_
                clear hS; intro B20 W20 hS
                refine op_storeA (i := 0) (vs := [_, _, _, _, _, _]) (cs' := [_, _, _, _, _, _]) (O' := [_, _, _, _, _]) hS Tryz.sizeOf33 rfl rfl rfl rfl rfl rfl rfl ?_
                clear hS; intro W21 hS
                refine op_assign rfl rfl ?_
                refine endF ?_
                refine XF.thenN ?_
                refine seqF ?_
                refine regF ?_
                refine op_loadA (vs := [_, _, _]) Tryz.isAgg25 Tryz.sizeOf25 rfl (CellsAt.own (j := 0) (m := 3) (hS.at_ 4 rfl) rfl) rfl ?_
                refine op_call (vs := [_]) hS goes_14 rfl (ZeroW_ok S s.f _ (hsi.below hS.below) hok) rfl ?_
                rintro e W22 ⟨fz, rfl, hnz, hb⟩
                refine ⟨_, rfl, hb, fun hS' => ?_⟩
                clear hS; have hS := hS'; clear hS' hb
                refine op_move rfl rfl ?_
                refine op_extract rfl rfl rfl ?_
                refine op_extract rfl rfl rfl ?_
                refine op_alloc (cs := [_, _, _, _, _, _]) hS Tryz.zeroValue33 rfl rfl ?_
                clear hS; intro B23 W23 hS
                refine op_storeA (i := 0) (vs := [_, _, _, _, _, _]) (cs' := [_, _, _, _, _, _]) (O' := [_, _, _, _, _, _]) hS Tryz.sizeOf33 rfl rfl rfl rfl rfl rfl rfl ?_
                clear hS; intro W24 hS
                refine op_assign rfl rfl ?_
                refine endF ?_
                refine XF.thenN ?_
                refine seqF ?_
                refine seqF ?_
                have hxW := hx.below hS.below
                have hyW := hy.below hS.below
                have hzW := hz.below hS.below
                have h0W := (hnz.agree (hS.since 0 rfl)).is
                refine regB (m := 59) followsM hS (by kernel_rfl) (by kernel_rfl) rfl ?_
                refine bl_cons 1 rfl (isV _) (stab_isV _) (rgV (li := [(10, _)]) rfl (w_free rfl) ⟨g_fr (by kernel_rfl) rfl, trivial⟩ (fun w hw => rn_move rfl) (at_top rfl)) ?_
                refine bl_cons 2 rfl (isV (.bool false)) (stab_isV _) (rgVe (li := [(60, _)]) rfl (w_free rfl) ⟨g_dep 0 (by kernel_rfl) (at_dep rfl rfl rfl), trivial⟩ (fun w hw => rn_neq rfl rfl) (by simp) (at_top rfl)) ?_
                refine bl_cons 3 rfl (isV _) (stab_isV _) (rgV (li := [(61, _)]) rfl (w_free rfl) ⟨g_dep 1 (by kernel_rfl) (at_dep rfl rfl rfl), trivial⟩ (fun w hw => rn_move rfl) (at_top rfl)) ?_
                refine bl_cons 4 rfl (isV _) (stab_isV _) (rgV (li := [(12, _)]) rfl (w_yes 62 rfl (by kernel_rfl) (by kernel_rfl) (at_dep rfl rfl rfl)) ⟨g_fr (by kernel_rfl) rfl, trivial⟩ (fun w hw => rn_move rfl) (at_top rfl)) ?_
                refine bl_cons 5 rfl (isV (.bool false)) (stab_isV _) (rgVe (li := [(63, _)]) rfl (w_yes 62 rfl (by kernel_rfl) (by kernel_rfl) (at_dep rfl rfl rfl)) ⟨g_dep 3 (by kernel_rfl) (at_dep rfl rfl rfl), trivial⟩ (fun w hw => rn_neq rfl rfl) (by simp) (at_top rfl)) ?_
                refine bl_cons 6 rfl (isV _) (stab_isV _) (rgV (li := [(62, _), (64, _)]) rfl (w_free rfl) ⟨g_dep 2 (by kernel_rfl) (at_dep rfl rfl rfl), g_dep 4 (by kernel_rfl) (at_dep rfl rfl rfl), trivial⟩ (fun w hw => rn_pickF rfl rfl) (at_top rfl)) ?_
                refine bl_cons 7 rfl (isV _) (stab_isV _) (rgV (li := [(65, _)]) rfl (w_free rfl) ⟨g_dep 5 (by kernel_rfl) (at_dep rfl rfl rfl), trivial⟩ (fun w hw => rn_move rfl) (at_top rfl)) ?_
                refine bl_cons 8 rfl (isV _) (stab_isV _) (rgV (li := [(4, _)]) rfl (w_yes 66 rfl (by kernel_rfl) (by kernel_rfl) (at_dep rfl rfl rfl)) ⟨g_fr (by kernel_rfl) rfl, trivial⟩ (fun w hw => rn_loadA (vs := [_, _, _]) Tryz.isAgg25 Tryz.sizeOf25 rfl (CellsAt.agree (below_agree hw 0) (Nat.zero_le _) (CellsAt.own (j := 0) (m := 3) (hS.at_ 5 rfl) rfl))) (at_top rfl)) ?_
                refine bl_cons 9 rfl (isX S (x)) (stab_isX) (rgP (li := [(5, _)]) rfl (w_yes 66 rfl (by kernel_rfl) (by kernel_rfl) (at_dep rfl rfl rfl)) ⟨g_fr (by kernel_rfl) rfl, trivial⟩ (fun w hw => rn_loadA (vs := [_, _, _, _, _, _]) Tryz.isAgg33 Tryz.sizeOf33 rfl (CellsAt.agree (below_agree hw 0) (Nat.zero_le _) (CellsAt.own (j := 0) (m := 6) (hS.at_ 4 rfl) rfl))) (fun w hw => ⟨a.f, rfl, hxW.below hw⟩) (at_top rfl)) ?_
                refine bl_cons 10 rfl (isX S (y)) (stab_isX) (rgP (li := [(6, _)]) rfl (w_yes 66 rfl (by kernel_rfl) (by kernel_rfl) (at_dep rfl rfl rfl)) ⟨g_fr (by kernel_rfl) rfl, trivial⟩ (fun w hw => rn_loadA (vs := [_, _, _, _, _, _]) Tryz.isAgg33 Tryz.sizeOf33 rfl (CellsAt.agree (below_agree hw 0) (Nat.zero_le _) (CellsAt.own (j := 0) (m := 6) (hS.at_ 3 rfl) rfl))) (fun w hw => ⟨b.f, rfl, hyW.below hw⟩) (at_top rfl)) ?_
                refine bl_cons 11 rfl (isRowX S [x, y]) (stab_isRowX) (rg_rowX2 rfl (w_yes 66 rfl (by kernel_rfl) (by kernel_rfl) (at_dep rfl rfl rfl)) ⟨p_tmp (g_dep 8 (by kernel_rfl) (at_dep rfl rfl rfl)), p_tmp (g_dep 9 (by kernel_rfl) (at_dep rfl rfl rfl)), trivial⟩ (at_top rfl)) ?_
                refine bl_cons 12 rfl (isX S (combX S (x) (y))) (stab_isX) (rg_call [isV s.f.val, isRowX S [x, y]] rfl goes_37 (w_yes 66 rfl (by kernel_rfl) (by kernel_rfl) (at_dep rfl rfl rfl)) ⟨p_tmp (g_dep 7 (by kernel_rfl) (at_dep rfl rfl rfl)), p_tmp (g_dep 10 (by kernel_rfl) (at_dep rfl rfl rfl)), trivial⟩ (fun vs w' hb hh => comb2_gives hh (hsi.below (hS.below.trans (hb.mono hS.below.size))) hok (ht.below (hS.below.trans (hb.mono hS.below.size)))) (at_top rfl)) ?_
                refine bl_cons 13 rfl (isV _) (stab_isV _) (rgV (li := [(4, _)]) rfl (w_yes 66 rfl (by kernel_rfl) (by kernel_rfl) (at_dep rfl rfl rfl)) ⟨g_fr (by kernel_rfl) rfl, trivial⟩ (fun w hw => rn_loadA (vs := [_, _, _]) Tryz.isAgg25 Tryz.sizeOf25 rfl (CellsAt.agree (below_agree hw 0) (Nat.zero_le _) (CellsAt.own (j := 0) (m := 3) (hS.at_ 5 rfl) rfl))) (at_top rfl)) ?_
                refine bl_cons 14 rfl (isX S (y)) (stab_isX) (rgP (li := [(6, _)]) rfl (w_yes 66 rfl (by kernel_rfl) (by kernel_rfl) (at_dep rfl rfl rfl)) ⟨g_fr (by kernel_rfl) rfl, trivial⟩ (fun w hw => rn_loadA (vs := [_, _, _, _, _, _]) Tryz.isAgg33 Tryz.sizeOf33 rfl (CellsAt.agree (below_agree hw 0) (Nat.zero_le _) (CellsAt.own (j := 0) (m := 6) (hS.at_ 3 rfl) rfl))) (fun w hw => ⟨b.f, rfl, hyW.below hw⟩) (at_top rfl)) ?_
                refine bl_cons 15 rfl (isX S (x)) (stab_isX) (rgP (li := [(5, _)]) rfl (w_yes 66 rfl (by kernel_rfl) (by kernel_rfl) (at_dep rfl rfl rfl)) ⟨g_fr (by kernel_rfl) rfl, trivial⟩ (fun w hw => rn_loadA (vs := [_, _, _, _, _, _]) Tryz.isAgg33 Tryz.sizeOf33 rfl (CellsAt.agree (below_agree hw 0) (Nat.zero_le _) (CellsAt.own (j := 0) (m := 6) (hS.at_ 4 rfl) rfl))) (fun w hw => ⟨a.f, rfl, hxW.below hw⟩) (at_top rfl)) ?_
                refine bl_cons 16 rfl (isRowX S [y, x]) (stab_isRowX) (rg_rowX2 rfl (w_yes 66 rfl (by kernel_rfl) (by kernel_rfl) (at_dep rfl rfl rfl)) ⟨p_tmp (g_dep 13 (by kernel_rfl) (at_dep rfl rfl rfl)), p_tmp (g_dep 14 (by kernel_rfl) (at_dep rfl rfl rfl)), trivial⟩ (at_top rfl)) ?_
                refine bl_cons 17 rfl (isX S (combX S (y) (x))) (stab_isX) (rg_call [isV s.f.val, isRowX S [y, x]] rfl goes_37 (w_yes 66 rfl (by kernel_rfl) (by kernel_rfl) (at_dep rfl rfl rfl)) ⟨p_tmp (g_dep 12 (by kernel_rfl) (at_dep rfl rfl rfl)), p_tmp (g_dep 15 (by kernel_rfl) (at_dep rfl rfl rfl)), trivial⟩ (fun vs w' hb hh => comb2_gives hh (hsi.below (hS.below.trans (hb.mono hS.below.size))) hok (ht.below (hS.below.trans (hb.mono hS.below.size)))) (at_top rfl)) ?_
                refine bl_cons 18 rfl (isV (.bool true)) (stab_isV _) (rg_call [isX S (combX S (x) (y)), isX S (combX S (y) (x))] rfl goes_22 (w_yes 66 rfl (by kernel_rfl) (by kernel_rfl) (at_dep rfl rfl rfl)) ⟨p_tmp (g_dep 11 (by kernel_rfl) (at_dep rfl rfl rfl)), p_tmp (g_dep 16 (by kernel_rfl) (at_dep rfl rfl rfl)), trivial⟩ (fun vs w' hb hh => same_gives hh (combX_comm hok ox oy)) (at_top rfl)) ?_
                refine bl_cons 19 rfl (isV _) (stab_isV _) (rgV (li := [(77, _)]) rfl (w_yes 66 rfl (by kernel_rfl) (by kernel_rfl) (at_dep rfl rfl rfl)) ⟨g_dep 17 (by kernel_rfl) (at_dep rfl rfl rfl), trivial⟩ (fun w hw => rn_not rfl) (at_top rfl)) ?_
                refine bl_cons 20 rfl (isV _) (stab_isV _) (rgV (li := [(66, _), (78, _)]) rfl (w_free rfl) ⟨g_dep 6 (by kernel_rfl) (at_dep rfl rfl rfl), g_dep 18 (by kernel_rfl) (at_dep rfl rfl rfl), trivial⟩ (fun w hw => rn_pickF rfl rfl) (at_top rfl)) ?_
                refine bl_cons 21 rfl (isV _) (stab_isV _) (rgV (li := [(79, _)]) rfl (w_free rfl) ⟨g_dep 19 (by kernel_rfl) (at_dep rfl rfl rfl), trivial⟩ (fun w hw => rn_move rfl) (at_top rfl)) ?_
                refine bl_cons 22 rfl (isV _) (stab_isV _) (rgV (li := [(4, _)]) rfl (w_yes 80 rfl (by kernel_rfl) (by kernel_rfl) (at_dep rfl rfl rfl)) ⟨g_fr (by kernel_rfl) rfl, trivial⟩ (fun w hw => rn_loadA (vs := [_, _, _]) Tryz.isAgg25 Tryz.sizeOf25 rfl (CellsAt.agree (below_agree hw 0) (Nat.zero_le _) (CellsAt.own (j := 0) (m := 3) (hS.at_ 5 rfl) rfl))) (at_top rfl)) ?_
                refine bl_cons 23 rfl (isX S (x)) (stab_isX) (rgP (li := [(5, _)]) rfl (w_yes 80 rfl (by kernel_rfl) (by kernel_rfl) (at_dep rfl rfl rfl)) ⟨g_fr (by kernel_rfl) rfl, trivial⟩ (fun w hw => rn_loadA (vs := [_, _, _, _, _, _]) Tryz.isAgg33 Tryz.sizeOf33 rfl (CellsAt.agree (below_agree hw 0) (Nat.zero_le _) (CellsAt.own (j := 0) (m := 6) (hS.at_ 4 rfl) rfl))) (fun w hw => ⟨a.f, rfl, hxW.below hw⟩) (at_top rfl)) ?_
                refine bl_cons 24 rfl (isX S (x)) (stab_isX) (rgP (li := [(5, _)]) rfl (w_yes 80 rfl (by kernel_rfl) (by kernel_rfl) (at_dep rfl rfl rfl)) ⟨g_fr (by kernel_rfl) rfl, trivial⟩ (fun w hw => rn_loadA (vs := [_, _, _, _, _, _]) Tryz.isAgg33 Tryz.sizeOf33 rfl (CellsAt.agree (below_agree hw 0) (Nat.zero_le _) (CellsAt.own (j := 0) (m := 6) (hS.at_ 4 rfl) rfl))) (fun w hw => ⟨a.f, rfl, hxW.below hw⟩) (at_top rfl)) ?_
                refine bl_cons 25 rfl (isRowX S [x, x]) (stab_isRowX) (rg_rowX2 rfl (w_yes 80 rfl (by kernel_rfl) (by kernel_rfl) (at_dep rfl rfl rfl)) ⟨p_tmp (g_dep 22 (by kernel_rfl) (at_dep rfl rfl rfl)), p_tmp (g_dep 23 (by kernel_rfl) (at_dep rfl rfl rfl)), trivial⟩ (at_top rfl)) ?_
                refine bl_cons 26 rfl (isX S (combX S (x) (x))) (stab_isX) (rg_call [isV s.f.val, isRowX S [x, x]] rfl goes_37 (w_yes 80 rfl (by kernel_rfl) (by kernel_rfl) (at_dep rfl rfl rfl)) ⟨p_tmp (g_dep 21 (by kernel_rfl) (at_dep rfl rfl rfl)), p_tmp (g_dep 24 (by kernel_rfl) (at_dep rfl rfl rfl)), trivial⟩ (fun vs w' hb hh => comb2_gives hh (hsi.below (hS.below.trans (hb.mono hS.below.size))) hok (ht.below (hS.below.trans (hb.mono hS.below.size)))) (at_top rfl)) ?_
                refine bl_cons 27 rfl (isX S (x)) (stab_isX) (rgP (li := [(5, _)]) rfl (w_yes 80 rfl (by kernel_rfl) (by kernel_rfl) (at_dep rfl rfl rfl)) ⟨g_fr (by kernel_rfl) rfl, trivial⟩ (fun w hw => rn_loadA (vs := [_, _, _, _, _, _]) Tryz.isAgg33 Tryz.sizeOf33 rfl (CellsAt.agree (below_agree hw 0) (Nat.zero_le _) (CellsAt.own (j := 0) (m := 6) (hS.at_ 4 rfl) rfl))) (fun w hw => ⟨a.f, rfl, hxW.below hw⟩) (at_top rfl)) ?_
                refine bl_cons 28 rfl (isV (.bool true)) (stab_isV _) (rg_call [isX S (combX S (x) (x)), isX S (x)] rfl goes_22 (w_yes 80 rfl (by kernel_rfl) (by kernel_rfl) (at_dep rfl rfl rfl)) ⟨p_tmp (g_dep 25 (by kernel_rfl) (at_dep rfl rfl rfl)), p_tmp (g_dep 26 (by kernel_rfl) (at_dep rfl rfl rfl)), trivial⟩ (fun vs w' hb hh => same_gives hh (combX_self hok ox)) (at_top rfl)) ?_
                refine bl_cons 29 rfl (isV _) (stab_isV _) (rgV (li := [(87, _)]) rfl (w_yes 80 rfl (by kernel_rfl) (by kernel_rfl) (at_dep rfl rfl rfl)) ⟨g_dep 27 (by kernel_rfl) (at_dep rfl rfl rfl), trivial⟩ (fun w hw => rn_not rfl) (at_top rfl)) ?_
                refine bl_cons 30 rfl (isV _) (stab_isV _) (rgV (li := [(80, _), (88, _)]) rfl (w_free rfl) ⟨g_dep 20 (by kernel_rfl) (at_dep rfl rfl rfl), g_dep 28 (by kernel_rfl) (at_dep rfl rfl rfl), trivial⟩ (fun w hw => rn_pickF rfl rfl) (at_top rfl)) ?_
                refine bl_cons 31 rfl (isV _) (stab_isV _) (rgV (li := [(89, _)]) rfl (w_free rfl) ⟨g_dep 29 (by kernel_rfl) (at_dep rfl rfl rfl), trivial⟩ (fun w hw => rn_move rfl) (at_top rfl)) ?_
                refine bl_cons 32 rfl (isV _) (stab_isV _) (rgV (li := [(4, _)]) rfl (w_yes 90 rfl (by kernel_rfl) (by kernel_rfl) (at_dep rfl rfl rfl)) ⟨g_fr (by kernel_rfl) rfl, trivial⟩ (fun w hw => rn_loadA (vs := [_, _, _]) Tryz.isAgg25 Tryz.sizeOf25 rfl (CellsAt.agree (below_agree hw 0) (Nat.zero_le _) (CellsAt.own (j := 0) (m := 3) (hS.at_ 5 rfl) rfl))) (at_top rfl)) ?_
                refine bl_cons 33 rfl (isX S (zeroX S)) (stab_isX) (rgP (li := [(11, _)]) rfl (w_yes 90 rfl (by kernel_rfl) (by kernel_rfl) (at_dep rfl rfl rfl)) ⟨g_fr (by kernel_rfl) rfl, trivial⟩ (fun w hw => rn_loadA (vs := [_, _, _, _, _, _]) Tryz.isAgg33 Tryz.sizeOf33 rfl (CellsAt.agree (below_agree hw 0) (Nat.zero_le _) (CellsAt.own (j := 0) (m := 6) (hS.at_ 0 rfl) rfl))) (fun w hw => ⟨fz, rfl, h0W.below hw⟩) (at_top rfl)) ?_
                refine bl_cons 34 rfl (isX S (x)) (stab_isX) (rgP (li := [(5, _)]) rfl (w_yes 90 rfl (by kernel_rfl) (by kernel_rfl) (at_dep rfl rfl rfl)) ⟨g_fr (by kernel_rfl) rfl, trivial⟩ (fun w hw => rn_loadA (vs := [_, _, _, _, _, _]) Tryz.isAgg33 Tryz.sizeOf33 rfl (CellsAt.agree (below_agree hw 0) (Nat.zero_le _) (CellsAt.own (j := 0) (m := 6) (hS.at_ 4 rfl) rfl))) (fun w hw => ⟨a.f, rfl, hxW.below hw⟩) (at_top rfl)) ?_
                refine bl_cons 35 rfl (isRowX S [zeroX S, x]) (stab_isRowX) (rg_rowX2 rfl (w_yes 90 rfl (by kernel_rfl) (by kernel_rfl) (at_dep rfl rfl rfl)) ⟨p_tmp (g_dep 32 (by kernel_rfl) (at_dep rfl rfl rfl)), p_tmp (g_dep 33 (by kernel_rfl) (at_dep rfl rfl rfl)), trivial⟩ (at_top rfl)) ?_
                refine bl_cons 36 rfl (isX S (combX S (zeroX S) (x))) (stab_isX) (rg_call [isV s.f.val, isRowX S [zeroX S, x]] rfl goes_37 (w_yes 90 rfl (by kernel_rfl) (by kernel_rfl) (at_dep rfl rfl rfl)) ⟨p_tmp (g_dep 31 (by kernel_rfl) (at_dep rfl rfl rfl)), p_tmp (g_dep 34 (by kernel_rfl) (at_dep rfl rfl rfl)), trivial⟩ (fun vs w' hb hh => comb2_gives hh (hsi.below (hS.below.trans (hb.mono hS.below.size))) hok (ht.below (hS.below.trans (hb.mono hS.below.size)))) (at_top rfl)) ?_
                refine bl_cons 37 rfl (isX S (x)) (stab_isX) (rgP (li := [(5, _)]) rfl (w_yes 90 rfl (by kernel_rfl) (by kernel_rfl) (at_dep rfl rfl rfl)) ⟨g_fr (by kernel_rfl) rfl, trivial⟩ (fun w hw => rn_loadA (vs := [_, _, _, _, _, _]) Tryz.isAgg33 Tryz.sizeOf33 rfl (CellsAt.agree (below_agree hw 0) (Nat.zero_le _) (CellsAt.own (j := 0) (m := 6) (hS.at_ 4 rfl) rfl))) (fun w hw => ⟨a.f, rfl, hxW.below hw⟩) (at_top rfl)) ?_
                refine bl_cons 38 rfl (isV (.bool true)) (stab_isV _) (rg_call [isX S (combX S (zeroX S) (x)), isX S (x)] rfl goes_22 (w_yes 90 rfl (by kernel_rfl) (by kernel_rfl) (at_dep rfl rfl rfl)) ⟨p_tmp (g_dep 35 (by kernel_rfl) (at_dep rfl rfl rfl)), p_tmp (g_dep 36 (by kernel_rfl) (at_dep rfl rfl rfl)), trivial⟩ (fun vs w' hb hh => same_gives hh (combX_zero ox)) (at_top rfl)) ?_
                refine bl_cons 39 rfl (isV _) (stab_isV _) (rgV (li := [(97, _)]) rfl (w_yes 90 rfl (by kernel_rfl) (by kernel_rfl) (at_dep rfl rfl rfl)) ⟨g_dep 37 (by kernel_rfl) (at_dep rfl rfl rfl), trivial⟩ (fun w hw => rn_not rfl) (at_top rfl)) ?_
                refine bl_cons 40 rfl (isV _) (stab_isV _) (rgV (li := [(90, _), (98, _)]) rfl (w_free rfl) ⟨g_dep 30 (by kernel_rfl) (at_dep rfl rfl rfl), g_dep 38 (by kernel_rfl) (at_dep rfl rfl rfl), trivial⟩ (fun w hw => rn_pickF rfl rfl) (at_top rfl)) ?_
                refine bl_cons 41 rfl (isV _) (stab_isV _) (rgV (li := [(99, _)]) rfl (w_free rfl) ⟨g_dep 39 (by kernel_rfl) (at_dep rfl rfl rfl), trivial⟩ (fun w hw => rn_move rfl) (at_top rfl)) ?_
                refine bl_cons 42 rfl (isV _) (stab_isV _) (rgV (li := [(4, _)]) rfl (w_yes 100 rfl (by kernel_rfl) (by kernel_rfl) (at_dep rfl rfl rfl)) ⟨g_fr (by kernel_rfl) rfl, trivial⟩ (fun w hw => rn_loadA (vs := [_, _, _]) Tryz.isAgg25 Tryz.sizeOf25 rfl (CellsAt.agree (below_agree hw 0) (Nat.zero_le _) (CellsAt.own (j := 0) (m := 3) (hS.at_ 5 rfl) rfl))) (at_top rfl)) ?_
                refine bl_cons 43 rfl (isV _) (stab_isV _) (rgV (li := [(4, _)]) rfl (w_yes 100 rfl (by kernel_rfl) (by kernel_rfl) (at_dep rfl rfl rfl)) ⟨g_fr (by kernel_rfl) rfl, trivial⟩ (fun w hw => rn_loadA (vs := [_, _, _]) Tryz.isAgg25 Tryz.sizeOf25 rfl (CellsAt.agree (below_agree hw 0) (Nat.zero_le _) (CellsAt.own (j := 0) (m := 3) (hS.at_ 5 rfl) rfl))) (at_top rfl)) ?_
                refine bl_cons 44 rfl (isX S (x)) (stab_isX) (rgP (li := [(5, _)]) rfl (w_yes 100 rfl (by kernel_rfl) (by kernel_rfl) (at_dep rfl rfl rfl)) ⟨g_fr (by kernel_rfl) rfl, trivial⟩ (fun w hw => rn_loadA (vs := [_, _, _, _, _, _]) Tryz.isAgg33 Tryz.sizeOf33 rfl (CellsAt.agree (below_agree hw 0) (Nat.zero_le _) (CellsAt.own (j := 0) (m := 6) (hS.at_ 4 rfl) rfl))) (fun w hw => ⟨a.f, rfl, hxW.below hw⟩) (at_top rfl)) ?_
                refine bl_cons 45 rfl (isX S (y)) (stab_isX) (rgP (li := [(6, _)]) rfl (w_yes 100 rfl (by kernel_rfl) (by kernel_rfl) (at_dep rfl rfl rfl)) ⟨g_fr (by kernel_rfl) rfl, trivial⟩ (fun w hw => rn_loadA (vs := [_, _, _, _, _, _]) Tryz.isAgg33 Tryz.sizeOf33 rfl (CellsAt.agree (below_agree hw 0) (Nat.zero_le _) (CellsAt.own (j := 0) (m := 6) (hS.at_ 3 rfl) rfl))) (fun w hw => ⟨b.f, rfl, hyW.below hw⟩) (at_top rfl)) ?_
                refine bl_cons 46 rfl (isRowX S [x, y]) (stab_isRowX) (rg_rowX2 rfl (w_yes 100 rfl (by kernel_rfl) (by kernel_rfl) (at_dep rfl rfl rfl)) ⟨p_tmp (g_dep 43 (by kernel_rfl) (at_dep rfl rfl rfl)), p_tmp (g_dep 44 (by kernel_rfl) (at_dep rfl rfl rfl)), trivial⟩ (at_top rfl)) ?_
                refine bl_cons 47 rfl (isX S (combX S (x) (y))) (stab_isX) (rg_call [isV s.f.val, isRowX S [x, y]] rfl goes_37 (w_yes 100 rfl (by kernel_rfl) (by kernel_rfl) (at_dep rfl rfl rfl)) ⟨p_tmp (g_dep 42 (by kernel_rfl) (at_dep rfl rfl rfl)), p_tmp (g_dep 45 (by kernel_rfl) (at_dep rfl rfl rfl)), trivial⟩ (fun vs w' hb hh => comb2_gives hh (hsi.below (hS.below.trans (hb.mono hS.below.size))) hok (ht.below (hS.below.trans (hb.mono hS.below.size)))) (at_top rfl)) ?_
                refine bl_cons 48 rfl (isX S (z)) (stab_isX) (rgP (li := [(7, _)]) rfl (w_yes 100 rfl (by kernel_rfl) (by kernel_rfl) (at_dep rfl rfl rfl)) ⟨g_fr (by kernel_rfl) rfl, trivial⟩ (fun w hw => rn_loadA (vs := [_, _, _, _, _, _]) Tryz.isAgg33 Tryz.sizeOf33 rfl (CellsAt.agree (below_agree hw 0) (Nat.zero_le _) (CellsAt.own (j := 0) (m := 6) (hS.at_ 2 rfl) rfl))) (fun w hw => ⟨c.f, rfl, hzW.below hw⟩) (at_top rfl)) ?_
                refine bl_cons 49 rfl (isRowX S [combX S (x) (y), z]) (stab_isRowX) (rg_rowX2 rfl (w_yes 100 rfl (by kernel_rfl) (by kernel_rfl) (at_dep rfl rfl rfl)) ⟨p_tmp (g_dep 46 (by kernel_rfl) (at_dep rfl rfl rfl)), p_tmp (g_dep 47 (by kernel_rfl) (at_dep rfl rfl rfl)), trivial⟩ (at_top rfl)) ?_
                refine bl_cons 50 rfl (isX S (combX S (combX S (x) (y)) (z))) (stab_isX) (rg_call [isV s.f.val, isRowX S [combX S (x) (y), z]] rfl goes_37 (w_yes 100 rfl (by kernel_rfl) (by kernel_rfl) (at_dep rfl rfl rfl)) ⟨p_tmp (g_dep 41 (by kernel_rfl) (at_dep rfl rfl rfl)), p_tmp (g_dep 48 (by kernel_rfl) (at_dep rfl rfl rfl)), trivial⟩ (fun vs w' hb hh => comb2_gives hh (hsi.below (hS.below.trans (hb.mono hS.below.size))) hok (ht.below (hS.below.trans (hb.mono hS.below.size)))) (at_top rfl)) ?_
                refine bl_cons 51 rfl (isV _) (stab_isV _) (rgV (li := [(4, _)]) rfl (w_yes 100 rfl (by kernel_rfl) (by kernel_rfl) (at_dep rfl rfl rfl)) ⟨g_fr (by kernel_rfl) rfl, trivial⟩ (fun w hw => rn_loadA (vs := [_, _, _]) Tryz.isAgg25 Tryz.sizeOf25 rfl (CellsAt.agree (below_agree hw 0) (Nat.zero_le _) (CellsAt.own (j := 0) (m := 3) (hS.at_ 5 rfl) rfl))) (at_top rfl)) ?_
                refine bl_cons 52 rfl (isX S (x)) (stab_isX) (rgP (li := [(5, _)]) rfl (w_yes 100 rfl (by kernel_rfl) (by kernel_rfl) (at_dep rfl rfl rfl)) ⟨g_fr (by kernel_rfl) rfl, trivial⟩ (fun w hw => rn_loadA (vs := [_, _, _, _, _, _]) Tryz.isAgg33 Tryz.sizeOf33 rfl (CellsAt.agree (below_agree hw 0) (Nat.zero_le _) (CellsAt.own (j := 0) (m := 6) (hS.at_ 4 rfl) rfl))) (fun w hw => ⟨a.f, rfl, hxW.below hw⟩) (at_top rfl)) ?_
                refine bl_cons 53 rfl (isX S (y)) (stab_isX) (rgP (li := [(6, _)]) rfl (w_yes 100 rfl (by kernel_rfl) (by kernel_rfl) (at_dep rfl rfl rfl)) ⟨g_fr (by kernel_rfl) rfl, trivial⟩ (fun w hw => rn_loadA (vs := [_, _, _, _, _, _]) Tryz.isAgg33 Tryz.sizeOf33 rfl (CellsAt.agree (below_agree hw 0) (Nat.zero_le _) (CellsAt.own (j := 0) (m := 6) (hS.at_ 3 rfl) rfl))) (fun w hw => ⟨b.f, rfl, hyW.below hw⟩) (at_top rfl)) ?_
                refine bl_cons 54 rfl (isX S (z)) (stab_isX) (rgP (li := [(7, _)]) rfl (w_yes 100 rfl (by kernel_rfl) (by kernel_rfl) (at_dep rfl rfl rfl)) ⟨g_fr (by kernel_rfl) rfl, trivial⟩ (fun w hw => rn_loadA (vs := [_, _, _, _, _, _]) Tryz.isAgg33 Tryz.sizeOf33 rfl (CellsAt.agree (below_agree hw 0) (Nat.zero_le _) (CellsAt.own (j := 0) (m := 6) (hS.at_ 2 rfl) rfl))) (fun w hw => ⟨c.f, rfl, hzW.below hw⟩) (at_top rfl)) ?_
                refine bl_cons 55 rfl (isRowX S [x, y, z]) (stab_isRowX) (rg_rowX3 rfl (w_yes 100 rfl (by kernel_rfl) (by kernel_rfl) (at_dep rfl rfl rfl)) ⟨p_tmp (g_dep 51 (by kernel_rfl) (at_dep rfl rfl rfl)), p_tmp (g_dep 52 (by kernel_rfl) (at_dep rfl rfl rfl)), p_tmp (g_dep 53 (by kernel_rfl) (at_dep rfl rfl rfl)), trivial⟩ (at_top rfl)) ?_
                refine bl_cons 56 rfl (isX S (combX S (combX S (x) (y)) (z))) (stab_isX) (rg_call [isV s.f.val, isRowX S [x, y, z]] rfl goes_37 (w_yes 100 rfl (by kernel_rfl) (by kernel_rfl) (at_dep rfl rfl rfl)) ⟨p_tmp (g_dep 50 (by kernel_rfl) (at_dep rfl rfl rfl)), p_tmp (g_dep 54 (by kernel_rfl) (at_dep rfl rfl rfl)), trivial⟩ (fun vs w' hb hh => comb3_gives hh (hsi.below (hS.below.trans (hb.mono hS.below.size))) hok (ht.below (hS.below.trans (hb.mono hS.below.size)))) (at_top rfl)) ?_
                refine bl_cons 57 rfl (isV (.bool true)) (stab_isV _) (rg_call [isX S (combX S (combX S (x) (y)) (z)), isX S (combX S (combX S (x) (y)) (z))] rfl goes_22 (w_yes 100 rfl (by kernel_rfl) (by kernel_rfl) (at_dep rfl rfl rfl)) ⟨p_tmp (g_dep 49 (by kernel_rfl) (at_dep rfl rfl rfl)), p_tmp (g_dep 55 (by kernel_rfl) (at_dep rfl rfl rfl)), trivial⟩ (fun vs w' hb hh => same_gives hh (rfl)) (at_top rfl)) ?_
                refine bl_cons 58 rfl (isV _) (stab_isV _) (rgV (li := [(116, _)]) rfl (w_yes 100 rfl (by kernel_rfl) (by kernel_rfl) (at_dep rfl rfl rfl)) ⟨g_dep 56 (by kernel_rfl) (at_dep rfl rfl rfl), trivial⟩ (fun w hw => rn_not rfl) (at_top rfl)) ?_
                refine bl_cons 59 rfl (isV _) (stab_isV _) (rgV (li := [(100, _), (117, _)]) rfl (w_free rfl) ⟨g_dep 40 (by kernel_rfl) (at_dep rfl rfl rfl), g_dep 57 (by kernel_rfl) (at_dep rfl rfl rfl), trivial⟩ (fun w hw => rn_pickF rfl rfl) (at_top rfl)) ?_
                refine bl_nil ?_
                intro W25 hbR hS'
                clear hS; have hS := hS'; clear hS'
                refine fin_v ?_
                refine fin_v ?_
                refine fin_v ?_
                refine fin_v ?_
                refine fin_v ?_
                refine fin_v ?_
                refine fin_v ?_
                refine fin_v ?_
                refine fin_p ?_; rintro _ _
                refine fin_p ?_; rintro _ _
                refine fin_p ?_; rintro _ _
                refine fin_p ?_; rintro _ _
                refine fin_v ?_
                refine fin_p ?_; rintro _ _
                refine fin_p ?_; rintro _ _
                refine fin_p ?_; rintro _ _
                refine fin_p ?_; rintro _ _
                refine fin_v ?_
                refine fin_v ?_
                refine fin_v ?_
                refine fin_v ?_
                refine fin_v ?_
                refine fin_p ?_; rintro _ _
                refine fin_p ?_; rintro _ _
                refine fin_p ?_; rintro _ _
                refine fin_p ?_; rintro _ _
                refine fin_p ?_; rintro _ _
                refine fin_v ?_
                refine fin_v ?_
                refine fin_v ?_
                refine fin_v ?_
                refine fin_v ?_
                refine fin_p ?_; rintro _ _
                refine fin_p ?_; rintro _ _
                refine fin_p ?_; rintro _ _
                refine fin_p ?_; rintro _ _
                refine fin_p ?_; rintro _ _
                refine fin_v ?_
                refine fin_v ?_
                refine fin_v ?_
                refine fin_v ?_
                refine fin_v ?_
                refine fin_v ?_
                refine fin_p ?_; rintro _ _
                refine fin_p ?_; rintro _ _
                refine fin_p ?_; rintro _ _
                refine fin_p ?_; rintro _ _
                refine fin_p ?_; rintro _ _
                refine fin_p ?_; rintro _ _
                refine fin_p ?_; rintro _ _
                refine fin_v ?_
                refine fin_p ?_; rintro _ _
                refine fin_p ?_; rintro _ _
                refine fin_p ?_; rintro _ _
                refine fin_p ?_; rintro _ _
                refine fin_p ?_; rintro _ _
                refine fin_v ?_
                refine fin_v ?_
                refine fin_v ?_
                refine fin_nil ?_
                refine XF.thenN ?_
                refine condN rfl ?_
                refine skipF ?_
                refine XF.thenN ?_
                refine seqF ?_
                refine seqF ?_
                clear hxW hyW hzW h0W
                have hxW := hx.below hS.below
                have hyW := hy.below hS.below
                have hzW := hz.below hS.below
                have h0W := (hnz.agree (hS.since 1 rfl)).is
                have hoW := (hno.agree (hS.since 2 rfl)).is
                refine regB (m := 60) followsM hS (by kernel_rfl) (by kernel_rfl) rfl ?_
                refine bl_cons 1 rfl (isV _) (stab_isV _) (rgV (li := [(4, _)]) rfl (w_free rfl) ⟨g_fr (by kernel_rfl) rfl, trivial⟩ (fun w hw => rn_loadA (vs := [_, _, _]) Tryz.isAgg25 Tryz.sizeOf25 rfl (CellsAt.agree (below_agree hw 0) (Nat.zero_le _) (CellsAt.own (j := 0) (m := 3) (hS.at_ 5 rfl) rfl))) (at_top rfl)) ?_
                refine bl_cons 2 rfl (isV _) (stab_isV _) (rgV (li := [(4, _)]) rfl (w_free rfl) ⟨g_fr (by kernel_rfl) rfl, trivial⟩ (fun w hw => rn_loadA (vs := [_, _, _]) Tryz.isAgg25 Tryz.sizeOf25 rfl (CellsAt.agree (below_agree hw 0) (Nat.zero_le _) (CellsAt.own (j := 0) (m := 3) (hS.at_ 5 rfl) rfl))) (at_top rfl)) ?_
                refine bl_cons 3 rfl (isX S (x)) (stab_isX) (rgP (li := [(5, _)]) rfl (w_free rfl) ⟨g_fr (by kernel_rfl) rfl, trivial⟩ (fun w hw => rn_loadA (vs := [_, _, _, _, _, _]) Tryz.isAgg33 Tryz.sizeOf33 rfl (CellsAt.agree (below_agree hw 0) (Nat.zero_le _) (CellsAt.own (j := 0) (m := 6) (hS.at_ 4 rfl) rfl))) (fun w hw => ⟨a.f, rfl, hxW.below hw⟩) (at_top rfl)) ?_
                refine bl_cons 4 rfl (isX S (y)) (stab_isX) (rgP (li := [(6, _)]) rfl (w_free rfl) ⟨g_fr (by kernel_rfl) rfl, trivial⟩ (fun w hw => rn_loadA (vs := [_, _, _, _, _, _]) Tryz.isAgg33 Tryz.sizeOf33 rfl (CellsAt.agree (below_agree hw 0) (Nat.zero_le _) (CellsAt.own (j := 0) (m := 6) (hS.at_ 3 rfl) rfl))) (fun w hw => ⟨b.f, rfl, hyW.below hw⟩) (at_top rfl)) ?_
                refine bl_cons 5 rfl (isRowX S [x, y]) (stab_isRowX) (rg_rowX2 rfl (w_free rfl) ⟨p_tmp (g_dep 2 (by kernel_rfl) (at_dep rfl rfl rfl)), p_tmp (g_dep 3 (by kernel_rfl) (at_dep rfl rfl rfl)), trivial⟩ (at_top rfl)) ?_
                refine bl_cons 6 rfl (isX S (extX S (x) (y))) (stab_isX) (rg_call [isV s.f.val, isRowX S [x, y]] rfl goes_38 (w_free rfl) ⟨p_tmp (g_dep 1 (by kernel_rfl) (at_dep rfl rfl rfl)), p_tmp (g_dep 4 (by kernel_rfl) (at_dep rfl rfl rfl)), trivial⟩ (fun vs w' hb hh => ext2_gives hh (hsi.below (hS.below.trans (hb.mono hS.below.size))) hok (ht.below (hS.below.trans (hb.mono hS.below.size)))) (at_top rfl)) ?_
                refine bl_cons 7 rfl (isX S (z)) (stab_isX) (rgP (li := [(7, _)]) rfl (w_free rfl) ⟨g_fr (by kernel_rfl) rfl, trivial⟩ (fun w hw => rn_loadA (vs := [_, _, _, _, _, _]) Tryz.isAgg33 Tryz.sizeOf33 rfl (CellsAt.agree (below_agree hw 0) (Nat.zero_le _) (CellsAt.own (j := 0) (m := 6) (hS.at_ 2 rfl) rfl))) (fun w hw => ⟨c.f, rfl, hzW.below hw⟩) (at_top rfl)) ?_
                refine bl_cons 8 rfl (isRowX S [extX S (x) (y), z]) (stab_isRowX) (rg_rowX2 rfl (w_free rfl) ⟨p_tmp (g_dep 5 (by kernel_rfl) (at_dep rfl rfl rfl)), p_tmp (g_dep 6 (by kernel_rfl) (at_dep rfl rfl rfl)), trivial⟩ (at_top rfl)) ?_
                refine bl_cons 9 rfl (isX S (extX S (extX S (x) (y)) (z))) (stab_isX) (rg_call [isV s.f.val, isRowX S [extX S (x) (y), z]] rfl goes_38 (w_free rfl) ⟨p_tmp (g_dep 0 (by kernel_rfl) (at_dep rfl rfl rfl)), p_tmp (g_dep 7 (by kernel_rfl) (at_dep rfl rfl rfl)), trivial⟩ (fun vs w' hb hh => ext2_gives hh (hsi.below (hS.below.trans (hb.mono hS.below.size))) hok (ht.below (hS.below.trans (hb.mono hS.below.size)))) (at_top rfl)) ?_
                refine bl_cons 10 rfl (isV _) (stab_isV _) (rgV (li := [(4, _)]) rfl (w_free rfl) ⟨g_fr (by kernel_rfl) rfl, trivial⟩ (fun w hw => rn_loadA (vs := [_, _, _]) Tryz.isAgg25 Tryz.sizeOf25 rfl (CellsAt.agree (below_agree hw 0) (Nat.zero_le _) (CellsAt.own (j := 0) (m := 3) (hS.at_ 5 rfl) rfl))) (at_top rfl)) ?_
                refine bl_cons 11 rfl (isX S (x)) (stab_isX) (rgP (li := [(5, _)]) rfl (w_free rfl) ⟨g_fr (by kernel_rfl) rfl, trivial⟩ (fun w hw => rn_loadA (vs := [_, _, _, _, _, _]) Tryz.isAgg33 Tryz.sizeOf33 rfl (CellsAt.agree (below_agree hw 0) (Nat.zero_le _) (CellsAt.own (j := 0) (m := 6) (hS.at_ 4 rfl) rfl))) (fun w hw => ⟨a.f, rfl, hxW.below hw⟩) (at_top rfl)) ?_
                refine bl_cons 12 rfl (isV _) (stab_isV _) (rgV (li := [(4, _)]) rfl (w_free rfl) ⟨g_fr (by kernel_rfl) rfl, trivial⟩ (fun w hw => rn_loadA (vs := [_, _, _]) Tryz.isAgg25 Tryz.sizeOf25 rfl (CellsAt.agree (below_agree hw 0) (Nat.zero_le _) (CellsAt.own (j := 0) (m := 3) (hS.at_ 5 rfl) rfl))) (at_top rfl)) ?_
                refine bl_cons 13 rfl (isX S (y)) (stab_isX) (rgP (li := [(6, _)]) rfl (w_free rfl) ⟨g_fr (by kernel_rfl) rfl, trivial⟩ (fun w hw => rn_loadA (vs := [_, _, _, _, _, _]) Tryz.isAgg33 Tryz.sizeOf33 rfl (CellsAt.agree (below_agree hw 0) (Nat.zero_le _) (CellsAt.own (j := 0) (m := 6) (hS.at_ 3 rfl) rfl))) (fun w hw => ⟨b.f, rfl, hyW.below hw⟩) (at_top rfl)) ?_
                refine bl_cons 14 rfl (isX S (z)) (stab_isX) (rgP (li := [(7, _)]) rfl (w_free rfl) ⟨g_fr (by kernel_rfl) rfl, trivial⟩ (fun w hw => rn_loadA (vs := [_, _, _, _, _, _]) Tryz.isAgg33 Tryz.sizeOf33 rfl (CellsAt.agree (below_agree hw 0) (Nat.zero_le _) (CellsAt.own (j := 0) (m := 6) (hS.at_ 2 rfl) rfl))) (fun w hw => ⟨c.f, rfl, hzW.below hw⟩) (at_top rfl)) ?_
                refine bl_cons 15 rfl (isRowX S [y, z]) (stab_isRowX) (rg_rowX2 rfl (w_free rfl) ⟨p_tmp (g_dep 12 (by kernel_rfl) (at_dep rfl rfl rfl)), p_tmp (g_dep 13 (by kernel_rfl) (at_dep rfl rfl rfl)), trivial⟩ (at_top rfl)) ?_
                refine bl_cons 16 rfl (isX S (extX S (y) (z))) (stab_isX) (rg_call [isV s.f.val, isRowX S [y, z]] rfl goes_38 (w_free rfl) ⟨p_tmp (g_dep 11 (by kernel_rfl) (at_dep rfl rfl rfl)), p_tmp (g_dep 14 (by kernel_rfl) (at_dep rfl rfl rfl)), trivial⟩ (fun vs w' hb hh => ext2_gives hh (hsi.below (hS.below.trans (hb.mono hS.below.size))) hok (ht.below (hS.below.trans (hb.mono hS.below.size)))) (at_top rfl)) ?_
                refine bl_cons 17 rfl (isRowX S [x, extX S (y) (z)]) (stab_isRowX) (rg_rowX2 rfl (w_free rfl) ⟨p_tmp (g_dep 10 (by kernel_rfl) (at_dep rfl rfl rfl)), p_tmp (g_dep 15 (by kernel_rfl) (at_dep rfl rfl rfl)), trivial⟩ (at_top rfl)) ?_
                refine bl_cons 18 rfl (isX S (extX S (x) (extX S (y) (z)))) (stab_isX) (rg_call [isV s.f.val, isRowX S [x, extX S (y) (z)]] rfl goes_38 (w_free rfl) ⟨p_tmp (g_dep 9 (by kernel_rfl) (at_dep rfl rfl rfl)), p_tmp (g_dep 16 (by kernel_rfl) (at_dep rfl rfl rfl)), trivial⟩ (fun vs w' hb hh => ext2_gives hh (hsi.below (hS.below.trans (hb.mono hS.below.size))) hok (ht.below (hS.below.trans (hb.mono hS.below.size)))) (at_top rfl)) ?_
                refine bl_cons 19 rfl (isV (.bool true)) (stab_isV _) (rg_call [isX S (extX S (extX S (x) (y)) (z)), isX S (extX S (x) (extX S (y) (z)))] rfl goes_22 (w_free rfl) ⟨p_tmp (g_dep 8 (by kernel_rfl) (at_dep rfl rfl rfl)), p_tmp (g_dep 17 (by kernel_rfl) (at_dep rfl rfl rfl)), trivial⟩ (fun vs w' hb hh => same_gives hh (extX_assoc hok ox oy oz)) (at_top rfl)) ?_
                refine bl_cons 20 rfl (isV _) (stab_isV _) (rgV (li := [(137, _)]) rfl (w_free rfl) ⟨g_dep 18 (by kernel_rfl) (at_dep rfl rfl rfl), trivial⟩ (fun w hw => rn_not rfl) (at_top rfl)) ?_
                refine bl_cons 21 rfl (isV _) (stab_isV _) (rgV (li := [(138, _)]) rfl (w_free rfl) ⟨g_dep 19 (by kernel_rfl) (at_dep rfl rfl rfl), trivial⟩ (fun w hw => rn_move rfl) (at_top rfl)) ?_
                refine bl_cons 22 rfl (isV _) (stab_isV _) (rgV (li := [(4, _)]) rfl (w_yes 139 rfl (by kernel_rfl) (by kernel_rfl) (at_dep rfl rfl rfl)) ⟨g_fr (by kernel_rfl) rfl, trivial⟩ (fun w hw => rn_loadA (vs := [_, _, _]) Tryz.isAgg25 Tryz.sizeOf25 rfl (CellsAt.agree (below_agree hw 0) (Nat.zero_le _) (CellsAt.own (j := 0) (m := 3) (hS.at_ 5 rfl) rfl))) (at_top rfl)) ?_
                refine bl_cons 23 rfl (isX S (oneX S)) (stab_isX) (rgP (li := [(9, _)]) rfl (w_yes 139 rfl (by kernel_rfl) (by kernel_rfl) (at_dep rfl rfl rfl)) ⟨g_fr (by kernel_rfl) rfl, trivial⟩ (fun w hw => rn_loadA (vs := [_, _, _, _, _, _]) Tryz.isAgg33 Tryz.sizeOf33 rfl (CellsAt.agree (below_agree hw 0) (Nat.zero_le _) (CellsAt.own (j := 0) (m := 6) (hS.at_ 1 rfl) rfl))) (fun w hw => ⟨fo, rfl, hoW.below hw⟩) (at_top rfl)) ?_
                refine bl_cons 24 rfl (isX S (x)) (stab_isX) (rgP (li := [(5, _)]) rfl (w_yes 139 rfl (by kernel_rfl) (by kernel_rfl) (at_dep rfl rfl rfl)) ⟨g_fr (by kernel_rfl) rfl, trivial⟩ (fun w hw => rn_loadA (vs := [_, _, _, _, _, _]) Tryz.isAgg33 Tryz.sizeOf33 rfl (CellsAt.agree (below_agree hw 0) (Nat.zero_le _) (CellsAt.own (j := 0) (m := 6) (hS.at_ 4 rfl) rfl))) (fun w hw => ⟨a.f, rfl, hxW.below hw⟩) (at_top rfl)) ?_
                refine bl_cons 25 rfl (isRowX S [oneX S, x]) (stab_isRowX) (rg_rowX2 rfl (w_yes 139 rfl (by kernel_rfl) (by kernel_rfl) (at_dep rfl rfl rfl)) ⟨p_tmp (g_dep 22 (by kernel_rfl) (at_dep rfl rfl rfl)), p_tmp (g_dep 23 (by kernel_rfl) (at_dep rfl rfl rfl)), trivial⟩ (at_top rfl)) ?_
                refine bl_cons 26 rfl (isX S (extX S (oneX S) (x))) (stab_isX) (rg_call [isV s.f.val, isRowX S [oneX S, x]] rfl goes_38 (w_yes 139 rfl (by kernel_rfl) (by kernel_rfl) (at_dep rfl rfl rfl)) ⟨p_tmp (g_dep 21 (by kernel_rfl) (at_dep rfl rfl rfl)), p_tmp (g_dep 24 (by kernel_rfl) (at_dep rfl rfl rfl)), trivial⟩ (fun vs w' hb hh => ext2_gives hh (hsi.below (hS.below.trans (hb.mono hS.below.size))) hok (ht.below (hS.below.trans (hb.mono hS.below.size)))) (at_top rfl)) ?_
                refine bl_cons 27 rfl (isX S (x)) (stab_isX) (rgP (li := [(5, _)]) rfl (w_yes 139 rfl (by kernel_rfl) (by kernel_rfl) (at_dep rfl rfl rfl)) ⟨g_fr (by kernel_rfl) rfl, trivial⟩ (fun w hw => rn_loadA (vs := [_, _, _, _, _, _]) Tryz.isAgg33 Tryz.sizeOf33 rfl (CellsAt.agree (below_agree hw 0) (Nat.zero_le _) (CellsAt.own (j := 0) (m := 6) (hS.at_ 4 rfl) rfl))) (fun w hw => ⟨a.f, rfl, hxW.below hw⟩) (at_top rfl)) ?_
                refine bl_cons 28 rfl (isV (.bool true)) (stab_isV _) (rg_call [isX S (extX S (oneX S) (x)), isX S (x)] rfl goes_22 (w_yes 139 rfl (by kernel_rfl) (by kernel_rfl) (at_dep rfl rfl rfl)) ⟨p_tmp (g_dep 25 (by kernel_rfl) (at_dep rfl rfl rfl)), p_tmp (g_dep 26 (by kernel_rfl) (at_dep rfl rfl rfl)), trivial⟩ (fun vs w' hb hh => same_gives hh (oneX_ext hok ox)) (at_top rfl)) ?_
                refine bl_cons 29 rfl (isV _) (stab_isV _) (rgV (li := [(146, _)]) rfl (w_yes 139 rfl (by kernel_rfl) (by kernel_rfl) (at_dep rfl rfl rfl)) ⟨g_dep 27 (by kernel_rfl) (at_dep rfl rfl rfl), trivial⟩ (fun w hw => rn_not rfl) (at_top rfl)) ?_
                refine bl_cons 30 rfl (isV _) (stab_isV _) (rgV (li := [(139, _), (147, _)]) rfl (w_free rfl) ⟨g_dep 20 (by kernel_rfl) (at_dep rfl rfl rfl), g_dep 28 (by kernel_rfl) (at_dep rfl rfl rfl), trivial⟩ (fun w hw => rn_pickF rfl rfl) (at_top rfl)) ?_
                refine bl_cons 31 rfl (isV _) (stab_isV _) (rgV (li := [(148, _)]) rfl (w_free rfl) ⟨g_dep 29 (by kernel_rfl) (at_dep rfl rfl rfl), trivial⟩ (fun w hw => rn_move rfl) (at_top rfl)) ?_
                refine bl_cons 32 rfl (isV _) (stab_isV _) (rgV (li := [(4, _)]) rfl (w_yes 149 rfl (by kernel_rfl) (by kernel_rfl) (at_dep rfl rfl rfl)) ⟨g_fr (by kernel_rfl) rfl, trivial⟩ (fun w hw => rn_loadA (vs := [_, _, _]) Tryz.isAgg25 Tryz.sizeOf25 rfl (CellsAt.agree (below_agree hw 0) (Nat.zero_le _) (CellsAt.own (j := 0) (m := 3) (hS.at_ 5 rfl) rfl))) (at_top rfl)) ?_
                refine bl_cons 33 rfl (isX S (x)) (stab_isX) (rgP (li := [(5, _)]) rfl (w_yes 149 rfl (by kernel_rfl) (by kernel_rfl) (at_dep rfl rfl rfl)) ⟨g_fr (by kernel_rfl) rfl, trivial⟩ (fun w hw => rn_loadA (vs := [_, _, _, _, _, _]) Tryz.isAgg33 Tryz.sizeOf33 rfl (CellsAt.agree (below_agree hw 0) (Nat.zero_le _) (CellsAt.own (j := 0) (m := 6) (hS.at_ 4 rfl) rfl))) (fun w hw => ⟨a.f, rfl, hxW.below hw⟩) (at_top rfl)) ?_
                refine bl_cons 34 rfl (isX S (oneX S)) (stab_isX) (rgP (li := [(9, _)]) rfl (w_yes 149 rfl (by kernel_rfl) (by kernel_rfl) (at_dep rfl rfl rfl)) ⟨g_fr (by kernel_rfl) rfl, trivial⟩ (fun w hw => rn_loadA (vs := [_, _, _, _, _, _]) Tryz.isAgg33 Tryz.sizeOf33 rfl (CellsAt.agree (below_agree hw 0) (Nat.zero_le _) (CellsAt.own (j := 0) (m := 6) (hS.at_ 1 rfl) rfl))) (fun w hw => ⟨fo, rfl, hoW.below hw⟩) (at_top rfl)) ?_
                refine bl_cons 35 rfl (isRowX S [x, oneX S]) (stab_isRowX) (rg_rowX2 rfl (w_yes 149 rfl (by kernel_rfl) (by kernel_rfl) (at_dep rfl rfl rfl)) ⟨p_tmp (g_dep 32 (by kernel_rfl) (at_dep rfl rfl rfl)), p_tmp (g_dep 33 (by kernel_rfl) (at_dep rfl rfl rfl)), trivial⟩ (at_top rfl)) ?_
                refine bl_cons 36 rfl (isX S (extX S (x) (oneX S))) (stab_isX) (rg_call [isV s.f.val, isRowX S [x, oneX S]] rfl goes_38 (w_yes 149 rfl (by kernel_rfl) (by kernel_rfl) (at_dep rfl rfl rfl)) ⟨p_tmp (g_dep 31 (by kernel_rfl) (at_dep rfl rfl rfl)), p_tmp (g_dep 34 (by kernel_rfl) (at_dep rfl rfl rfl)), trivial⟩ (fun vs w' hb hh => ext2_gives hh (hsi.below (hS.below.trans (hb.mono hS.below.size))) hok (ht.below (hS.below.trans (hb.mono hS.below.size)))) (at_top rfl)) ?_
                refine bl_cons 37 rfl (isX S (x)) (stab_isX) (rgP (li := [(5, _)]) rfl (w_yes 149 rfl (by kernel_rfl) (by kernel_rfl) (at_dep rfl rfl rfl)) ⟨g_fr (by kernel_rfl) rfl, trivial⟩ (fun w hw => rn_loadA (vs := [_, _, _, _, _, _]) Tryz.isAgg33 Tryz.sizeOf33 rfl (CellsAt.agree (below_agree hw 0) (Nat.zero_le _) (CellsAt.own (j := 0) (m := 6) (hS.at_ 4 rfl) rfl))) (fun w hw => ⟨a.f, rfl, hxW.below hw⟩) (at_top rfl)) ?_
                refine bl_cons 38 rfl (isV (.bool true)) (stab_isV _) (rg_call [isX S (extX S (x) (oneX S)), isX S (x)] rfl goes_22 (w_yes 149 rfl (by kernel_rfl) (by kernel_rfl) (at_dep rfl rfl rfl)) ⟨p_tmp (g_dep 35 (by kernel_rfl) (at_dep rfl rfl rfl)), p_tmp (g_dep 36 (by kernel_rfl) (at_dep rfl rfl rfl)), trivial⟩ (fun vs w' hb hh => same_gives hh (extX_one hok ox)) (at_top rfl)) ?_
                refine bl_cons 39 rfl (isV _) (stab_isV _) (rgV (li := [(156, _)]) rfl (w_yes 149 rfl (by kernel_rfl) (by kernel_rfl) (at_dep rfl rfl rfl)) ⟨g_dep 37 (by kernel_rfl) (at_dep rfl rfl rfl), trivial⟩ (fun w hw => rn_not rfl) (at_top rfl)) ?_
                refine bl_cons 40 rfl (isV _) (stab_isV _) (rgV (li := [(149, _), (157, _)]) rfl (w_free rfl) ⟨g_dep 30 (by kernel_rfl) (at_dep rfl rfl rfl), g_dep 38 (by kernel_rfl) (at_dep rfl rfl rfl), trivial⟩ (fun w hw => rn_pickF rfl rfl) (at_top rfl)) ?_
                refine bl_cons 41 rfl (isV _) (stab_isV _) (rgV (li := [(158, _)]) rfl (w_free rfl) ⟨g_dep 39 (by kernel_rfl) (at_dep rfl rfl rfl), trivial⟩ (fun w hw => rn_move rfl) (at_top rfl)) ?_
                refine bl_cons 42 rfl (isV _) (stab_isV _) (rgV (li := [(4, _)]) rfl (w_yes 159 rfl (by kernel_rfl) (by kernel_rfl) (at_dep rfl rfl rfl)) ⟨g_fr (by kernel_rfl) rfl, trivial⟩ (fun w hw => rn_loadA (vs := [_, _, _]) Tryz.isAgg25 Tryz.sizeOf25 rfl (CellsAt.agree (below_agree hw 0) (Nat.zero_le _) (CellsAt.own (j := 0) (m := 3) (hS.at_ 5 rfl) rfl))) (at_top rfl)) ?_
                refine bl_cons 43 rfl (isX S (zeroX S)) (stab_isX) (rgP (li := [(11, _)]) rfl (w_yes 159 rfl (by kernel_rfl) (by kernel_rfl) (at_dep rfl rfl rfl)) ⟨g_fr (by kernel_rfl) rfl, trivial⟩ (fun w hw => rn_loadA (vs := [_, _, _, _, _, _]) Tryz.isAgg33 Tryz.sizeOf33 rfl (CellsAt.agree (below_agree hw 0) (Nat.zero_le _) (CellsAt.own (j := 0) (m := 6) (hS.at_ 0 rfl) rfl))) (fun w hw => ⟨fz, rfl, h0W.below hw⟩) (at_top rfl)) ?_
                refine bl_cons 44 rfl (isX S (x)) (stab_isX) (rgP (li := [(5, _)]) rfl (w_yes 159 rfl (by kernel_rfl) (by kernel_rfl) (at_dep rfl rfl rfl)) ⟨g_fr (by kernel_rfl) rfl, trivial⟩ (fun w hw => rn_loadA (vs := [_, _, _, _, _, _]) Tryz.isAgg33 Tryz.sizeOf33 rfl (CellsAt.agree (below_agree hw 0) (Nat.zero_le _) (CellsAt.own (j := 0) (m := 6) (hS.at_ 4 rfl) rfl))) (fun w hw => ⟨a.f, rfl, hxW.below hw⟩) (at_top rfl)) ?_
                refine bl_cons 45 rfl (isRowX S [zeroX S, x]) (stab_isRowX) (rg_rowX2 rfl (w_yes 159 rfl (by kernel_rfl) (by kernel_rfl) (at_dep rfl rfl rfl)) ⟨p_tmp (g_dep 42 (by kernel_rfl) (at_dep rfl rfl rfl)), p_tmp (g_dep 43 (by kernel_rfl) (at_dep rfl rfl rfl)), trivial⟩ (at_top rfl)) ?_
                refine bl_cons 46 rfl (isX S (extX S (zeroX S) (x))) (stab_isX) (rg_call [isV s.f.val, isRowX S [zeroX S, x]] rfl goes_38 (w_yes 159 rfl (by kernel_rfl) (by kernel_rfl) (at_dep rfl rfl rfl)) ⟨p_tmp (g_dep 41 (by kernel_rfl) (at_dep rfl rfl rfl)), p_tmp (g_dep 44 (by kernel_rfl) (at_dep rfl rfl rfl)), trivial⟩ (fun vs w' hb hh => ext2_gives hh (hsi.below (hS.below.trans (hb.mono hS.below.size))) hok (ht.below (hS.below.trans (hb.mono hS.below.size)))) (at_top rfl)) ?_
                refine bl_cons 47 rfl (isX S (zeroX S)) (stab_isX) (rgP (li := [(11, _)]) rfl (w_yes 159 rfl (by kernel_rfl) (by kernel_rfl) (at_dep rfl rfl rfl)) ⟨g_fr (by kernel_rfl) rfl, trivial⟩ (fun w hw => rn_loadA (vs := [_, _, _, _, _, _]) Tryz.isAgg33 Tryz.sizeOf33 rfl (CellsAt.agree (below_agree hw 0) (Nat.zero_le _) (CellsAt.own (j := 0) (m := 6) (hS.at_ 0 rfl) rfl))) (fun w hw => ⟨fz, rfl, h0W.below hw⟩) (at_top rfl)) ?_
                refine bl_cons 48 rfl (isV (.bool true)) (stab_isV _) (rg_call [isX S (extX S (zeroX S) (x)), isX S (zeroX S)] rfl goes_22 (w_yes 159 rfl (by kernel_rfl) (by kernel_rfl) (at_dep rfl rfl rfl)) ⟨p_tmp (g_dep 45 (by kernel_rfl) (at_dep rfl rfl rfl)), p_tmp (g_dep 46 (by kernel_rfl) (at_dep rfl rfl rfl)), trivial⟩ (fun vs w' hb hh => same_gives hh (zeroX_ext ox)) (at_top rfl)) ?_
                refine bl_cons 49 rfl (isV _) (stab_isV _) (rgV (li := [(166, _)]) rfl (w_yes 159 rfl (by kernel_rfl) (by kernel_rfl) (at_dep rfl rfl rfl)) ⟨g_dep 47 (by kernel_rfl) (at_dep rfl rfl rfl), trivial⟩ (fun w hw => rn_not rfl) (at_top rfl)) ?_
                refine bl_cons 50 rfl (isV _) (stab_isV _) (rgV (li := [(159, _), (167, _)]) rfl (w_free rfl) ⟨g_dep 40 (by kernel_rfl) (at_dep rfl rfl rfl), g_dep 48 (by kernel_rfl) (at_dep rfl rfl rfl), trivial⟩ (fun w hw => rn_pickF rfl rfl) (at_top rfl)) ?_
                refine bl_cons 51 rfl (isV _) (stab_isV _) (rgV (li := [(168, _)]) rfl (w_free rfl) ⟨g_dep 49 (by kernel_rfl) (at_dep rfl rfl rfl), trivial⟩ (fun w hw => rn_move rfl) (at_top rfl)) ?_
                refine bl_cons 52 rfl (isV _) (stab_isV _) (rgV (li := [(4, _)]) rfl (w_yes 169 rfl (by kernel_rfl) (by kernel_rfl) (at_dep rfl rfl rfl)) ⟨g_fr (by kernel_rfl) rfl, trivial⟩ (fun w hw => rn_loadA (vs := [_, _, _]) Tryz.isAgg25 Tryz.sizeOf25 rfl (CellsAt.agree (below_agree hw 0) (Nat.zero_le _) (CellsAt.own (j := 0) (m := 3) (hS.at_ 5 rfl) rfl))) (at_top rfl)) ?_
                refine bl_cons 53 rfl (isX S (x)) (stab_isX) (rgP (li := [(5, _)]) rfl (w_yes 169 rfl (by kernel_rfl) (by kernel_rfl) (at_dep rfl rfl rfl)) ⟨g_fr (by kernel_rfl) rfl, trivial⟩ (fun w hw => rn_loadA (vs := [_, _, _, _, _, _]) Tryz.isAgg33 Tryz.sizeOf33 rfl (CellsAt.agree (below_agree hw 0) (Nat.zero_le _) (CellsAt.own (j := 0) (m := 6) (hS.at_ 4 rfl) rfl))) (fun w hw => ⟨a.f, rfl, hxW.below hw⟩) (at_top rfl)) ?_
                refine bl_cons 54 rfl (isX S (zeroX S)) (stab_isX) (rgP (li := [(11, _)]) rfl (w_yes 169 rfl (by kernel_rfl) (by kernel_rfl) (at_dep rfl rfl rfl)) ⟨g_fr (by kernel_rfl) rfl, trivial⟩ (fun w hw => rn_loadA (vs := [_, _, _, _, _, _]) Tryz.isAgg33 Tryz.sizeOf33 rfl (CellsAt.agree (below_agree hw 0) (Nat.zero_le _) (CellsAt.own (j := 0) (m := 6) (hS.at_ 0 rfl) rfl))) (fun w hw => ⟨fz, rfl, h0W.below hw⟩) (at_top rfl)) ?_
                refine bl_cons 55 rfl (isRowX S [x, zeroX S]) (stab_isRowX) (rg_rowX2 rfl (w_yes 169 rfl (by kernel_rfl) (by kernel_rfl) (at_dep rfl rfl rfl)) ⟨p_tmp (g_dep 52 (by kernel_rfl) (at_dep rfl rfl rfl)), p_tmp (g_dep 53 (by kernel_rfl) (at_dep rfl rfl rfl)), trivial⟩ (at_top rfl)) ?_
                refine bl_cons 56 rfl (isX S (extX S (x) (zeroX S))) (stab_isX) (rg_call [isV s.f.val, isRowX S [x, zeroX S]] rfl goes_38 (w_yes 169 rfl (by kernel_rfl) (by kernel_rfl) (at_dep rfl rfl rfl)) ⟨p_tmp (g_dep 51 (by kernel_rfl) (at_dep rfl rfl rfl)), p_tmp (g_dep 54 (by kernel_rfl) (at_dep rfl rfl rfl)), trivial⟩ (fun vs w' hb hh => ext2_gives hh (hsi.below (hS.below.trans (hb.mono hS.below.size))) hok (ht.below (hS.below.trans (hb.mono hS.below.size)))) (at_top rfl)) ?_
                refine bl_cons 57 rfl (isX S (zeroX S)) (stab_isX) (rgP (li := [(11, _)]) rfl (w_yes 169 rfl (by kernel_rfl) (by kernel_rfl) (at_dep rfl rfl rfl)) ⟨g_fr (by kernel_rfl) rfl, trivial⟩ (fun w hw => rn_loadA (vs := [_, _, _, _, _, _]) Tryz.isAgg33 Tryz.sizeOf33 rfl (CellsAt.agree (below_agree hw 0) (Nat.zero_le _) (CellsAt.own (j := 0) (m := 6) (hS.at_ 0 rfl) rfl))) (fun w hw => ⟨fz, rfl, h0W.below hw⟩) (at_top rfl)) ?_
                refine bl_cons 58 rfl (isV (.bool true)) (stab_isV _) (rg_call [isX S (extX S (x) (zeroX S)), isX S (zeroX S)] rfl goes_22 (w_yes 169 rfl (by kernel_rfl) (by kernel_rfl) (at_dep rfl rfl rfl)) ⟨p_tmp (g_dep 55 (by kernel_rfl) (at_dep rfl rfl rfl)), p_tmp (g_dep 56 (by kernel_rfl) (at_dep rfl rfl rfl)), trivial⟩ (fun vs w' hb hh => same_gives hh (extX_zero ox)) (at_top rfl)) ?_
                refine bl_cons 59 rfl (isV _) (stab_isV _) (rgV (li := [(176, _)]) rfl (w_yes 169 rfl (by kernel_rfl) (by kernel_rfl) (at_dep rfl rfl rfl)) ⟨g_dep 57 (by kernel_rfl) (at_dep rfl rfl rfl), trivial⟩ (fun w hw => rn_not rfl) (at_top rfl)) ?_
                refine bl_cons 60 rfl (isV _) (stab_isV _) (rgV (li := [(169, _), (177, _)]) rfl (w_free rfl) ⟨g_dep 50 (by kernel_rfl) (at_dep rfl rfl rfl), g_dep 58 (by kernel_rfl) (at_dep rfl rfl rfl), trivial⟩ (fun w hw => rn_pickF rfl rfl) (at_top rfl)) ?_
                refine bl_nil ?_
                intro W26 hbR hS'
                clear hS; have hS := hS'; clear hS'
                refine fin_v ?_
                refine fin_v ?_
                refine fin_p ?_; rintro _ _
                refine fin_p ?_; rintro _ _
                refine fin_p ?_; rintro _ _
                refine fin_p ?_; rintro _ _
                refine fin_p ?_; rintro _ _
                refine fin_p ?_; rintro _ _
                refine fin_p ?_; rintro _ _
                refine fin_v ?_
                refine fin_p ?_; rintro _ _
                refine fin_v ?_
                refine fin_p ?_; rintro _ _
                refine fin_p ?_; rintro _ _
                refine fin_p ?_; rintro _ _
                refine fin_p ?_; rintro _ _
                refine fin_p ?_; rintro _ _
                refine fin_p ?_; rintro _ _
                refine fin_v ?_
                refine fin_v ?_
                refine fin_v ?_
                refine fin_v ?_
                refine fin_p ?_; rintro _ _
                refine fin_p ?_; rintro _ _
                refine fin_p ?_; rintro _ _
                refine fin_p ?_; rintro _ _
                refine fin_p ?_; rintro _ _
                refine fin_v ?_
                refine fin_v ?_
                refine fin_v ?_
                refine fin_v ?_
                refine fin_v ?_
                refine fin_p ?_; rintro _ _
                refine fin_p ?_; rintro _ _
                refine fin_p ?_; rintro _ _
                refine fin_p ?_; rintro _ _
                refine fin_p ?_; rintro _ _
                refine fin_v ?_
                refine fin_v ?_
                refine fin_v ?_
                refine fin_v ?_
                refine fin_v ?_
                refine fin_p ?_; rintro _ _
                refine fin_p ?_; rintro _ _
                refine fin_p ?_; rintro _ _
                refine fin_p ?_; rintro _ _
                refine fin_p ?_; rintro _ _
                refine fin_v ?_
                refine fin_v ?_
                refine fin_v ?_
                refine fin_v ?_
                refine fin_v ?_
                refine fin_p ?_; rintro _ _
                refine fin_p ?_; rintro _ _
                refine fin_p ?_; rintro _ _
                refine fin_p ?_; rintro _ _
                refine fin_p ?_; rintro _ _
                refine fin_v ?_
                refine fin_v ?_
                refine fin_v ?_
                refine fin_nil ?_
                refine XF.thenN ?_
                refine condN rfl ?_
                refine skipF ?_
                refine XF.thenN ?_
                refine seqF ?_
                clear hxW hyW hzW h0W hoW
                have hxW := hx.below hS.below
                have hyW := hy.below hS.below
                have hzW := hz.below hS.below
                refine regB (m := 52) followsM hS (by kernel_rfl) (by kernel_rfl) rfl ?_
                refine bl_cons 1 rfl (isV _) (stab_isV _) (rgV (li := [(4, _)]) rfl (w_free rfl) ⟨g_fr (by kernel_rfl) rfl, trivial⟩ (fun w hw => rn_loadA (vs := [_, _, _]) Tryz.isAgg25 Tryz.sizeOf25 rfl (CellsAt.agree (below_agree hw 0) (Nat.zero_le _) (CellsAt.own (j := 0) (m := 3) (hS.at_ 5 rfl) rfl))) (at_top rfl)) ?_
                refine bl_cons 2 rfl (isX S (x)) (stab_isX) (rgP (li := [(5, _)]) rfl (w_free rfl) ⟨g_fr (by kernel_rfl) rfl, trivial⟩ (fun w hw => rn_loadA (vs := [_, _, _, _, _, _]) Tryz.isAgg33 Tryz.sizeOf33 rfl (CellsAt.agree (below_agree hw 0) (Nat.zero_le _) (CellsAt.own (j := 0) (m := 6) (hS.at_ 4 rfl) rfl))) (fun w hw => ⟨a.f, rfl, hxW.below hw⟩) (at_top rfl)) ?_
                refine bl_cons 3 rfl (isV _) (stab_isV _) (rgV (li := [(4, _)]) rfl (w_free rfl) ⟨g_fr (by kernel_rfl) rfl, trivial⟩ (fun w hw => rn_loadA (vs := [_, _, _]) Tryz.isAgg25 Tryz.sizeOf25 rfl (CellsAt.agree (below_agree hw 0) (Nat.zero_le _) (CellsAt.own (j := 0) (m := 3) (hS.at_ 5 rfl) rfl))) (at_top rfl)) ?_
                refine bl_cons 4 rfl (isX S (y)) (stab_isX) (rgP (li := [(6, _)]) rfl (w_free rfl) ⟨g_fr (by kernel_rfl) rfl, trivial⟩ (fun w hw => rn_loadA (vs := [_, _, _, _, _, _]) Tryz.isAgg33 Tryz.sizeOf33 rfl (CellsAt.agree (below_agree hw 0) (Nat.zero_le _) (CellsAt.own (j := 0) (m := 6) (hS.at_ 3 rfl) rfl))) (fun w hw => ⟨b.f, rfl, hyW.below hw⟩) (at_top rfl)) ?_
                refine bl_cons 5 rfl (isX S (z)) (stab_isX) (rgP (li := [(7, _)]) rfl (w_free rfl) ⟨g_fr (by kernel_rfl) rfl, trivial⟩ (fun w hw => rn_loadA (vs := [_, _, _, _, _, _]) Tryz.isAgg33 Tryz.sizeOf33 rfl (CellsAt.agree (below_agree hw 0) (Nat.zero_le _) (CellsAt.own (j := 0) (m := 6) (hS.at_ 2 rfl) rfl))) (fun w hw => ⟨c.f, rfl, hzW.below hw⟩) (at_top rfl)) ?_
                refine bl_cons 6 rfl (isRowX S [y, z]) (stab_isRowX) (rg_rowX2 rfl (w_free rfl) ⟨p_tmp (g_dep 3 (by kernel_rfl) (at_dep rfl rfl rfl)), p_tmp (g_dep 4 (by kernel_rfl) (at_dep rfl rfl rfl)), trivial⟩ (at_top rfl)) ?_
                refine bl_cons 7 rfl (isX S (combX S (y) (z))) (stab_isX) (rg_call [isV s.f.val, isRowX S [y, z]] rfl goes_37 (w_free rfl) ⟨p_tmp (g_dep 2 (by kernel_rfl) (at_dep rfl rfl rfl)), p_tmp (g_dep 5 (by kernel_rfl) (at_dep rfl rfl rfl)), trivial⟩ (fun vs w' hb hh => comb2_gives hh (hsi.below (hS.below.trans (hb.mono hS.below.size))) hok (ht.below (hS.below.trans (hb.mono hS.below.size)))) (at_top rfl)) ?_
                refine bl_cons 8 rfl (isRowX S [x, combX S (y) (z)]) (stab_isRowX) (rg_rowX2 rfl (w_free rfl) ⟨p_tmp (g_dep 1 (by kernel_rfl) (at_dep rfl rfl rfl)), p_tmp (g_dep 6 (by kernel_rfl) (at_dep rfl rfl rfl)), trivial⟩ (at_top rfl)) ?_
                refine bl_cons 9 rfl (isX S (extX S (x) (combX S (y) (z)))) (stab_isX) (rg_call [isV s.f.val, isRowX S [x, combX S (y) (z)]] rfl goes_38 (w_free rfl) ⟨p_tmp (g_dep 0 (by kernel_rfl) (at_dep rfl rfl rfl)), p_tmp (g_dep 7 (by kernel_rfl) (at_dep rfl rfl rfl)), trivial⟩ (fun vs w' hb hh => ext2_gives hh (hsi.below (hS.below.trans (hb.mono hS.below.size))) hok (ht.below (hS.below.trans (hb.mono hS.below.size)))) (at_top rfl)) ?_
                refine bl_cons 10 rfl (isV _) (stab_isV _) (rgV (li := [(4, _)]) rfl (w_free rfl) ⟨g_fr (by kernel_rfl) rfl, trivial⟩ (fun w hw => rn_loadA (vs := [_, _, _]) Tryz.isAgg25 Tryz.sizeOf25 rfl (CellsAt.agree (below_agree hw 0) (Nat.zero_le _) (CellsAt.own (j := 0) (m := 3) (hS.at_ 5 rfl) rfl))) (at_top rfl)) ?_
                refine bl_cons 11 rfl (isV _) (stab_isV _) (rgV (li := [(4, _)]) rfl (w_free rfl) ⟨g_fr (by kernel_rfl) rfl, trivial⟩ (fun w hw => rn_loadA (vs := [_, _, _]) Tryz.isAgg25 Tryz.sizeOf25 rfl (CellsAt.agree (below_agree hw 0) (Nat.zero_le _) (CellsAt.own (j := 0) (m := 3) (hS.at_ 5 rfl) rfl))) (at_top rfl)) ?_
                refine bl_cons 12 rfl (isX S (x)) (stab_isX) (rgP (li := [(5, _)]) rfl (w_free rfl) ⟨g_fr (by kernel_rfl) rfl, trivial⟩ (fun w hw => rn_loadA (vs := [_, _, _, _, _, _]) Tryz.isAgg33 Tryz.sizeOf33 rfl (CellsAt.agree (below_agree hw 0) (Nat.zero_le _) (CellsAt.own (j := 0) (m := 6) (hS.at_ 4 rfl) rfl))) (fun w hw => ⟨a.f, rfl, hxW.below hw⟩) (at_top rfl)) ?_
                refine bl_cons 13 rfl (isX S (y)) (stab_isX) (rgP (li := [(6, _)]) rfl (w_free rfl) ⟨g_fr (by kernel_rfl) rfl, trivial⟩ (fun w hw => rn_loadA (vs := [_, _, _, _, _, _]) Tryz.isAgg33 Tryz.sizeOf33 rfl (CellsAt.agree (below_agree hw 0) (Nat.zero_le _) (CellsAt.own (j := 0) (m := 6) (hS.at_ 3 rfl) rfl))) (fun w hw => ⟨b.f, rfl, hyW.below hw⟩) (at_top rfl)) ?_
                refine bl_cons 14 rfl (isRowX S [x, y]) (stab_isRowX) (rg_rowX2 rfl (w_free rfl) ⟨p_tmp (g_dep 11 (by kernel_rfl) (at_dep rfl rfl rfl)), p_tmp (g_dep 12 (by kernel_rfl) (at_dep rfl rfl rfl)), trivial⟩ (at_top rfl)) ?_
                refine bl_cons 15 rfl (isX S (extX S (x) (y))) (stab_isX) (rg_call [isV s.f.val, isRowX S [x, y]] rfl goes_38 (w_free rfl) ⟨p_tmp (g_dep 10 (by kernel_rfl) (at_dep rfl rfl rfl)), p_tmp (g_dep 13 (by kernel_rfl) (at_dep rfl rfl rfl)), trivial⟩ (fun vs w' hb hh => ext2_gives hh (hsi.below (hS.below.trans (hb.mono hS.below.size))) hok (ht.below (hS.below.trans (hb.mono hS.below.size)))) (at_top rfl)) ?_
                refine bl_cons 16 rfl (isV _) (stab_isV _) (rgV (li := [(4, _)]) rfl (w_free rfl) ⟨g_fr (by kernel_rfl) rfl, trivial⟩ (fun w hw => rn_loadA (vs := [_, _, _]) Tryz.isAgg25 Tryz.sizeOf25 rfl (CellsAt.agree (below_agree hw 0) (Nat.zero_le _) (CellsAt.own (j := 0) (m := 3) (hS.at_ 5 rfl) rfl))) (at_top rfl)) ?_
                refine bl_cons 17 rfl (isX S (x)) (stab_isX) (rgP (li := [(5, _)]) rfl (w_free rfl) ⟨g_fr (by kernel_rfl) rfl, trivial⟩ (fun w hw => rn_loadA (vs := [_, _, _, _, _, _]) Tryz.isAgg33 Tryz.sizeOf33 rfl (CellsAt.agree (below_agree hw 0) (Nat.zero_le _) (CellsAt.own (j := 0) (m := 6) (hS.at_ 4 rfl) rfl))) (fun w hw => ⟨a.f, rfl, hxW.below hw⟩) (at_top rfl)) ?_
                refine bl_cons 18 rfl (isX S (z)) (stab_isX) (rgP (li := [(7, _)]) rfl (w_free rfl) ⟨g_fr (by kernel_rfl) rfl, trivial⟩ (fun w hw => rn_loadA (vs := [_, _, _, _, _, _]) Tryz.isAgg33 Tryz.sizeOf33 rfl (CellsAt.agree (below_agree hw 0) (Nat.zero_le _) (CellsAt.own (j := 0) (m := 6) (hS.at_ 2 rfl) rfl))) (fun w hw => ⟨c.f, rfl, hzW.below hw⟩) (at_top rfl)) ?_
                refine bl_cons 19 rfl (isRowX S [x, z]) (stab_isRowX) (rg_rowX2 rfl (w_free rfl) ⟨p_tmp (g_dep 16 (by kernel_rfl) (at_dep rfl rfl rfl)), p_tmp (g_dep 17 (by kernel_rfl) (at_dep rfl rfl rfl)), trivial⟩ (at_top rfl)) ?_
                refine bl_cons 20 rfl (isX S (extX S (x) (z))) (stab_isX) (rg_call [isV s.f.val, isRowX S [x, z]] rfl goes_38 (w_free rfl) ⟨p_tmp (g_dep 15 (by kernel_rfl) (at_dep rfl rfl rfl)), p_tmp (g_dep 18 (by kernel_rfl) (at_dep rfl rfl rfl)), trivial⟩ (fun vs w' hb hh => ext2_gives hh (hsi.below (hS.below.trans (hb.mono hS.below.size))) hok (ht.below (hS.below.trans (hb.mono hS.below.size)))) (at_top rfl)) ?_
                refine bl_cons 21 rfl (isRowX S [extX S (x) (y), extX S (x) (z)]) (stab_isRowX) (rg_rowX2 rfl (w_free rfl) ⟨p_tmp (g_dep 14 (by kernel_rfl) (at_dep rfl rfl rfl)), p_tmp (g_dep 19 (by kernel_rfl) (at_dep rfl rfl rfl)), trivial⟩ (at_top rfl)) ?_
                refine bl_cons 22 rfl (isX S (combX S (extX S (x) (y)) (extX S (x) (z)))) (stab_isX) (rg_call [isV s.f.val, isRowX S [extX S (x) (y), extX S (x) (z)]] rfl goes_37 (w_free rfl) ⟨p_tmp (g_dep 9 (by kernel_rfl) (at_dep rfl rfl rfl)), p_tmp (g_dep 20 (by kernel_rfl) (at_dep rfl rfl rfl)), trivial⟩ (fun vs w' hb hh => comb2_gives hh (hsi.below (hS.below.trans (hb.mono hS.below.size))) hok (ht.below (hS.below.trans (hb.mono hS.below.size)))) (at_top rfl)) ?_
                refine bl_cons 23 rfl (isV (.bool true)) (stab_isV _) (rg_call [isX S (extX S (x) (combX S (y) (z))), isX S (combX S (extX S (x) (y)) (extX S (x) (z)))] rfl goes_22 (w_free rfl) ⟨p_tmp (g_dep 8 (by kernel_rfl) (at_dep rfl rfl rfl)), p_tmp (g_dep 21 (by kernel_rfl) (at_dep rfl rfl rfl)), trivial⟩ (fun vs w' hb hh => same_gives hh (extX_comb hok ox oy oz)) (at_top rfl)) ?_
                refine bl_cons 24 rfl (isV _) (stab_isV _) (rgV (li := [(201, _)]) rfl (w_free rfl) ⟨g_dep 22 (by kernel_rfl) (at_dep rfl rfl rfl), trivial⟩ (fun w hw => rn_move rfl) (at_top rfl)) ?_
                refine bl_cons 25 rfl (isV _) (stab_isV _) (rgV (li := [(4, _)]) rfl (w_yes 202 rfl (by kernel_rfl) (by kernel_rfl) (at_dep rfl rfl rfl)) ⟨g_fr (by kernel_rfl) rfl, trivial⟩ (fun w hw => rn_loadA (vs := [_, _, _]) Tryz.isAgg25 Tryz.sizeOf25 rfl (CellsAt.agree (below_agree hw 0) (Nat.zero_le _) (CellsAt.own (j := 0) (m := 3) (hS.at_ 5 rfl) rfl))) (at_top rfl)) ?_
                refine bl_cons 26 rfl (isV _) (stab_isV _) (rgV (li := [(4, _)]) rfl (w_yes 202 rfl (by kernel_rfl) (by kernel_rfl) (at_dep rfl rfl rfl)) ⟨g_fr (by kernel_rfl) rfl, trivial⟩ (fun w hw => rn_loadA (vs := [_, _, _]) Tryz.isAgg25 Tryz.sizeOf25 rfl (CellsAt.agree (below_agree hw 0) (Nat.zero_le _) (CellsAt.own (j := 0) (m := 3) (hS.at_ 5 rfl) rfl))) (at_top rfl)) ?_
                refine bl_cons 27 rfl (isX S (x)) (stab_isX) (rgP (li := [(5, _)]) rfl (w_yes 202 rfl (by kernel_rfl) (by kernel_rfl) (at_dep rfl rfl rfl)) ⟨g_fr (by kernel_rfl) rfl, trivial⟩ (fun w hw => rn_loadA (vs := [_, _, _, _, _, _]) Tryz.isAgg33 Tryz.sizeOf33 rfl (CellsAt.agree (below_agree hw 0) (Nat.zero_le _) (CellsAt.own (j := 0) (m := 6) (hS.at_ 4 rfl) rfl))) (fun w hw => ⟨a.f, rfl, hxW.below hw⟩) (at_top rfl)) ?_
                refine bl_cons 28 rfl (isX S (y)) (stab_isX) (rgP (li := [(6, _)]) rfl (w_yes 202 rfl (by kernel_rfl) (by kernel_rfl) (at_dep rfl rfl rfl)) ⟨g_fr (by kernel_rfl) rfl, trivial⟩ (fun w hw => rn_loadA (vs := [_, _, _, _, _, _]) Tryz.isAgg33 Tryz.sizeOf33 rfl (CellsAt.agree (below_agree hw 0) (Nat.zero_le _) (CellsAt.own (j := 0) (m := 6) (hS.at_ 3 rfl) rfl))) (fun w hw => ⟨b.f, rfl, hyW.below hw⟩) (at_top rfl)) ?_
                refine bl_cons 29 rfl (isRowX S [x, y]) (stab_isRowX) (rg_rowX2 rfl (w_yes 202 rfl (by kernel_rfl) (by kernel_rfl) (at_dep rfl rfl rfl)) ⟨p_tmp (g_dep 26 (by kernel_rfl) (at_dep rfl rfl rfl)), p_tmp (g_dep 27 (by kernel_rfl) (at_dep rfl rfl rfl)), trivial⟩ (at_top rfl)) ?_
                refine bl_cons 30 rfl (isX S (combX S (x) (y))) (stab_isX) (rg_call [isV s.f.val, isRowX S [x, y]] rfl goes_37 (w_yes 202 rfl (by kernel_rfl) (by kernel_rfl) (at_dep rfl rfl rfl)) ⟨p_tmp (g_dep 25 (by kernel_rfl) (at_dep rfl rfl rfl)), p_tmp (g_dep 28 (by kernel_rfl) (at_dep rfl rfl rfl)), trivial⟩ (fun vs w' hb hh => comb2_gives hh (hsi.below (hS.below.trans (hb.mono hS.below.size))) hok (ht.below (hS.below.trans (hb.mono hS.below.size)))) (at_top rfl)) ?_
                refine bl_cons 31 rfl (isX S (z)) (stab_isX) (rgP (li := [(7, _)]) rfl (w_yes 202 rfl (by kernel_rfl) (by kernel_rfl) (at_dep rfl rfl rfl)) ⟨g_fr (by kernel_rfl) rfl, trivial⟩ (fun w hw => rn_loadA (vs := [_, _, _, _, _, _]) Tryz.isAgg33 Tryz.sizeOf33 rfl (CellsAt.agree (below_agree hw 0) (Nat.zero_le _) (CellsAt.own (j := 0) (m := 6) (hS.at_ 2 rfl) rfl))) (fun w hw => ⟨c.f, rfl, hzW.below hw⟩) (at_top rfl)) ?_
                refine bl_cons 32 rfl (isRowX S [combX S (x) (y), z]) (stab_isRowX) (rg_rowX2 rfl (w_yes 202 rfl (by kernel_rfl) (by kernel_rfl) (at_dep rfl rfl rfl)) ⟨p_tmp (g_dep 29 (by kernel_rfl) (at_dep rfl rfl rfl)), p_tmp (g_dep 30 (by kernel_rfl) (at_dep rfl rfl rfl)), trivial⟩ (at_top rfl)) ?_
                refine bl_cons 33 rfl (isX S (extX S (combX S (x) (y)) (z))) (stab_isX) (rg_call [isV s.f.val, isRowX S [combX S (x) (y), z]] rfl goes_38 (w_yes 202 rfl (by kernel_rfl) (by kernel_rfl) (at_dep rfl rfl rfl)) ⟨p_tmp (g_dep 24 (by kernel_rfl) (at_dep rfl rfl rfl)), p_tmp (g_dep 31 (by kernel_rfl) (at_dep rfl rfl rfl)), trivial⟩ (fun vs w' hb hh => ext2_gives hh (hsi.below (hS.below.trans (hb.mono hS.below.size))) hok (ht.below (hS.below.trans (hb.mono hS.below.size)))) (at_top rfl)) ?_
                refine bl_cons 34 rfl (isV _) (stab_isV _) (rgV (li := [(4, _)]) rfl (w_yes 202 rfl (by kernel_rfl) (by kernel_rfl) (at_dep rfl rfl rfl)) ⟨g_fr (by kernel_rfl) rfl, trivial⟩ (fun w hw => rn_loadA (vs := [_, _, _]) Tryz.isAgg25 Tryz.sizeOf25 rfl (CellsAt.agree (below_agree hw 0) (Nat.zero_le _) (CellsAt.own (j := 0) (m := 3) (hS.at_ 5 rfl) rfl))) (at_top rfl)) ?_
                refine bl_cons 35 rfl (isV _) (stab_isV _) (rgV (li := [(4, _)]) rfl (w_yes 202 rfl (by kernel_rfl) (by kernel_rfl) (at_dep rfl rfl rfl)) ⟨g_fr (by kernel_rfl) rfl, trivial⟩ (fun w hw => rn_loadA (vs := [_, _, _]) Tryz.isAgg25 Tryz.sizeOf25 rfl (CellsAt.agree (below_agree hw 0) (Nat.zero_le _) (CellsAt.own (j := 0) (m := 3) (hS.at_ 5 rfl) rfl))) (at_top rfl)) ?_
                refine bl_cons 36 rfl (isX S (x)) (stab_isX) (rgP (li := [(5, _)]) rfl (w_yes 202 rfl (by kernel_rfl) (by kernel_rfl) (at_dep rfl rfl rfl)) ⟨g_fr (by kernel_rfl) rfl, trivial⟩ (fun w hw => rn_loadA (vs := [_, _, _, _, _, _]) Tryz.isAgg33 Tryz.sizeOf33 rfl (CellsAt.agree (below_agree hw 0) (Nat.zero_le _) (CellsAt.own (j := 0) (m := 6) (hS.at_ 4 rfl) rfl))) (fun w hw => ⟨a.f, rfl, hxW.below hw⟩) (at_top rfl)) ?_
                refine bl_cons 37 rfl (isX S (z)) (stab_isX) (rgP (li := [(7, _)]) rfl (w_yes 202 rfl (by kernel_rfl) (by kernel_rfl) (at_dep rfl rfl rfl)) ⟨g_fr (by kernel_rfl) rfl, trivial⟩ (fun w hw => rn_loadA (vs := [_, _, _, _, _, _]) Tryz.isAgg33 Tryz.sizeOf33 rfl (CellsAt.agree (below_agree hw 0) (Nat.zero_le _) (CellsAt.own (j := 0) (m := 6) (hS.at_ 2 rfl) rfl))) (fun w hw => ⟨c.f, rfl, hzW.below hw⟩) (at_top rfl)) ?_
                refine bl_cons 38 rfl (isRowX S [x, z]) (stab_isRowX) (rg_rowX2 rfl (w_yes 202 rfl (by kernel_rfl) (by kernel_rfl) (at_dep rfl rfl rfl)) ⟨p_tmp (g_dep 35 (by kernel_rfl) (at_dep rfl rfl rfl)), p_tmp (g_dep 36 (by kernel_rfl) (at_dep rfl rfl rfl)), trivial⟩ (at_top rfl)) ?_
                refine bl_cons 39 rfl (isX S (extX S (x) (z))) (stab_isX) (rg_call [isV s.f.val, isRowX S [x, z]] rfl goes_38 (w_yes 202 rfl (by kernel_rfl) (by kernel_rfl) (at_dep rfl rfl rfl)) ⟨p_tmp (g_dep 34 (by kernel_rfl) (at_dep rfl rfl rfl)), p_tmp (g_dep 37 (by kernel_rfl) (at_dep rfl rfl rfl)), trivial⟩ (fun vs w' hb hh => ext2_gives hh (hsi.below (hS.below.trans (hb.mono hS.below.size))) hok (ht.below (hS.below.trans (hb.mono hS.below.size)))) (at_top rfl)) ?_
                refine bl_cons 40 rfl (isV _) (stab_isV _) (rgV (li := [(4, _)]) rfl (w_yes 202 rfl (by kernel_rfl) (by kernel_rfl) (at_dep rfl rfl rfl)) ⟨g_fr (by kernel_rfl) rfl, trivial⟩ (fun w hw => rn_loadA (vs := [_, _, _]) Tryz.isAgg25 Tryz.sizeOf25 rfl (CellsAt.agree (below_agree hw 0) (Nat.zero_le _) (CellsAt.own (j := 0) (m := 3) (hS.at_ 5 rfl) rfl))) (at_top rfl)) ?_
                refine bl_cons 41 rfl (isX S (y)) (stab_isX) (rgP (li := [(6, _)]) rfl (w_yes 202 rfl (by kernel_rfl) (by kernel_rfl) (at_dep rfl rfl rfl)) ⟨g_fr (by kernel_rfl) rfl, trivial⟩ (fun w hw => rn_loadA (vs := [_, _, _, _, _, _]) Tryz.isAgg33 Tryz.sizeOf33 rfl (CellsAt.agree (below_agree hw 0) (Nat.zero_le _) (CellsAt.own (j := 0) (m := 6) (hS.at_ 3 rfl) rfl))) (fun w hw => ⟨b.f, rfl, hyW.below hw⟩) (at_top rfl)) ?_
                refine bl_cons 42 rfl (isX S (z)) (stab_isX) (rgP (li := [(7, _)]) rfl (w_yes 202 rfl (by kernel_rfl) (by kernel_rfl) (at_dep rfl rfl rfl)) ⟨g_fr (by kernel_rfl) rfl, trivial⟩ (fun w hw => rn_loadA (vs := [_, _, _, _, _, _]) Tryz.isAgg33 Tryz.sizeOf33 rfl (CellsAt.agree (below_agree hw 0) (Nat.zero_le _) (CellsAt.own (j := 0) (m := 6) (hS.at_ 2 rfl) rfl))) (fun w hw => ⟨c.f, rfl, hzW.below hw⟩) (at_top rfl)) ?_
                refine bl_cons 43 rfl (isRowX S [y, z]) (stab_isRowX) (rg_rowX2 rfl (w_yes 202 rfl (by kernel_rfl) (by kernel_rfl) (at_dep rfl rfl rfl)) ⟨p_tmp (g_dep 40 (by kernel_rfl) (at_dep rfl rfl rfl)), p_tmp (g_dep 41 (by kernel_rfl) (at_dep rfl rfl rfl)), trivial⟩ (at_top rfl)) ?_
                refine bl_cons 44 rfl (isX S (extX S (y) (z))) (stab_isX) (rg_call [isV s.f.val, isRowX S [y, z]] rfl goes_38 (w_yes 202 rfl (by kernel_rfl) (by kernel_rfl) (at_dep rfl rfl rfl)) ⟨p_tmp (g_dep 39 (by kernel_rfl) (at_dep rfl rfl rfl)), p_tmp (g_dep 42 (by kernel_rfl) (at_dep rfl rfl rfl)), trivial⟩ (fun vs w' hb hh => ext2_gives hh (hsi.below (hS.below.trans (hb.mono hS.below.size))) hok (ht.below (hS.below.trans (hb.mono hS.below.size)))) (at_top rfl)) ?_
                refine bl_cons 45 rfl (isRowX S [extX S (x) (z), extX S (y) (z)]) (stab_isRowX) (rg_rowX2 rfl (w_yes 202 rfl (by kernel_rfl) (by kernel_rfl) (at_dep rfl rfl rfl)) ⟨p_tmp (g_dep 38 (by kernel_rfl) (at_dep rfl rfl rfl)), p_tmp (g_dep 43 (by kernel_rfl) (at_dep rfl rfl rfl)), trivial⟩ (at_top rfl)) ?_
                refine bl_cons 46 rfl (isX S (combX S (extX S (x) (z)) (extX S (y) (z)))) (stab_isX) (rg_call [isV s.f.val, isRowX S [extX S (x) (z), extX S (y) (z)]] rfl goes_37 (w_yes 202 rfl (by kernel_rfl) (by kernel_rfl) (at_dep rfl rfl rfl)) ⟨p_tmp (g_dep 33 (by kernel_rfl) (at_dep rfl rfl rfl)), p_tmp (g_dep 44 (by kernel_rfl) (at_dep rfl rfl rfl)), trivial⟩ (fun vs w' hb hh => comb2_gives hh (hsi.below (hS.below.trans (hb.mono hS.below.size))) hok (ht.below (hS.below.trans (hb.mono hS.below.size)))) (at_top rfl)) ?_
                refine bl_cons 47 rfl (isV (.bool true)) (stab_isV _) (rg_call [isX S (extX S (combX S (x) (y)) (z)), isX S (combX S (extX S (x) (z)) (extX S (y) (z)))] rfl goes_22 (w_yes 202 rfl (by kernel_rfl) (by kernel_rfl) (at_dep rfl rfl rfl)) ⟨p_tmp (g_dep 32 (by kernel_rfl) (at_dep rfl rfl rfl)), p_tmp (g_dep 45 (by kernel_rfl) (at_dep rfl rfl rfl)), trivial⟩ (fun vs w' hb hh => same_gives hh (combX_ext hok ox oy oz)) (at_top rfl)) ?_
                refine bl_cons 48 rfl (isV _) (stab_isV _) (rgV (li := [(202, _), (225, _)]) rfl (w_free rfl) ⟨g_dep 23 (by kernel_rfl) (at_dep rfl rfl rfl), g_dep 46 (by kernel_rfl) (at_dep rfl rfl rfl), trivial⟩ (fun w hw => rn_pickT rfl rfl) (at_top rfl)) ?_
                refine bl_cons 49 rfl (isV _) (stab_isV _) (rgV (li := [(226, _)]) rfl (w_free rfl) ⟨g_dep 47 (by kernel_rfl) (at_dep rfl rfl rfl), trivial⟩ (fun w hw => rn_move rfl) (at_top rfl)) ?_
                refine bl_cons 50 rfl (isV (.bool true)) (stab_isV _) (rg_call [] rfl goes_11 (w_yes 227 rfl (by kernel_rfl) (by kernel_rfl) (at_dep rfl rfl rfl)) trivial (fun vs w' hb hh => by have e := holds_isV (us := []) hh; subst e; exact (aliveW_is _ (ht.below (hS.below.trans (hb.mono hS.below.size)))).mono fun e w2 h => ⟨.bool true, h.1, rfl, h.2⟩) (at_top rfl)) ?_
                refine bl_cons 51 rfl (isV _) (stab_isV _) (rgV (li := [(227, _), (228, _)]) rfl (w_free rfl) ⟨g_dep 48 (by kernel_rfl) (at_dep rfl rfl rfl), g_dep 49 (by kernel_rfl) (at_dep rfl rfl rfl), trivial⟩ (fun w hw => rn_pickT rfl rfl) (at_top rfl)) ?_
                refine bl_cons 52 rfl (isV _) (stab_isV _) (rgV (li := [(229, _)]) rfl (w_free rfl) ⟨g_dep 50 (by kernel_rfl) (at_dep rfl rfl rfl), trivial⟩ (fun w hw => rn_assign rfl) (at_top rfl)) ?_
                refine bl_nil ?_
                intro W27 hbR hS'
                clear hS; have hS := hS'; clear hS'
                refine fin_v ?_
                refine fin_p ?_; rintro _ _
                refine fin_v ?_
                refine fin_p ?_; rintro _ _
                refine fin_p ?_; rintro _ _
                refine fin_p ?_; rintro _ _
                refine fin_p ?_; rintro _ _
                refine fin_p ?_; rintro _ _
                refine fin_p ?_; rintro _ _
                refine fin_v ?_
                refine fin_v ?_
                refine fin_p ?_; rintro _ _
                refine fin_p ?_; rintro _ _
                refine fin_p ?_; rintro _ _
                refine fin_p ?_; rintro _ _
                refine fin_v ?_
                refine fin_p ?_; rintro _ _
                refine fin_p ?_; rintro _ _
                refine fin_p ?_; rintro _ _
                refine fin_p ?_; rintro _ _
                refine fin_p ?_; rintro _ _
                refine fin_p ?_; rintro _ _
                refine fin_v ?_
                refine fin_v ?_
                refine fin_v ?_
                refine fin_v ?_
                refine fin_p ?_; rintro _ _
                refine fin_p ?_; rintro _ _
                refine fin_p ?_; rintro _ _
                refine fin_p ?_; rintro _ _
                refine fin_p ?_; rintro _ _
                refine fin_p ?_; rintro _ _
                refine fin_p ?_; rintro _ _
                refine fin_v ?_
                refine fin_v ?_
                refine fin_p ?_; rintro _ _
                refine fin_p ?_; rintro _ _
                refine fin_p ?_; rintro _ _
                refine fin_p ?_; rintro _ _
                refine fin_v ?_
                refine fin_p ?_; rintro _ _
                refine fin_p ?_; rintro _ _
                refine fin_p ?_; rintro _ _
                refine fin_p ?_; rintro _ _
                refine fin_p ?_; rintro _ _
                refine fin_p ?_; rintro _ _
                refine fin_v ?_
                refine fin_v ?_
                refine fin_v ?_
                refine fin_v ?_
                refine fin_v ?_
                refine fin_v ?_
                refine fin_nil ?_
                refine XF.thenN ?_
                refine retF ?_
                refine XF.res (res1 Tryz.results6 rfl) ?_
                exact ⟨rfl, hS.below⟩
end Go.Proofs.YtjcminoaiieckaaGreatDoor
namespace Go.Proofs.YtjcminoaiieckaaGreatDoor
open Go.RowKit Go.ChangeShapes Go.WideShapes Go.Deep
set_option linter.unusedVariables false
section
variable {H : Type} {enc : TypeId × Value → H} {w : World} {base : Nat} {spare : Nat → Bool} {held : Bool}
theorem three_len {cs : List Value} (h : cs.length = 3) : ∃ a b c, cs = [a, b, c] := by
  match cs, h with
  | [a, b, c], _ => exact ⟨a, b, c, rfl⟩
set_option maxRecDepth 100000 in
theorem cell_open {n : Nat} {cs : List Value} {x : DataW H × List MemPlace} (hl : cs.length = 3) (h : DataW.trod enc Tryz.prog w base spare held n 73 cs = some x) :
    ∃ c : Cl, c.f < 18446744073709551616 ∧ cs = [.int .u64 (c.f : Int), .int .i64 c.k, .int .i64 c.v] := by
  obtain ⟨xs, n', _, hx, _, hlen, hg⟩ := DataW.trod_struct Tryz.underlying73 h
  obtain ⟨a, b, c, rfl⟩ := three_len hl
  · skip
    have hlen3 : xs.length = 3 := hlen
    have g0 := hg 0 _ rfl
    have g1 := hg 1 _ rfl
    have g2 := hg 2 _ rfl
    rw [show Tryz.prog.cellsOf _ = 1 by kernel_rfl, List.getElem?_eq_getElem (by omega)] at g0 g1 g2
    obtain ⟨z0, e0, _, w0⟩ := DataW.trod_int Tryz.underlying26 g0
    obtain ⟨z1, e1, _, w1⟩ := DataW.trod_int (k := .i64) (by kernel_rfl) g1
    obtain ⟨z2, e2, _, w2⟩ := DataW.trod_int (k := .i64) (by kernel_rfl) g2
    simp at e0 e1 e2
    subst e0 e1 e2
    have hw : 0 ≤ z0 ∧ z0 ≤ 18446744073709551615 := by simpa [Lit.wf, IntKind.signed, IntKind.bits, IntKind.min, IntKind.max] using w0
    exact ⟨⟨z0.toNat, z1, z2⟩, by show z0.toNat < _; omega, by simp; omega⟩
theorem list_of : ∀ (n : Nat) (p : Nat → Cl → Prop), (∀ i, i < n → ∃ c, p i c) → ∃ xs : List Cl, xs.length = n ∧ ∀ i c, xs[i]? = some c → p i c
  | 0, p, h => ⟨[], rfl, fun i c hi => by simp at hi⟩
  | n + 1, p, h => by
    obtain ⟨xs, hl, hp⟩ := list_of n p (fun i hi => h i (by omega))
    obtain ⟨c, hc⟩ := h n (by omega)
    refine ⟨xs ++ [c], by simp [hl], fun i d hi => ?_⟩
    rcases Nat.lt_or_ge i n with h1 | h1
    · rw [List.getElem?_append_left (by omega)] at hi
      exact hp i d hi
    · obtain ⟨h2, _⟩ := List.getElem?_eq_some_iff.1 hi
      simp [hl] at h2
      obtain rfl : i = n := by omega
      rw [List.getElem?_append_right (by omega), hl, Nat.sub_self] at hi
      simp at hi
      subst hi
      exact hc
theorem cells_open {n : Nat} {a : Option Addr} {len cap : Nat} {x : DataW H × List MemPlace} (h : DataW.trod enc Tryz.prog w base spare held n 30 [.slice a len cap] = some x) :
    ∃ xs, IsCells w a len cap xs := by
  rcases open_slice Tryz.underlying30 h with ⟨hcs, _⟩ | ⟨ad, len', cap', m, n', D, Pl, hcs, hb, hl, hm, hmm, hx, hi⟩
  · simp at hcs
    obtain ⟨rfl, rfl, rfl⟩ := hcs
    exact ⟨[], rfl, by simp, .inl rfl, fun c hc => by simp at hc⟩
  · simp at hcs
    obtain ⟨rfl, rfl, rfl⟩ := hcs
    rw [show Tryz.prog.cellsOf 73 = 3 by kernel_rfl] at hi
    obtain ⟨xs, hxl, hxs⟩ := list_of len (fun i c => c.f < 18446744073709551616 ∧ w.cell? (ad.add (i * 3)) = some (.int .u64 (c.f : Int)) ∧ w.cell? (ad.add (i * 3 + 1)) = some (.int .i64 c.k) ∧ w.cell? (ad.add (i * 3 + 2)) = some (.int .i64 c.v)) (fun i hil => by
      obtain ⟨cs', hc, ht⟩ := hi i (by rw [hmm]; split <;> omega)
      obtain ⟨_, hcl, hat⟩ := World.cells?_some hc
      obtain ⟨c, hf, rfl⟩ := cell_open hcl ht
      have e0 := hat 0 (by omega)
      have e1 := hat 1 (by omega)
      have e2 := hat 2 (by omega)
      rw [add_add] at e0 e1 e2
      exact ⟨c, hf, e0, e1, e2⟩)
    refine ⟨xs, hxl.symm, by omega, ?_, fun c hc => ?_⟩
    · rcases Nat.eq_zero_or_pos len with h0 | h0
      · exact .inl (List.length_eq_zero_iff.1 (by omega))
      · obtain ⟨b, off, spot⟩ := ad
        obtain ⟨_, h1, _, _⟩ := hxs 0 (xs[0]'(by omega)) (List.getElem?_eq_getElem (by omega))
        have hspot : spot = none := by simpa [Addr.add] using World.cell?_spot h1
        subst hspot
        refine .inr ⟨b, off, rfl, fun i c hic => ?_⟩
        have e : ∀ k, ({ block := b, off := off } : Addr).add k = ⟨b, off + k, none⟩ := fun k => by simp [Addr.add]
        have h3 := (hxs i c hic).2
        rw [e, e, e, ← Nat.add_assoc, ← Nat.add_assoc] at h3
        exact h3
    · obtain ⟨i, hi', hic⟩ := List.mem_iff_getElem.1 hc
      exact (hxs i c (by rw [← hic]; exact List.getElem?_eq_getElem hi')).1
end
end Go.Proofs.YtjcminoaiieckaaGreatDoor
namespace Go.Proofs.YtjcminoaiieckaaGreatDoor
open Go.RowKit
set_option linter.unusedVariables false
set_option linter.unusedSimpArgs false
def pc : Nat → Nat → Nat
  | 0, _ => 0
  | n + 1, f => pc n f + (if f.testBit n then 1 else 0)
end Go.Proofs.YtjcminoaiieckaaGreatDoor
namespace Go.Proofs.YtjcminoaiieckaaGreatDoor
open Go.RowKit Go.ChangeShapes Go.WideShapes Go.Deep
set_option linter.unusedVariables false
section
variable {H : Type} {enc : TypeId × Value → H} {w : World} {base : Nat} {spare : Nat → Bool} {held : Bool}
theorem slice_form {n : Nat} {cs : List Value} {x : DataW H × List MemPlace} (h : DataW.trod enc Tryz.prog w base spare held n 30 cs = some x) : ∃ a len cap, cs = [.slice a len cap] := by
  rcases open_slice Tryz.underlying30 h with ⟨hcs, _⟩ | ⟨ad, len', cap', m, n', D, Pl, hcs, _⟩
  · exact ⟨_, _, _, hcs⟩
  · exact ⟨_, _, _, hcs⟩
end
end Go.Proofs.YtjcminoaiieckaaGreatDoor
namespace Go.Proofs.YtjcminoaiieckaaGreatDoor
open Go.RowKit Go.ChangeShapes Go.WideShapes Go.Deep Go.Joins
set_option linter.unusedVariables false
theorem list_pick {α : Type} : ∀ (n : Nat) (p : Nat → α → Prop), (∀ i, i < n → ∃ c, p i c) → ∃ xs : List α, xs.length = n ∧ ∀ i c, xs[i]? = some c → p i c
  | 0, p, h => ⟨[], rfl, fun i c hi => by simp at hi⟩
  | n + 1, p, h => by
    obtain ⟨xs, hl, hp⟩ := list_pick n p (fun i hi => h i (by omega))
    obtain ⟨c, hc⟩ := h n (by omega)
    refine ⟨xs ++ [c], by simp [hl], fun i d hi => ?_⟩
    rcases Nat.lt_or_ge i n with h1 | h1
    · rw [List.getElem?_append_left (by omega)] at hi
      exact hp i d hi
    · obtain ⟨h2, _⟩ := List.getElem?_eq_some_iff.1 hi
      simp [hl] at h2
      obtain rfl : i = n := by omega
      rw [List.getElem?_append_right (by omega), hl, Nat.sub_self] at hi
      simp at hi
      subst hi
      exact hc
theorem SIn.more {w : World} : ∀ {d e : Nat} {s : SV}, d ≤ e → SIn w d s → SIn w e s
  | 0, _, _, _, h => h.elim
  | d + 1, 0, _, hl, _ => by omega
  | d + 1, e + 1, .mk f ps, hl, ⟨h1, h2, h3⟩ => ⟨h1, h2, fun p hp => SIn.more (by omega) (h3 p hp)⟩
theorem WIn.more {w : World} : ∀ {d e : Nat} {s : WV}, d ≤ e → WIn w d s → WIn w e s
  | 0, _, _, _, h => h.elim
  | d + 1, 0, _, hl, _ => by omega
  | d + 1, e + 1, .mk f ps, hl, ⟨h0, h1, h2, h3⟩ => ⟨h0, h1, h2, fun p hp => WIn.more (by omega) (h3 p hp)⟩
theorem six_len {cs : List Value} (h : cs.length = 6) : ∃ a b c d e f, cs = [a, b, c, d, e, f] := by
  match cs, h with
  | [a, b, c, d, e, f], _ => exact ⟨a, b, c, d, e, f, rfl⟩
section
variable {H : Type} {enc : TypeId × Value → H} {w : World} {base : Nat} {spare : Nat → Bool} {held : Bool}
set_option maxRecDepth 100000 in
theorem space_in : ∀ (fuel : Nat) {cs : List Value} {x : DataW H × List MemPlace}, DataW.trod enc Tryz.prog w base spare held fuel 25 cs = some x → ∃ s : SV, cs = [.int .i64 s.f.tag, .int .i64 s.f.dim, .slice s.f.a s.f.len s.f.cap] ∧ SIn w fuel s := by
  intro fuel
  induction fuel using Nat.strongRecOn with
  | _ fuel ih =>
  intro cs x h
  obtain ⟨xs, n, hn, _, hl, hlen, hg⟩ := DataW.trod_struct Tryz.underlying25 h
  rw [show Tryz.prog.cellsOf 25 = 3 by kernel_rfl] at hl
  obtain ⟨a, b, c, rfl⟩ := three_len hl
  have hlen3 : xs.length = 3 := hlen
  have g0 := hg 0 _ rfl
  have g1 := hg 1 _ rfl
  have g2 := hg 2 _ rfl
  rw [show Tryz.prog.cellsOf _ = 1 by kernel_rfl, List.getElem?_eq_getElem (by omega)] at g0 g1 g2
  obtain ⟨z0, e0, _, w0⟩ := DataW.trod_int (k := .i64) (by kernel_rfl) g0
  obtain ⟨z1, e1, _, w1⟩ := DataW.trod_int (k := .i64) (by kernel_rfl) g1
  simp at e0 e1
  subst e0 e1
  rcases DataW.trod_slice Tryz.underlying23 g2 with ⟨hcs, _⟩ | ⟨ad, len, cap, elems, rest, n', hn', hcs, _, hb, hle, hcap, hel, hi, _, _⟩
  · simp at hcs
    subst hcs
    subst hn
    exact ⟨.mk ⟨z0, z1, none, 0, 0⟩ [], rfl, rfl, .inl rfl, fun p hp => by cases hp⟩
  · simp at hcs
    subst hcs
    subst hn
    rw [show Tryz.prog.cellsOf 25 = 3 by kernel_rfl] at hi
    obtain ⟨ps, hpl, hps⟩ := list_pick len (fun i (p : SV) => (w.cell? (ad.add (i * 3)) = some (.int .i64 p.f.tag) ∧ w.cell? (ad.add (i * 3 + 1)) = some (.int .i64 p.f.dim) ∧ w.cell? (ad.add (i * 3 + 2)) = some (.slice p.f.a p.f.len p.f.cap)) ∧ SIn w n' p) (fun i hil => by
      have hii := hi i hil
      rw [List.getElem?_eq_getElem (by omega)] at hii
      obtain ⟨cs', hc, ht⟩ := Option.bind_eq_some_iff.1 hii
      obtain ⟨_, hcl, hat⟩ := World.cells?_some hc
      obtain ⟨s, rfl, hs⟩ := ih n' (by omega) ht
      have e0 := hat 0 (by omega)
      have e1 := hat 1 (by omega)
      have e2 := hat 2 (by omega)
      rw [Go.Deep.add_add] at e0 e1 e2
      exact ⟨s, ⟨e0, e1, e2⟩, hs⟩)
    refine ⟨.mk ⟨z0, z1, some ad, len, cap⟩ ps, rfl, hpl, ?_, fun p hp => ?_⟩
    · rcases Nat.eq_zero_or_pos len with h0 | h0
      · exact .inl (List.length_eq_zero_iff.1 (by omega))
      · obtain ⟨b, off, spot⟩ := ad
        obtain ⟨⟨h1, _, _⟩, _⟩ := hps 0 (ps[0]'(by omega)) (List.getElem?_eq_getElem (by omega))
        have hspot : spot = none := by simpa [Addr.add] using World.cell?_spot h1
        subst hspot
        refine .inr ⟨b, off, rfl, fun i c hic => ?_⟩
        have e : ∀ k, ({ block := b, off := off } : Addr).add k = ⟨b, off + k, none⟩ := fun k => by simp [Addr.add]
        have h3 := (hps i c hic).1
        rw [e, e, e, ← Nat.add_assoc, ← Nat.add_assoc] at h3
        exact h3
    · obtain ⟨i, hi', hic⟩ := List.mem_iff_getElem.1 hp
      exact (hps i p (by rw [← hic]; exact List.getElem?_eq_getElem hi')).2.more (by omega)
set_option maxRecDepth 100000 in
theorem u64s_open {n : Nat} {v : Value} {x : DataW H × List MemPlace} (h : DataW.trod enc Tryz.prog w base spare held n 27 [v] = some x) :
    ∃ (a : Option Addr) (len cap : Nat) (rows : List Nat), v = .slice a len cap ∧ VRow w a (u64s rows) ∧ rows.length = len ∧ ∀ r ∈ rows, r < 18446744073709551616 := by
  rcases open_ints (t := 27) (e := 26) (k := .u64) (by kernel_rfl) (by kernel_rfl) (by kernel_rfl) h with ⟨hcs, _⟩ | ⟨x, len, cap, zs, hcs, _, hl, hm, hz, _, hcell, hwz⟩
  · have hcs' : v = .slice none 0 0 := by simpa using hcs
    subst hcs'
    exact ⟨none, 0, 0, [], rfl, .inl rfl, rfl, fun r hr => by cases hr⟩
  · have hcs' : v = .slice (some x) len cap := by simpa using hcs
    subst hcs'
    have hzl : len ≤ zs.length := by rw [hz]; split <;> omega
    refine ⟨some x, len, cap, (zs.take len).map Int.toNat, rfl, ?_, ?_, ?_⟩
    · rcases Nat.eq_zero_or_pos len with h0 | h0
      · subst h0; exact .inl (by simp [u64s])
      · obtain ⟨b, off, spot⟩ := x
        have hc0 := hcell 0 (by omega)
        have hspot : spot = none := by simpa [Addr.add] using World.cell?_spot hc0
        subst hspot
        refine .inr ⟨b, off, rfl, fun i v hi => ?_⟩
        obtain ⟨q, hq, rfl⟩ := u64s_at hi
        rw [List.getElem?_map, List.getElem?_take] at hq
        split at hq
        · rename_i hlt
          have hi2 : i < zs.length := by omega
          rw [List.getElem?_eq_getElem hi2] at hq
          have hq' : (zs[i]).toNat = q := by simpa using hq
          obtain ⟨m, hm1, hm2⟩ := u64_nat (hwz _ (List.getElem_mem hi2))
          have hc := hcell i hi2
          have e : ({ block := b, off := off } : Addr).add i = ⟨b, off + i, none⟩ := by simp [Addr.add]
          rw [e] at hc
          rw [hc]
          have : zs.getD i 0 = zs[i] := by simp [List.getD, List.getElem?_eq_getElem hi2]
          rw [this, hm1, ← hq', hm1]
          rfl
        · cases hq
    · simp; omega
    · intro r hr
      obtain ⟨z, hz1, rfl⟩ := List.mem_map.1 hr
      obtain ⟨m, hm1, hm2⟩ := u64_nat (hwz z (List.mem_of_mem_take hz1))
      rw [hm1]; exact hm2
set_option maxRecDepth 100000 in
theorem facts_in {n : Nat} {a b : Value} {x : DataW H × List MemPlace} (h : DataW.trod enc Tryz.prog w base spare held n 29 [a, b] = some x) :
    ∃ (g : Nat) (ra : Option Addr) (rl rc : Nat) (rows : List Nat), a = .int .u64 (g : Int) ∧ b = .slice ra rl rc ∧ g < 18446744073709551616 ∧ VRow w ra (u64s rows) ∧ rows.length = rl ∧ ∀ r ∈ rows, r < 18446744073709551616 := by
  obtain ⟨xs, n', _, _, hl, hlen, hg⟩ := DataW.trod_struct Tryz.underlying29 h
  have hlen2 : xs.length = 2 := hlen
  have g0 := hg 0 _ rfl
  have g1 := hg 1 _ rfl
  rw [show Tryz.prog.cellsOf _ = 1 by kernel_rfl, List.getElem?_eq_getElem (by omega)] at g0 g1
  obtain ⟨z0, e0, _, w0⟩ := DataW.trod_int (k := .u64) (by kernel_rfl) g0
  simp at e0
  subst e0
  obtain ⟨g, rfl, hg64⟩ := u64_nat w0
  obtain ⟨ra, rl, rc, rows, e1, h1, h2, h3⟩ := u64s_open (v := b) g1
  exact ⟨g, ra, rl, rc, rows, rfl, e1, hg64, h1, h2, h3⟩
set_option maxRecDepth 100000 in
theorem weight_in : ∀ (fuel : Nat) {cs : List Value} {x : DataW H × List MemPlace}, DataW.trod enc Tryz.prog w base spare held fuel 33 cs = some x → ∃ s : WV, cs = s.f.six ∧ WIn w fuel s := by
  intro fuel
  induction fuel using Nat.strongRecOn with
  | _ fuel ih =>
  intro cs x h
  obtain ⟨xs, n, hn, _, hl, hlen, hg⟩ := DataW.trod_struct Tryz.underlying33 h
  rw [show Tryz.prog.cellsOf 33 = 6 by kernel_rfl] at hl
  obtain ⟨a, b, c, d, e, f, rfl⟩ := six_len hl
  have hlen5 : xs.length = 5 := hlen
  have g0 := hg 0 _ rfl
  have g1 := hg 1 _ rfl
  have g2 := hg 2 _ rfl
  have g3 := hg 3 _ rfl
  have g4 := hg 4 _ rfl
  rw [show Tryz.prog.cellsOf _ = 1 by kernel_rfl, List.getElem?_eq_getElem (by omega)] at g0 g1 g3 g4
  rw [show Tryz.prog.cellsOf _ = 2 by kernel_rfl, List.getElem?_eq_getElem (by omega)] at g2
  obtain ⟨z0, e0, _⟩ := DataW.trod_bool (by kernel_rfl) g0
  obtain ⟨z1, e1, _, w1⟩ := DataW.trod_int (k := .i64) (by kernel_rfl) g1
  simp at e0 e1
  subst e0 e1
  obtain ⟨gg, ra, rl, rc, rows, rfl, rfl, hg64, hrow, hrl, hr64⟩ := facts_in (a := c) (b := d) g2
  obtain ⟨ca, cl, cc, e3⟩ := slice_form g3
  have e3' : e = .slice ca cl cc := by simpa using e3
  subst e3'
  obtain ⟨cells, hcl, hcm, hcrow, hcbits⟩ := cells_open (a := ca) (len := cl) (cap := cc) g3
  rcases DataW.trod_slice Tryz.underlying31 g4 with ⟨hcs, _⟩ | ⟨ad, len, cap, elems, rest, n', hn', hcs, _, hb, hle, hcap, hel, hi, _, _⟩
  · simp at hcs
    subst hcs
    subst hn
    exact ⟨.mk ⟨z0, z1, gg, ra, rl, rc, rows, ca, cl, cc, cells, none, 0, 0⟩ [], rfl, ⟨hrow, hrl, hg64, hr64, hcrow, hcl.symm, hcbits, by dsimp only; omega⟩, rfl, .inl rfl, fun p hp => by cases hp⟩
  · simp at hcs
    subst hcs
    subst hn
    rw [show Tryz.prog.cellsOf 33 = 6 by kernel_rfl] at hi
    obtain ⟨ps, hpl, hps⟩ := list_pick len (fun i (p : WV) => (w.cell? (ad.add (i * 6)) = some (.bool p.f.z) ∧ w.cell? (ad.add (i * 6 + 1)) = some (.int .i64 p.f.c) ∧ w.cell? (ad.add (i * 6 + 2)) = some (.int .u64 (p.f.g : Int)) ∧ w.cell? (ad.add (i * 6 + 3)) = some (.slice p.f.ra p.f.rl p.f.rc) ∧ w.cell? (ad.add (i * 6 + 4)) = some (.slice p.f.ca p.f.cl p.f.cc) ∧ w.cell? (ad.add (i * 6 + 5)) = some (.slice p.f.pa p.f.pl p.f.pc)) ∧ WIn w n' p) (fun i hil => by
      have hii := hi i hil
      rw [List.getElem?_eq_getElem (by omega)] at hii
      obtain ⟨cs', hc, ht⟩ := Option.bind_eq_some_iff.1 hii
      obtain ⟨_, hcl, hat⟩ := World.cells?_some hc
      obtain ⟨s, rfl, hs⟩ := ih n' (by omega) ht
      have e0 := hat 0 (by omega)
      have e1 := hat 1 (by omega)
      have e2 := hat 2 (by omega)
      have e3 := hat 3 (by omega)
      have e4 := hat 4 (by omega)
      have e5 := hat 5 (by omega)
      rw [Go.Deep.add_add] at e0 e1 e2 e3 e4 e5
      exact ⟨s, ⟨e0, e1, e2, e3, e4, e5⟩, hs⟩)
    refine ⟨.mk ⟨z0, z1, gg, ra, rl, rc, rows, ca, cl, cc, cells, some ad, len, cap⟩ ps, rfl, ⟨hrow, hrl, hg64, hr64, hcrow, hcl.symm, hcbits, by dsimp only; omega⟩, hpl, ?_, fun p hp => ?_⟩
    · rcases Nat.eq_zero_or_pos len with h0 | h0
      · exact .inl (List.length_eq_zero_iff.1 (by omega))
      · obtain ⟨b, off, spot⟩ := ad
        obtain ⟨⟨h1, _⟩, _⟩ := hps 0 (ps[0]'(by omega)) (List.getElem?_eq_getElem (by omega))
        have hspot : spot = none := by simpa [Addr.add] using World.cell?_spot h1
        subst hspot
        refine .inr ⟨b, off, rfl, fun i c hic => ?_⟩
        have e : ∀ k, ({ block := b, off := off } : Addr).add k = ⟨b, off + k, none⟩ := fun k => by simp [Addr.add]
        have h3 := (hps i c hic).1
        rw [e, e, e, e, e, e, ← Nat.add_assoc, ← Nat.add_assoc, ← Nat.add_assoc, ← Nat.add_assoc, ← Nat.add_assoc] at h3
        exact h3
    · obtain ⟨i, hi', hic⟩ := List.mem_iff_getElem.1 hp
      exact (hps i p (by rw [← hic]; exact List.getElem?_eq_getElem hi')).2.more (by omega)
end
end Go.Proofs.YtjcminoaiieckaaGreatDoor
namespace Go.Proofs.YtjcminoaiieckaaGreatDoor
open Go.RowKit Go.ChangeShapes Go.WideShapes Go.Deep Go.Joins
set_option linter.unusedVariables false
section
variable {H : Type} {enc : TypeId × Value → H} {w : World} {base : Nat} {spare : Nat → Bool} {held : Bool}
set_option maxRecDepth 100000 in
theorem space_open {r : Reach} {b0 : Nat} {v : Value} {d : DataW H} {p : List MemPlace} (hv : Value.okWide Tryz.prog w r b0 25 v) (h : DataW.Trod enc Tryz.prog w base spare held 25 v d p) :
    ∃ (n : Nat) (s : SV), v = s.f.val ∧ SIn w n s := by
  obtain ⟨cs, rfl, _⟩ := okWide_struct Tryz.underlying25 hv
  obtain ⟨n, h⟩ := h
  obtain ⟨s, e, hs⟩ := space_in n h
  have e' : cs.toList = _ := e
  exact ⟨n, s, by show Value.agg cs = Value.agg _; congr 1; exact Array.ext' e', hs⟩
set_option maxRecDepth 100000 in
theorem weight_open {r : Reach} {b0 : Nat} {v : Value} {d : DataW H} {p : List MemPlace} (hv : Value.okWide Tryz.prog w r b0 33 v) (h : DataW.Trod enc Tryz.prog w base spare held 33 v d p) :
    ∃ (n : Nat) (s : WV), v = s.f.val ∧ WIn w n s := by
  obtain ⟨cs, rfl, _⟩ := okWide_struct Tryz.underlying33 hv
  obtain ⟨n, h⟩ := h
  obtain ⟨s, e, hs⟩ := weight_in n h
  have e' : cs.toList = _ := e
  exact ⟨n, s, by show Value.agg cs = Value.agg _; congr 1; exact Array.ext' e', hs⟩
end
end Go.Proofs.YtjcminoaiieckaaGreatDoor
