/-
  THE CELLS LAYER: the law CellsOwn's walk.
-/
import Derived.Test.YtkekldebklghoaaDoorCellsLaws
import Derived.Laws.AppendOwnNone
namespace Go.Proofs.YtkekldebklghoaaDoor
open Go.RowKit
set_option linter.unusedVariables false

theorem wpList_append_cells {w : World} {ops : Array Oper} {rest : List Oper} {o : Oper} {act : Act} {Q : Exit → Act → World → Prop} (hgd : o.guard = none) (s x : Operand)
    (ho : o.op = .call { callee := .builtin .append, args := #[s, x], argTypes := #[22, 22] })
    (base : Nat) (v : Value) (n : Nat) (ys : List Value) (hs : act.eval s = v) (hown : w.ownsRow base 51 3 v n ys)
    (a : Option Addr) (c : Nat) (xs : List Cl) (hx : act.eval x = .slice a xs.length c) (hrow : CRow w a xs) (hnil : a = none → c = 0) (hb : (n + xs.length) * 24 ≤ 140737488355328) (hbase : base ≤ w.heap.size)
    (h : ∀ v' w', w'.ownsRow base 51 3 v' (n + xs.length) (ys ++ flat xs) → (w.grownBy w' v.ownBlock ∨ w' = w) → wpList Tryd.prog ops Q rest (act.put o.dst v') w') : wpList Tryd.prog ops Q (o :: rest) act w := by
  obtain ⟨i0, hi, hz0, hz1, hz2⟩ := info_parts infoC
  cases a with
  | none =>
    obtain rfl : xs = [] := by
      rcases hrow with h1 | ⟨b, off, e, _⟩
      · exact h1
      · cases e
    obtain rfl : c = 0 := hnil rfl
    refine wpList_append_own_none hgd s x _ ho base _ i0 3 Tryd.underlying22 hi v n ys hs hown hx ?_
    exact h v w (by simpa [flat] using hown) (.inr rfl)
  | some ad =>
    refine wpList_append_own w hgd s x _ ho base 51 i0 _ 3 24 Tryd.underlying22 hi hz0 hz1 hz2 rfl (by decide) v n ys hs hown ad xs.length c (flat xs) hx (flat_length xs) (crow_news hrow) (flat_one xs) (by unfold maxLen; omega) hb hbase ?_
    intro v' w' h1 h2 _
    exact h v' w' h1 (.inl h2)

theorem crow_set {w : World} {a : Option Addr} {cs : List Cl} {g j : Nat} {u : Value} (h : CRow w a cs) (hne : cs ≠ [] → ∀ ad, a = some ad → ad.block ≠ g) : CRow (w.setCell ⟨g, j, none⟩ u) a cs := by
  rcases h with h | ⟨b, off, rfl, hc⟩
  · exact .inl h
  · by_cases h0 : cs = []
    · exact .inl h0
    refine .inr ⟨b, off, rfl, fun i c hi => ?_⟩
    have hb : b ≠ g := hne h0 _ rfl
    have key : ∀ k v, w.cell? ⟨b, k, none⟩ = some v → (w.setCell ⟨g, j, none⟩ u).cell? ⟨b, k, none⟩ = some v := by
      intro k v hv
      rw [World.cell?_setCell_other]
      · exact hv
      · intro e; simp only [Addr.mk.injEq] at e; exact hb e.1.symm
    obtain ⟨h1, h2, h3⟩ := hc i c hi
    exact ⟨key _ _ h1, key _ _ h2, key _ _ h3⟩
theorem own_set {w : World} {base n : Nat} {E : Nat} {v : Value} {ys : List Value} {g j : Nat} {u : Value} (h : w.ownsRow base E 3 v n ys) (hg : g < base) : (w.setCell ⟨g, j, none⟩ u).ownsRow base E 3 v n ys := by
  refine ⟨h.1, ?_⟩
  rcases h.2 with h2 | ⟨g', cap, cur, hv, hg', hh, r⟩
  · exact .inl h2
  · exact .inr ⟨g', cap, cur, hv, hg', by rw [Below.heap_setCell _ _ _ _ (by simp; omega)]; exact hh, r⟩
theorem app_below {w w1 : World} {n m : Nat} (h : (w.alloc (.cells #[] 51)).grownBy w1 (Value.slice (some ⟨w.heap.size, 0, none⟩) n m).ownBlock ∨ w1 = w.alloc (.cells #[] 51)) : Below w.heap.size w w1 := by
  rcases h with hg | rfl
  · exact ((Below.refl _ _).alloc (Nat.le_refl _) _).grown hg (by simp) (fun j e => by cases e; exact Nat.le_refl _)
  · exact (Below.refl _ _).alloc (Nat.le_refl _) _
theorem app_lt {w w1 : World} {n m : Nat} (h : (w.alloc (.cells #[] 51)).grownBy w1 (Value.slice (some ⟨w.heap.size, 0, none⟩) n m).ownBlock ∨ w1 = w.alloc (.cells #[] 51)) : w.heap.size < w1.heap.size := by
  rcases h with hg | rfl
  · have := ((Below.refl (w.alloc (.cells #[] 51)).heap.size (w.alloc (.cells #[] 51)))).size
    have h2 := (((Below.refl w.heap.size (w.alloc (.cells #[] 51)))).grown hg (by simp) (fun j e => by cases e; exact Nat.le_refl _)).size
    have h3 := hg.size
    simp at h3
    omega
  · simp
/-- What the marring keeps: two rows lie as they lay. -/
structure Keep (w : World) (a1 a2 a3 a4 : Option Addr) (x1 x2 x3 x4 : List Cl) : Prop where
  c1 : CRow w a1 x1
  c2 : CRow w a2 x2
  c3 : CRow w a3 x3
  c4 : CRow w a4 x4
theorem Keep.set {w : World} {a1 a2 a3 a4 : Option Addr} {x1 x2 x3 x4 : List Cl} {g j : Nat} {u : Value} (h : Keep w a1 a2 a3 a4 x1 x2 x3 x4)
    (h1 : x1 ≠ [] → ∀ ad, a1 = some ad → ad.block ≠ g) (h2 : x2 ≠ [] → ∀ ad, a2 = some ad → ad.block ≠ g) (h3 : x3 ≠ [] → ∀ ad, a3 = some ad → ad.block ≠ g) (h4 : x4 ≠ [] → ∀ ad, a4 = some ad → ad.block ≠ g) : Keep (w.setCell ⟨g, j, none⟩ u) a1 a2 a3 a4 x1 x2 x3 x4 :=
  ⟨crow_set h.c1 h1, crow_set h.c2 h2, crow_set h.c3 h3, crow_set h.c4 h4⟩
theorem CRow.lt {w : World} {a : Option Addr} {cs : List Cl} (h : CRow w a cs) (hne : cs ≠ []) : ∀ ad, a = some ad → ad.block < w.heap.size := by
  intro ad e
  rcases h with h | ⟨b, off, rfl, hc⟩
  · exact absurd h hne
  · cases e
    match cs, hne with
    | c :: r, _ => exact cell_lt (hc 0 c rfl).1

theorem Keep.set3 {w : World} {a1 a2 a3 a4 : Option Addr} {x1 x2 x3 x4 : List Cl} {g k : Nat} {u0 u1 u2 : Value} (h : Keep w a1 a2 a3 a4 x1 x2 x3 x4)
    (h1 : x1 ≠ [] → ∀ ad, a1 = some ad → ad.block ≠ g) (h2 : x2 ≠ [] → ∀ ad, a2 = some ad → ad.block ≠ g) (h3 : x3 ≠ [] → ∀ ad, a3 = some ad → ad.block ≠ g) (h4 : x4 ≠ [] → ∀ ad, a4 = some ad → ad.block ≠ g) :
    Keep (((w.setCell ⟨g, k * 3, none⟩ u0).setCell ⟨g, k * 3 + 1, none⟩ u1).setCell ⟨g, k * 3 + 2, none⟩ u2) a1 a2 a3 a4 x1 x2 x3 x4 :=
  ((h.set h1 h2 h3 h4).set h1 h2 h3 h4).set h1 h2 h3 h4
def badC : Cl := ⟨0, 9, 0⟩

set_option maxRecDepth 100000 in
set_option maxHeartbeats 4000000 in
theorem cellsOwn_walk (d : Int) (a : Option Addr) (la ca : Nat) (xs : List Cl) (b : Option Addr) (lb cb : Nat) (ys : List Cl) (w : World) (hd : (Lit.int .i64 d).wf = true) (ha : IsCells w a la ca xs) (hb : IsCells w b lb cb ys)
    (na : a = none → ca = 0) (nb : b = none → cb = 0) (sa : xs.length * 24 ≤ 140737488351232) (sb : ys.length * 24 ≤ 140737488351232) (ht : Tabs w) :
    Calls Tryd.prog 11 #[.int .i64 d, .slice a la ca, .slice b lb cb] w fun e w' => e = .returned (.bool true) ∧ Below w.heap.size w w' := by
  obtain ⟨rfl, hma, hra, hba⟩ := ha
  obtain ⟨rfl, hmb, hrb, hbb⟩ := hb
  have HT := Lib.hid ht
  have HMA := Lib.hid hma; have HMB := Lib.hid hmb; have HRA := Lib.hid hra; have HRB := Lib.hid hrb; have HBA := Lib.hid hba; have HBB := Lib.hid hbb
  have NA := Lib.hid na; have NB := Lib.hid nb
  obtain ⟨c, hc⟩ : ∃ c, chk2C d xs ys = c := ⟨_, rfl⟩
  have HC := Lib.hid hc
  have HM := Lib.hid (bothR_max (d := d) (ys := ys) hma)
  have HM2 := Lib.hid (thenR_max (d := d) (xs := xs) hmb)
  have hown : (w.alloc (.cells #[] 51)).ownsRow w.heap.size 51 3 (.slice (some ⟨w.heap.size, 0, none⟩) 0 0) 0 [] := World.ownsRow_lit w #[] 0 (Nat.le_refl _) (by simp) rfl
  have HO := Lib.hid hown
  clear ht hma hmb hra hrb hba hbb hc hown na nb
  go_enter Tryd.func11, Tryd.ntmps11
  go_wp2_with (first | (at_builtin; refine wpList_append_cells rfl (.tmp 19) (.tmp 20) rfl w.heap.size _ 0 [] rfl HO.out a ca xs rfl (HRA.out.below ((Below.refl _ _).alloc (Nat.le_refl _) _)) NA.out (by omega) (by simp) ?_; intro vx w1 hown1 hgrow1; have hb1 : Below w.heap.size w w1 := app_below hgrow1; have hsz1 : w.heap.size < w1.heap.size := app_lt hgrow1; have HO1 := Lib.hid hown1; clear hown1 hgrow1; have HOY := Lib.hid (World.ownsRow_lit (e := 51) (size := 3) w1 #[] 0 (Nat.le_refl _) (by simp) rfl)) | (at_builtin; go_loud (refine wpList_append_cells rfl (.tmp 22) (.tmp 23) rfl w1.heap.size _ 0 [] rfl HOY.out b cb ys rfl (HRB.out.below (hb1.alloc hb1.size _)) NB.out (by omega) (by simp) ?_; intro vy w2 hown2 hgrow2; have hb2 : Below w1.heap.size w1 w2 := app_below hgrow2; have hsz2 : w1.heap.size < w2.heap.size := app_lt hgrow2; have HO2 := Lib.hid hown2; clear hown2 hgrow2)))
  have own1 : w1.ownsRow w.heap.size 51 3 vx xs.length (flat xs) := by have := HO1.out; rw [Nat.zero_add, List.nil_append] at this; exact this
  have own2 : w2.ownsRow w1.heap.size 51 3 vy ys.length (flat ys) := by have := HO2.out; rw [Nat.zero_add, List.nil_append] at this; exact this
  clear HO1 HO2 HO HOY
  obtain ⟨_, ax, cx, rfl, rx, fx⟩ := crow_of_own own1
  obtain ⟨_, ay, cy, rfl, ry, fy⟩ := crow_of_own own2
  have OW1 := Lib.hid own1; have OW2 := Lib.hid own2; have RX := Lib.hid rx; have RY := Lib.hid ry; have FX := Lib.hid fx; have FY := Lib.hid fy
  clear own1 own2 rx ry fx fy
  have hB2 := hb1.trans (hb2.mono hb1.size)
  refine (bothP_any d ax ay cx cy xs ys _ HMA.out HMB.out (RX.out.below hb2) RY.out HBA.out HBB.out c HC.out).mono ?_
  rintro e w3 ⟨pa, pc, rfl, hp, fp, hb3⟩
  have HP := Lib.hid hp; have FP := Lib.hid fp
  clear hp fp
  have hB3 := hB2.trans (hb3.mono hB2.size)
  have T1_3 := hb2.trans (hb3.mono hb2.size)
  go_wp2_with fail
  refine (then_any d ax ay cx cy xs ys _ (HT.out.below hB3) HMA.out HMB.out (RX.out.below T1_3) (RY.out.below hb3) HBA.out HBB.out c HC.out).mono ?_
  rintro e w4 ⟨qa, qc, rfl, hq, fq, hb4⟩
  have HQ := Lib.hid hq; have FQ := Lib.hid fq
  clear hq fq
  have hB4 := hB3.trans (hb4.mono hB3.size)
  have T1_4 := T1_3.trans (hb4.mono T1_3.size)
  have T2_4 := hb3.trans (hb4.mono hb3.size)
  go_wp2_with fail
  refine (sameRef_any ax a cx ca xs xs _ HMA.out HMA.out (RX.out.below T1_4) (HRA.out.below hB4) true (same_refl _)).mono ?_
  rintro e w5 ⟨rfl, hb5⟩
  have hB5 := hB4.trans (hb5.mono hB4.size)
  have T1_5 := T1_4.trans (hb5.mono T1_4.size)
  have T2_5 := T2_4.trans (hb5.mono T2_4.size)
  have T3_5 := hb4.trans (hb5.mono hb4.size)
  go_wp2_with fail
  refine (sameRef_any ay b cy cb ys ys _ HMB.out HMB.out (RY.out.below T2_5) (HRB.out.below hB5) true (same_refl _)).mono ?_
  rintro e w6 ⟨rfl, hb6⟩
  have hB6 := hB5.trans (hb6.mono hB5.size)
  have T1_6 := T1_5.trans (hb6.mono T1_5.size)
  have T2_6 := T2_5.trans (hb6.mono T2_5.size)
  have T3_6 := T3_5.trans (hb6.mono T3_5.size)
  have T4_6 := hb5.trans (hb6.mono hb5.size)
  have O6X := Lib.hid (own_below OW1.out T1_6)
  have O6Y := Lib.hid (own_below OW2.out T2_6)
  have KK : Hid (Keep w6 a b pa qa xs ys (bothR d xs ys) (thenR d xs ys)) := ⟨HRA.out.below hB6, HRB.out.below hB6, HP.out.below T3_6, HQ.out.below T4_6⟩
  have NE1 : Hid (∀ g, w.heap.size ≤ g → g < w2.heap.size → (xs ≠ [] → ∀ ad, a = some ad → ad.block ≠ g) ∧ (ys ≠ [] → ∀ ad, b = some ad → ad.block ≠ g) ∧ (bothR d xs ys ≠ [] → ∀ ad, pa = some ad → ad.block ≠ g) ∧ (thenR d xs ys ≠ [] → ∀ ad, qa = some ad → ad.block ≠ g)) := by
    intro g h1 h2
    refine ⟨fun h ad e => ?_, fun h ad e => ?_, fun h ad e => ?_, fun h ad e => ?_⟩
    · have := HRA.out.lt h ad e; omega
    · have := HRB.out.lt h ad e; omega
    · have := (FP.out ad e).1; omega
    · have := (FQ.out ad e).1; have := hb3.size; omega
  have hlx : xs.length ≤ 9223372036854775807 := by omega
  have hly : ys.length ≤ 9223372036854775807 := by omega
  go_wp2_with fail
  go_loopw [51] (fun i wr => ∃ k : Nat, k ≤ xs.length ∧ i = .int .i64 k ∧ Hid (∃ zs : List Cl, zs.length = xs.length ∧ wr.ownsRow w.heap.size 51 3 (.slice ax xs.length cx) xs.length (flat zs)) ∧ Hid (wr.ownsRow w1.heap.size 51 3 (.slice ay ys.length cy) ys.length (flat ys)) ∧ Hid (Keep wr a b pa qa xs ys (bothR d xs ys) (thenR d xs ys)) ∧ Below w.heap.size w wr) (fun i _ => xs.length - (intOf i).toNat)
  case atStart => exact ⟨0, Nat.zero_le _, rfl, ⟨xs, rfl, O6X.out⟩, O6Y, KK, hB6⟩
  case round =>
    obtain ⟨k, hk, rfl, HX, HY, HK, hb⟩ := hrel
    by_cases hlt : k < xs.length
    · obtain ⟨zs, hzl, hown⟩ := HX.out
      obtain ⟨g, capg, hv, hbg, hgl⟩ := hown.form (show 0 < xs.length by omega)
      simp only [Value.slice.injEq, true_and] at hv
      obtain ⟨rfl, rfl⟩ := hv
      have hg1 : g < w1.heap.size := (FX.out _ rfl).2.2
      obtain ⟨n1, n2, n3, n4⟩ := NE1.out g hbg (by omega)
      obtain ⟨z, e1⟩ : ∃ z, zs[k]? = some z := ⟨_, List.getElem?_eq_getElem (by omega)⟩
      obtain ⟨f0, f1, f2⟩ := flat_at e1
      have d0 := (hown.cellAt (k * 3) (by omega)).trans f0
      have d1 := (hown.cellAt (k * 3 + 1) (by omega)).trans f1
      have d2 := (hown.cellAt (k * 3 + 2) (by omega)).trans f2
      have q0 := hown.frozenAt (k * 3); have q1 := hown.frozenAt (k * 3 + 1); have q2 := hown.frozenAt (k * 3 + 2)
      have HS : Hid (∃ zs : List Cl, zs.length = xs.length ∧ (((wr.setCell ⟨g, k * 3, none⟩ (.int .u64 0)).setCell ⟨g, k * 3 + 1, none⟩ (.int .i64 9)).setCell ⟨g, k * 3 + 2, none⟩ (.int .i64 0)).ownsRow w.heap.size 51 3 (.slice (some ⟨g, 0, none⟩) xs.length cx) xs.length (flat zs)) := ⟨zs.set k badC, by simp [hzl], own_store3 hown (by omega) badC⟩
      have HY2 : Hid ((((wr.setCell ⟨g, k * 3, none⟩ (.int .u64 0)).setCell ⟨g, k * 3 + 1, none⟩ (.int .i64 9)).setCell ⟨g, k * 3 + 2, none⟩ (.int .i64 0)).ownsRow w1.heap.size 51 3 (.slice ay ys.length cy) ys.length (flat ys)) := own_set (own_set (own_set HY.out hg1) hg1) hg1
      have HK2 : Hid (Keep (((wr.setCell ⟨g, k * 3, none⟩ (.int .u64 0)).setCell ⟨g, k * 3 + 1, none⟩ (.int .i64 9)).setCell ⟨g, k * 3 + 2, none⟩ (.int .i64 0)) a b pa qa xs ys (bothR d xs ys) (thenR d xs ys)) := HK.out.set3 n1 n2 n3 n4
      have HB : Hid (Below w.heap.size w (((wr.setCell ⟨g, k * 3, none⟩ (.int .u64 0)).setCell ⟨g, k * 3 + 1, none⟩ (.int .i64 9)).setCell ⟨g, k * 3 + 2, none⟩ (.int .i64 0))) := ((hb.setCell (p := ⟨g, k * 3, none⟩) hbg _).setCell (p := ⟨g, k * 3 + 1, none⟩) hbg _).setCell (p := ⟨g, k * 3 + 2, none⟩) hbg _
      clear n1 n2 n3 n4 e1 f0 f1 f2 hown hzl
      have g0 : (0 : Int) ≤ (k : Int) := by omega
      have g1 : (k : Int) < (xs.length : Int) := by omega
      go_wp2
      go_roundw
      case rel => exact ⟨k + 1, by omega, by go_num, HS, HY2, HK2, HB.out⟩
      case measure => simp [intOf]; omega
    · go_wp2_with fail
      go_loopw [61] (fun i wr => ∃ k : Nat, k ≤ ys.length ∧ i = .int .i64 k ∧ Hid (∃ zs : List Cl, zs.length = ys.length ∧ wr.ownsRow w1.heap.size 51 3 (.slice ay ys.length cy) ys.length (flat zs)) ∧ Hid (Keep wr a b pa qa xs ys (bothR d xs ys) (thenR d xs ys)) ∧ Below w.heap.size w wr) (fun i _ => ys.length - (intOf i).toNat)
      case atStart => exact ⟨0, Nat.zero_le _, rfl, ⟨ys, rfl, HY.out⟩, HK, hb⟩
      case round =>
        obtain ⟨k2, hk2, rfl, HY3, HK3, hb7⟩ := hrel
        by_cases hlt2 : k2 < ys.length
        · obtain ⟨zs, hzl, hown⟩ := HY3.out
          obtain ⟨g, capg, hv, hbg, hgl⟩ := hown.form (show 0 < ys.length by omega)
          simp only [Value.slice.injEq, true_and] at hv
          obtain ⟨rfl, rfl⟩ := hv
          have hg2 : g < w2.heap.size := (FY.out _ rfl).2.2
          have hbg0 : w.heap.size ≤ g := by omega
          obtain ⟨n1, n2, n3, n4⟩ := NE1.out g hbg0 hg2
          obtain ⟨z, e1⟩ : ∃ z, zs[k2]? = some z := ⟨_, List.getElem?_eq_getElem (by omega)⟩
          obtain ⟨f0, f1, f2⟩ := flat_at e1
          have d0 := (hown.cellAt (k2 * 3) (by omega)).trans f0
          have d1 := (hown.cellAt (k2 * 3 + 1) (by omega)).trans f1
          have d2 := (hown.cellAt (k2 * 3 + 2) (by omega)).trans f2
          have q0 := hown.frozenAt (k2 * 3); have q1 := hown.frozenAt (k2 * 3 + 1); have q2 := hown.frozenAt (k2 * 3 + 2)
          have HS : Hid (∃ zs : List Cl, zs.length = ys.length ∧ ((((‹World›).setCell ⟨g, k2 * 3, none⟩ (.int .u64 0)).setCell ⟨g, k2 * 3 + 1, none⟩ (.int .i64 9)).setCell ⟨g, k2 * 3 + 2, none⟩ (.int .i64 0)).ownsRow w1.heap.size 51 3 (.slice (some ⟨g, 0, none⟩) ys.length cy) ys.length (flat zs)) := ⟨zs.set k2 badC, by simp [hzl], own_store3 hown (by omega) badC⟩
          have HK4 := Lib.hid (HK3.out.set3 (k := k2) (u0 := .int .u64 0) (u1 := .int .i64 9) (u2 := .int .i64 0) n1 n2 n3 n4)
          have HB := Lib.hid (((hb7.setCell (p := ⟨g, k2 * 3, none⟩) hbg0 (.int .u64 0)).setCell (p := ⟨g, k2 * 3 + 1, none⟩) hbg0 (.int .i64 9)).setCell (p := ⟨g, k2 * 3 + 2, none⟩) hbg0 (.int .i64 0))
          clear n1 n2 n3 n4 e1 f0 f1 f2 hown hzl
          have g0 : (0 : Int) ≤ (k2 : Int) := by omega
          have g1 : (k2 : Int) < (ys.length : Int) := by omega
          go_wp2
          go_roundw
          case rel => exact ⟨k2 + 1, by omega, by go_num, HS, HK4, HB.out⟩
          case measure => simp [intOf]; omega
        · go_wp2_with fail
          refine (bothRef_any d a b ca cb xs ys _ HMA.out HMB.out HK3.out.c1 HK3.out.c2 HBA.out HBB.out c HC.out).mono ?_
          rintro e w8 ⟨ra, rc, rfl, hr, fr, hb8⟩
          have HR := Lib.hid hr
          clear hr fr
          have hB8 := hb7.trans (hb8.mono hb7.size)
          go_wp2_with fail
          refine (thenRef_any d a b ca cb xs ys _ HMA.out HMB.out (HK3.out.c1.below hb8) (HK3.out.c2.below hb8) HBA.out HBB.out c HC.out).mono ?_
          rintro e w9 ⟨ta, tc, rfl, ht9, ft, hb9⟩
          have HS9 := Lib.hid ht9
          clear ht9 ft
          have hB9 := hB8.trans (hb9.mono hB8.size)
          have T7_9 := hb8.trans (hb9.mono hb8.size)
          go_wp2_with fail
          refine (sameRef_any pa ra pc rc _ _ _ HM.out HM.out (HK3.out.c3.below T7_9) (HR.out.below hb9) true (same_refl _)).mono ?_
          rintro e w10 ⟨rfl, hb10⟩
          have hB10 := hB9.trans (hb10.mono hB9.size)
          go_wp2_with fail
          refine (sameRef_any qa ta qc tc _ _ _ HM2.out HM2.out (HK3.out.c4.below (T7_9.trans (hb10.mono T7_9.size))) (HS9.out.below hb10) true (same_refl _)).mono ?_
          rintro e w11 ⟨rfl, hb11⟩
          have hB11 := hB10.trans (hb11.mono hB10.size)
          go_wp2_with fail
          refine (awake_any _ (HT.out.below hB11)).mono ?_
          rintro e w12 ⟨rfl, hb12⟩
          go_wp2
          go_ret
          exact ⟨by simp, hB11.trans (hb12.mono hB11.size)⟩
end Go.Proofs.YtkekldebklghoaaDoor
