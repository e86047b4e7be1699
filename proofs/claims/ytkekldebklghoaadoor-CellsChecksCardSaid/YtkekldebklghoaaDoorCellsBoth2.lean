/-
  THE CELLS LAYER: Clone, both and Both of the program.
-/
import Derived.Test.YtkekldebklghoaaDoorCellsBoth
import Derived.Deep.RegionWith
import Derived.WalkSpells
namespace Go.Proofs.YtkekldebklghoaaDoor
open Go.RowKit
set_option linter.unusedVariables false

theorem flat_cells {w : World} {b off : Nat} {cs : List Cl} (h : ∀ i c, cs[i]? = some c → w.cell? ⟨b, off + i * 3, none⟩ = some (.int .u64 (c.f : Int)) ∧ w.cell? ⟨b, off + i * 3 + 1, none⟩ = some (.int .i64 c.k) ∧ w.cell? ⟨b, off + i * 3 + 2, none⟩ = some (.int .i64 c.v)) :
    ∀ j u, (flat cs)[j]? = some u → w.cell? ((⟨b, off, none⟩ : Addr).add j) = some u := by
  intro j u hj
  have hlt : j < cs.length * 3 := by rw [← flat_length]; exact (List.getElem?_eq_some_iff.1 hj).1
  obtain ⟨i, r, hr, rfl⟩ : ∃ i r, r < 3 ∧ j = i * 3 + r := ⟨j / 3, j % 3, by omega, by omega⟩
  have hi : i < cs.length := by omega
  obtain ⟨h0, h1, h2⟩ := h i cs[i] (List.getElem?_eq_getElem hi)
  obtain ⟨f0, f1, f2⟩ := flat_at (List.getElem?_eq_getElem hi)
  have e : ((⟨b, off, none⟩ : Addr).add (i * 3 + r)) = ⟨b, off + (i * 3 + r), none⟩ := by
    simp only [Addr.add]; split <;> simp_all
  rw [e]
  match r, hr with
  | 0, _ => rw [Nat.add_zero] at hj ⊢; rw [f0] at hj; rw [h0]; exact hj
  | 1, _ => rw [f1] at hj; rw [← Nat.add_assoc, h1]; exact hj
  | 2, _ => rw [f2] at hj; rw [← Nat.add_assoc, h2]; exact hj
theorem crow_news {w : World} {ad : Addr} {cs : List Cl} (h : CRow w (some ad) cs) : ∀ j u, (flat cs)[j]? = some u → w.cell? (ad.add j) = some u := by
  rcases h with h | ⟨b, off, e, hc⟩
  · subst h; intro j u hj; simp [flat] at hj
  · cases e; exact flat_cells hc
theorem flat_one (cs : List Cl) : ∀ u ∈ flat cs, u.oneCell' = true := by
  intro u hu
  simp only [flat, List.mem_flatMap, vals] at hu
  obtain ⟨c, _, hu⟩ := hu
  simp at hu
  rcases hu with rfl | rfl | rfl <;> rfl

set_option maxRecDepth 100000 in
set_option maxHeartbeats 1000000 in
theorem clone_any (a : Option Addr) (cap : Nat) (cs : List Cl) (w : World) (hm : cs.length ≤ 64) (hrow : CRow w a cs) :
    Calls Tryd.prog 78 #[.slice a cs.length cap] w (CellsRet1 cs w) := by
  obtain ⟨i0, hi, hz0, hz1, hz2⟩ := info_parts infoC
  have q22 : ∀ (w : World) (a : Option Addr) (n c n' c' : Nat), (binOp .eql 22 (.slice a n c) (.slice none n' c')).run Tryd.prog w = .ok (.bool a.isNone) w := fun w a n c n' c' => Lib.run_eql_slice_nil w _ _ a n c n' c' Tryd.underlying22
  cases a with
  | none =>
    have hcs : cs = [] := by
      rcases hrow with h | ⟨b, off, e, _⟩
      · exact h
      · cases e
    subst hcs
    clear hrow
    go_enter Tryd.func78, Tryd.ntmps78
    go_wp2
    go_ret
    exact ⟨_, rfl, World.ownsRow_nil _ _ _ _, Below.refl _ _⟩
  | some ad =>
    have HN := Lib.hid (fun (o : Obj) => crow_news (hrow.below ((Below.refl _ w).alloc (Nat.le_refl _) o)))
    have hown : (w.alloc (.cells #[] 51)).ownsRow w.heap.size 51 3 (.slice (some ⟨w.heap.size, 0, none⟩) 0 0) 0 [] := World.ownsRow_lit w #[] 0 (Nat.le_refl _) (by simp) rfl
    have HO := Lib.hid hown
    clear hrow hown
    go_enter Tryd.func78, Tryd.ntmps78
    go_wp2_with (at_builtin; refine wpList_append_own _ rfl (.tmp 5) (.tmp 6) 22 rfl w.heap.size 51 i0 _ 3 24 Tryd.underlying22 hi hz0 hz1 hz2 rfl (by decide) _ _ _ rfl HO.out ad cs.length cap (flat cs) rfl (flat_length cs) (HN.out _) (flat_one cs) (by unfold maxLen; omega) (by omega) (by simp) ?_; intro v' w2 hown2 hgrow hnil)
    go_ret
    refine ⟨v', rfl, by simpa using hown2, ?_⟩
    exact ((Below.refl _ _).alloc (Nat.le_refl _) _).grown hgrow (by simp) (fun j e => by cases e; exact Nat.le_refl _)

theorem own_store3 {w : World} {base g n cap k : Nat} {E : Nat} {cs : List Cl} (h : w.ownsRow base E 3 (.slice (some ⟨g, 0, none⟩) n cap) n (flat cs)) (hk : k < cs.length) (z : Cl) :
    (((w.setCell ⟨g, k * 3, none⟩ (.int .u64 (z.f : Int))).setCell ⟨g, k * 3 + 1, none⟩ (.int .i64 z.k)).setCell ⟨g, k * 3 + 2, none⟩ (.int .i64 z.v)).ownsRow base E 3 (.slice (some ⟨g, 0, none⟩) n cap) n (flat (cs.set k z)) := by
  rw [← flat_set cs k z hk]
  exact ((((h.stored (k * 3) _).1.stored (k * 3 + 1) _).1.stored (k * 3 + 2) _).1)
theorem mix_step {xs ys : List Cl} {k : Nat} {x y z : Cl} (hx : xs[k]? = some x) (hy : ys[k]? = some y) (hz : join x y = z) : (((bothC xs ys).take k ++ xs.drop k).set k z) = (bothC xs ys).take (k + 1) ++ xs.drop (k + 1) := by
  obtain ⟨hk, ex⟩ := List.getElem?_eq_some_iff.1 hx
  obtain ⟨hk2, ey⟩ := List.getElem?_eq_some_iff.1 hy
  have hl : ((bothC xs ys).take k).length = k := by simp [bothC]; omega
  rw [zip_snoc hx hy, hz, List.set_append_right _ _ (by omega), hl, Nat.sub_self, List.drop_eq_getElem_cons hk, List.set_cons_zero, List.append_assoc]
  rfl
theorem mix_at {xs ys : List Cl} {k : Nat} {x y : Cl} (hx : xs[k]? = some x) (hy : ys[k]? = some y) : ((bothC xs ys).take k ++ xs.drop k)[k]? = some x := by
  obtain ⟨hk, ex⟩ := List.getElem?_eq_some_iff.1 hx
  obtain ⟨hk2, ey⟩ := List.getElem?_eq_some_iff.1 hy
  have hl : ((bothC xs ys).take k).length = k := by simp [bothC]; omega
  rw [List.getElem?_append_right (by omega), hl, Nat.sub_self, List.getElem?_drop, Nat.add_zero, hx]
theorem mix_len {xs ys : List Cl} {k : Nat} (hl : ys.length = xs.length) (hk : k ≤ xs.length) : ((bothC xs ys).take k ++ xs.drop k).length = xs.length := by simp [bothC]; omega

set_option maxRecDepth 100000 in
set_option maxHeartbeats 2000000 in
theorem both_any (a b : Option Addr) (capa capb : Nat) (xs ys : List Cl) (w : World) (hm : xs.length ≤ 64) (hl : ys.length = xs.length) (hra : CRow w a xs) (hrb : CRow w b ys) (hoa : ∀ (i : Nat) c, xs[i]? = some c → c.ok) (hob : ∀ (i : Nat) c, ys[i]? = some c → c.ok) :
    Calls Tryd.prog 56 #[.slice a xs.length capa, .slice b ys.length capb] w (CellsRet1 (bothC xs ys) w) := by
  have HRA := Lib.hid hra; have HRB := Lib.hid hrb; have HOA := Lib.hid hoa; have HOB := Lib.hid hob; have HL := Lib.hid hl
  have g1 : ys.length ≤ xs.length := by omega
  have g2 : xs.length ≤ ys.length := by omega
  clear hra hrb hoa hob hl
  go_enter Tryd.func56, Tryd.ntmps56
  go_wp2_with fail
  refine (clone_any a capa xs _ hm HRA.out).mono ?_
  rintro e w1 ⟨v, rfl, hown1, hb1⟩
  have HO1 := Lib.hid hown1
  clear hown1
  go_wp2_with fail
  go_loopw [12] (fun i wr => ∃ k : Nat, k ≤ xs.length ∧ i = .int .i64 k ∧ Hid (wr.ownsRow w.heap.size 51 3 v xs.length (flat ((bothC xs ys).take k ++ xs.drop k))) ∧ Below w.heap.size w wr) (fun i _ => xs.length - (intOf i).toNat)
  case atStart => exact ⟨0, Nat.zero_le _, rfl, HO1.out, hb1⟩
  case round =>
    obtain ⟨k, hk, rfl, HO, hb⟩ := hrel
    by_cases hlt : k < xs.length
    · obtain ⟨bb, offb, y, rfl, hy, hbb, b0, b1, b2⟩ := HRB.out.at_ (show k < ys.length by omega)
      obtain ⟨x, hx⟩ : ∃ x, xs[k]? = some x := ⟨_, List.getElem?_eq_getElem hlt⟩
      have c0 := (hb.cell (p := ⟨bb, offb + k * 3, none⟩) hbb).trans b0
      have c1 := (hb.cell (p := ⟨bb, offb + k * 3 + 1, none⟩) hbb).trans b1
      have c2 := (hb.cell (p := ⟨bb, offb + k * 3 + 2, none⟩) hbb).trans b2
      clear b0 b1 b2
      obtain ⟨z, hz⟩ : ∃ z, join x y = z := ⟨_, rfl⟩
      have OX := Lib.hid (HOA.out k x hx)
      have OY := Lib.hid (HOB.out k y hy)
      have HJ := Lib.hid hz
      have HM := Lib.hid (mix_step hx hy hz)
      have HA := Lib.hid (mix_at hx hy)
      have HLEN := Lib.hid (mix_len HL.out hk)
      clear hx hy hz
      obtain ⟨g, capg, hv, hbg, hgl⟩ := HO.out.form (show 0 < xs.length by omega)
      subst hv
      obtain ⟨f0, f1, f2⟩ := flat_at HA.out
      have d0 := (HO.out.cellAt (k * 3) (by omega)).trans f0
      have d1 := (HO.out.cellAt (k * 3 + 1) (by omega)).trans f1
      have d2 := (HO.out.cellAt (k * 3 + 2) (by omega)).trans f2
      have F0 := Lib.hid f0; have F1 := Lib.hid f1; have F2 := Lib.hid f2
      clear f0 f1 f2
      have g0 : (0 : Int) ≤ (k : Int) := by omega
      have g3 : (k : Int) < (xs.length : Int) := by omega
      have g4 : (k : Int) < (ys.length : Int) := by omega
      go_wp2_with fail
      go_region_with (go_at_call 59; refine (joined_is x y z OX.out OY.out HJ.out _).mono ?_; rintro e w3 ⟨rfl, hb3⟩; have hB3 : Below wr.heap.size wr w3 := Below.trans (by repeat (first | exact Below.refl _ _ | refine Below.drew ?_ | refine Below.alloc ?_ (Nat.le_refl _) _)) (hb3.mono (by simp)); have o3 := own_below HO.out hB3; have e0 := (o3.cellAt (k * 3) (by omega)).trans F0.out; have e1 := (o3.cellAt (k * 3 + 1) (by omega)).trans F1.out; have e2 := (o3.cellAt (k * 3 + 2) (by omega)).trans F2.out; have q0 := o3.frozenAt (k * 3); have q1 := o3.frozenAt (k * 3 + 1); have q2 := o3.frozenAt (k * 3 + 2); have O3 := Lib.hid o3; clear o3)
      all_goals
        have HS := Lib.hid (own_store3 O3.out (by rw [HLEN.out]; exact hlt) z)
        rw [HM.out] at HS
        have HB : Hid (Below w.heap.size w (((w3.setCell ⟨g, k * 3, none⟩ (.int .u64 (z.f : Int))).setCell ⟨g, k * 3 + 1, none⟩ (.int .i64 z.k)).setCell ⟨g, k * 3 + 2, none⟩ (.int .i64 z.v))) := (((hb.trans (hB3.mono hb.size)).setCell (p := ⟨g, k * 3, none⟩) hbg _).setCell (p := ⟨g, k * 3 + 1, none⟩) hbg _).setCell (p := ⟨g, k * 3 + 2, none⟩) hbg _
        clear e0 e1 e2 q0 q1 q2 O3
        go_wp2
        go_roundw
        case rel => exact ⟨k + 1, by omega, by go_num, HS, HB.out⟩
        case measure => simp [intOf]; omega
    · obtain rfl : k = xs.length := by omega
      have HE : Hid (wr.ownsRow w.heap.size 51 3 v (bothC xs ys).length (flat (bothC xs ys))) := by
        have h := HO.out
        have hlen : (bothC xs ys).length = xs.length := by simp [bothC, HL.out]
        rw [List.take_of_length_le (by omega), List.drop_of_length_le (Nat.le_refl _), List.append_nil] at h
        rw [hlen]; exact h
      go_wp2
      go_ret
      exact ⟨v, rfl, HE.out, hb⟩
end Go.Proofs.YtkekldebklghoaaDoor
