/-
  THE CELLS LAYER: the law CellsRow's walk.
-/
import Derived.Test.YtkekldebklghoaaDoorCellsRank
namespace Go.Proofs.YtkekldebklghoaaDoor
open Go.RowKit
set_option linter.unusedVariables false

structure RowAt where
  a : Option Addr
  c : Nat
  x : List Cl
/-- A slice of slices of cells that is handed in. -/
structure IsCellRows (w : World) (a : Option Addr) (len cap : Nat) (L : List RowAt) : Prop where
  len : len = L.length
  max : L.length ≤ maxLen
  row : L = [] ∨ ∃ b off, a = some ⟨b, off, none⟩ ∧ ∀ (i : Nat) r, L[i]? = some r → w.cell? ⟨b, off + i, none⟩ = some (.slice r.a r.x.length r.c)
  each : ∀ r ∈ L, r.x.length ≤ maxLen ∧ CRow w r.a r.x ∧ Bits r.x
theorem two_below {w w' : World} {B b : Nat} {o p : Nat} {u v : Value} (hb : Below B w w') (hq : b < B) (h : w.cell? ⟨b, o, none⟩ = some u ∧ w.cell? ⟨b, p, none⟩ = some v) :
    w'.cell? ⟨b, o, none⟩ = some u ∧ w'.cell? ⟨b, p, none⟩ = some v :=
  ⟨(hb.cell (p := ⟨b, _, none⟩) hq).trans h.1, (hb.cell (p := ⟨b, _, none⟩) hq).trans h.2⟩

set_option maxRecDepth 100000 in
set_option maxHeartbeats 2000000 in
theorem cellsRow_walk (d : Int) (a : Option Addr) (la ca : Nat) (L : List RowAt) (w : World) (hd : (Lit.int .i64 d).wf = true) (ha : IsCellRows w a la ca L) (ht : Tabs w) :
    Calls Tryd.prog 10 #[.int .i64 d, .slice a la ca] w fun e w' => e = .returned (.bool true) ∧ Below w.heap.size w w' := by
  obtain ⟨rfl, hm, hrow, heach⟩ := ha
  unfold maxLen at hm
  have HT := Lib.hid ht
  have HROW := Lib.hid hrow
  have HE := Lib.hid heach
  clear ht hd hrow heach
  by_cases h0 : dimC d = 0
  · obtain ⟨n, rfl, hn⟩ := dim_nat h0
    have HD := Lib.hid h0
    obtain ⟨h, hh⟩ : ∃ h : Nat, h = n * (n + 2) := ⟨_, rfl⟩
    have HH : Hid (heightC n = (h : Int)) := by show _ = _; rw [heightC, if_pos h0, hh]; simp
    have HHN := Lib.hid hh
    clear h0 hh
    go_enter Tryd.func10, Tryd.ntmps10
    go_wp2_with fail
    refine (awake_any _ HT.out).mono ?_
    rintro e w1 ⟨rfl, hB1⟩
    go_wp2_with fail
    refine (height_any n _ 0 HD.out h HH.out).mono ?_
    rintro e w2 ⟨rfl, rfl⟩
    go_wp2_with fail
    go_loopw [7, 8] (fun st i wr => ∃ k j : Nat, k ≤ 100 ∧ j = k + 1 ∧ st = .int .i64 k ∧ i = .int .i64 j ∧ Hid (k = 0 ∨ ∃ r, L[k]? = some r ∧ Val n r.x ∧ k ≤ rankR n r.x) ∧ Below w.heap.size w wr) (fun _ i _ => 101 - (intOf i).toNat)
    case atStart => exact ⟨0, 1, Nat.zero_le _, rfl, rfl, rfl, .inl rfl, hB1⟩
    case round =>
      obtain ⟨k, j, hk, hj, rfl, rfl, HK, hb⟩ := hrel
      have HJ := Lib.hid hj
      clear hj
      have HKN : Hid (k ≤ h) := by
        rcases HK.out with h2 | ⟨r, _, hv, h3⟩
        · subst h2; exact Nat.zero_le _
        · have := rank_max hv; rw [← HHN.out] at this; exact Nat.le_trans h3 this
      by_cases h1 : j < L.length
      · by_cases h2 : j < 100
        · obtain ⟨r0, e0⟩ : ∃ r, L[k]? = some r := ⟨_, List.getElem?_eq_getElem (by have := HJ.out; omega)⟩
          obtain ⟨r1, e1⟩ : ∃ r, L[j]? = some r := ⟨_, List.getElem?_eq_getElem h1⟩
          obtain ⟨m0, q0, b0⟩ := HE.out r0 (List.mem_of_getElem? e0)
          obtain ⟨m1, q1, b1⟩ := HE.out r1 (List.mem_of_getElem? e1)
          obtain ⟨bl, offl, rfl, hcell⟩ : ∃ b off, a = some ⟨b, off, none⟩ ∧ ∀ (i : Nat) r, L[i]? = some r → w.cell? ⟨b, off + i, none⟩ = some (.slice r.a r.x.length r.c) := by
            rcases HROW.out with h3 | h3
            · subst h3; simp at h1
            · exact h3
          have HF : Hid (_ ∧ _) := ⟨hcell k r0 e0, hcell j r1 e1⟩
          have hbl : bl < w.heap.size := cell_lt HF.out.1
          obtain ⟨f0, f1⟩ := two_below hb hbl HF.out
          have M0 := Lib.hid m0; have M1 := Lib.hid m1; have Q0 := Lib.hid q0; have Q1 := Lib.hid q1; have B0 := Lib.hid b0; have B1 := Lib.hid b1
          have E0 := Lib.hid e0; have E1 := Lib.hid e1
          obtain ⟨c, hc⟩ : ∃ c, chk2C n r0.x r1.x = c := ⟨_, rfl⟩
          obtain ⟨s, hs⟩ : ∃ s, belowR n r0.x r1.x = s := ⟨_, rfl⟩
          obtain ⟨t, htt⟩ : ∃ t, sameC r1.x r0.x = t := ⟨_, rfl⟩
          have HC := Lib.hid hc; have HS := Lib.hid hs; have HTT := Lib.hid htt
          clear m0 m1 q0 q1 b0 b1 e0 e1 hcell hc hs htt
          have hjk := HJ.out
          have g0 : (0 : Int) ≤ (k : Int) := by omega
          have g1 : (k : Int) < (L.length : Int) := by omega
          have g2 : (0 : Int) ≤ (j : Int) := by omega
          have g3 : (j : Int) < (L.length : Int) := by omega
          have g4 : (j : Int) < 100 := by omega
          have hj1 : (j : Int) - 1 = (k : Int) := by omega
          have hw1 : IntKind.i64.wrap ((j : Int) - 1) = (k : Int) := by rw [hj1]; simp [IntKind.wrap, IntKind.signed, IntKind.bits]; omega
          have hw2 : IntKind.i64.wrap (k : Int) = (k : Int) := by simp [IntKind.wrap, IntKind.signed, IntKind.bits]; omega
          clear hjk
          have hkn : (k : Int) ≤ (h : Int) := by have := HKN.out; omega
          by_cases hc0 : c = 0
          · subst hc0
            cases s
            · go_wp2_with fail
              go_region_held3 (fun w' => w'.cell? ⟨bl, offl + k, none⟩ = some (.slice r0.a r0.x.length r0.c) ∧ w'.cell? ⟨bl, offl + j, none⟩ = some (.slice r1.a r1.x.length r1.c)) (first | exact ⟨f0, f1⟩ | exact two_below hB3 hbl HF.out | fail) (first | (go_at_call 23; go_loud (refine (belowP_any n r0.a r1.a r0.c r1.c r0.x r1.x _ M0.out M1.out (Q0.out.below hb.drew) (Q1.out.below hb.drew) B0.out B1.out _ HC.out _ HS.out).mono ?_; rintro e w3 ⟨rfl, hb3⟩; have hB3 : Below w.heap.size w w3 := hb.drew.trans (hb3.mono hb.size))) | fail)
              go_wp2
              go_quiet (fail)
              go_wp2
              go_ret
              exact ⟨by first | (simp; done) | (simp; omega), below_drewN hB3 _⟩
            · have hv0 : ∃ n' : Nat, (n : Int) = n' ∧ Val n' r0.x := val_of (chk2C_zero HC.out).1
              have hv1 : ∃ n' : Nat, (n : Int) = n' ∧ Val n' r1.x := val_of (chk2C_zero HC.out).2
              obtain ⟨n0, en0, v0⟩ := hv0
              obtain ⟨n1, en1, v1⟩ := hv1
              obtain rfl : n = n0 := by omega
              obtain rfl : n = n1 := by omega
              have V0 := Lib.hid v0; have V1 := Lib.hid v1
              clear v0 v1 en0 en1
              cases t
              · have HK2 : Hid (k + 1 = 0 ∨ ∃ r, L[j]? = some r ∧ Val n r.x ∧ k + 1 ≤ rankR n r.x) := by
                  right
                  refine ⟨r1, E1.out, V1.out, ?_⟩
                  have hlt := rank_step V0.out V1.out HS.out HTT.out
                  rcases HK.out with h4 | ⟨r, hr, hv, h5⟩
                  · omega
                  · have e9 := E0.out
                    rw [hr] at e9
                    cases e9
                    omega
                go_wp2_with fail
                go_region_held3 (fun w' => w'.cell? ⟨bl, offl + k, none⟩ = some (.slice r0.a r0.x.length r0.c) ∧ w'.cell? ⟨bl, offl + j, none⟩ = some (.slice r1.a r1.x.length r1.c)) (first | exact ⟨f0, f1⟩ | exact two_below hB3 hbl HF.out | fail) (first | (go_at_call 23; go_loud (refine (belowP_any n r0.a r1.a r0.c r1.c r0.x r1.x _ M0.out M1.out (Q0.out.below hb.drew) (Q1.out.below hb.drew) B0.out B1.out _ HC.out _ HS.out).mono ?_; rintro e w3 ⟨rfl, hb3⟩; have hB3 : Below w.heap.size w w3 := hb.drew.trans (hb3.mono hb.size))) | fail)
                go_wp2_with fail
                go_region_held3 (fun w' => w'.cell? ⟨bl, offl + k, none⟩ = some (.slice r0.a r0.x.length r0.c) ∧ w'.cell? ⟨bl, offl + j, none⟩ = some (.slice r1.a r1.x.length r1.c)) (first | exact two_below hB3.drew hbl HF.out | exact two_below hB4 hbl HF.out | fail) (first | (go_at_call 19; go_loud (refine (sameRef_any r1.a r0.a r1.c r0.c r1.x r0.x _ M1.out M0.out (Q1.out.below hB3.drew) (Q0.out.below hB3.drew) _ HTT.out).mono ?_; rintro e w4 ⟨rfl, hb4⟩; have hB4 : Below w.heap.size w w4 := hB3.drew.trans (hb4.mono hB3.size))) | fail)
                go_wp2
                go_roundw
                case rel => exact ⟨k + 1, j + 1, by omega, by rw [HJ.out], by go_num, by go_num, by rw [← HJ.out]; rw [HJ.out] at HK2 ⊢; exact HK2, hB4⟩
                case measure => simp [intOf]; omega
              · go_wp2_with fail
                go_region_held3 (fun w' => w'.cell? ⟨bl, offl + k, none⟩ = some (.slice r0.a r0.x.length r0.c) ∧ w'.cell? ⟨bl, offl + j, none⟩ = some (.slice r1.a r1.x.length r1.c)) (first | exact ⟨f0, f1⟩ | exact two_below hB3 hbl HF.out | fail) (first | (go_at_call 23; go_loud (refine (belowP_any n r0.a r1.a r0.c r1.c r0.x r1.x _ M0.out M1.out (Q0.out.below hb.drew) (Q1.out.below hb.drew) B0.out B1.out _ HC.out _ HS.out).mono ?_; rintro e w3 ⟨rfl, hb3⟩; have hB3 : Below w.heap.size w w3 := hb.drew.trans (hb3.mono hb.size))) | fail)
                go_wp2_with fail
                go_region_held3 (fun w' => w'.cell? ⟨bl, offl + k, none⟩ = some (.slice r0.a r0.x.length r0.c) ∧ w'.cell? ⟨bl, offl + j, none⟩ = some (.slice r1.a r1.x.length r1.c)) (first | exact two_below hB3.drew hbl HF.out | exact two_below hB4 hbl HF.out | fail) (first | (go_at_call 19; go_loud (refine (sameRef_any r1.a r0.a r1.c r0.c r1.x r0.x _ M1.out M0.out (Q1.out.below hB3.drew) (Q0.out.below hB3.drew) _ HTT.out).mono ?_; rintro e w4 ⟨rfl, hb4⟩; have hB4 : Below w.heap.size w w4 := hB3.drew.trans (hb4.mono hB3.size))) | fail)
                go_wp2
                go_ret
                exact ⟨by first | (simp; done) | (simp; omega), hB4⟩
          · have hne : (c != 0) = true := by simpa using hc0
            go_wp2_with fail
            go_region_held3 (fun w' => w'.cell? ⟨bl, offl + k, none⟩ = some (.slice r0.a r0.x.length r0.c) ∧ w'.cell? ⟨bl, offl + j, none⟩ = some (.slice r1.a r1.x.length r1.c)) (first | exact ⟨f0, f1⟩ | exact two_below hB3 hbl HF.out | fail) (first | (go_at_call 23; go_loud (refine (belowP_any n r0.a r1.a r0.c r1.c r0.x r1.x _ M0.out M1.out (Q0.out.below hb.drew) (Q1.out.below hb.drew) B0.out B1.out _ HC.out _ HS.out).mono ?_; rintro e w3 ⟨rfl, hb3⟩; have hB3 : Below w.heap.size w w3 := hb.drew.trans (hb3.mono hb.size))) | fail)
            go_wp2
            go_quiet (fail)
            go_wp2
            go_ret
            exact ⟨by first | (simp; done) | (simp; omega), below_drewN hB3 _⟩
        · go_wp2
          go_ret
          exact ⟨by have := HKN.out; simp; omega, hb⟩
      · go_wp2
        go_ret
        exact ⟨by have := HKN.out; simp; omega, hb⟩
  · have HD : Hid (dimC d = dimC d) := rfl
    obtain ⟨c, hc⟩ : ∃ c, dimC d = c := ⟨_, rfl⟩
    have HC := Lib.hid hc
    have HH : Hid (heightC d = 0) := by show _ = _; rw [heightC, if_neg h0]
    have hne : (c != 0) = true := by rw [← hc]; simpa using h0
    clear hc h0
    go_enter Tryd.func10, Tryd.ntmps10
    go_wp2_with fail
    refine (awake_any _ HT.out).mono ?_
    rintro e w1 ⟨rfl, hB1⟩
    go_wp2_with fail
    refine (height_any d _ c HC.out 0 HH.out).mono ?_
    rintro e w2 ⟨rfl, rfl⟩
    go_wp2
    go_ret
    exact ⟨rfl, hB1⟩
end Go.Proofs.YtkekldebklghoaaDoor
