/-
  THE FACTS LAYER: the law FactsForms' walk.
-/
import Derived.Test.YtdaijibkafepcaaDoorFactsEnv
import Derived.Deep.RegionHeld3
import Derived.Deep.DeepCutAuto
import Derived.Deep.CutRange
import Derived.Deep.AppendLies
namespace Go.Proofs.YtdaijibkafepcaaDoor
open Go.RowKit
set_option linter.unusedVariables false
theorem canonV_len {n : Int} {g : Nat} {xs : List Nat} (h : xs.length ≤ 100) : (canonV n g xs).length ≤ 100 := by
  unfold canonV
  split
  · rw [canonL_length]; exact h
  · simp
theorem oneV_len (n : Int) : (oneV n).length ≤ 100 := by
  unfold oneV
  split
  · rename_i h
    obtain ⟨m, rfl, hm⟩ := dim_nat h
    rw [onesL_length, Int.toNat_natCast]; omega
  · simp
theorem setV_len (n x y : Int) : (setV n x y).length ≤ 100 := by
  unfold setV
  split
  · rename_i h
    unfold setE at h
    split at h
    · rename_i h2
      obtain ⟨m, rfl, hm⟩ := dim_nat h2
      rw [setL_length, Int.toNat_natCast]; omega
    · cases h
  · simp
set_option maxRecDepth 100000 in
set_option maxHeartbeats 4000000 in
theorem factsForms_walk (n : Int) (ga : Nat) (a : Option Addr) (la0 capa : Nat) (xs0 : List Nat) (gb : Nat) (b : Option Addr) (lb0 capb : Nat) (ys0 : List Nat) (x y : Int) (w : World) (hn : (Lit.int .i64 n).wf = true) (ha : IsF w ga a la0 capa xs0) (hb : IsF w gb b lb0 capb ys0) (hx : (Lit.int .i64 x).wf = true) (hy : (Lit.int .i64 y).wf = true) (ht : TabC w) :
    Calls Tryd.prog 9 #[.int .i64 n, .agg #[.int .u64 (ga : Int), .slice a la0 capa], .agg #[.int .u64 (gb : Int), .slice b lb0 capb], .int .i64 x, .int .i64 y] w fun e w' => e = .returned (.bool true) ∧ Below w.heap.size w w' := by
  have HFA := Lib.hid ha.fat; have HFB := Lib.hid hb.fat
  obtain ⟨xs, hxs⟩ : ∃ xs, xs0.take 100 = xs := ⟨_, rfl⟩
  obtain ⟨ys, hys⟩ : ∃ ys, ys0.take 100 = ys := ⟨_, rfl⟩
  rw [hxs] at HFA; rw [hys] at HFB
  obtain ⟨la, hla⟩ : ∃ la, min 100 la0 = la := ⟨_, rfl⟩
  obtain ⟨lb, hlb⟩ : ∃ lb, min 100 lb0 = lb := ⟨_, rfl⟩
  have HLA : Hid (xs.length = la) := by show _ = _; rw [← hxs, ← hla]; exact ha.cutlen
  have HLB : Hid (ys.length = lb) := by show _ = _; rw [← hys, ← hlb]; exact hb.cutlen
  have CUTA : Hid (∀ W : World, Calls Tryd.prog 36 #[.agg #[.int .u64 (ga : Int), .slice a la0 capa]] W fun e w' => e = .returned (.agg #[.int .u64 (ga : Int), .slice a la capa]) ∧ Below W.heap.size W w') := fun W => cut_is ga a la0 capa ha.hcap ha.some_ la hla W
  have CUTB : Hid (∀ W : World, Calls Tryd.prog 36 #[.agg #[.int .u64 (gb : Int), .slice b lb0 capb]] W fun e w' => e = .returned (.agg #[.int .u64 (gb : Int), .slice b lb capb]) ∧ Below W.heap.size W w') := fun W => cut_is gb b lb0 capb hb.hcap hb.some_ lb hlb W
  have HT := Lib.hid ht
  obtain ⟨ck, hck⟩ : ∃ e, checkE n ga xs = e := ⟨_, rfl⟩
  obtain ⟨ce, hce⟩ : ∃ e, shapedE n ga xs = e := ⟨_, rfl⟩
  obtain ⟨cg, hcg⟩ : ∃ e, canonG n ga xs = e := ⟨_, rfl⟩
  obtain ⟨cv, hcv⟩ : ∃ e, canonV n ga xs = e := ⟨_, rfl⟩
  obtain ⟨oe, hoe⟩ : ∃ e, oneE n = e := ⟨_, rfl⟩
  obtain ⟨ov, hov⟩ : ∃ e, oneV n = e := ⟨_, rfl⟩
  obtain ⟨og, hog⟩ : ∃ e : Nat, 0 = e := ⟨_, rfl⟩
  obtain ⟨se, hse⟩ : ∃ e, setE n x y = e := ⟨_, rfl⟩
  obtain ⟨sg, hsg⟩ : ∃ e, setG n x y = e := ⟨_, rfl⟩
  obtain ⟨sv, hsv⟩ : ∃ e, setV n x y = e := ⟨_, rfl⟩
  obtain ⟨sb, hsb⟩ : ∃ e, sameB ga xs gb ys = e := ⟨_, rfl⟩
  obtain ⟨lc, hlc⟩ : ∃ g, cv.length = g := ⟨_, rfl⟩
  obtain ⟨lo, hlo⟩ : ∃ g, ov.length = g := ⟨_, rfl⟩
  obtain ⟨ls, hls⟩ : ∃ g, sv.length = g := ⟨_, rfl⟩
  have hcl : cv.length ≤ 100 := by rw [← hcv]; exact canonV_len HFA.out.len
  have hol : ov.length ≤ 100 := by rw [← hov]; exact oneV_len n
  have hsl : sv.length ≤ 100 := by rw [← hsv]; exact setV_len n x y
  have HCK := Lib.hid hck; have HCE := Lib.hid hce; have HCG := Lib.hid hcg; have HCV := Lib.hid hcv; have HSE := Lib.hid hse; have HSG := Lib.hid hsg; have HSV := Lib.hid hsv; have HLC := Lib.hid hlc; have HLO := Lib.hid hlo; have HLS := Lib.hid hls; have HSBB := Lib.hid hsb
  have ONEA : Hid (∀ W : World, Calls Tryd.prog 39 #[.int .i64 n] W (FRet og ov oe W)) := fun W => by rw [← hog]; exact (oneA_is n W oe hoe ov hov).mono fun _ _ h => FOwn.ret h
  have ONER : Hid (∀ W : World, Calls Tryd.prog 40 #[.int .i64 n] W (FRet og ov oe W)) := fun W => by rw [← hog]; exact (oneR_is n W oe hoe ov hov).mono fun _ _ h => FOwn.ret h
  obtain ⟨t0, t1⟩ := two_boxes w #[.int .u64 (ga : Int), .slice a la0 capa] #[.int .u64 (gb : Int), .slice b lb0 capb] 55
  obtain ⟨W0, hW0⟩ : ∃ W, (w.alloc (.cells #[.int .u64 (ga : Int), .slice a la0 capa] 55)).alloc (.cells #[.int .u64 (gb : Int), .slice b lb0 capb] 55) = W := ⟨_, rfl⟩
  have K00 : Hid (KeepK w W0 w.heap.size (w.heap.size + 1) #[.int .u64 (ga : Int), .slice a la0 capa] #[.int .u64 (gb : Int), .slice b lb0 capb]) := by
    rw [← hW0]
    exact ⟨t0, t1, ((Below.refl _ _).alloc (Nat.le_refl _) _).alloc (by simp) _⟩
  obtain ⟨x0, x1, _⟩ := two_cells K00.out.hA
  obtain ⟨y0, y1, _⟩ := two_cells K00.out.hB
  clear ha hb ht hxs hys hla hlb hn hx hy t0 t1 hck hce hcg hcv hoe hov hog hse hsg hsv hsb hlc hlo hls
  go_enter Tryd.func9, Tryd.ntmps9
  go_upto_region 1 with fail
  go_cut [10] from 23 to 26 (fun r wx => r = .bool false ∧ Hid (KeepK w wx w.heap.size (w.heap.size + 1) #[.int .u64 (ga : Int), .slice a la capa] #[.int .u64 (gb : Int), .slice b lb capb]))
  case first =>
    go_region_with (first | (go_at_call 36; go_loud (with_reducible refine (CUTA.out _).mono ?_; rintro e wA ⟨rfl, hbA⟩; have KA := Lib.hid (KeepK.call K00.out.drew hbA); obtain ⟨b0, b1, _⟩ := two_cells KA.out.hB)) | (go_at_call 36; with_reducible refine (CUTB.out _).mono ?_; rintro e wB ⟨rfl, hbB⟩; have KB := Lib.hid (KA.out.call hbB); obtain ⟨p0, p1, pf⟩ := two_cells KB.out.hA; have pf0 := pf 0; have pf1 := pf 1; clear pf; have SB := Lib.hid (heap_other (B := w.heap.size) (j := 1) (c := .slice a la capa) (heap_other (B := w.heap.size) (j := 0) (c := .int .u64 (ga : Int)) KB.out.hB (by omega)) (by omega)); obtain ⟨q0, q1, qf⟩ := two_cells SB.out; have qf0 := qf 0; have qf1 := qf 1; clear qf))
    all_goals trace_state
    all_goals (go_wp2_with fail; go_meet; exact ⟨rfl, cut_both KB.out⟩)
  case rest =>
    obtain ⟨rfl, K⟩ := hcut
    obtain ⟨q0hA0, q0hA1, _⟩ := two_cells K.out.hA
    obtain ⟨q0hB0, q0hB1, _⟩ := two_cells K.out.hB
    go_wp2_with fail
    refine (canonA_is n a capa ga xs _ (K.out.fat HFA.out) ce HCE.out cg HCG.out cv HCV.out la HLA.out).mono ?_
    rintro e v1 ⟨a1, c1, rfl, hr1, hf1, hb1⟩
    rw [HLC.out]
    obtain ⟨W1, hW1⟩ : ∃ W, v1.alloc (.cells #[.int .u64 (cg : Int), .slice a1 lc c1] 55) = W := ⟨_, rfl⟩
    have K1 := Lib.hid (K.out.grow hb1 (.cells #[.int .u64 (cg : Int), .slice a1 lc c1] 55))
    have G1 : Hid (Got (v1.alloc (.cells #[.int .u64 (cg : Int), .slice a1 lc c1] 55)) v1.heap.size cg a1 lc c1 cv) := Got.new hr1
    rw [hW1] at K1 G1 
    clear hr1 hf1 hb1
    clear q0hA0 q0hA1 q0hB0 q0hB1
    obtain ⟨q1hA0, q1hA1, _⟩ := two_cells K1.out.hA
    obtain ⟨q1hB0, q1hB1, _⟩ := two_cells K1.out.hB
    go_wp2_with fail
    refine (canonRR_is n a capa ga xs _ (K1.out.fat HFA.out) ce HCE.out cg HCG.out cv HCV.out la HLA.out).mono ?_
    rintro e v2 ⟨a2, c2, rfl, hr2, hf2, hb2⟩
    rw [HLC.out]
    obtain ⟨W2, hW2⟩ : ∃ W, v2.alloc (.cells #[.int .u64 (cg : Int), .slice a2 lc c2] 55) = W := ⟨_, rfl⟩
    have K2 := Lib.hid (K1.out.grow hb2 (.cells #[.int .u64 (cg : Int), .slice a2 lc c2] 55))
    have G2 : Hid (Got (v2.alloc (.cells #[.int .u64 (cg : Int), .slice a2 lc c2] 55)) v2.heap.size cg a2 lc c2 cv) := Got.new hr2
    have p_2 := Lib.hid ((G1.out.call hb2).call (box_new (.cells #[.int .u64 (cg : Int), .slice a2 lc c2] 55)))
    rw [hW2] at K2 G2 p_2
    clear hr2 hf2 hb2
    clear q1hA0 q1hA1 q1hB0 q1hB1
    obtain ⟨q2hA0, q2hA1, _⟩ := two_cells K2.out.hA
    obtain ⟨q2hB0, q2hB1, _⟩ := two_cells K2.out.hB
    go_wp2_with fail
    refine (ONEA.out _).mono ?_
    rintro e v3 ⟨a3, c3, rfl, hr3, hf3, hb3⟩
    rw [HLO.out]
    obtain ⟨W3, hW3⟩ : ∃ W, v3.alloc (.cells #[.int .u64 (og : Int), .slice a3 lo c3] 55) = W := ⟨_, rfl⟩
    have K3 := Lib.hid (K2.out.grow hb3 (.cells #[.int .u64 (og : Int), .slice a3 lo c3] 55))
    have G3 : Hid (Got (v3.alloc (.cells #[.int .u64 (og : Int), .slice a3 lo c3] 55)) v3.heap.size og a3 lo c3 ov) := Got.new hr3
    have p_3 := Lib.hid ((p_2.out.call hb3).call (box_new (.cells #[.int .u64 (og : Int), .slice a3 lo c3] 55)))
    have q_3 := Lib.hid ((G2.out.call hb3).call (box_new (.cells #[.int .u64 (og : Int), .slice a3 lo c3] 55)))
    rw [hW3] at K3 G3 p_3 q_3
    clear hr3 hf3 hb3
    clear q2hA0 q2hA1 q2hB0 q2hB1
    obtain ⟨q3hA0, q3hA1, _⟩ := two_cells K3.out.hA
    obtain ⟨q3hB0, q3hB1, _⟩ := two_cells K3.out.hB
    go_wp2_with fail
    refine (ONER.out _).mono ?_
    rintro e v4 ⟨a4, c4, rfl, hr4, hf4, hb4⟩
    rw [HLO.out]
    obtain ⟨W4, hW4⟩ : ∃ W, v4.alloc (.cells #[.int .u64 (og : Int), .slice a4 lo c4] 55) = W := ⟨_, rfl⟩
    have K4 := Lib.hid (K3.out.grow hb4 (.cells #[.int .u64 (og : Int), .slice a4 lo c4] 55))
    have G4 : Hid (Got (v4.alloc (.cells #[.int .u64 (og : Int), .slice a4 lo c4] 55)) v4.heap.size og a4 lo c4 ov) := Got.new hr4
    have p_4 := Lib.hid ((p_3.out.call hb4).call (box_new (.cells #[.int .u64 (og : Int), .slice a4 lo c4] 55)))
    have q_4 := Lib.hid ((q_3.out.call hb4).call (box_new (.cells #[.int .u64 (og : Int), .slice a4 lo c4] 55)))
    have u_4 := Lib.hid ((G3.out.call hb4).call (box_new (.cells #[.int .u64 (og : Int), .slice a4 lo c4] 55)))
    rw [hW4] at K4 G4 p_4 q_4 u_4
    clear hr4 hf4 hb4
    clear q3hA0 q3hA1 q3hB0 q3hB1
    obtain ⟨q4hA0, q4hA1, _⟩ := two_cells K4.out.hA
    obtain ⟨q4hB0, q4hB1, _⟩ := two_cells K4.out.hB
    go_wp2_with fail
    refine (setA_is n x y _ se HSE.out sg HSG.out sv HSV.out).mono ?_
    rintro e v5 ⟨a5, c5, rfl, hr5, hf5, hb5⟩
    rw [HLS.out]
    obtain ⟨W5, hW5⟩ : ∃ W, v5.alloc (.cells #[.int .u64 (sg : Int), .slice a5 ls c5] 55) = W := ⟨_, rfl⟩
    have K5 := Lib.hid (K4.out.grow hb5 (.cells #[.int .u64 (sg : Int), .slice a5 ls c5] 55))
    have G5 : Hid (Got (v5.alloc (.cells #[.int .u64 (sg : Int), .slice a5 ls c5] 55)) v5.heap.size sg a5 ls c5 sv) := Got.new hr5
    have p_5 := Lib.hid ((p_4.out.call hb5).call (box_new (.cells #[.int .u64 (sg : Int), .slice a5 ls c5] 55)))
    have q_5 := Lib.hid ((q_4.out.call hb5).call (box_new (.cells #[.int .u64 (sg : Int), .slice a5 ls c5] 55)))
    have u_5 := Lib.hid ((u_4.out.call hb5).call (box_new (.cells #[.int .u64 (sg : Int), .slice a5 ls c5] 55)))
    have v_5 := Lib.hid ((G4.out.call hb5).call (box_new (.cells #[.int .u64 (sg : Int), .slice a5 ls c5] 55)))
    rw [hW5] at K5 G5 p_5 q_5 u_5 v_5
    clear hr5 hf5 hb5
    clear q4hA0 q4hA1 q4hB0 q4hB1
    obtain ⟨q5hA0, q5hA1, _⟩ := two_cells K5.out.hA
    obtain ⟨q5hB0, q5hB1, _⟩ := two_cells K5.out.hB
    go_wp2_with fail
    refine (setR_is n x y _ se HSE.out sg HSG.out sv HSV.out).mono ?_
    rintro e v6 ⟨a6, c6, rfl, hr6, hf6, hb6⟩
    rw [HLS.out]
    obtain ⟨W6, hW6⟩ : ∃ W, v6.alloc (.cells #[.int .u64 (sg : Int), .slice a6 ls c6] 55) = W := ⟨_, rfl⟩
    have K6 := Lib.hid (K5.out.grow hb6 (.cells #[.int .u64 (sg : Int), .slice a6 ls c6] 55))
    have G6 : Hid (Got (v6.alloc (.cells #[.int .u64 (sg : Int), .slice a6 ls c6] 55)) v6.heap.size sg a6 ls c6 sv) := Got.new hr6
    have p_6 := Lib.hid ((p_5.out.call hb6).call (box_new (.cells #[.int .u64 (sg : Int), .slice a6 ls c6] 55)))
    have q_6 := Lib.hid ((q_5.out.call hb6).call (box_new (.cells #[.int .u64 (sg : Int), .slice a6 ls c6] 55)))
    have u_6 := Lib.hid ((u_5.out.call hb6).call (box_new (.cells #[.int .u64 (sg : Int), .slice a6 ls c6] 55)))
    have v_6 := Lib.hid ((v_5.out.call hb6).call (box_new (.cells #[.int .u64 (sg : Int), .slice a6 ls c6] 55)))
    have r_6 := Lib.hid ((G5.out.call hb6).call (box_new (.cells #[.int .u64 (sg : Int), .slice a6 ls c6] 55)))
    rw [hW6] at K6 G6 p_6 q_6 u_6 v_6 r_6
    clear hr6 hf6 hb6
    have ENV : Hid (∀ wr : World, Below W6.heap.size W6 wr → wr.cell? ⟨w.heap.size, 0, none⟩ = some (.int .u64 (ga : Int)) ∧ wr.cell? ⟨w.heap.size, 1, none⟩ = some (.slice a la capa) ∧ wr.cell? ⟨w.heap.size + 1, 0, none⟩ = some (.int .u64 (gb : Int)) ∧ wr.cell? ⟨w.heap.size + 1, 1, none⟩ = some (.slice b lb capb) ∧ wr.cell? ⟨v1.heap.size, 0, none⟩ = some (.int .u64 (cg : Int)) ∧ wr.cell? ⟨v1.heap.size, 1, none⟩ = some (.slice a1 lc c1) ∧ wr.cell? ⟨v2.heap.size, 0, none⟩ = some (.int .u64 (cg : Int)) ∧ wr.cell? ⟨v2.heap.size, 1, none⟩ = some (.slice a2 lc c2) ∧ wr.cell? ⟨v3.heap.size, 0, none⟩ = some (.int .u64 (og : Int)) ∧ wr.cell? ⟨v3.heap.size, 1, none⟩ = some (.slice a3 lo c3) ∧ wr.cell? ⟨v4.heap.size, 0, none⟩ = some (.int .u64 (og : Int)) ∧ wr.cell? ⟨v4.heap.size, 1, none⟩ = some (.slice a4 lo c4) ∧ wr.cell? ⟨v5.heap.size, 0, none⟩ = some (.int .u64 (sg : Int)) ∧ wr.cell? ⟨v5.heap.size, 1, none⟩ = some (.slice a5 ls c5) ∧ wr.cell? ⟨v6.heap.size, 0, none⟩ = some (.int .u64 (sg : Int)) ∧ wr.cell? ⟨v6.heap.size, 1, none⟩ = some (.slice a6 ls c6)) := fun wr hb => ⟨(two_cells (heap_old K6.out.hA hb)).1, (two_cells (heap_old K6.out.hA hb)).2.1, (two_cells (heap_old K6.out.hB hb)).1, (two_cells (heap_old K6.out.hB hb)).2.1, (two_cells (heap_old p_6.out.box hb)).1, (two_cells (heap_old p_6.out.box hb)).2.1, (two_cells (heap_old q_6.out.box hb)).1, (two_cells (heap_old q_6.out.box hb)).2.1, (two_cells (heap_old u_6.out.box hb)).1, (two_cells (heap_old u_6.out.box hb)).2.1, (two_cells (heap_old v_6.out.box hb)).1, (two_cells (heap_old v_6.out.box hb)).2.1, (two_cells (heap_old r_6.out.box hb)).1, (two_cells (heap_old r_6.out.box hb)).2.1, (two_cells (heap_old G6.out.box hb)).1, (two_cells (heap_old G6.out.box hb)).2.1⟩
    clear q5hA0 q5hA1 q5hB0 q5hB1
    obtain ⟨m0, m1, m2, m3, m4, m5, m6, m7, m8, m9, m10, m11, m12, m13, m14, m15⟩ := ENV.out _ (Below.refl _ _)
    have C1 : Hid (∀ wr : World, Below W6.heap.size W6 wr → Calls Tryd.prog 43 #[.int .i64 n, .agg #[.int .u64 (ga : Int), .slice a la capa]] wr (fun e w' => e = .returned (.int .i64 ck) ∧ Below wr.heap.size wr w')) := fun wr hb => checkA_is n a capa ga xs wr ((K6.out.fat HFA.out).below hb) ck HCK.out la HLA.out
    have C2 : Hid (∀ wr : World, Below W6.heap.size W6 wr → Calls Tryd.prog 44 #[.int .i64 n, .agg #[.int .u64 (ga : Int), .slice a la capa]] wr (fun e w' => e = .returned (.int .i64 ck) ∧ Below wr.heap.size wr w')) := fun wr hb => checkR_is n a capa ga xs wr ((K6.out.fat HFA.out).below hb) ck HCK.out la HLA.out
    have C3 : Hid (∀ wr : World, Below W6.heap.size W6 wr → Calls Tryd.prog 45 #[.agg #[.int .u64 (cg : Int), .slice a1 lc c1], .agg #[.int .u64 (cg : Int), .slice a2 lc c2]] wr (fun e w' => e = .returned (.bool true) ∧ Below wr.heap.size wr w')) := fun wr hb => sameR_is a1 a2 c1 c2 cg cg cv cv wr hcl hcl (VRow.below p_6.out.row hb) (VRow.below q_6.out.row hb) true (same_self _ _) lc lc HLC.out HLC.out
    have C4 : Hid (∀ wr : World, Below W6.heap.size W6 wr → Calls Tryd.prog 45 #[.agg #[.int .u64 (og : Int), .slice a3 lo c3], .agg #[.int .u64 (og : Int), .slice a4 lo c4]] wr (fun e w' => e = .returned (.bool true) ∧ Below wr.heap.size wr w')) := fun wr hb => sameR_is a3 a4 c3 c4 og og ov ov wr hol hol (VRow.below u_6.out.row hb) (VRow.below v_6.out.row hb) true (same_self _ _) lo lo HLO.out HLO.out
    have C5 : Hid (∀ wr : World, Below W6.heap.size W6 wr → Calls Tryd.prog 45 #[.agg #[.int .u64 (sg : Int), .slice a5 ls c5], .agg #[.int .u64 (sg : Int), .slice a6 ls c6]] wr (fun e w' => e = .returned (.bool true) ∧ Below wr.heap.size wr w')) := fun wr hb => sameR_is a5 a6 c5 c6 sg sg sv sv wr hsl hsl (VRow.below r_6.out.row hb) (VRow.below G6.out.row hb) true (same_self _ _) ls ls HLS.out HLS.out
    have C6 : Hid (∀ wr : World, Below W6.heap.size W6 wr → Calls Tryd.prog 46 #[.agg #[.int .u64 (ga : Int), .slice a la capa], .agg #[.int .u64 (gb : Int), .slice b lb capb]] wr (fun e w' => e = .returned (.bool sb) ∧ Below wr.heap.size wr w')) := fun wr hb => sameA_is a b capa capb ga gb xs ys wr HFA.out.len HFB.out.len ((K6.out.fat HFA.out).below hb).row ((K6.out.fat HFB.out).below hb).row sb HSBB.out la lb HLA.out HLB.out
    have C7 : Hid (∀ wr : World, Below W6.heap.size W6 wr → Calls Tryd.prog 45 #[.agg #[.int .u64 (ga : Int), .slice a la capa], .agg #[.int .u64 (gb : Int), .slice b lb capb]] wr (fun e w' => e = .returned (.bool sb) ∧ Below wr.heap.size wr w')) := fun wr hb => sameR_is a b capa capb ga gb xs ys wr HFA.out.len HFB.out.len ((K6.out.fat HFA.out).below hb).row ((K6.out.fat HFB.out).below hb).row sb HSBB.out la lb HLA.out HLB.out
    have C8 : Hid (∀ wr : World, Below W6.heap.size W6 wr → Calls Tryd.prog 46 #[.agg #[.int .u64 (ga : Int), .slice a la capa], .agg #[.int .u64 (ga : Int), .slice a la capa]] wr (fun e w' => e = .returned (.bool true) ∧ Below wr.heap.size wr w')) := fun wr hb => sameA_is a a capa capa ga ga xs xs wr HFA.out.len HFA.out.len ((K6.out.fat HFA.out).below hb).row ((K6.out.fat HFA.out).below hb).row true (same_self _ _) la la HLA.out HLA.out
    have C9 : Hid (∀ wr : World, Below W6.heap.size W6 wr → Calls Tryd.prog 47 #[] wr (fun e w' => e = .returned (.bool true) ∧ Below wr.heap.size wr w')) := fun wr hb => alive_any wr ((K6.out.tabs HT.out).below hb)
    have D0 : Hid (Below W6.heap.size W6 W6.drew) := (Below.refl _ _).drew
    go_wp2_with fail
    go_region_held3 (fun w' => w'.cell? ⟨w.heap.size, 0, none⟩ = some (.int .u64 (ga : Int)) ∧ w'.cell? ⟨w.heap.size, 1, none⟩ = some (.slice a la capa) ∧ w'.cell? ⟨w.heap.size + 1, 0, none⟩ = some (.int .u64 (gb : Int)) ∧ w'.cell? ⟨w.heap.size + 1, 1, none⟩ = some (.slice b lb capb) ∧ w'.cell? ⟨v1.heap.size, 0, none⟩ = some (.int .u64 (cg : Int)) ∧ w'.cell? ⟨v1.heap.size, 1, none⟩ = some (.slice a1 lc c1) ∧ w'.cell? ⟨v2.heap.size, 0, none⟩ = some (.int .u64 (cg : Int)) ∧ w'.cell? ⟨v2.heap.size, 1, none⟩ = some (.slice a2 lc c2) ∧ w'.cell? ⟨v3.heap.size, 0, none⟩ = some (.int .u64 (og : Int)) ∧ w'.cell? ⟨v3.heap.size, 1, none⟩ = some (.slice a3 lo c3) ∧ w'.cell? ⟨v4.heap.size, 0, none⟩ = some (.int .u64 (og : Int)) ∧ w'.cell? ⟨v4.heap.size, 1, none⟩ = some (.slice a4 lo c4) ∧ w'.cell? ⟨v5.heap.size, 0, none⟩ = some (.int .u64 (sg : Int)) ∧ w'.cell? ⟨v5.heap.size, 1, none⟩ = some (.slice a5 ls c5) ∧ w'.cell? ⟨v6.heap.size, 0, none⟩ = some (.int .u64 (sg : Int)) ∧ w'.cell? ⟨v6.heap.size, 1, none⟩ = some (.slice a6 ls c6))
      (first | exact ENV.out _ D0.out | exact ENV.out _ D1.out | exact ENV.out _ D2.out | exact ENV.out _ D3.out | exact ENV.out _ D4.out | exact ENV.out _ D5.out | exact ENV.out _ D6.out | exact ENV.out _ D7.out | exact ENV.out _ D8.out | exact ENV.out _ D9.out | exact ENV.out _ (Below.refl _ _) | fail)
      (first | (go_at_call 43; with_reducible refine (C1.out _ D0.out).mono ?_; rintro e x1 ⟨rfl, hx1⟩; have D1 := Lib.hid (D0.out.trans (hx1.mono D0.out.size)); clear hx1) | (go_at_call 44; with_reducible refine (C2.out _ D1.out).mono ?_; rintro e x2 ⟨rfl, hx2⟩; have D2 := Lib.hid (D1.out.trans (hx2.mono D1.out.size)); clear hx2) | (go_at_call 45; with_reducible refine (C3.out _ D2.out).mono ?_; rintro e x3 ⟨rfl, hx3⟩; have D3 := Lib.hid (D2.out.trans (hx3.mono D2.out.size)); clear hx3) | (go_at_call 45; with_reducible refine (C4.out _ D3.out).mono ?_; rintro e x4 ⟨rfl, hx4⟩; have D4 := Lib.hid (D3.out.trans (hx4.mono D3.out.size)); clear hx4) | (go_at_call 45; with_reducible refine (C5.out _ D4.out).mono ?_; rintro e x5 ⟨rfl, hx5⟩; have D5 := Lib.hid (D4.out.trans (hx5.mono D4.out.size)); clear hx5) | (go_at_call 46; with_reducible refine (C6.out _ D5.out).mono ?_; rintro e x6 ⟨rfl, hx6⟩; have D6 := Lib.hid (D5.out.trans (hx6.mono D5.out.size)); clear hx6) | (go_at_call 45; with_reducible refine (C7.out _ D6.out).mono ?_; rintro e x7 ⟨rfl, hx7⟩; have D7 := Lib.hid (D6.out.trans (hx7.mono D6.out.size)); clear hx7) | (go_at_call 46; with_reducible refine (C8.out _ D7.out).mono ?_; rintro e x8 ⟨rfl, hx8⟩; have D8 := Lib.hid (D7.out.trans (hx8.mono D7.out.size)); clear hx8) | (go_at_call 47; with_reducible refine (C9.out _ D8.out).mono ?_; rintro e x9 ⟨rfl, hx9⟩; have D9 := Lib.hid (D8.out.trans (hx9.mono D8.out.size)); clear hx9) | fail)
    all_goals (go_wp2; go_ret; exact ⟨rfl, K6.out.below.trans (D9.out.mono K6.out.below.size)⟩)
end Go.Proofs.YtdaijibkafepcaaDoor
