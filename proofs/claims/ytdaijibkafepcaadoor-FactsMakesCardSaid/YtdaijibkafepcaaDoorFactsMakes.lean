/-
  THE FACTS LAYER: the law FactsMakes' walk.
-/
import Derived.Test.YtdaijibkafepcaaDoorFactsEnv
import Derived.Deep.DeepCutAuto
import Derived.Deep.CutRange
import Derived.Deep.AppendLies
namespace Go.Proofs.YtdaijibkafepcaaDoor
open Go.RowKit
set_option linter.unusedVariables false
set_option maxRecDepth 100000 in
set_option maxHeartbeats 4000000 in
theorem factsMakes_walk (n : Int) (ga : Nat) (a : Option Addr) (la0 capa : Nat) (xs0 : List Nat) (gb : Nat) (b : Option Addr) (lb0 capb : Nat) (ys0 : List Nat) (s : Int) (w : World) (hn : (Lit.int .i64 n).wf = true) (ha : IsF w ga a la0 capa xs0) (hb : IsF w gb b lb0 capb ys0) (hs : (Lit.int .u64 s).wf = true) (ht : TabC w) :
    Calls Tryd.prog 10 #[.int .i64 n, .agg #[.int .u64 (ga : Int), .slice a la0 capa], .agg #[.int .u64 (gb : Int), .slice b lb0 capb], .int .u64 s] w fun e w' => e = .returned (.bool true) ∧ Below w.heap.size w w' := by
  obtain ⟨t, rfl, ht64⟩ := u64_nat hs
  have HFA := Lib.hid ha.fat; have HFB := Lib.hid hb.fat
  obtain ⟨xs, hxs⟩ : ∃ xs, xs0.take 100 = xs := ⟨_, rfl⟩
  obtain ⟨ys, hys⟩ : ∃ ys, ys0.take 100 = ys := ⟨_, rfl⟩
  rw [hxs] at HFA; rw [hys] at HFB
  obtain ⟨la, hla⟩ : ∃ la, min 100 la0 = la := ⟨_, rfl⟩
  obtain ⟨lb, hlb⟩ : ∃ lb, min 100 lb0 = lb := ⟨_, rfl⟩
  have HLA : Hid (xs.length = la) := by show _ = _; rw [← hxs, ← hla]; exact ha.cutlen
  have HLB : Hid (ys.length = lb) := by show _ = _; rw [← hys, ← hlb]; exact hb.cutlen
  have CUTA : Hid (∀ W : World, Calls Tryd.prog 36 #[.agg #[.int .u64 (ga : Int), .slice a la0 capa]] W fun e w' => e = .returned (.agg #[.int .u64 (ga : Int), .slice a la capa]) ∧ Below W.heap.size W w') := fun W => cut_is ga a la0 capa ha.hcap ha.some_ la hla W
  have CUTB : Hid (∀ W : World, Calls Tryd.prog 36 #[.agg #[.int .u64 (gb : Int), .slice b lb0 capb]] W fun e w' => e = .returned (.agg #[.int .u64 (gb : Int), .slice b lb capb]) ∧ Below W.heap.size W w') := fun W => cut_is gb b lb0 capb hb.hcap hb.some_ lb hlb W
  have HT := Lib.hid ht
  obtain ⟨e0, he⟩ : ∃ e0, bothE n ga xs gb ys = e0 := ⟨_, rfl⟩
  obtain ⟨cg, hcg⟩ : ∃ g, combG n ga xs gb ys = g := ⟨_, rfl⟩
  obtain ⟨cv, hcv⟩ : ∃ g, combV n ga xs gb ys = g := ⟨_, rfl⟩
  obtain ⟨eg, heg⟩ : ∃ g, extG n ga xs gb ys = g := ⟨_, rfl⟩
  obtain ⟨ev, hev⟩ : ∃ g, extV n ga xs gb ys = g := ⟨_, rfl⟩
  obtain ⟨ae, hae⟩ : ∃ g, applyE n ga xs t = g := ⟨_, rfl⟩
  obtain ⟨av, hav⟩ : ∃ g, applyV n ga xs t = g := ⟨_, rfl⟩
  obtain ⟨lc, hlc⟩ : ∃ g, cv.length = g := ⟨_, rfl⟩
  obtain ⟨le, hle⟩ : ∃ g, ev.length = g := ⟨_, rfl⟩
  have hcl : cv.length ≤ 100 := by rw [← hcv]; exact combV_len HFA.out.len
  have hel : ev.length ≤ 100 := by rw [← hev]; exact extV_len HFA.out.len
  have HE := Lib.hid he; have HCG := Lib.hid hcg; have HCV := Lib.hid hcv; have HEG := Lib.hid heg; have HEV := Lib.hid hev; have HAE := Lib.hid hae; have HAV := Lib.hid hav; have HLC := Lib.hid hlc; have HLE := Lib.hid hle
  obtain ⟨r, hr⟩ : ∃ r : Bool, r = true ↔ e0 = 0 ∧ BelowP ga xs gb ys := by
    classical
    exact ⟨decide (e0 = 0 ∧ BelowP ga xs gb ys), decide_eq_true_iff⟩
  have HRA := Lib.hid hr
  have HRR : Hid (r = true ↔ e0 = 0 ∧ sameB (combG n ga xs gb ys) (combV n ga xs gb ys) gb ys = true) := by
    show _ ↔ _
    rw [hr]
    refine and_congr_right fun h0 => below_iff HFA.out.gen HFB.out.gen HFA.out.all HFB.out.all (he.trans h0)
  obtain ⟨t0, t1⟩ := two_boxes w #[.int .u64 (ga : Int), .slice a la0 capa] #[.int .u64 (gb : Int), .slice b lb0 capb] 55
  obtain ⟨W0, hW0⟩ : ∃ W, (w.alloc (.cells #[.int .u64 (ga : Int), .slice a la0 capa] 55)).alloc (.cells #[.int .u64 (gb : Int), .slice b lb0 capb] 55) = W := ⟨_, rfl⟩
  have K00 : Hid (KeepK w W0 w.heap.size (w.heap.size + 1) #[.int .u64 (ga : Int), .slice a la0 capa] #[.int .u64 (gb : Int), .slice b lb0 capb]) := by
    rw [← hW0]
    exact ⟨t0, t1, ((Below.refl _ _).alloc (Nat.le_refl _) _).alloc (by simp) _⟩
  obtain ⟨x0, x1, _⟩ := two_cells K00.out.hA
  obtain ⟨y0, y1, _⟩ := two_cells K00.out.hB
  clear ha hb ht hxs hys hla hlb hn hs t0 t1 he hcg hcv heg hev hae hav hlc hle hr
  go_enter Tryd.func10, Tryd.ntmps10
  go_upto_region 1 with fail
  go_cut [8] from 25 to 28 (fun r wx => r = .bool false ∧ Hid (KeepK w wx w.heap.size (w.heap.size + 1) #[.int .u64 (ga : Int), .slice a la capa] #[.int .u64 (gb : Int), .slice b lb capb]))
  case first =>
    go_region_with (first | (go_at_call 36; go_loud (with_reducible refine (CUTA.out _).mono ?_; rintro e wA ⟨rfl, hbA⟩; have KA := Lib.hid (KeepK.call K00.out.drew hbA); obtain ⟨b0, b1, _⟩ := two_cells KA.out.hB)) | (go_at_call 36; with_reducible refine (CUTB.out _).mono ?_; rintro e wB ⟨rfl, hbB⟩; have KB := Lib.hid (KA.out.call hbB); obtain ⟨p0, p1, pf⟩ := two_cells KB.out.hA; have pf0 := pf 0; have pf1 := pf 1; clear pf; have SB := Lib.hid (heap_other (B := w.heap.size) (j := 1) (c := .slice a la capa) (heap_other (B := w.heap.size) (j := 0) (c := .int .u64 (ga : Int)) KB.out.hB (by omega)) (by omega)); obtain ⟨q0, q1, qf⟩ := two_cells SB.out; have qf0 := qf 0; have qf1 := qf 1; clear qf))
    all_goals trace_state
    all_goals (go_wp2_with fail; go_meet; exact ⟨rfl, cut_both KB.out⟩)
  case rest =>
    obtain ⟨rfl, K⟩ := hcut
    obtain ⟨q0hA0, q0hA1, _⟩ := two_cells K.out.hA
    obtain ⟨q0hB0, q0hB1, _⟩ := two_cells K.out.hB
    go_wp2_with fail
    refine (combA_is n a b capa capb ga gb xs ys _ (K.out.fat HFA.out) (K.out.fat HFB.out) e0 HE.out cg HCG.out cv HCV.out la lb HLA.out HLB.out).mono ?_
    rintro e v1 ⟨a1, c1, rfl, hr1, hf1, hb1⟩
    rw [HLC.out]
    obtain ⟨W1, hW1⟩ : ∃ W, v1.alloc (.cells #[.int .u64 (cg : Int), .slice a1 lc c1] 55) = W := ⟨_, rfl⟩
    have K1 := Lib.hid (K.out.grow hb1 (.cells #[.int .u64 (cg : Int), .slice a1 lc c1] 55))
    have G1 : Hid (Got (v1.alloc (.cells #[.int .u64 (cg : Int), .slice a1 lc c1] 55)) v1.heap.size cg a1 lc c1 cv) := Got.new hr1
    rw [hW1] at K1 G1 
    clear hr1 hf1 hb1
    clear q0hA0 q0hA1 q0hB0 q0hB1
    obtain ⟨q1hA0, q1hA1, _⟩ := two_cells K1.out.hA
    obtain ⟨q1hB0, q1hB1, _⟩ := two_cells K1.out.hB
    go_wp2_with fail
    refine (combR_is n a b capa capb ga gb xs ys _ (K1.out.fat HFA.out) (K1.out.fat HFB.out) e0 HE.out cg HCG.out cv HCV.out la lb HLA.out HLB.out).mono ?_
    rintro e v2 ⟨a2, c2, rfl, hr2, hf2, hb2⟩
    rw [HLC.out]
    obtain ⟨W2, hW2⟩ : ∃ W, v2.alloc (.cells #[.int .u64 (cg : Int), .slice a2 lc c2] 55) = W := ⟨_, rfl⟩
    have K2 := Lib.hid (K1.out.grow hb2 (.cells #[.int .u64 (cg : Int), .slice a2 lc c2] 55))
    have G2 : Hid (Got (v2.alloc (.cells #[.int .u64 (cg : Int), .slice a2 lc c2] 55)) v2.heap.size cg a2 lc c2 cv) := Got.new hr2
    have p_2 := Lib.hid ((G1.out.call hb2).call (box_new (.cells #[.int .u64 (cg : Int), .slice a2 lc c2] 55)))
    rw [hW2] at K2 G2 p_2
    clear hr2 hf2 hb2
    clear q1hA0 q1hA1 q1hB0 q1hB1
    obtain ⟨q2hA0, q2hA1, _⟩ := two_cells K2.out.hA
    obtain ⟨q2hB0, q2hB1, _⟩ := two_cells K2.out.hB
    go_wp2_with fail
    refine (extA_is n a b capa capb ga gb xs ys _ (K2.out.fat HFA.out) (K2.out.fat HFB.out) (K2.out.tabs HT.out) e0 HE.out eg HEG.out ev HEV.out la lb HLA.out HLB.out).mono ?_
    rintro e v3 ⟨a3, c3, rfl, hr3, hf3, hb3⟩
    rw [HLE.out]
    obtain ⟨W3, hW3⟩ : ∃ W, v3.alloc (.cells #[.int .u64 (eg : Int), .slice a3 le c3] 55) = W := ⟨_, rfl⟩
    have K3 := Lib.hid (K2.out.grow hb3 (.cells #[.int .u64 (eg : Int), .slice a3 le c3] 55))
    have G3 : Hid (Got (v3.alloc (.cells #[.int .u64 (eg : Int), .slice a3 le c3] 55)) v3.heap.size eg a3 le c3 ev) := Got.new hr3
    have p_3 := Lib.hid ((p_2.out.call hb3).call (box_new (.cells #[.int .u64 (eg : Int), .slice a3 le c3] 55)))
    have q_3 := Lib.hid ((G2.out.call hb3).call (box_new (.cells #[.int .u64 (eg : Int), .slice a3 le c3] 55)))
    rw [hW3] at K3 G3 p_3 q_3
    clear hr3 hf3 hb3
    clear q2hA0 q2hA1 q2hB0 q2hB1
    obtain ⟨q3hA0, q3hA1, _⟩ := two_cells K3.out.hA
    obtain ⟨q3hB0, q3hB1, _⟩ := two_cells K3.out.hB
    go_wp2_with fail
    refine (extR_is n a b capa capb ga gb xs ys _ (K3.out.fat HFA.out) (K3.out.fat HFB.out) e0 HE.out eg HEG.out ev HEV.out la lb HLA.out HLB.out).mono ?_
    rintro e v4 ⟨a4, c4, rfl, hr4, hf4, hb4⟩
    rw [HLE.out]
    obtain ⟨W4, hW4⟩ : ∃ W, v4.alloc (.cells #[.int .u64 (eg : Int), .slice a4 le c4] 55) = W := ⟨_, rfl⟩
    have K4 := Lib.hid (K3.out.grow hb4 (.cells #[.int .u64 (eg : Int), .slice a4 le c4] 55))
    have G4 : Hid (Got (v4.alloc (.cells #[.int .u64 (eg : Int), .slice a4 le c4] 55)) v4.heap.size eg a4 le c4 ev) := Got.new hr4
    have p_4 := Lib.hid ((p_3.out.call hb4).call (box_new (.cells #[.int .u64 (eg : Int), .slice a4 le c4] 55)))
    have q_4 := Lib.hid ((q_3.out.call hb4).call (box_new (.cells #[.int .u64 (eg : Int), .slice a4 le c4] 55)))
    have u_4 := Lib.hid ((G3.out.call hb4).call (box_new (.cells #[.int .u64 (eg : Int), .slice a4 le c4] 55)))
    rw [hW4] at K4 G4 p_4 q_4 u_4
    clear hr4 hf4 hb4
    clear q3hA0 q3hA1 q3hB0 q3hB1
    obtain ⟨q4hA0, q4hA1, _⟩ := two_cells K4.out.hA
    obtain ⟨q4hB0, q4hB1, _⟩ := two_cells K4.out.hB
    go_wp2_with fail
    refine (applyA_is n a capa ga xs t ht64 _ (K4.out.fat HFA.out) (K4.out.tabs HT.out) ae HAE.out av HAV.out la HLA.out).mono ?_
    rintro e v5 ⟨rfl, hb5⟩
    have K5 := Lib.hid (K4.out.call hb5)
    have p_5 := Lib.hid (p_4.out.call hb5)
    have q_5 := Lib.hid (q_4.out.call hb5)
    have u_5 := Lib.hid (u_4.out.call hb5)
    have v_5 := Lib.hid (G4.out.call hb5)
    clear hb5
    clear q4hA0 q4hA1 q4hB0 q4hB1
    obtain ⟨q5hA0, q5hA1, _⟩ := two_cells K5.out.hA
    obtain ⟨q5hB0, q5hB1, _⟩ := two_cells K5.out.hB
    go_wp2_with fail
    refine (applyR_is n a capa ga xs t ht64 _ (K5.out.fat HFA.out) ae HAE.out av HAV.out la HLA.out).mono ?_
    rintro e v6 ⟨rfl, hb6⟩
    have K6 := Lib.hid (K5.out.call hb6)
    have p_6 := Lib.hid (p_5.out.call hb6)
    have q_6 := Lib.hid (q_5.out.call hb6)
    have u_6 := Lib.hid (u_5.out.call hb6)
    have v_6 := Lib.hid (v_5.out.call hb6)
    clear hb6
    clear q5hA0 q5hA1 q5hB0 q5hB1
    obtain ⟨q6hA0, q6hA1, _⟩ := two_cells K6.out.hA
    obtain ⟨q6hB0, q6hB1, _⟩ := two_cells K6.out.hB
    go_wp2_with fail
    refine (belowA_is n a b capa capb ga gb xs ys _ (K6.out.fat HFA.out) (K6.out.fat HFB.out) e0 HE.out r HRA.out la lb HLA.out HLB.out).mono ?_
    rintro e v7 ⟨rfl, hb7⟩
    have K7 := Lib.hid (K6.out.call hb7)
    have p_7 := Lib.hid (p_6.out.call hb7)
    have q_7 := Lib.hid (q_6.out.call hb7)
    have u_7 := Lib.hid (u_6.out.call hb7)
    have v_7 := Lib.hid (v_6.out.call hb7)
    clear hb7
    clear q6hA0 q6hA1 q6hB0 q6hB1
    obtain ⟨q7hA0, q7hA1, _⟩ := two_cells K7.out.hA
    obtain ⟨q7hB0, q7hB1, _⟩ := two_cells K7.out.hB
    go_wp2_with fail
    refine (belowR_is n a b capa capb ga gb xs ys _ (K7.out.fat HFA.out) (K7.out.fat HFB.out) e0 HE.out r HRR.out la lb HLA.out HLB.out).mono ?_
    rintro e v8 ⟨rfl, hb8⟩
    have K8 := Lib.hid (K7.out.call hb8)
    have p_8 := Lib.hid (p_7.out.call hb8)
    have q_8 := Lib.hid (q_7.out.call hb8)
    have u_8 := Lib.hid (u_7.out.call hb8)
    have v_8 := Lib.hid (v_7.out.call hb8)
    clear hb8
    clear q7hA0 q7hA1 q7hB0 q7hB1
    obtain ⟨q8hA0, q8hA1, _⟩ := two_cells K8.out.hA
    obtain ⟨q8hB0, q8hB1, _⟩ := two_cells K8.out.hB
    obtain ⟨gp80, gp81, _⟩ := two_cells p_8.out.box
    obtain ⟨gq80, gq81, _⟩ := two_cells q_8.out.box
    go_wp2_with fail
    refine (sameR_is a1 a2 c1 c2 cg cg cv cv _ hcl hcl p_8.out.row q_8.out.row true (same_self _ _) lc lc HLC.out HLC.out).mono ?_
    rintro e v9 ⟨rfl, hb9⟩
    have K9 := Lib.hid (K8.out.call hb9)
    have p_9 := Lib.hid (p_8.out.call hb9)
    have q_9 := Lib.hid (q_8.out.call hb9)
    have u_9 := Lib.hid (u_8.out.call hb9)
    have v_9 := Lib.hid (v_8.out.call hb9)
    clear hb9
    clear q8hA0 q8hA1 q8hB0 q8hB1 gp80 gp81 gq80 gq81
    obtain ⟨q9hA0, q9hA1, _⟩ := two_cells K9.out.hA
    obtain ⟨q9hB0, q9hB1, _⟩ := two_cells K9.out.hB
    obtain ⟨gu90, gu91, _⟩ := two_cells u_9.out.box
    obtain ⟨gv90, gv91, _⟩ := two_cells v_9.out.box
    go_wp2_with fail
    refine (sameR_is a3 a4 c3 c4 eg eg ev ev _ hel hel u_9.out.row v_9.out.row true (same_self _ _) le le HLE.out HLE.out).mono ?_
    rintro e v10 ⟨rfl, hb10⟩
    have K10 := Lib.hid (K9.out.call hb10)
    have p_10 := Lib.hid (p_9.out.call hb10)
    have q_10 := Lib.hid (q_9.out.call hb10)
    have u_10 := Lib.hid (u_9.out.call hb10)
    have v_10 := Lib.hid (v_9.out.call hb10)
    clear hb10
    clear q9hA0 q9hA1 q9hB0 q9hB1 gu90 gu91 gv90 gv91
    obtain ⟨q10hA0, q10hA1, _⟩ := two_cells K10.out.hA
    obtain ⟨q10hB0, q10hB1, _⟩ := two_cells K10.out.hB
    go_wp2_with fail
    refine (alive_any _ (K10.out.tabs HT.out)).mono ?_
    rintro e v11 ⟨rfl, hb11⟩
    have K11 := Lib.hid (K10.out.call hb11)
    have p_11 := Lib.hid (p_10.out.call hb11)
    have q_11 := Lib.hid (q_10.out.call hb11)
    have u_11 := Lib.hid (u_10.out.call hb11)
    have v_11 := Lib.hid (v_10.out.call hb11)
    clear hb11
    go_wp2
    go_ret
    exact ⟨rfl, K11.out.below⟩
end Go.Proofs.YtdaijibkafepcaaDoor
