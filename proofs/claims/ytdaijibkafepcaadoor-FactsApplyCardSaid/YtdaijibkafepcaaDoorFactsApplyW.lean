/-
  THE FACTS LAYER: the law FactsApply' walk.
-/
import Derived.Test.YtdaijibkafepcaaDoorFactsGood
import Derived.Deep.DeepCutAuto
import Derived.Deep.CutRange
import Derived.Deep.AppendLies
namespace Go.Proofs.YtdaijibkafepcaaDoor
open Go.RowKit
set_option linter.unusedVariables false
theorem apply_good {m g t : Nat} {rows : List Nat} (h : Good m g rows) (ht : t < 2 ^ m) : applyE m g rows t = 0 ∧ applyV m g rows t = madeF g rows t := by
  have hi : insI m t = true := by
    have hd : dimB m = true := by simp [dimB]; have := h.hm; omega
    rw [insI, if_pos hd, Int.toNat_natCast]
    exact (insN_iff h.hm (Nat.lt_of_lt_of_le ht (pow_le64 h.hm))).2 ht
  have he : applyE m g rows t = 0 := by rw [applyE, if_pos (good_check h), if_pos hi]
  exact ⟨he, by rw [applyV, if_pos he]⟩
theorem ins_lt {m t : Nat} (hm : m ≤ 64) (ht : t < 18446744073709551616) (h : insI m t = true) : t < 2 ^ m := by
  have hd : dimB m = true := by simp [dimB]; omega
  rw [insI, if_pos hd, Int.toNat_natCast] at h
  exact (insN_iff hm ht).1 h
theorem Good.fat {m g : Nat} {rows : List Nat} {w : World} {a : Option Addr} (h : Good m g rows) (hr : VRow w a (u64s rows)) : FAt w a g rows := ⟨hr, h.g64, h.r64, by rw [h.hl]; have := h.hm; omega⟩
set_option maxRecDepth 100000 in
set_option maxHeartbeats 4000000 in
theorem factsApply_walk (n : Int) (ga : Nat) (a : Option Addr) (la0 capa : Nat) (xs0 : List Nat) (gb : Nat) (b : Option Addr) (lb0 capb : Nat) (ys0 : List Nat) (s : Int) (w : World) (hn : (Lit.int .i64 n).wf = true) (ha : IsF w ga a la0 capa xs0) (hb : IsF w gb b lb0 capb ys0) (hs : (Lit.int .u64 s).wf = true) (ht : TabC w) :
    Calls Tryd.prog 12 #[.int .i64 n, .agg #[.int .u64 (ga : Int), .slice a la0 capa], .agg #[.int .u64 (gb : Int), .slice b lb0 capb], .int .u64 s] w fun e w' => e = .returned (.bool true) ∧ Below w.heap.size w w' := by
  obtain ⟨t, rfl, ht64⟩ := u64_nat hs
  have HFA := Lib.hid ha.fat; have HFB := Lib.hid hb.fat
  obtain ⟨xs, hxs⟩ : ∃ xs, xs0.take 100 = xs := ⟨_, rfl⟩
  obtain ⟨ys, hys⟩ : ∃ ys, ys0.take 100 = ys := ⟨_, rfl⟩
  rw [hxs] at HFA; rw [hys] at HFB
  obtain ⟨la, hla⟩ : ∃ la, min 100 la0 = la := ⟨_, rfl⟩
  obtain ⟨lb, hlb⟩ : ∃ lb, min 100 lb0 = lb := ⟨_, rfl⟩
  have HLA : Hid (xs.length = la) := by show _ = _; rw [← hxs, ← hla]; exact ha.cutlen
  have HLB : Hid (ys.length = lb) := by show _ = _; rw [← hys, ← hlb]; exact hb.cutlen
  have CUTA : Hid (∀ W : World, Calls Tryd.prog 36 #[.agg #[.int .u64 (ga : Int), .slice a la0 capa]] W fun e w' => e = .returned (.agg #[.int .u64 (ga : Int), .slice a la capa]) ∧ Below W.heap.size W w') := fun W => cut_is ga a la0 capa ha.hcap ha.some_ la hla W
  have CUTB : Hid (∀ W : World, Calls Tryd.prog 36 #[.agg #[.int .u64 (gb : Int), .slice b lb0 capb]] W fun e w' => e = .returned (.agg #[.int .u64 (gb : Int), .slice b lb capb]) ∧ Below W.heap.size W w') := fun W => cut_is gb b lb0 capb hb.hcap hb.some_ lb hlb W
  have HT := Lib.hid ht
  obtain ⟨gd, hgd⟩ : ∃ r, (([⟨ga, a, la, capa, xs⟩, ⟨gb, b, lb, capb, ys⟩] : List FItem).all fun f => decide (checkE n f.g f.rows = 0)) = r := ⟨_, rfl⟩
  have HGD := Lib.hid hgd
  obtain ⟨ins, hins⟩ : ∃ r, insI n t = r := ⟨_, rfl⟩
  have HINS := Lib.hid hins
  obtain ⟨t0, t1⟩ := two_boxes w #[.int .u64 (ga : Int), .slice a la0 capa] #[.int .u64 (gb : Int), .slice b lb0 capb] 55
  obtain ⟨W0, hW0⟩ : ∃ W, (w.alloc (.cells #[.int .u64 (ga : Int), .slice a la0 capa] 55)).alloc (.cells #[.int .u64 (gb : Int), .slice b lb0 capb] 55) = W := ⟨_, rfl⟩
  have K00 : Hid (KeepK w W0 w.heap.size (w.heap.size + 1) #[.int .u64 (ga : Int), .slice a la0 capa] #[.int .u64 (gb : Int), .slice b lb0 capb]) := by
    rw [← hW0]
    exact ⟨t0, t1, ((Below.refl _ _).alloc (Nat.le_refl _) _).alloc (by simp) _⟩
  obtain ⟨x0, x1, _⟩ := two_cells K00.out.hA
  obtain ⟨y0, y1, _⟩ := two_cells K00.out.hB
  clear ha hb ht hxs hys hla hlb hn hs t0 t1 hgd hins
  go_enter Tryd.func12, Tryd.ntmps12
  go_upto_region 1 with fail
  go_cut [8] from 19 to 22 (fun r wx => r = .bool false ∧ Hid (KeepK w wx w.heap.size (w.heap.size + 1) #[.int .u64 (ga : Int), .slice a la capa] #[.int .u64 (gb : Int), .slice b lb capb]))
  case first =>
    go_region_with (first | (go_at_call 36; go_loud (with_reducible refine (CUTA.out _).mono ?_; rintro e wA ⟨rfl, hbA⟩; have KA := Lib.hid (KeepK.call K00.out.drew hbA); obtain ⟨b0, b1, _⟩ := two_cells KA.out.hB)) | (go_at_call 36; with_reducible refine (CUTB.out _).mono ?_; rintro e wB ⟨rfl, hbB⟩; have KB := Lib.hid (KA.out.call hbB); obtain ⟨p0, p1, pf⟩ := two_cells KB.out.hA; have pf0 := pf 0; have pf1 := pf 1; clear pf; have SB := Lib.hid (heap_other (B := w.heap.size) (j := 1) (c := .slice a la capa) (heap_other (B := w.heap.size) (j := 0) (c := .int .u64 (ga : Int)) KB.out.hB (by omega)) (by omega)); obtain ⟨q0, q1, qf⟩ := two_cells SB.out; have qf0 := qf 0; have qf1 := qf 1; clear qf))
    all_goals trace_state
    all_goals (go_wp2_with fail; go_meet; exact ⟨rfl, cut_both KB.out⟩)
  case rest =>
    obtain ⟨rfl, K⟩ := hcut
    obtain ⟨q0hA0, q0hA1, _⟩ := two_cells K.out.hA
    obtain ⟨q0hB0, q0hB1, _⟩ := two_cells K.out.hB
    obtain ⟨W0b, hW0b⟩ : ∃ W, wc.alloc (.cells #[.int .u64 (ga : Int), .slice a la capa, .int .u64 (gb : Int), .slice b lb capb] 55) = W := ⟨_, rfl⟩
    have KB0 := Lib.hid (K.out.alloc (.cells #[.int .u64 (ga : Int), .slice a la capa, .int .u64 (gb : Int), .slice b lb capb] 55))
    have BX := Lib.hid (heapV_new wc (.cells #[.int .u64 (ga : Int), .slice a la capa, .int .u64 (gb : Int), .slice b lb capb] 55))
    rw [hW0b] at KB0 BX
    have IT := Lib.hid (items2 (f0 := ⟨ga, a, la, capa, xs⟩) (f1 := ⟨gb, b, lb, capb, ys⟩) BX.out ⟨KB0.out.fat HFA.out, HLA.out⟩ ⟨KB0.out.fat HFB.out, HLB.out⟩)
    cases gd
    · go_wp2_with fail
      refine (good_is n wc.heap.size 0 2 2 [⟨ga, a, la, capa, xs⟩, ⟨gb, b, lb, capb, ys⟩] rfl (by omega) _ IT.out false HGD.out).mono ?_
      rintro e v0 ⟨rfl, hb0⟩
      have KD := Lib.hid (KB0.out.call hb0)
      go_wp2_with fail
      refine (alive_any _ (KD.out.tabs HT.out)).mono ?_
      rintro e v1 ⟨rfl, hb1⟩
      go_wp2
      go_ret
      exact ⟨rfl, (KD.out.call hb1).below⟩
    · cases ins
      · go_wp2_with fail
        refine (good_is n wc.heap.size 0 2 2 [⟨ga, a, la, capa, xs⟩, ⟨gb, b, lb, capb, ys⟩] rfl (by omega) _ IT.out true HGD.out).mono ?_
        rintro e v0 ⟨rfl, hb0⟩
        have KD := Lib.hid (KB0.out.call hb0)
        go_wp2_with fail
        refine (inside_is n t ht64 false HINS.out _).mono ?_
        rintro e v9 ⟨rfl, rfl⟩
        go_wp2_with fail
        refine (alive_any _ (KD.out.tabs HT.out)).mono ?_
        rintro e v1 ⟨rfl, hb1⟩
        go_wp2
        go_ret
        exact ⟨rfl, (KD.out.call hb1).below⟩
      · have hgo := HGD.out
        rw [List.all_eq_true] at hgo
        have hca : checkE n ga xs = 0 := by simpa using hgo _ (List.mem_cons_self)
        have hcb : checkE n gb ys = 0 := by simpa using hgo _ (List.mem_cons_of_mem _ List.mem_cons_self)
        obtain ⟨m, rfl, ga_⟩ := check_good HFA.out.gen HFA.out.all hca
        obtain ⟨m2, hm2, gb_⟩ := check_good HFB.out.gen HFB.out.all hcb
        obtain rfl : m = m2 := by omega
        have htm := ins_lt ga_.hm ht64 HINS.out
        obtain ⟨x, hx⟩ : ∃ x, madeF ga xs t = x := ⟨_, rfl⟩
        obtain ⟨y, hy⟩ : ∃ y, madeF gb ys x = y := ⟨_, rfl⟩
        obtain ⟨u, hu⟩ : ∃ u, madeF gb ys t = u := ⟨_, rfl⟩
        have hxm : x < 2 ^ m := by rw [← hx]; exact ga_.made t
        have hum : u < 2 ^ m := by rw [← hu]; exact gb_.made t
        have hx64 : x < 18446744073709551616 := Nat.lt_of_lt_of_le hxm (pow_le64 ga_.hm)
        have hu64 : u < 18446744073709551616 := Nat.lt_of_lt_of_le hum (pow_le64 ga_.hm)
        have hor := u64_or_nat x u hx64 hu64
        obtain ⟨eg, heg⟩ : ∃ g, extG m ga xs gb ys = g := ⟨_, rfl⟩
        obtain ⟨ev, hev⟩ : ∃ g, extV m ga xs gb ys = g := ⟨_, rfl⟩
        obtain ⟨cg, hcg⟩ : ∃ g, combG m ga xs gb ys = g := ⟨_, rfl⟩
        obtain ⟨cv, hcv⟩ : ∃ g, combV m ga xs gb ys = g := ⟨_, rfl⟩
        have GE : Hid (Good m eg ev) := by show Good _ _ _; rw [← heg, ← hev]; exact ga_.extT gb_
        have GC : Hid (Good m cg cv) := by show Good _ _ _; rw [← hcg, ← hcv]; exact ga_.combT gb_
        obtain ⟨le, hle⟩ : ∃ g, ev.length = g := ⟨_, rfl⟩
        obtain ⟨lc, hlc⟩ : ∃ g, cv.length = g := ⟨_, rfl⟩
        have HLE := Lib.hid hle; have HLC := Lib.hid hlc; have HEG := Lib.hid heg; have HEV := Lib.hid hev; have HCG := Lib.hid hcg; have HCV := Lib.hid hcv
        have AX1 : Hid (applyE m ga xs t = 0) := (apply_good ga_ htm).1
        have AX2 : Hid (applyV m ga xs t = x) := by show _ = _; rw [(apply_good ga_ htm).2, hx]
        have AY1 : Hid (applyE m gb ys x = 0) := (apply_good gb_ hxm).1
        have AY2 : Hid (applyV m gb ys x = y) := by show _ = _; rw [(apply_good gb_ hxm).2, hy]
        have AU1 : Hid (applyE m gb ys t = 0) := (apply_good gb_ htm).1
        have AU2 : Hid (applyV m gb ys t = u) := by show _ = _; rw [(apply_good gb_ htm).2, hu]
        have AE1 : Hid (applyE m eg ev t = 0) := (apply_good GE.out htm).1
        have AE2 : Hid (applyV m eg ev t = y) := by show _ = _; rw [(apply_good GE.out htm).2, ← heg, ← hev, made_ext ga_ gb_, hx, hy]
        have AC1 : Hid (applyE m cg cv t = 0) := (apply_good GC.out htm).1
        have AC2 : Hid (applyV m cg cv t = x ||| u) := by show _ = _; rw [(apply_good GC.out htm).2, ← hcg, ← hcv, made_comb ga_ gb_, hx, hu]
        obtain ⟨v, hv⟩ : ∃ v, x ||| u = v := ⟨_, rfl⟩
        rw [hv] at hor AC2
        clear hgo hca hcb ga_ gb_ hm2 htm hx hy hu hxm hum heg hev hcg hcv hle hlc hv
        go_wp2_with fail
        refine (good_is m wc.heap.size 0 2 2 [⟨ga, a, la, capa, xs⟩, ⟨gb, b, lb, capb, ys⟩] rfl (by omega) _ IT.out true HGD.out).mono ?_
        rintro e v0 ⟨rfl, hb0⟩
        have KD := Lib.hid (KB0.out.call hb0)
        clear q0hA0 q0hA1 q0hB0 q0hB1
        obtain ⟨q10hA0, q10hA1, _⟩ := two_cells KD.out.hA
        obtain ⟨q10hB0, q10hB1, _⟩ := two_cells KD.out.hB
        go_wp2_with fail
        refine (inside_is m t ht64 true HINS.out _).mono ?_
        rintro e v9 ⟨rfl, rfl⟩
        clear q10hA0 q10hA1 q10hB0 q10hB1
        obtain ⟨q10hA0, q10hA1, _⟩ := two_cells KD.out.hA
        obtain ⟨q10hB0, q10hB1, _⟩ := two_cells KD.out.hB
        go_wp2_with fail
        refine (applyA_is m a capa ga xs t ht64 _ (KD.out.fat HFA.out) (KD.out.tabs HT.out) 0 AX1.out x AX2.out la HLA.out).mono ?_
        rintro e v11 ⟨rfl, hb11⟩
        have K11 := Lib.hid (KD.out.call hb11)
        clear hb11
        clear q10hA0 q10hA1 q10hB0 q10hB1
        obtain ⟨q11hA0, q11hA1, _⟩ := two_cells K11.out.hA
        obtain ⟨q11hB0, q11hB1, _⟩ := two_cells K11.out.hB
        go_wp2_with fail
        refine (applyA_is m b capb gb ys x hx64 _ (K11.out.fat HFB.out) (K11.out.tabs HT.out) 0 AY1.out y AY2.out lb HLB.out).mono ?_
        rintro e v12 ⟨rfl, hb12⟩
        have K12 := Lib.hid (K11.out.call hb12)
        clear hb12
        clear q11hA0 q11hA1 q11hB0 q11hB1
        obtain ⟨q12hA0, q12hA1, _⟩ := two_cells K12.out.hA
        obtain ⟨q12hB0, q12hB1, _⟩ := two_cells K12.out.hB
        go_wp2_with fail
        refine (extend_is m a b capa capb ga gb xs ys _ (K12.out.fat HFA.out) (K12.out.fat HFB.out) (K12.out.tabs HT.out) eg HEG.out ev HEV.out la lb HLA.out HLB.out).mono ?_
        rintro e v13 ⟨a13, c13, rfl, hr13, hf13, hb13⟩
        unfold fval
        rw [HLE.out]
        have K13 := Lib.hid (K12.out.call hb13)
        have FR13 := Lib.hid (GE.out.fat hr13)
        clear hr13 hf13 hb13
        clear q12hA0 q12hA1 q12hB0 q12hB1
        obtain ⟨q13hA0, q13hA1, _⟩ := two_cells K13.out.hA
        obtain ⟨q13hB0, q13hB1, _⟩ := two_cells K13.out.hB
        go_wp2_with fail
        refine (applyA_is m a13 c13 eg ev t ht64 _ FR13.out (K13.out.tabs HT.out) 0 AE1.out y AE2.out le HLE.out).mono ?_
        rintro e v14 ⟨rfl, hb14⟩
        have K14 := Lib.hid (K13.out.call hb14)
        clear hb14
        clear q13hA0 q13hA1 q13hB0 q13hB1
        obtain ⟨q14hA0, q14hA1, _⟩ := two_cells K14.out.hA
        obtain ⟨q14hB0, q14hB1, _⟩ := two_cells K14.out.hB
        go_wp2_with fail
        refine (applyA_is m b capb gb ys t ht64 _ (K14.out.fat HFB.out) (K14.out.tabs HT.out) 0 AU1.out u AU2.out lb HLB.out).mono ?_
        rintro e v15 ⟨rfl, hb15⟩
        have K15 := Lib.hid (K14.out.call hb15)
        clear hb15
        clear q14hA0 q14hA1 q14hB0 q14hB1
        obtain ⟨q15hA0, q15hA1, _⟩ := two_cells K15.out.hA
        obtain ⟨q15hB0, q15hB1, _⟩ := two_cells K15.out.hB
        go_wp2_with fail
        refine (combine_is m a b capa capb ga gb xs ys _ (K15.out.fat HFA.out) (K15.out.fat HFB.out) cg HCG.out cv HCV.out la lb HLA.out HLB.out).mono ?_
        rintro e v16 ⟨a16, c16, rfl, hr16, hf16, hb16⟩
        unfold fval
        rw [HLC.out]
        have K16 := Lib.hid (K15.out.call hb16)
        have FR16 := Lib.hid (GC.out.fat hr16)
        clear hr16 hf16 hb16
        clear q15hA0 q15hA1 q15hB0 q15hB1
        obtain ⟨q16hA0, q16hA1, _⟩ := two_cells K16.out.hA
        obtain ⟨q16hB0, q16hB1, _⟩ := two_cells K16.out.hB
        go_wp2_with fail
        refine (applyA_is m a16 c16 cg cv t ht64 _ FR16.out (K16.out.tabs HT.out) 0 AC1.out v AC2.out lc HLC.out).mono ?_
        rintro e v17 ⟨rfl, hb17⟩
        have K17 := Lib.hid (K16.out.call hb17)
        clear hb17
        clear q16hA0 q16hA1 q16hB0 q16hB1
        obtain ⟨q17hA0, q17hA1, _⟩ := two_cells K17.out.hA
        obtain ⟨q17hB0, q17hB1, _⟩ := two_cells K17.out.hB
        go_wp2_with fail
        refine (alive_any _ (K17.out.tabs HT.out)).mono ?_
        rintro e v18 ⟨rfl, hb18⟩
        have K18 := Lib.hid (K17.out.call hb18)
        clear hb18
        go_wp2
        go_ret
        exact ⟨rfl, K18.out.below⟩
end Go.Proofs.YtdaijibkafepcaaDoor
