/-
  THE FACTS LAYER: the law FactsRing's walk.
-/
import Derived.Test.YtdaijibkafepcaaDoorFactsAg
import Derived.Deep.DeepCutAuto
import Derived.Deep.CutRange
import Derived.Deep.RegionHeld3
namespace Go.Proofs.YtdaijibkafepcaaDoor
open Go.RowKit
set_option linter.unusedVariables false
set_option maxRecDepth 100000 in
set_option maxHeartbeats 8000000 in
theorem factsRing_walk (n : Int) (ga : Nat) (a : Option Addr) (la0 capa : Nat) (xs0 : List Nat) (gb : Nat) (b : Option Addr) (lb0 capb : Nat) (ys0 : List Nat) (gc : Nat) (c : Option Addr) (lc0 capc : Nat) (zs0 : List Nat) (w : World) (hn : (Lit.int .i64 n).wf = true) (ha : IsF w ga a la0 capa xs0) (hb : IsF w gb b lb0 capb ys0) (hc : IsF w gc c lc0 capc zs0) (ht : TabC w) :
    Calls Tryd.prog 11 #[.int .i64 n, .agg #[.int .u64 (ga : Int), .slice a la0 capa], .agg #[.int .u64 (gb : Int), .slice b lb0 capb], .agg #[.int .u64 (gc : Int), .slice c lc0 capc]] w fun e w' => e = .returned (.bool true) ∧ Below w.heap.size w w' := by
  have HFA := Lib.hid ha.fat; have HFB := Lib.hid hb.fat; have HFC := Lib.hid hc.fat
  obtain ⟨xs, hxs⟩ : ∃ r, xs0.take 100 = r := ⟨_, rfl⟩
  rw [hxs] at HFA
  obtain ⟨ys, hys⟩ : ∃ r, ys0.take 100 = r := ⟨_, rfl⟩
  rw [hys] at HFB
  obtain ⟨zs, hzs⟩ : ∃ r, zs0.take 100 = r := ⟨_, rfl⟩
  rw [hzs] at HFC
  obtain ⟨la, hla⟩ : ∃ l, min 100 la0 = l := ⟨_, rfl⟩
  have HLA : Hid (xs.length = la) := by show _ = _; rw [← hxs, ← hla]; exact ha.cutlen
  have CUTA : Hid (∀ W : World, Calls Tryd.prog 36 #[.agg #[.int .u64 (ga : Int), .slice a la0 capa]] W fun e w' => e = .returned (.agg #[.int .u64 (ga : Int), .slice a la capa]) ∧ Below W.heap.size W w') := fun W => cut_is ga a la0 capa ha.hcap ha.some_ la hla W
  obtain ⟨lb, hlb⟩ : ∃ l, min 100 lb0 = l := ⟨_, rfl⟩
  have HLB : Hid (ys.length = lb) := by show _ = _; rw [← hys, ← hlb]; exact hb.cutlen
  have CUTB : Hid (∀ W : World, Calls Tryd.prog 36 #[.agg #[.int .u64 (gb : Int), .slice b lb0 capb]] W fun e w' => e = .returned (.agg #[.int .u64 (gb : Int), .slice b lb capb]) ∧ Below W.heap.size W w') := fun W => cut_is gb b lb0 capb hb.hcap hb.some_ lb hlb W
  obtain ⟨lc, hlc⟩ : ∃ l, min 100 lc0 = l := ⟨_, rfl⟩
  have HLC : Hid (zs.length = lc) := by show _ = _; rw [← hzs, ← hlc]; exact hc.cutlen
  have CUTC : Hid (∀ W : World, Calls Tryd.prog 36 #[.agg #[.int .u64 (gc : Int), .slice c lc0 capc]] W fun e w' => e = .returned (.agg #[.int .u64 (gc : Int), .slice c lc capc]) ∧ Below W.heap.size W w') := fun W => cut_is gc c lc0 capc hc.hcap hc.some_ lc hlc W
  have HT := Lib.hid ht
  obtain ⟨t0, t1, t2⟩ := three_boxes w #[.int .u64 (ga : Int), .slice a la0 capa] #[.int .u64 (gb : Int), .slice b lb0 capb] #[.int .u64 (gc : Int), .slice c lc0 capc] 55
  obtain ⟨W0, hW0⟩ : ∃ W, ((w.alloc (.cells #[.int .u64 (ga : Int), .slice a la0 capa] 55)).alloc (.cells #[.int .u64 (gb : Int), .slice b lb0 capb] 55)).alloc (.cells #[.int .u64 (gc : Int), .slice c lc0 capc] 55) = W := ⟨_, rfl⟩
  have K00 : Hid (Keep3 w W0 (w.heap.size) (w.heap.size + 1) (w.heap.size + 1 + 1) #[.int .u64 (ga : Int), .slice a la0 capa] #[.int .u64 (gb : Int), .slice b lb0 capb] #[.int .u64 (gc : Int), .slice c lc0 capc]) := by
    rw [← hW0]
    exact ⟨t0, t1, t2, (((Below.refl _ _).alloc (Nat.le_refl _) _).alloc (by simp) _).alloc (by simp; omega) _⟩
  obtain ⟨x0, x1, _⟩ := two_cells K00.out.hA
  obtain ⟨y0, y1, _⟩ := two_cells K00.out.hB
  obtain ⟨z0, z1, _⟩ := two_cells K00.out.hC
  obtain ⟨gd, hgd⟩ : ∃ r, (([⟨ga, a, la, capa, xs⟩, ⟨gb, b, lb, capb, ys⟩, ⟨gc, c, lc, capc, zs⟩] : List FItem).all fun f => decide (checkE n f.g f.rows = 0)) = r := ⟨_, rfl⟩
  have HGD := Lib.hid hgd
  clear ha hb hc ht hxs hys hzs hla hlb hlc hn t0 t1 t2 hgd
  go_enter Tryd.func11, Tryd.ntmps11
  go_upto_region 1 with fail
  go_cut [8] from 11 to 16 (fun r wx => r = .bool false ∧ Hid (Keep3 w wx (w.heap.size) (w.heap.size + 1) (w.heap.size + 1 + 1) #[.int .u64 (ga : Int), .slice a la capa] #[.int .u64 (gb : Int), .slice b lb capb] #[.int .u64 (gc : Int), .slice c lc capc]))
  case first =>
    go_region_with (first | (go_at_call 36; with_reducible refine (CUTA.out _).mono ?_; rintro e wA ⟨rfl, hbA⟩; have KA := Lib.hid (Keep3.call K00.out.drew hbA); obtain ⟨b0, b1, _⟩ := two_cells KA.out.hB; obtain ⟨b2, b3, _⟩ := two_cells KA.out.hC) | (go_at_call 36; with_reducible refine (CUTB.out _).mono ?_; rintro e wB ⟨rfl, hbB⟩; have KB := Lib.hid (KA.out.call hbB); obtain ⟨b4, b5, _⟩ := two_cells KB.out.hC) | (go_at_call 36; with_reducible refine (CUTC.out _).mono ?_; rintro e wC ⟨rfl, hbC⟩; have KC := Lib.hid (KB.out.call hbC); obtain ⟨p0, p1, pf⟩ := two_cells KC.out.hA; have pf0 := pf 0; have pf1 := pf 1; clear pf; have SB := Lib.hid (heap_other (B := w.heap.size) (j := 1) (c := .slice a la capa) (heap_other (B := w.heap.size) (j := 0) (c := .int .u64 (ga : Int)) KC.out.hB (by omega)) (by omega)); obtain ⟨q0, q1, qf⟩ := two_cells SB.out; have qf0 := qf 0; have qf1 := qf 1; clear qf; have SC := Lib.hid (heap_other (B := w.heap.size + 1) (j := 1) (c := .slice b lb capb) (heap_other (B := w.heap.size + 1) (j := 0) (c := .int .u64 (gb : Int)) (heap_other (B := w.heap.size) (j := 1) (c := .slice a la capa) (heap_other (B := w.heap.size) (j := 0) (c := .int .u64 (ga : Int)) KC.out.hC (by omega)) (by omega)) (by omega)) (by omega)); obtain ⟨r0, r1, rf⟩ := two_cells SC.out; have rf0 := rf 0; have rf1 := rf 1; clear rf))
    all_goals (go_wp2_with fail; go_meet; exact ⟨rfl, cut_three KC.out⟩)
  case rest =>
    obtain ⟨rfl, K⟩ := hcut
    obtain ⟨q0hA0, q0hA1, _⟩ := two_cells K.out.hA
    obtain ⟨q0hB0, q0hB1, _⟩ := two_cells K.out.hB
    obtain ⟨q0hC0, q0hC1, _⟩ := two_cells K.out.hC
    obtain ⟨W0b, hW0b⟩ : ∃ W, wc.alloc (.cells #[.int .u64 (ga : Int), .slice a la capa, .int .u64 (gb : Int), .slice b lb capb, .int .u64 (gc : Int), .slice c lc capc] 55) = W := ⟨_, rfl⟩
    have KB0 := Lib.hid (K.out.alloc (.cells #[.int .u64 (ga : Int), .slice a la capa, .int .u64 (gb : Int), .slice b lb capb, .int .u64 (gc : Int), .slice c lc capc] 55))
    have BX := Lib.hid (heapV_new wc (.cells #[.int .u64 (ga : Int), .slice a la capa, .int .u64 (gb : Int), .slice b lb capb, .int .u64 (gc : Int), .slice c lc capc] 55))
    rw [hW0b] at KB0 BX
    have IT := Lib.hid (items3 (f0 := ⟨ga, a, la, capa, xs⟩) (f1 := ⟨gb, b, lb, capb, ys⟩) (f2 := ⟨gc, c, lc, capc, zs⟩) BX.out ⟨KB0.out.fat HFA.out, HLA.out⟩ ⟨KB0.out.fat HFB.out, HLB.out⟩ ⟨KB0.out.fat HFC.out, HLC.out⟩)
    cases gd
    · go_wp2_with fail
      refine (good_is n wc.heap.size 0 3 3 [⟨ga, a, la, capa, xs⟩, ⟨gb, b, lb, capb, ys⟩, ⟨gc, c, lc, capc, zs⟩] rfl (by omega) _ IT.out false HGD.out).mono ?_
      rintro e v0 ⟨rfl, hb0⟩
      have KD := Lib.hid (KB0.out.call hb0)
      go_wp2_with fail
      refine (alive_any _ (KD.out.tabs HT.out)).mono ?_
      rintro e v1 ⟨rfl, hb1⟩
      go_wp2
      go_ret
      exact ⟨rfl, (KD.out.call hb1).below⟩
    · have hgo := HGD.out
      rw [List.all_eq_true] at hgo
      have hca : checkE n ga xs = 0 := by simpa using hgo _ (List.mem_cons_self)
      have hcb : checkE n gb ys = 0 := by simpa using hgo _ (List.mem_cons_of_mem _ List.mem_cons_self)
      have hcc : checkE n gc zs = 0 := by simpa using hgo _ (List.mem_cons_of_mem _ (List.mem_cons_of_mem _ List.mem_cons_self))
      obtain ⟨m, rfl, ga_⟩ := check_good HFA.out.gen HFA.out.all hca
      obtain ⟨m2, hm2, gb_⟩ := check_good HFB.out.gen HFB.out.all hcb
      obtain rfl : m = m2 := by omega
      obtain ⟨m3, hm3, gc_⟩ := check_good HFC.out.gen HFC.out.all hcc
      obtain rfl : m = m3 := by omega
      obtain ⟨rone, hrone⟩ : ∃ r, onesL m = r := ⟨_, rfl⟩
      obtain ⟨gone, hgone⟩ : ∃ g : Nat, 0 = g := ⟨_, rfl⟩
      have G_one : Good m gone rone := by rw [← hrone, ← hgone]; exact ones_good ga_.hm
      obtain ⟨lone, hlone⟩ : ∃ l, rone.length = l := ⟨_, rfl⟩
      obtain ⟨gab, hgab⟩ : ∃ g, combG m ga xs gb ys = g := ⟨_, rfl⟩
      obtain ⟨rab, hrab⟩ : ∃ g, combV m ga xs gb ys = g := ⟨_, rfl⟩
      have G_ab : Good m gab rab := by rw [← hgab, ← hrab]; exact Good.combT ga_ gb_
      obtain ⟨lab, hlab⟩ : ∃ l, rab.length = l := ⟨_, rfl⟩
      obtain ⟨gbc, hgbc⟩ : ∃ g, combG m gb ys gc zs = g := ⟨_, rfl⟩
      obtain ⟨rbc, hrbc⟩ : ∃ g, combV m gb ys gc zs = g := ⟨_, rfl⟩
      have G_bc : Good m gbc rbc := by rw [← hgbc, ← hrbc]; exact Good.combT gb_ gc_
      obtain ⟨lbc, hlbc⟩ : ∃ l, rbc.length = l := ⟨_, rfl⟩
      obtain ⟨gabc, hgabc⟩ : ∃ g, combG m gab rab gc zs = g := ⟨_, rfl⟩
      obtain ⟨rabc, hrabc⟩ : ∃ g, combV m gab rab gc zs = g := ⟨_, rfl⟩
      have G_abc : Good m gabc rabc := by rw [← hgabc, ← hrabc]; exact Good.combT G_ab gc_
      obtain ⟨labc, hlabc⟩ : ∃ l, rabc.length = l := ⟨_, rfl⟩
      obtain ⟨geab, hgeab⟩ : ∃ g, extG m ga xs gb ys = g := ⟨_, rfl⟩
      obtain ⟨reab, hreab⟩ : ∃ g, extV m ga xs gb ys = g := ⟨_, rfl⟩
      have G_eab : Good m geab reab := by rw [← hgeab, ← hreab]; exact Good.extT ga_ gb_
      obtain ⟨leab, hleab⟩ : ∃ l, reab.length = l := ⟨_, rfl⟩
      obtain ⟨gebc, hgebc⟩ : ∃ g, extG m gb ys gc zs = g := ⟨_, rfl⟩
      obtain ⟨rebc, hrebc⟩ : ∃ g, extV m gb ys gc zs = g := ⟨_, rfl⟩
      have G_ebc : Good m gebc rebc := by rw [← hgebc, ← hrebc]; exact Good.extT gb_ gc_
      obtain ⟨lebc, hlebc⟩ : ∃ l, rebc.length = l := ⟨_, rfl⟩
      obtain ⟨geabc, hgeabc⟩ : ∃ g, extG m geab reab gc zs = g := ⟨_, rfl⟩
      obtain ⟨reabc, hreabc⟩ : ∃ g, extV m geab reab gc zs = g := ⟨_, rfl⟩
      have G_eabc : Good m geabc reabc := by rw [← hgeabc, ← hreabc]; exact Good.extT G_eab gc_
      obtain ⟨leabc, hleabc⟩ : ∃ l, reabc.length = l := ⟨_, rfl⟩
      obtain ⟨geac, hgeac⟩ : ∃ g, extG m ga xs gc zs = g := ⟨_, rfl⟩
      obtain ⟨reac, hreac⟩ : ∃ g, extV m ga xs gc zs = g := ⟨_, rfl⟩
      have G_eac : Good m geac reac := by rw [← hgeac, ← hreac]; exact Good.extT ga_ gc_
      obtain ⟨leac, hleac⟩ : ∃ l, reac.length = l := ⟨_, rfl⟩
      obtain ⟨gL, hgL⟩ : ∃ g, extG m ga xs gbc rbc = g := ⟨_, rfl⟩
      obtain ⟨rL, hrL⟩ : ∃ g, extV m ga xs gbc rbc = g := ⟨_, rfl⟩
      have G_L : Good m gL rL := by rw [← hgL, ← hrL]; exact Good.extT ga_ G_bc
      obtain ⟨lL, hlL⟩ : ∃ l, rL.length = l := ⟨_, rfl⟩
      obtain ⟨gR, hgR⟩ : ∃ g, extG m gab rab gc zs = g := ⟨_, rfl⟩
      obtain ⟨rR, hrR⟩ : ∃ g, extV m gab rab gc zs = g := ⟨_, rfl⟩
      have G_R : Good m gR rR := by rw [← hgR, ← hrR]; exact Good.extT G_ab gc_
      obtain ⟨lR, hlR⟩ : ∃ l, rR.length = l := ⟨_, rfl⟩
      have qsba : combG m gb ys ga xs = gab ∧ combV m gb ys ga xs = rab := by
        have := ring_comm ga_ gb_; rw [hgab, hrab] at this; exact ⟨this.1.symm, this.2.symm⟩
      have qsaa : combG m ga xs ga xs = ga ∧ combV m ga xs ga xs = xs := by
        exact ring_idem ga_
      have qsabc : combG m ga xs gbc rbc = gabc ∧ combV m ga xs gbc rbc = rabc := by
        have := ring_assoc ga_ gb_ gc_; rw [hgab, hrab, hgbc, hrbc, hgabc, hrabc] at this; exact ⟨this.1.symm, this.2.symm⟩
      have qtaebc : extG m ga xs gebc rebc = geabc ∧ extV m ga xs gebc rebc = reabc := by
        have := ring_then ga_ gb_ gc_; rw [hgeab, hreab, hgebc, hrebc, hgeabc, hreabc] at this; exact ⟨this.1.symm, this.2.symm⟩
      have qtonea : extG m gone rone ga xs = ga ∧ extV m gone rone ga xs = xs := by
        rw [← hgone, ← hrone]; exact ring_oneL ga_
      have qtaone : extG m ga xs gone rone = ga ∧ extV m ga xs gone rone = xs := by
        rw [← hgone, ← hrone]; exact ring_oneR ga_
      have qseabeac : combG m geab reab geac reac = gL ∧ combV m geab reab geac reac = rL := by
        have := ring_left ga_ gb_ gc_; rw [hgbc, hrbc, hgeab, hreab, hgeac, hreac, hgL, hrL] at this; exact ⟨this.1.symm, this.2.symm⟩
      have qseacebc : combG m geac reac gebc rebc = gR ∧ combV m geac reac gebc rebc = rR := by
        have := ring_right ga_ gb_ gc_; rw [hgab, hrab, hgebc, hrebc, hgeac, hreac, hgR, hrR] at this; exact ⟨this.1.symm, this.2.symm⟩
      have E1sa_b := Lib.hid hgab; have E2sa_b := Lib.hid hrab
      have E1sb_c := Lib.hid hgbc; have E2sb_c := Lib.hid hrbc
      have E1sab_c := Lib.hid hgabc; have E2sab_c := Lib.hid hrabc
      have E1ta_b := Lib.hid hgeab; have E2ta_b := Lib.hid hreab
      have E1tb_c := Lib.hid hgebc; have E2tb_c := Lib.hid hrebc
      have E1teab_c := Lib.hid hgeabc; have E2teab_c := Lib.hid hreabc
      have E1ta_c := Lib.hid hgeac; have E2ta_c := Lib.hid hreac
      have E1ta_bc := Lib.hid hgL; have E2ta_bc := Lib.hid hrL
      have E1tab_c := Lib.hid hgR; have E2tab_c := Lib.hid hrR
      have E1sb_a := Lib.hid qsba.1; have E2sb_a := Lib.hid qsba.2
      have E1sa_a := Lib.hid qsaa.1; have E2sa_a := Lib.hid qsaa.2
      have E1sa_bc := Lib.hid qsabc.1; have E2sa_bc := Lib.hid qsabc.2
      have E1ta_ebc := Lib.hid qtaebc.1; have E2ta_ebc := Lib.hid qtaebc.2
      have E1tone_a := Lib.hid qtonea.1; have E2tone_a := Lib.hid qtonea.2
      have E1ta_one := Lib.hid qtaone.1; have E2ta_one := Lib.hid qtaone.2
      have E1seab_eac := Lib.hid qseabeac.1; have E2seab_eac := Lib.hid qseabeac.2
      have E1seac_ebc := Lib.hid qseacebc.1; have E2seac_ebc := Lib.hid qseacebc.2
      have HGone := Lib.hid G_one; have HLone := Lib.hid hlone; have h100one : Hid (rone.length ≤ 100) := by show _ ≤ _; rw [G_one.hl]; have := G_one.hm; omega
      have HGab := Lib.hid G_ab; have HLab := Lib.hid hlab; have h100ab : Hid (rab.length ≤ 100) := by show _ ≤ _; rw [G_ab.hl]; have := G_ab.hm; omega
      have HGbc := Lib.hid G_bc; have HLbc := Lib.hid hlbc; have h100bc : Hid (rbc.length ≤ 100) := by show _ ≤ _; rw [G_bc.hl]; have := G_bc.hm; omega
      have HGabc := Lib.hid G_abc; have HLabc := Lib.hid hlabc; have h100abc : Hid (rabc.length ≤ 100) := by show _ ≤ _; rw [G_abc.hl]; have := G_abc.hm; omega
      have HGeab := Lib.hid G_eab; have HLeab := Lib.hid hleab; have h100eab : Hid (reab.length ≤ 100) := by show _ ≤ _; rw [G_eab.hl]; have := G_eab.hm; omega
      have HGebc := Lib.hid G_ebc; have HLebc := Lib.hid hlebc; have h100ebc : Hid (rebc.length ≤ 100) := by show _ ≤ _; rw [G_ebc.hl]; have := G_ebc.hm; omega
      have HGeabc := Lib.hid G_eabc; have HLeabc := Lib.hid hleabc; have h100eabc : Hid (reabc.length ≤ 100) := by show _ ≤ _; rw [G_eabc.hl]; have := G_eabc.hm; omega
      have HGeac := Lib.hid G_eac; have HLeac := Lib.hid hleac; have h100eac : Hid (reac.length ≤ 100) := by show _ ≤ _; rw [G_eac.hl]; have := G_eac.hm; omega
      have HGL := Lib.hid G_L; have HLL := Lib.hid hlL; have h100L : Hid (rL.length ≤ 100) := by show _ ≤ _; rw [G_L.hl]; have := G_L.hm; omega
      have HGR := Lib.hid G_R; have HLR := Lib.hid hlR; have h100R : Hid (rR.length ≤ 100) := by show _ ≤ _; rw [G_R.hl]; have := G_R.hm; omega
      have ONE : Hid (∀ W : World, Calls Tryd.prog 39 #[.int .i64 m] W (FRet gone rone 0 W)) := fun W => by rw [← hgone]; exact (oneA_is m W 0 (one_good ga_.hm).1 rone ((one_good ga_.hm).2.trans hrone)).mono fun _ _ h => FOwn.ret h
      clear hgo hca hcb hcc hm2 hm3 ga_ gb_ gc_ hrone hgone hlone G_one hgab hrab hlab G_ab hgbc hrbc hlbc G_bc hgabc hrabc hlabc G_abc hgeab hreab hleab G_eab hgebc hrebc hlebc G_ebc hgeabc hreabc hleabc G_eabc hgeac hreac hleac G_eac hgL hrL hlL G_L hgR hrR hlR G_R qsba qsaa qsabc qtaebc qtonea qtaone qseabeac qseacebc
      go_wp2_with fail
      refine (good_is m wc.heap.size 0 3 3 [⟨ga, a, la, capa, xs⟩, ⟨gb, b, lb, capb, ys⟩, ⟨gc, c, lc, capc, zs⟩] rfl (by omega) _ IT.out true HGD.out).mono ?_
      rintro e v0 ⟨rfl, hb0⟩
      have KD := Lib.hid (KB0.out.call hb0)
      clear q0hA0 q0hA1 q0hB0 q0hB1 q0hC0 q0hC1
      obtain ⟨q10hA0, q10hA1, _⟩ := two_cells KD.out.hA
      obtain ⟨q10hB0, q10hB1, _⟩ := two_cells KD.out.hB
      obtain ⟨q10hC0, q10hC1, _⟩ := two_cells KD.out.hC
      go_wp2_with fail
      refine (ONE.out _).mono ?_
      rintro e v11 ⟨a11, c11, rfl, hr11, hf11, hb11⟩
      rw [HLone.out]
      obtain ⟨W11, hW11⟩ : ∃ W, v11.alloc (.cells #[.int .u64 (gone : Int), .slice a11 lone c11] 55) = W := ⟨_, rfl⟩
      have K11 := Lib.hid (KD.out.grow hb11 (.cells #[.int .u64 (gone : Int), .slice a11 lone c11] 55))
      have G11 : Hid (Got (v11.alloc (.cells #[.int .u64 (gone : Int), .slice a11 lone c11] 55)) v11.heap.size gone a11 lone c11 rone) := Got.new hr11
      rw [hW11] at K11 G11 
      clear hr11 hf11 hb11
      have ENV : Hid (∀ wr : World, Below W11.heap.size W11 wr → wr.cell? ⟨w.heap.size, 0, none⟩ = some (.int .u64 (ga : Int)) ∧ wr.cell? ⟨w.heap.size, 1, none⟩ = some (.slice a la capa) ∧ wr.cell? ⟨w.heap.size + 1, 0, none⟩ = some (.int .u64 (gb : Int)) ∧ wr.cell? ⟨w.heap.size + 1, 1, none⟩ = some (.slice b lb capb) ∧ wr.cell? ⟨w.heap.size + 1 + 1, 0, none⟩ = some (.int .u64 (gc : Int)) ∧ wr.cell? ⟨w.heap.size + 1 + 1, 1, none⟩ = some (.slice c lc capc) ∧ wr.cell? ⟨v11.heap.size, 0, none⟩ = some (.int .u64 (gone : Int)) ∧ wr.cell? ⟨v11.heap.size, 1, none⟩ = some (.slice a11 lone c11)) := fun wr hb => ⟨(two_cells (heap_old K11.out.hA hb)).1, (two_cells (heap_old K11.out.hA hb)).2.1, (two_cells (heap_old K11.out.hB hb)).1, (two_cells (heap_old K11.out.hB hb)).2.1, (two_cells (heap_old K11.out.hC hb)).1, (two_cells (heap_old K11.out.hC hb)).2.1, (two_cells (heap_old G11.out.box hb)).1, (two_cells (heap_old G11.out.box hb)).2.1⟩
      have FA : Hid (∀ wr : World, Below W11.heap.size W11 wr → FAt wr a ga xs) := fun wr hb => (K11.out.fat HFA.out).below hb
      have FB : Hid (∀ wr : World, Below W11.heap.size W11 wr → FAt wr b gb ys) := fun wr hb => (K11.out.fat HFB.out).below hb
      have FC : Hid (∀ wr : World, Below W11.heap.size W11 wr → FAt wr c gc zs) := fun wr hb => (K11.out.fat HFC.out).below hb
      have FO : Hid (∀ wr : World, Below W11.heap.size W11 wr → FAt wr a11 gone rone) := fun wr hb => good_fat HGone.out (VRow.below G11.out.row hb)
      have AL : Hid (∀ wr : World, Below W11.heap.size W11 wr → Calls Tryd.prog 47 #[] wr (fun e w' => e = .returned (.bool true) ∧ Below wr.heap.size wr w')) := fun wr hb => alive_any wr ((K11.out.tabs HT.out).below hb)
      have TB : Hid (∀ wr : World, Below W11.heap.size W11 wr → TabC wr) := fun wr hb => (K11.out.tabs HT.out).below hb
      clear q10hA0 q10hA1 q10hB0 q10hB1 q10hC0 q10hC1
      obtain ⟨m0, m1, m2, m3, m4, m5, m6, m7⟩ := ENV.out _ (Below.refl _ _)
      have D0 : Hid (Below W11.heap.size W11 W11.drew) := (Below.refl _ _).drew
      go_wp2_with fail
      go_region_held3 (fun w' => w'.cell? ⟨w.heap.size, 0, none⟩ = some (.int .u64 (ga : Int)) ∧ w'.cell? ⟨w.heap.size, 1, none⟩ = some (.slice a la capa) ∧ w'.cell? ⟨w.heap.size + 1, 0, none⟩ = some (.int .u64 (gb : Int)) ∧ w'.cell? ⟨w.heap.size + 1, 1, none⟩ = some (.slice b lb capb) ∧ w'.cell? ⟨w.heap.size + 1 + 1, 0, none⟩ = some (.int .u64 (gc : Int)) ∧ w'.cell? ⟨w.heap.size + 1 + 1, 1, none⟩ = some (.slice c lc capc) ∧ w'.cell? ⟨v11.heap.size, 0, none⟩ = some (.int .u64 (gone : Int)) ∧ w'.cell? ⟨v11.heap.size, 1, none⟩ = some (.slice a11 lone c11))
        (first | exact ENV.out _ D0.out | exact ENV.out _ D1.out | exact ENV.out _ D2.out | exact ENV.out _ D3.out | exact ENV.out _ D4.out | exact ENV.out _ D5.out | exact ENV.out _ D6.out | exact ENV.out _ D7.out | exact ENV.out _ D8.out | exact ENV.out _ D9.out | exact ENV.out _ D10.out | exact ENV.out _ (Below.refl _ _) | fail)
        (first | (go_at_call 57; with_reducible refine (combine_ag m a b capa capb ga gb xs ys _ (FA.out _ D0.out) (FB.out _ D0.out) gab E1sa_b.out rab E2sa_b.out la lb lab HLA.out HLB.out HLab.out).mono ?_; rintro e x1 ⟨a1_, c1_, rfl, hr1, hx1⟩; have D1 := Lib.hid (D0.out.trans (hx1.mono D0.out.size)); have VR1 := Lib.hid hr1; clear hr1 hx1) | (go_at_call 57; with_reducible refine (combine_ag m b a capb capa gb ga ys xs _ (FB.out _ D1.out) (FA.out _ D1.out) gab E1sb_a.out rab E2sb_a.out lb la lab HLB.out HLA.out HLab.out).mono ?_; rintro e x2 ⟨a2_, c2_, rfl, hr2, hx2⟩; have D2 := Lib.hid (D1.out.trans (hx2.mono D1.out.size)); have VR1 := Lib.hid (row_later VR1.out hx2); have VR2 := Lib.hid hr2; clear hr2 hx2) | (go_at_call 45; with_reducible refine (same_ag a1_ a2_ c1_ c2_ gab lab rab _ h100ab.out VR1.out VR2.out HLab.out).mono ?_; rintro e x3 ⟨rfl, hx3⟩; have D3 := Lib.hid (D2.out.trans (hx3.mono D2.out.size)); clear hx3) | (go_at_call 57; with_reducible refine (combine_ag m a a capa capa ga ga xs xs _ (FA.out _ D3.out) (FA.out _ D3.out) ga E1sa_a.out xs E2sa_a.out la la la HLA.out HLA.out HLA.out).mono ?_; rintro e x4 ⟨a4_, c4_, rfl, hr4, hx4⟩; have D4 := Lib.hid (D3.out.trans (hx4.mono D3.out.size)); have VR4 := Lib.hid hr4; clear hr4 hx4) | (go_at_call 45; with_reducible refine (same_ag a4_ a c4_ capa ga la xs _ (FA.out _ D4.out).len VR4.out (FA.out _ D4.out).row HLA.out).mono ?_; rintro e x5 ⟨rfl, hx5⟩; have D5 := Lib.hid (D4.out.trans (hx5.mono D4.out.size)); clear hx5) | (go_at_call 57; with_reducible refine (combine_ag m a b capa capb ga gb xs ys _ (FA.out _ D5.out) (FB.out _ D5.out) gab E1sa_b.out rab E2sa_b.out la lb lab HLA.out HLB.out HLab.out).mono ?_; rintro e x6 ⟨a6_, c6_, rfl, hr6, hx6⟩; have D6 := Lib.hid (D5.out.trans (hx6.mono D5.out.size)); have VR6 := Lib.hid hr6; clear hr6 hx6) | (go_at_call 57; with_reducible refine (combine_ag m a6_ c c6_ capc gab gc rab zs _ (good_fat HGab.out VR6.out) (FC.out _ D6.out) gabc E1sab_c.out rabc E2sab_c.out lab lc labc HLab.out HLC.out HLabc.out).mono ?_; rintro e x7 ⟨a7_, c7_, rfl, hr7, hx7⟩; have D7 := Lib.hid (D6.out.trans (hx7.mono D6.out.size)); have VR7 := Lib.hid hr7; clear hr7 hx7) | (go_at_call 57; with_reducible refine (combine_ag m b c capb capc gb gc ys zs _ (FB.out _ D7.out) (FC.out _ D7.out) gbc E1sb_c.out rbc E2sb_c.out lb lc lbc HLB.out HLC.out HLbc.out).mono ?_; rintro e x8 ⟨a8_, c8_, rfl, hr8, hx8⟩; have D8 := Lib.hid (D7.out.trans (hx8.mono D7.out.size)); have VR7 := Lib.hid (row_later VR7.out hx8); have VR8 := Lib.hid hr8; clear hr8 hx8) | (go_at_call 57; with_reducible refine (combine_ag m a a8_ capa c8_ ga gbc xs rbc _ (FA.out _ D8.out) (good_fat HGbc.out VR8.out) gabc E1sa_bc.out rabc E2sa_bc.out la lbc labc HLA.out HLbc.out HLabc.out).mono ?_; rintro e x9 ⟨a9_, c9_, rfl, hr9, hx9⟩; have D9 := Lib.hid (D8.out.trans (hx9.mono D8.out.size)); have VR7 := Lib.hid (row_later VR7.out hx9); have VR9 := Lib.hid hr9; clear hr9 hx9) | (go_at_call 45; with_reducible refine (same_ag a7_ a9_ c7_ c9_ gabc labc rabc _ h100abc.out VR7.out VR9.out HLabc.out).mono ?_; rintro e x10 ⟨rfl, hx10⟩; have D10 := Lib.hid (D9.out.trans (hx10.mono D9.out.size)); clear hx10) | fail)
      all_goals (have D10d : Hid (Below W11.heap.size W11 x10.drew) := D10.out.drew; clear m0 m1 m2 m3 m4 m5 m6 m7; obtain ⟨m0, m1, m2, m3, m4, m5, m6, m7⟩ := ENV.out _ D10.out; go_wp2_with fail)
      · go_region_held3 (fun w' => w'.cell? ⟨w.heap.size, 0, none⟩ = some (.int .u64 (ga : Int)) ∧ w'.cell? ⟨w.heap.size, 1, none⟩ = some (.slice a la capa) ∧ w'.cell? ⟨w.heap.size + 1, 0, none⟩ = some (.int .u64 (gb : Int)) ∧ w'.cell? ⟨w.heap.size + 1, 1, none⟩ = some (.slice b lb capb) ∧ w'.cell? ⟨w.heap.size + 1 + 1, 0, none⟩ = some (.int .u64 (gc : Int)) ∧ w'.cell? ⟨w.heap.size + 1 + 1, 1, none⟩ = some (.slice c lc capc) ∧ w'.cell? ⟨v11.heap.size, 0, none⟩ = some (.int .u64 (gone : Int)) ∧ w'.cell? ⟨v11.heap.size, 1, none⟩ = some (.slice a11 lone c11))
        (first | exact ENV.out _ D10d.out | exact ENV.out _ D11.out | exact ENV.out _ D12.out | exact ENV.out _ D13.out | exact ENV.out _ D14.out | exact ENV.out _ D15.out | exact ENV.out _ D16.out | exact ENV.out _ D17.out | exact ENV.out _ D18.out | exact ENV.out _ D19.out | exact ENV.out _ (Below.refl _ _) | fail)
        (first | (go_at_call 58; with_reducible refine (extend_ag m a b capa capb ga gb xs ys _ (FA.out _ D10d.out) (FB.out _ D10d.out) (TB.out _ D10d.out) geab E1ta_b.out reab E2ta_b.out la lb leab HLA.out HLB.out HLeab.out).mono ?_; rintro e x11 ⟨a11_, c11_, rfl, hr11, hx11⟩; have D11 := Lib.hid (D10d.out.trans (hx11.mono D10d.out.size)); have VR11 := Lib.hid hr11; clear hr11 hx11) | (go_at_call 58; with_reducible refine (extend_ag m a11_ c c11_ capc geab gc reab zs _ (good_fat HGeab.out VR11.out) (FC.out _ D11.out) (TB.out _ D11.out) geabc E1teab_c.out reabc E2teab_c.out leab lc leabc HLeab.out HLC.out HLeabc.out).mono ?_; rintro e x12 ⟨a12_, c12_, rfl, hr12, hx12⟩; have D12 := Lib.hid (D11.out.trans (hx12.mono D11.out.size)); have VR12 := Lib.hid hr12; clear hr12 hx12) | (go_at_call 58; with_reducible refine (extend_ag m b c capb capc gb gc ys zs _ (FB.out _ D12.out) (FC.out _ D12.out) (TB.out _ D12.out) gebc E1tb_c.out rebc E2tb_c.out lb lc lebc HLB.out HLC.out HLebc.out).mono ?_; rintro e x13 ⟨a13_, c13_, rfl, hr13, hx13⟩; have D13 := Lib.hid (D12.out.trans (hx13.mono D12.out.size)); have VR12 := Lib.hid (row_later VR12.out hx13); have VR13 := Lib.hid hr13; clear hr13 hx13) | (go_at_call 58; with_reducible refine (extend_ag m a a13_ capa c13_ ga gebc xs rebc _ (FA.out _ D13.out) (good_fat HGebc.out VR13.out) (TB.out _ D13.out) geabc E1ta_ebc.out reabc E2ta_ebc.out la lebc leabc HLA.out HLebc.out HLeabc.out).mono ?_; rintro e x14 ⟨a14_, c14_, rfl, hr14, hx14⟩; have D14 := Lib.hid (D13.out.trans (hx14.mono D13.out.size)); have VR12 := Lib.hid (row_later VR12.out hx14); have VR14 := Lib.hid hr14; clear hr14 hx14) | (go_at_call 45; with_reducible refine (same_ag a12_ a14_ c12_ c14_ geabc leabc reabc _ h100eabc.out VR12.out VR14.out HLeabc.out).mono ?_; rintro e x15 ⟨rfl, hx15⟩; have D15 := Lib.hid (D14.out.trans (hx15.mono D14.out.size)); clear hx15) | (go_at_call 58; with_reducible refine (extend_ag m a11 a c11 capa gone ga rone xs _ (FO.out _ D15.out) (FA.out _ D15.out) (TB.out _ D15.out) ga E1tone_a.out xs E2tone_a.out lone la la HLone.out HLA.out HLA.out).mono ?_; rintro e x16 ⟨a16_, c16_, rfl, hr16, hx16⟩; have D16 := Lib.hid (D15.out.trans (hx16.mono D15.out.size)); have VR16 := Lib.hid hr16; clear hr16 hx16) | (go_at_call 45; with_reducible refine (same_ag a16_ a c16_ capa ga la xs _ (FA.out _ D16.out).len VR16.out (FA.out _ D16.out).row HLA.out).mono ?_; rintro e x17 ⟨rfl, hx17⟩; have D17 := Lib.hid (D16.out.trans (hx17.mono D16.out.size)); clear hx17) | (go_at_call 58; with_reducible refine (extend_ag m a a11 capa c11 ga gone xs rone _ (FA.out _ D17.out) (FO.out _ D17.out) (TB.out _ D17.out) ga E1ta_one.out xs E2ta_one.out la lone la HLA.out HLone.out HLA.out).mono ?_; rintro e x18 ⟨a18_, c18_, rfl, hr18, hx18⟩; have D18 := Lib.hid (D17.out.trans (hx18.mono D17.out.size)); have VR18 := Lib.hid hr18; clear hr18 hx18) | (go_at_call 45; with_reducible refine (same_ag a18_ a c18_ capa ga la xs _ (FA.out _ D18.out).len VR18.out (FA.out _ D18.out).row HLA.out).mono ?_; rintro e x19 ⟨rfl, hx19⟩; have D19 := Lib.hid (D18.out.trans (hx19.mono D18.out.size)); clear hx19) | fail)
        all_goals (have D19d : Hid (Below W11.heap.size W11 x19.drew) := D19.out.drew; clear m0 m1 m2 m3 m4 m5 m6 m7; obtain ⟨m0, m1, m2, m3, m4, m5, m6, m7⟩ := ENV.out _ D19.out; go_wp2_with fail)
        · go_region_held3 (fun w' => w'.cell? ⟨w.heap.size, 0, none⟩ = some (.int .u64 (ga : Int)) ∧ w'.cell? ⟨w.heap.size, 1, none⟩ = some (.slice a la capa) ∧ w'.cell? ⟨w.heap.size + 1, 0, none⟩ = some (.int .u64 (gb : Int)) ∧ w'.cell? ⟨w.heap.size + 1, 1, none⟩ = some (.slice b lb capb) ∧ w'.cell? ⟨w.heap.size + 1 + 1, 0, none⟩ = some (.int .u64 (gc : Int)) ∧ w'.cell? ⟨w.heap.size + 1 + 1, 1, none⟩ = some (.slice c lc capc) ∧ w'.cell? ⟨v11.heap.size, 0, none⟩ = some (.int .u64 (gone : Int)) ∧ w'.cell? ⟨v11.heap.size, 1, none⟩ = some (.slice a11 lone c11))
          (first | exact ENV.out _ D19d.out | exact ENV.out _ D20.out | exact ENV.out _ D21.out | exact ENV.out _ D22.out | exact ENV.out _ D23.out | exact ENV.out _ D24.out | exact ENV.out _ D25.out | exact ENV.out _ D26.out | exact ENV.out _ D27.out | exact ENV.out _ D28.out | exact ENV.out _ D29.out | exact ENV.out _ D30.out | exact ENV.out _ D31.out | exact ENV.out _ D32.out | exact ENV.out _ (Below.refl _ _) | fail)
          (first | (go_at_call 57; with_reducible refine (combine_ag m b c capb capc gb gc ys zs _ (FB.out _ D19d.out) (FC.out _ D19d.out) gbc E1sb_c.out rbc E2sb_c.out lb lc lbc HLB.out HLC.out HLbc.out).mono ?_; rintro e x20 ⟨a20_, c20_, rfl, hr20, hx20⟩; have D20 := Lib.hid (D19d.out.trans (hx20.mono D19d.out.size)); have VR20 := Lib.hid hr20; clear hr20 hx20) | (go_at_call 58; with_reducible refine (extend_ag m a a20_ capa c20_ ga gbc xs rbc _ (FA.out _ D20.out) (good_fat HGbc.out VR20.out) (TB.out _ D20.out) gL E1ta_bc.out rL E2ta_bc.out la lbc lL HLA.out HLbc.out HLL.out).mono ?_; rintro e x21 ⟨a21_, c21_, rfl, hr21, hx21⟩; have D21 := Lib.hid (D20.out.trans (hx21.mono D20.out.size)); have VR21 := Lib.hid hr21; clear hr21 hx21) | (go_at_call 58; with_reducible refine (extend_ag m a b capa capb ga gb xs ys _ (FA.out _ D21.out) (FB.out _ D21.out) (TB.out _ D21.out) geab E1ta_b.out reab E2ta_b.out la lb leab HLA.out HLB.out HLeab.out).mono ?_; rintro e x22 ⟨a22_, c22_, rfl, hr22, hx22⟩; have D22 := Lib.hid (D21.out.trans (hx22.mono D21.out.size)); have VR21 := Lib.hid (row_later VR21.out hx22); have VR22 := Lib.hid hr22; clear hr22 hx22) | (go_at_call 58; with_reducible refine (extend_ag m a c capa capc ga gc xs zs _ (FA.out _ D22.out) (FC.out _ D22.out) (TB.out _ D22.out) geac E1ta_c.out reac E2ta_c.out la lc leac HLA.out HLC.out HLeac.out).mono ?_; rintro e x23 ⟨a23_, c23_, rfl, hr23, hx23⟩; have D23 := Lib.hid (D22.out.trans (hx23.mono D22.out.size)); have VR21 := Lib.hid (row_later VR21.out hx23); have VR22 := Lib.hid (row_later VR22.out hx23); have VR23 := Lib.hid hr23; clear hr23 hx23) | (go_at_call 57; with_reducible refine (combine_ag m a22_ a23_ c22_ c23_ geab geac reab reac _ (good_fat HGeab.out VR22.out) (good_fat HGeac.out VR23.out) gL E1seab_eac.out rL E2seab_eac.out leab leac lL HLeab.out HLeac.out HLL.out).mono ?_; rintro e x24 ⟨a24_, c24_, rfl, hr24, hx24⟩; have D24 := Lib.hid (D23.out.trans (hx24.mono D23.out.size)); have VR21 := Lib.hid (row_later VR21.out hx24); have VR24 := Lib.hid hr24; clear hr24 hx24) | (go_at_call 45; with_reducible refine (same_ag a21_ a24_ c21_ c24_ gL lL rL _ h100L.out VR21.out VR24.out HLL.out).mono ?_; rintro e x25 ⟨rfl, hx25⟩; have D25 := Lib.hid (D24.out.trans (hx25.mono D24.out.size)); clear hx25) | (go_at_call 57; with_reducible refine (combine_ag m a b capa capb ga gb xs ys _ (FA.out _ D25.out) (FB.out _ D25.out) gab E1sa_b.out rab E2sa_b.out la lb lab HLA.out HLB.out HLab.out).mono ?_; rintro e x26 ⟨a26_, c26_, rfl, hr26, hx26⟩; have D26 := Lib.hid (D25.out.trans (hx26.mono D25.out.size)); have VR26 := Lib.hid hr26; clear hr26 hx26) | (go_at_call 58; with_reducible refine (extend_ag m a26_ c c26_ capc gab gc rab zs _ (good_fat HGab.out VR26.out) (FC.out _ D26.out) (TB.out _ D26.out) gR E1tab_c.out rR E2tab_c.out lab lc lR HLab.out HLC.out HLR.out).mono ?_; rintro e x27 ⟨a27_, c27_, rfl, hr27, hx27⟩; have D27 := Lib.hid (D26.out.trans (hx27.mono D26.out.size)); have VR27 := Lib.hid hr27; clear hr27 hx27) | (go_at_call 58; with_reducible refine (extend_ag m a c capa capc ga gc xs zs _ (FA.out _ D27.out) (FC.out _ D27.out) (TB.out _ D27.out) geac E1ta_c.out reac E2ta_c.out la lc leac HLA.out HLC.out HLeac.out).mono ?_; rintro e x28 ⟨a28_, c28_, rfl, hr28, hx28⟩; have D28 := Lib.hid (D27.out.trans (hx28.mono D27.out.size)); have VR27 := Lib.hid (row_later VR27.out hx28); have VR28 := Lib.hid hr28; clear hr28 hx28) | (go_at_call 58; with_reducible refine (extend_ag m b c capb capc gb gc ys zs _ (FB.out _ D28.out) (FC.out _ D28.out) (TB.out _ D28.out) gebc E1tb_c.out rebc E2tb_c.out lb lc lebc HLB.out HLC.out HLebc.out).mono ?_; rintro e x29 ⟨a29_, c29_, rfl, hr29, hx29⟩; have D29 := Lib.hid (D28.out.trans (hx29.mono D28.out.size)); have VR27 := Lib.hid (row_later VR27.out hx29); have VR28 := Lib.hid (row_later VR28.out hx29); have VR29 := Lib.hid hr29; clear hr29 hx29) | (go_at_call 57; with_reducible refine (combine_ag m a28_ a29_ c28_ c29_ geac gebc reac rebc _ (good_fat HGeac.out VR28.out) (good_fat HGebc.out VR29.out) gR E1seac_ebc.out rR E2seac_ebc.out leac lebc lR HLeac.out HLebc.out HLR.out).mono ?_; rintro e x30 ⟨a30_, c30_, rfl, hr30, hx30⟩; have D30 := Lib.hid (D29.out.trans (hx30.mono D29.out.size)); have VR27 := Lib.hid (row_later VR27.out hx30); have VR30 := Lib.hid hr30; clear hr30 hx30) | (go_at_call 45; with_reducible refine (same_ag a27_ a30_ c27_ c30_ gR lR rR _ h100R.out VR27.out VR30.out HLR.out).mono ?_; rintro e x31 ⟨rfl, hx31⟩; have D31 := Lib.hid (D30.out.trans (hx31.mono D30.out.size)); clear hx31) | (go_at_call 47; with_reducible refine (AL.out _ D31.out).mono ?_; rintro e x32 ⟨rfl, hx32⟩; have D32 := Lib.hid (D31.out.trans (hx32.mono D31.out.size)); clear hx32) | fail)
          all_goals (go_wp2; go_ret; exact ⟨rfl, K11.out.below.trans (D32.out.mono K11.out.below.size)⟩)
end Go.Proofs.YtdaijibkafepcaaDoor
