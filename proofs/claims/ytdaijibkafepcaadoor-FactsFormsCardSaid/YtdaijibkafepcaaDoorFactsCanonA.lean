/-
  THE FACTS LAYER: checkBoth, two; Canon of both.
-/
import Derived.Test.YtdaijibkafepcaaDoorFactsOwn
namespace Go.Proofs.YtdaijibkafepcaaDoor
open Go.RowKit
set_option linter.unusedVariables false

def FRet (gen : Nat) (rows : List Nat) (err : Int) (w : World) (e : Ending) (w' : World) : Prop :=
  ∃ a cap, e = .returned (.tuple #[.agg #[.int .u64 (gen : Int), .slice a rows.length cap], .int .i64 err]) ∧ VRow w' a (u64s rows) ∧ (∀ ad, a = some ad → w.heap.size ≤ ad.block ∧ ad.block < w'.heap.size) ∧ Below w.heap.size w w'
theorem fret_nil {w w' : World} (err : Int) (hb : Below w.heap.size w w') : FRet 0 [] err w (.returned (.tuple #[.agg #[.int .u64 0, .slice none 0 0], .int .i64 err])) w' :=
  ⟨none, 0, rfl, .inl rfl, (fun ad e => by cases e), hb⟩
theorem own_slice {w : World} {base n : Nat} {E : TypeId} {v : Value} {xs : List Value} (h : w.ownsRow base E 1 v n xs) : ∃ a cap, v = .slice a n cap := by
  rcases h.2 with ⟨h, h0⟩ | ⟨g, cap, cur, h, _⟩
  · exact ⟨none, 0, by rw [h, h0]⟩
  · exact ⟨_, _, h⟩
theorem fret_own {w w' : World} {gen n : Nat} {v : Value} {rows : List Nat} {base : Nat} (hb0 : w.heap.size ≤ base) (h : w'.ownsRow base 23 1 v n (u64s rows)) (hb : Below w.heap.size w w') (err : Int) : FRet gen rows err w (.returned (.tuple #[.agg #[.int .u64 (gen : Int), v], .int .i64 err])) w' := by
  obtain ⟨hn, a, cap, rfl, hr, hf⟩ := VRow.of_own h
  exact ⟨a, cap, by rw [u64s_length], hr, fun ad e => ⟨Nat.le_trans hb0 (hf ad e).1, (hf ad e).2⟩, hb⟩
def bothE (n : Int) (ga : Nat) (xs : List Nat) (gb : Nat) (ys : List Nat) : Int := if checkE n ga xs = 0 then checkE n gb ys else checkE n ga xs
set_option maxRecDepth 100000 in
set_option maxHeartbeats 1000000 in
theorem bothA_is (n : Int) (a b : Option Addr) (capa capb ga gb : Nat) (xs ys : List Nat) (w : World) (hfa : FAt w a ga xs) (hfb : FAt w b gb ys) (r : Int) (hr : bothE n ga xs gb ys = r) (la lb : Nat) (hla : xs.length = la) (hlb : ys.length = lb) :
    Calls Tryd.prog 79 #[.int .i64 n, fval ga a la capa, fval gb b lb capb] w fun e w' => e = .returned (.int .i64 r) ∧ Below w.heap.size w w' := by
  unfold fval
  have hB0 : Below w.heap.size w ((w.alloc (.cells #[.int .u64 (ga : Int), .slice a la capa] 55)).alloc (.cells #[.int .u64 (gb : Int), .slice b lb capb] 55)) := ((Below.refl _ _).alloc (Nat.le_refl _) _).alloc (by simp) _
  have HA := Lib.hid (hfa.below hB0); have HB := Lib.hid (hfb.below hB0); have HLA := Lib.hid hla; have HLB := Lib.hid hlb
  obtain ⟨t0, t1⟩ := two_boxes w #[.int .u64 (ga : Int), .slice a la capa] #[.int .u64 (gb : Int), .slice b lb capb] 55
  have T1 := Lib.hid t1
  obtain ⟨s, hs⟩ : ∃ s, checkE n ga xs = s := ⟨_, rfl⟩
  have HS := Lib.hid hs
  by_cases h0 : s = 0
  · subst h0
    have HR : Hid (checkE n gb ys = r) := by show _ = _; rw [← hr, bothE, if_pos hs]
    clear hfa hfb hr hla hlb t0 t1 hs
    go_enter Tryd.func79, Tryd.ntmps79
    go_wp2_with fail
    refine (checkA_is n a capa ga xs _ HA.out 0 HS.out la HLA.out).mono ?_
    rintro e w1 ⟨rfl, hb1⟩
    have hB1 := hB0.trans (hb1.mono hB0.size)
    obtain ⟨d0, d1, _⟩ := two_cells (heap_old T1.out hb1)
    go_wp2_with fail
    refine (checkA_is n b capb gb ys _ (HB.out.below hb1) r HR.out lb HLB.out).mono ?_
    rintro e w2 ⟨rfl, hb2⟩
    go_wp2
    go_ret
    exact ⟨rfl, hB1.trans (hb2.mono hB1.size)⟩
  · have HR : Hid (s = r) := by show _ = _; rw [← hr, bothE, hs, if_neg h0]
    have hne : (s != 0) = true := by simpa using h0
    clear hfa hfb hr hla hlb t0 t1 hs h0
    go_enter Tryd.func79, Tryd.ntmps79
    go_wp2_with fail
    refine (checkA_is n a capa ga xs _ HA.out s HS.out la HLA.out).mono ?_
    rintro e w1 ⟨rfl, hb1⟩
    go_wp2
    go_ret
    exact ⟨rint HR.out, hB0.trans (hb1.mono hB0.size)⟩
set_option maxRecDepth 100000 in
set_option maxHeartbeats 1000000 in
theorem twoR_is (n : Int) (a b : Option Addr) (capa capb ga gb : Nat) (xs ys : List Nat) (w : World) (hfa : FAt w a ga xs) (hfb : FAt w b gb ys) (r : Int) (hr : bothE n ga xs gb ys = r) (la lb : Nat) (hla : xs.length = la) (hlb : ys.length = lb) :
    Calls Tryd.prog 80 #[.int .i64 n, fval ga a la capa, fval gb b lb capb] w fun e w' => e = .returned (.int .i64 r) ∧ Below w.heap.size w w' := by
  unfold fval
  have hB0 : Below w.heap.size w ((w.alloc (.cells #[.int .u64 (ga : Int), .slice a la capa] 55)).alloc (.cells #[.int .u64 (gb : Int), .slice b lb capb] 55)) := ((Below.refl _ _).alloc (Nat.le_refl _) _).alloc (by simp) _
  have HA := Lib.hid (hfa.below hB0); have HB := Lib.hid (hfb.below hB0); have HLA := Lib.hid hla; have HLB := Lib.hid hlb
  obtain ⟨t0, t1⟩ := two_boxes w #[.int .u64 (ga : Int), .slice a la capa] #[.int .u64 (gb : Int), .slice b lb capb] 55
  have T1 := Lib.hid t1
  obtain ⟨s, hs⟩ : ∃ s, checkE n ga xs = s := ⟨_, rfl⟩
  have HS := Lib.hid hs
  by_cases h0 : s = 0
  · subst h0
    have HR : Hid (checkE n gb ys = r) := by show _ = _; rw [← hr, bothE, if_pos hs]
    clear hfa hfb hr hla hlb t0 t1 hs
    go_enter Tryd.func80, Tryd.ntmps80
    go_wp2_with fail
    refine (checkR_is n a capa ga xs _ HA.out 0 HS.out la HLA.out).mono ?_
    rintro e w1 ⟨rfl, hb1⟩
    have hB1 := hB0.trans (hb1.mono hB0.size)
    obtain ⟨d0, d1, _⟩ := two_cells (heap_old T1.out hb1)
    go_wp2_with fail
    refine (checkR_is n b capb gb ys _ (HB.out.below hb1) r HR.out lb HLB.out).mono ?_
    rintro e w2 ⟨rfl, hb2⟩
    go_wp2
    go_ret
    exact ⟨rfl, hB1.trans (hb2.mono hB1.size)⟩
  · have HR : Hid (s = r) := by show _ = _; rw [← hr, bothE, hs, if_neg h0]
    have hne : (s != 0) = true := by simpa using h0
    clear hfa hfb hr hla hlb t0 t1 hs h0
    go_enter Tryd.func80, Tryd.ntmps80
    go_wp2_with fail
    refine (checkR_is n a capa ga xs _ HA.out s HS.out la HLA.out).mono ?_
    rintro e w1 ⟨rfl, hb1⟩
    go_wp2
    go_ret
    exact ⟨rint HR.out, hB0.trans (hb1.mono hB0.size)⟩

def canonG (n : Int) (gen : Nat) (rows : List Nat) : Nat := if shapedE n gen rows = 0 then gen else 0
def canonV (n : Int) (gen : Nat) (rows : List Nat) : List Nat := if shapedE n gen rows = 0 then canonL gen rows else []
set_option maxRecDepth 100000 in
set_option maxHeartbeats 2000000 in
theorem canonA_is (n : Int) (a : Option Addr) (cap gen : Nat) (rows : List Nat) (w : World) (hf : FAt w a gen rows) (e0 : Int) (he : shapedE n gen rows = e0) (g : Nat) (hg : canonG n gen rows = g) (ys : List Nat) (hys : canonV n gen rows = ys) (len : Nat) (hl : rows.length = len) :
    Calls Tryd.prog 37 #[.int .i64 n, fval gen a len cap] w (FRet g ys e0 w) := by
  unfold fval
  have hB0 : Below w.heap.size w ((w.alloc (.cells #[.int .u64 (gen : Int), .slice a len cap] 55)).alloc (.cells #[.int .u64 0, .slice none 0 0] 55)) := ((Below.refl _ _).alloc (Nat.le_refl _) _).alloc (by simp) _
  have HF := Lib.hid (hf.below hB0)
  obtain ⟨t0, t1⟩ := two_boxes w #[.int .u64 (gen : Int), .slice a len cap] #[.int .u64 0, .slice none 0 0] 55
  have T0 := Lib.hid t0; have T1 := Lib.hid t1; have HL := Lib.hid hl; have HE := Lib.hid he
  have hgen := hf.gen
  have HALL := Lib.hid hf.all
  have HLEN := Lib.hid hf.len
  have shp : ∀ (W : World), FAt W a gen rows → Calls Tryd.prog 71 #[.int .i64 n, .agg #[.int .u64 (gen : Int), .slice a len cap]] W fun e w' => e = .returned (.int .i64 e0) ∧ Below W.heap.size W w' := fun W hW => by
    have := shaped_is n a cap gen rows W hW e0 he
    rwa [hl] at this
  have HSHP := Lib.hid shp
  by_cases h0 : e0 = 0
  · subst h0
    obtain rfl : gen = g := by rw [← hg, canonG, if_pos he]
    have HY : Hid (canonL gen rows = ys) := by show _ = _; rw [← hys, canonV, if_pos he]
    clear hf he hg hys hl t0 t1 shp
    go_enter Tryd.func37, Tryd.ntmps37
    go_wp2_with fail
    refine (HSHP.out _ HF.out).mono ?_
    rintro e w1 ⟨rfl, hb1⟩
    have hB1 := hB0.trans (hb1.mono hB0.size)
    have U0 := Lib.hid (heap_old T0.out hb1); have U1 := Lib.hid (heap_old T1.out hb1)
    obtain ⟨c0, c1, _⟩ := two_cells U0.out
    have HF1 := Lib.hid (HF.out.below hb1)
    go_wp2_with fail
    go_region_with (first | (go_at_call 73; go_loud (refine (clone_is a cap rows _ HLEN.out (VRow.below HF1.out.row (by first | exact Below.refl _ _ | exact (Below.refl _ _).drew)) len HL.out).mono ?_; rintro e w3 ⟨v, rfl, hown, hb3⟩; obtain ⟨a5, cap5, hv5⟩ := own_slice hown; subst hv5; have hb3' : Below w1.heap.size w1 w3 := (by first | exact hb3 | exact Below.trans ((Below.refl _ _).drew) hb3); have hB3 := hB1.trans (hb3'.mono hB1.size); have HO3 : Hid (w3.ownsRow w1.heap.size 23 1 (.slice a5 len cap5) len (u64s rows)) := hown; have V0 := Lib.hid (heap_old U0.out hb3'); have V1 := Lib.hid (heap_old U1.out hb3'); obtain ⟨d0, d1, _⟩ := two_cells V0.out)) | (go_at_call 72; go_loud (refine (canonical_is gen w1.heap.size len (.slice a5 len cap5) rows ys _ hgen HALL.out HLEN.out HL.out (by have := hb3'.size; simpa using this) (by first | exact HO3.out) HY.out).mono ?_; rintro e w4 ⟨rfl, post⟩; have POST := Lib.hid post; have W1 := Lib.hid ((post.rest (w.heap.size + 1) (by exact (Array.getElem?_eq_some_iff.1 V1.out).1) (fun e => by have h9 := (HO3.out.lt _ e.symm).1; have h8 := (Array.getElem?_eq_some_iff.1 U1.out).1; omega)).trans V1.out); obtain ⟨_, _, ff⟩ := two_cells W1.out; obtain ⟨p0, p1, _⟩ := two_cells W1.out; have f0 := ff 0; have f1 := ff 1; clear ff post)))
    all_goals
      have N1 := Lib.hid (two_set1 (c := .slice a5 len cap5) (two_set0 (c := .int .u64 (gen : Int)) W1.out))
      obtain ⟨s0, s1, _⟩ := two_cells N1.out
      have HNB := Lib.hid (not_row W1.out (by decide) POST.out.own)
      have HO5 := Lib.hid ((POST.out.own.kept (grownBy_set _ _ 0 (.int .u64 (gen : Int))) (.inr HNB.out.symm)).kept (grownBy_set _ (w.heap.size + 1) 1 (.slice a5 len cap5)) (.inr HNB.out.symm))
      have HB5 := Lib.hid (((hB3.trans (POST.out.below.mono hB1.size)).setCell (p := ⟨w.heap.size + 1, 0, none⟩) (by simp) (.int .u64 (gen : Int))).setCell (p := ⟨w.heap.size + 1, 1, none⟩) (by simp) (.slice a5 len cap5))
      clear c0 c1 d0 d1 hown
      go_wp2
      refine bodyPost_ret (v := .tuple #[.agg #[.int .u64 (gen : Int), .slice a5 len cap5], .int .i64 0]) ?_ rfl (fret_own hB1.size HO5.out HB5.out 0)
      simp [results, Tryd.results37, go_sem, s0, s1]
  · have hne : (e0 != 0) = true := by simpa using h0
    obtain rfl : 0 = g := by rw [← hg, canonG, he, if_neg h0]
    obtain rfl : [] = ys := by rw [← hys, canonV, he, if_neg h0]
    clear hf he hg hys hl t0 t1 shp h0
    go_enter Tryd.func37, Tryd.ntmps37
    go_wp2_with fail
    refine (HSHP.out _ HF.out).mono ?_
    rintro e w1 ⟨rfl, hb1⟩
    have hB1 := hB0.trans (hb1.mono hB0.size)
    have U1 := Lib.hid (heap_old T1.out hb1)
    obtain ⟨d0, d1, df⟩ := two_cells U1.out
    have f0 := df 0; have f1 := df 1
    have N1 := Lib.hid (two_set1 (c := .slice none 0 0) (two_set0 (c := .int .u64 0) U1.out))
    obtain ⟨s0, s1, _⟩ := two_cells N1.out
    clear df
    go_wp2
    refine bodyPost_ret (v := .tuple #[.agg #[.int .u64 0, .slice none 0 0], .int .i64 e0]) ?_ rfl (fret_nil e0 ((hB1.setCell (p := ⟨w.heap.size + 1, 0, none⟩) (by simp) _).setCell (p := ⟨w.heap.size + 1, 1, none⟩) (by simp) _))
    simp [results, Tryd.results37, go_sem, s0, s1]
end Go.Proofs.YtdaijibkafepcaaDoor
