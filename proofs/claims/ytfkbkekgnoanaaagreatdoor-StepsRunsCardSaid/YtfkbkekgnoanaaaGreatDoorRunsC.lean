import Derived.Test.YtfkbkekgnoanaaaGreatDoorProg
import Derived.Test.YtfkbkekgnoanaaaGreatDoorRows
import Derived.Lib.ItoaLen
import Derived.Lib.UnsafeStr
import Derived.Lib.AppendIntMem
import Derived.Deep.Slices
import Derived.Deep.Fields
import Derived.ChangeSame
import Derived.Lib.SmallJoins
import Derived.ChangeSlices
import Derived.ProofKit
import Derived.Test.YtfkbkekgnoanaaaGreatDoorBaseA
import Derived.Test.YtfkbkekgnoanaaaGreatDoorBaseB
import Derived.Test.YtfkbkekgnoanaaaGreatDoorBaseC
import Derived.Test.YtfkbkekgnoanaaaGreatDoorBaseD
import Derived.Test.YtfkbkekgnoanaaaGreatDoorRunsA
import Derived.Test.YtfkbkekgnoanaaaGreatDoorRunsB
set_option maxRecDepth 100000
set_option maxHeartbeats 4000000
set_option linter.unusedVariables false
set_option linter.unusedSimpArgs false
set_option linter.unusedSectionVars false
set_option linter.unnecessarySimpa false
namespace Go.Proofs.YtfkbkekgnoanaaaGreatDoor
open Go Go.RowKit
theorem text11 {w : World} {a : Option Addr} {c : Nat} (hr : Row w a [1]) (ht : Tabs w) : Calls Tryz.prog 34 #[.agg #[.int .i64 1, .slice a 1 c]] w fun e w' => e = .returned (.string ⟨#[49, 32, 49]⟩) ∧ Below w.heap.size w w' := by
 have h := text_c 1 a 1 c [1] w hr rfl (by decide) (by decide) (by decide) (by rw [conf11]; decide) ht
 rw [conf11] at h
 exact h
theorem awakeS_is (w : World) (ht : Tabs w) :
  Calls Tryz.prog 14 #[] w (fun e w' => e = .returned (.bool (true)) ∧ Below w.heap.size w w') := by
 refine enterF (args := []) Tryz.func14 rfl Tryz.ntmps14 rfl ?_
 have hS := St.start w
 refine seqF (regF ?_)
 refine op_assign rfl rfl ?_
 refine endF (XF.thenN ?_)
 refine seqF (regF ?_)
 refine op_call (vs := []) hS goes_33 rfl (example_is _) rfl ?_
 rintro e W1 ⟨b1, b2, rfl, hex, hb⟩
 refine ⟨_, rfl, hb, fun hS' => ?_⟩
 clear hS; have hS := hS'; clear hS'
 refine op_buildSlice (us := [(0, .int .i64 _)]) hS Tryz.underlying29 Tryz.sizeOf3 Tryz.zeroValue3 rfl rfl rfl (bs_29_1 _) rfl ?_
 clear hS; intro B2 W2 hS
 refine op_build (us := [(1, .slice _ _ _)]) rfl (bld_31_1 _ _ _) rfl ?_
 refine op_buildSlice (us := [(0, .int .i64 _), (1, .int .i64 _)]) hS Tryz.underlying29 Tryz.sizeOf3 Tryz.zeroValue3 rfl rfl rfl (bs_29_2 _ _) rfl ?_
 clear hS; intro B3 W3 hS
 have hsz := hS.below.size
 refine op_call (vs := [_, _, _]) hS goes_15 rfl (exRun (hex _ (hS.since 0 rfl)) (row1 (hS.at_ 1 rfl)) (row2 (hS.at_ 0 rfl)) (ht.below hS.below)) rfl ?_
 rintro e W4 ⟨a5, c5, f5, rfl, hrn, hfc, hb⟩
 refine ⟨_, rfl, hb, fun hS' => ?_⟩
 clear hS; have hS := hS'; clear hS'
 refine op_move rfl rfl ?_
 refine op_extract rfl rfl rfl ?_
 refine op_extract rfl rfl rfl ?_
 refine op_extract rfl rfl rfl ?_
 refine op_extract rfl rfl rfl ?_
 refine op_alloc (cs := [_, _]) hS Tryz.zeroValue31 rfl rfl ?_
 clear hS; intro B5 W5 hS
 refine op_alloc (cs := [_, _, _, _, _, _]) hS Tryz.zeroValue48 rfl rfl ?_
 clear hS; intro B6 W6 hS
 refine op_storeA (i := 1) (vs := [_, _]) (cs' := [_, _]) (O' := [_, _, _, _]) hS Tryz.sizeOf31 rfl rfl rfl rfl rfl rfl rfl ?_
 clear hS; intro W7 hS
 refine op_storeA (i := 0) (vs := [_, _, _, _, _, _]) (cs' := [_, _, _, _, _, _]) (O' := [_, _, _, _]) hS Tryz.sizeOf48 rfl rfl rfl rfl rfl rfl rfl ?_
 clear hS; intro W8 hS
 refine op_assign rfl rfl ?_
 refine op_assign rfl rfl ?_
 refine endF (XF.thenN ?_)
 refine seqF (regF ?_)
 refine op_move rfl rfl ?_
 refine op_eql rfl rfl rfl ?_
 refine op_move rfl rfl ?_
 refine op_cases (d := 17) rfl (fun hc => ?_) (fun hc => absurd (of_decide_eq_false hc) (by omega))
 have hc := of_decide_eq_true hc
 refine op_wantedF (d := 17) rfl rfl ?_
 refine op_loadA (vs := [_, _]) Tryz.isAgg31 Tryz.sizeOf31 rfl (CellsAt.own (j := 0) (m := 2) (hS.at_ 1 rfl) rfl) rfl ?_
 refine op_wantedF (d := 17) rfl rfl ?_
 refine op_call (vs := [_]) hS goes_34 rfl (text11 (hrn.agree (hS.since 0 rfl)).row (ht.below hS.below)) rfl ?_
 rintro e W9 ⟨rfl, hb⟩
 refine ⟨_, rfl, hb, fun hS' => ?_⟩
 clear hS; have hS := hS'; clear hS' hb
 refine op_wantedF (d := 17) rfl rfl ?_
 refine op_binG rfl rfl rfl (run_eqlS_same _ _ _) rfl ?_
 refine op_pickT rfl rfl rfl ?_
 refine op_move rfl rfl ?_
 refine op_wantedF (d := 22) rfl rfl ?_
 refine op_field (o' := 1) fa_48_1 rfl rfl rfl ?_
 refine op_wantedF (d := 22) rfl rfl ?_
 refine op_load Tryz.isAgg3 rfl (cell_own (hS.at_ 0 rfl) rfl) rfl ?_
 refine op_wantedF (d := 22) rfl rfl ?_
 refine op_eql rfl rfl rfl ?_
 refine op_pickT rfl rfl rfl ?_
 refine op_assign rfl rfl ?_
 refine endF (XF.thenN ?_)
 refine retF ?_
 refine XF.res (res1 Tryz.results14 rfl) ?_
 exact ⟨rbool (decide_eq_true hfc), hS.below⟩
end Go.Proofs.YtfkbkekgnoanaaaGreatDoor
namespace Go.Proofs.YtfkbkekgnoanaaaGreatDoor
open Go.RowKit Go.ChangeShapes Go.WideShapes Go.Deep
section
variable {H : Type} {enc : TypeId × Value → H} {w : World} {base : Nat} {spare : Nat → Bool} {held : Bool}
theorem three_len {cs : List Value} (h : cs.length = 3) : ∃ a b c, cs = [a, b, c] := by
 match cs, h with
 | [a, b, c], _ => exact ⟨a, b, c, rfl⟩
theorem cell_open {n : Nat} {cs : List Value} {x : DataW H × List MemPlace} (hl : cs.length = 3) (h : DataW.trod enc Tryz.prog w base spare held n 89 cs = some x) :
  ∃ c : Cl, c.f < 18446744073709551616 ∧ cs = [.int .u64 (c.f : Int), .int .i64 c.k, .int .i64 c.v] := by
 obtain ⟨xs, n', _, hx, _, hlen, hg⟩ := DataW.trod_struct Tryz.underlying89 h
 obtain ⟨a, b, c, rfl⟩ := three_len hl
 ·skip
  have hlen3 : xs.length = 3 := hlen
  have g0 := hg 0 _ rfl
  have g1 := hg 1 _ rfl
  have g2 := hg 2 _ rfl
  rw [show Tryz.prog.cellsOf _ = 1 by kernel_rfl, List.getElem?_eq_getElem (by omega)] at g0 g1 g2
  obtain ⟨z0, e0, _, w0⟩ := DataW.trod_int Tryz.underlying41 g0
  obtain ⟨z1, e1, _, w1⟩ := DataW.trod_int (k := .i64) (by kernel_rfl) g1
  obtain ⟨z2, e2, _, w2⟩ := DataW.trod_int (k := .i64) (by kernel_rfl) g2
  simp at e0 e1 e2
  subst e0 e1 e2
  have hw : 0 ≤ z0 ∧ z0 ≤ 18446744073709551615 := by simpa [Lit.wf, IntKind.signed, IntKind.bits, IntKind.min, IntKind.max] using w0
  exact ⟨⟨z0.toNat, z1, z2⟩, by show z0.toNat < _; omega, by simp; omega⟩
theorem list_of : ∀ (n : Nat) (p : Nat → Cl → Prop), (∀ i, i < n → ∃ c, p i c) → ∃ xs : List Cl, xs.length = n ∧ ∀ i c, xs[i]? = some c → p i c
 | 0, p, h => ⟨[], rfl, fun i c hi => by simp at hi⟩
 | n + 1, p, h => by
  obtain ⟨xs, hl, hp⟩ := list_of n p (fun i hi => h i (by omega))
  obtain ⟨c, hc⟩ := h n (by omega)
  refine ⟨xs ++ [c], by simp [hl], fun i d hi => ?_⟩
  rcases Nat.lt_or_ge i n with h1 | h1
  ·rw [List.getElem?_append_left (by omega)] at hi
   exact hp i d hi
  ·obtain ⟨h2, _⟩ := List.getElem?_eq_some_iff.1 hi
   simp [hl] at h2
   obtain rfl : i = n := by omega
   rw [List.getElem?_append_right (by omega), hl, Nat.sub_self] at hi
   simp at hi
   subst hi
   exact hc
theorem cells_open {n : Nat} {a : Option Addr} {len cap : Nat} {x : DataW H × List MemPlace} (h : DataW.trod enc Tryz.prog w base spare held n 45 [.slice a len cap] = some x) :
  ∃ xs, IsCells w a len cap xs := by
 rcases open_slice Tryz.underlying45 h with ⟨hcs, _⟩ | ⟨ad, len', cap', m, n', D, Pl, hcs, hb, hl, hm, hmm, hx, hi⟩
 ·simp at hcs
  obtain ⟨rfl, rfl, rfl⟩ := hcs
  exact ⟨[], rfl, by simp, .inl rfl, fun c hc => by simp at hc⟩
 ·simp at hcs
  obtain ⟨rfl, rfl, rfl⟩ := hcs
  rw [show Tryz.prog.cellsOf 89 = 3 by kernel_rfl] at hi
  obtain ⟨xs, hxl, hxs⟩ := list_of len (fun i c => c.f < 18446744073709551616 ∧ w.cell? (ad.add (i * 3)) = some (.int .u64 (c.f : Int)) ∧ w.cell? (ad.add (i * 3 + 1)) = some (.int .i64 c.k) ∧ w.cell? (ad.add (i * 3 + 2)) = some (.int .i64 c.v)) (fun i hil => by
   obtain ⟨cs', hc, ht⟩ := hi i (by rw [hmm]; split <;> omega)
   obtain ⟨_, hcl, hat⟩ := World.cells?_some hc
   obtain ⟨c, hf, rfl⟩ := cell_open hcl ht
   have e0 := hat 0 (by omega)
   have e1 := hat 1 (by omega)
   have e2 := hat 2 (by omega)
   rw [add_add] at e0 e1 e2
   exact ⟨c, hf, e0, e1, e2⟩)
  refine ⟨xs, hxl.symm, by omega, ?_, fun c hc => ?_⟩
  ·rcases Nat.eq_zero_or_pos len with h0 | h0
   ·exact .inl (List.length_eq_zero_iff.1 (by omega))
   ·obtain ⟨b, off, spot⟩ := ad
    obtain ⟨_, h1, _, _⟩ := hxs 0 (xs[0]'(by omega)) (List.getElem?_eq_getElem (by omega))
    have hspot : spot = none := by simpa [Addr.add] using World.cell?_spot h1
    subst hspot
    refine .inr ⟨b, off, rfl, fun i c hic => ?_⟩
    have e : ∀ k, ({ block := b, off := off } : Addr).add k = ⟨b, off + k, none⟩ := fun k => by simp [Addr.add]
    have h3 := (hxs i c hic).2
    rw [e, e, e, ← Nat.add_assoc, ← Nat.add_assoc] at h3
    exact h3
  ·obtain ⟨i, hi', hic⟩ := List.mem_iff_getElem.1 hc
   exact (hxs i c (by rw [← hic]; exact List.getElem?_eq_getElem hi')).1
end
end Go.Proofs.YtfkbkekgnoanaaaGreatDoor
namespace Go.Proofs.YtfkbkekgnoanaaaGreatDoor
open Go.RowKit Go.ChangeShapes Go.WideShapes Go.Deep
section
variable {H : Type} {enc : TypeId × Value → H} {w : World} {base : Nat} {spare : Nat → Bool} {held : Bool}
theorem slice_form {n : Nat} {cs : List Value} {x : DataW H × List MemPlace} (h : DataW.trod enc Tryz.prog w base spare held n 45 cs = some x) : ∃ a len cap, cs = [.slice a len cap] := by
 rcases open_slice Tryz.underlying45 h with ⟨hcs, _⟩ | ⟨ad, len', cap', m, n', D, Pl, hcs, _⟩
 ·exact ⟨_, _, _, hcs⟩
 ·exact ⟨_, _, _, hcs⟩
end
end Go.Proofs.YtfkbkekgnoanaaaGreatDoor
namespace Go.Proofs.YtfkbkekgnoanaaaGreatDoor
open Go.RowKit Go.ChangeShapes Go.WideShapes Go.Deep Go.Joins
theorem list_pick {α : Type} : ∀ (n : Nat) (p : Nat → α → Prop), (∀ i, i < n → ∃ c, p i c) → ∃ xs : List α, xs.length = n ∧ ∀ i c, xs[i]? = some c → p i c
 | 0, p, h => ⟨[], rfl, fun i c hi => by simp at hi⟩
 | n + 1, p, h => by
  obtain ⟨xs, hl, hp⟩ := list_pick n p (fun i hi => h i (by omega))
  obtain ⟨c, hc⟩ := h n (by omega)
  refine ⟨xs ++ [c], by simp [hl], fun i d hi => ?_⟩
  rcases Nat.lt_or_ge i n with h1 | h1
  ·rw [List.getElem?_append_left (by omega)] at hi
   exact hp i d hi
  ·obtain ⟨h2, _⟩ := List.getElem?_eq_some_iff.1 hi
   simp [hl] at h2
   obtain rfl : i = n := by omega
   rw [List.getElem?_append_right (by omega), hl, Nat.sub_self] at hi
   simp at hi
   subst hi
   exact hc
theorem SIn.more {w : World} : ∀ {d e : Nat} {s : SV}, d ≤ e → SIn w d s → SIn w e s
 | 0, _, _, _, h => h.elim
 | d + 1, 0, _, hl, _ => by omega
 | d + 1, e + 1, .mk f ps, hl, ⟨h1, h2, h3⟩ => ⟨h1, h2, fun p hp => SIn.more (by omega) (h3 p hp)⟩
theorem WIn.more {w : World} : ∀ {d e : Nat} {s : WV}, d ≤ e → WIn w d s → WIn w e s
 | 0, _, _, _, h => h.elim
 | d + 1, 0, _, hl, _ => by omega
 | d + 1, e + 1, .mk f ps, hl, ⟨h0, h1, h2, h3⟩ => ⟨h0, h1, h2, fun p hp => WIn.more (by omega) (h3 p hp)⟩
theorem six_len {cs : List Value} (h : cs.length = 6) : ∃ a b c d e f, cs = [a, b, c, d, e, f] := by
 match cs, h with
 | [a, b, c, d, e, f], _ => exact ⟨a, b, c, d, e, f, rfl⟩
theorem two_len {cs : List Value} (h : cs.length = 2) : ∃ a b, cs = [a, b] := by
 match cs, h with
 | [a, b], _ => exact ⟨a, b, rfl⟩
section
variable {H : Type} {enc : TypeId × Value → H} {w : World} {base : Nat} {spare : Nat → Bool} {held : Bool}
theorem space_in : ∀ (fuel : Nat) {cs : List Value} {x : DataW H × List MemPlace}, DataW.trod enc Tryz.prog w base spare held fuel 25 cs = some x → ∃ s : SV, cs = [.int .i64 s.f.tag, .int .i64 s.f.dim, .slice s.f.a s.f.len s.f.cap] ∧ SIn w fuel s := by
 intro fuel
 induction fuel using Nat.strongRecOn with
 | _ fuel ih =>
 intro cs x h
 obtain ⟨xs, n, hn, _, hl, hlen, hg⟩ := DataW.trod_struct Tryz.underlying25 h
 rw [show Tryz.prog.cellsOf 25 = 3 by kernel_rfl] at hl
 obtain ⟨a, b, c, rfl⟩ := three_len hl
 have hlen3 : xs.length = 3 := hlen
 have g0 := hg 0 _ rfl
 have g1 := hg 1 _ rfl
 have g2 := hg 2 _ rfl
 rw [show Tryz.prog.cellsOf _ = 1 by kernel_rfl, List.getElem?_eq_getElem (by omega)] at g0 g1 g2
 obtain ⟨z0, e0, _, w0⟩ := DataW.trod_int (k := .i64) (by kernel_rfl) g0
 obtain ⟨z1, e1, _, w1⟩ := DataW.trod_int (k := .i64) (by kernel_rfl) g1
 simp at e0 e1
 subst e0 e1
 rcases DataW.trod_slice Tryz.underlying23 g2 with ⟨hcs, _⟩ | ⟨ad, len, cap, elems, rest, n', hn', hcs, _, hb, hle, hcap, hel, hi, _, _⟩
 ·simp at hcs
  subst hcs
  subst hn
  exact ⟨.mk ⟨z0, z1, none, 0, 0⟩ [], rfl, rfl, .inl rfl, fun p hp => by cases hp⟩
 ·simp at hcs
  subst hcs
  subst hn
  rw [show Tryz.prog.cellsOf 25 = 3 by kernel_rfl] at hi
  obtain ⟨ps, hpl, hps⟩ := list_pick len (fun i (p : SV) => (w.cell? (ad.add (i * 3)) = some (.int .i64 p.f.tag) ∧ w.cell? (ad.add (i * 3 + 1)) = some (.int .i64 p.f.dim) ∧ w.cell? (ad.add (i * 3 + 2)) = some (.slice p.f.a p.f.len p.f.cap)) ∧ SIn w n' p) (fun i hil => by
   have hii := hi i hil
   rw [List.getElem?_eq_getElem (by omega)] at hii
   obtain ⟨cs', hc, ht⟩ := Option.bind_eq_some_iff.1 hii
   obtain ⟨_, hcl, hat⟩ := World.cells?_some hc
   obtain ⟨s, rfl, hs⟩ := ih n' (by omega) ht
   have e0 := hat 0 (by omega)
   have e1 := hat 1 (by omega)
   have e2 := hat 2 (by omega)
   rw [Go.Deep.add_add] at e0 e1 e2
   exact ⟨s, ⟨e0, e1, e2⟩, hs⟩)
  refine ⟨.mk ⟨z0, z1, some ad, len, cap⟩ ps, rfl, hpl, ?_, fun p hp => ?_⟩
  ·rcases Nat.eq_zero_or_pos len with h0 | h0
   ·exact .inl (List.length_eq_zero_iff.1 (by omega))
   ·obtain ⟨b, off, spot⟩ := ad
    obtain ⟨⟨h1, _, _⟩, _⟩ := hps 0 (ps[0]'(by omega)) (List.getElem?_eq_getElem (by omega))
    have hspot : spot = none := by simpa [Addr.add] using World.cell?_spot h1
    subst hspot
    refine .inr ⟨b, off, rfl, fun i c hic => ?_⟩
    have e : ∀ k, ({ block := b, off := off } : Addr).add k = ⟨b, off + k, none⟩ := fun k => by simp [Addr.add]
    have h3 := (hps i c hic).1
    rw [e, e, e, ← Nat.add_assoc, ← Nat.add_assoc] at h3
    exact h3
  ·obtain ⟨i, hi', hic⟩ := List.mem_iff_getElem.1 hp
   exact (hps i p (by rw [← hic]; exact List.getElem?_eq_getElem hi')).2.more (by omega)
theorem u64s_open {n : Nat} {v : Value} {x : DataW H × List MemPlace} (h : DataW.trod enc Tryz.prog w base spare held n 42 [v] = some x) :
  ∃ (a : Option Addr) (len cap : Nat) (rows : List Nat), v = .slice a len cap ∧ VRow w a (u64s rows) ∧ rows.length = len ∧ ∀ r ∈ rows, r < 18446744073709551616 := by
 rcases open_ints (t := 42) (e := 41) (k := .u64) (by kernel_rfl) (by kernel_rfl) (by kernel_rfl) h with ⟨hcs, _⟩ | ⟨x, len, cap, zs, hcs, _, hl, hm, hz, _, hcell, hwz⟩
 ·have hcs' : v = .slice none 0 0 := by simpa using hcs
  subst hcs'
  exact ⟨none, 0, 0, [], rfl, .inl rfl, rfl, fun r hr => by cases hr⟩
 ·have hcs' : v = .slice (some x) len cap := by simpa using hcs
  subst hcs'
  have hzl : len ≤ zs.length := by rw [hz]; split <;> omega
  refine ⟨some x, len, cap, (zs.take len).map Int.toNat, rfl, ?_, ?_, ?_⟩
  ·rcases Nat.eq_zero_or_pos len with h0 | h0
   ·subst h0; exact .inl (by simp [u64s])
   ·obtain ⟨b, off, spot⟩ := x
    have hc0 := hcell 0 (by omega)
    have hspot : spot = none := by simpa [Addr.add] using World.cell?_spot hc0
    subst hspot
    refine .inr ⟨b, off, rfl, fun i v hi => ?_⟩
    obtain ⟨q, hq, rfl⟩ := u64s_at hi
    rw [List.getElem?_map, List.getElem?_take] at hq
    split at hq
    ·rename_i hlt
     have hi2 : i < zs.length := by omega
     rw [List.getElem?_eq_getElem hi2] at hq
     have hq' : (zs[i]).toNat = q := by simpa using hq
     obtain ⟨m, hm1, hm2⟩ := u64_nat (hwz _ (List.getElem_mem hi2))
     have hc := hcell i hi2
     have e : ({ block := b, off := off } : Addr).add i = ⟨b, off + i, none⟩ := by simp [Addr.add]
     rw [e] at hc
     rw [hc]
     have : zs.getD i 0 = zs[i] := by simp [List.getD, List.getElem?_eq_getElem hi2]
     rw [this, hm1, ← hq', hm1]
     rfl
    ·cases hq
  ·simp; omega
  ·intro r hr
   obtain ⟨z, hz1, rfl⟩ := List.mem_map.1 hr
   obtain ⟨m, hm1, hm2⟩ := u64_nat (hwz z (List.mem_of_mem_take hz1))
   rw [hm1]; exact hm2
theorem facts_in {n : Nat} {a b : Value} {x : DataW H × List MemPlace} (h : DataW.trod enc Tryz.prog w base spare held n 44 [a, b] = some x) :
  ∃ (g : Nat) (ra : Option Addr) (rl rc : Nat) (rows : List Nat), a = .int .u64 (g : Int) ∧ b = .slice ra rl rc ∧ g < 18446744073709551616 ∧ VRow w ra (u64s rows) ∧ rows.length = rl ∧ ∀ r ∈ rows, r < 18446744073709551616 := by
 obtain ⟨xs, n', _, _, hl, hlen, hg⟩ := DataW.trod_struct Tryz.underlying44 h
 have hlen2 : xs.length = 2 := hlen
 have g0 := hg 0 _ rfl
 have g1 := hg 1 _ rfl
 rw [show Tryz.prog.cellsOf _ = 1 by kernel_rfl, List.getElem?_eq_getElem (by omega)] at g0 g1
 obtain ⟨z0, e0, _, w0⟩ := DataW.trod_int (k := .u64) (by kernel_rfl) g0
 simp at e0
 subst e0
 obtain ⟨g, rfl, hg64⟩ := u64_nat w0
 obtain ⟨ra, rl, rc, rows, e1, h1, h2, h3⟩ := u64s_open (v := b) g1
 exact ⟨g, ra, rl, rc, rows, rfl, e1, hg64, h1, h2, h3⟩
theorem weight_in : ∀ (fuel : Nat) {cs : List Value} {x : DataW H × List MemPlace}, DataW.trod enc Tryz.prog w base spare held fuel 48 cs = some x → ∃ s : WV, cs = s.f.six ∧ WIn w fuel s := by
 intro fuel
 induction fuel using Nat.strongRecOn with
 | _ fuel ih =>
 intro cs x h
 obtain ⟨xs, n, hn, _, hl, hlen, hg⟩ := DataW.trod_struct Tryz.underlying48 h
 rw [show Tryz.prog.cellsOf 48 = 6 by kernel_rfl] at hl
 obtain ⟨a, b, c, d, e, f, rfl⟩ := six_len hl
 have hlen5 : xs.length = 5 := hlen
 have g0 := hg 0 _ rfl
 have g1 := hg 1 _ rfl
 have g2 := hg 2 _ rfl
 have g3 := hg 3 _ rfl
 have g4 := hg 4 _ rfl
 rw [show Tryz.prog.cellsOf _ = 1 by kernel_rfl, List.getElem?_eq_getElem (by omega)] at g0 g1 g3 g4
 rw [show Tryz.prog.cellsOf _ = 2 by kernel_rfl, List.getElem?_eq_getElem (by omega)] at g2
 obtain ⟨z0, e0, _⟩ := DataW.trod_bool (by kernel_rfl) g0
 obtain ⟨z1, e1, _, w1⟩ := DataW.trod_int (k := .i64) (by kernel_rfl) g1
 simp at e0 e1
 subst e0 e1
 obtain ⟨gg, ra, rl, rc, rows, rfl, rfl, hg64, hrow, hrl, hr64⟩ := facts_in (a := c) (b := d) g2
 obtain ⟨ca, cl, cc, e3⟩ := slice_form g3
 have e3' : e = .slice ca cl cc := by simpa using e3
 subst e3'
 obtain ⟨cells, hcl, hcm, hcrow, hcbits⟩ := cells_open (a := ca) (len := cl) (cap := cc) g3
 rcases DataW.trod_slice Tryz.underlying46 g4 with ⟨hcs, _⟩ | ⟨ad, len, cap, elems, rest, n', hn', hcs, _, hb, hle, hcap, hel, hi, _, _⟩
 ·simp at hcs
  subst hcs
  subst hn
  exact ⟨.mk ⟨z0, z1, gg, ra, rl, rc, rows, ca, cl, cc, cells, none, 0, 0⟩ [], rfl, ⟨hrow, hrl, hg64, hr64, hcrow, hcl.symm, hcbits, by dsimp only; omega⟩, rfl, .inl rfl, fun p hp => by cases hp⟩
 ·simp at hcs
  subst hcs
  subst hn
  rw [show Tryz.prog.cellsOf 48 = 6 by kernel_rfl] at hi
  obtain ⟨ps, hpl, hps⟩ := list_pick len (fun i (p : WV) => (w.cell? (ad.add (i * 6)) = some (.bool p.f.z) ∧ w.cell? (ad.add (i * 6 + 1)) = some (.int .i64 p.f.c) ∧ w.cell? (ad.add (i * 6 + 2)) = some (.int .u64 (p.f.g : Int)) ∧ w.cell? (ad.add (i * 6 + 3)) = some (.slice p.f.ra p.f.rl p.f.rc) ∧ w.cell? (ad.add (i * 6 + 4)) = some (.slice p.f.ca p.f.cl p.f.cc) ∧ w.cell? (ad.add (i * 6 + 5)) = some (.slice p.f.pa p.f.pl p.f.pc)) ∧ WIn w n' p) (fun i hil => by
   have hii := hi i hil
   rw [List.getElem?_eq_getElem (by omega)] at hii
   obtain ⟨cs', hc, ht⟩ := Option.bind_eq_some_iff.1 hii
   obtain ⟨_, hcl, hat⟩ := World.cells?_some hc
   obtain ⟨s, rfl, hs⟩ := ih n' (by omega) ht
   have e0 := hat 0 (by omega)
   have e1 := hat 1 (by omega)
   have e2 := hat 2 (by omega)
   have e3 := hat 3 (by omega)
   have e4 := hat 4 (by omega)
   have e5 := hat 5 (by omega)
   rw [Go.Deep.add_add] at e0 e1 e2 e3 e4 e5
   exact ⟨s, ⟨e0, e1, e2, e3, e4, e5⟩, hs⟩)
  refine ⟨.mk ⟨z0, z1, gg, ra, rl, rc, rows, ca, cl, cc, cells, some ad, len, cap⟩ ps, rfl, ⟨hrow, hrl, hg64, hr64, hcrow, hcl.symm, hcbits, by dsimp only; omega⟩, hpl, ?_, fun p hp => ?_⟩
  ·rcases Nat.eq_zero_or_pos len with h0 | h0
   ·exact .inl (List.length_eq_zero_iff.1 (by omega))
   ·obtain ⟨b, off, spot⟩ := ad
    obtain ⟨⟨h1, _⟩, _⟩ := hps 0 (ps[0]'(by omega)) (List.getElem?_eq_getElem (by omega))
    have hspot : spot = none := by simpa [Addr.add] using World.cell?_spot h1
    subst hspot
    refine .inr ⟨b, off, rfl, fun i c hic => ?_⟩
    have e : ∀ k, ({ block := b, off := off } : Addr).add k = ⟨b, off + k, none⟩ := fun k => by simp [Addr.add]
    have h3 := (hps i c hic).1
    rw [e, e, e, e, e, e, ← Nat.add_assoc, ← Nat.add_assoc, ← Nat.add_assoc, ← Nat.add_assoc, ← Nat.add_assoc] at h3
    exact h3
  ·obtain ⟨i, hi', hic⟩ := List.mem_iff_getElem.1 hp
   exact (hps i p (by rw [← hic]; exact List.getElem?_eq_getElem hi')).2.more (by omega)
end
end Go.Proofs.YtfkbkekgnoanaaaGreatDoor
namespace Go.Proofs.YtfkbkekgnoanaaaGreatDoor
open Go Go.RowKit
def zvW : WV := .mk ⟨false, 0, 0, none, 0, 0, [], none, 0, 0, [], none, 0, 0⟩ []
theorem zv_in (w : World) : WIn w 1 zvW :=
 ⟨⟨.inl rfl, rfl, by decide, (fun r hr => by cases hr), .inl rfl, rfl, (fun c hc => by cases hc), by decide⟩, rfl, .inl rfl, fun p hp => by cases hp⟩
theorem sameZ (w : World) : Calls Tryz.prog 18 #[.agg #[.bool false, .int .i64 0, .int .u64 0, .slice none 0 0, .slice none 0 0, .slice none 0 0], .agg #[.bool false, .int .i64 0, .int .u64 0, .slice none 0 0, .slice none 0 0, .slice none 0 0]] w fun e w' => e = .returned (.bool true) ∧ Below w.heap.size w w' :=
 sameWR_is 1 1 zvW zvW w (zv_in w) (zv_in w) rfl rfl
end Go.Proofs.YtfkbkekgnoanaaaGreatDoor
namespace Go.Proofs.YtfkbkekgnoanaaaGreatDoor
open Go Go.RowKit
theorem RowN.lim {lo : Nat} {W : World} {a : Option Addr} {c : Nat} {xs : List Int} (h : RowN lo W a c xs) : xs.length ≤ maxLen := by
 rcases h.2 with ⟨e1, e2⟩ | ⟨g, cap, cur, e1, _, _, hn, hm, _⟩
 ·omega
 ·omega
theorem sameC_nil (w : World) : Calls Tryz.prog 17 #[.agg #[.int .i64 0, .slice none 0 0], .agg #[.int .i64 0, .slice none 0 0]] w (fun e w' => e = .returned (.bool (true)) ∧ Below w.heap.size w w') := by
 have h := sameC_c 0 none 0 0 [] 0 none 0 0 [] w (.inl rfl) rfl (.inl rfl) rfl (by decide)
 rw [show decide ((0 : Int) = 0 ∧ ([] : List Int) = []) = true from decide_eq_true ⟨rfl, rfl⟩] at h
 exact h
theorem sameC_eq {w : World} (q : Int) {a1 a2 : Option Addr} {c1 c2 : Nat} {us : List Int} (h1 : Row w a1 us) (h2 : Row w a2 us) (hm : us.length ≤ 9223372036854775807) : Calls Tryz.prog 17 #[.agg #[.int .i64 q, .slice a1 us.length c1], .agg #[.int .i64 q, .slice a2 us.length c2]] w (fun e w' => e = .returned (.bool (true)) ∧ Below w.heap.size w w') := by
 have h := sameC_c q a1 us.length c1 us q a2 us.length c2 us w h1 rfl h2 rfl hm
 rw [show decide (q = q ∧ us = us) = true from decide_eq_true ⟨rfl, rfl⟩] at h
 exact h
theorem stepsRuns_walk0 (ds d : Nat) (p : PV) (c : CV) (la : Option Addr) (ll lc : Nat) (is : List Int) (w : World) (hp : PvIn w ds d p) (hcf : CIn w c) (hcc : c.wl ≤ c.wc) (hrla : Row w la is) (hll : is.length = ll) (hlc : ll ≤ lc) (hlm : ll ≤ 9223372036854775807) (ht : Tabs w) :
  Calls Tryz.prog 4 #[p.val, c.val, .slice la ll lc] w (fun e w' => e = .returned (.bool (true)) ∧ Below w.heap.size w w') := by
 refine enterF (args := [p.val, c.val, .slice la ll lc]) Tryz.func4 rfl Tryz.ntmps4 rfl ?_
 have hS := St.start w
 refine seqF (regF ?_)
 refine op_box (cs := [_, _, _, _, _, _]) hS rfl rfl rfl ?_
 clear hS; intro B1 W1 hS
 refine op_box (cs := [_, _]) hS rfl rfl rfl ?_
 clear hS; intro B2 W2 hS
 refine op_assign rfl rfl ?_
 refine endF (XF.thenN ?_)
 refine seqF ?_
 refine seqF (regF ?_)
 refine op_move rfl rfl ?_
 refine op_len Tryz.underlying29 rfl rfl ?_
 refine op_gtr rfl rfl rfl ?_
 refine endF (XF.thenN ?_)
 refine condF rfl (fun hc => ?_) (fun hc => ?_)
 ·have hc17 := of_decide_eq_true hc; clear hc
  have hk3 : 300 < ll := by omega
  have hla : ∀ x, la = some x → ∃ b o, x = ⟨b, o, none⟩ := fun x hx => by
   rcases hrla with h | ⟨b, off, h, _⟩
   ·rw [h] at hll; simp at hll; omega
   ·exact ⟨b, off, by rw [h] at hx; exact (Option.some.inj hx).symm⟩
  obtain ⟨is2, hi2⟩ : ∃ z, z = is.take 300 := ⟨_, rfl⟩
  have hrl2 : Row w la is2 := by rw [hi2]; exact hrla.take 300
  have hll2 : is2.length = 300 := by rw [hi2, List.length_take]; omega
  refine regF ?_
  refine op_move rfl rfl ?_
  refine op_sliceTo (k := 300) Tryz.underlying29 Tryz.sizeOf3 rfl rfl (by decide) (by omega) (by omega) hla rfl ?_
  refine op_assign rfl rfl ?_
  refine endF (XF.thenN ?_)
  refine seqF ?_
  rcases run_cases is2 hp with hne | ⟨S, px, n, e0, hrd, hR⟩ | ⟨S, px, st, n, e0, hrd, hR⟩
  ·skip
   refine regF ?_
   refine op_loadA (vs := [_, _, _, _, _, _]) Tryz.isAgg28 Tryz.sizeOf28 rfl (CellsAt.own (j := 0) (m := 6) (hS.at_ 1 rfl) rfl) rfl ?_
   refine op_loadA (vs := [_, _]) Tryz.isAgg31 Tryz.sizeOf31 rfl (CellsAt.own (j := 0) (m := 2) (hS.at_ 0 rfl) rfl) rfl ?_
   refine op_move rfl rfl ?_
   refine op_call (vs := [_, _, _]) hS goes_15 rfl (runA_bad ds d p c _ _ _ _ (hp.below hS.below) (hcf.below hS.below) hne) rfl ?_
   rintro e W3 ⟨rfl, hb⟩
   refine ⟨_, rfl, hb, fun hS' => ?_⟩
   clear hS; have hS := hS'; clear hS' hb
   refine op_move rfl rfl ?_
   refine op_extract rfl rfl rfl ?_
   refine op_extract rfl rfl rfl ?_
   refine op_extract rfl rfl rfl ?_
   refine op_extract rfl rfl rfl ?_
   refine op_alloc (cs := [_, _]) hS Tryz.zeroValue31 rfl rfl ?_
   clear hS; intro B4 W4 hS
   refine op_alloc (cs := [_, _, _, _, _, _]) hS Tryz.zeroValue48 rfl rfl ?_
   clear hS; intro B5 W5 hS
   refine op_storeA (i := 1) (vs := [_, _]) (cs' := [_, _]) (O' := [_, _, _, _]) hS Tryz.sizeOf31 rfl rfl rfl rfl rfl rfl rfl ?_
   clear hS; intro W6 hS
   refine op_storeA (i := 0) (vs := [_, _, _, _, _, _]) (cs' := [_, _, _, _, _, _]) (O' := [_, _, _, _]) hS Tryz.sizeOf48 rfl rfl rfl rfl rfl rfl rfl ?_
   clear hS; intro W7 hS
   refine op_assign rfl rfl ?_
   refine op_assign rfl rfl ?_
   refine endF (XF.thenN ?_)
   refine seqF (regF ?_)
   refine op_loadA (vs := [_, _, _, _, _, _]) Tryz.isAgg28 Tryz.sizeOf28 rfl (CellsAt.own (j := 0) (m := 6) (hS.at_ 3 rfl) rfl) rfl ?_
   refine op_loadA (vs := [_, _]) Tryz.isAgg31 Tryz.sizeOf31 rfl (CellsAt.own (j := 0) (m := 2) (hS.at_ 2 rfl) rfl) rfl ?_
   refine op_move rfl rfl ?_
   refine op_call (vs := [_, _, _]) hS goes_16 rfl (runR_bad ds d p c _ _ _ _ (hp.below hS.below) (hcf.below hS.below) hne) rfl ?_
   rintro e W8 ⟨rfl, hb⟩
   refine ⟨_, rfl, hb, fun hS' => ?_⟩
   clear hS; have hS := hS'; clear hS' hb
   refine op_move rfl rfl ?_
   refine op_extract rfl rfl rfl ?_
   refine op_extract rfl rfl rfl ?_
   refine op_extract rfl rfl rfl ?_
   refine op_extract rfl rfl rfl ?_
   refine op_alloc (cs := [_, _]) hS Tryz.zeroValue31 rfl rfl ?_
   clear hS; intro B9 W9 hS
   refine op_alloc (cs := [_, _, _, _, _, _]) hS Tryz.zeroValue48 rfl rfl ?_
   clear hS; intro B10 W10 hS
   refine op_storeA (i := 1) (vs := [_, _]) (cs' := [_, _]) (O' := [_, _, _, _, _, _]) hS Tryz.sizeOf31 rfl rfl rfl rfl rfl rfl rfl ?_
   clear hS; intro W11 hS
   refine op_storeA (i := 0) (vs := [_, _, _, _, _, _]) (cs' := [_, _, _, _, _, _]) (O' := [_, _, _, _, _, _]) hS Tryz.sizeOf48 rfl rfl rfl rfl rfl rfl rfl ?_
   clear hS; intro W12 hS
   refine op_assign rfl rfl ?_
   refine op_assign rfl rfl ?_
   refine endF (XF.thenN ?_)
   refine seqF (regF ?_)
   refine op_loadA (vs := [_, _]) Tryz.isAgg31 Tryz.sizeOf31 rfl (CellsAt.own (j := 0) (m := 2) (hS.at_ 3 rfl) rfl) rfl ?_
   refine op_loadA (vs := [_, _]) Tryz.isAgg31 Tryz.sizeOf31 rfl (CellsAt.own (j := 0) (m := 2) (hS.at_ 1 rfl) rfl) rfl ?_
   refine op_call (vs := [_, _]) hS goes_17 rfl (sameC_nil _) rfl ?_
   rintro e W13 ⟨rfl, hb⟩
   refine ⟨_, rfl, hb, fun hS' => ?_⟩
   clear hS; have hS := hS'; clear hS' hb
   refine op_move rfl rfl ?_
   refine op_wantedF (d := 41) rfl rfl ?_
   refine op_loadA (vs := [_, _, _, _, _, _]) Tryz.isAgg48 Tryz.sizeOf48 rfl (CellsAt.own (j := 0) (m := 6) (hS.at_ 2 rfl) rfl) rfl ?_
   refine op_wantedF (d := 41) rfl rfl ?_
   refine op_loadA (vs := [_, _, _, _, _, _]) Tryz.isAgg48 Tryz.sizeOf48 rfl (CellsAt.own (j := 0) (m := 6) (hS.at_ 0 rfl) rfl) rfl ?_
   refine op_wantedF (d := 41) rfl rfl ?_
   refine op_call (vs := [_, _]) hS goes_18 rfl (sameZ _) rfl ?_
   rintro e W14 ⟨rfl, hb⟩
   refine ⟨_, rfl, hb, fun hS' => ?_⟩
   clear hS; have hS := hS'; clear hS' hb
   refine op_pickT rfl rfl rfl ?_
   refine op_move rfl rfl ?_
   refine op_wantedF (d := 46) rfl rfl ?_
   refine op_move rfl rfl ?_
   refine op_wantedF (d := 46) rfl rfl ?_
   refine op_move rfl rfl ?_
   refine op_wantedF (d := 46) rfl rfl ?_
   refine op_eql rfl rfl rfl ?_
   refine op_pickT rfl rfl rfl ?_
   refine op_move rfl rfl ?_
   refine op_cases (d := 51) rfl (fun hc => ?_) (fun hc => absurd (of_decide_eq_false hc) (by omega))
   have hc := of_decide_eq_true hc
   refine op_wantedF (d := 51) rfl rfl ?_
   refine op_move rfl rfl ?_
   refine op_wantedF (d := 51) rfl rfl ?_
   refine op_move rfl rfl ?_
   refine op_wantedF (d := 51) rfl rfl ?_
   refine op_eql rfl rfl rfl ?_
   refine op_pickT rfl rfl rfl ?_
   refine op_move rfl rfl ?_
   refine op_cases (d := 56) rfl (fun hc => ?_) (fun hc => absurd (of_decide_eq_false hc) (by omega))
   have hc := of_decide_eq_true hc
   refine op_wantedF (d := 56) rfl rfl ?_
   refine op_call (vs := []) hS goes_14 rfl (awakeS_is _ (ht.below hS.below)) rfl ?_
   rintro e W15 ⟨rfl, hb⟩
   refine ⟨_, rfl, hb, fun hS' => ?_⟩
   clear hS; have hS := hS'; clear hS' hb
   refine op_pickT rfl rfl rfl ?_
   refine op_assign rfl rfl ?_
   refine endF (XF.thenN ?_)
   refine retF ?_
   refine XF.res (res1 Tryz.results4 rfl) ?_
   exact ⟨rfl, hS.below⟩
  ·skip
   refine regF ?_
   refine op_loadA (vs := [_, _, _, _, _, _]) Tryz.isAgg28 Tryz.sizeOf28 rfl (CellsAt.own (j := 0) (m := 6) (hS.at_ 1 rfl) rfl) rfl ?_
   refine op_loadA (vs := [_, _]) Tryz.isAgg31 Tryz.sizeOf31 rfl (CellsAt.own (j := 0) (m := 2) (hS.at_ 0 rfl) rfl) rfl ?_
   refine op_move rfl rfl ?_
   refine op_call (vs := [_, _, _]) hS goes_15 rfl (runA_is (hp.below hS.below) (hcf.below hS.below) hcc (hrl2.below hS.below) hll2 (by omega) (hrd.below hS.below) (ht.below hS.below) hR) rfl ?_
   rintro e W16 ⟨hb, rfl⟩
   refine ⟨_, rfl, hb, fun hS' => ?_⟩
   clear hS; have hS := hS'; clear hS' hb
   refine op_move rfl rfl ?_
   refine op_extract rfl rfl rfl ?_
   refine op_extract rfl rfl rfl ?_
   refine op_extract rfl rfl rfl ?_
   refine op_extract rfl rfl rfl ?_
   refine op_alloc (cs := [_, _]) hS Tryz.zeroValue31 rfl rfl ?_
   clear hS; intro B17 W17 hS
   refine op_alloc (cs := [_, _, _, _, _, _]) hS Tryz.zeroValue48 rfl rfl ?_
   clear hS; intro B18 W18 hS
   refine op_storeA (i := 1) (vs := [_, _]) (cs' := [_, _]) (O' := [_, _, _, _]) hS Tryz.sizeOf31 rfl rfl rfl rfl rfl rfl rfl ?_
   clear hS; intro W19 hS
   refine op_storeA (i := 0) (vs := [_, _, _, _, _, _]) (cs' := [_, _, _, _, _, _]) (O' := [_, _, _, _]) hS Tryz.sizeOf48 rfl rfl rfl rfl rfl rfl rfl ?_
   clear hS; intro W20 hS
   refine op_assign rfl rfl ?_
   refine op_assign rfl rfl ?_
   refine endF (XF.thenN ?_)
   refine seqF (regF ?_)
   refine op_loadA (vs := [_, _, _, _, _, _]) Tryz.isAgg28 Tryz.sizeOf28 rfl (CellsAt.own (j := 0) (m := 6) (hS.at_ 3 rfl) rfl) rfl ?_
   refine op_loadA (vs := [_, _]) Tryz.isAgg31 Tryz.sizeOf31 rfl (CellsAt.own (j := 0) (m := 2) (hS.at_ 2 rfl) rfl) rfl ?_
   refine op_move rfl rfl ?_
   refine op_call (vs := [_, _, _]) hS goes_16 rfl (runR_is (hp.below hS.below) (hcf.below hS.below) hcc (hrl2.below hS.below) hll2 (by omega) (hrd.below hS.below) (ht.below hS.below) hR) rfl ?_
   rintro e W21 ⟨hb, rfl⟩
   refine ⟨_, rfl, hb, fun hS' => ?_⟩
   clear hS; have hS := hS'; clear hS' hb
   refine op_move rfl rfl ?_
   refine op_extract rfl rfl rfl ?_
   refine op_extract rfl rfl rfl ?_
   refine op_extract rfl rfl rfl ?_
   refine op_extract rfl rfl rfl ?_
   refine op_alloc (cs := [_, _]) hS Tryz.zeroValue31 rfl rfl ?_
   clear hS; intro B22 W22 hS
   refine op_alloc (cs := [_, _, _, _, _, _]) hS Tryz.zeroValue48 rfl rfl ?_
   clear hS; intro B23 W23 hS
   refine op_storeA (i := 1) (vs := [_, _]) (cs' := [_, _]) (O' := [_, _, _, _, _, _]) hS Tryz.sizeOf31 rfl rfl rfl rfl rfl rfl rfl ?_
   clear hS; intro W24 hS
   refine op_storeA (i := 0) (vs := [_, _, _, _, _, _]) (cs' := [_, _, _, _, _, _]) (O' := [_, _, _, _, _, _]) hS Tryz.sizeOf48 rfl rfl rfl rfl rfl rfl rfl ?_
   clear hS; intro W25 hS
   refine op_assign rfl rfl ?_
   refine op_assign rfl rfl ?_
   refine endF (XF.thenN ?_)
   refine seqF (regF ?_)
   refine op_loadA (vs := [_, _]) Tryz.isAgg31 Tryz.sizeOf31 rfl (CellsAt.own (j := 0) (m := 2) (hS.at_ 3 rfl) rfl) rfl ?_
   refine op_loadA (vs := [_, _]) Tryz.isAgg31 Tryz.sizeOf31 rfl (CellsAt.own (j := 0) (m := 2) (hS.at_ 1 rfl) rfl) rfl ?_
   refine op_call (vs := [_, _]) hS goes_17 rfl (sameC_nil _) rfl ?_
   rintro e W26 ⟨rfl, hb⟩
   refine ⟨_, rfl, hb, fun hS' => ?_⟩
   clear hS; have hS := hS'; clear hS' hb
   refine op_move rfl rfl ?_
   refine op_wantedF (d := 41) rfl rfl ?_
   refine op_loadA (vs := [_, _, _, _, _, _]) Tryz.isAgg48 Tryz.sizeOf48 rfl (CellsAt.own (j := 0) (m := 6) (hS.at_ 2 rfl) rfl) rfl ?_
   refine op_wantedF (d := 41) rfl rfl ?_
   refine op_loadA (vs := [_, _, _, _, _, _]) Tryz.isAgg48 Tryz.sizeOf48 rfl (CellsAt.own (j := 0) (m := 6) (hS.at_ 0 rfl) rfl) rfl ?_
   refine op_wantedF (d := 41) rfl rfl ?_
   refine op_call (vs := [_, _]) hS goes_18 rfl (sameZ _) rfl ?_
   rintro e W27 ⟨rfl, hb⟩
   refine ⟨_, rfl, hb, fun hS' => ?_⟩
   clear hS; have hS := hS'; clear hS' hb
   refine op_pickT rfl rfl rfl ?_
   refine op_move rfl rfl ?_
   refine op_wantedF (d := 46) rfl rfl ?_
   refine op_move rfl rfl ?_
   refine op_wantedF (d := 46) rfl rfl ?_
   refine op_move rfl rfl ?_
   refine op_wantedF (d := 46) rfl rfl ?_
   refine op_eql rfl rfl rfl ?_
   refine op_pickT rfl rfl rfl ?_
   refine op_move rfl rfl ?_
   refine op_cases (d := 51) rfl (fun hc => ?_) (fun hc => absurd (of_decide_eq_false hc) (by omega))
   have hc := of_decide_eq_true hc
   refine op_wantedF (d := 51) rfl rfl ?_
   refine op_move rfl rfl ?_
   refine op_wantedF (d := 51) rfl rfl ?_
   refine op_move rfl rfl ?_
   refine op_wantedF (d := 51) rfl rfl ?_
   refine op_eql rfl rfl rfl ?_
   refine op_pickT rfl rfl rfl ?_
   refine op_move rfl rfl ?_
   refine op_cases (d := 56) rfl (fun hc => ?_) (fun hc => absurd (of_decide_eq_false hc) (by omega))
   have hc := of_decide_eq_true hc
   refine op_wantedF (d := 56) rfl rfl ?_
   refine op_call (vs := []) hS goes_14 rfl (awakeS_is _ (ht.below hS.below)) rfl ?_
   rintro e W28 ⟨rfl, hb⟩
   refine ⟨_, rfl, hb, fun hS' => ?_⟩
   clear hS; have hS := hS'; clear hS' hb
   refine op_pickT rfl rfl rfl ?_
   refine op_assign rfl rfl ?_
   refine endF (XF.thenN ?_)
   refine retF ?_
   refine XF.res (res1 Tryz.results4 rfl) ?_
   exact ⟨rfl, hS.below⟩
  ·obtain ⟨q, us, x⟩ := st
   refine regF ?_
   refine op_loadA (vs := [_, _, _, _, _, _]) Tryz.isAgg28 Tryz.sizeOf28 rfl (CellsAt.own (j := 0) (m := 6) (hS.at_ 1 rfl) rfl) rfl ?_
   refine op_loadA (vs := [_, _]) Tryz.isAgg31 Tryz.sizeOf31 rfl (CellsAt.own (j := 0) (m := 2) (hS.at_ 0 rfl) rfl) rfl ?_
   refine op_move rfl rfl ?_
   refine op_call (vs := [_, _, _]) hS goes_15 rfl (runA_is (hp.below hS.below) (hcf.below hS.below) hcc (hrl2.below hS.below) hll2 (by omega) (hrd.below hS.below) (ht.below hS.below) hR) rfl ?_
   rintro e W29 ⟨hb, a1, c1, f1, rfl, hn1, hx1⟩
   refine ⟨_, rfl, hb, fun hS' => ?_⟩
   clear hS; have hS := hS'; clear hS' hb
   refine op_move rfl rfl ?_
   refine op_extract rfl rfl rfl ?_
   refine op_extract rfl rfl rfl ?_
   refine op_extract rfl rfl rfl ?_
   refine op_extract rfl rfl rfl ?_
   refine op_alloc (cs := [_, _]) hS Tryz.zeroValue31 rfl rfl ?_
   clear hS; intro B30 W30 hS
   refine op_alloc (cs := [_, _, _, _, _, _]) hS Tryz.zeroValue48 rfl rfl ?_
   clear hS; intro B31 W31 hS
   refine op_storeA (i := 1) (vs := [_, _]) (cs' := [_, _]) (O' := [_, _, _, _]) hS Tryz.sizeOf31 rfl rfl rfl rfl rfl rfl rfl ?_
   clear hS; intro W32 hS
   refine op_storeA (i := 0) (vs := [_, _, _, _, _, _]) (cs' := [_, _, _, _, _, _]) (O' := [_, _, _, _]) hS Tryz.sizeOf48 rfl rfl rfl rfl rfl rfl rfl ?_
   clear hS; intro W33 hS
   refine op_assign rfl rfl ?_
   refine op_assign rfl rfl ?_
   refine endF (XF.thenN ?_)
   refine seqF (regF ?_)
   refine op_loadA (vs := [_, _, _, _, _, _]) Tryz.isAgg28 Tryz.sizeOf28 rfl (CellsAt.own (j := 0) (m := 6) (hS.at_ 3 rfl) rfl) rfl ?_
   refine op_loadA (vs := [_, _]) Tryz.isAgg31 Tryz.sizeOf31 rfl (CellsAt.own (j := 0) (m := 2) (hS.at_ 2 rfl) rfl) rfl ?_
   refine op_move rfl rfl ?_
   refine op_call (vs := [_, _, _]) hS goes_16 rfl (runR_is (hp.below hS.below) (hcf.below hS.below) hcc (hrl2.below hS.below) hll2 (by omega) (hrd.below hS.below) (ht.below hS.below) hR) rfl ?_
   rintro e W34 ⟨hb, a2, c2, f2, rfl, hn2, hx2⟩
   refine ⟨_, rfl, hb, fun hS' => ?_⟩
   clear hS; have hS := hS'; clear hS' hb
   refine op_move rfl rfl ?_
   refine op_extract rfl rfl rfl ?_
   refine op_extract rfl rfl rfl ?_
   refine op_extract rfl rfl rfl ?_
   refine op_extract rfl rfl rfl ?_
   refine op_alloc (cs := [_, _]) hS Tryz.zeroValue31 rfl rfl ?_
   clear hS; intro B35 W35 hS
   refine op_alloc (cs := [_, _, _, _, _, _]) hS Tryz.zeroValue48 rfl rfl ?_
   clear hS; intro B36 W36 hS
   refine op_storeA (i := 1) (vs := [_, _]) (cs' := [_, _]) (O' := [_, _, _, _, _, _]) hS Tryz.sizeOf31 rfl rfl rfl rfl rfl rfl rfl ?_
   clear hS; intro W37 hS
   refine op_storeA (i := 0) (vs := [_, _, _, _, _, _]) (cs' := [_, _, _, _, _, _]) (O' := [_, _, _, _, _, _]) hS Tryz.sizeOf48 rfl rfl rfl rfl rfl rfl rfl ?_
   clear hS; intro W38 hS
   refine op_assign rfl rfl ?_
   refine op_assign rfl rfl ?_
   refine endF (XF.thenN ?_)
   refine seqF ?_
   have hus : us.length ≤ 9223372036854775807 := by have h2 : us.length ≤ maxLen := hn1.lim; simp only [maxLen] at h2; omega
   refine regF ?_
   refine op_loadA (vs := [_, _]) Tryz.isAgg31 Tryz.sizeOf31 rfl (CellsAt.own (j := 0) (m := 2) (hS.at_ 3 rfl) rfl) rfl ?_
   refine op_loadA (vs := [_, _]) Tryz.isAgg31 Tryz.sizeOf31 rfl (CellsAt.own (j := 0) (m := 2) (hS.at_ 1 rfl) rfl) rfl ?_
   refine op_call (vs := [_, _]) hS goes_17 rfl (sameC_eq q (hn1.agree (hS.since 1 rfl)).row (hn2.agree (hS.since 0 rfl)).row hus) rfl ?_
   rintro e W39 ⟨rfl, hb⟩
   refine ⟨_, rfl, hb, fun hS' => ?_⟩
   clear hS; have hS := hS'; clear hS' hb
   refine op_move rfl rfl ?_
   refine op_wantedF (d := 41) rfl rfl ?_
   refine op_loadA (vs := [_, _, _, _, _, _]) Tryz.isAgg48 Tryz.sizeOf48 rfl (CellsAt.own (j := 0) (m := 6) (hS.at_ 2 rfl) rfl) rfl ?_
   refine op_wantedF (d := 41) rfl rfl ?_
   refine op_loadA (vs := [_, _, _, _, _, _]) Tryz.isAgg48 Tryz.sizeOf48 rfl (CellsAt.own (j := 0) (m := 6) (hS.at_ 0 rfl) rfl) rfl ?_
   refine op_wantedF (d := 41) rfl rfl ?_
   refine op_call (vs := [_, _]) hS goes_18 rfl (sameW_is ((hx1.agree (hS.since 2 rfl)).is) ((hx2.agree (hS.since 1 rfl)).is) true (by simp)) rfl ?_
   rintro e W40 ⟨rfl, hb⟩
   refine ⟨_, rfl, hb, fun hS' => ?_⟩
   clear hS; have hS := hS'; clear hS' hb
   refine op_pickT rfl rfl rfl ?_
   refine op_move rfl rfl ?_
   refine op_wantedF (d := 46) rfl rfl ?_
   refine op_move rfl rfl ?_
   refine op_wantedF (d := 46) rfl rfl ?_
   refine op_move rfl rfl ?_
   refine op_wantedF (d := 46) rfl rfl ?_
   refine op_eql rfl rfl rfl ?_
   refine op_pickT rfl rfl rfl ?_
   refine op_move rfl rfl ?_
   refine op_cases (d := 51) rfl (fun hc => ?_) (fun hc => absurd (of_decide_eq_false hc) (by omega))
   have hc := of_decide_eq_true hc
   refine op_wantedF (d := 51) rfl rfl ?_
   refine op_move rfl rfl ?_
   refine op_wantedF (d := 51) rfl rfl ?_
   refine op_move rfl rfl ?_
   refine op_wantedF (d := 51) rfl rfl ?_
   refine op_eql rfl rfl rfl ?_
   refine op_pickT rfl rfl rfl ?_
   refine op_move rfl rfl ?_
   refine op_cases (d := 56) rfl (fun hc => ?_) (fun hc => absurd (of_decide_eq_false hc) (by omega))
   have hc := of_decide_eq_true hc
   refine op_wantedF (d := 56) rfl rfl ?_
   refine op_call (vs := []) hS goes_14 rfl (awakeS_is _ (ht.below hS.below)) rfl ?_
   rintro e W41 ⟨rfl, hb⟩
   refine ⟨_, rfl, hb, fun hS' => ?_⟩
   clear hS; have hS := hS'; clear hS' hb
   refine op_pickT rfl rfl rfl ?_
   refine op_assign rfl rfl ?_
   refine endF (XF.thenN ?_)
   refine retF ?_
   refine XF.res (res1 Tryz.results4 rfl) ?_
   exact ⟨rfl, hS.below⟩
 ·have hc17 := of_decide_eq_false hc; clear hc
  obtain ⟨is2, hi2⟩ : ∃ z, z = is := ⟨_, rfl⟩
  have hrl2 : Row w la is2 := by rw [hi2]; exact hrla
  have hll2 : is2.length = ll := by rw [hi2]; exact hll
  refine skipF ?_
  refine XF.thenN ?_
  refine seqF ?_
  rcases run_cases is2 hp with hne | ⟨S, px, n, e0, hrd, hR⟩ | ⟨S, px, st, n, e0, hrd, hR⟩
  ·skip
   refine regF ?_
   refine op_loadA (vs := [_, _, _, _, _, _]) Tryz.isAgg28 Tryz.sizeOf28 rfl (CellsAt.own (j := 0) (m := 6) (hS.at_ 1 rfl) rfl) rfl ?_
   refine op_loadA (vs := [_, _]) Tryz.isAgg31 Tryz.sizeOf31 rfl (CellsAt.own (j := 0) (m := 2) (hS.at_ 0 rfl) rfl) rfl ?_
   refine op_move rfl rfl ?_
   refine op_call (vs := [_, _, _]) hS goes_15 rfl (runA_bad ds d p c _ _ _ _ (hp.below hS.below) (hcf.below hS.below) hne) rfl ?_
   rintro e W42 ⟨rfl, hb⟩
   refine ⟨_, rfl, hb, fun hS' => ?_⟩
   clear hS; have hS := hS'; clear hS' hb
   refine op_move rfl rfl ?_
   refine op_extract rfl rfl rfl ?_
   refine op_extract rfl rfl rfl ?_
   refine op_extract rfl rfl rfl ?_
   refine op_extract rfl rfl rfl ?_
   refine op_alloc (cs := [_, _]) hS Tryz.zeroValue31 rfl rfl ?_
   clear hS; intro B43 W43 hS
   refine op_alloc (cs := [_, _, _, _, _, _]) hS Tryz.zeroValue48 rfl rfl ?_
   clear hS; intro B44 W44 hS
   refine op_storeA (i := 1) (vs := [_, _]) (cs' := [_, _]) (O' := [_, _, _, _]) hS Tryz.sizeOf31 rfl rfl rfl rfl rfl rfl rfl ?_
   clear hS; intro W45 hS
   refine op_storeA (i := 0) (vs := [_, _, _, _, _, _]) (cs' := [_, _, _, _, _, _]) (O' := [_, _, _, _]) hS Tryz.sizeOf48 rfl rfl rfl rfl rfl rfl rfl ?_
   clear hS; intro W46 hS
   refine op_assign rfl rfl ?_
   refine op_assign rfl rfl ?_
   refine endF (XF.thenN ?_)
   refine seqF (regF ?_)
   refine op_loadA (vs := [_, _, _, _, _, _]) Tryz.isAgg28 Tryz.sizeOf28 rfl (CellsAt.own (j := 0) (m := 6) (hS.at_ 3 rfl) rfl) rfl ?_
   refine op_loadA (vs := [_, _]) Tryz.isAgg31 Tryz.sizeOf31 rfl (CellsAt.own (j := 0) (m := 2) (hS.at_ 2 rfl) rfl) rfl ?_
   refine op_move rfl rfl ?_
   refine op_call (vs := [_, _, _]) hS goes_16 rfl (runR_bad ds d p c _ _ _ _ (hp.below hS.below) (hcf.below hS.below) hne) rfl ?_
   rintro e W47 ⟨rfl, hb⟩
   refine ⟨_, rfl, hb, fun hS' => ?_⟩
   clear hS; have hS := hS'; clear hS' hb
   refine op_move rfl rfl ?_
   refine op_extract rfl rfl rfl ?_
   refine op_extract rfl rfl rfl ?_
   refine op_extract rfl rfl rfl ?_
   refine op_extract rfl rfl rfl ?_
   refine op_alloc (cs := [_, _]) hS Tryz.zeroValue31 rfl rfl ?_
   clear hS; intro B48 W48 hS
   refine op_alloc (cs := [_, _, _, _, _, _]) hS Tryz.zeroValue48 rfl rfl ?_
   clear hS; intro B49 W49 hS
   refine op_storeA (i := 1) (vs := [_, _]) (cs' := [_, _]) (O' := [_, _, _, _, _, _]) hS Tryz.sizeOf31 rfl rfl rfl rfl rfl rfl rfl ?_
   clear hS; intro W50 hS
   refine op_storeA (i := 0) (vs := [_, _, _, _, _, _]) (cs' := [_, _, _, _, _, _]) (O' := [_, _, _, _, _, _]) hS Tryz.sizeOf48 rfl rfl rfl rfl rfl rfl rfl ?_
   clear hS; intro W51 hS
   refine op_assign rfl rfl ?_
   refine op_assign rfl rfl ?_
   refine endF (XF.thenN ?_)
   refine seqF (regF ?_)
   refine op_loadA (vs := [_, _]) Tryz.isAgg31 Tryz.sizeOf31 rfl (CellsAt.own (j := 0) (m := 2) (hS.at_ 3 rfl) rfl) rfl ?_
   refine op_loadA (vs := [_, _]) Tryz.isAgg31 Tryz.sizeOf31 rfl (CellsAt.own (j := 0) (m := 2) (hS.at_ 1 rfl) rfl) rfl ?_
   refine op_call (vs := [_, _]) hS goes_17 rfl (sameC_nil _) rfl ?_
   rintro e W52 ⟨rfl, hb⟩
   refine ⟨_, rfl, hb, fun hS' => ?_⟩
   clear hS; have hS := hS'; clear hS' hb
   refine op_move rfl rfl ?_
   refine op_wantedF (d := 41) rfl rfl ?_
   refine op_loadA (vs := [_, _, _, _, _, _]) Tryz.isAgg48 Tryz.sizeOf48 rfl (CellsAt.own (j := 0) (m := 6) (hS.at_ 2 rfl) rfl) rfl ?_
   refine op_wantedF (d := 41) rfl rfl ?_
   refine op_loadA (vs := [_, _, _, _, _, _]) Tryz.isAgg48 Tryz.sizeOf48 rfl (CellsAt.own (j := 0) (m := 6) (hS.at_ 0 rfl) rfl) rfl ?_
   refine op_wantedF (d := 41) rfl rfl ?_
   refine op_call (vs := [_, _]) hS goes_18 rfl (sameZ _) rfl ?_
   rintro e W53 ⟨rfl, hb⟩
   refine ⟨_, rfl, hb, fun hS' => ?_⟩
   clear hS; have hS := hS'; clear hS' hb
   refine op_pickT rfl rfl rfl ?_
   refine op_move rfl rfl ?_
   refine op_wantedF (d := 46) rfl rfl ?_
   refine op_move rfl rfl ?_
   refine op_wantedF (d := 46) rfl rfl ?_
   refine op_move rfl rfl ?_
   refine op_wantedF (d := 46) rfl rfl ?_
   refine op_eql rfl rfl rfl ?_
   refine op_pickT rfl rfl rfl ?_
   refine op_move rfl rfl ?_
   refine op_cases (d := 51) rfl (fun hc => ?_) (fun hc => absurd (of_decide_eq_false hc) (by omega))
   have hc := of_decide_eq_true hc
   refine op_wantedF (d := 51) rfl rfl ?_
   refine op_move rfl rfl ?_
   refine op_wantedF (d := 51) rfl rfl ?_
   refine op_move rfl rfl ?_
   refine op_wantedF (d := 51) rfl rfl ?_
   refine op_eql rfl rfl rfl ?_
   refine op_pickT rfl rfl rfl ?_
   refine op_move rfl rfl ?_
   refine op_cases (d := 56) rfl (fun hc => ?_) (fun hc => absurd (of_decide_eq_false hc) (by omega))
   have hc := of_decide_eq_true hc
   refine op_wantedF (d := 56) rfl rfl ?_
   refine op_call (vs := []) hS goes_14 rfl (awakeS_is _ (ht.below hS.below)) rfl ?_
   rintro e W54 ⟨rfl, hb⟩
   refine ⟨_, rfl, hb, fun hS' => ?_⟩
   clear hS; have hS := hS'; clear hS' hb
   refine op_pickT rfl rfl rfl ?_
   refine op_assign rfl rfl ?_
   refine endF (XF.thenN ?_)
   refine retF ?_
   refine XF.res (res1 Tryz.results4 rfl) ?_
   exact ⟨rfl, hS.below⟩
  ·skip
   refine regF ?_
   refine op_loadA (vs := [_, _, _, _, _, _]) Tryz.isAgg28 Tryz.sizeOf28 rfl (CellsAt.own (j := 0) (m := 6) (hS.at_ 1 rfl) rfl) rfl ?_
   refine op_loadA (vs := [_, _]) Tryz.isAgg31 Tryz.sizeOf31 rfl (CellsAt.own (j := 0) (m := 2) (hS.at_ 0 rfl) rfl) rfl ?_
   refine op_move rfl rfl ?_
   refine op_call (vs := [_, _, _]) hS goes_15 rfl (runA_is (hp.below hS.below) (hcf.below hS.below) hcc (hrl2.below hS.below) hll2 (by omega) (hrd.below hS.below) (ht.below hS.below) hR) rfl ?_
   rintro e W55 ⟨hb, rfl⟩
   refine ⟨_, rfl, hb, fun hS' => ?_⟩
   clear hS; have hS := hS'; clear hS' hb
   refine op_move rfl rfl ?_
   refine op_extract rfl rfl rfl ?_
   refine op_extract rfl rfl rfl ?_
   refine op_extract rfl rfl rfl ?_
   refine op_extract rfl rfl rfl ?_
   refine op_alloc (cs := [_, _]) hS Tryz.zeroValue31 rfl rfl ?_
   clear hS; intro B56 W56 hS
   refine op_alloc (cs := [_, _, _, _, _, _]) hS Tryz.zeroValue48 rfl rfl ?_
   clear hS; intro B57 W57 hS
   refine op_storeA (i := 1) (vs := [_, _]) (cs' := [_, _]) (O' := [_, _, _, _]) hS Tryz.sizeOf31 rfl rfl rfl rfl rfl rfl rfl ?_
   clear hS; intro W58 hS
   refine op_storeA (i := 0) (vs := [_, _, _, _, _, _]) (cs' := [_, _, _, _, _, _]) (O' := [_, _, _, _]) hS Tryz.sizeOf48 rfl rfl rfl rfl rfl rfl rfl ?_
   clear hS; intro W59 hS
   refine op_assign rfl rfl ?_
   refine op_assign rfl rfl ?_
   refine endF (XF.thenN ?_)
   refine seqF (regF ?_)
   refine op_loadA (vs := [_, _, _, _, _, _]) Tryz.isAgg28 Tryz.sizeOf28 rfl (CellsAt.own (j := 0) (m := 6) (hS.at_ 3 rfl) rfl) rfl ?_
   refine op_loadA (vs := [_, _]) Tryz.isAgg31 Tryz.sizeOf31 rfl (CellsAt.own (j := 0) (m := 2) (hS.at_ 2 rfl) rfl) rfl ?_
   refine op_move rfl rfl ?_
   refine op_call (vs := [_, _, _]) hS goes_16 rfl (runR_is (hp.below hS.below) (hcf.below hS.below) hcc (hrl2.below hS.below) hll2 (by omega) (hrd.below hS.below) (ht.below hS.below) hR) rfl ?_
   rintro e W60 ⟨hb, rfl⟩
   refine ⟨_, rfl, hb, fun hS' => ?_⟩
   clear hS; have hS := hS'; clear hS' hb
   refine op_move rfl rfl ?_
   refine op_extract rfl rfl rfl ?_
   refine op_extract rfl rfl rfl ?_
   refine op_extract rfl rfl rfl ?_
   refine op_extract rfl rfl rfl ?_
   refine op_alloc (cs := [_, _]) hS Tryz.zeroValue31 rfl rfl ?_
   clear hS; intro B61 W61 hS
   refine op_alloc (cs := [_, _, _, _, _, _]) hS Tryz.zeroValue48 rfl rfl ?_
   clear hS; intro B62 W62 hS
   refine op_storeA (i := 1) (vs := [_, _]) (cs' := [_, _]) (O' := [_, _, _, _, _, _]) hS Tryz.sizeOf31 rfl rfl rfl rfl rfl rfl rfl ?_
   clear hS; intro W63 hS
   refine op_storeA (i := 0) (vs := [_, _, _, _, _, _]) (cs' := [_, _, _, _, _, _]) (O' := [_, _, _, _, _, _]) hS Tryz.sizeOf48 rfl rfl rfl rfl rfl rfl rfl ?_
   clear hS; intro W64 hS
   refine op_assign rfl rfl ?_
   refine op_assign rfl rfl ?_
   refine endF (XF.thenN ?_)
   refine seqF (regF ?_)
   refine op_loadA (vs := [_, _]) Tryz.isAgg31 Tryz.sizeOf31 rfl (CellsAt.own (j := 0) (m := 2) (hS.at_ 3 rfl) rfl) rfl ?_
   refine op_loadA (vs := [_, _]) Tryz.isAgg31 Tryz.sizeOf31 rfl (CellsAt.own (j := 0) (m := 2) (hS.at_ 1 rfl) rfl) rfl ?_
   refine op_call (vs := [_, _]) hS goes_17 rfl (sameC_nil _) rfl ?_
   rintro e W65 ⟨rfl, hb⟩
   refine ⟨_, rfl, hb, fun hS' => ?_⟩
   clear hS; have hS := hS'; clear hS' hb
   refine op_move rfl rfl ?_
   refine op_wantedF (d := 41) rfl rfl ?_
   refine op_loadA (vs := [_, _, _, _, _, _]) Tryz.isAgg48 Tryz.sizeOf48 rfl (CellsAt.own (j := 0) (m := 6) (hS.at_ 2 rfl) rfl) rfl ?_
   refine op_wantedF (d := 41) rfl rfl ?_
   refine op_loadA (vs := [_, _, _, _, _, _]) Tryz.isAgg48 Tryz.sizeOf48 rfl (CellsAt.own (j := 0) (m := 6) (hS.at_ 0 rfl) rfl) rfl ?_
   refine op_wantedF (d := 41) rfl rfl ?_
   refine op_call (vs := [_, _]) hS goes_18 rfl (sameZ _) rfl ?_
   rintro e W66 ⟨rfl, hb⟩
   refine ⟨_, rfl, hb, fun hS' => ?_⟩
   clear hS; have hS := hS'; clear hS' hb
   refine op_pickT rfl rfl rfl ?_
   refine op_move rfl rfl ?_
   refine op_wantedF (d := 46) rfl rfl ?_
   refine op_move rfl rfl ?_
   refine op_wantedF (d := 46) rfl rfl ?_
   refine op_move rfl rfl ?_
   refine op_wantedF (d := 46) rfl rfl ?_
   refine op_eql rfl rfl rfl ?_
   refine op_pickT rfl rfl rfl ?_
   refine op_move rfl rfl ?_
   refine op_cases (d := 51) rfl (fun hc => ?_) (fun hc => absurd (of_decide_eq_false hc) (by omega))
   have hc := of_decide_eq_true hc
   refine op_wantedF (d := 51) rfl rfl ?_
   refine op_move rfl rfl ?_
   refine op_wantedF (d := 51) rfl rfl ?_
   refine op_move rfl rfl ?_
   refine op_wantedF (d := 51) rfl rfl ?_
   refine op_eql rfl rfl rfl ?_
   refine op_pickT rfl rfl rfl ?_
   refine op_move rfl rfl ?_
   refine op_cases (d := 56) rfl (fun hc => ?_) (fun hc => absurd (of_decide_eq_false hc) (by omega))
   have hc := of_decide_eq_true hc
   refine op_wantedF (d := 56) rfl rfl ?_
   refine op_call (vs := []) hS goes_14 rfl (awakeS_is _ (ht.below hS.below)) rfl ?_
   rintro e W67 ⟨rfl, hb⟩
   refine ⟨_, rfl, hb, fun hS' => ?_⟩
   clear hS; have hS := hS'; clear hS' hb
   refine op_pickT rfl rfl rfl ?_
   refine op_assign rfl rfl ?_
   refine endF (XF.thenN ?_)
   refine retF ?_
   refine XF.res (res1 Tryz.results4 rfl) ?_
   exact ⟨rfl, hS.below⟩
  ·obtain ⟨q, us, x⟩ := st
   refine regF ?_
   refine op_loadA (vs := [_, _, _, _, _, _]) Tryz.isAgg28 Tryz.sizeOf28 rfl (CellsAt.own (j := 0) (m := 6) (hS.at_ 1 rfl) rfl) rfl ?_
   refine op_loadA (vs := [_, _]) Tryz.isAgg31 Tryz.sizeOf31 rfl (CellsAt.own (j := 0) (m := 2) (hS.at_ 0 rfl) rfl) rfl ?_
   refine op_move rfl rfl ?_
   refine op_call (vs := [_, _, _]) hS goes_15 rfl (runA_is (hp.below hS.below) (hcf.below hS.below) hcc (hrl2.below hS.below) hll2 (by omega) (hrd.below hS.below) (ht.below hS.below) hR) rfl ?_
   rintro e W68 ⟨hb, a1, c1, f1, rfl, hn1, hx1⟩
   refine ⟨_, rfl, hb, fun hS' => ?_⟩
   clear hS; have hS := hS'; clear hS' hb
   refine op_move rfl rfl ?_
   refine op_extract rfl rfl rfl ?_
   refine op_extract rfl rfl rfl ?_
   refine op_extract rfl rfl rfl ?_
   refine op_extract rfl rfl rfl ?_
   refine op_alloc (cs := [_, _]) hS Tryz.zeroValue31 rfl rfl ?_
   clear hS; intro B69 W69 hS
   refine op_alloc (cs := [_, _, _, _, _, _]) hS Tryz.zeroValue48 rfl rfl ?_
   clear hS; intro B70 W70 hS
   refine op_storeA (i := 1) (vs := [_, _]) (cs' := [_, _]) (O' := [_, _, _, _]) hS Tryz.sizeOf31 rfl rfl rfl rfl rfl rfl rfl ?_
   clear hS; intro W71 hS
   refine op_storeA (i := 0) (vs := [_, _, _, _, _, _]) (cs' := [_, _, _, _, _, _]) (O' := [_, _, _, _]) hS Tryz.sizeOf48 rfl rfl rfl rfl rfl rfl rfl ?_
   clear hS; intro W72 hS
   refine op_assign rfl rfl ?_
   refine op_assign rfl rfl ?_
   refine endF (XF.thenN ?_)
   refine seqF (regF ?_)
   refine op_loadA (vs := [_, _, _, _, _, _]) Tryz.isAgg28 Tryz.sizeOf28 rfl (CellsAt.own (j := 0) (m := 6) (hS.at_ 3 rfl) rfl) rfl ?_
   refine op_loadA (vs := [_, _]) Tryz.isAgg31 Tryz.sizeOf31 rfl (CellsAt.own (j := 0) (m := 2) (hS.at_ 2 rfl) rfl) rfl ?_
   refine op_move rfl rfl ?_
   refine op_call (vs := [_, _, _]) hS goes_16 rfl (runR_is (hp.below hS.below) (hcf.below hS.below) hcc (hrl2.below hS.below) hll2 (by omega) (hrd.below hS.below) (ht.below hS.below) hR) rfl ?_
   rintro e W73 ⟨hb, a2, c2, f2, rfl, hn2, hx2⟩
   refine ⟨_, rfl, hb, fun hS' => ?_⟩
   clear hS; have hS := hS'; clear hS' hb
   refine op_move rfl rfl ?_
   refine op_extract rfl rfl rfl ?_
   refine op_extract rfl rfl rfl ?_
   refine op_extract rfl rfl rfl ?_
   refine op_extract rfl rfl rfl ?_
   refine op_alloc (cs := [_, _]) hS Tryz.zeroValue31 rfl rfl ?_
   clear hS; intro B74 W74 hS
   refine op_alloc (cs := [_, _, _, _, _, _]) hS Tryz.zeroValue48 rfl rfl ?_
   clear hS; intro B75 W75 hS
   refine op_storeA (i := 1) (vs := [_, _]) (cs' := [_, _]) (O' := [_, _, _, _, _, _]) hS Tryz.sizeOf31 rfl rfl rfl rfl rfl rfl rfl ?_
   clear hS; intro W76 hS
   refine op_storeA (i := 0) (vs := [_, _, _, _, _, _]) (cs' := [_, _, _, _, _, _]) (O' := [_, _, _, _, _, _]) hS Tryz.sizeOf48 rfl rfl rfl rfl rfl rfl rfl ?_
   clear hS; intro W77 hS
   refine op_assign rfl rfl ?_
   refine op_assign rfl rfl ?_
   refine endF (XF.thenN ?_)
   refine seqF ?_
   have hus : us.length ≤ 9223372036854775807 := by have h2 : us.length ≤ maxLen := hn1.lim; simp only [maxLen] at h2; omega
   refine regF ?_
   refine op_loadA (vs := [_, _]) Tryz.isAgg31 Tryz.sizeOf31 rfl (CellsAt.own (j := 0) (m := 2) (hS.at_ 3 rfl) rfl) rfl ?_
   refine op_loadA (vs := [_, _]) Tryz.isAgg31 Tryz.sizeOf31 rfl (CellsAt.own (j := 0) (m := 2) (hS.at_ 1 rfl) rfl) rfl ?_
   refine op_call (vs := [_, _]) hS goes_17 rfl (sameC_eq q (hn1.agree (hS.since 1 rfl)).row (hn2.agree (hS.since 0 rfl)).row hus) rfl ?_
   rintro e W78 ⟨rfl, hb⟩
   refine ⟨_, rfl, hb, fun hS' => ?_⟩
   clear hS; have hS := hS'; clear hS' hb
   refine op_move rfl rfl ?_
   refine op_wantedF (d := 41) rfl rfl ?_
   refine op_loadA (vs := [_, _, _, _, _, _]) Tryz.isAgg48 Tryz.sizeOf48 rfl (CellsAt.own (j := 0) (m := 6) (hS.at_ 2 rfl) rfl) rfl ?_
   refine op_wantedF (d := 41) rfl rfl ?_
   refine op_loadA (vs := [_, _, _, _, _, _]) Tryz.isAgg48 Tryz.sizeOf48 rfl (CellsAt.own (j := 0) (m := 6) (hS.at_ 0 rfl) rfl) rfl ?_
   refine op_wantedF (d := 41) rfl rfl ?_
   refine op_call (vs := [_, _]) hS goes_18 rfl (sameW_is ((hx1.agree (hS.since 2 rfl)).is) ((hx2.agree (hS.since 1 rfl)).is) true (by simp)) rfl ?_
   rintro e W79 ⟨rfl, hb⟩
   refine ⟨_, rfl, hb, fun hS' => ?_⟩
   clear hS; have hS := hS'; clear hS' hb
   refine op_pickT rfl rfl rfl ?_
   refine op_move rfl rfl ?_
   refine op_wantedF (d := 46) rfl rfl ?_
   refine op_move rfl rfl ?_
   refine op_wantedF (d := 46) rfl rfl ?_
   refine op_move rfl rfl ?_
   refine op_wantedF (d := 46) rfl rfl ?_
   refine op_eql rfl rfl rfl ?_
   refine op_pickT rfl rfl rfl ?_
   refine op_move rfl rfl ?_
   refine op_cases (d := 51) rfl (fun hc => ?_) (fun hc => absurd (of_decide_eq_false hc) (by omega))
   have hc := of_decide_eq_true hc
   refine op_wantedF (d := 51) rfl rfl ?_
   refine op_move rfl rfl ?_
   refine op_wantedF (d := 51) rfl rfl ?_
   refine op_move rfl rfl ?_
   refine op_wantedF (d := 51) rfl rfl ?_
   refine op_eql rfl rfl rfl ?_
   refine op_pickT rfl rfl rfl ?_
   refine op_move rfl rfl ?_
   refine op_cases (d := 56) rfl (fun hc => ?_) (fun hc => absurd (of_decide_eq_false hc) (by omega))
   have hc := of_decide_eq_true hc
   refine op_wantedF (d := 56) rfl rfl ?_
   refine op_call (vs := []) hS goes_14 rfl (awakeS_is _ (ht.below hS.below)) rfl ?_
   rintro e W80 ⟨rfl, hb⟩
   refine ⟨_, rfl, hb, fun hS' => ?_⟩
   clear hS; have hS := hS'; clear hS' hb
   refine op_pickT rfl rfl rfl ?_
   refine op_assign rfl rfl ?_
   refine endF (XF.thenN ?_)
   refine retF ?_
   refine XF.res (res1 Tryz.results4 rfl) ?_
   exact ⟨rfl, hS.below⟩
theorem stepsRuns_walk (d : Nat) (p : PV) (c : CV) (la : Option Addr) (ll lc : Nat) (is : List Int) (w : World) (hp : PvIn w d d p) (hc : CIn w c ∧ c.wl ≤ c.wc) (hl : Row w la is ∧ is.length = ll ∧ ll ≤ lc ∧ ll ≤ 9223372036854775807) (ht : Tabs w) : Calls Tryz.prog 4 #[p.val, c.val, .slice la ll lc] w (fun e w' => e = .returned (.bool (true)) ∧ Below w.heap.size w w') :=
 stepsRuns_walk0 d d p c la ll lc is w hp hc.1 hc.2 hl.1 hl.2.1 hl.2.2.1 hl.2.2.2 ht
end Go.Proofs.YtfkbkekgnoanaaaGreatDoor
namespace Go.Proofs.YtfkbkekgnoanaaaGreatDoor
open Go.RowKit Go.ChangeShapes Go.WideShapes Go.Deep Go.Joins
theorem ten_len {cs : List Value} (h : cs.length = 10) : ∃ a b c d e f g i j k, cs = [a, b, c, d, e, f, g, i, j, k] := by
 match cs, h with
 | [a, b, c, d, e, f, g, i, j, k], _ => exact ⟨a, b, c, d, e, f, g, i, j, k, rfl⟩
theorem cellsAt_of {w : World} {b : Nat} : ∀ (vs : List Value) (o : Nat), (∀ (j : Nat) u, vs[j]? = some u → w.cell? ⟨b, o + j, none⟩ = some u) → CellsAt w b o vs
 | [], _, _ => trivial
 | v :: vs, o, h => ⟨h 0 v rfl, cellsAt_of vs (o + 1) fun j u hj => by have := h (j + 1) u (by simpa using hj); rwa [show o + 1 + j = o + (j + 1) by omega]⟩
section
variable {H : Type} {enc : TypeId × Value → H} {w : World} {base : Nat} {spare : Nat → Bool} {held : Bool}
theorem ints_in {n : Nat} {v : Value} {x : DataW H × List MemPlace} (h : DataW.trod enc Tryz.prog w base spare held n 29 [v] = some x) :
  ∃ (a : Option Addr) (len cap : Nat) (zs : List Int), v = .slice a len cap ∧ Row w a zs ∧ zs.length = len ∧ len ≤ cap ∧ cap ≤ maxLen := by
 rcases open_ints (t := 29) (e := 3) (k := .i64) (by kernel_rfl) (by kernel_rfl) (by kernel_rfl) h with ⟨hcs, _⟩ | ⟨x, len, cap, zs, hcs, _, hl, hm, hz, _, hcell, hwz⟩
 ·have hcs' : v = .slice none 0 0 := by simpa using hcs
  subst hcs'
  exact ⟨none, 0, 0, [], rfl, .inl rfl, rfl, Nat.le_refl _, Nat.zero_le _⟩
 ·have hcs' : v = .slice (some x) len cap := by simpa using hcs
  subst hcs'
  have hzl : len ≤ zs.length := by rw [hz]; split <;> omega
  refine ⟨some x, len, cap, zs.take len, rfl, ?_, by simp; omega, hl, hm⟩
  rcases Nat.eq_zero_or_pos len with h0 | h0
  ·subst h0; exact .inl (by simp)
  ·obtain ⟨b, off, spot⟩ := x
   have hc0 := hcell 0 (by omega)
   have hspot : spot = none := by simpa [Addr.add] using World.cell?_spot hc0
   subst hspot
   refine .inr ⟨b, off, rfl, fun i hi => ?_⟩
   have hi1 : i < len := by simp at hi; omega
   have hi2 : i < zs.length := by omega
   have hc := hcell i hi2
   have e : ({ block := b, off := off } : Addr).add i = ⟨b, off + i, none⟩ := by simp [Addr.add]
   rw [e] at hc
   rw [hc]
   simp [List.getD, List.getElem?_take, hi1]
theorem rule_in {n : Nat} {cs : List Value} {x : DataW H × List MemPlace} (h : DataW.trod enc Tryz.prog w base spare held n 66 cs = some x) : ∃ r : RV, cs = r.ten ∧ RIn w n r := by
 obtain ⟨xs, n', hn, _, hl, hlen, hg⟩ := DataW.trod_struct Tryz.underlying66 h
 rw [show Tryz.prog.cellsOf 66 = 10 by kernel_rfl] at hl
 obtain ⟨a, b, c, d, e, f, g, i, j, k, rfl⟩ := ten_len hl
 have hlen5 : xs.length = 5 := hlen
 have g0 := hg 0 _ rfl
 have g1 := hg 1 _ rfl
 have g2 := hg 2 _ rfl
 have g3 := hg 3 _ rfl
 have g4 := hg 4 _ rfl
 rw [show Tryz.prog.cellsOf _ = 1 by kernel_rfl, List.getElem?_eq_getElem (by omega)] at g0 g1 g2 g3
 rw [show Tryz.prog.cellsOf _ = 6 by kernel_rfl, List.getElem?_eq_getElem (by omega)] at g4
 obtain ⟨z0, e0, _, w0⟩ := DataW.trod_int (k := .i64) (by kernel_rfl) g0
 obtain ⟨z1, e1, _, w1⟩ := DataW.trod_int (k := .i64) (by kernel_rfl) g1
 obtain ⟨z2, e2, _, w2⟩ := DataW.trod_int (k := .i64) (by kernel_rfl) g2
 simp at e0 e1 e2
 subst e0 e1 e2
 obtain ⟨ra, rl, rc, ws, rfl, hrow, hrl, _, _⟩ := ints_in (v := d) g3
 obtain ⟨s, e4, hs⟩ := weight_in n' g4
 have e4' : [e, f, g, i, j, k] = s.f.six := by simpa using e4
 simp only [List.cons.injEq, and_true] at e4'
 obtain ⟨rfl, rfl, rfl, rfl, rfl, rfl⟩ := e4'
 exact ⟨⟨z0, z1, z2, ra, rl, rc, ws, s⟩, rfl, hrow, hrl, hs.more (by omega)⟩
theorem pds_in {n : Nat} {cs : List Value} {x : DataW H × List MemPlace} (h : DataW.trod enc Tryz.prog w base spare held n 28 cs = some x) : ∃ p : PV, cs = p.six ∧ PvIn w n n p := by
 obtain ⟨xs, n', hn, _, hl, hlen, hg⟩ := DataW.trod_struct Tryz.underlying28 h
 rw [show Tryz.prog.cellsOf 28 = 6 by kernel_rfl] at hl
 obtain ⟨a, b, c, d, e, f, rfl⟩ := six_len hl
 have hlen4 : xs.length = 4 := hlen
 have g0 := hg 0 _ rfl
 have g1 := hg 1 _ rfl
 have g2 := hg 2 _ rfl
 have g3 := hg 3 _ rfl
 rw [show Tryz.prog.cellsOf _ = 3 by kernel_rfl, List.getElem?_eq_getElem (by omega)] at g0
 rw [show Tryz.prog.cellsOf _ = 1 by kernel_rfl, List.getElem?_eq_getElem (by omega)] at g1 g2 g3
 obtain ⟨s, es, hs⟩ := space_in n' g0
 have es' : [a, b, c] = [.int .i64 s.f.tag, .int .i64 s.f.dim, .slice s.f.a s.f.len s.f.cap] := by simpa using es
 simp only [List.cons.injEq, and_true] at es'
 obtain ⟨rfl, rfl, rfl⟩ := es'
 obtain ⟨z1, e1, _, w1⟩ := DataW.trod_int (k := .i64) (by kernel_rfl) g1
 obtain ⟨z2, e2, _, w2⟩ := DataW.trod_int (k := .i64) (by kernel_rfl) g2
 simp at e1 e2
 subst e1 e2
 rcases DataW.trod_slice Tryz.underlying26 g3 with ⟨hcs, _⟩ | ⟨ad, len, cap, elems, rest, n2, hn2, hcs, _, hb, hle, hcap, hel, hi, _, _⟩
 ·simp at hcs
  subst hcs
  exact ⟨⟨s, z1, z2, none, 0, 0, []⟩, rfl, hs.more (by omega), .inl rfl, rfl, fun r hr => by cases hr⟩
 ·simp at hcs
  subst hcs
  rw [show Tryz.prog.cellsOf 66 = 10 by kernel_rfl] at hi
  obtain ⟨rs, hrl, hrs⟩ := list_pick len (fun i (r : RV) => (∀ (j : Nat) u, r.ten[j]? = some u → w.cell? (ad.add (i * 10 + j)) = some u) ∧ RIn w n2 r) (fun i hil => by
   have hii := hi i hil
   rw [List.getElem?_eq_getElem (by omega)] at hii
   obtain ⟨cs', hc, ht⟩ := Option.bind_eq_some_iff.1 hii
   obtain ⟨_, hcl, hat⟩ := World.cells?_some hc
   obtain ⟨r, rfl, hr⟩ := rule_in ht
   refine ⟨r, fun j u hj => ?_, hr⟩
   have hj10 : j < 10 := (List.getElem?_eq_some_iff.1 hj).1
   have h0 := hat j (by omega)
   rw [Go.Deep.add_add] at h0
   rw [h0]; exact hj)
  refine ⟨⟨s, z1, z2, some ad, len, cap, rs⟩, rfl, hs.more (by omega), ?_, hrl, fun r hr => ?_⟩
  ·rcases Nat.eq_zero_or_pos len with h0 | h0
   ·exact .inl (List.length_eq_zero_iff.1 (by dsimp only; omega))
   ·obtain ⟨b, off, spot⟩ := ad
    have h1 := (hrs 0 (rs[0]'(by omega)) (List.getElem?_eq_getElem (by omega))).1 0 _ rfl
    have hspot : spot = none := by simpa [Addr.add] using World.cell?_spot h1
    subst hspot
    refine .inr ⟨b, off, rfl, fun i r hir => cellsAt_of _ _ fun j u hj => ?_⟩
    have h3 := (hrs i r hir).1 j u hj
    have e : ∀ k, ({ block := b, off := off } : Addr).add k = ⟨b, off + k, none⟩ := fun k => by simp [Addr.add]
    rw [e, ← Nat.add_assoc] at h3
    exact h3
  ·obtain ⟨i, hi', hic⟩ := List.mem_iff_getElem.1 hr
   have h4 := (hrs i r (by rw [← hic]; exact List.getElem?_eq_getElem hi')).2
   exact ⟨h4.row, h4.len, h4.x.more (by omega)⟩
theorem conf_in {n : Nat} {cs : List Value} {x : DataW H × List MemPlace} (h : DataW.trod enc Tryz.prog w base spare held n 31 cs = some x) : ∃ c : CV, cs = [.int .i64 c.p, .slice c.wa c.wl c.wc] ∧ CIn w c ∧ c.wl ≤ c.wc := by
 obtain ⟨xs, n', hn, _, hl, hlen, hg⟩ := DataW.trod_struct Tryz.underlying31 h
 rw [show Tryz.prog.cellsOf 31 = 2 by kernel_rfl] at hl
 obtain ⟨a, b, rfl⟩ := two_len hl
 have hlen2 : xs.length = 2 := hlen
 have g0 := hg 0 _ rfl
 have g1 := hg 1 _ rfl
 rw [show Tryz.prog.cellsOf _ = 1 by kernel_rfl, List.getElem?_eq_getElem (by omega)] at g0 g1
 obtain ⟨z0, e0, _, w0⟩ := DataW.trod_int (k := .i64) (by kernel_rfl) g0
 simp at e0
 subst e0
 obtain ⟨ra, rl, rc, ws, rfl, hrow, hrl, hcap, _⟩ := ints_in (v := b) g1
 exact ⟨⟨z0, ra, rl, rc, ws⟩, rfl, ⟨hrow, hrl⟩, hcap⟩
theorem pds_open {r : Reach} {b0 : Nat} {v : Value} {d : DataW H} {p : List MemPlace} (hv : Value.okWide Tryz.prog w r b0 28 v) (h : DataW.Trod enc Tryz.prog w base spare held 28 v d p) :
  ∃ (n : Nat) (s : PV), v = s.val ∧ PvIn w n n s := by
 obtain ⟨cs, rfl, _⟩ := okWide_struct Tryz.underlying28 hv
 obtain ⟨n, h⟩ := h
 obtain ⟨s, e, hs⟩ := pds_in (n := n) h
 have e' : cs.toList = _ := e
 exact ⟨n, s, by show Value.agg cs = Value.agg _; congr 1; exact Array.ext' e', hs⟩
theorem conf_open {r : Reach} {b0 : Nat} {v : Value} {d : DataW H} {p : List MemPlace} (hv : Value.okWide Tryz.prog w r b0 31 v) (h : DataW.Trod enc Tryz.prog w base spare held 31 v d p) :
  ∃ (s : CV), v = s.val ∧ CIn w s ∧ s.wl ≤ s.wc := by
 obtain ⟨cs, rfl, _⟩ := okWide_struct Tryz.underlying31 hv
 obtain ⟨n, h⟩ := h
 obtain ⟨s, e, hs⟩ := conf_in (n := n) h
 have e' : cs.toList = _ := e
 exact ⟨s, by show Value.agg cs = Value.agg _; congr 1; exact Array.ext' e', hs⟩
theorem list_open {n : Nat} {a : Option Addr} {len cap : Nat} {x : DataW H × List MemPlace} (h : DataW.trod enc Tryz.prog w base spare held n 29 [.slice a len cap] = some x) : ∃ zs : List Int, Row w a zs ∧ zs.length = len ∧ len ≤ cap ∧ len ≤ 9223372036854775807 := by
 obtain ⟨a', len', cap', zs, e, h1, h2, h3, h4⟩ := ints_in h
 cases e
 exact ⟨zs, h1, h2, h3, by simp only [maxLen] at h4; omega⟩
end
end Go.Proofs.YtfkbkekgnoanaaaGreatDoor
