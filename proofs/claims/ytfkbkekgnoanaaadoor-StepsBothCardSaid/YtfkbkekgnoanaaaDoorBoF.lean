import Derived.Orders
import Derived.Below
import Derived.Deep.RegionHeld
import Derived.WalkKit
import Derived.KernelRfl
import Derived.Laws.Rows
import Derived.Laws.AppendOwn
import Derived.Laws.Strings
import Derived.Laws.Small
import Derived.Lib.Hide
import Derived.IntWalk
import Derived.Laws.Tables
import Derived.Laws.Concat
import Derived.Laws.MakeOwn
import Derived.Test.YtfkbkekgnoanaaaDoorProg
import Derived.Test.YtfkbkekgnoanaaaDoorRows
import Derived.Lib.LaidTab
import Derived.Lib.ItoaNum
import Derived.Lib.TrailingZeros
import Derived.Stop.LaidErr
import Derived.WalkSmall
import Derived.LaidMore
import Derived.Shelf.Spec.TrailingZeros
import Derived.Laws.BitsAllLaws
import Derived.Laws.Bits64
import Derived.Deep.QuietTactic
import Derived.BigQuiet
import Derived.RegionTactic
import Derived.BigRegion
import Derived.Deep.RegionHeld3
import Derived.ChangeAlike
import Derived.RangeFuncNested
import Derived.RangeFuncBound
import Derived.RangeFuncCalls
import Derived.RangeFuncLeaves
import Derived.Shelf.Abstract
import Derived.Shelf.RegionOpen
import Derived.OwnWalkIn
import Derived.TacticsInMore
import Derived.LoopNIn
import Derived.LoopIn
import Derived.Laws.Bits128
import Derived.Deep.AppendLies
import Derived.Shelf.Strconv.Itoa0
import Derived.Shelf.Strconv.Itoa1
import Derived.Shelf.LaysM
import Derived.Shelf.Strconv.Itoa2
import Derived.Shelf.Strconv.AppendUint10
import Derived.Shelf.Strconv.AppendInt10
import Derived.Shelf.Strconv.AppendIntPublic10
import Derived.Shelf.Slices.Reverse
import Derived.Ground.Names2Prog
import Derived.Shelf.Slices.Clone
import Derived.Shelf.Slices.Cells
import Derived.Ground.SlgnProg
import Derived.Shelf.SlicesE.Clone
import Derived.Sort.Grow
import Derived.Maps.AppendAt
import Derived.Lib.OthersKept
import Derived.Laws.IdiomStrings
import Derived.StillTailTactics
import Derived.Deep.RegionLaw
import Derived.Deep.DeepCutAuto
import Derived.Deep.CutRange
import Derived.Deep.RegionWith
import Derived.Laws.Bits64b
import Derived.Deep.DrawnRows
import Derived.Lib.SliceRun
import Derived.Laws.OwnMore
import Derived.OwnWalk
import Derived.WalkSpells
import Derived.Lib.Join
import Derived.Lib.OwnBridge
import Derived.WideKeyEntry
import Derived.DeepKeys4
import Derived.Lib.AppendZeros
import Derived.Lib.ItoaLen
import Derived.Lib.UnsafeStr
import Derived.Lib.AppendIntMem
import Derived.Deep.Slices
import Derived.Deep.Fields
import Derived.ChangeSame
import Derived.Lib.SmallJoins
import Derived.ChangeSlices
import Derived.ProofKit
import Derived.Test.YtfkbkekgnoanaaaDoorBoA
import Derived.Test.YtfkbkekgnoanaaaDoorBoB
import Derived.Test.YtfkbkekgnoanaaaDoorBoC
import Derived.Test.YtfkbkekgnoanaaaDoorBoD
import Derived.Test.YtfkbkekgnoanaaaDoorBoE
set_option maxRecDepth 100000
set_option maxHeartbeats 4000000
set_option linter.unusedVariables false
set_option linter.unusedVariables false
set_option linter.unusedSimpArgs false
set_option linter.unusedSectionVars false
set_option linter.unnecessarySimpa false
namespace Go.Proofs.YtfkbkekgnoanaaaDoor
open Go.RowKit Go.ChangeShapes Go.WideShapes Go.Deep Go.Joins
theorem list_pick {α : Type} : ∀ (n : Nat) (p : Nat → α → Prop), (∀ i, i < n → ∃ c, p i c) → ∃ xs : List α, xs.length = n ∧ ∀ i c, xs[i]? = some c → p i c
 | 0, p, h => ⟨[], rfl, fun i c hi => by simp at hi⟩
 | n + 1, p, h => by
  obtain ⟨xs, hl, hp⟩ := list_pick n p (fun i hi => h i (by omega))
  obtain ⟨c, hc⟩ := h n (by omega)
  refine ⟨xs ++ [c], by simp [hl], fun i d hi => ?_⟩
  rcases Nat.lt_or_ge i n with h1 | h1
  ·rw [List.getElem?_append_left (by omega)] at hi
   exact hp i d hi
  ·obtain ⟨h2, _⟩ := List.getElem?_eq_some_iff.1 hi
   simp [hl] at h2
   obtain rfl : i = n := by omega
   rw [List.getElem?_append_right (by omega), hl, Nat.sub_self] at hi
   simp at hi
   subst hi
   exact hc
theorem SIn.more {w : World} : ∀ {d e : Nat} {s : SV}, d ≤ e → SIn w d s → SIn w e s
 | 0, _, _, _, h => h.elim
 | d + 1, 0, _, hl, _ => by omega
 | d + 1, e + 1, .mk f ps, hl, ⟨h1, h2, h3⟩ => ⟨h1, h2, fun p hp => SIn.more (by omega) (h3 p hp)⟩
theorem WIn.more {w : World} : ∀ {d e : Nat} {s : WV}, d ≤ e → WIn w d s → WIn w e s
 | 0, _, _, _, h => h.elim
 | d + 1, 0, _, hl, _ => by omega
 | d + 1, e + 1, .mk f ps, hl, ⟨h0, h1, h2, h3⟩ => ⟨h0, h1, h2, fun p hp => WIn.more (by omega) (h3 p hp)⟩
theorem six_len {cs : List Value} (h : cs.length = 6) : ∃ a b c d e f, cs = [a, b, c, d, e, f] := by
 match cs, h with
 | [a, b, c, d, e, f], _ => exact ⟨a, b, c, d, e, f, rfl⟩
theorem two_len {cs : List Value} (h : cs.length = 2) : ∃ a b, cs = [a, b] := by
 match cs, h with
 | [a, b], _ => exact ⟨a, b, rfl⟩
section
variable {H : Type} {enc : TypeId × Value → H} {w : World} {base : Nat} {spare : Nat → Bool} {held : Bool}
theorem space_in : ∀ (fuel : Nat) {cs : List Value} {x : DataW H × List MemPlace}, DataW.trod enc Tryd.prog w base spare held fuel 25 cs = some x → ∃ s : SV, cs = [.int .i64 s.f.tag, .int .i64 s.f.dim, .slice s.f.a s.f.len s.f.cap] ∧ SIn w fuel s := by
 intro fuel
 induction fuel using Nat.strongRecOn with
 | _ fuel ih =>
 intro cs x h
 obtain ⟨xs, n, hn, _, hl, hlen, hg⟩ := DataW.trod_struct Tryd.underlying25 h
 rw [show Tryd.prog.cellsOf 25 = 3 by kernel_rfl] at hl
 obtain ⟨a, b, c, rfl⟩ := three_len hl
 have hlen3 : xs.length = 3 := hlen
 have g0 := hg 0 _ rfl
 have g1 := hg 1 _ rfl
 have g2 := hg 2 _ rfl
 rw [show Tryd.prog.cellsOf _ = 1 by kernel_rfl, List.getElem?_eq_getElem (by omega)] at g0 g1 g2
 obtain ⟨z0, e0, _, w0⟩ := DataW.trod_int (k := .i64) (by kernel_rfl) g0
 obtain ⟨z1, e1, _, w1⟩ := DataW.trod_int (k := .i64) (by kernel_rfl) g1
 simp at e0 e1
 subst e0 e1
 rcases DataW.trod_slice Tryd.underlying23 g2 with ⟨hcs, _⟩ | ⟨ad, len, cap, elems, rest, n', hn', hcs, _, hb, hle, hcap, hel, hi, _, _⟩
 ·simp at hcs
  subst hcs
  subst hn
  exact ⟨.mk ⟨z0, z1, none, 0, 0⟩ [], rfl, rfl, .inl rfl, fun p hp => by cases hp⟩
 ·simp at hcs
  subst hcs
  subst hn
  rw [show Tryd.prog.cellsOf 25 = 3 by kernel_rfl] at hi
  obtain ⟨ps, hpl, hps⟩ := list_pick len (fun i (p : SV) => (w.cell? (ad.add (i * 3)) = some (.int .i64 p.f.tag) ∧ w.cell? (ad.add (i * 3 + 1)) = some (.int .i64 p.f.dim) ∧ w.cell? (ad.add (i * 3 + 2)) = some (.slice p.f.a p.f.len p.f.cap)) ∧ SIn w n' p) (fun i hil => by
   have hii := hi i hil
   rw [List.getElem?_eq_getElem (by omega)] at hii
   obtain ⟨cs', hc, ht⟩ := Option.bind_eq_some_iff.1 hii
   obtain ⟨_, hcl, hat⟩ := World.cells?_some hc
   obtain ⟨s, rfl, hs⟩ := ih n' (by omega) ht
   have e0 := hat 0 (by omega)
   have e1 := hat 1 (by omega)
   have e2 := hat 2 (by omega)
   rw [Go.Deep.add_add] at e0 e1 e2
   exact ⟨s, ⟨e0, e1, e2⟩, hs⟩)
  refine ⟨.mk ⟨z0, z1, some ad, len, cap⟩ ps, rfl, hpl, ?_, fun p hp => ?_⟩
  ·rcases Nat.eq_zero_or_pos len with h0 | h0
   ·exact .inl (List.length_eq_zero_iff.1 (by omega))
   ·obtain ⟨b, off, spot⟩ := ad
    obtain ⟨⟨h1, _, _⟩, _⟩ := hps 0 (ps[0]'(by omega)) (List.getElem?_eq_getElem (by omega))
    have hspot : spot = none := by simpa [Addr.add] using World.cell?_spot h1
    subst hspot
    refine .inr ⟨b, off, rfl, fun i c hic => ?_⟩
    have e : ∀ k, ({ block := b, off := off } : Addr).add k = ⟨b, off + k, none⟩ := fun k => by simp [Addr.add]
    have h3 := (hps i c hic).1
    rw [e, e, e, ← Nat.add_assoc, ← Nat.add_assoc] at h3
    exact h3
  ·obtain ⟨i, hi', hic⟩ := List.mem_iff_getElem.1 hp
   exact (hps i p (by rw [← hic]; exact List.getElem?_eq_getElem hi')).2.more (by omega)
theorem u64s_open {n : Nat} {v : Value} {x : DataW H × List MemPlace} (h : DataW.trod enc Tryd.prog w base spare held n 41 [v] = some x) :
  ∃ (a : Option Addr) (len cap : Nat) (rows : List Nat), v = .slice a len cap ∧ VRow w a (u64s rows) ∧ rows.length = len ∧ ∀ r ∈ rows, r < 18446744073709551616 := by
 rcases open_ints (t := 41) (e := 40) (k := .u64) (by kernel_rfl) (by kernel_rfl) (by kernel_rfl) h with ⟨hcs, _⟩ | ⟨x, len, cap, zs, hcs, _, hl, hm, hz, _, hcell, hwz⟩
 ·have hcs' : v = .slice none 0 0 := by simpa using hcs
  subst hcs'
  exact ⟨none, 0, 0, [], rfl, .inl rfl, rfl, fun r hr => by cases hr⟩
 ·have hcs' : v = .slice (some x) len cap := by simpa using hcs
  subst hcs'
  have hzl : len ≤ zs.length := by rw [hz]; split <;> omega
  refine ⟨some x, len, cap, (zs.take len).map Int.toNat, rfl, ?_, ?_, ?_⟩
  ·rcases Nat.eq_zero_or_pos len with h0 | h0
   ·subst h0; exact .inl (by simp [u64s])
   ·obtain ⟨b, off, spot⟩ := x
    have hc0 := hcell 0 (by omega)
    have hspot : spot = none := by simpa [Addr.add] using World.cell?_spot hc0
    subst hspot
    refine .inr ⟨b, off, rfl, fun i v hi => ?_⟩
    obtain ⟨q, hq, rfl⟩ := u64s_at hi
    rw [List.getElem?_map, List.getElem?_take] at hq
    split at hq
    ·rename_i hlt
     have hi2 : i < zs.length := by omega
     rw [List.getElem?_eq_getElem hi2] at hq
     have hq' : (zs[i]).toNat = q := by simpa using hq
     obtain ⟨m, hm1, hm2⟩ := u64_nat (hwz _ (List.getElem_mem hi2))
     have hc := hcell i hi2
     have e : ({ block := b, off := off } : Addr).add i = ⟨b, off + i, none⟩ := by simp [Addr.add]
     rw [e] at hc
     rw [hc]
     have : zs.getD i 0 = zs[i] := by simp [List.getD, List.getElem?_eq_getElem hi2]
     rw [this, hm1, ← hq', hm1]
     rfl
    ·cases hq
  ·simp; omega
  ·intro r hr
   obtain ⟨z, hz1, rfl⟩ := List.mem_map.1 hr
   obtain ⟨m, hm1, hm2⟩ := u64_nat (hwz z (List.mem_of_mem_take hz1))
   rw [hm1]; exact hm2
theorem facts_in {n : Nat} {a b : Value} {x : DataW H × List MemPlace} (h : DataW.trod enc Tryd.prog w base spare held n 43 [a, b] = some x) :
  ∃ (g : Nat) (ra : Option Addr) (rl rc : Nat) (rows : List Nat), a = .int .u64 (g : Int) ∧ b = .slice ra rl rc ∧ g < 18446744073709551616 ∧ VRow w ra (u64s rows) ∧ rows.length = rl ∧ ∀ r ∈ rows, r < 18446744073709551616 := by
 obtain ⟨xs, n', _, _, hl, hlen, hg⟩ := DataW.trod_struct Tryd.underlying43 h
 have hlen2 : xs.length = 2 := hlen
 have g0 := hg 0 _ rfl
 have g1 := hg 1 _ rfl
 rw [show Tryd.prog.cellsOf _ = 1 by kernel_rfl, List.getElem?_eq_getElem (by omega)] at g0 g1
 obtain ⟨z0, e0, _, w0⟩ := DataW.trod_int (k := .u64) (by kernel_rfl) g0
 simp at e0
 subst e0
 obtain ⟨g, rfl, hg64⟩ := u64_nat w0
 obtain ⟨ra, rl, rc, rows, e1, h1, h2, h3⟩ := u64s_open (v := b) g1
 exact ⟨g, ra, rl, rc, rows, rfl, e1, hg64, h1, h2, h3⟩
theorem weight_in : ∀ (fuel : Nat) {cs : List Value} {x : DataW H × List MemPlace}, DataW.trod enc Tryd.prog w base spare held fuel 47 cs = some x → ∃ s : WV, cs = s.f.six ∧ WIn w fuel s := by
 intro fuel
 induction fuel using Nat.strongRecOn with
 | _ fuel ih =>
 intro cs x h
 obtain ⟨xs, n, hn, _, hl, hlen, hg⟩ := DataW.trod_struct Tryd.underlying47 h
 rw [show Tryd.prog.cellsOf 47 = 6 by kernel_rfl] at hl
 obtain ⟨a, b, c, d, e, f, rfl⟩ := six_len hl
 have hlen5 : xs.length = 5 := hlen
 have g0 := hg 0 _ rfl
 have g1 := hg 1 _ rfl
 have g2 := hg 2 _ rfl
 have g3 := hg 3 _ rfl
 have g4 := hg 4 _ rfl
 rw [show Tryd.prog.cellsOf _ = 1 by kernel_rfl, List.getElem?_eq_getElem (by omega)] at g0 g1 g3 g4
 rw [show Tryd.prog.cellsOf _ = 2 by kernel_rfl, List.getElem?_eq_getElem (by omega)] at g2
 obtain ⟨z0, e0, _⟩ := DataW.trod_bool (by kernel_rfl) g0
 obtain ⟨z1, e1, _, w1⟩ := DataW.trod_int (k := .i64) (by kernel_rfl) g1
 simp at e0 e1
 subst e0 e1
 obtain ⟨gg, ra, rl, rc, rows, rfl, rfl, hg64, hrow, hrl, hr64⟩ := facts_in (a := c) (b := d) g2
 obtain ⟨ca, cl, cc, e3⟩ := slice_form g3
 have e3' : e = .slice ca cl cc := by simpa using e3
 subst e3'
 obtain ⟨cells, hcl, hcm, hcrow, hcbits⟩ := cells_open (a := ca) (len := cl) (cap := cc) g3
 rcases DataW.trod_slice Tryd.underlying45 g4 with ⟨hcs, _⟩ | ⟨ad, len, cap, elems, rest, n', hn', hcs, _, hb, hle, hcap, hel, hi, _, _⟩
 ·simp at hcs
  subst hcs
  subst hn
  exact ⟨.mk ⟨z0, z1, gg, ra, rl, rc, rows, ca, cl, cc, cells, none, 0, 0⟩ [], rfl, ⟨hrow, hrl, hg64, hr64, hcrow, hcl.symm, hcbits, by dsimp only; omega⟩, rfl, .inl rfl, fun p hp => by cases hp⟩
 ·simp at hcs
  subst hcs
  subst hn
  rw [show Tryd.prog.cellsOf 47 = 6 by kernel_rfl] at hi
  obtain ⟨ps, hpl, hps⟩ := list_pick len (fun i (p : WV) => (w.cell? (ad.add (i * 6)) = some (.bool p.f.z) ∧ w.cell? (ad.add (i * 6 + 1)) = some (.int .i64 p.f.c) ∧ w.cell? (ad.add (i * 6 + 2)) = some (.int .u64 (p.f.g : Int)) ∧ w.cell? (ad.add (i * 6 + 3)) = some (.slice p.f.ra p.f.rl p.f.rc) ∧ w.cell? (ad.add (i * 6 + 4)) = some (.slice p.f.ca p.f.cl p.f.cc) ∧ w.cell? (ad.add (i * 6 + 5)) = some (.slice p.f.pa p.f.pl p.f.pc)) ∧ WIn w n' p) (fun i hil => by
   have hii := hi i hil
   rw [List.getElem?_eq_getElem (by omega)] at hii
   obtain ⟨cs', hc, ht⟩ := Option.bind_eq_some_iff.1 hii
   obtain ⟨_, hcl, hat⟩ := World.cells?_some hc
   obtain ⟨s, rfl, hs⟩ := ih n' (by omega) ht
   have e0 := hat 0 (by omega)
   have e1 := hat 1 (by omega)
   have e2 := hat 2 (by omega)
   have e3 := hat 3 (by omega)
   have e4 := hat 4 (by omega)
   have e5 := hat 5 (by omega)
   rw [Go.Deep.add_add] at e0 e1 e2 e3 e4 e5
   exact ⟨s, ⟨e0, e1, e2, e3, e4, e5⟩, hs⟩)
  refine ⟨.mk ⟨z0, z1, gg, ra, rl, rc, rows, ca, cl, cc, cells, some ad, len, cap⟩ ps, rfl, ⟨hrow, hrl, hg64, hr64, hcrow, hcl.symm, hcbits, by dsimp only; omega⟩, hpl, ?_, fun p hp => ?_⟩
  ·rcases Nat.eq_zero_or_pos len with h0 | h0
   ·exact .inl (List.length_eq_zero_iff.1 (by omega))
   ·obtain ⟨b, off, spot⟩ := ad
    obtain ⟨⟨h1, _⟩, _⟩ := hps 0 (ps[0]'(by omega)) (List.getElem?_eq_getElem (by omega))
    have hspot : spot = none := by simpa [Addr.add] using World.cell?_spot h1
    subst hspot
    refine .inr ⟨b, off, rfl, fun i c hic => ?_⟩
    have e : ∀ k, ({ block := b, off := off } : Addr).add k = ⟨b, off + k, none⟩ := fun k => by simp [Addr.add]
    have h3 := (hps i c hic).1
    rw [e, e, e, e, e, e, ← Nat.add_assoc, ← Nat.add_assoc, ← Nat.add_assoc, ← Nat.add_assoc, ← Nat.add_assoc] at h3
    exact h3
  ·obtain ⟨i, hi', hic⟩ := List.mem_iff_getElem.1 hp
   exact (hps i p (by rw [← hic]; exact List.getElem?_eq_getElem hi')).2.more (by omega)
end
end Go.Proofs.YtfkbkekgnoanaaaDoor
namespace Go.Proofs.YtfkbkekgnoanaaaDoor
open Go Go.RowKit
theorem RowN.lim {lo : Nat} {W : World} {a : Option Addr} {c : Nat} {xs : List Int} (h : RowN lo W a c xs) : xs.length ≤ maxLen := by
 rcases h.2 with ⟨e1, e2⟩ | ⟨g, cap, cur, e1, _, _, hn, hm, _⟩
 ·omega
 ·omega
end Go.Proofs.YtfkbkekgnoanaaaDoor
namespace Go.Proofs.YtfkbkekgnoanaaaDoor
open Go Go.RowKit
theorem goes_7 : goesIn Tryd.prog 7 = true := by kernel_rfl
theorem goes_8 : goesIn Tryd.prog 8 = true := by kernel_rfl
theorem stNextA {ds d : Nat} {p : PV} {c : CV} {w : World} (hp : PvIn w ds d p) (hc : CIn w c) (hcc : c.wl ≤ c.wc) : Calls Tryd.prog 7 #[p.val, c.val] w (NxU (nxE (nextF c.p c.ws p.rs 0) (stepE p c)) w) :=
 nextA_c ds d p.s p.st p.sy p.ra p.rl p.rc p.rs c.p c.wa c.wl c.wc c.ws w hp.s hp.row hp.len hp.rin hc.row hc.len hcc
theorem stBackA {ds d : Nat} {p : PV} {c : CV} {w : World} (hp : PvIn w ds d p) (hc : CIn w c) (hcc : c.wl ≤ c.wc) : Calls Tryd.prog 8 #[p.val, c.val] w (NxU (nxE (backF c.p c.ws p.rs 0) (stepE p c)) w) :=
 backA_c ds d p.s p.st p.sy p.ra p.rl p.rc p.rs c.p c.wa c.wl c.wc c.ws w hp.s hp.row hp.len hp.rin hc.row hc.len hcc
theorem numN_row {w : World} {lo : Nat} {l : NxL} {v : Value} (h : isNumN lo l v w) : ∃ a c, v = .slice a (l.map (·.1)).length c ∧ RowN lo w a c (l.map (·.1)) := by
 obtain ⟨a, c, rfl, _⟩ := ownsRow_sl h
 refine ⟨a, c, by rw [List.length_map], ?_⟩
 unfold RowN
 rw [List.length_map]
 exact h
theorem flat2_at {cs : List CV} {i : Nat} {c : CV} (h : cs[i]? = some c) : ((cs.flatMap two9).drop (i * 2)).take 2 = two9 c := by
 induction cs generalizing i with
 | nil => simp at h
 | cons x cs ih =>
  cases i with
  | zero => simp at h; subst h; rfl
  | succ i =>
   have e : (i + 1) * 2 = 2 + i * 2 := by omega
   rw [List.flatMap_cons, e, ← List.drop_drop]
   exact ih (by simpa using h)
theorem cfsN_row {w : World} {lo : Nat} {l : NxL} {v : Value} (h : isCfsN lo l v w) : ∃ a c, ∃ cs : List CV, v = .slice a cs.length c ∧ CvRow w a cs ∧ cs.map CV.pl = l.map (·.2) ∧ (∀ c ∈ cs, CIn w c ∧ c.wl ≤ 9223372036854775807 ∧ CHeld lo w c) ∧ cs.length ≤ 9223372036854775807 ∧ cs.length ≤ c := by
 obtain ⟨cs, h1, h2, h3⟩ := h
 obtain ⟨a, c, rfl, hac⟩ := ownsRow_sl h1
 refine ⟨a, c, cs, rfl, ?_, h2, fun x hx => ⟨⟨(h3 x hx).1.row, (h3 x hx).2.symm⟩, ?_, h3 x hx⟩, ?_, hac⟩
 ·rcases h1.2 with ⟨e1, e2⟩ | ⟨g, cap, cur, e1, _, hg, _, _, hs, ht⟩
  ·exact .inl (List.eq_nil_of_length_eq_zero e2)
  ·cases e1
   refine .inr ⟨g, 0, rfl, fun i x hx => ?_⟩
   rw [Nat.zero_add]
   have hg2 : w.heap[g]? = some (.cells cur.toList.toArray 31 (0, 0)) := hg
   refine CellsAt.own (j := i * 2) (m := 2) hg2 ?_
   have hlt := (List.getElem?_eq_some_iff.1 hx).1
   have e5 := flat2_at hx
   rw [← ht, List.drop_take, List.take_take] at e5
   rw [Nat.min_eq_left (by omega)] at e5
   exact e5
 ·have := (h3 x hx).1.lim
  rw [(h3 x hx).2]
  simp only [maxLen] at this; omega
 ·rcases h1.2 with ⟨_, e2⟩ | ⟨g, cap, cur, e1, _, _, hn, hm, _⟩
  ·omega
  ·simp only [maxLen] at hm; omega
end Go.Proofs.YtfkbkekgnoanaaaDoor
namespace Go.Proofs.YtfkbkekgnoanaaaDoor
open Go Go.RowKit
theorem appB_true {r : RV} {p : Int} {ws : List Int} (h : appB r p ws = true) : r.p = p ∧ ∃ t, ws = r.g :: t := by
 unfold appB at h
 rw [Bool.and_eq_true, decide_eq_true_eq] at h
 cases ws with
 | nil => simp at h
 | cons y t =>
  have h2 : decide (y = r.g) = true := h.2
  exact ⟨h.1, t, by rw [of_decide_eq_true h2]⟩
theorem appB_of {r : RV} {p y : Int} {t : List Int} (h1 : r.p = p) (h2 : y = r.g) : appB r p (y :: t) = true := by
 unfold appB
 show (decide (r.p = p) && decide (y = r.g)) = true
 rw [decide_eq_true h1, decide_eq_true h2]; rfl
theorem nextF_at {p : Int} {ws : List Int} : ∀ {xs : List RV} {i : Nat} {l : NxL}, nextF p ws xs i = some l → ∀ x ∈ l, ∃ (n : Nat) (r : RV), xs[n]? = some r ∧ x = (((i + n : Nat) : Int), r.q, r.ws ++ ws.tail) ∧ appB r p ws = true ∧ ¬ 4096 < r.wl + (ws.length - 1)
 | [], i, l, h => by simp only [nextF, Option.some.injEq] at h; subst h; intro x hx; cases hx
 | r :: xs, i, l, h => by
  simp only [nextF] at h
  by_cases ha : appB r p ws = true
  ·rw [if_pos ha] at h
   by_cases hl : 4096 < r.wl + (ws.length - 1)
   ·rw [if_pos hl] at h; cases h
   ·rw [if_neg hl] at h
    cases h2 : nextF p ws xs (i + 1) with
    | none => rw [h2] at h; cases h
    | some l2 =>
     rw [h2] at h
     have e := Option.some.inj h
     subst e
     intro x hx
     rcases List.mem_cons.1 hx with rfl | hx
     ·exact ⟨0, r, rfl, rfl, ha, hl⟩
     ·obtain ⟨n, r2, h3, h4, h5⟩ := nextF_at h2 x hx
      exact ⟨n + 1, r2, by simpa using h3, by rw [h4, show i + 1 + n = i + (n + 1) by omega], h5⟩
  ·rw [if_neg ha] at h
   intro x hx
   obtain ⟨n, r2, h3, h4, h5⟩ := nextF_at h x hx
   exact ⟨n + 1, r2, by simpa using h3, by rw [h4, show i + 1 + n = i + (n + 1) by omega], h5⟩
theorem nextF_mem {p : Int} {ws : List Int} {r : RV} (ha : appB r p ws = true) : ∀ {xs : List RV} {i n : Nat} {l : NxL}, nextF p ws xs i = some l → xs[n]? = some r → (((i + n : Nat) : Int), r.q, r.ws ++ ws.tail) ∈ l
 | [], i, n, l, h, hn => by simp at hn
 | x :: xs, i, n, l, h, hn => by
  simp only [nextF] at h
  by_cases hx : appB x p ws = true
  ·rw [if_pos hx] at h
   by_cases hl : 4096 < x.wl + (ws.length - 1)
   ·rw [if_pos hl] at h; cases h
   ·rw [if_neg hl] at h
    cases h2 : nextF p ws xs (i + 1) with
    | none => rw [h2] at h; cases h
    | some l2 =>
     rw [h2] at h
     have e := Option.some.inj h
     subst e
     cases n with
     | zero => simp at hn; subst hn; exact List.mem_cons_self
     | succ n =>
      refine List.mem_cons_of_mem _ ?_
      have := nextF_mem ha h2 (n := n) (by simpa using hn)
      rwa [show i + (n + 1) = i + 1 + n by omega]
  ·rw [if_neg hx] at h
   cases n with
   | zero => simp at hn; subst hn; exact absurd ha hx
   | succ n =>
    have := nextF_mem ha h (n := n) (by simpa using hn)
    rwa [show i + (n + 1) = i + 1 + n by omega]
theorem backF_at {p : Int} {ws : List Int} : ∀ {xs : List RV} {i : Nat} {l : NxL}, backF p ws xs i = some l → ∀ x ∈ l, ∃ (n : Nat) (r : RV), xs[n]? = some r ∧ x = (((i + n : Nat) : Int), r.p, r.g :: ws.drop r.wl) ∧ comB r p ws = true ∧ ¬ 4096 < 1 + (ws.length - r.wl)
 | [], i, l, h => by simp only [backF, Option.some.injEq] at h; subst h; intro x hx; cases hx
 | r :: xs, i, l, h => by
  simp only [backF] at h
  by_cases ha : comB r p ws = true
  ·rw [if_pos ha] at h
   by_cases hl : 4096 < 1 + (ws.length - r.wl)
   ·rw [if_pos hl] at h; cases h
   ·rw [if_neg hl] at h
    cases h2 : backF p ws xs (i + 1) with
    | none => rw [h2] at h; cases h
    | some l2 =>
     rw [h2] at h
     have e := Option.some.inj h
     subst e
     intro x hx
     rcases List.mem_cons.1 hx with rfl | hx
     ·exact ⟨0, r, rfl, rfl, ha, hl⟩
     ·obtain ⟨n, r2, h3, h4, h5⟩ := backF_at h2 x hx
      exact ⟨n + 1, r2, by simpa using h3, by rw [h4, show i + 1 + n = i + (n + 1) by omega], h5⟩
  ·rw [if_neg ha] at h
   intro x hx
   obtain ⟨n, r2, h3, h4, h5⟩ := backF_at h x hx
   exact ⟨n + 1, r2, by simpa using h3, by rw [h4, show i + 1 + n = i + (n + 1) by omega], h5⟩
theorem backF_mem {p : Int} {ws : List Int} {r : RV} (ha : comB r p ws = true) : ∀ {xs : List RV} {i n : Nat} {l : NxL}, backF p ws xs i = some l → xs[n]? = some r → (((i + n : Nat) : Int), r.p, r.g :: ws.drop r.wl) ∈ l
 | [], i, n, l, h, hn => by simp at hn
 | x :: xs, i, n, l, h, hn => by
  simp only [backF] at h
  by_cases hx : comB x p ws = true
  ·rw [if_pos hx] at h
   by_cases hl : 4096 < 1 + (ws.length - x.wl)
   ·rw [if_pos hl] at h; cases h
   ·rw [if_neg hl] at h
    cases h2 : backF p ws xs (i + 1) with
    | none => rw [h2] at h; cases h
    | some l2 =>
     rw [h2] at h
     have e := Option.some.inj h
     subst e
     cases n with
     | zero => simp at hn; subst hn; exact List.mem_cons_self
     | succ n =>
      refine List.mem_cons_of_mem _ ?_
      have := backF_mem ha h2 (n := n) (by simpa using hn)
      rwa [show i + (n + 1) = i + 1 + n by omega]
  ·rw [if_neg hx] at h
   cases n with
   | zero => simp at hn; subst hn; exact absurd ha hx
   | succ n =>
    have := backF_mem ha h (n := n) (by simpa using hn)
    rwa [show i + (n + 1) = i + 1 + n by omega]
theorem there_mem {rs : List RV} {p : Int} {ws : List Int} {l lb : NxL} {x : Int × Int × List Int} (hl : nextF p ws rs 0 = some l) (hx : x ∈ l) (hlen : ∀ r ∈ rs, r.ws.length = r.wl) (hb : backF x.2.1 x.2.2 rs 0 = some lb) : (x.1, p, ws) ∈ lb := by
 obtain ⟨n, r, hn, rfl, ha, _⟩ := nextF_at hl x hx
 obtain ⟨rfl, t, rfl⟩ := appB_true ha
 have hw := hlen r (List.mem_of_getElem? hn)
 have h := backF_mem (r := r) (comB_yes rfl (by simp)) hb hn
 have e : (r.ws ++ (r.g :: t).tail).drop r.wl = t := by rw [← hw]; simp
 rw [Nat.zero_add] at h ⊢
 dsimp only at h ⊢
 rwa [e] at h
theorem back_mem {rs : List RV} {p : Int} {ws : List Int} {l lb : NxL} {x : Int × Int × List Int} (hl : backF p ws rs 0 = some l) (hx : x ∈ l) (hlen : ∀ r ∈ rs, r.ws.length = r.wl) (hb : nextF x.2.1 x.2.2 rs 0 = some lb) : (x.1, p, ws) ∈ lb := by
 obtain ⟨n, r, hn, rfl, ha, _⟩ := backF_at hl x hx
 obtain ⟨rfl, he⟩ := comB_true ha
 have hw := hlen r (List.mem_of_getElem? hn)
 have h := nextF_mem (r := r) (appB_of rfl rfl) hb hn
 have e : r.ws ++ (r.g :: ws.drop r.wl).tail = ws := by
  rw [List.tail_cons, ← hw]
  conv => lhs; lhs; rw [he]
  exact List.take_append_drop _ _
 rw [Nat.zero_add] at h ⊢
 dsimp only at h ⊢
 rwa [e] at h
structure StepAll (p : PV) (c : CV) : Prop where
 pd : pdsE p = 0
 rule : ∀ r ∈ p.rs, ruleB p.st p.sy r = true
 cp : inQ c.p p.st = true
 cw : c.wl ≤ 4096
 cs : ∀ y ∈ c.ws, inQ y p.sy = true
theorem stepAll {p : PV} {c : CV} (h : stepE p c = 0) : StepAll p c := by
 unfold stepE at h
 by_cases h0 : pdsE p = 0
 ·rw [if_neg (not_not_intro h0)] at h
  have hc : confB p c = true := by
   by_cases h2 : confB p c = true
   ·exact h2
   ·rw [if_neg h2] at h; cases h
  have h00 := h0
  unfold pdsE at h0
  by_cases h1 : spaceE p.s = 0
  ·rw [if_neg (not_not_intro h1)] at h0
   obtain ⟨h2, h0⟩ := ite9 h0 (by decide)
   obtain ⟨h3, h0⟩ := ite9 h0 (by decide)
   have hall : p.rs.all (ruleB p.st p.sy) = true := by
    by_cases h4 : p.rs.all (ruleB p.st p.sy) = true
    ·exact h4
    ·rw [if_neg h4] at h0; cases h0
   unfold confB at hc
   rw [Bool.and_eq_true, Bool.and_eq_true, decide_eq_true_eq] at hc
   exact ⟨h00, fun r hr => List.all_eq_true.1 hall r hr, hc.1, hc.2.1, fun y hy => List.all_eq_true.1 hc.2.2 y hy⟩
  ·rw [if_pos h1] at h0; exact absurd h0 h1
 ·rw [if_pos h0] at h; exact absurd h h0
theorem stepE_of {p : PV} {c : CV} (h0 : pdsE p = 0) (h1 : inQ c.p p.st = true) (h2 : c.wl ≤ 4096) (h3 : ∀ y ∈ c.ws, inQ y p.sy = true) : stepE p c = 0 := by
 unfold stepE
 rw [if_neg (not_not_intro h0), if_pos]
 unfold confB
 rw [h1, decide_eq_true h2, List.all_eq_true.2 h3]; rfl
theorem next_valid {p : PV} {c cv : CV} {l : NxL} {x : Int × Int × List Int} (h : stepE p c = 0) (hl : nextF c.p c.ws p.rs 0 = some l) (hx : x ∈ l) (hlen : ∀ r ∈ p.rs, r.ws.length = r.wl) (hcv : cv.pl = x.2) (hcl : cv.wl = cv.ws.length) : stepE p cv = 0 := by
 have hs := stepAll h
 obtain ⟨n, r, hn, rfl, ha, hlong⟩ := nextF_at hl x hx
 obtain ⟨_, t, ht⟩ := appB_true ha
 have hr := List.mem_of_getElem? hn
 have hru := hs.rule r hr
 unfold ruleB at hru
 simp only [Bool.and_eq_true] at hru
 have e1 : cv.p = r.q := congrArg (·.1) hcv
 have e2 : cv.ws = r.ws ++ c.ws.tail := congrArg (·.2) hcv
 refine stepE_of hs.pd (by rw [e1]; exact hru.2.1) ?_ (fun y hy => ?_)
 ·rw [hcl, e2, List.length_append, List.length_tail, hlen r hr]; omega
 ·rw [e2] at hy
  rcases List.mem_append.1 hy with hy | hy
  ·exact List.all_eq_true.1 hru.2.2.2.2 y hy
  ·exact hs.cs y (List.mem_of_mem_tail hy)
theorem back_valid {p : PV} {c cv : CV} {l : NxL} {x : Int × Int × List Int} (h : stepE p c = 0) (hl : backF c.p c.ws p.rs 0 = some l) (hx : x ∈ l) (hcw : c.wl = c.ws.length) (hcv : cv.pl = x.2) (hcl : cv.wl = cv.ws.length) : stepE p cv = 0 := by
 have hs := stepAll h
 obtain ⟨n, r, hn, rfl, ha, hlong⟩ := backF_at hl x hx
 have hr := List.mem_of_getElem? hn
 have hru := hs.rule r hr
 unfold ruleB at hru
 simp only [Bool.and_eq_true] at hru
 have e1 : cv.p = r.p := congrArg (·.1) hcv
 have e2 : cv.ws = r.g :: c.ws.drop r.wl := congrArg (·.2) hcv
 refine stepE_of hs.pd (by rw [e1]; exact hru.1) ?_ (fun y hy => ?_)
 ·rw [hcl, e2, List.length_cons, List.length_drop]; omega
 ·rw [e2] at hy
  rcases List.mem_cons.1 hy with rfl | hy
  ·exact hru.2.2.1
  ·exact hs.cs y (List.mem_of_mem_drop hy)
theorem nx_cases (R : Option NxL) (E : Int) : ((nxE R E).1 = [] ∧ (nxE R E).2 ≠ 0) ∨ (E = 0 ∧ ∃ l, R = some l ∧ nxE R E = (l, 0)) := by
 by_cases h : E = 0
 ·cases R with
  | none => exact .inl (by rw [nxE_none h rfl]; exact ⟨rfl, by decide⟩)
  | some l => exact .inr ⟨h, l, rfl, nxE_some h rfl⟩
 ·exact .inl (by rw [nxE_bad h]; exact ⟨rfl, h⟩)
def isNxA (lo : Nat) (X : NxL × Int) : Asr := fun v w => ∃ v8 v9 : Value, v = .tuple #[v8, v9, .int .i64 X.2] ∧ isNumN lo X.1 v8 w ∧ isCfsN lo X.1 v9 w
theorem nxU_gN {P : Program} {f : FuncId} {vs : Array Value} {w : World} {X Y : NxL × Int} {lo : Nat} (hlo : lo ≤ w.heap.size) (e : X = Y) (h : Calls P f vs w (NxU X w)) : Calls P f vs w (GivesN (isNxA lo Y) w) := by
 subst e
 exact h.mono fun e w2 ⟨v8, v9, he, h1, h2, hb⟩ => ⟨_, he, fun w3 hg => ⟨v8, v9, rfl, isNumN_mono (isNumN_agree h1 hg) hlo, isCfsN_mono (isCfsN_agree h2 hg) hlo⟩, hb⟩
theorem isNx_0 {lo : Nat} {X : NxL × Int} : ∀ v w, isNxA lo X v w → ∃ (vs : Array Value) (u : Value), v = .tuple vs ∧ vs[0]? = some u ∧ ∀ w2, isNxA lo X v w2 → isNumN lo X.1 u w2 := fun v w ⟨a, c, e, h1, h2⟩ => by
 subst e
 exact ⟨_, _, rfl, rfl, fun w2 ⟨a2, c2, e2, h3, h4⟩ => by rw [(tup3_inj e2).1]; exact h3⟩
theorem isNx_1 {lo : Nat} {X : NxL × Int} : ∀ v w, isNxA lo X v w → ∃ (vs : Array Value) (u : Value), v = .tuple vs ∧ vs[1]? = some u ∧ ∀ w2, isNxA lo X v w2 → isCfsN lo X.1 u w2 := fun v w ⟨a, c, e, h1, h2⟩ => by
 subst e
 exact ⟨_, _, rfl, rfl, fun w2 ⟨a2, c2, e2, h3, h4⟩ => by rw [(tup3_inj e2).2.1]; exact h4⟩
theorem isNx_2 {lo : Nat} {X : NxL × Int} : ∀ v w, isNxA lo X v w → ∃ (vs : Array Value) (u : Value), v = .tuple vs ∧ vs[2]? = some u ∧ ∀ w2, isNxA lo X v w2 → isV (.int .i64 X.2) u w2 := fun v w ⟨a, c, e, h1, h2⟩ => by
 subst e
 exact ⟨_, _, rfl, rfl, fun w2 _ => rfl⟩
theorem among_c (na : Option Addr) (nl nc : Nat) (nums : List Int) (ca : Option Addr) (cl cc : Nat) (cs : List CV) (rule p : Int) (wa : Option Addr) (wl wc : Nat) (ws : List Int) (j : Nat) (c0 : CV) (w : World) (hrn : Row w na nums) (hnl : nums.length = nl) (hrc : CvRow w ca cs) (hcl : cs.length = cl) (hcc : ∀ c ∈ cs, CIn w c ∧ c.wl ≤ 9223372036854775807) (hrow : Row w wa ws) (hlen : ws.length = wl) (hj : nums[j]? = some rule) (hjc : cs[j]? = some c0) (hc0 : c0.p = p ∧ c0.ws = ws) (hmx : nl ≤ 9223372036854775807) :
  Calls Tryd.prog 9 #[.slice na nl nc, .slice ca cl cc, .int .i64 rule, .agg #[.int .i64 p, .slice wa wl wc]] w (fun e w' => e = .returned (.bool (true)) ∧ Below w.heap.size w w') := by
 refine enterF (args := [.slice na nl nc, .slice ca cl cc, .int .i64 rule, .agg #[.int .i64 p, .slice wa wl wc]]) Tryd.func9 rfl Tryd.ntmps9 rfl ?_
 have hS := St.start w
 refine seqF (regF ?_)
 refine op_box (cs := [_, _]) hS rfl rfl rfl ?_
 clear hS; intro B1 W1 hS
 refine op_assign rfl rfl ?_
 refine endF (XF.thenN ?_)
 refine seqF ?_
 refine seqF (regF ?_)
 refine op_assign rfl rfl ?_
 refine endF (XF.thenN ?_)
 refine blockF ?_
 refine loopF (fun m l W => ∃ i : Nat, i ≤ j ∧ m = nl - i ∧ l = [(0, .slice na nl nc), (1, .slice ca cl cc), (2, .int .i64 rule), (7, .pointer (some ⟨B1, 0, none⟩)), (9, .int .i64 (i : Int))] ∧ St w [(B1, [.int .i64 p, .slice wa wl wc], 31)] [] [] W) (nl - 0) ([(0, _), (1, _), (2, _), (7, _), (9, _)]) ⟨rfl, rfl, rfl, rfl, rfl, trivial⟩ (⟨0, Nat.zero_le _, rfl, rfl, hS.clear⟩) ?_
 clear hS
 rintro m l W ⟨i, hi, rfl, rfl, hS⟩
 have hjn : j < nl := by rw [← hnl]; exact (List.getElem?_eq_some_iff.1 hj).1
 have hjm : j < cl := by rw [← hcl]; exact (List.getElem?_eq_some_iff.1 hjc).1
 refine seqF ?_
 refine seqF (regF ?_)
 refine op_move rfl rfl ?_
 refine op_move rfl rfl ?_
 refine op_len Tryd.underlying29 rfl rfl ?_
 refine op_lss rfl rfl rfl ?_
 refine op_move rfl rfl ?_
 refine op_cases (d := 14) rfl (fun hc => ?_) (fun hc => absurd (of_decide_eq_false hc) (by omega))
 have hc := of_decide_eq_true hc
 refine op_wantedF (d := 14) rfl rfl ?_
 refine op_move rfl rfl ?_
 refine op_wantedF (d := 14) rfl rfl ?_
 refine op_move rfl rfl ?_
 refine op_wantedF (d := 14) rfl rfl ?_
 refine op_len Tryd.underlying33 rfl rfl ?_
 refine op_wantedF (d := 14) rfl rfl ?_
 refine op_lss rfl rfl rfl ?_
 refine op_pickT rfl rfl rfl ?_
 refine endF (XF.thenN ?_)
 refine condF rfl (fun hc => ?_) (fun hc => absurd (of_decide_eq_false hc) (by omega))
 have hc := of_decide_eq_true hc
 refine skipF ?_
 refine XF.thenN ?_
 refine seqF ?_
 refine blockF ?_
 refine seqF ?_
 obtain ⟨nb, no, y, rfl, hy, hyc⟩ := hrn.at1 (show i < nums.length by omega)
 obtain ⟨cx, hcx⟩ : ∃ x, cs[i]? = some x := ⟨cs[i]'(by omega), by simp [show i < cs.length by omega]⟩
 obtain ⟨hci, hcm⟩ := hcc cx (List.mem_of_getElem? hcx)
 obtain ⟨cb, co, rfl, hcv⟩ := hrc.at_ hcx
 obtain ⟨q, va, vl, vc, vs⟩ := cx
 dsimp only at hcv
 have k1 := hS.old hyc
 have k2 := CellsAt.agree hS.agree (Nat.zero_le _) hcv
 by_cases hyr : y = rule
 ·skip
  refine regB (m := 14) followsM hS (by kernel_rfl) (by kernel_rfl) rfl ?_
  refine bl_cons 1 rfl (isV _) (stab_isV _) (rgV (li := [(0, _)]) rfl (w_free rfl) ⟨g_fr (by kernel_rfl) rfl, trivial⟩ (fun w hw => rn_move rfl) (at_top rfl)) ?_
  refine bl_cons 2 rfl (isV _) (stab_isV _) (rgV (li := [(9, _)]) rfl (w_free rfl) ⟨g_fr (by kernel_rfl) rfl, trivial⟩ (fun w hw => rn_move rfl) (at_top rfl)) ?_
  refine bl_cons 3 rfl (isV _) (stab_isV _) (rgV (li := [(22, _), (23, _)]) rfl (w_free rfl) ⟨g_dep 0 (by kernel_rfl) (at_dep rfl rfl rfl), g_dep 1 (by kernel_rfl) (at_dep rfl rfl rfl), trivial⟩ (fun w hw => rn_indexA  Tryd.underlying29 Tryd.sizeOf3 rfl rfl rfl (by omega) rfl) (at_top rfl)) ?_
  refine bl_cons 4 rfl (isV _) (stab_isV _) (rgV (li := [(24, _)]) rfl (w_free rfl) ⟨g_dep 2 (by kernel_rfl) (at_dep rfl rfl rfl), trivial⟩ (fun w hw => rn_load Tryd.isAgg3 rfl ((below_agree hw 0).cell (Nat.zero_le _) (k1))) (at_top rfl)) ?_
  refine bl_cons 5 rfl (isV _) (stab_isV _) (rgV (li := [(2, _)]) rfl (w_free rfl) ⟨g_fr (by kernel_rfl) rfl, trivial⟩ (fun w hw => rn_move rfl) (at_top rfl)) ?_
  refine bl_cons 6 rfl (isV (.bool true)) (stab_isV _) (rgVe (li := [(25, _), (26, _)]) rfl (w_free rfl) ⟨g_dep 3 (by kernel_rfl) (at_dep rfl rfl rfl), g_dep 4 (by kernel_rfl) (at_dep rfl rfl rfl), trivial⟩ (fun w hw => rn_eql rfl rfl) (by rw [decide_eq_true hyr]) (at_top rfl)) ?_
  refine bl_cons 7 rfl (isV _) (stab_isV _) (rgV (li := [(27, _)]) rfl (w_free rfl) ⟨g_dep 5 (by kernel_rfl) (at_dep rfl rfl rfl), trivial⟩ (fun w hw => rn_move rfl) (at_top rfl)) ?_
  refine bl_cons 8 rfl (isV _) (stab_isV _) (rgV (li := [(1, _)]) rfl (w_yes 28 rfl (by kernel_rfl) (by kernel_rfl) (at_dep rfl rfl rfl)) ⟨g_fr (by kernel_rfl) rfl, trivial⟩ (fun w hw => rn_move rfl) (at_top rfl)) ?_
  refine bl_cons 9 rfl (isV _) (stab_isV _) (rgV (li := [(9, _)]) rfl (w_yes 28 rfl (by kernel_rfl) (by kernel_rfl) (at_dep rfl rfl rfl)) ⟨g_fr (by kernel_rfl) rfl, trivial⟩ (fun w hw => rn_move rfl) (at_top rfl)) ?_
  refine bl_cons 10 rfl (isV _) (stab_isV _) (rgV (li := [(29, _), (30, _)]) rfl (w_yes 28 rfl (by kernel_rfl) (by kernel_rfl) (at_dep rfl rfl rfl)) ⟨g_dep 7 (by kernel_rfl) (at_dep rfl rfl rfl), g_dep 8 (by kernel_rfl) (at_dep rfl rfl rfl), trivial⟩ (fun w hw => rn_indexA  Tryd.underlying33 Tryd.sizeOf31 rfl rfl rfl (by omega) rfl) (at_top rfl)) ?_
  refine bl_cons 11 rfl (isV _) (stab_isV _) (rgV (li := [(31, _)]) rfl (w_yes 28 rfl (by kernel_rfl) (by kernel_rfl) (at_dep rfl rfl rfl)) ⟨g_dep 9 (by kernel_rfl) (at_dep rfl rfl rfl), trivial⟩ (fun w hw => rn_loadA (vs := [_, _]) Tryd.isAgg31 Tryd.sizeOf31 rfl (CellsAt.agree (below_agree hw 0) (Nat.zero_le _) (k2))) (at_top rfl)) ?_
  refine bl_cons 12 rfl (isV _) (stab_isV _) (rgV (li := [(7, _)]) rfl (w_yes 28 rfl (by kernel_rfl) (by kernel_rfl) (at_dep rfl rfl rfl)) ⟨g_fr (by kernel_rfl) rfl, trivial⟩ (fun w hw => rn_loadA (vs := [_, _]) Tryd.isAgg31 Tryd.sizeOf31 rfl (CellsAt.agree (below_agree hw 0) (Nat.zero_le _) (CellsAt.own (j := 0) (m := 2) (hS.at_ 0 rfl) rfl))) (at_top rfl)) ?_
  refine bl_cons 13 rfl (isV (.bool (decide (q = p ∧ vs = ws)))) (stab_isV _) (rg_call [isV _, isV _] rfl goes_13 (w_yes 28 rfl (by kernel_rfl) (by kernel_rfl) (at_dep rfl rfl rfl)) ⟨p_tmp (g_dep 10 (by kernel_rfl) (at_dep rfl rfl rfl)), p_tmp (g_dep 11 (by kernel_rfl) (at_dep rfl rfl rfl)), trivial⟩ (fun vs w' hb hh => by have e := holds_isV (us := [_, _]) hh; subst e; exact (sameC_c q _ vl vc vs p _ wl wc ws _ (hci.row.below (hS.below.trans (hb.mono hS.below.size))) hci.len (hrow.below (hS.below.trans (hb.mono hS.below.size))) hlen hcm).mono fun e w2 h => ⟨_, h.1, rfl, h.2⟩) (at_top rfl)) ?_
  refine bl_cons 14 rfl (isV _) (stab_isV _) (rgV (li := [(28, _), (34, _)]) rfl (w_free rfl) ⟨g_dep 6 (by kernel_rfl) (at_dep rfl rfl rfl), g_dep 12 (by kernel_rfl) (at_dep rfl rfl rfl), trivial⟩ (fun w hw => rn_pickT rfl rfl) (at_top rfl)) ?_
  refine bl_nil ?_
  intro W2 hbR hS'
  clear hS; have hS := hS'; clear hS'
  refine fin_v ?_
  refine fin_v ?_
  refine fin_v ?_
  refine fin_v ?_
  refine fin_v ?_
  refine fin_v ?_
  refine fin_v ?_
  refine fin_v ?_
  refine fin_v ?_
  refine fin_v ?_
  refine fin_v ?_
  refine fin_v ?_
  refine fin_v ?_
  refine fin_v ?_
  refine fin_nil ?_
  refine XF.thenN ?_
  refine condF rfl (fun hc => ?_) (fun hc => ?_)
  ·have hc35 := hc; clear hc
   refine seqF (regF ?_)
   refine op_assign rfl rfl ?_
   refine endF (XF.thenN ?_)
   refine retF ?_
   refine XF.blkR ?_
   refine XF.thenR ?_
   refine XF.thenR ?_
   refine XF.blkR ?_
   refine XF.thenR ?_
   refine XF.res (res1 Tryd.results9 rfl) ?_
   exact ⟨rfl, hS.below⟩
  ·have hc35 := hc; clear hc
   refine skipF ?_
   refine XF.blkN ?_
   refine XF.thenN ?_
   refine regF ?_
   refine op_move rfl rfl ?_
   refine op_add rfl rfl (IntWalk.i64_in _ (by omega)) rfl ?_
   refine op_assign rfl rfl ?_
   refine endF ?_
   exact XF.round (nl - (i + 1)) [(0, _), (1, _), (2, _), (7, _), (9, _)] (by omega) ⟨rfl, rfl, rfl, rfl, rfl, trivial⟩ ⟨i + 1, by
    have hij : i ≠ j := fun e => by
     subst e
     rw [hjc] at hcx
     obtain rfl := Option.some.inj hcx
     have hne : ¬ (q = p ∧ vs = ws) := of_decide_eq_false hc35
     exact hne hc0
    omega, rfl, rfl, hS.clear⟩
 ·skip
  refine regB (m := 14) followsM hS (by kernel_rfl) (by kernel_rfl) rfl ?_
  refine bl_cons 1 rfl (isV _) (stab_isV _) (rgV (li := [(0, _)]) rfl (w_free rfl) ⟨g_fr (by kernel_rfl) rfl, trivial⟩ (fun w hw => rn_move rfl) (at_top rfl)) ?_
  refine bl_cons 2 rfl (isV _) (stab_isV _) (rgV (li := [(9, _)]) rfl (w_free rfl) ⟨g_fr (by kernel_rfl) rfl, trivial⟩ (fun w hw => rn_move rfl) (at_top rfl)) ?_
  refine bl_cons 3 rfl (isV _) (stab_isV _) (rgV (li := [(22, _), (23, _)]) rfl (w_free rfl) ⟨g_dep 0 (by kernel_rfl) (at_dep rfl rfl rfl), g_dep 1 (by kernel_rfl) (at_dep rfl rfl rfl), trivial⟩ (fun w hw => rn_indexA  Tryd.underlying29 Tryd.sizeOf3 rfl rfl rfl (by omega) rfl) (at_top rfl)) ?_
  refine bl_cons 4 rfl (isV _) (stab_isV _) (rgV (li := [(24, _)]) rfl (w_free rfl) ⟨g_dep 2 (by kernel_rfl) (at_dep rfl rfl rfl), trivial⟩ (fun w hw => rn_load Tryd.isAgg3 rfl ((below_agree hw 0).cell (Nat.zero_le _) (k1))) (at_top rfl)) ?_
  refine bl_cons 5 rfl (isV _) (stab_isV _) (rgV (li := [(2, _)]) rfl (w_free rfl) ⟨g_fr (by kernel_rfl) rfl, trivial⟩ (fun w hw => rn_move rfl) (at_top rfl)) ?_
  refine bl_cons 6 rfl (isV (.bool false)) (stab_isV _) (rgVe (li := [(25, _), (26, _)]) rfl (w_free rfl) ⟨g_dep 3 (by kernel_rfl) (at_dep rfl rfl rfl), g_dep 4 (by kernel_rfl) (at_dep rfl rfl rfl), trivial⟩ (fun w hw => rn_eql rfl rfl) (by rw [decide_eq_false hyr]) (at_top rfl)) ?_
  refine bl_cons 7 rfl (isV _) (stab_isV _) (rgV (li := [(27, _)]) rfl (w_free rfl) ⟨g_dep 5 (by kernel_rfl) (at_dep rfl rfl rfl), trivial⟩ (fun w hw => rn_move rfl) (at_top rfl)) ?_
  refine bl_cons 8 rfl (isV undef) (stab_isV _) (rg_no rfl (w_no 28 rfl (by kernel_rfl) (by kernel_rfl) (at_dep rfl rfl rfl) rfl) (at_top rfl)) ?_
  refine bl_cons 9 rfl (isV undef) (stab_isV _) (rg_no rfl (w_no 28 rfl (by kernel_rfl) (by kernel_rfl) (at_dep rfl rfl rfl) rfl) (at_top rfl)) ?_
  refine bl_cons 10 rfl (isV undef) (stab_isV _) (rg_no rfl (w_no 28 rfl (by kernel_rfl) (by kernel_rfl) (at_dep rfl rfl rfl) rfl) (at_top rfl)) ?_
  refine bl_cons 11 rfl (isV undef) (stab_isV _) (rg_no rfl (w_no 28 rfl (by kernel_rfl) (by kernel_rfl) (at_dep rfl rfl rfl) rfl) (at_top rfl)) ?_
  refine bl_cons 12 rfl (isV undef) (stab_isV _) (rg_no rfl (w_no 28 rfl (by kernel_rfl) (by kernel_rfl) (at_dep rfl rfl rfl) rfl) (at_top rfl)) ?_
  refine bl_cons 13 rfl (isV undef) (stab_isV _) (rg_no rfl (w_no 28 rfl (by kernel_rfl) (by kernel_rfl) (at_dep rfl rfl rfl) rfl) (at_top rfl)) ?_
  refine bl_cons 14 rfl (isV _) (stab_isV _) (rgV (li := [(28, _)]) rfl (w_free rfl) ⟨g_dep 6 (by kernel_rfl) (at_dep rfl rfl rfl), trivial⟩ (fun w hw => rn_pickF rfl rfl) (at_top rfl)) ?_
  refine bl_nil ?_
  intro W3 hbR hS'
  clear hS; have hS := hS'; clear hS'
  refine fin_v ?_
  refine fin_v ?_
  refine fin_v ?_
  refine fin_v ?_
  refine fin_v ?_
  refine fin_v ?_
  refine fin_v ?_
  refine fin_v ?_
  refine fin_v ?_
  refine fin_v ?_
  refine fin_v ?_
  refine fin_v ?_
  refine fin_v ?_
  refine fin_v ?_
  refine fin_nil ?_
  refine XF.thenN ?_
  refine condN rfl ?_
  refine skipF ?_
  refine XF.blkN ?_
  refine XF.thenN ?_
  refine regF ?_
  refine op_move rfl rfl ?_
  refine op_add rfl rfl (IntWalk.i64_in _ (by omega)) rfl ?_
  refine op_assign rfl rfl ?_
  refine endF ?_
  exact XF.round (nl - (i + 1)) [(0, _), (1, _), (2, _), (7, _), (9, _)] (by omega) ⟨rfl, rfl, rfl, rfl, rfl, trivial⟩ ⟨i + 1, by
   have hij : i ≠ j := fun e => hyr (by subst e; rw [hj] at hy; exact (Option.some.inj hy).symm)
   omega, rfl, rfl, hS.clear⟩
theorem among_eq {w : World} {lo lo2 : Nat} {l : NxL} {v1 v2 : Value} {c : CV} {x : Int} (h1 : isNumN lo l v1 w) (h2 : isCfsN lo2 l v2 w) (hm : (x, c.p, c.ws) ∈ l) (hc : CIn w c) : Calls Tryd.prog 9 #[v1, v2, .int .i64 x, c.val] w (fun e w' => e = .returned (.bool (true)) ∧ Below w.heap.size w w') := by
 obtain ⟨a1, c1, rfl, r1⟩ := numN_row h1
 obtain ⟨a2, c2, cs, rfl, r2, e2, k2, m2, _⟩ := cfsN_row h2
 obtain ⟨j, hj⟩ := List.getElem?_of_mem hm
 have hcs : cs.length = l.length := by have := congrArg List.length e2; simpa using this
 have hjl := (List.getElem?_eq_some_iff.1 hj).1
 obtain ⟨c0, hc0⟩ : ∃ c0, cs[j]? = some c0 := ⟨cs[j]'(by omega), by simp⟩
 have he : c0.pl = (c.p, c.ws) := by
  have := congrArg (fun z => z[j]?) e2
  simp only [List.getElem?_map, hc0, hj, Option.map_some, Option.some.injEq] at this
  exact this
 refine among_c a1 _ c1 (l.map (·.1)) a2 _ c2 cs x c.p c.wa c.wl c.wc c.ws j c0 w r1.row rfl r2 rfl (fun c hc => ⟨(k2 c hc).1, (k2 c hc).2.1⟩) hc.row hc.len (by rw [List.getElem?_map, hj]; rfl) hc0 ⟨congrArg (·.1) he, congrArg (·.2) he⟩ ?_
 have := r1.lim; simp only [maxLen] at this; omega
end Go.Proofs.YtfkbkekgnoanaaaDoor
namespace Go.Proofs.YtfkbkekgnoanaaaDoor
open Go Go.RowKit
theorem goes_9 : goesIn Tryd.prog 9 = true := by kernel_rfl
def CfO (lo : Nat) (l : NxL) (ca : Option Addr) (cc : Nat) (cs : List CV) (W : World) : Prop := W.ownsRow lo 31 2 (.slice ca l.length cc) l.length (cs.flatMap two9) ∧ cs.map CV.pl = l.map (·.2) ∧ ∀ c ∈ cs, CHeld lo W c
theorem CfO.agree {lo : Nat} {l : NxL} {ca : Option Addr} {cc : Nat} {cs : List CV} {A W : World} (h : CfO lo l ca cc cs A) (hg : Agree lo A W) : CfO lo l ca cc cs W := ⟨ownsRow_agree h.1 hg, h.2.1, fun c hc => ⟨(h.2.2 c hc).1.agree hg, (h.2.2 c hc).2⟩⟩
theorem nxu_bad {X : NxL × Int} {w w' : World} {e : Ending} (h : NxU X w e w') (h1 : X.1 = []) : ∃ a7 c7 a8 c8, e = .returned (.tuple #[.slice a7 0 c7, .slice a8 0 c8, .int .i64 X.2]) ∧ Below w.heap.size w w' := by
 obtain ⟨v8, v9, he, h2, ⟨cs, h3, h4, _⟩, hb⟩ := h
 rw [h1] at h2 h4
 have hcs : cs = [] := List.map_eq_nil_iff.1 h4
 subst hcs
 obtain ⟨a7, c7, rfl, _⟩ := ownsRow_sl h2
 obtain ⟨a8, c8, rfl, _⟩ := ownsRow_sl h3
 exact ⟨a7, c7, a8, c8, he, hb⟩
theorem nxu_ok {l : NxL} {w w' : World} {e : Ending} (h : NxU (l, 0) w e w') : ∃ na nc ca cc cs, e = .returned (.tuple #[.slice na l.length nc, .slice ca l.length cc, .int .i64 0]) ∧ isNumN w.heap.size l (.slice na l.length nc) w' ∧ CfO w.heap.size l ca cc cs w' ∧ Below w.heap.size w w' := by
 obtain ⟨v8, v9, he, h2, ⟨cs, h3, h4, h5⟩, hb⟩ := h
 have hl : cs.length = l.length := by have := congrArg List.length h4; simpa using this
 obtain ⟨a7, c7, rfl, _⟩ := ownsRow_sl h2
 rw [hl] at h3
 obtain ⟨a8, c8, rfl, _⟩ := ownsRow_sl h3
 exact ⟨a7, c7, a8, c8, cs, he, h2, ⟨h3, h4, h5⟩, hb⟩
theorem numN_cell {lo : Nat} {l : NxL} {na : Option Addr} {nc i : Nat} {W : World} {x : Int × Int × List Int} (h : isNumN lo l (.slice na l.length nc) W) (hx : l[i]? = some x) : ∃ nb, na = some ⟨nb, 0, none⟩ ∧ W.cell? ⟨nb, 0 + i * 1, none⟩ = some (.int .i64 x.1) := by
 rcases ownsRow_cells h with ⟨_, h0⟩ | ⟨nb, h1, _, h3⟩
 ·rw [List.eq_nil_of_length_eq_zero h0] at hx; simp at hx
 ·exact ⟨nb, h1, by rw [Nat.zero_add, Nat.mul_one]; exact h3 i _ (by rw [List.getElem?_map, List.getElem?_map, hx]; rfl)⟩
theorem CfO.at_ {lo : Nat} {l : NxL} {ca : Option Addr} {cc i : Nat} {cs : List CV} {W : World} {x : Int × Int × List Int} (h : CfO lo l ca cc cs W) (hx : l[i]? = some x) : ∃ cb cv, ca = some ⟨cb, 0, none⟩ ∧ cs[i]? = some cv ∧ cv.pl = x.2 := by
 obtain ⟨h1, h2, _⟩ := h
 have hl : cs.length = l.length := by have := congrArg List.length h2; simpa using this
 have hi := (List.getElem?_eq_some_iff.1 hx).1
 have hcv : cs[i]? = some (cs[i]'(by omega)) := by simp
 rcases h1.2 with ⟨_, e2⟩ | ⟨g, cap, cur, e1, _, hg, _, _, hs, ht⟩
 ·omega
 ·cases e1
  refine ⟨g, _, rfl, hcv, ?_⟩
  have := congrArg (fun z => z[i]?) h2
  simp only [List.getElem?_map, hcv, hx, Option.map_some, Option.some.injEq] at this
  exact this
theorem CfO.cell {lo : Nat} {l : NxL} {cb cc i : Nat} {cs : List CV} {W : World} {cv : CV} (h : CfO lo l (some ⟨cb, 0, none⟩) cc cs W) (hx : cs[i]? = some cv) : CellsAt W cb (0 + i * 2) [.int .i64 cv.p, .slice cv.wa cv.wl cv.wc] := by
 obtain ⟨h1, h2, _⟩ := h
 have hl : cs.length = l.length := by have := congrArg List.length h2; simpa using this
 rcases h1.2 with ⟨e1, _⟩ | ⟨g, cap, cur, e1, _, hg, _, _, hs, ht⟩
 ·cases e1
 ·cases e1
  rw [Nat.zero_add]
  have hg2 : W.heap[cb]? = some (.cells cur.toList.toArray 31 (0, 0)) := hg
  refine CellsAt.own (j := i * 2) (m := 2) hg2 ?_
  have hlt := (List.getElem?_eq_some_iff.1 hx).1
  have e5 := flat2_at hx
  rw [← ht, List.drop_take, List.take_take] at e5
  rw [Nat.min_eq_left (by omega)] at e5
  exact e5
theorem CfO.cin {lo : Nat} {l : NxL} {ca : Option Addr} {cc i : Nat} {cs : List CV} {W : World} {cv : CV} (h : CfO lo l ca cc cs W) (hx : cs[i]? = some cv) : CIn W cv ∧ cv.wl = cv.ws.length ∧ cv.wl ≤ cv.wc := by
 obtain ⟨k1, k2⟩ := h.2.2 cv (List.mem_of_getElem? hx)
 exact ⟨⟨k1.row, k2.symm⟩, k2, by rw [k2]; exact k1.cap⟩
theorem stepsBoth_walk0 (ds d : Nat) (p : PV) (c : CV) (rule : Int) (w : World) (hp : PvIn w ds d p) (hcf : CIn w c) (hcc : c.wl ≤ c.wc) (ht : Tabs w) :
  Calls Tryd.prog 3 #[p.val, c.val, .int .i64 rule] w (fun e w' => e = .returned (.bool (true)) ∧ Below w.heap.size w w') := by
 refine enterF (args := [p.val, c.val, .int .i64 rule]) Tryd.func3 rfl Tryd.ntmps3 rfl ?_
 have hS := St.start w
 refine seqF (regF ?_)
 refine op_box (cs := [_, _, _, _, _, _]) hS rfl rfl rfl ?_
 clear hS; intro B1 W1 hS
 refine op_box (cs := [_, _]) hS rfl rfl rfl ?_
 clear hS; intro B2 W2 hS
 refine op_assign rfl rfl ?_
 refine endF (XF.thenN ?_)
 refine seqF ?_
 refine seqF (regF ?_)
 refine op_call (vs := []) hS goes_6 rfl (awakeS_is _ (ht.below hS.below)) rfl ?_
 rintro e W3 ⟨rfl, hb⟩
 refine ⟨_, rfl, hb, fun hS' => ?_⟩
 clear hS; have hS := hS'; clear hS' hb
 refine op_not rfl rfl ?_
 refine endF (XF.thenN ?_)
 refine condN rfl ?_
 refine skipF ?_
 refine XF.thenN ?_
 refine seqF ?_
 rcases nx_cases (nextF c.p c.ws p.rs 0) (stepE p c) with ⟨hX1, hX2⟩ | ⟨hE, ln, hR, hX⟩
 ·skip
  refine regF ?_
  refine op_loadA (vs := [_, _, _, _, _, _]) Tryd.isAgg28 Tryd.sizeOf28 rfl (CellsAt.own (j := 0) (m := 6) (hS.at_ 1 rfl) rfl) rfl ?_
  refine op_loadA (vs := [_, _]) Tryd.isAgg31 Tryd.sizeOf31 rfl (CellsAt.own (j := 0) (m := 2) (hS.at_ 0 rfl) rfl) rfl ?_
  refine op_call (vs := [_, _]) hS goes_7 rfl ((stNextA (hp.below hS.below) (hcf.below hS.below) hcc).mono fun e w2 h => nxu_bad h hX1) rfl ?_
  rintro e W4 ⟨a7, c7, a8, c8, rfl, hb⟩
  refine ⟨_, rfl, hb, fun hS' => ?_⟩
  clear hS; have hS := hS'; clear hS' hb
  refine op_move rfl rfl ?_
  refine op_extract rfl rfl rfl ?_
  refine op_extract rfl rfl rfl ?_
  refine op_extract rfl rfl rfl ?_
  refine op_assign rfl rfl ?_
  refine op_assign rfl rfl ?_
  refine op_assign rfl rfl ?_
  refine endF (XF.thenN ?_)
  refine seqF ?_
  refine seqF (regF ?_)
  refine op_move rfl rfl ?_
  refine op_neq rfl rfl rfl ?_
  refine endF (XF.thenN ?_)
  refine condF rfl (fun hc => ?_) (fun hc => absurd (of_decide_eq_false hc) (by exact fun h => h hX2))
  have hc := of_decide_eq_true hc
  refine seqF (regF ?_)
  refine op_move rfl rfl ?_
  refine op_len Tryd.underlying29 rfl rfl ?_
  refine op_move rfl rfl ?_
  refine op_len Tryd.underlying33 rfl rfl ?_
  refine op_add rfl rfl (IntWalk.i64_in _ (by omega)) rfl ?_
  refine op_eql rfl rfl rfl ?_
  refine op_assign rfl rfl ?_
  refine endF (XF.thenN ?_)
  refine retF ?_
  refine XF.thenR ?_
  refine XF.res (res1 Tryd.results3 rfl) ?_
  exact ⟨rbool (by simp), hS.below⟩
 ·skip
  refine regF ?_
  refine op_loadA (vs := [_, _, _, _, _, _]) Tryd.isAgg28 Tryd.sizeOf28 rfl (CellsAt.own (j := 0) (m := 6) (hS.at_ 1 rfl) rfl) rfl ?_
  refine op_loadA (vs := [_, _]) Tryd.isAgg31 Tryd.sizeOf31 rfl (CellsAt.own (j := 0) (m := 2) (hS.at_ 0 rfl) rfl) rfl ?_
  refine op_call (vs := [_, _]) hS goes_7 rfl ((stNextA (hp.below hS.below) (hcf.below hS.below) hcc).mono fun e w2 h => nxu_ok (by rw [hX] at h; exact h)) rfl ?_
  rintro e W5 ⟨na, nac, ca, cac, cs, rfl, hn1, hc1, hb⟩
  refine ⟨_, rfl, hb, fun hS' => ?_⟩
  clear hS; have hS := hS'; clear hS'
  have HN : Held w [(W3.heap.size, _)] (fun W2 => isNumN W3.heap.size ln (.slice na ln.length nac) W2 ∧ CfO W3.heap.size ln ca cac cs W2) := Held.one (p := fun W2 => isNumN W3.heap.size ln (.slice na ln.length nac) W2 ∧ CfO W3.heap.size ln ca cac cs W2) (fun W2 hg => ⟨isNumN_agree hn1 hg, hc1.agree hg⟩)
  obtain ⟨lo9, hlo9⟩ : ∃ n, n = W3.heap.size := ⟨_, rfl⟩
  rw [← hlo9] at HN hS
  clear hb
  refine op_move rfl rfl ?_
  refine op_extract rfl rfl rfl ?_
  refine op_extract rfl rfl rfl ?_
  refine op_extract rfl rfl rfl ?_
  refine op_assign rfl rfl ?_
  refine op_assign rfl rfl ?_
  refine op_assign rfl rfl ?_
  refine endF (XF.thenN ?_)
  refine seqF ?_
  refine seqF (regF ?_)
  refine op_move rfl rfl ?_
  refine op_neq rfl rfl rfl ?_
  refine endF (XF.thenN ?_)
  refine condF rfl (fun hc => absurd (of_decide_eq_true hc) (by exact fun h => h rfl)) (fun hc => ?_)
  have hc := of_decide_eq_false hc
  refine skipF ?_
  refine XF.thenN ?_
  refine seqF ?_
  refine seqF (regF ?_)
  refine op_move rfl rfl ?_
  refine op_len Tryd.underlying29 rfl rfl ?_
  refine op_move rfl rfl ?_
  refine op_len Tryd.underlying33 rfl rfl ?_
  refine op_neq rfl rfl rfl ?_
  refine endF (XF.thenN ?_)
  refine condF rfl (fun hc => absurd (of_decide_eq_true hc) (by exact fun h => h rfl)) (fun hc => ?_)
  have hc := of_decide_eq_false hc
  refine skipF ?_
  refine XF.thenN ?_
  refine joinF (fun l W => l = [(2, .int .i64 rule), (3, .pointer (some ⟨B1, 0, none⟩)), (4, .pointer (some ⟨B2, 0, none⟩))] ∧ St w [(B2, [.int .i64 c.p, .slice c.wa c.wl c.wc], 31), (B1, p.six, 28)] [] [] W) ?_ ?_
  ·clear hS
   rintro _ W ⟨rfl, hS⟩
   refine seqF ?_
   rcases hRb : backF c.p c.ws p.rs 0 with _ | lm
   ·skip
    refine regF ?_
    refine op_loadA (vs := [_, _, _, _, _, _]) Tryd.isAgg28 Tryd.sizeOf28 rfl (CellsAt.own (j := 0) (m := 6) (hS.at_ 1 rfl) rfl) rfl ?_
    refine op_loadA (vs := [_, _]) Tryd.isAgg31 Tryd.sizeOf31 rfl (CellsAt.own (j := 0) (m := 2) (hS.at_ 0 rfl) rfl) rfl ?_
    refine op_call (vs := [_, _]) hS goes_8 rfl ((stBackA (hp.below hS.below) (hcf.below hS.below) hcc).mono fun e w2 h => nxu_bad (X := ([], 2)) (by rw [hRb, nxE_none hE rfl] at h; exact h) rfl) rfl ?_
    rintro e W6 ⟨a7, c7, a8, c8, rfl, hb⟩
    refine ⟨_, rfl, hb, fun hS' => ?_⟩
    clear hS; have hS := hS'; clear hS' hb
    refine op_move rfl rfl ?_
    refine op_extract rfl rfl rfl ?_
    refine op_extract rfl rfl rfl ?_
    refine op_extract rfl rfl rfl ?_
    refine op_assign rfl rfl ?_
    refine op_assign rfl rfl ?_
    refine op_assign rfl rfl ?_
    refine endF (XF.thenN ?_)
    refine seqF ?_
    refine seqF (regF ?_)
    refine op_move rfl rfl ?_
    refine op_neq rfl rfl rfl ?_
    refine endF (XF.thenN ?_)
    refine condF rfl (fun hc => ?_) (fun hc => absurd (of_decide_eq_false hc) (by decide))
    have hc := of_decide_eq_true hc
    refine seqF (regF ?_)
    refine op_move rfl rfl ?_
    refine op_eql rfl rfl rfl ?_
    refine op_assign rfl rfl ?_
    refine endF (XF.thenN ?_)
    refine retF ?_
    refine XF.thenR ?_
    refine XF.res (res1 Tryd.results3 rfl) ?_
    exact ⟨rbool (by decide), hS.below⟩
   ·skip
    refine regF ?_
    refine op_loadA (vs := [_, _, _, _, _, _]) Tryd.isAgg28 Tryd.sizeOf28 rfl (CellsAt.own (j := 0) (m := 6) (hS.at_ 1 rfl) rfl) rfl ?_
    refine op_loadA (vs := [_, _]) Tryd.isAgg31 Tryd.sizeOf31 rfl (CellsAt.own (j := 0) (m := 2) (hS.at_ 0 rfl) rfl) rfl ?_
    refine op_call (vs := [_, _]) hS goes_8 rfl ((stBackA (hp.below hS.below) (hcf.below hS.below) hcc).mono fun e w2 h => nxu_ok (by rw [nxE_some hE hRb] at h; exact h)) rfl ?_
    rintro e W7 ⟨ma, mac, da, dac, ds9, rfl, hn1, hc1, hb⟩
    refine ⟨_, rfl, hb, fun hS' => ?_⟩
    clear hS; have hS := hS'; clear hS'
    have HN : Held w [(W.heap.size, _)] (fun W2 => isNumN W.heap.size lm (.slice ma lm.length mac) W2 ∧ CfO W.heap.size lm da dac ds9 W2) := Held.one (p := fun W2 => isNumN W.heap.size lm (.slice ma lm.length mac) W2 ∧ CfO W.heap.size lm da dac ds9 W2) (fun W2 hg => ⟨isNumN_agree hn1 hg, hc1.agree hg⟩)
    obtain ⟨lo9, hlo9⟩ : ∃ n, n = W.heap.size := ⟨_, rfl⟩
    rw [← hlo9] at HN hS
    clear hb
    refine op_move rfl rfl ?_
    refine op_extract rfl rfl rfl ?_
    refine op_extract rfl rfl rfl ?_
    refine op_extract rfl rfl rfl ?_
    refine op_assign rfl rfl ?_
    refine op_assign rfl rfl ?_
    refine op_assign rfl rfl ?_
    refine endF (XF.thenN ?_)
    refine seqF ?_
    refine seqF (regF ?_)
    refine op_move rfl rfl ?_
    refine op_neq rfl rfl rfl ?_
    refine endF (XF.thenN ?_)
    refine condF rfl (fun hc => absurd (of_decide_eq_true hc) (by exact fun h => h rfl)) (fun hc => ?_)
    have hc := of_decide_eq_false hc
    refine skipF ?_
    refine XF.thenN ?_
    refine joinF (fun l W => l = [(2, .int .i64 rule), (3, .pointer (some ⟨B1, 0, none⟩)), (4, .pointer (some ⟨B2, 0, none⟩))] ∧ St w [(B2, [.int .i64 c.p, .slice c.wa c.wl c.wc], 31), (B1, p.six, 28)] [] [] W) ?_ ?_
    ·clear hS
     rintro _ W ⟨rfl, hS⟩
     refine seqF (regF ?_)
     refine op_move rfl rfl ?_
     refine op_lss rfl rfl rfl ?_
     refine op_move rfl rfl ?_
     refine op_cases (d := 128) rfl (fun hc => ?_) (fun hc => ?_)
     ·have hg128 := of_decide_eq_true hc; clear hc
      refine op_notF (d := 128) rfl rfl rfl rfl ?_
      refine op_notF (d := 128) rfl rfl rfl rfl ?_
      refine op_notF (d := 128) rfl rfl rfl rfl ?_
      refine op_notF (d := 128) rfl rfl rfl rfl ?_
      refine op_notF (d := 128) rfl rfl rfl rfl ?_
      refine op_pickT rfl rfl rfl ?_
      refine op_move rfl rfl ?_
      refine op_notF (d := 135) rfl rfl rfl rfl ?_
      refine op_notF (d := 135) rfl rfl rfl rfl ?_
      refine op_notF (d := 135) rfl rfl rfl rfl ?_
      refine op_pickT rfl rfl rfl ?_
      refine op_assign rfl rfl ?_
      refine endF (XF.thenN ?_)
      refine retF ?_
      refine XF.res (res1 Tryd.results3 rfl) ?_
      exact ⟨rfl, hS.below⟩
     ·have hg128 := of_decide_eq_false hc; clear hc
      refine op_wantedF (d := 128) rfl rfl ?_
      refine op_move rfl rfl ?_
      refine op_wantedF (d := 128) rfl rfl ?_
      refine op_field (o' := 5) fa_28_3 rfl rfl rfl ?_
      refine op_wantedF (d := 128) rfl rfl ?_
      refine op_load Tryd.isAgg26 rfl (cell_own (hS.at_ 1 rfl) rfl) rfl ?_
      refine op_wantedF (d := 128) rfl rfl ?_
      refine op_len Tryd.underlying26 rfl rfl ?_
      refine op_wantedF (d := 128) rfl rfl ?_
      refine op_geq rfl rfl rfl ?_
      refine op_pickF rfl rfl rfl ?_
      refine op_move rfl rfl ?_
      refine op_cases (d := 135) rfl (fun hc => ?_) (fun hc => ?_)
      ·have hg135 := of_decide_eq_true hc; clear hc
       refine op_notF (d := 135) rfl rfl rfl rfl ?_
       refine op_notF (d := 135) rfl rfl rfl rfl ?_
       refine op_notF (d := 135) rfl rfl rfl rfl ?_
       refine op_pickT rfl rfl rfl ?_
       refine op_assign rfl rfl ?_
       refine endF (XF.thenN ?_)
       refine retF ?_
       refine XF.res (res1 Tryd.results3 rfl) ?_
       exact ⟨rfl, hS.below⟩
      ·have hg135 := of_decide_eq_false hc; clear hc
       refine op_wantedF (d := 135) rfl rfl ?_
       refine op_loadA (vs := [_, _, _, _, _, _]) Tryd.isAgg28 Tryd.sizeOf28 rfl (CellsAt.own (j := 0) (m := 6) (hS.at_ 1 rfl) rfl) rfl ?_
       refine op_wantedF (d := 135) rfl rfl ?_
       refine op_call (vs := [_]) hS goes_10 rfl (pdsR_is ds d p _ (hp.below hS.below)) rfl ?_
       rintro e W8 ⟨rfl, hb⟩
       refine ⟨_, rfl, hb, fun hS' => ?_⟩
       clear hS; have hS := hS'; clear hS' hb
       refine op_wantedF (d := 135) rfl rfl ?_
       refine op_eql rfl rfl rfl ?_
       refine op_pickF rfl rfl rfl ?_
       refine op_assign rfl rfl ?_
       refine endF (XF.thenN ?_)
       refine retF ?_
       refine XF.res (res1 Tryd.results3 rfl) ?_
       exact ⟨rbool (decide_eq_true (stepAll hE).pd), hS.below⟩
    ·skip
     refine seqF (regF ?_)
     refine op_assign rfl rfl ?_
     refine endF (XF.thenN ?_)
     refine blockF ?_
     refine loopF (fun m l W => ∃ (i : Nat) (Kk : List (Nat × World)), i ≤ lm.length ∧ m = lm.length - i ∧ l = [(2, .int .i64 rule), (3, .pointer (some ⟨B1, 0, none⟩)), (4, .pointer (some ⟨B2, 0, none⟩)), (14, .slice ma lm.length mac), (15, .slice da lm.length dac), (17, .int .i64 (i : Int))] ∧ Held w Kk (fun W2 => isNumN lo9 lm (.slice ma lm.length mac) W2 ∧ CfO lo9 lm da dac ds9 W2) ∧ St w [(B2, [.int .i64 c.p, .slice c.wa c.wl c.wc], 31), (B1, p.six, 28)] [] Kk W) (lm.length - 0) ([(2, _), (3, _), (4, _), (14, _), (15, _), (17, _)]) ⟨rfl, rfl, rfl, rfl, rfl, rfl, trivial⟩ (⟨0, _, Nat.zero_le _, rfl, rfl, HN, hS.keep [_] (fun q hq => by simp at hq; subst hq; exact List.mem_cons_self)⟩) ?_
     clear hS
     rintro m l W ⟨i, Kk, hi, rfl, rfl, HN, hS⟩
     refine seqF ?_
     refine seqF (regF ?_)
     refine op_move rfl rfl ?_
     refine op_move rfl rfl ?_
     refine op_len Tryd.underlying29 rfl rfl ?_
     refine op_lss rfl rfl rfl ?_
     refine op_move rfl rfl ?_
     refine op_cases (d := 93) rfl (fun hc => ?_) (fun hc => ?_)
     ·have hg93 := of_decide_eq_true hc; clear hc
      refine op_wantedF (d := 93) rfl rfl ?_
      refine op_move rfl rfl ?_
      refine op_wantedF (d := 93) rfl rfl ?_
      refine op_lss rfl rfl rfl ?_
      refine op_pickT rfl rfl rfl ?_
      refine endF (XF.thenN ?_)
      refine condF rfl (fun hc => ?_) (fun hc => ?_)
      ·have hc96 := of_decide_eq_true hc; clear hc
       have hk : i < lm.length := by omega
       obtain ⟨x, hx⟩ : ∃ x, lm[i]? = some x := ⟨lm[i], by simp [hk]⟩
       obtain ⟨hNW, hCW⟩ := HN.now hS
       obtain ⟨nb, rfl, _⟩ := numN_cell hNW hx
       obtain ⟨cb, cv, rfl, hidx, hpl⟩ := hCW.at_ hx
       obtain ⟨_, hcvl, hcvc⟩ := hCW.cin hidx
       have hcvok : stepE p cv = 0 := back_valid hE hRb (List.mem_of_getElem? hx) hcf.len.symm hpl hcvl
       refine skipF ?_
       refine XF.thenN ?_
       refine seqF ?_
       refine blockF ?_
       refine seqF ?_
       rcases hN : nextF cv.p cv.ws p.rs 0 with _ | lb
       ·skip
        refine regY (al := []) (G := fun _ => []) (E := []) (k := 12) (ds := [20]) followsM rfl hS rfl rfl (by kernel_rfl) (by kernel_rfl) rfl (by decide) rfl ?_
        refine bly_cons 1 rfl (isV _) (syV fst_take [(3, _)] rfl rfl (fun _ => (w_free rfl)) (fun _ => ⟨g_fr (by kernel_rfl) rfl, trivial⟩) (fun s w hw => rn_loadA (vs := [_, _, _, _, _, _]) Tryd.isAgg28 Tryd.sizeOf28 rfl ((CellsAt.own (j := 0) (m := 6) (hw.at_ 1 rfl) rfl))) (at_top rfl)) ?_
        refine bly_cons 2 rfl (isV _) (syV fst_take [(15, _)] rfl rfl (fun _ => (w_free rfl)) (fun _ => ⟨g_fr (by kernel_rfl) rfl, trivial⟩) (fun s w hw => rn_move rfl) (at_top rfl)) ?_
        refine bly_cons 3 rfl (isV _) (syV fst_take [(17, _)] rfl rfl (fun _ => (w_free rfl)) (fun _ => ⟨g_fr (by kernel_rfl) rfl, trivial⟩) (fun s w hw => rn_move rfl) (at_top rfl)) ?_
        refine bly_cons 4 rfl (isV _) (syV fst_take [(101, _), (102, _)] rfl rfl (fun _ => (w_free rfl)) (fun _ => ⟨g_dep 1 (by kernel_rfl) (at_n rfl rfl (at_dep rfl rfl rfl)), g_dep 2 (by kernel_rfl) (at_n rfl rfl (at_dep rfl rfl rfl)), trivial⟩) (fun s w hw => rn_indexA  Tryd.underlying33 Tryd.sizeOf31 rfl rfl rfl (by omega) rfl) (at_top rfl)) ?_
        refine bly_cons 5 rfl (isV _) (syV fst_take [(103, _)] rfl rfl (fun _ => (w_free rfl)) (fun _ => ⟨g_dep 3 (by kernel_rfl) (at_n rfl rfl (at_dep rfl rfl rfl)), trivial⟩) (fun s w hw => rn_loadA (vs := [_, _]) Tryd.isAgg31 Tryd.sizeOf31 rfl ((HN hw (fun q hq => hq)).2.cell hidx)) (at_top rfl)) ?_
        refine bly_cons 6 rfl (isNxA W.heap.size ([], 2)) (sy_call fst_take (fun s => [isV _, isV _]) rfl rfl goes_7 (fun _ => w_free rfl) (fun s => ⟨p_tmp (g_dep 0 (by kernel_rfl) (at_n rfl rfl (at_dep rfl rfl rfl))), p_tmp (g_dep 4 (by kernel_rfl) (at_n rfl rfl (at_dep rfl rfl rfl))), trivial⟩) (fun vs s w' hk hw hlo hh => by have e := holds_isV (us := [_, _]) hh; subst e; have hX9 := HN hw (fun q hq => hq); exact nxU_gN hlo (nxE_none hcvok hN) (stNextA (c := cv) (hp.below hw.below) (hX9.2.cin hidx).1 hcvc)) (at_top rfl)) ?_
        refine bly_cons 7 rfl (isNxA W.heap.size ([], 2)) (syP (q := isNxA W.heap.size ([], 2)) 5 105 rfl rfl (by kernel_rfl) (at_dep rfl rfl rfl) syp_move9 (at_top rfl)) ?_
        refine bly_cons 8 rfl (isNumN W.heap.size (([], 2)).1) (syP (q := isNumN W.heap.size (([], 2)).1) 6 99 rfl rfl (by kernel_rfl) (at_dep rfl rfl rfl) (syp_ext9 isNx_0) (at_top rfl)) ?_
        refine bly_cons 9 rfl (isCfsN W.heap.size (([], 2)).1) (syP (q := isCfsN W.heap.size (([], 2)).1) 6 99 rfl rfl (by kernel_rfl) (at_dep rfl rfl rfl) (syp_ext9 isNx_1) (at_top rfl)) ?_
        refine bly_cons 10 rfl (isV (.int .i64 (([], 2)).2)) (syP (q := isV (.int .i64 (([], 2)).2)) 6 99 rfl rfl (by kernel_rfl) (at_dep rfl rfl rfl) (syp_ext9 isNx_2) (at_top rfl)) ?_
        refine bly_cons 11 rfl (isNumN W.heap.size (([], 2)).1) (syP (q := isNumN W.heap.size (([], 2)).1) 7 106 rfl rfl (by kernel_rfl) (at_dep rfl rfl rfl) syp_assign9 (at_top rfl)) ?_
        refine bly_cons 12 rfl (isCfsN W.heap.size (([], 2)).1) (syP (q := isCfsN W.heap.size (([], 2)).1) 8 107 rfl rfl (by kernel_rfl) (at_dep rfl rfl rfl) syp_assign9 (at_top rfl)) ?_
        refine bly_nil ?_
        intro s9 W9 Ks9 hall9 hsz9 hKs9 hS' hcov9 hfx9 hno9
        clear hS; have hS := hS'.castO (O' := [_, _]) rfl; clear hS'
        refine castL (L' := [AwS _ _ (isV _), AwS _ _ (isV _), AwS _ _ (isV _), AwS _ _ (isV _), AwS _ _ (isV _), AwS _ _ (isNxA W.heap.size ([], 2)), AwS _ _ (isNxA W.heap.size ([], 2)), AwS _ _ (isNumN W.heap.size (([], 2)).1), AwS _ _ (isCfsN W.heap.size (([], 2)).1), AwS _ _ (isV (.int .i64 (([], 2)).2)), AwS _ _ (isNumN W.heap.size (([], 2)).1), AwS _ _ (isCfsN W.heap.size (([], 2)).1)]) rfl ?_
        refine fin_sV ?_
        refine fin_sV ?_
        refine fin_sV ?_
        refine fin_sV ?_
        refine fin_sV ?_
        refine fin_p ?_; intro _ _
        refine fin_p ?_; intro _ _
        refine fin_p ?_; intro _ _
        refine fin_p ?_; intro _ _
        refine fin_sV ?_
        refine fin_p ?_; intro v11 h11
        refine fin_p ?_; intro v12 h12
        refine fin_nil ?_
        refine op_assign rfl rfl ?_
        refine endF (XF.thenN ?_)
        refine seqF ?_
        refine regB (m := 17) followsM hS (by kernel_rfl) (by kernel_rfl) rfl ?_
        refine bl_cons 1 rfl (isV _) (stab_isV _) (rgV (li := [(20, _)]) rfl (w_free rfl) ⟨g_fr (by kernel_rfl) rfl, trivial⟩ (fun w hw => rn_move rfl) (at_top rfl)) ?_
        refine bl_cons 2 rfl (isV (.bool false)) (stab_isV _) (rgVe (li := [(109, _)]) rfl (w_free rfl) ⟨g_dep 0 (by kernel_rfl) (at_dep rfl rfl rfl), trivial⟩ (fun w hw => rn_neq rfl rfl) (by rw [decide_eq_false (not_not_intro rfl)]) (at_top rfl)) ?_
        refine bl_cons 3 rfl (isV _) (stab_isV _) (rgV (li := [(110, _)]) rfl (w_free rfl) ⟨g_dep 1 (by kernel_rfl) (at_dep rfl rfl rfl), trivial⟩ (fun w hw => rn_move rfl) (at_top rfl)) ?_
        refine bl_cons 4 rfl (isV undef) (stab_isV _) (rg_no rfl (w_no 111 rfl (by kernel_rfl) (by kernel_rfl) (at_dep rfl rfl rfl) rfl) (at_top rfl)) ?_
        refine bl_cons 5 rfl (isV undef) (stab_isV _) (rg_no rfl (w_no 111 rfl (by kernel_rfl) (by kernel_rfl) (at_dep rfl rfl rfl) rfl) (at_top rfl)) ?_
        refine bl_cons 6 rfl (isV undef) (stab_isV _) (rg_no rfl (w_no 111 rfl (by kernel_rfl) (by kernel_rfl) (at_dep rfl rfl rfl) rfl) (at_top rfl)) ?_
        refine bl_cons 7 rfl (isV undef) (stab_isV _) (rg_no rfl (w_un 114 rfl (by kernel_rfl) (by kernel_rfl) (at_dep rfl rfl rfl)) (at_top rfl)) ?_
        refine bl_cons 8 rfl (isV undef) (stab_isV _) (rg_no rfl (w_un 114 rfl (by kernel_rfl) (by kernel_rfl) (at_dep rfl rfl rfl)) (at_top rfl)) ?_
        refine bl_cons 9 rfl (isV undef) (stab_isV _) (rg_no rfl (w_un 114 rfl (by kernel_rfl) (by kernel_rfl) (at_dep rfl rfl rfl)) (at_top rfl)) ?_
        refine bl_cons 10 rfl (isV undef) (stab_isV _) (rg_no rfl (w_un 114 rfl (by kernel_rfl) (by kernel_rfl) (at_dep rfl rfl rfl)) (at_top rfl)) ?_
        refine bl_cons 11 rfl (isV undef) (stab_isV _) (rg_no rfl (w_un 114 rfl (by kernel_rfl) (by kernel_rfl) (at_dep rfl rfl rfl)) (at_top rfl)) ?_
        refine bl_cons 12 rfl (isV undef) (stab_isV _) (rg_no rfl (w_un 114 rfl (by kernel_rfl) (by kernel_rfl) (at_dep rfl rfl rfl)) (at_top rfl)) ?_
        refine bl_cons 13 rfl (isV undef) (stab_isV _) (rg_no rfl (w_un 114 rfl (by kernel_rfl) (by kernel_rfl) (at_dep rfl rfl rfl)) (at_top rfl)) ?_
        refine bl_cons 14 rfl (isV undef) (stab_isV _) (rg_no rfl (w_un 114 rfl (by kernel_rfl) (by kernel_rfl) (at_dep rfl rfl rfl)) (at_top rfl)) ?_
        refine bl_cons 15 rfl (isV undef) (stab_isV _) (rg_no rfl (w_un 114 rfl (by kernel_rfl) (by kernel_rfl) (at_dep rfl rfl rfl)) (at_top rfl)) ?_
        refine bl_cons 16 rfl (isV undef) (stab_isV _) (rg_no rfl (w_no 111 rfl (by kernel_rfl) (by kernel_rfl) (at_dep rfl rfl rfl) rfl) (at_top rfl)) ?_
        refine bl_cons 17 rfl (isV _) (stab_isV _) (rgV (li := [(111, _)]) rfl (w_free rfl) ⟨g_dep 2 (by kernel_rfl) (at_dep rfl rfl rfl), trivial⟩ (fun w hw => rn_pickF rfl rfl) (at_top rfl)) ?_
        refine bl_nil ?_
        intro W10 hbR hS'
        clear hS; have hS := hS'; clear hS'
        refine fin_v ?_
        refine fin_v ?_
        refine fin_v ?_
        refine fin_v ?_
        refine fin_v ?_
        refine fin_v ?_
        refine fin_v ?_
        refine fin_v ?_
        refine fin_v ?_
        refine fin_v ?_
        refine fin_v ?_
        refine fin_v ?_
        refine fin_v ?_
        refine fin_v ?_
        refine fin_v ?_
        refine fin_v ?_
        refine fin_v ?_
        refine fin_nil ?_
        refine XF.thenN ?_
        refine condN rfl ?_
        refine skipF ?_
        refine XF.blkN ?_
        refine XF.thenN ?_
        refine regF ?_
        refine op_move rfl rfl ?_
        refine op_add rfl rfl (IntWalk.i64_in _ (by omega)) rfl ?_
        refine op_assign rfl rfl ?_
        refine endF ?_
        exact XF.round (lm.length - (i + 1)) [(2, _), (3, _), (4, _), (14, _), (15, _), (17, _)] (by omega) ⟨rfl, rfl, rfl, rfl, rfl, rfl, trivial⟩ ⟨i + 1, _, by omega, rfl, rfl, HN.more (fun q hq => by simp [hq]), hS⟩
       ·skip
        refine regY (al := []) (G := fun _ => []) (E := []) (k := 12) (ds := [20]) followsM rfl hS rfl rfl (by kernel_rfl) (by kernel_rfl) rfl (by decide) rfl ?_
        refine bly_cons 1 rfl (isV _) (syV fst_take [(3, _)] rfl rfl (fun _ => (w_free rfl)) (fun _ => ⟨g_fr (by kernel_rfl) rfl, trivial⟩) (fun s w hw => rn_loadA (vs := [_, _, _, _, _, _]) Tryd.isAgg28 Tryd.sizeOf28 rfl ((CellsAt.own (j := 0) (m := 6) (hw.at_ 1 rfl) rfl))) (at_top rfl)) ?_
        refine bly_cons 2 rfl (isV _) (syV fst_take [(15, _)] rfl rfl (fun _ => (w_free rfl)) (fun _ => ⟨g_fr (by kernel_rfl) rfl, trivial⟩) (fun s w hw => rn_move rfl) (at_top rfl)) ?_
        refine bly_cons 3 rfl (isV _) (syV fst_take [(17, _)] rfl rfl (fun _ => (w_free rfl)) (fun _ => ⟨g_fr (by kernel_rfl) rfl, trivial⟩) (fun s w hw => rn_move rfl) (at_top rfl)) ?_
        refine bly_cons 4 rfl (isV _) (syV fst_take [(101, _), (102, _)] rfl rfl (fun _ => (w_free rfl)) (fun _ => ⟨g_dep 1 (by kernel_rfl) (at_n rfl rfl (at_dep rfl rfl rfl)), g_dep 2 (by kernel_rfl) (at_n rfl rfl (at_dep rfl rfl rfl)), trivial⟩) (fun s w hw => rn_indexA  Tryd.underlying33 Tryd.sizeOf31 rfl rfl rfl (by omega) rfl) (at_top rfl)) ?_
        refine bly_cons 5 rfl (isV _) (syV fst_take [(103, _)] rfl rfl (fun _ => (w_free rfl)) (fun _ => ⟨g_dep 3 (by kernel_rfl) (at_n rfl rfl (at_dep rfl rfl rfl)), trivial⟩) (fun s w hw => rn_loadA (vs := [_, _]) Tryd.isAgg31 Tryd.sizeOf31 rfl ((HN hw (fun q hq => hq)).2.cell hidx)) (at_top rfl)) ?_
        refine bly_cons 6 rfl (isNxA W.heap.size (lb, 0)) (sy_call fst_take (fun s => [isV _, isV _]) rfl rfl goes_7 (fun _ => w_free rfl) (fun s => ⟨p_tmp (g_dep 0 (by kernel_rfl) (at_n rfl rfl (at_dep rfl rfl rfl))), p_tmp (g_dep 4 (by kernel_rfl) (at_n rfl rfl (at_dep rfl rfl rfl))), trivial⟩) (fun vs s w' hk hw hlo hh => by have e := holds_isV (us := [_, _]) hh; subst e; have hX9 := HN hw (fun q hq => hq); exact nxU_gN hlo (nxE_some hcvok hN) (stNextA (c := cv) (hp.below hw.below) (hX9.2.cin hidx).1 hcvc)) (at_top rfl)) ?_
        refine bly_cons 7 rfl (isNxA W.heap.size (lb, 0)) (syP (q := isNxA W.heap.size (lb, 0)) 5 105 rfl rfl (by kernel_rfl) (at_dep rfl rfl rfl) syp_move9 (at_top rfl)) ?_
        refine bly_cons 8 rfl (isNumN W.heap.size ((lb, 0)).1) (syP (q := isNumN W.heap.size ((lb, 0)).1) 6 99 rfl rfl (by kernel_rfl) (at_dep rfl rfl rfl) (syp_ext9 isNx_0) (at_top rfl)) ?_
        refine bly_cons 9 rfl (isCfsN W.heap.size ((lb, 0)).1) (syP (q := isCfsN W.heap.size ((lb, 0)).1) 6 99 rfl rfl (by kernel_rfl) (at_dep rfl rfl rfl) (syp_ext9 isNx_1) (at_top rfl)) ?_
        refine bly_cons 10 rfl (isV (.int .i64 ((lb, 0)).2)) (syP (q := isV (.int .i64 ((lb, 0)).2)) 6 99 rfl rfl (by kernel_rfl) (at_dep rfl rfl rfl) (syp_ext9 isNx_2) (at_top rfl)) ?_
        refine bly_cons 11 rfl (isNumN W.heap.size ((lb, 0)).1) (syP (q := isNumN W.heap.size ((lb, 0)).1) 7 106 rfl rfl (by kernel_rfl) (at_dep rfl rfl rfl) syp_assign9 (at_top rfl)) ?_
        refine bly_cons 12 rfl (isCfsN W.heap.size ((lb, 0)).1) (syP (q := isCfsN W.heap.size ((lb, 0)).1) 8 107 rfl rfl (by kernel_rfl) (at_dep rfl rfl rfl) syp_assign9 (at_top rfl)) ?_
        refine bly_nil ?_
        intro s11 W11 Ks11 hall11 hsz11 hKs11 hS' hcov11 hfx11 hno11
        clear hS; have hS := hS'.castO (O' := [_, _]) rfl; clear hS'
        refine castL (L' := [AwS _ _ (isV _), AwS _ _ (isV _), AwS _ _ (isV _), AwS _ _ (isV _), AwS _ _ (isV _), AwS _ _ (isNxA W.heap.size (lb, 0)), AwS _ _ (isNxA W.heap.size (lb, 0)), AwS _ _ (isNumN W.heap.size ((lb, 0)).1), AwS _ _ (isCfsN W.heap.size ((lb, 0)).1), AwS _ _ (isV (.int .i64 ((lb, 0)).2)), AwS _ _ (isNumN W.heap.size ((lb, 0)).1), AwS _ _ (isCfsN W.heap.size ((lb, 0)).1)]) rfl ?_
        refine fin_sV ?_
        refine fin_sV ?_
        refine fin_sV ?_
        refine fin_sV ?_
        refine fin_sV ?_
        refine fin_p ?_; intro _ _
        refine fin_p ?_; intro _ _
        refine fin_p ?_; intro _ _
        refine fin_p ?_; intro _ _
        refine fin_sV ?_
        refine fin_p ?_; intro v11 h11
        refine fin_p ?_; intro v12 h12
        refine fin_nil ?_
        refine op_assign rfl rfl ?_
        refine endF (XF.thenN ?_)
        refine seqF ?_
        have n11 := h11.here
        have n12 := h12.here
        have hX13 := HN hS (fun q hq => by simp [hq])
        obtain ⟨nb9, e9, k13⟩ := numN_cell hX13.1 hx
        cases e9
        have hmem := back_mem (p := c.p) (ws := c.ws) hRb (List.mem_of_getElem? hx) (fun r hr => (hp.rin r hr).len) (by rw [← hpl]; exact hN)
        refine regB (m := 17) followsM hS (by kernel_rfl) (by kernel_rfl) rfl ?_
        refine bl_cons 1 rfl (isV _) (stab_isV _) (rgV (li := [(20, _)]) rfl (w_free rfl) ⟨g_fr (by kernel_rfl) rfl, trivial⟩ (fun w hw => rn_move rfl) (at_top rfl)) ?_
        refine bl_cons 2 rfl (isV (.bool true)) (stab_isV _) (rgVe (li := [(109, _)]) rfl (w_free rfl) ⟨g_dep 0 (by kernel_rfl) (at_dep rfl rfl rfl), trivial⟩ (fun w hw => rn_neq rfl rfl) (by rw [decide_eq_true (by simp)]) (at_top rfl)) ?_
        refine bl_cons 3 rfl (isV _) (stab_isV _) (rgV (li := [(110, _)]) rfl (w_free rfl) ⟨g_dep 1 (by kernel_rfl) (at_dep rfl rfl rfl), trivial⟩ (fun w hw => rn_move rfl) (at_top rfl)) ?_
        refine bl_cons 4 rfl (isV _) (stab_isV _) (rgV (li := [(20, _)]) rfl (w_yes 111 rfl (by kernel_rfl) (by kernel_rfl) (at_dep rfl rfl rfl)) ⟨g_fr (by kernel_rfl) rfl, trivial⟩ (fun w hw => rn_move rfl) (at_top rfl)) ?_
        refine bl_cons 5 rfl (isV (.bool false)) (stab_isV _) (rgVe (li := [(112, _)]) rfl (w_yes 111 rfl (by kernel_rfl) (by kernel_rfl) (at_dep rfl rfl rfl)) ⟨g_dep 3 (by kernel_rfl) (at_dep rfl rfl rfl), trivial⟩ (fun w hw => rn_neq rfl rfl) (by rw [decide_eq_false (not_not_intro rfl)]) (at_top rfl)) ?_
        refine bl_cons 6 rfl (isV _) (stab_isV _) (rgV (li := [(113, _)]) rfl (w_yes 111 rfl (by kernel_rfl) (by kernel_rfl) (at_dep rfl rfl rfl)) ⟨g_dep 4 (by kernel_rfl) (at_dep rfl rfl rfl), trivial⟩ (fun w hw => rn_move rfl) (at_top rfl)) ?_
        refine bl_cons 7 rfl (isV _) (stab_isV _) (rgV (li := [(18, _)]) rfl (w_yes 114 rfl (by kernel_rfl) (by kernel_rfl) (at_dep rfl rfl rfl)) ⟨g_fr (by kernel_rfl) rfl, trivial⟩ (fun w hw => rn_move rfl) (at_top rfl)) ?_
        refine bl_cons 8 rfl (isV _) (stab_isV _) (rgV (li := [(19, _)]) rfl (w_yes 114 rfl (by kernel_rfl) (by kernel_rfl) (at_dep rfl rfl rfl)) ⟨g_fr (by kernel_rfl) rfl, trivial⟩ (fun w hw => rn_move rfl) (at_top rfl)) ?_
        refine bl_cons 9 rfl (isV _) (stab_isV _) (rgV (li := [(14, _)]) rfl (w_yes 114 rfl (by kernel_rfl) (by kernel_rfl) (at_dep rfl rfl rfl)) ⟨g_fr (by kernel_rfl) rfl, trivial⟩ (fun w hw => rn_move rfl) (at_top rfl)) ?_
        refine bl_cons 10 rfl (isV _) (stab_isV _) (rgV (li := [(17, _)]) rfl (w_yes 114 rfl (by kernel_rfl) (by kernel_rfl) (at_dep rfl rfl rfl)) ⟨g_fr (by kernel_rfl) rfl, trivial⟩ (fun w hw => rn_move rfl) (at_top rfl)) ?_
        refine bl_cons 11 rfl (isV _) (stab_isV _) (rgV (li := [(117, _), (118, _)]) rfl (w_yes 114 rfl (by kernel_rfl) (by kernel_rfl) (at_dep rfl rfl rfl)) ⟨g_dep 8 (by kernel_rfl) (at_dep rfl rfl rfl), g_dep 9 (by kernel_rfl) (at_dep rfl rfl rfl), trivial⟩ (fun w hw => rn_indexA  Tryd.underlying29 Tryd.sizeOf3 rfl rfl rfl (by omega) rfl) (at_top rfl)) ?_
        refine bl_cons 12 rfl (isV _) (stab_isV _) (rgV (li := [(119, _)]) rfl (w_yes 114 rfl (by kernel_rfl) (by kernel_rfl) (at_dep rfl rfl rfl)) ⟨g_dep 10 (by kernel_rfl) (at_dep rfl rfl rfl), trivial⟩ (fun w hw => rn_load Tryd.isAgg3 rfl ((below_agree hw 0).cell (Nat.zero_le _) (k13))) (at_top rfl)) ?_
        refine bl_cons 13 rfl (isV _) (stab_isV _) (rgV (li := [(4, _)]) rfl (w_yes 114 rfl (by kernel_rfl) (by kernel_rfl) (at_dep rfl rfl rfl)) ⟨g_fr (by kernel_rfl) rfl, trivial⟩ (fun w hw => rn_loadA (vs := [_, _]) Tryd.isAgg31 Tryd.sizeOf31 rfl (CellsAt.agree (below_agree hw 0) (Nat.zero_le _) (CellsAt.own (j := 0) (m := 2) (hS.at_ 0 rfl) rfl))) (at_top rfl)) ?_
        refine bl_cons 14 rfl (isV (.bool true)) (stab_isV _) (rg_call [isV _, isV _, isV _, isV _] rfl goes_9 (w_yes 114 rfl (by kernel_rfl) (by kernel_rfl) (at_dep rfl rfl rfl)) ⟨p_tmp (g_dep 6 (by kernel_rfl) (at_dep rfl rfl rfl)), p_tmp (g_dep 7 (by kernel_rfl) (at_dep rfl rfl rfl)), p_tmp (g_dep 11 (by kernel_rfl) (at_dep rfl rfl rfl)), p_tmp (g_dep 12 (by kernel_rfl) (at_dep rfl rfl rfl)), trivial⟩ (fun vs w' hb hh => by have e := holds_isV (us := [_, _, _, _]) hh; subst e; exact (among_eq (isNumN_agree n11 (below_agree hb _)) (isCfsN_agree n12 (below_agree hb _)) hmem (hcf.below (hS.below.trans (hb.mono hS.below.size)))).mono fun e w2 h => ⟨_, h.1, rfl, h.2⟩) (at_top rfl)) ?_
        refine bl_cons 15 rfl (isV _) (stab_isV _) (rgV (li := [(122, _)]) rfl (w_yes 114 rfl (by kernel_rfl) (by kernel_rfl) (at_dep rfl rfl rfl)) ⟨g_dep 13 (by kernel_rfl) (at_dep rfl rfl rfl), trivial⟩ (fun w hw => rn_not rfl) (at_top rfl)) ?_
        refine bl_cons 16 rfl (isV _) (stab_isV _) (rgV (li := [(114, _), (123, _)]) rfl (w_yes 111 rfl (by kernel_rfl) (by kernel_rfl) (at_dep rfl rfl rfl)) ⟨g_dep 5 (by kernel_rfl) (at_dep rfl rfl rfl), g_dep 14 (by kernel_rfl) (at_dep rfl rfl rfl), trivial⟩ (fun w hw => rn_pickF rfl rfl) (at_top rfl)) ?_
        refine bl_cons 17 rfl (isV _) (stab_isV _) (rgV (li := [(111, _), (124, _)]) rfl (w_free rfl) ⟨g_dep 2 (by kernel_rfl) (at_dep rfl rfl rfl), g_dep 15 (by kernel_rfl) (at_dep rfl rfl rfl), trivial⟩ (fun w hw => rn_pickT rfl rfl) (at_top rfl)) ?_
        refine bl_nil ?_
        intro W12 hbR hS'
        clear hS; have hS := hS'; clear hS'
        refine fin_v ?_
        refine fin_v ?_
        refine fin_v ?_
        refine fin_v ?_
        refine fin_v ?_
        refine fin_v ?_
        refine fin_v ?_
        refine fin_v ?_
        refine fin_v ?_
        refine fin_v ?_
        refine fin_v ?_
        refine fin_v ?_
        refine fin_v ?_
        refine fin_v ?_
        refine fin_v ?_
        refine fin_v ?_
        refine fin_v ?_
        refine fin_nil ?_
        refine XF.thenN ?_
        refine condN rfl ?_
        refine skipF ?_
        refine XF.blkN ?_
        refine XF.thenN ?_
        refine regF ?_
        refine op_move rfl rfl ?_
        refine op_add rfl rfl (IntWalk.i64_in _ (by omega)) rfl ?_
        refine op_assign rfl rfl ?_
        refine endF ?_
        exact XF.round (lm.length - (i + 1)) [(2, _), (3, _), (4, _), (14, _), (15, _), (17, _)] (by omega) ⟨rfl, rfl, rfl, rfl, rfl, rfl, trivial⟩ ⟨i + 1, _, by omega, rfl, rfl, HN.more (fun q hq => by simp [hq]), hS⟩
      ·have hc96 := of_decide_eq_false hc; clear hc
       refine exitF ?_
       refine XF.thenX ?_
       refine XF.thenX ?_
       refine XF.blkX ?_
       exact XF.join [(2, _), (3, _), (4, _)] ⟨rfl, rfl, rfl, trivial⟩ ⟨rfl, hS.clear⟩
     ·have hg93 := of_decide_eq_false hc; clear hc
      refine op_notF (d := 93) rfl rfl rfl rfl ?_
      refine op_notF (d := 93) rfl rfl rfl rfl ?_
      refine op_pickF rfl rfl rfl ?_
      refine endF (XF.thenN ?_)
      refine condN rfl ?_
      refine exitF ?_
      refine XF.thenX ?_
      refine XF.thenX ?_
      refine XF.blkX ?_
      exact XF.join [(2, _), (3, _), (4, _)] ⟨rfl, rfl, rfl, trivial⟩ ⟨rfl, hS.clear⟩
  ·skip
   refine seqF (regF ?_)
   refine op_assign rfl rfl ?_
   refine endF (XF.thenN ?_)
   refine blockF ?_
   refine loopF (fun m l W => ∃ (i : Nat) (Kk : List (Nat × World)), i ≤ ln.length ∧ m = ln.length - i ∧ l = [(2, .int .i64 rule), (3, .pointer (some ⟨B1, 0, none⟩)), (4, .pointer (some ⟨B2, 0, none⟩)), (7, .slice na ln.length nac), (8, .slice ca ln.length cac), (10, .int .i64 (i : Int))] ∧ Held w Kk (fun W2 => isNumN lo9 ln (.slice na ln.length nac) W2 ∧ CfO lo9 ln ca cac cs W2) ∧ St w [(B2, [.int .i64 c.p, .slice c.wa c.wl c.wc], 31), (B1, p.six, 28)] [] Kk W) (ln.length - 0) ([(2, _), (3, _), (4, _), (7, _), (8, _), (10, _)]) ⟨rfl, rfl, rfl, rfl, rfl, rfl, trivial⟩ (⟨0, _, Nat.zero_le _, rfl, rfl, HN, hS.keep [_] (fun q hq => by simp at hq; subst hq; exact List.mem_cons_self)⟩) ?_
   clear hS
   rintro m l W ⟨i, Kk, hi, rfl, rfl, HN, hS⟩
   refine seqF ?_
   refine seqF (regF ?_)
   refine op_move rfl rfl ?_
   refine op_move rfl rfl ?_
   refine op_len Tryd.underlying29 rfl rfl ?_
   refine op_lss rfl rfl rfl ?_
   refine op_move rfl rfl ?_
   refine op_cases (d := 47) rfl (fun hc => ?_) (fun hc => ?_)
   ·have hg47 := of_decide_eq_true hc; clear hc
    refine op_wantedF (d := 47) rfl rfl ?_
    refine op_move rfl rfl ?_
    refine op_wantedF (d := 47) rfl rfl ?_
    refine op_lss rfl rfl rfl ?_
    refine op_pickT rfl rfl rfl ?_
    refine endF (XF.thenN ?_)
    refine condF rfl (fun hc => ?_) (fun hc => ?_)
    ·have hc50 := of_decide_eq_true hc; clear hc
     have hk : i < ln.length := by omega
     obtain ⟨x, hx⟩ : ∃ x, ln[i]? = some x := ⟨ln[i], by simp [hk]⟩
     obtain ⟨hNW, hCW⟩ := HN.now hS
     obtain ⟨nb, rfl, _⟩ := numN_cell hNW hx
     obtain ⟨cb, cv, rfl, hidx, hpl⟩ := hCW.at_ hx
     obtain ⟨_, hcvl, hcvc⟩ := hCW.cin hidx
     have hcvok : stepE p cv = 0 := next_valid hE hR (List.mem_of_getElem? hx) (fun r hr => (hp.rin r hr).len) hpl hcvl
     refine skipF ?_
     refine XF.thenN ?_
     refine seqF ?_
     refine blockF ?_
     refine seqF ?_
     rcases hB : backF cv.p cv.ws p.rs 0 with _ | lb
     ·skip
      refine regY (al := []) (G := fun _ => []) (E := []) (k := 12) (ds := [13]) followsM rfl hS rfl rfl (by kernel_rfl) (by kernel_rfl) rfl (by decide) rfl ?_
      refine bly_cons 1 rfl (isV _) (syV fst_take [(3, _)] rfl rfl (fun _ => (w_free rfl)) (fun _ => ⟨g_fr (by kernel_rfl) rfl, trivial⟩) (fun s w hw => rn_loadA (vs := [_, _, _, _, _, _]) Tryd.isAgg28 Tryd.sizeOf28 rfl ((CellsAt.own (j := 0) (m := 6) (hw.at_ 1 rfl) rfl))) (at_top rfl)) ?_
      refine bly_cons 2 rfl (isV _) (syV fst_take [(8, _)] rfl rfl (fun _ => (w_free rfl)) (fun _ => ⟨g_fr (by kernel_rfl) rfl, trivial⟩) (fun s w hw => rn_move rfl) (at_top rfl)) ?_
      refine bly_cons 3 rfl (isV _) (syV fst_take [(10, _)] rfl rfl (fun _ => (w_free rfl)) (fun _ => ⟨g_fr (by kernel_rfl) rfl, trivial⟩) (fun s w hw => rn_move rfl) (at_top rfl)) ?_
      refine bly_cons 4 rfl (isV _) (syV fst_take [(55, _), (56, _)] rfl rfl (fun _ => (w_free rfl)) (fun _ => ⟨g_dep 1 (by kernel_rfl) (at_n rfl rfl (at_dep rfl rfl rfl)), g_dep 2 (by kernel_rfl) (at_n rfl rfl (at_dep rfl rfl rfl)), trivial⟩) (fun s w hw => rn_indexA  Tryd.underlying33 Tryd.sizeOf31 rfl rfl rfl (by omega) rfl) (at_top rfl)) ?_
      refine bly_cons 5 rfl (isV _) (syV fst_take [(57, _)] rfl rfl (fun _ => (w_free rfl)) (fun _ => ⟨g_dep 3 (by kernel_rfl) (at_n rfl rfl (at_dep rfl rfl rfl)), trivial⟩) (fun s w hw => rn_loadA (vs := [_, _]) Tryd.isAgg31 Tryd.sizeOf31 rfl ((HN hw (fun q hq => hq)).2.cell hidx)) (at_top rfl)) ?_
      refine bly_cons 6 rfl (isNxA W.heap.size ([], 2)) (sy_call fst_take (fun s => [isV _, isV _]) rfl rfl goes_8 (fun _ => w_free rfl) (fun s => ⟨p_tmp (g_dep 0 (by kernel_rfl) (at_n rfl rfl (at_dep rfl rfl rfl))), p_tmp (g_dep 4 (by kernel_rfl) (at_n rfl rfl (at_dep rfl rfl rfl))), trivial⟩) (fun vs s w' hk hw hlo hh => by have e := holds_isV (us := [_, _]) hh; subst e; have hX9 := HN hw (fun q hq => hq); exact nxU_gN hlo (nxE_none hcvok hB) (stBackA (c := cv) (hp.below hw.below) (hX9.2.cin hidx).1 hcvc)) (at_top rfl)) ?_
      refine bly_cons 7 rfl (isNxA W.heap.size ([], 2)) (syP (q := isNxA W.heap.size ([], 2)) 5 59 rfl rfl (by kernel_rfl) (at_dep rfl rfl rfl) syp_move9 (at_top rfl)) ?_
      refine bly_cons 8 rfl (isNumN W.heap.size (([], 2)).1) (syP (q := isNumN W.heap.size (([], 2)).1) 6 53 rfl rfl (by kernel_rfl) (at_dep rfl rfl rfl) (syp_ext9 isNx_0) (at_top rfl)) ?_
      refine bly_cons 9 rfl (isCfsN W.heap.size (([], 2)).1) (syP (q := isCfsN W.heap.size (([], 2)).1) 6 53 rfl rfl (by kernel_rfl) (at_dep rfl rfl rfl) (syp_ext9 isNx_1) (at_top rfl)) ?_
      refine bly_cons 10 rfl (isV (.int .i64 (([], 2)).2)) (syP (q := isV (.int .i64 (([], 2)).2)) 6 53 rfl rfl (by kernel_rfl) (at_dep rfl rfl rfl) (syp_ext9 isNx_2) (at_top rfl)) ?_
      refine bly_cons 11 rfl (isNumN W.heap.size (([], 2)).1) (syP (q := isNumN W.heap.size (([], 2)).1) 7 60 rfl rfl (by kernel_rfl) (at_dep rfl rfl rfl) syp_assign9 (at_top rfl)) ?_
      refine bly_cons 12 rfl (isCfsN W.heap.size (([], 2)).1) (syP (q := isCfsN W.heap.size (([], 2)).1) 8 61 rfl rfl (by kernel_rfl) (at_dep rfl rfl rfl) syp_assign9 (at_top rfl)) ?_
      refine bly_nil ?_
      intro s13 W13 Ks13 hall13 hsz13 hKs13 hS' hcov13 hfx13 hno13
      clear hS; have hS := hS'.castO (O' := [_, _]) rfl; clear hS'
      refine castL (L' := [AwS _ _ (isV _), AwS _ _ (isV _), AwS _ _ (isV _), AwS _ _ (isV _), AwS _ _ (isV _), AwS _ _ (isNxA W.heap.size ([], 2)), AwS _ _ (isNxA W.heap.size ([], 2)), AwS _ _ (isNumN W.heap.size (([], 2)).1), AwS _ _ (isCfsN W.heap.size (([], 2)).1), AwS _ _ (isV (.int .i64 (([], 2)).2)), AwS _ _ (isNumN W.heap.size (([], 2)).1), AwS _ _ (isCfsN W.heap.size (([], 2)).1)]) rfl ?_
      refine fin_sV ?_
      refine fin_sV ?_
      refine fin_sV ?_
      refine fin_sV ?_
      refine fin_sV ?_
      refine fin_p ?_; intro _ _
      refine fin_p ?_; intro _ _
      refine fin_p ?_; intro _ _
      refine fin_p ?_; intro _ _
      refine fin_sV ?_
      refine fin_p ?_; intro v11 h11
      refine fin_p ?_; intro v12 h12
      refine fin_nil ?_
      refine op_assign rfl rfl ?_
      refine endF (XF.thenN ?_)
      refine seqF ?_
      refine seqF (regF ?_)
      refine op_move rfl rfl ?_
      refine op_eql rfl rfl rfl ?_
      refine endF (XF.thenN ?_)
      refine condF rfl (fun hc => ?_) (fun hc => absurd (of_decide_eq_false hc) (by decide))
      have hc := of_decide_eq_true hc
      refine exitF ?_
      refine XF.thenX ?_
      refine XF.blkX ?_
      refine XF.thenN ?_
      refine regF ?_
      refine op_move rfl rfl ?_
      refine op_add rfl rfl (IntWalk.i64_in _ (by omega)) rfl ?_
      refine op_assign rfl rfl ?_
      refine endF ?_
      exact XF.round (ln.length - (i + 1)) [(2, _), (3, _), (4, _), (7, _), (8, _), (10, _)] (by omega) ⟨rfl, rfl, rfl, rfl, rfl, rfl, trivial⟩ ⟨i + 1, _, by omega, rfl, rfl, HN.more (fun q hq => by simp [hq]), hS⟩
     ·skip
      refine regY (al := []) (G := fun _ => []) (E := []) (k := 12) (ds := [13]) followsM rfl hS rfl rfl (by kernel_rfl) (by kernel_rfl) rfl (by decide) rfl ?_
      refine bly_cons 1 rfl (isV _) (syV fst_take [(3, _)] rfl rfl (fun _ => (w_free rfl)) (fun _ => ⟨g_fr (by kernel_rfl) rfl, trivial⟩) (fun s w hw => rn_loadA (vs := [_, _, _, _, _, _]) Tryd.isAgg28 Tryd.sizeOf28 rfl ((CellsAt.own (j := 0) (m := 6) (hw.at_ 1 rfl) rfl))) (at_top rfl)) ?_
      refine bly_cons 2 rfl (isV _) (syV fst_take [(8, _)] rfl rfl (fun _ => (w_free rfl)) (fun _ => ⟨g_fr (by kernel_rfl) rfl, trivial⟩) (fun s w hw => rn_move rfl) (at_top rfl)) ?_
      refine bly_cons 3 rfl (isV _) (syV fst_take [(10, _)] rfl rfl (fun _ => (w_free rfl)) (fun _ => ⟨g_fr (by kernel_rfl) rfl, trivial⟩) (fun s w hw => rn_move rfl) (at_top rfl)) ?_
      refine bly_cons 4 rfl (isV _) (syV fst_take [(55, _), (56, _)] rfl rfl (fun _ => (w_free rfl)) (fun _ => ⟨g_dep 1 (by kernel_rfl) (at_n rfl rfl (at_dep rfl rfl rfl)), g_dep 2 (by kernel_rfl) (at_n rfl rfl (at_dep rfl rfl rfl)), trivial⟩) (fun s w hw => rn_indexA  Tryd.underlying33 Tryd.sizeOf31 rfl rfl rfl (by omega) rfl) (at_top rfl)) ?_
      refine bly_cons 5 rfl (isV _) (syV fst_take [(57, _)] rfl rfl (fun _ => (w_free rfl)) (fun _ => ⟨g_dep 3 (by kernel_rfl) (at_n rfl rfl (at_dep rfl rfl rfl)), trivial⟩) (fun s w hw => rn_loadA (vs := [_, _]) Tryd.isAgg31 Tryd.sizeOf31 rfl ((HN hw (fun q hq => hq)).2.cell hidx)) (at_top rfl)) ?_
      refine bly_cons 6 rfl (isNxA W.heap.size (lb, 0)) (sy_call fst_take (fun s => [isV _, isV _]) rfl rfl goes_8 (fun _ => w_free rfl) (fun s => ⟨p_tmp (g_dep 0 (by kernel_rfl) (at_n rfl rfl (at_dep rfl rfl rfl))), p_tmp (g_dep 4 (by kernel_rfl) (at_n rfl rfl (at_dep rfl rfl rfl))), trivial⟩) (fun vs s w' hk hw hlo hh => by have e := holds_isV (us := [_, _]) hh; subst e; have hX9 := HN hw (fun q hq => hq); exact nxU_gN hlo (nxE_some hcvok hB) (stBackA (c := cv) (hp.below hw.below) (hX9.2.cin hidx).1 hcvc)) (at_top rfl)) ?_
      refine bly_cons 7 rfl (isNxA W.heap.size (lb, 0)) (syP (q := isNxA W.heap.size (lb, 0)) 5 59 rfl rfl (by kernel_rfl) (at_dep rfl rfl rfl) syp_move9 (at_top rfl)) ?_
      refine bly_cons 8 rfl (isNumN W.heap.size ((lb, 0)).1) (syP (q := isNumN W.heap.size ((lb, 0)).1) 6 53 rfl rfl (by kernel_rfl) (at_dep rfl rfl rfl) (syp_ext9 isNx_0) (at_top rfl)) ?_
      refine bly_cons 9 rfl (isCfsN W.heap.size ((lb, 0)).1) (syP (q := isCfsN W.heap.size ((lb, 0)).1) 6 53 rfl rfl (by kernel_rfl) (at_dep rfl rfl rfl) (syp_ext9 isNx_1) (at_top rfl)) ?_
      refine bly_cons 10 rfl (isV (.int .i64 ((lb, 0)).2)) (syP (q := isV (.int .i64 ((lb, 0)).2)) 6 53 rfl rfl (by kernel_rfl) (at_dep rfl rfl rfl) (syp_ext9 isNx_2) (at_top rfl)) ?_
      refine bly_cons 11 rfl (isNumN W.heap.size ((lb, 0)).1) (syP (q := isNumN W.heap.size ((lb, 0)).1) 7 60 rfl rfl (by kernel_rfl) (at_dep rfl rfl rfl) syp_assign9 (at_top rfl)) ?_
      refine bly_cons 12 rfl (isCfsN W.heap.size ((lb, 0)).1) (syP (q := isCfsN W.heap.size ((lb, 0)).1) 8 61 rfl rfl (by kernel_rfl) (at_dep rfl rfl rfl) syp_assign9 (at_top rfl)) ?_
      refine bly_nil ?_
      intro s14 W14 Ks14 hall14 hsz14 hKs14 hS' hcov14 hfx14 hno14
      clear hS; have hS := hS'.castO (O' := [_, _]) rfl; clear hS'
      refine castL (L' := [AwS _ _ (isV _), AwS _ _ (isV _), AwS _ _ (isV _), AwS _ _ (isV _), AwS _ _ (isV _), AwS _ _ (isNxA W.heap.size (lb, 0)), AwS _ _ (isNxA W.heap.size (lb, 0)), AwS _ _ (isNumN W.heap.size ((lb, 0)).1), AwS _ _ (isCfsN W.heap.size ((lb, 0)).1), AwS _ _ (isV (.int .i64 ((lb, 0)).2)), AwS _ _ (isNumN W.heap.size ((lb, 0)).1), AwS _ _ (isCfsN W.heap.size ((lb, 0)).1)]) rfl ?_
      refine fin_sV ?_
      refine fin_sV ?_
      refine fin_sV ?_
      refine fin_sV ?_
      refine fin_sV ?_
      refine fin_p ?_; intro _ _
      refine fin_p ?_; intro _ _
      refine fin_p ?_; intro _ _
      refine fin_p ?_; intro _ _
      refine fin_sV ?_
      refine fin_p ?_; intro v11 h11
      refine fin_p ?_; intro v12 h12
      refine fin_nil ?_
      refine op_assign rfl rfl ?_
      refine endF (XF.thenN ?_)
      refine seqF ?_
      refine seqF (regF ?_)
      refine op_move rfl rfl ?_
      refine op_eql rfl rfl rfl ?_
      refine endF (XF.thenN ?_)
      refine condF rfl (fun hc => absurd (of_decide_eq_true hc) (by simp)) (fun hc => ?_)
      have hc := of_decide_eq_false hc
      refine skipF ?_
      refine XF.thenN ?_
      refine seqF ?_
      have n11 := h11.here
      have n12 := h12.here
      have hX13 := HN hS (fun q hq => by simp [hq])
      obtain ⟨nb9, e9, k13⟩ := numN_cell hX13.1 hx
      cases e9
      have hmem := there_mem (p := c.p) (ws := c.ws) hR (List.mem_of_getElem? hx) (fun r hr => (hp.rin r hr).len) (by rw [← hpl]; exact hB)
      refine regB (m := 13) followsM hS (by kernel_rfl) (by kernel_rfl) rfl ?_
      refine bl_cons 1 rfl (isV _) (stab_isV _) (rgV (li := [(13, _)]) rfl (w_free rfl) ⟨g_fr (by kernel_rfl) rfl, trivial⟩ (fun w hw => rn_move rfl) (at_top rfl)) ?_
      refine bl_cons 2 rfl (isV (.bool false)) (stab_isV _) (rgVe (li := [(65, _)]) rfl (w_free rfl) ⟨g_dep 0 (by kernel_rfl) (at_dep rfl rfl rfl), trivial⟩ (fun w hw => rn_neq rfl rfl) (by rw [decide_eq_false (not_not_intro rfl)]) (at_top rfl)) ?_
      refine bl_cons 3 rfl (isV _) (stab_isV _) (rgV (li := [(66, _)]) rfl (w_free rfl) ⟨g_dep 1 (by kernel_rfl) (at_dep rfl rfl rfl), trivial⟩ (fun w hw => rn_move rfl) (at_top rfl)) ?_
      refine bl_cons 4 rfl (isV _) (stab_isV _) (rgV (li := [(11, _)]) rfl (w_yes 67 rfl (by kernel_rfl) (by kernel_rfl) (at_dep rfl rfl rfl)) ⟨g_fr (by kernel_rfl) rfl, trivial⟩ (fun w hw => rn_move rfl) (at_top rfl)) ?_
      refine bl_cons 5 rfl (isV _) (stab_isV _) (rgV (li := [(12, _)]) rfl (w_yes 67 rfl (by kernel_rfl) (by kernel_rfl) (at_dep rfl rfl rfl)) ⟨g_fr (by kernel_rfl) rfl, trivial⟩ (fun w hw => rn_move rfl) (at_top rfl)) ?_
      refine bl_cons 6 rfl (isV _) (stab_isV _) (rgV (li := [(7, _)]) rfl (w_yes 67 rfl (by kernel_rfl) (by kernel_rfl) (at_dep rfl rfl rfl)) ⟨g_fr (by kernel_rfl) rfl, trivial⟩ (fun w hw => rn_move rfl) (at_top rfl)) ?_
      refine bl_cons 7 rfl (isV _) (stab_isV _) (rgV (li := [(10, _)]) rfl (w_yes 67 rfl (by kernel_rfl) (by kernel_rfl) (at_dep rfl rfl rfl)) ⟨g_fr (by kernel_rfl) rfl, trivial⟩ (fun w hw => rn_move rfl) (at_top rfl)) ?_
      refine bl_cons 8 rfl (isV _) (stab_isV _) (rgV (li := [(70, _), (71, _)]) rfl (w_yes 67 rfl (by kernel_rfl) (by kernel_rfl) (at_dep rfl rfl rfl)) ⟨g_dep 5 (by kernel_rfl) (at_dep rfl rfl rfl), g_dep 6 (by kernel_rfl) (at_dep rfl rfl rfl), trivial⟩ (fun w hw => rn_indexA  Tryd.underlying29 Tryd.sizeOf3 rfl rfl rfl (by omega) rfl) (at_top rfl)) ?_
      refine bl_cons 9 rfl (isV _) (stab_isV _) (rgV (li := [(72, _)]) rfl (w_yes 67 rfl (by kernel_rfl) (by kernel_rfl) (at_dep rfl rfl rfl)) ⟨g_dep 7 (by kernel_rfl) (at_dep rfl rfl rfl), trivial⟩ (fun w hw => rn_load Tryd.isAgg3 rfl ((below_agree hw 0).cell (Nat.zero_le _) (k13))) (at_top rfl)) ?_
      refine bl_cons 10 rfl (isV _) (stab_isV _) (rgV (li := [(4, _)]) rfl (w_yes 67 rfl (by kernel_rfl) (by kernel_rfl) (at_dep rfl rfl rfl)) ⟨g_fr (by kernel_rfl) rfl, trivial⟩ (fun w hw => rn_loadA (vs := [_, _]) Tryd.isAgg31 Tryd.sizeOf31 rfl (CellsAt.agree (below_agree hw 0) (Nat.zero_le _) (CellsAt.own (j := 0) (m := 2) (hS.at_ 0 rfl) rfl))) (at_top rfl)) ?_
      refine bl_cons 11 rfl (isV (.bool true)) (stab_isV _) (rg_call [isV _, isV _, isV _, isV _] rfl goes_9 (w_yes 67 rfl (by kernel_rfl) (by kernel_rfl) (at_dep rfl rfl rfl)) ⟨p_tmp (g_dep 3 (by kernel_rfl) (at_dep rfl rfl rfl)), p_tmp (g_dep 4 (by kernel_rfl) (at_dep rfl rfl rfl)), p_tmp (g_dep 8 (by kernel_rfl) (at_dep rfl rfl rfl)), p_tmp (g_dep 9 (by kernel_rfl) (at_dep rfl rfl rfl)), trivial⟩ (fun vs w' hb hh => by have e := holds_isV (us := [_, _, _, _]) hh; subst e; exact (among_eq (isNumN_agree n11 (below_agree hb _)) (isCfsN_agree n12 (below_agree hb _)) hmem (hcf.below (hS.below.trans (hb.mono hS.below.size)))).mono fun e w2 h => ⟨_, h.1, rfl, h.2⟩) (at_top rfl)) ?_
      refine bl_cons 12 rfl (isV _) (stab_isV _) (rgV (li := [(75, _)]) rfl (w_yes 67 rfl (by kernel_rfl) (by kernel_rfl) (at_dep rfl rfl rfl)) ⟨g_dep 10 (by kernel_rfl) (at_dep rfl rfl rfl), trivial⟩ (fun w hw => rn_not rfl) (at_top rfl)) ?_
      refine bl_cons 13 rfl (isV _) (stab_isV _) (rgV (li := [(67, _), (76, _)]) rfl (w_free rfl) ⟨g_dep 2 (by kernel_rfl) (at_dep rfl rfl rfl), g_dep 11 (by kernel_rfl) (at_dep rfl rfl rfl), trivial⟩ (fun w hw => rn_pickF rfl rfl) (at_top rfl)) ?_
      refine bl_nil ?_
      intro W15 hbR hS'
      clear hS; have hS := hS'; clear hS'
      refine fin_v ?_
      refine fin_v ?_
      refine fin_v ?_
      refine fin_v ?_
      refine fin_v ?_
      refine fin_v ?_
      refine fin_v ?_
      refine fin_v ?_
      refine fin_v ?_
      refine fin_v ?_
      refine fin_v ?_
      refine fin_v ?_
      refine fin_v ?_
      refine fin_nil ?_
      refine XF.thenN ?_
      refine condN rfl ?_
      refine skipF ?_
      refine XF.blkN ?_
      refine XF.thenN ?_
      refine regF ?_
      refine op_move rfl rfl ?_
      refine op_add rfl rfl (IntWalk.i64_in _ (by omega)) rfl ?_
      refine op_assign rfl rfl ?_
      refine endF ?_
      exact XF.round (ln.length - (i + 1)) [(2, _), (3, _), (4, _), (7, _), (8, _), (10, _)] (by omega) ⟨rfl, rfl, rfl, rfl, rfl, rfl, trivial⟩ ⟨i + 1, _, by omega, rfl, rfl, HN.more (fun q hq => by simp [hq]), hS⟩
    ·have hc50 := of_decide_eq_false hc; clear hc
     refine exitF ?_
     refine XF.thenX ?_
     refine XF.thenX ?_
     refine XF.blkX ?_
     exact XF.join [(2, _), (3, _), (4, _)] ⟨rfl, rfl, rfl, trivial⟩ ⟨rfl, hS.clear⟩
   ·have hg47 := of_decide_eq_false hc; clear hc
    refine op_notF (d := 47) rfl rfl rfl rfl ?_
    refine op_notF (d := 47) rfl rfl rfl rfl ?_
    refine op_pickF rfl rfl rfl ?_
    refine endF (XF.thenN ?_)
    refine condN rfl ?_
    refine exitF ?_
    refine XF.thenX ?_
    refine XF.thenX ?_
    refine XF.blkX ?_
    exact XF.join [(2, _), (3, _), (4, _)] ⟨rfl, rfl, rfl, trivial⟩ ⟨rfl, hS.clear⟩
theorem stepsBoth_walk (d : Nat) (p : PV) (c : CV) (rule : Int) (w : World) (hp : PvIn w d d p) (hc : CIn w c ∧ c.wl ≤ c.wc) (hw : (Lit.int .i64 rule).wf = true) (ht : Tabs w) : Calls Tryd.prog 3 #[p.val, c.val, .int .i64 rule] w (fun e w' => e = .returned (.bool (true)) ∧ Below w.heap.size w w') := stepsBoth_walk0 d d p c rule w hp hc.1 hc.2 ht
end Go.Proofs.YtfkbkekgnoanaaaDoor
namespace Go.Proofs.YtfkbkekgnoanaaaDoor
open Go.RowKit Go.ChangeShapes Go.WideShapes Go.Deep Go.Joins
theorem ten_len {cs : List Value} (h : cs.length = 10) : ∃ a b c d e f g i j k, cs = [a, b, c, d, e, f, g, i, j, k] := by
 match cs, h with
 | [a, b, c, d, e, f, g, i, j, k], _ => exact ⟨a, b, c, d, e, f, g, i, j, k, rfl⟩
theorem cellsAt_of {w : World} {b : Nat} : ∀ (vs : List Value) (o : Nat), (∀ (j : Nat) u, vs[j]? = some u → w.cell? ⟨b, o + j, none⟩ = some u) → CellsAt w b o vs
 | [], _, _ => trivial
 | v :: vs, o, h => ⟨h 0 v rfl, cellsAt_of vs (o + 1) fun j u hj => by have := h (j + 1) u (by simpa using hj); rwa [show o + 1 + j = o + (j + 1) by omega]⟩
section
variable {H : Type} {enc : TypeId × Value → H} {w : World} {base : Nat} {spare : Nat → Bool} {held : Bool}
theorem ints_in {n : Nat} {v : Value} {x : DataW H × List MemPlace} (h : DataW.trod enc Tryd.prog w base spare held n 29 [v] = some x) :
  ∃ (a : Option Addr) (len cap : Nat) (zs : List Int), v = .slice a len cap ∧ Row w a zs ∧ zs.length = len ∧ len ≤ cap ∧ cap ≤ maxLen := by
 rcases open_ints (t := 29) (e := 3) (k := .i64) (by kernel_rfl) (by kernel_rfl) (by kernel_rfl) h with ⟨hcs, _⟩ | ⟨x, len, cap, zs, hcs, _, hl, hm, hz, _, hcell, hwz⟩
 ·have hcs' : v = .slice none 0 0 := by simpa using hcs
  subst hcs'
  exact ⟨none, 0, 0, [], rfl, .inl rfl, rfl, Nat.le_refl _, Nat.zero_le _⟩
 ·have hcs' : v = .slice (some x) len cap := by simpa using hcs
  subst hcs'
  have hzl : len ≤ zs.length := by rw [hz]; split <;> omega
  refine ⟨some x, len, cap, zs.take len, rfl, ?_, by simp; omega, hl, hm⟩
  rcases Nat.eq_zero_or_pos len with h0 | h0
  ·subst h0; exact .inl (by simp)
  ·obtain ⟨b, off, spot⟩ := x
   have hc0 := hcell 0 (by omega)
   have hspot : spot = none := by simpa [Addr.add] using World.cell?_spot hc0
   subst hspot
   refine .inr ⟨b, off, rfl, fun i hi => ?_⟩
   have hi1 : i < len := by simp at hi; omega
   have hi2 : i < zs.length := by omega
   have hc := hcell i hi2
   have e : ({ block := b, off := off } : Addr).add i = ⟨b, off + i, none⟩ := by simp [Addr.add]
   rw [e] at hc
   rw [hc]
   simp [List.getD, List.getElem?_take, hi1]
theorem rule_in {n : Nat} {cs : List Value} {x : DataW H × List MemPlace} (h : DataW.trod enc Tryd.prog w base spare held n 69 cs = some x) : ∃ r : RV, cs = r.ten ∧ RIn w n r := by
 obtain ⟨xs, n', hn, _, hl, hlen, hg⟩ := DataW.trod_struct Tryd.underlying69 h
 rw [show Tryd.prog.cellsOf 69 = 10 by kernel_rfl] at hl
 obtain ⟨a, b, c, d, e, f, g, i, j, k, rfl⟩ := ten_len hl
 have hlen5 : xs.length = 5 := hlen
 have g0 := hg 0 _ rfl
 have g1 := hg 1 _ rfl
 have g2 := hg 2 _ rfl
 have g3 := hg 3 _ rfl
 have g4 := hg 4 _ rfl
 rw [show Tryd.prog.cellsOf _ = 1 by kernel_rfl, List.getElem?_eq_getElem (by omega)] at g0 g1 g2 g3
 rw [show Tryd.prog.cellsOf _ = 6 by kernel_rfl, List.getElem?_eq_getElem (by omega)] at g4
 obtain ⟨z0, e0, _, w0⟩ := DataW.trod_int (k := .i64) (by kernel_rfl) g0
 obtain ⟨z1, e1, _, w1⟩ := DataW.trod_int (k := .i64) (by kernel_rfl) g1
 obtain ⟨z2, e2, _, w2⟩ := DataW.trod_int (k := .i64) (by kernel_rfl) g2
 simp at e0 e1 e2
 subst e0 e1 e2
 obtain ⟨ra, rl, rc, ws, rfl, hrow, hrl, _, _⟩ := ints_in (v := d) g3
 obtain ⟨s, e4, hs⟩ := weight_in n' g4
 have e4' : [e, f, g, i, j, k] = s.f.six := by simpa using e4
 simp only [List.cons.injEq, and_true] at e4'
 obtain ⟨rfl, rfl, rfl, rfl, rfl, rfl⟩ := e4'
 exact ⟨⟨z0, z1, z2, ra, rl, rc, ws, s⟩, rfl, hrow, hrl, hs.more (by omega)⟩
theorem pds_in {n : Nat} {cs : List Value} {x : DataW H × List MemPlace} (h : DataW.trod enc Tryd.prog w base spare held n 28 cs = some x) : ∃ p : PV, cs = p.six ∧ PvIn w n n p := by
 obtain ⟨xs, n', hn, _, hl, hlen, hg⟩ := DataW.trod_struct Tryd.underlying28 h
 rw [show Tryd.prog.cellsOf 28 = 6 by kernel_rfl] at hl
 obtain ⟨a, b, c, d, e, f, rfl⟩ := six_len hl
 have hlen4 : xs.length = 4 := hlen
 have g0 := hg 0 _ rfl
 have g1 := hg 1 _ rfl
 have g2 := hg 2 _ rfl
 have g3 := hg 3 _ rfl
 rw [show Tryd.prog.cellsOf _ = 3 by kernel_rfl, List.getElem?_eq_getElem (by omega)] at g0
 rw [show Tryd.prog.cellsOf _ = 1 by kernel_rfl, List.getElem?_eq_getElem (by omega)] at g1 g2 g3
 obtain ⟨s, es, hs⟩ := space_in n' g0
 have es' : [a, b, c] = [.int .i64 s.f.tag, .int .i64 s.f.dim, .slice s.f.a s.f.len s.f.cap] := by simpa using es
 simp only [List.cons.injEq, and_true] at es'
 obtain ⟨rfl, rfl, rfl⟩ := es'
 obtain ⟨z1, e1, _, w1⟩ := DataW.trod_int (k := .i64) (by kernel_rfl) g1
 obtain ⟨z2, e2, _, w2⟩ := DataW.trod_int (k := .i64) (by kernel_rfl) g2
 simp at e1 e2
 subst e1 e2
 rcases DataW.trod_slice Tryd.underlying26 g3 with ⟨hcs, _⟩ | ⟨ad, len, cap, elems, rest, n2, hn2, hcs, _, hb, hle, hcap, hel, hi, _, _⟩
 ·simp at hcs
  subst hcs
  exact ⟨⟨s, z1, z2, none, 0, 0, []⟩, rfl, hs.more (by omega), .inl rfl, rfl, fun r hr => by cases hr⟩
 ·simp at hcs
  subst hcs
  rw [show Tryd.prog.cellsOf 69 = 10 by kernel_rfl] at hi
  obtain ⟨rs, hrl, hrs⟩ := list_pick len (fun i (r : RV) => (∀ (j : Nat) u, r.ten[j]? = some u → w.cell? (ad.add (i * 10 + j)) = some u) ∧ RIn w n2 r) (fun i hil => by
   have hii := hi i hil
   rw [List.getElem?_eq_getElem (by omega)] at hii
   obtain ⟨cs', hc, ht⟩ := Option.bind_eq_some_iff.1 hii
   obtain ⟨_, hcl, hat⟩ := World.cells?_some hc
   obtain ⟨r, rfl, hr⟩ := rule_in ht
   refine ⟨r, fun j u hj => ?_, hr⟩
   have hj10 : j < 10 := (List.getElem?_eq_some_iff.1 hj).1
   have h0 := hat j (by omega)
   rw [Go.Deep.add_add] at h0
   rw [h0]; exact hj)
  refine ⟨⟨s, z1, z2, some ad, len, cap, rs⟩, rfl, hs.more (by omega), ?_, hrl, fun r hr => ?_⟩
  ·rcases Nat.eq_zero_or_pos len with h0 | h0
   ·exact .inl (List.length_eq_zero_iff.1 (by dsimp only; omega))
   ·obtain ⟨b, off, spot⟩ := ad
    have h1 := (hrs 0 (rs[0]'(by omega)) (List.getElem?_eq_getElem (by omega))).1 0 _ rfl
    have hspot : spot = none := by simpa [Addr.add] using World.cell?_spot h1
    subst hspot
    refine .inr ⟨b, off, rfl, fun i r hir => cellsAt_of _ _ fun j u hj => ?_⟩
    have h3 := (hrs i r hir).1 j u hj
    have e : ∀ k, ({ block := b, off := off } : Addr).add k = ⟨b, off + k, none⟩ := fun k => by simp [Addr.add]
    rw [e, ← Nat.add_assoc] at h3
    exact h3
  ·obtain ⟨i, hi', hic⟩ := List.mem_iff_getElem.1 hr
   have h4 := (hrs i r (by rw [← hic]; exact List.getElem?_eq_getElem hi')).2
   exact ⟨h4.row, h4.len, h4.x.more (by omega)⟩
theorem conf_in {n : Nat} {cs : List Value} {x : DataW H × List MemPlace} (h : DataW.trod enc Tryd.prog w base spare held n 31 cs = some x) : ∃ c : CV, cs = [.int .i64 c.p, .slice c.wa c.wl c.wc] ∧ CIn w c ∧ c.wl ≤ c.wc := by
 obtain ⟨xs, n', hn, _, hl, hlen, hg⟩ := DataW.trod_struct Tryd.underlying31 h
 rw [show Tryd.prog.cellsOf 31 = 2 by kernel_rfl] at hl
 obtain ⟨a, b, rfl⟩ := two_len hl
 have hlen2 : xs.length = 2 := hlen
 have g0 := hg 0 _ rfl
 have g1 := hg 1 _ rfl
 rw [show Tryd.prog.cellsOf _ = 1 by kernel_rfl, List.getElem?_eq_getElem (by omega)] at g0 g1
 obtain ⟨z0, e0, _, w0⟩ := DataW.trod_int (k := .i64) (by kernel_rfl) g0
 simp at e0
 subst e0
 obtain ⟨ra, rl, rc, ws, rfl, hrow, hrl, hcap, _⟩ := ints_in (v := b) g1
 exact ⟨⟨z0, ra, rl, rc, ws⟩, rfl, ⟨hrow, hrl⟩, hcap⟩
theorem pds_open {r : Reach} {b0 : Nat} {v : Value} {d : DataW H} {p : List MemPlace} (hv : Value.okWide Tryd.prog w r b0 28 v) (h : DataW.Trod enc Tryd.prog w base spare held 28 v d p) :
  ∃ (n : Nat) (s : PV), v = s.val ∧ PvIn w n n s := by
 obtain ⟨cs, rfl, _⟩ := okWide_struct Tryd.underlying28 hv
 obtain ⟨n, h⟩ := h
 obtain ⟨s, e, hs⟩ := pds_in (n := n) h
 have e' : cs.toList = _ := e
 exact ⟨n, s, by show Value.agg cs = Value.agg _; congr 1; exact Array.ext' e', hs⟩
theorem conf_open {r : Reach} {b0 : Nat} {v : Value} {d : DataW H} {p : List MemPlace} (hv : Value.okWide Tryd.prog w r b0 31 v) (h : DataW.Trod enc Tryd.prog w base spare held 31 v d p) :
  ∃ (s : CV), v = s.val ∧ CIn w s ∧ s.wl ≤ s.wc := by
 obtain ⟨cs, rfl, _⟩ := okWide_struct Tryd.underlying31 hv
 obtain ⟨n, h⟩ := h
 obtain ⟨s, e, hs⟩ := conf_in (n := n) h
 have e' : cs.toList = _ := e
 exact ⟨s, by show Value.agg cs = Value.agg _; congr 1; exact Array.ext' e', hs⟩
end
end Go.Proofs.YtfkbkekgnoanaaaDoor
