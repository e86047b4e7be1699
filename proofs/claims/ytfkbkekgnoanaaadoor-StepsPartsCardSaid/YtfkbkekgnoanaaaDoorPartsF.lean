import Derived.Orders
import Derived.Below
import Derived.Deep.RegionHeld
import Derived.WalkKit
import Derived.KernelRfl
import Derived.Laws.Rows
import Derived.Laws.AppendOwn
import Derived.Laws.Strings
import Derived.Laws.Small
import Derived.Lib.Hide
import Derived.IntWalk
import Derived.Laws.Tables
import Derived.Laws.Concat
import Derived.Laws.MakeOwn
import Derived.Test.YtfkbkekgnoanaaaDoorProg
import Derived.Test.YtfkbkekgnoanaaaDoorRows
import Derived.Lib.LaidTab
import Derived.Lib.ItoaNum
import Derived.Lib.TrailingZeros
import Derived.Stop.LaidErr
import Derived.WalkSmall
import Derived.LaidMore
import Derived.Shelf.Spec.TrailingZeros
import Derived.Laws.BitsAllLaws
import Derived.Laws.Bits64
import Derived.Deep.QuietTactic
import Derived.BigQuiet
import Derived.RegionTactic
import Derived.BigRegion
import Derived.Deep.RegionHeld3
import Derived.ChangeAlike
import Derived.RangeFuncNested
import Derived.RangeFuncBound
import Derived.RangeFuncCalls
import Derived.RangeFuncLeaves
import Derived.Shelf.Abstract
import Derived.Shelf.RegionOpen
import Derived.OwnWalkIn
import Derived.TacticsInMore
import Derived.LoopNIn
import Derived.LoopIn
import Derived.Laws.Bits128
import Derived.Deep.AppendLies
import Derived.Maps.AppendAt
import Derived.Shelf.Strconv.Itoa0
import Derived.Shelf.Strconv.Itoa1
import Derived.Shelf.LaysM
import Derived.Shelf.Strconv.Itoa2
import Derived.Shelf.Strconv.AppendUint10
import Derived.Shelf.Strconv.AppendInt10
import Derived.Shelf.Strconv.AppendIntPublic10
import Derived.Shelf.Slices.Reverse
import Derived.Shelf.Slices.Equal
import Derived.Ground.Names2Prog
import Derived.Shelf.Slices.Clone
import Derived.Shelf.Slices.Cells
import Derived.Shelf.Slices.Empties2
import Derived.Lib.OthersKept
import Derived.Laws.IdiomStrings
import Derived.StillTailTactics
import Derived.Deep.RegionLaw
import Derived.Deep.DeepCutAuto
import Derived.Deep.CutRange
import Derived.Deep.RegionWith
import Derived.Laws.Bits64b
import Derived.Deep.DrawnRows
import Derived.Lib.SliceRun
import Derived.Laws.OwnMore
import Derived.OwnWalk
import Derived.WalkSpells
import Derived.Lib.Join
import Derived.Lib.OwnBridge
import Derived.Lib.ItoaLen
import Derived.Lib.UnsafeStr
import Derived.Lib.AppendIntMem
import Derived.Deep.Slices
import Derived.Deep.Fields
import Derived.ChangeSame
import Derived.Lib.SmallJoins
import Derived.ChangeSlices
import Derived.ProofKit
import Derived.Test.YtfkbkekgnoanaaaDoorPartsA
import Derived.Test.YtfkbkekgnoanaaaDoorPartsB
import Derived.Test.YtfkbkekgnoanaaaDoorPartsC
import Derived.Test.YtfkbkekgnoanaaaDoorPartsD
import Derived.Test.YtfkbkekgnoanaaaDoorPartsE
set_option maxRecDepth 100000
set_option maxHeartbeats 4000000
set_option linter.unusedVariables false
set_option linter.unusedVariables false
set_option linter.unusedSimpArgs false
set_option linter.unusedSectionVars false
set_option linter.unnecessarySimpa false
namespace Go.Proofs.YtfkbkekgnoanaaaDoor
open Go.RowKit Go.ChangeShapes Go.WideShapes Go.Deep Go.Joins
theorem list_pick {α : Type} : ∀ (n : Nat) (p : Nat → α → Prop), (∀ i, i < n → ∃ c, p i c) → ∃ xs : List α, xs.length = n ∧ ∀ i c, xs[i]? = some c → p i c
 | 0, p, h => ⟨[], rfl, fun i c hi => by simp at hi⟩
 | n + 1, p, h => by
  obtain ⟨xs, hl, hp⟩ := list_pick n p (fun i hi => h i (by omega))
  obtain ⟨c, hc⟩ := h n (by omega)
  refine ⟨xs ++ [c], by simp [hl], fun i d hi => ?_⟩
  rcases Nat.lt_or_ge i n with h1 | h1
  ·rw [List.getElem?_append_left (by omega)] at hi
   exact hp i d hi
  ·obtain ⟨h2, _⟩ := List.getElem?_eq_some_iff.1 hi
   simp [hl] at h2
   obtain rfl : i = n := by omega
   rw [List.getElem?_append_right (by omega), hl, Nat.sub_self] at hi
   simp at hi
   subst hi
   exact hc
theorem SIn.more {w : World} : ∀ {d e : Nat} {s : SV}, d ≤ e → SIn w d s → SIn w e s
 | 0, _, _, _, h => h.elim
 | d + 1, 0, _, hl, _ => by omega
 | d + 1, e + 1, .mk f ps, hl, ⟨h1, h2, h3⟩ => ⟨h1, h2, fun p hp => SIn.more (by omega) (h3 p hp)⟩
theorem WIn.more {w : World} : ∀ {d e : Nat} {s : WV}, d ≤ e → WIn w d s → WIn w e s
 | 0, _, _, _, h => h.elim
 | d + 1, 0, _, hl, _ => by omega
 | d + 1, e + 1, .mk f ps, hl, ⟨h0, h1, h2, h3⟩ => ⟨h0, h1, h2, fun p hp => WIn.more (by omega) (h3 p hp)⟩
theorem six_len {cs : List Value} (h : cs.length = 6) : ∃ a b c d e f, cs = [a, b, c, d, e, f] := by
 match cs, h with
 | [a, b, c, d, e, f], _ => exact ⟨a, b, c, d, e, f, rfl⟩
theorem two_len {cs : List Value} (h : cs.length = 2) : ∃ a b, cs = [a, b] := by
 match cs, h with
 | [a, b], _ => exact ⟨a, b, rfl⟩
section
variable {H : Type} {enc : TypeId × Value → H} {w : World} {base : Nat} {spare : Nat → Bool} {held : Bool}
theorem space_in : ∀ (fuel : Nat) {cs : List Value} {x : DataW H × List MemPlace}, DataW.trod enc Tryd.prog w base spare held fuel 25 cs = some x → ∃ s : SV, cs = [.int .i64 s.f.tag, .int .i64 s.f.dim, .slice s.f.a s.f.len s.f.cap] ∧ SIn w fuel s := by
 intro fuel
 induction fuel using Nat.strongRecOn with
 | _ fuel ih =>
 intro cs x h
 obtain ⟨xs, n, hn, _, hl, hlen, hg⟩ := DataW.trod_struct Tryd.underlying25 h
 rw [show Tryd.prog.cellsOf 25 = 3 by kernel_rfl] at hl
 obtain ⟨a, b, c, rfl⟩ := three_len hl
 have hlen3 : xs.length = 3 := hlen
 have g0 := hg 0 _ rfl
 have g1 := hg 1 _ rfl
 have g2 := hg 2 _ rfl
 rw [show Tryd.prog.cellsOf _ = 1 by kernel_rfl, List.getElem?_eq_getElem (by omega)] at g0 g1 g2
 obtain ⟨z0, e0, _, w0⟩ := DataW.trod_int (k := .i64) (by kernel_rfl) g0
 obtain ⟨z1, e1, _, w1⟩ := DataW.trod_int (k := .i64) (by kernel_rfl) g1
 simp at e0 e1
 subst e0 e1
 rcases DataW.trod_slice Tryd.underlying23 g2 with ⟨hcs, _⟩ | ⟨ad, len, cap, elems, rest, n', hn', hcs, _, hb, hle, hcap, hel, hi, _, _⟩
 ·simp at hcs
  subst hcs
  subst hn
  exact ⟨.mk ⟨z0, z1, none, 0, 0⟩ [], rfl, rfl, .inl rfl, fun p hp => by cases hp⟩
 ·simp at hcs
  subst hcs
  subst hn
  rw [show Tryd.prog.cellsOf 25 = 3 by kernel_rfl] at hi
  obtain ⟨ps, hpl, hps⟩ := list_pick len (fun i (p : SV) => (w.cell? (ad.add (i * 3)) = some (.int .i64 p.f.tag) ∧ w.cell? (ad.add (i * 3 + 1)) = some (.int .i64 p.f.dim) ∧ w.cell? (ad.add (i * 3 + 2)) = some (.slice p.f.a p.f.len p.f.cap)) ∧ SIn w n' p) (fun i hil => by
   have hii := hi i hil
   rw [List.getElem?_eq_getElem (by omega)] at hii
   obtain ⟨cs', hc, ht⟩ := Option.bind_eq_some_iff.1 hii
   obtain ⟨_, hcl, hat⟩ := World.cells?_some hc
   obtain ⟨s, rfl, hs⟩ := ih n' (by omega) ht
   have e0 := hat 0 (by omega)
   have e1 := hat 1 (by omega)
   have e2 := hat 2 (by omega)
   rw [Go.Deep.add_add] at e0 e1 e2
   exact ⟨s, ⟨e0, e1, e2⟩, hs⟩)
  refine ⟨.mk ⟨z0, z1, some ad, len, cap⟩ ps, rfl, hpl, ?_, fun p hp => ?_⟩
  ·rcases Nat.eq_zero_or_pos len with h0 | h0
   ·exact .inl (List.length_eq_zero_iff.1 (by omega))
   ·obtain ⟨b, off, spot⟩ := ad
    obtain ⟨⟨h1, _, _⟩, _⟩ := hps 0 (ps[0]'(by omega)) (List.getElem?_eq_getElem (by omega))
    have hspot : spot = none := by simpa [Addr.add] using World.cell?_spot h1
    subst hspot
    refine .inr ⟨b, off, rfl, fun i c hic => ?_⟩
    have e : ∀ k, ({ block := b, off := off } : Addr).add k = ⟨b, off + k, none⟩ := fun k => by simp [Addr.add]
    have h3 := (hps i c hic).1
    rw [e, e, e, ← Nat.add_assoc, ← Nat.add_assoc] at h3
    exact h3
  ·obtain ⟨i, hi', hic⟩ := List.mem_iff_getElem.1 hp
   exact (hps i p (by rw [← hic]; exact List.getElem?_eq_getElem hi')).2.more (by omega)
theorem u64s_open {n : Nat} {v : Value} {x : DataW H × List MemPlace} (h : DataW.trod enc Tryd.prog w base spare held n 41 [v] = some x) :
  ∃ (a : Option Addr) (len cap : Nat) (rows : List Nat), v = .slice a len cap ∧ VRow w a (u64s rows) ∧ rows.length = len ∧ ∀ r ∈ rows, r < 18446744073709551616 := by
 rcases open_ints (t := 41) (e := 40) (k := .u64) (by kernel_rfl) (by kernel_rfl) (by kernel_rfl) h with ⟨hcs, _⟩ | ⟨x, len, cap, zs, hcs, _, hl, hm, hz, _, hcell, hwz⟩
 ·have hcs' : v = .slice none 0 0 := by simpa using hcs
  subst hcs'
  exact ⟨none, 0, 0, [], rfl, .inl rfl, rfl, fun r hr => by cases hr⟩
 ·have hcs' : v = .slice (some x) len cap := by simpa using hcs
  subst hcs'
  have hzl : len ≤ zs.length := by rw [hz]; split <;> omega
  refine ⟨some x, len, cap, (zs.take len).map Int.toNat, rfl, ?_, ?_, ?_⟩
  ·rcases Nat.eq_zero_or_pos len with h0 | h0
   ·subst h0; exact .inl (by simp [u64s])
   ·obtain ⟨b, off, spot⟩ := x
    have hc0 := hcell 0 (by omega)
    have hspot : spot = none := by simpa [Addr.add] using World.cell?_spot hc0
    subst hspot
    refine .inr ⟨b, off, rfl, fun i v hi => ?_⟩
    obtain ⟨q, hq, rfl⟩ := u64s_at hi
    rw [List.getElem?_map, List.getElem?_take] at hq
    split at hq
    ·rename_i hlt
     have hi2 : i < zs.length := by omega
     rw [List.getElem?_eq_getElem hi2] at hq
     have hq' : (zs[i]).toNat = q := by simpa using hq
     obtain ⟨m, hm1, hm2⟩ := u64_nat (hwz _ (List.getElem_mem hi2))
     have hc := hcell i hi2
     have e : ({ block := b, off := off } : Addr).add i = ⟨b, off + i, none⟩ := by simp [Addr.add]
     rw [e] at hc
     rw [hc]
     have : zs.getD i 0 = zs[i] := by simp [List.getD, List.getElem?_eq_getElem hi2]
     rw [this, hm1, ← hq', hm1]
     rfl
    ·cases hq
  ·simp; omega
  ·intro r hr
   obtain ⟨z, hz1, rfl⟩ := List.mem_map.1 hr
   obtain ⟨m, hm1, hm2⟩ := u64_nat (hwz z (List.mem_of_mem_take hz1))
   rw [hm1]; exact hm2
theorem facts_in {n : Nat} {a b : Value} {x : DataW H × List MemPlace} (h : DataW.trod enc Tryd.prog w base spare held n 43 [a, b] = some x) :
  ∃ (g : Nat) (ra : Option Addr) (rl rc : Nat) (rows : List Nat), a = .int .u64 (g : Int) ∧ b = .slice ra rl rc ∧ g < 18446744073709551616 ∧ VRow w ra (u64s rows) ∧ rows.length = rl ∧ ∀ r ∈ rows, r < 18446744073709551616 := by
 obtain ⟨xs, n', _, _, hl, hlen, hg⟩ := DataW.trod_struct Tryd.underlying43 h
 have hlen2 : xs.length = 2 := hlen
 have g0 := hg 0 _ rfl
 have g1 := hg 1 _ rfl
 rw [show Tryd.prog.cellsOf _ = 1 by kernel_rfl, List.getElem?_eq_getElem (by omega)] at g0 g1
 obtain ⟨z0, e0, _, w0⟩ := DataW.trod_int (k := .u64) (by kernel_rfl) g0
 simp at e0
 subst e0
 obtain ⟨g, rfl, hg64⟩ := u64_nat w0
 obtain ⟨ra, rl, rc, rows, e1, h1, h2, h3⟩ := u64s_open (v := b) g1
 exact ⟨g, ra, rl, rc, rows, rfl, e1, hg64, h1, h2, h3⟩
theorem weight_in : ∀ (fuel : Nat) {cs : List Value} {x : DataW H × List MemPlace}, DataW.trod enc Tryd.prog w base spare held fuel 47 cs = some x → ∃ s : WV, cs = s.f.six ∧ WIn w fuel s := by
 intro fuel
 induction fuel using Nat.strongRecOn with
 | _ fuel ih =>
 intro cs x h
 obtain ⟨xs, n, hn, _, hl, hlen, hg⟩ := DataW.trod_struct Tryd.underlying47 h
 rw [show Tryd.prog.cellsOf 47 = 6 by kernel_rfl] at hl
 obtain ⟨a, b, c, d, e, f, rfl⟩ := six_len hl
 have hlen5 : xs.length = 5 := hlen
 have g0 := hg 0 _ rfl
 have g1 := hg 1 _ rfl
 have g2 := hg 2 _ rfl
 have g3 := hg 3 _ rfl
 have g4 := hg 4 _ rfl
 rw [show Tryd.prog.cellsOf _ = 1 by kernel_rfl, List.getElem?_eq_getElem (by omega)] at g0 g1 g3 g4
 rw [show Tryd.prog.cellsOf _ = 2 by kernel_rfl, List.getElem?_eq_getElem (by omega)] at g2
 obtain ⟨z0, e0, _⟩ := DataW.trod_bool (by kernel_rfl) g0
 obtain ⟨z1, e1, _, w1⟩ := DataW.trod_int (k := .i64) (by kernel_rfl) g1
 simp at e0 e1
 subst e0 e1
 obtain ⟨gg, ra, rl, rc, rows, rfl, rfl, hg64, hrow, hrl, hr64⟩ := facts_in (a := c) (b := d) g2
 obtain ⟨ca, cl, cc, e3⟩ := slice_form g3
 have e3' : e = .slice ca cl cc := by simpa using e3
 subst e3'
 obtain ⟨cells, hcl, hcm, hcrow, hcbits⟩ := cells_open (a := ca) (len := cl) (cap := cc) g3
 rcases DataW.trod_slice Tryd.underlying45 g4 with ⟨hcs, _⟩ | ⟨ad, len, cap, elems, rest, n', hn', hcs, _, hb, hle, hcap, hel, hi, _, _⟩
 ·simp at hcs
  subst hcs
  subst hn
  exact ⟨.mk ⟨z0, z1, gg, ra, rl, rc, rows, ca, cl, cc, cells, none, 0, 0⟩ [], rfl, ⟨hrow, hrl, hg64, hr64, hcrow, hcl.symm, hcbits, by dsimp only; omega⟩, rfl, .inl rfl, fun p hp => by cases hp⟩
 ·simp at hcs
  subst hcs
  subst hn
  rw [show Tryd.prog.cellsOf 47 = 6 by kernel_rfl] at hi
  obtain ⟨ps, hpl, hps⟩ := list_pick len (fun i (p : WV) => (w.cell? (ad.add (i * 6)) = some (.bool p.f.z) ∧ w.cell? (ad.add (i * 6 + 1)) = some (.int .i64 p.f.c) ∧ w.cell? (ad.add (i * 6 + 2)) = some (.int .u64 (p.f.g : Int)) ∧ w.cell? (ad.add (i * 6 + 3)) = some (.slice p.f.ra p.f.rl p.f.rc) ∧ w.cell? (ad.add (i * 6 + 4)) = some (.slice p.f.ca p.f.cl p.f.cc) ∧ w.cell? (ad.add (i * 6 + 5)) = some (.slice p.f.pa p.f.pl p.f.pc)) ∧ WIn w n' p) (fun i hil => by
   have hii := hi i hil
   rw [List.getElem?_eq_getElem (by omega)] at hii
   obtain ⟨cs', hc, ht⟩ := Option.bind_eq_some_iff.1 hii
   obtain ⟨_, hcl, hat⟩ := World.cells?_some hc
   obtain ⟨s, rfl, hs⟩ := ih n' (by omega) ht
   have e0 := hat 0 (by omega)
   have e1 := hat 1 (by omega)
   have e2 := hat 2 (by omega)
   have e3 := hat 3 (by omega)
   have e4 := hat 4 (by omega)
   have e5 := hat 5 (by omega)
   rw [Go.Deep.add_add] at e0 e1 e2 e3 e4 e5
   exact ⟨s, ⟨e0, e1, e2, e3, e4, e5⟩, hs⟩)
  refine ⟨.mk ⟨z0, z1, gg, ra, rl, rc, rows, ca, cl, cc, cells, some ad, len, cap⟩ ps, rfl, ⟨hrow, hrl, hg64, hr64, hcrow, hcl.symm, hcbits, by dsimp only; omega⟩, hpl, ?_, fun p hp => ?_⟩
  ·rcases Nat.eq_zero_or_pos len with h0 | h0
   ·exact .inl (List.length_eq_zero_iff.1 (by omega))
   ·obtain ⟨b, off, spot⟩ := ad
    obtain ⟨⟨h1, _⟩, _⟩ := hps 0 (ps[0]'(by omega)) (List.getElem?_eq_getElem (by omega))
    have hspot : spot = none := by simpa [Addr.add] using World.cell?_spot h1
    subst hspot
    refine .inr ⟨b, off, rfl, fun i c hic => ?_⟩
    have e : ∀ k, ({ block := b, off := off } : Addr).add k = ⟨b, off + k, none⟩ := fun k => by simp [Addr.add]
    have h3 := (hps i c hic).1
    rw [e, e, e, e, e, e, ← Nat.add_assoc, ← Nat.add_assoc, ← Nat.add_assoc, ← Nat.add_assoc, ← Nat.add_assoc] at h3
    exact h3
  ·obtain ⟨i, hi', hic⟩ := List.mem_iff_getElem.1 hp
   exact (hps i p (by rw [← hic]; exact List.getElem?_eq_getElem hi')).2.more (by omega)
end
end Go.Proofs.YtfkbkekgnoanaaaDoor
namespace Go.Proofs.YtfkbkekgnoanaaaDoor
open Go Go.RowKit
theorem RowN.lim {lo : Nat} {W : World} {a : Option Addr} {c : Nat} {xs : List Int} (h : RowN lo W a c xs) : xs.length ≤ maxLen := by
 rcases h.2 with ⟨e1, e2⟩ | ⟨g, cap, cur, e1, _, _, hn, hm, _⟩
 ·omega
 ·omega
theorem sameC_eq {w : World} (q : Int) {a1 a2 : Option Addr} {c1 c2 : Nat} {us : List Int} (h1 : Row w a1 us) (h2 : Row w a2 us) (hm : us.length ≤ 9223372036854775807) : Calls Tryd.prog 13 #[.agg #[.int .i64 q, .slice a1 us.length c1], .agg #[.int .i64 q, .slice a2 us.length c2]] w (fun e w' => e = .returned (.bool (true)) ∧ Below w.heap.size w w') := by
 have h := sameC_c q a1 us.length c1 us q a2 us.length c2 us w h1 rfl h2 rfl hm
 rw [show decide (q = q ∧ us = us) = true from decide_eq_true ⟨rfl, rfl⟩] at h
 exact h
end Go.Proofs.YtfkbkekgnoanaaaDoor
namespace Go.Proofs.YtfkbkekgnoanaaaDoor
open Go Go.RowKit
section
variable {P : Program} {n : Nat} {Q : Exit → Act → World → Prop} {l : Fr} {w0 W : World} {ops : Array Oper} {os : List Oper} {K : List (Nat × World)} {L : List Asr} {i : Nat}
variable {O : Own} {Gs : List Value → Grows} {efs : List Nat} {lo : Nat} {s : List Value}
variable {d : Nat} {op : Op} {ty : TypeId} {pos : String} {aft_ : Array Edge} {v : Value} {gd : Option (Nat × Bool)}
variable {Goal : List Asr → Prop}
theorem hg0 {Gs : List Value → Grows} {gi : Nat} {g : GR} (h : (Gs [])[gi]? = some g) : ∀ s, s.length = 0 → (Gs s)[gi]? = some g := fun s hs => by rw [List.eq_nil_of_length_eq_zero hs]; exact h
theorem hg1 {Gs : List Value → Grows} {gi : Nat} {g : GR} (h : ∀ a, (Gs [a])[gi]? = some g) : ∀ s, s.length = 1 → (Gs s)[gi]? = some g := fun s hs => by obtain ⟨a, rfl⟩ := List.length_eq_one_iff.1 hs; exact h a
theorem len2 {s : List Value} (h : s.length = 2) : ∃ a b, s = [a, b] := by
 match s, h with
 | [a, b], _ => exact ⟨a, b, rfl⟩
end
end Go.Proofs.YtfkbkekgnoanaaaDoor
namespace Go.Proofs.YtfkbkekgnoanaaaDoor
open Go Go.RowKit
section
variable {P : Program} {ops : Array Oper} {Q : Exit → Act → World → Prop} {σ : Type}
structure RInvF (fr : Nat → Bool) (ops : Array Oper) (t0 : Array Value) (d0 : List Deferred) (G : σ → World → Prop) (I : σ → Nat → Value → World → Prop) (V : σ → Array Bool → Prop) (s : σ) (L : Array Bool) (a : Act) (w : World) : Prop where
 size : a.tmps.size = t0.size
 defers : a.defers = d0
 frame : ∀ t, fr t = true → a.tmps.getD t undef = t0.getD t undef
 glob : G s w
 cons : V s L
 done : ∀ i d, (ops[i]?).bind (·.dst) = some d → L.getD i false = true → I s i (a.tmps.getD d undef) w
def GStepF (P : Program) (fr : Nat → Bool) (ops : Array Oper) (Q : Exit → Act → World → Prop) (t0 : Array Value) (G : σ → World → Prop) (I : σ → Nat → Value → World → Prop) (V : σ → Array Bool → Prop) (i : Nat) : Prop :=
 ∀ s L (a : Act) w, (∀ t, fr t = true → a.eval (.tmp t) = t0.getD t undef) → G s w → V s L → L.size = ops.size → ClosedG ops L → ReadyG ops L i → (∀ j d, waitsFor ops i j d = true → I s j (a.eval (.tmp d)) w) →
  wpOp P ops Q i (fun a' w' => ∃ s' v, a' = a.put ((ops[i]?).bind (·.dst)) v ∧ V s' (L.setIfInBounds i true) ∧ G s' w' ∧ (∀ d, (ops[i]?).bind (·.dst) = some d → I s' i v w') ∧ (∀ j d, j ≠ i → (ops[j]?).bind (·.dst) = some d → I s j (a.tmps.getD d undef) w → I s' j (a.tmps.getD d undef) w')) a w
theorem region_ghostF {fr : Nat → Bool} {t0 : Array Value} {d0 : List Deferred} {G : σ → World → Prop} {I : σ → Nat → Value → World → Prop} {V : σ → Array Bool → Prop} {k : Nat} (hfr : ∀ i d, i < k → (ops[i]?).bind (·.dst) = some d → fr d = false) (hk : k < ops.size) (hl : tailT ops k = true) (ht : tidyR ops t0.size = true)
  (hstep : ∀ i, i < k → GStepF P fr ops Q t0 G I V i)
  (hfin : ∀ s L a w, RInvF fr ops t0 d0 G I V s L a w → (∀ i, i < k → L.getD i false = true) → (∀ i, k ≤ i → L.getD i false = false) → wpList P ops Q (ops.toList.drop k) a w) :
  ∀ (fuel : Nat) (s : σ) (L : Array Bool) (a : Act) (w : World), L.size = ops.size → L.toList.count false ≤ fuel → ClosedG ops L → (∀ i, k ≤ i → L.getD i false = false) → RInvF fr ops t0 d0 G I V s L a w → wpAny P .any ops Q fuel L a w := by
 intro fuel
 induction fuel with
 | zero =>
  intro s L a w hs hc hcl hn h
  have := cnt_set _ _ (cnt_getD (by omega) (hn k (Nat.le_refl _)))
  omega
 | succ fuel ih =>
  intro s L a w hs hc hcl hn h
  by_cases hall : ∀ i, i < k → L.getD i false = true
  ·have hcnt : ops.size - k ≤ L.toList.count false := by
    have key : ∀ (l : List Bool) (k : Nat), (∀ i, k ≤ i → i < l.length → l[i]? = some false) → l.length - k ≤ l.count false := by
     intro l
     induction l with
     | nil => intro k _; simp
     | cons b l ihl =>
      intro k hk
      cases k with
      | zero =>
       have h0 := hk 0 (Nat.le_refl _) (by simp)
       simp at h0; subst h0
       have := ihl 0 (fun i _ hi => by have := hk (i + 1) (by omega) (by simpa using hi); simpa using this)
       simp at this ⊢; omega
      | succ k =>
       have := ihl k (fun i hi hi2 => by have := hk (i + 1) (by omega) (by simpa using hi2); simpa using this)
       rw [List.count_cons]; simp; omega
    have := key L.toList k (fun i h1 h2 => cnt_getD (by simpa using h2) (hn i h1))
    simpa [hs] using this
   exact tail_run (fun _ _ => trivial) hl ht (ops.size - k) k (fuel + 1) L a w (by omega) (Nat.le_refl _) (by omega) hs hcl hall hn (hfin s L a w h hall hn)
  ·refine ⟨fun hr => ?_, fun i hi => ?_⟩
   ·exfalso; apply hall
    intro i hi
    have h1 := ready_nil ht hs hr i (by omega)
    rw [Array.getD_eq_getD_getElem?, Array.getElem?_eq_getElem (by omega)] at h1 ⊢
    simpa using h1
   ·obtain ⟨his, hr⟩ := ready_g hi hs
    have hik : i < k := by
     rcases Nat.lt_or_ge i k with h1 | h1
     ·exact h1
     ·exfalso; apply hall
      intro x hx
      exact ready_early hcl hr x (tail_early hl his h1 (by omega))
    have hc1 := cnt_set _ _ (cnt_getD (by omega) hr.1)
    refine wpOp_mono ?_ (hstep i hik s L a w (fun t ht => h.frame t ht) h.glob h.cons hs hcl hr (fun j d hw => ?_))
    ·rintro a' w' ⟨s', v, rfl, hV, hG, hI, hst⟩
     refine ih s' _ _ _ (by simpa using hs) ?_ (hcl.next hr (by omega)) (fun x hx => by rw [getD_set_ne false (by omega)]; exact hn x hx) ⟨by rw [put_size]; exact h.size, by rw [put_defers]; exact h.defers, fun t hf => ?_, hG, hV, fun j d hd hj => ?_⟩
     ·rw [Array.toList_setIfInBounds]; omega
     ·rw [put_other ?_]
      ·exact h.frame t hf
      ·intro hd
       rw [hfr i t hik hd] at hf; cases hf
     ·by_cases hji : j = i
      ·subst hji
       rw [put_at hd (by rw [h.size]; exact (tidy_dst ht hd).1)]
       exact hI d hd
      ·rw [getD_set_ne false (Ne.symm hji)] at hj
       rw [put_other (fun e => hji ((tidy_dst ht e).2 j hd))]
       exact hst j d hji hd (h.done j d hd hj)
    ·have hj : j ∈ aft ops i := by
      unfold waitsFor at hw
      unfold aft
      cases ho : ops[i]? with
      | none => simp [ho] at hw
      | some o =>
       simp only [ho, Bool.and_eq_true, beq_iff_eq] at hw
       obtain ⟨e, he, h2⟩ := Array.any_eq_true'.1 hw.1
       simp only [Bool.and_eq_true, beq_iff_eq] at h2
       exact List.mem_map.2 ⟨e, List.mem_filter.2 ⟨Array.mem_toList_iff.2 he, h2.2⟩, h2.1⟩
     have hd : (ops[j]?).bind (·.dst) = some d := by
      unfold waitsFor at hw
      rw [Bool.and_eq_true, beq_iff_eq] at hw
      exact hw.2
     exact h.done j d hd (hr.2 j hj)
end
abbrev Sy := Nat → Option Value
def upd (s : Sy) (i : Nat) (v : Value) : Sy := fun j => bif Nat.beq j i then some v else s j
theorem upd_at (s : Sy) (i : Nat) (v : Value) : upd s i v i = some v := by unfold upd; rw [Nat.beq_refl]; rfl
theorem upd_ne (s : Sy) {i j : Nat} (v : Value) (h : j ≠ i) : upd s i v j = s j := by
 unfold upd
 cases hb : Nat.beq j i with
 | true => exact absurd (Nat.eq_of_beq_eq_true hb) h
 | false => rfl
def isE (s : Sy) (e : Nat) : Asr := fun v _ => s e = some v
def LS (E : List Nat) (s : Sy) : Nat → List Asr → List Asr
 | _, [] => []
 | j, q :: L => (bif E.contains j then isE s j else q) :: LS E s (j + 1) L
theorem atI_LS {E : List Nat} {s : Sy} : ∀ (L : List Asr) (j i : Nat), i < L.length → atI (LS E s j L) i = (bif E.contains (i + j) then isE s (i + j) else atI L i)
 | [], j, i, h => by simp at h
 | q :: L, j, 0, h => by rw [Nat.zero_add]; rfl
 | q :: L, j, i + 1, h => by
  show atI (LS E s (j + 1) L) i = _
  rw [atI_LS L (j + 1) i (by simpa using h), show i + 1 + j = i + (j + 1) by omega]
  rfl
theorem LS_length {E : List Nat} {s : Sy} : ∀ (L : List Asr) (j : Nat), (LS E s j L).length = L.length
 | [], _ => rfl
 | q :: L, j => by show (LS E s (j + 1) L).length + 1 = _; rw [LS_length L (j + 1)]; rfl
theorem at_n {E : List Nat} {s : Sy} {L : List Asr} {j : Nat} {p : Asr} (hl : Nat.blt j L.length = true) (he : E.contains j = false) (h : atI L j = p) : atI (LS E s 0 L) j = p := by
 rw [atI_LS L 0 j (Nat.lt_of_lt_of_le (Nat.lt_succ_self _) (Nat.le_of_ble_eq_true hl)), Nat.add_zero, he, cond_false, h]
theorem at_e {E : List Nat} {s : Sy} {L : List Asr} {j : Nat} (hl : Nat.blt j L.length = true) (he : E.contains j = true) : atI (LS E s 0 L) j = isE s j := by
 rw [atI_LS L 0 j (Nat.lt_of_lt_of_le (Nat.lt_succ_self _) (Nat.le_of_ble_eq_true hl)), Nat.add_zero, he, cond_true]
structure AB where
 a : Nat
 T : TypeId
 zs : List Value
 st : Nat
def blkNo : Value → Nat
 | .pointer (some p) => p.block
 | _ => 0
def AB.cs (q : AB) (s : Sy) : List Value := match s q.st with | none => q.zs | some y => splice q.zs 0 y.cells.toList
def AS (al : List AB) (s : Sy) : Own := al.flatMap fun q => match s q.a with | some v => [(blkNo v, q.cs s, q.T)] | none => []
theorem AS_none (al : List AB) : AS al (fun _ => none) = [] := by
 unfold AS
 induction al with
 | nil => rfl
 | cons q al ih => rw [List.flatMap_cons, ih]; rfl
theorem AS_cons (q : AB) (al : List AB) (s : Sy) : AS (q :: al) s = (match s q.a with | some v => [(blkNo v, q.cs s, q.T)] | none => []) ++ AS al s := rfl
theorem AB.cs_upd {q : AB} {s : Sy} {i : Nat} {v : Value} (h : q.st ≠ i) : q.cs (upd s i v) = q.cs s := by unfold AB.cs; rw [upd_ne _ _ h]
theorem AS_other {s : Sy} {i : Nat} {v : Value} : ∀ {al : List AB}, (∀ q ∈ al, q.a ≠ i) → (∀ q ∈ al, q.st ≠ i) → AS al (upd s i v) = AS al s
 | [], _, _ => rfl
 | q :: al, h1, h2 => by
  rw [AS_cons, AS_cons, AS_other (fun x hx => h1 x (List.mem_cons_of_mem _ hx)) (fun x hx => h2 x (List.mem_cons_of_mem _ hx)), upd_ne _ _ (h1 q List.mem_cons_self), AB.cs_upd (h2 q List.mem_cons_self)]
theorem AS_alloc {s : Sy} {i : Nat} {v : Value} (hs : s i = none) : ∀ {al : List AB} {q : AB}, q ∈ al → q.a = i → (al.map (·.a)).Nodup → (∀ q ∈ al, q.st ≠ i) → ((blkNo v, q.cs s, q.T) :: AS al s).Perm (AS al (upd s i v))
 | [], _, h, _, _, _ => by cases h
 | x :: al, q, h, hq, hn, hst => by
  rw [List.map_cons, List.nodup_cons] at hn
  rw [AS_cons, AS_cons, AB.cs_upd (hst x List.mem_cons_self)]
  by_cases hx : x.a = i
  ·have hxq : q = x := by
    rcases List.mem_cons.1 h with h | h
    ·exact h
    ·exact absurd (List.mem_map.2 ⟨q, h, by rw [hq, hx]⟩) hn.1
   subst hxq
   rw [AS_other (al := al) (fun y hy e => hn.1 (List.mem_map.2 ⟨y, hy, by rw [e, hx]⟩)) (fun y hy => hst y (List.mem_cons_of_mem _ hy)), hx, upd_at, hs]
   exact List.Perm.refl _
  ·have hm : q ∈ al := by
    rcases List.mem_cons.1 h with h | h
    ·subst h; exact absurd hq hx
    ·exact h
   rw [upd_ne _ _ hx]
   refine List.Perm.trans ?_ (List.Perm.append_left _ (AS_alloc hs hm hq hn.2 (fun y hy => hst y (List.mem_cons_of_mem _ hy))))
   exact List.perm_middle.symm
theorem AS_store {s : Sy} {i : Nat} {v y : Value} (hs : s i = none) : ∀ {al : List AB} {q : AB}, q ∈ al → s q.a = some v → q.st = i → (al.map (·.st)).Nodup → (∀ q ∈ al, q.a ≠ i) → ∃ k, (AS al s)[k]? = some (blkNo v, q.zs, q.T) ∧ AS al (upd s i y) = (AS al s).set k (blkNo v, splice q.zs 0 y.cells.toList, q.T)
 | [], _, h, _, _, _, _ => by cases h
 | x :: al, q, h, hv, hq, hn, ha => by
  rw [List.map_cons, List.nodup_cons] at hn
  rw [AS_cons, AS_cons, upd_ne _ _ (ha x List.mem_cons_self)]
  by_cases hx : x.st = i
  ·have hxq : q = x := by
    rcases List.mem_cons.1 h with h | h
    ·exact h
    ·exact absurd (List.mem_map.2 ⟨q, h, by rw [hq, hx]⟩) hn.1
   subst hxq
   rw [AS_other (al := al) (fun y hy => ha y (List.mem_cons_of_mem _ hy)) (fun y hy e => hn.1 (List.mem_map.2 ⟨y, hy, by rw [e, hx]⟩)), hv]
   refine ⟨0, ?_, ?_⟩
   ·show some (blkNo v, q.cs s, q.T) = _
    unfold AB.cs; rw [hx, hs]
   ·show (blkNo v, q.cs (upd s i y), q.T) :: AS al s = _
    unfold AB.cs; rw [hx, upd_at]; rfl
  ·have hm : q ∈ al := by
    rcases List.mem_cons.1 h with h | h
    ·subst h; exact absurd hq hx
    ·exact h
   obtain ⟨k, h1, h2⟩ := AS_store (y := y) hs hm hv hq hn.2 (fun y hy => ha y (List.mem_cons_of_mem _ hy))
   rw [AB.cs_upd hx, h2]
   refine ⟨(match s x.a with | some v => [(blkNo v, x.cs s, x.T)] | none => [] : Own).length + k, ?_, ?_⟩
   ·rw [List.getElem?_append_right (by omega), Nat.add_sub_cancel_left]; exact h1
   ·rw [List.set_append_right _ _ (by omega), Nat.add_sub_cancel_left]
section
variable {P : Program} {n : Nat} {Q : Exit → Act → World → Prop} {l : Fr} {w0 W : World} {ops opf : Array Oper} {os : List Oper} {K : List (Nat × World)} {L : List Asr} {i : Nat}
variable {Ob : Own} {al : List AB} {G : Sy → Grows} {E : List Nat} {lo : Nat} {s : Sy}
theorem ne_of_nbeq {a b : Nat} (h : (!Nat.beq a b) = true) : a ≠ b := fun e => by rw [e, Nat.beq_refl] at h; cases h
theorem st_ne (h : al.all (fun q => !Nat.beq q.st i) = true) : ∀ q ∈ al, q.st ≠ i := fun q hq => ne_of_nbeq (List.all_eq_true.1 h q hq)
theorem a_ne (h : al.all (fun q => !Nat.beq q.a i) = true) : ∀ q ∈ al, q.a ≠ i := fun q hq => ne_of_nbeq (List.all_eq_true.1 h q hq)
def GCh (base : Grows) (e : TypeId) (sz : Nat) : List (Nat × Nat × List Value) → Sy → Grows
 | [], _ => base
 | q :: r, s => match s q.1 with
  | some v => ⟨v, q.2.1, q.2.2, e, sz⟩ :: base
  | none => GCh base e sz r s
theorem GCh_at {base : Grows} {e : TypeId} {sz i n : Nat} {xs : List Value} {r : List (Nat × Nat × List Value)} {v : Value} (h : s i = some v) : GCh base e sz ((i, n, xs) :: r) s = ⟨v, n, xs, e, sz⟩ :: base := by
 show (match s i with | some v => _ | none => _) = _
 rw [h]
theorem GCh_no {base : Grows} {e : TypeId} {sz i n : Nat} {xs : List Value} {r : List (Nat × Nat × List Value)} (h : s i = none) : GCh base e sz ((i, n, xs) :: r) s = GCh base e sz r s := by
 show (match s i with | some v => _ | none => _) = _
 rw [h]
abbrev OY (al : List AB) (Ob : Own) (s : Sy) : Own := AS al s ++ Ob
def GY0 (w0 : World) (K : List (Nat × World)) (lo : Nat) (al : List AB) (Ob : Own) (G : Sy → Grows) (s : Sy) (w : World) : Prop := St w0 (OY al Ob s) (G s) K w ∧ lo ≤ w.heap.size
def GY (w0 : World) (K : List (Nat × World)) (lo : Nat) (al : List AB) (Ob : Own) (G : Sy → Grows) (E : List Nat) (L : List Asr) (s : Sy) (w : World) : Prop := GY0 w0 K lo al Ob G s w ∧ ∀ e ∈ E, ∀ v, s e = some v → AwS lo (XB (OY al Ob s) (G s)) (atI L e) v w
def VY (E : List Nat) (s : Sy) (L : Array Bool) : Prop := (∀ e ∈ E, (L.getD e false = true ↔ (s e).isSome = true)) ∧ ∀ e, e ∉ E → s e = none
def IY (lo : Nat) (al : List AB) (Ob : Own) (G : Sy → Grows) (E : List Nat) (L : List Asr) (s : Sy) (i : Nat) (v : Value) (w : World) : Prop := (i ∈ E → s i = some v) ∧ AwS lo (XB (OY al Ob s) (G s)) (atI L i) v w
structure Kn (ops : Array Oper) (E : List Nat) (i : Nat) (s : Sy) : Prop where
 yes : ∀ e, E.contains e = true → (earlyL ops i).contains e = true → ∃ v, s e = some v
 no : ∀ e, (earlyL ops e).contains i = true → s e = none
 out : ∀ e, E.contains e = false → s e = none
 self : s i = none
def TrY (al : List AB) (Ob : Own) (G : Sy → Grows) (i : Nat) (s s' : Sy) (w w' : World) : Prop := SameX 0 (XB (OY al Ob s) (G s)) w w' ∧ (∀ b, XB (OY al Ob s') (G s') b → XB (OY al Ob s) (G s) b ∨ w.heap.size ≤ b) ∧ ∀ j, j ≠ i → s' j = s j
def SY (P : Program) (n : Nat) (ops opf : Array Oper) (Q : Exit → Act → World → Prop) (l : Fr) (w0 : World) (K : List (Nat × World)) (lo : Nat) (al : List AB) (Ob : Own) (G : Sy → Grows) (E : List Nat) (L : List Asr) (i : Nat) : Prop :=
 ∀ t0, Has n l t0 → ∀ s LB (a : Act) w, (∀ t, freeT opf t = true → a.eval (.tmp t) = t0.tmps.getD t undef) → GY0 w0 K lo al Ob G s w → VY E s LB → LB.size = ops.size → ClosedG ops LB → ReadyG ops LB i → (∀ j d, waitsFor ops i j d = true → IY lo al Ob G E L s j (a.eval (.tmp d)) w) →
  wpOp P ops Q i (fun a' w' => ∃ s' v, a' = a.put ((ops[i]?).bind (·.dst)) v ∧ VY E s' (LB.setIfInBounds i true) ∧ GY0 w0 K lo al Ob G s' w' ∧ TrY al Ob G i s s' w w' ∧ (∀ d, (ops[i]?).bind (·.dst) = some d → IY lo al Ob G E L s' i v w') ∧ (i ∈ E → ∀ y, s' i = some y → AwS lo (XB (OY al Ob s') (G s')) (atI L i) y w')) a w
theorem SY.step (h : SY P n ops opf Q l w0 K lo al Ob G E L i) : ∀ a, Has n l a → GStepF P (freeT opf) ops Q a.tmps (GY w0 K lo al Ob G E L) (IY lo al Ob G E L) (VY E) i := fun t0 h0 s LB a w hF hG hV hs hc hr hD => by
 refine wpOp_mono ?_ (h t0 h0 s LB a w hF hG.1 hV hs hc hr hD)
 rintro a' w' ⟨s', v, h1, h2, h3, ⟨t1, t2, t3⟩, h5, h6⟩
 refine ⟨s', v, h1, h2, ⟨h3, fun e he y hy => ?_⟩, h5, fun j d hji hd hj => ⟨fun hjE => ?_, hj.2.next t1 t2⟩⟩
 ·by_cases hei : e = i
  ·subst hei; exact h6 he y hy
  ·rw [t3 e hei] at hy
   exact (hG.2 e he y hy).next t1 t2
 ·rw [t3 j hji]; exact hj.1 hjE
theorem waits_lt (ht : tidyR ops n = true) {j d : Nat} (hw : waitsFor ops i j d = true) : j < i := by
 cases ho : ops[i]? with
 | none => simp [waitsFor, ho] at hw
 | some o =>
  simp only [waitsFor, ho, Bool.and_eq_true, beq_iff_eq] at hw
  obtain ⟨e, he, h2⟩ := Array.any_eq_true'.1 hw.1
  simp only [Bool.and_eq_true, beq_iff_eq] at h2
  rw [← h2.1]; exact tidy_after ht ho e he h2.2
theorem SY.ext {L1 L2 : List Asr} (ht : tidyR ops n = true) (hag : ∀ j, j ≤ i → atI L1 j = atI L2 j) (h : SY P n ops opf Q l w0 K lo al Ob G E L1 i) : SY P n ops opf Q l w0 K lo al Ob G E L2 i := fun t0 h0 s LB a w hF hG hV hs hc hr hD => by
 have h2 := h t0 h0 s LB a w hF hG hV hs hc hr (fun j d hw => by unfold IY; rw [hag j (Nat.le_of_lt (waits_lt ht hw))]; exact hD j d hw)
 unfold IY at h2
 rw [hag i (Nat.le_refl _)] at h2
 exact h2
theorem kn_of {LB : Array Bool} (hV : VY E s LB) (hs : LB.size = ops.size) (hc : ClosedG ops LB) (hr : ReadyG ops LB i) : Kn ops E i s where
 yes e he h := Option.isSome_iff_exists.1 ((hV.1 e (List.contains_iff_mem.1 he)).1 (ready_early hc hr e (List.contains_iff_mem.1 h)))
 no e h := by
  cases hse : s e with
  | none => rfl
  | some v =>
   have hE : e ∈ E := Decidable.byContradiction fun hn => by rw [hV.2 e hn] at hse; cases hse
   have hd : LB.getD e false = true := (hV.1 e hE).2 (by rw [hse]; rfl)
   have := early_done (D := fun x => LB.getD x false = true) (hc e hd) (fun j hj x hx => hc j hj x hx) i (List.contains_iff_mem.1 h)
   rw [hr.1] at this; cases this
 out e h := hV.2 e (fun hm => by rw [List.contains_iff_mem.2 hm] at h; cases h)
 self := by
  cases hse : s i with
  | none => rfl
  | some v =>
   have hE : i ∈ E := Decidable.byContradiction fun hn => by rw [hV.2 i hn] at hse; cases hse
   have := (hV.1 i hE).2 (by rw [hse]; rfl)
   rw [hr.1] at this; cases this
theorem deps_LS {a : Act} {w : World} (hD : ∀ j d, waitsFor ops i j d = true → IY lo al Ob G E L s j (a.eval (.tmp d)) w) : ∀ j d, waitsFor ops i j d = true → atI (LS E s 0 L) j (a.eval (.tmp d)) w := fun j d hw => by
 rcases Nat.lt_or_ge j L.length with hj | hj
 ·rw [atI_LS L 0 j hj, Nat.add_zero]
  cases hc : E.contains j with
  | true => rw [cond_true]; exact (hD j d hw).1 (List.contains_iff_mem.1 hc)
  | false => rw [cond_false]; exact (hD j d hw).2.here
 ·rw [atI_len (by rw [LS_length]; exact hj)]; trivial
theorem joinF {x y : Code} (R : Fr → World → Prop) (h2 : ∀ l W, R l W → CodeF P n y Q l W) (h1 : CodeF P n x (Exit.then (fun a' w' => ∃ l', R l' w' ∧ Has n l' a') Q) l W) : CodeF P n (.seq x y) Q l W :=
 seqF (fun a ha => wp_mono (h1 a ha) (fun e a' w' h => by
  cases e with
  | normal => obtain ⟨l', hr, hh⟩ := h; exact h2 l' w' hr a' hh
  | _ => exact h))
theorem XF.join {R : Fr → World → Prop} (l' : Fr) (hs : SubF l l') (hI : R l' W) : XF (Exit.then (fun a' w' => ∃ l', R l' w' ∧ Has n l' a') Q) .normal n l W := fun a ha => ⟨l', hI, ha.sub hs⟩
structure Fst (ops opf : Array Oper) : Prop where
 same : ∀ (i : Nat) (o : Oper), opf[i]? = some o → ops[i]? = some o
theorem fst_take {os : List Oper} {k : Nat} : Fst os.toArray (os.take k).toArray := ⟨fun i o h => by
 have h1 : (os.take k)[i]? = some o := by simpa using h
 rw [List.getElem?_take] at h1
 split at h1
 ·simpa using h1
 ·cases h1⟩
theorem Fst.waits (h : Fst ops opf) {i j d : Nat} (hw : waitsFor opf i j d = true) : waitsFor ops i j d = true := by
 unfold waitsFor at hw ⊢
 rw [Bool.and_eq_true] at hw ⊢
 cases ho : opf[i]? with
 | none => simp [ho] at hw
 | some o =>
  rw [ho] at hw
  rw [h.same i o ho]
  refine ⟨hw.1, ?_⟩
  cases hj : opf[j]? with
  | none => simp [hj] at hw
  | some o2 => rw [hj] at hw; rw [h.same j o2 hj]; exact hw.2
variable {d : Nat} {op : Op} {ty : TypeId} {pos : String} {aft_ : Array Edge} {v : Value} {gd : Option (Nat × Bool)}
theorem vy_other {LB : Array Bool} (hV : VY E s LB) (hi : i ∉ E) : VY E s (LB.setIfInBounds i true) :=
 ⟨fun e he => by rw [getD_set_ne false (fun h => hi (by rw [h]; exact he))]; exact hV.1 e he, hV.2⟩
theorem vy_eff {LB : Array Bool} (hV : VY E s LB) (hs : LB.size = ops.size) (hi : i ∈ E) (hlt : i < ops.size) (v : Value) : VY E (upd s i v) (LB.setIfInBounds i true) := by
 refine ⟨fun e he => ?_, fun e he => ?_⟩
 ·by_cases hei : e = i
  ·subst hei
   rw [upd_at, Array.getD_eq_getD_getElem?, Array.getElem?_setIfInBounds_self_of_lt (by omega)]
   exact ⟨fun _ => rfl, fun _ => rfl⟩
  ·rw [upd_ne _ _ hei, getD_set_ne false (Ne.symm hei)]; exact hV.1 e he
 ·rw [upd_ne _ _ (fun h => he (by rw [h]; exact hi))]; exact hV.2 e he
theorem sy_base (hie : E.contains i = false) (hi : ops[i]? = some ⟨some d, op, ty, pos, aft_, gd⟩)
  (h : ∀ (t0 a : Act) s w, Has n l t0 → (∀ t, freeT opf t = true → a.eval (.tmp t) = t0.tmps.getD t undef) → GY0 w0 K lo al Ob G s w → Kn ops E i s → (∀ j d, waitsFor ops i j d = true → IY lo al Ob G E L s j (a.eval (.tmp d)) w) → (∀ j d, waitsFor ops i j d = true → atI (LS E s 0 L) j (a.eval (.tmp d)) w) →
   wpOp P ops Q i (fun a' w' => ∃ v, a' = a.put (some d) v ∧ AwS lo (XB (OY al Ob s) (G s)) (atI L i) v w' ∧ Below w.heap.size w w') a w) : SY P n ops opf Q l w0 K lo al Ob G E L i := fun t0 h0 s LB a w hF hG hV hs hc hr hD => by
 have hie' : i ∉ E := fun h => by rw [List.contains_iff_mem.2 h] at hie; cases hie
 refine wpOp_mono ?_ (h t0 a s w h0 hF hG (kn_of hV hs hc hr) hD (deps_LS hD))
 rintro a' w' ⟨v, rfl, hA, hb⟩
 exact ⟨s, v, by rw [hi]; rfl, vy_other hV hie', ⟨hG.1.grow hb, Nat.le_trans hG.2 hb.size⟩, ⟨sameX_of hb, fun b hb => .inl hb, fun _ _ => rfl⟩, fun _ _ => ⟨fun h => absurd h hie', hA⟩, fun h => absurd h hie'⟩
theorem syV (hf : Fst ops opf) (li : Fr) (hie : E.contains i = false) (hi : ops[i]? = some ⟨some d, op, ty, pos, aft_, gd⟩) (hw : ∀ s, Wants ops (LS E s 0 L) i ⟨some d, op, ty, pos, aft_, gd⟩) (hli : ∀ s, AllO n opf l (LS E s 0 L) i li)
  (hr : ∀ s w, St w0 Ob (G s) K w → Runs P li ⟨some d, op, ty, pos, #[], none⟩ w v w) (hI : atI L i = isV v) : SY P n ops opf Q l w0 K lo al Ob G E L i :=
 sy_base hie hi fun t0 a s w h0 hF hG hk hD hD' => by
  exact wp_val hi ((hw s).yes hD') (by rw [execOp_guard a.eval _ _ _ _ pos _ #[] _ none]; exact hr s w (St.drops _ hG.1) a.eval (allO_has h0 hF (fun j d h => hD' j d (hf.waits h)) (hli s))) ⟨v, rfl, by rw [hI]; exact awS_isV, Below.refl _ _⟩
theorem syP (jd td : Nat) (hie : E.contains i = false) (hi : ops[i]? = some ⟨some d, op, ty, pos, aft_, none⟩) (hwy : waitsFor ops i jd td = true) {p q : Asr} (hL : atI L jd = p)
  (hr : ∀ (ev : Operand → Value) w, p (ev (.tmp td)) w → ∃ v, (execOp ev ⟨some d, op, ty, pos, #[], none⟩).run P w = .ok (.value v) w ∧ ∀ w2, p (ev (.tmp td)) w2 → q v w2) (hI : atI L i = q) : SY P n ops opf Q l w0 K lo al Ob G E L i :=
 sy_base hie hi fun t0 a s w h0 hF hG hk hD hD' => by
  have h1 := (hD jd td hwy).2
  rw [hL] at h1
  obtain ⟨v, h2, h3⟩ := hr a.eval w h1.here
  exact wp_val hi (wanted_free rfl) (by rw [execOp_guard a.eval _ _ _ _ pos _ #[] _ none]; exact h2) ⟨v, rfl, by rw [hI]; exact fun w2 h4 => h3 w2 (h1 w2 h4), Below.refl _ _⟩
theorem sy_call {f : FuncId} {xs : List Operand} {ts : Array TypeId} (hf : Fst ops opf) (ps : Sy → List Asr) (hie : E.contains i = false) (hi : ops[i]? = some ⟨some d, .call { callee := .value (.func f), args := xs.toArray, argTypes := ts }, ty, pos, aft_, gd⟩) (hgo : goesIn P f = true)
  (hw : ∀ s, Wants ops (LS E s 0 L) i ⟨some d, .call { callee := .value (.func f), args := xs.toArray, argTypes := ts }, ty, pos, aft_, gd⟩) (hp : ∀ s, AllP n opf l (LS E s 0 L) i xs (ps s))
  {p : Asr} (hc : ∀ vs s w, Kn ops E i s → St w0 Ob (G s) K w → lo ≤ w.heap.size → Holds (ps s) vs w → Calls P f vs.toArray w (GivesN p w)) (hI : atI L i = p) : SY P n ops opf Q l w0 K lo al Ob G E L i :=
 sy_base hie hi fun t0 a s w h0 hF hG hk hD hD' => by
  have h1 := hc (xs.map a.eval) s w hk (St.drops _ hG.1) hG.2 (allP_holds h0 hF (fun j d h => hD' j d (hf.waits h)) (hp s))
  rw [show (xs.map a.eval).toArray = xs.toArray.map a.eval by simp] at h1
  unfold wpOp
  simp only [hi, (hw s).yes hD', if_true]
  refine .inl ?_
  unfold Oper.wp
  rw [run_call P a.eval w f xs.toArray ts _ rfl rfl hgo, Oper.upon_enter]
  refine h1.mono ?_
  rintro e w' ⟨v, rfl, hv, hb⟩
  refine ⟨v, by simp, ?_, hb⟩
  rw [hI]
  intro w2 h2
  refine hv w2 ⟨h2.2.1, fun b h3 h4 => h2.2.2 b (Nat.le_trans hG.2 h3) h4 (fun hx => ?_)⟩
  rcases hx with ⟨q, hq, rfl⟩ | ⟨g, hg, hgb⟩
  ·have := lt_of_heap (hG.1.own q hq).2; omega
  ·have := (hG.1.glt hg hgb).2; omega
theorem sy_eff {o : Oper} (hie : E.contains i = true) (hi : ops[i]? = some o)
  (h : ∀ (t0 a : Act) s w, Has n l t0 → (∀ t, freeT opf t = true → a.eval (.tmp t) = t0.tmps.getD t undef) → GY0 w0 K lo al Ob G s w → Kn ops E i s → (∀ j d, waitsFor ops i j d = true → IY lo al Ob G E L s j (a.eval (.tmp d)) w) → (∀ j d, waitsFor ops i j d = true → atI (LS E s 0 L) j (a.eval (.tmp d)) w) →
   wpOp P ops Q i (fun a' w' => ∃ v y, a' = a.put o.dst v ∧ (∀ d, o.dst = some d → v = y) ∧ St w0 (OY al Ob (upd s i y)) (G (upd s i y)) K w' ∧ SameX 0 (XB (OY al Ob s) (G s)) w w' ∧ (∀ b, XB (OY al Ob (upd s i y)) (G (upd s i y)) b → XB (OY al Ob s) (G s) b ∨ w.heap.size ≤ b) ∧ AwS lo (XB (OY al Ob (upd s i y)) (G (upd s i y))) (atI L i) y w') a w) : SY P n ops opf Q l w0 K lo al Ob G E L i := fun t0 h0 s LB a w hF hG hV hs hc hr hD => by
 have hie' : i ∈ E := List.contains_iff_mem.1 hie
 refine wpOp_mono ?_ (h t0 a s w h0 hF hG (kn_of hV hs hc hr) hD (deps_LS hD))
 rintro a' w' ⟨v, y, rfl, hvy, hSt, hsame, hX, hA⟩
 refine ⟨upd s i y, v, by rw [hi]; rfl, vy_eff hV hs hie' (Array.getElem?_eq_some_iff.1 hi).1 y, ⟨hSt, Nat.le_trans hG.2 hsame.2.1⟩, ⟨hsame, hX, fun j hj => upd_ne _ _ hj⟩, fun d hd => ?_, fun _ y2 h2 => ?_⟩
 ·rw [hi] at hd
  have e := hvy d hd
  subst e
  exact ⟨fun _ => upd_at _ _ _, hA⟩
 ·rw [upd_at] at h2; cases h2; exact hA
def isPtr (lo : Nat) : Asr := fun v _ => ∃ B, v = .pointer (some ⟨B, 0, none⟩) ∧ lo ≤ B
theorem sy_alloc {T : TypeId} {z : Value} (q : AB) (hie : E.contains i = true) (hi : ops[i]? = some ⟨some d, .alloc T, ty, pos, aft_, none⟩) (hz : ∀ w, (zeroValue T).run P w = .ok z w) (hq : q ∈ al) (hqa : q.a = i) (hqT : q.T = T) (hqz : z.cells = q.zs.toArray) (hqs : (earlyL ops q.st).contains i = true ∨ E.contains q.st = false)
  (hn : (al.map (·.a)).Nodup) (hst_ : al.all (fun q => !Nat.beq q.st i) = true) (hG : ∀ s v, G (upd s i v) = G s) (hL : atI L i = isPtr lo) : SY P n ops opf Q l w0 K lo al Ob G E L i :=
 sy_eff hie hi fun t0 a s w h0 hF hg hk hD hD' => by
  have hst := st_ne hst_
  have hcs : q.cs s = q.zs := by
   unfold AB.cs
   rw [show s q.st = none from hqs.elim (fun h => hk.no _ h) (fun h => hk.out _ h)]
  have hB : Below w.heap.size w (w.alloc (.cells q.zs.toArray T)) := (Below.refl _ _).alloc (Nat.le_refl _) _
  have hperm := AS_alloc (v := .pointer (some ⟨w.heap.size, 0, none⟩)) hk.self hq hqa hn hst
  rw [hcs, hqT] at hperm
  have h1 := hg.1.alloc q.zs T
  have hSt := h1.perm (O' := OY al Ob (upd s i (.pointer (some ⟨w.heap.size, 0, none⟩)))) (List.Perm.append_right Ob hperm)
  refine wp_val hi rfl (v := .pointer (some ⟨w.heap.size, 0, none⟩)) (w' := w.alloc (.cells q.zs.toArray T)) (by unfold execOp; simp only []; simp [Instr.alloc, newVar, newRow, hz, hqz]) ⟨_, _, rfl, fun _ _ => rfl, by rw [hG]; exact hSt, sameX_of hB, fun b hb => ?_, by rw [hL]; exact fun _ _ => ⟨_, rfl, hg.2⟩⟩
  rw [hG] at hb
  rcases hb with ⟨p, hp, rfl⟩ | h
  ·have hp2 := (List.Perm.append_right Ob hperm).mem_iff.2 hp
   rw [List.cons_append] at hp2
   rcases List.mem_cons.1 hp2 with rfl | hp2
   ·exact .inr (Nat.le_refl _)
   ·exact .inl (.inl ⟨p, hp2, rfl⟩)
  ·exact .inl (.inr h)
theorem sy_store {T : TypeId} {tx tyy m jy : Nat} {py : Asr} (q : AB) (hie : E.contains i = true) (hi : ops[i]? = some ⟨none, .store T (.tmp tx) (.tmp tyy), ty, pos, aft_, none⟩) (hq : q ∈ al) (hqs : q.st = i) (hqa : E.contains q.a = true) (hwx : waitsFor ops i q.a tx = true) (hLa : atI L q.a = isPtr lo) (hwy : waitsFor ops i jy tyy = true) (hLy : atI L jy = py) (hL : atI L i = py)
  (hsz : ∀ w, (sizeOf T).run P w = .ok m w) (hzl : Nat.ble m q.zs.length = true) (hpy : ∀ v w, py v w → ∃ vs : List Value, v.cells = vs.toArray ∧ vs.length = m ∧ vs.all Value.oneCell' = true)
  (hn : (al.map (·.st)).Nodup) (hst_ : al.all (fun q => !Nat.beq q.a i) = true) (hG : ∀ s v, G (upd s i v) = G s) : SY P n ops opf Q l w0 K lo al Ob G E L i :=
 sy_eff hie hi fun t0 a s w h0 hF hg hk hD hD' => by
  have hst := a_ne hst_
  have hx := hD q.a tx hwx
  have hsa := hx.1 (List.contains_iff_mem.1 hqa)
  have hptr := hx.2.here
  rw [hLa] at hptr
  obtain ⟨B, ex, hBlo⟩ := hptr
  have hy := (hD jy tyy hwy).2
  rw [hLy] at hy
  obtain ⟨vs, hc, hl, h1⟩ := hpy _ _ hy.here
  obtain ⟨k, hk1, hk2⟩ := AS_store (y := a.eval (.tmp tyy)) hk.self hq hsa hqs hn hst
  rw [ex] at hk1 hk2
  have hbn : blkNo (.pointer (some ⟨B, 0, none⟩)) = B := rfl
  rw [hbn] at hk1 hk2
  have hOk : (OY al Ob s)[k]? = some (B, q.zs, q.T) := by
   have := (List.getElem?_eq_some_iff.1 hk1).1
   unfold OY
   rw [List.getElem?_append_left this]; exact hk1
  have hXB : XB (OY al Ob s) (G s) B := .inl ⟨_, List.mem_of_getElem? hOk, rfl⟩
  have hrun := storeAt_many (P := P) hsz hc hl h1 (hg.1.at_ k hOk) (j := 0) (by have := Nat.le_of_ble_eq_true hzl; omega)
  have hO' : OY al Ob (upd s i (a.eval (.tmp tyy))) = (OY al Ob s).set k (B, splice q.zs 0 vs, q.T) := by
   unfold OY
   rw [hk2, List.set_append_left _ _ (List.getElem?_eq_some_iff.1 hk1).1, hc]
  have hX : ∀ b, XB (OY al Ob (upd s i (a.eval (.tmp tyy)))) (G (upd s i (a.eval (.tmp tyy)))) b → XB (OY al Ob s) (G s) b := by
   rw [hG]
   rintro b (⟨p, hp, rfl⟩ | h)
   ·rw [hO'] at hp
    rcases List.mem_or_eq_of_mem_set hp with hp | rfl
    ·exact .inl ⟨p, hp, rfl⟩
    ·exact hXB
   ·exact .inr h
  have hsame : SameX 0 (XB (OY al Ob s) (G s)) w (setMany w B 0 vs) := setMany_sameX hXB
  refine wp_store hi rfl rfl rfl (by rw [ex]; exact hrun) ⟨undef, a.eval (.tmp tyy), rfl, (fun d hd => by cases hd), ?_, hsame, fun b hb => .inl (hX b hb), ?_⟩
  ·rw [hG, hO']
   exact hg.1.setMany k vs 0 hOk
  ·rw [hL]
   exact hy.next hsame (fun b hb => .inl (hX b hb))
theorem sy_slice0 {T e : TypeId} {sz : Nat} (hie : E.contains i = true) (hi : ops[i]? = some ⟨some d, .buildSlice T 0 #[], ty, pos, aft_, none⟩) (hU : P.underlying T = some (.slice e)) (hs : ∀ w, (sizeOf e).run P w = .ok sz w)
  (hA_ : al.all (fun q => !Nat.beq q.a i) = true) (hst_ : al.all (fun q => !Nat.beq q.st i) = true) (hG : ∀ s v, Kn ops E i s → G (upd s i v) = ⟨v, 0, [], e, sz⟩ :: G s) (hL : atI L i = anyA) : SY P n ops opf Q l w0 K lo al Ob G E L i :=
 sy_eff hie hi fun t0 a s w h0 hF hg hk hD hD' => by
  have hA := a_ne hA_
  have hst := st_ne hst_
  have hB : Below w.heap.size w (w.alloc (.cells #[] e)) := (Below.refl _ _).alloc (Nat.le_refl _) _
  have hO : ∀ v, OY al Ob (upd s i v) = OY al Ob s := fun v => by unfold OY; rw [AS_other hA hst]
  refine wp_val hi rfl (v := .slice (some ⟨w.heap.size, 0, none⟩) 0 0) (w' := w.alloc (.cells #[] e)) (by
   unfold execOp
   have h0 : Array.range 0 = #[] := by simp
   simp only [List.map_toArray, List.map_nil, Instr.buildSlice, Sem.run_bind, run_underlying hU, Result.andThen_ok, hs, Nat.zero_mul, Sem.run_pure, h0]
   simp [Instr.fill, newRow]) ⟨_, _, rfl, fun _ _ => rfl, ?_, sameX_of hB, fun b hb => ?_, by rw [hL]; exact fun _ _ => trivial⟩
  ·rw [hO, hG _ _ hk]
   refine hg.1.adopt hB ?_
   have := World.ownsRow_made (base := w.heap.size) (e := e) (size := sz) w #[] 0 (Nat.le_refl _) (Nat.zero_le _) (by simp)
   simpa using this
  ·rw [hO, hG _ _ hk] at hb
   rcases hb with h | ⟨g, h, hgb⟩
   ·exact .inl (.inl h)
   ·rcases List.mem_cons.1 h with rfl | h
    ·have e1 : Value.ownBlock (.slice (some ⟨w.heap.size, 0, none⟩) 0 0) = some b := hgb
     exact .inr (Nat.le_of_eq (Option.some.inj e1))
    ·exact .inl (.inr ⟨g, h, hgb⟩)
theorem sy_app {t e : TypeId} {y : Operand} {tx j0 m c gi gn size : Nat} {ad : Option Addr} {gxs news : List Value} {inf : TypeInfo} {z : Value} (hf : Fst ops opf) (li : Fr) (hie : E.contains i = true) (hi : ops[i]? = some ⟨some d, .call { callee := .builtin .append, args := #[.tmp tx, y], argTypes := #[t, t] }, ty, pos, aft_, none⟩)
  (hU : P.underlying t = some (.slice e)) (hinf : P.info? e = some inf) (hz : inf.zero = some z) (hzs : z.cells.size = inf.size) (hsz : 0 < inf.size) (hsize : size = inf.size) (hj0 : E.contains j0 = true) (hwx : waitsFor ops i j0 tx = true) (hli : ∀ s, AllO n opf l (LS E s 0 L) i li) (hy : evL li y = some (.slice ad m c))
  (hA_ : al.all (fun q => !Nat.beq q.a i) = true) (hst_ : al.all (fun q => !Nat.beq q.st i) = true)
  (hG : ∀ s v0, Kn ops E i s → s j0 = some v0 → (G s)[gi]? = some ⟨v0, gn, gxs, e, size⟩ ∧ ∀ v', G (upd s i v') = (G s).set gi ⟨v', gn + m, gxs ++ news, e, size⟩)
  (hc : ∀ s w, St w0 Ob (G s) K w → (ad = none ∧ m = 0) ∨ ∃ p, ad = some p ∧ ∀ (j : Nat) u, news[j]? = some u → w.cell? (p.add j) = some u) (hl : news.length = m * inf.size) (h1 : ∀ u ∈ news, u.oneCell' = true) (h63 : gn + m ≤ maxLen) (hbytes : (gn + m) * inf.bytes ≤ 140737488355328) (hL : atI L i = anyA) : SY P n ops opf Q l w0 K lo al Ob G E L i :=
 sy_eff hie hi fun t0 a s w h0 hF hg hk hD hD' => by
  subst hsize
  have hA := a_ne hA_
  have hst := st_ne hst_
  have hsj := (hD j0 tx hwx).1 (List.contains_iff_mem.1 hj0)
  obtain ⟨hgi, hset⟩ := hG s _ hk hsj
  have ey := allO_has h0 hF (fun j d h => hD' j d (hf.waits h)) (hli s) y _ hy
  have hO : ∀ v, OY al Ob (upd s i v) = OY al Ob s := fun v => by unfold OY; rw [AS_other hA hst]
  have hrow := hg.1.row gi hgi
  have fin : ∀ v' W', (Builtin.append_ #[t, t] ty #[a.eval (.tmp tx), .slice ad m c]).run P w = .ok v' W' → W'.ownsRow w0.heap.size e inf.size v' (gn + m) (gxs ++ news) → w.grownBy W' (a.eval (.tmp tx)).ownBlock → (v'.ownBlock = (a.eval (.tmp tx)).ownBlock ∨ v'.ownBlock = some w.heap.size) →
    wpOp P ops Q i (fun a' w' => ∃ v y, a' = a.put (some d) v ∧ (∀ d', some d = some d' → v = y) ∧ St w0 (OY al Ob (upd s i y)) (G (upd s i y)) K w' ∧ SameX 0 (XB (OY al Ob s) (G s)) w w' ∧ (∀ b, XB (OY al Ob (upd s i y)) (G (upd s i y)) b → XB (OY al Ob s) (G s) b ∨ w.heap.size ≤ b) ∧ AwS lo (XB (OY al Ob (upd s i y)) (G (upd s i y))) (atI L i) y w') a w := fun v' W' hr h2 h3 h4 => by
   have hXg : ∀ b, (a.eval (.tmp tx)).ownBlock = some b → XB (OY al Ob s) (G s) b := fun b hb => .inr ⟨_, List.mem_of_getElem? hgi, hb⟩
   refine wp_val (w' := W') (v := v') hi (wanted_free rfl) ?_ ⟨v', v', rfl, fun _ _ => rfl, ?_, ⟨⟨h3.os, h3.tape, h3.output⟩, h3.size, fun b _ hb hx => h3.block b hb (fun e => hx (hXg b e.symm))⟩, fun b hb => ?_, by rw [hL]; exact fun _ _ => trivial⟩
   ·unfold execOp
    simp only [resolve, invoke, builtin, Sem.run_bind, Sem.run_pure, Result.andThen_ok, List.map_toArray, List.map_cons, List.map_nil, ey, hr]
   ·rw [hO, hset]
    exact hg.1.setG gi hgi h2 h3 h4
   ·rw [hO, hset] at hb
    rcases hb with h | ⟨g, hg2, e1⟩
    ·exact .inl (.inl h)
    ·rcases List.mem_or_eq_of_mem_set hg2 with hg2 | rfl
     ·exact .inl (.inr ⟨g, hg2, e1⟩)
     ·rcases h4 with h5 | h5
      ·exact .inl (hXg b (h5 ▸ e1))
      ·have e2 : v'.ownBlock = some b := e1
       rw [h5] at e2; exact .inr (Nat.le_of_eq (Option.some.inj e2))
  rcases hc s w (St.drops _ hg.1) with ⟨rfl, rfl⟩ | ⟨p, rfl, hcc⟩
  ·have hr := run_append_noneC (P := P) (w := w) w0.heap.size t ty e inf inf.size hU hinf (a.eval (.tmp tx)) gn gxs c hrow
   have hn : news = [] := List.eq_nil_of_length_eq_zero (by simpa using hl)
   subst hn
   refine fin _ w hr (by rw [List.append_nil, Nat.add_zero]; exact hrow) ⟨rfl, rfl, rfl, Nat.le_refl _, fun _ _ _ => rfl⟩ (.inl rfl)
  ·obtain ⟨v', W', hr, h2, h3, h4⟩ := append_own2 (P := P) (w := w) w0.heap.size t ty e inf z hU hinf hz hzs hsz (a.eval (.tmp tx)) gn gxs hrow p m c news hl hcc h1 h63 hbytes hg.1.below.size
   exact fin v' W' hr h2 h3 h4
def BLY (P : Program) (n : Nat) (ops opf : Array Oper) (Q : Exit → Act → World → Prop) (l : Fr) (w0 : World) (K : List (Nat × World)) (lo : Nat) (al : List AB) (Ob : Own) (G : Sy → Grows) (E : List Nat) (Goal : List Asr → Prop) : Nat → List Asr → Nat → Prop
 | 0, Lr, _ => Goal Lr
 | m + 1, Lr, k => ∃ q, SY P n ops opf Q l w0 K lo al Ob G E (q :: Lr).reverse k ∧ BLY P n ops opf Q l w0 K lo al Ob G E Goal m (q :: Lr) (k + 1)
variable {Goal : List Asr → Prop}
theorem bly_nil {Lr : List Asr} {k : Nat} (h : Goal Lr) : BLY P n ops opf Q l w0 K lo al Ob G E Goal 0 Lr k := h
theorem bly_cons {m k : Nat} {Lr : List Asr} (k' : Nat) (hk : k + 1 = k') (q : Asr) (h : SY P n ops opf Q l w0 K lo al Ob G E (q :: Lr).reverse k) (hr : BLY P n ops opf Q l w0 K lo al Ob G E Goal m (q :: Lr) k') : BLY P n ops opf Q l w0 K lo al Ob G E Goal (m + 1) Lr k := by
 subst hk; exact ⟨q, h, hr⟩
theorem bly_run (ht : tidyR ops n = true) : ∀ (m k : Nat) (Lr : List Asr), Lr.length = k → (∀ i, i < k → SY P n ops opf Q l w0 K lo al Ob G E Lr.reverse i) → BLY P n ops opf Q l w0 K lo al Ob G E Goal m Lr k →
  ∃ Lr', Lr'.length = k + m ∧ (∀ i, i < k + m → SY P n ops opf Q l w0 K lo al Ob G E Lr'.reverse i) ∧ Goal Lr'
 | 0, k, Lr, hl, hg, h => ⟨Lr, hl, hg, h⟩
 | m + 1, k, Lr, hl, hg, ⟨q, hr, hn⟩ => by
  have hap : ∀ j, j < k → atI Lr.reverse j = atI (q :: Lr).reverse j := fun j hj => by rw [List.reverse_cons, atI_append (by simp; omega)]
  obtain ⟨L', h1, h3, h4⟩ := bly_run ht m (k + 1) (q :: Lr) (by simp [hl]) (fun i hi => by
   by_cases hik : i = k
   ·subst hik; exact hr
   ·exact SY.ext ht (fun j hj => hap j (by omega)) (hg i (by omega))) hn
  exact ⟨L', by omega, fun i hi => h3 i (by omega), h4⟩
def finY (E : List Nat) (lo : Nat) (X : Nat → Prop) (s : Sy) : Nat → List Asr → List Asr
 | _, [] => []
 | j, q :: L => (bif E.contains j then isE s j else AwS lo X q) :: finY E lo X s (j + 1) L
theorem atI_finY {X : Nat → Prop} : ∀ (L : List Asr) (j i : Nat), i < L.length → atI (finY E lo X s j L) i = (bif E.contains (i + j) then isE s (i + j) else AwS lo X (atI L i))
 | [], j, i, h => by simp at h
 | q :: L, j, 0, h => by rw [Nat.zero_add]; rfl
 | q :: L, j, i + 1, h => by
  show atI (finY E lo X s (j + 1) L) i = _
  rw [atI_finY L (j + 1) i (by simpa using h), show i + 1 + j = i + (j + 1) by omega]
  rfl
theorem regY {id k : Nat} {ds : List Nat} {G0 : Grows} (hm : P.follows .mixedOrders = true) (hlo : lo = W.heap.size) (hS : St w0 Ob G0 K W) (hG0 : G (fun _ => none) = G0) (hk : Nat.blt k os.length = true) (htl : tailT os.toArray k = true) (ht : tidyR os.toArray n = true) (hE : E.all (fun a => Nat.blt a k) = true)
  (hdst : (List.range k).all (fun j => E.contains j || ((os.toArray[j]?).bind (·.dst)).isSome) = true) (hds : (os.drop k).all (fun o => match o.dst with | some d => ds.contains d | none => true) = true)
  (h : BLY P n os.toArray (os.take k).toArray Q l w0 K lo al Ob G E (fun Lr => ∀ (s : Sy) (W' : World) (Ks : List (Nat × World)), (∀ e, E.contains e = true → ∃ v, s e = some v) → W.heap.size ≤ W'.heap.size → (∀ q ∈ Ks, lo ≤ q.1) → St w0 (OY al Ob s) (G s) (Ks ++ K) W' →
   (∀ {O2 G2 K2 W2}, St w0 O2 G2 K2 W2 → (∀ q ∈ Ks, q ∈ K2) → SameX lo (XB (OY al Ob s) (G s)) W' W2) → (∀ e, E.contains e = true → ∀ v, s e = some v → AwS lo (XB (OY al Ob s) (G s)) (atI Lr.reverse e) v W') →
   FinI (os.take k) (finY E lo (XB (OY al Ob s) (G s)) s 0 Lr.reverse) (dropF ds l) (fun l' W' => OpsF P n os.toArray Q (os.drop k) l' W') W') k [] 0) : CodeF P n (.region id os.toArray true) Q l W := by
 obtain ⟨Lr, h1, h2, hfin⟩ := bly_run ht k 0 [] rfl (fun i hi => by omega) h
 rw [Nat.zero_add] at h1 h2
 have hk' : k < os.length := Nat.lt_of_lt_of_le (Nat.lt_succ_self _) (Nat.le_of_ble_eq_true hk)
 have hE' : ∀ a ∈ E, a < k := fun a ha => Nat.lt_of_lt_of_le (Nat.lt_succ_self _) (Nat.le_of_ble_eq_true (List.all_eq_true.1 hE a ha))
 intro a ha
 have hrep : ∀ (m j : Nat), (Array.replicate m false).getD j false = false := fun m j => by
  rw [Array.getD_eq_getD_getElem?, Array.getElem?_replicate]; split <;> rfl
 refine wp_region_any hm (region_ghostF (fr := freeT (os.take k).toArray) (t0 := a.tmps) (d0 := a.defers) (V := VY E) (I := IY lo al Ob G E Lr.reverse) (G := GY w0 K lo al Ob G E Lr.reverse) (k := k) (fun i d hik hd => ?_) (by simpa using hk') htl (by rw [ha.size]; exact ht) (fun i hi => (h2 i hi).step a ha) ?_ _ (fun _ => none) _ _ _ (by simp) (count_rep _) (fun j hj => by rw [hrep] at hj; cases hj) (fun i _ => hrep _ _) ⟨rfl, rfl, fun _ _ => rfl, ⟨⟨by unfold OY; rw [AS_none, hG0]; exact hS.drew, by rw [hlo]; exact Nat.le_refl _⟩, fun _ _ _ h => (by cases h)⟩, ⟨fun e he => ⟨fun h3 => (by rw [hrep] at h3; cases h3), fun h3 => (by cases h3)⟩, fun _ _ => rfl⟩, fun i d _ hj => (by rw [hrep] at hj; cases hj)⟩)
 ·have hd2 : (os[i]?).bind (·.dst) = some d := by simpa using hd
  obtain ⟨o, ho, hod⟩ := Option.bind_eq_some_iff.1 hd2
  have hm2 : o ∈ os.take k := List.mem_of_getElem? (i := i) (by rw [List.getElem?_take, if_pos hik]; exact ho)
  cases hf : freeT (os.take k).toArray d with
  | false => rfl
  | true =>
   unfold freeT at hf
   have := Array.all_eq_true'.1 hf o (by simpa using hm2)
   rw [hod] at this
   simp at this
 intro s LB a' W' hR hdone hnot
 obtain ⟨⟨hG, hG2⟩, hG3⟩ := hR.glob
 obtain ⟨v1, v2⟩ := hR.cons
 have hall : ∀ e, E.contains e = true → ∃ v, s e = some v := fun e he => Option.isSome_iff_exists.1 ((v1 e (List.contains_iff_mem.1 he)).1 (hdone e (hE' e (List.contains_iff_mem.1 he))))
 obtain ⟨Ks, c1, ⟨qw, c2, c3⟩, c4⟩ := cuts (((OY al Ob s).map (·.1)) ++ (G s).filterMap (fun g => g.v.ownBlock)) lo W'
 have hG4 := hG.more Ks (fun q hq => ⟨(c1 q hq).2.1, fun p hp => (c1 q hq).2.2 p.1 (List.mem_append_left _ (List.mem_map.2 ⟨p, hp, rfl⟩)), fun g hg b hb => (c1 q hq).2.2 b (List.mem_append_right _ (List.mem_filterMap.2 ⟨g, hg, hb⟩))⟩)
 have hcov : ∀ {O2 G2 K2 W2}, St w0 O2 G2 K2 W2 → (∀ q ∈ Ks, q ∈ K2) → SameX lo (XB (OY al Ob s) (G s)) W' W2 := fun {O2 G2 K2 W2} h2 hq => by
  refine ⟨⟨h2.below.os.trans hG.below.os.symm, h2.below.tape.trans hG.below.tape.symm, h2.below.output.trans hG.below.output.symm⟩, ?_, fun b b1 b2 b3 => ?_⟩
  ·have := (h2.kept qw (hq qw c2)).1.1; rw [c3] at this; exact this
  ·obtain ⟨q, q1, q2, q3⟩ := c4 b b1 b2 (fun hb => b3 (by
    rcases List.mem_append.1 hb with hb | hb
    ·obtain ⟨p, hp, rfl⟩ := List.mem_map.1 hb
     exact .inl ⟨p, hp, rfl⟩
    ·obtain ⟨g, hg, e⟩ := List.mem_filterMap.1 hb
     exact .inr ⟨g, hg, e⟩))
   exact ((h2.kept q (hq q q1)).1.2 b q2 q3).trans ((c1 q q1).2.1.2 b q2 q3).symm
 have htk : (os.take k).length = k := by simp; omega
 refine fin_hasS (os.take k) (finY E lo (XB (OY al Ob s) (G s)) s 0 Lr.reverse) (dropF ds l) (fun i d hi hd' => ?_) (fun i hi hd' => ?_) (hR.size.trans ha.size) (hR.defers.trans ha.defers) ?_ (fun l' h ha' => ?_) (hfin s W' Ks hall (by rw [← hlo]; exact hG2) (fun q hq => (c1 q hq).1) hG4 hcov (fun e he v hv => hG3 e (List.contains_iff_mem.1 he) v hv))
 ·have hik : i < k := by omega
  have hd2 : (os.toArray[i]?).bind (·.dst) = some d := by rw [List.getElem?_take, if_pos hik] at hd'; simpa using hd'
  obtain ⟨i1, i2⟩ := hR.done i d hd2 (hdone i hik)
  rw [atI_finY Lr.reverse 0 i (by simp; omega), Nat.add_zero]
  cases hc1 : E.contains i with
  | true => rw [cond_true]; exact i1 (List.contains_iff_mem.1 hc1)
  | false => rw [cond_false]; exact i2
 ·have hik : i < k := by omega
  have h3 := List.all_eq_true.1 hdst i (List.mem_range.2 hik)
  have hd2 : (os.toArray[i]?).bind (·.dst) = none := by rw [List.getElem?_take, if_pos hik] at hd'; simpa using hd'
  rw [hd2] at h3
  have hc : E.contains i = true := by simpa using h3
  rw [atI_finY Lr.reverse 0 i (by simp; omega), Nat.add_zero, hc, cond_true]
  exact hall i hc
 ·intro t v hv hno
  have hl := look_dropF hv (look_dropF_not hv)
  rw [hR.frame t ?_]
  ·exact ha.at_ t v hl
  ·unfold freeT; rw [Array.all_eq_true']; intro o' ho'
   have ho2 : o' ∈ os.take k := by simpa using ho'
   simpa using hno o' ho2
 ·have := h a' ha'
  simpa using this
end
end Go.Proofs.YtfkbkekgnoanaaaDoor
namespace Go.Proofs.YtfkbkekgnoanaaaDoor
open Go Go.RowKit
def KeepsB (M : World → Prop) : Prop := ∀ W W', M W → Below W.heap.size W W' → M W'
def FarP (M : World → Prop) (t n : Int) (f : WF) (x : PF) : Prop := ∀ W, M W → PIs W t n f x
def FarX (M : World → Prop) : PS → WF → PX → Prop
 | .one t n, f, .one a => FarP M t n f a
 | .two t n u m, f, .two a b => f.pf = pC 0 ∧ f.rl = 0 ∧ f.cl = 0 ∧ f.pl = 2 ∧ ∃ blk off g h, f.pa = some ⟨blk, off, none⟩ ∧ (∀ W, M W → W6 W blk off g ∧ W6 W blk (off + 6) h) ∧ FarP M t n g a ∧ FarP M u m h b
 | _, _, _ => False
theorem FarX.is {M : World → Prop} {S : PS} {f : WF} {x : PX} {w : World} (h : FarX M S f x) (hM : M w) : XIs w S f x := by
 cases S <;> cases x <;> first | exact h.elim | exact (show FarP M _ _ f _ from h) w hM | skip
 obtain ⟨h1, h2, h3, h4, blk, off, g, k, h5, h6, h7, h8⟩ := h
 exact ⟨h1, h2, h3, h4, blk, off, g, k, h5, (h6 w hM).1, (h6 w hM).2, h7 w hM, h8 w hM⟩
theorem FarX.mono {M M' : World → Prop} {S : PS} {f : WF} {x : PX} (h : FarX M S f x) (hm : ∀ W, M' W → M W) : FarX M' S f x := by
 cases S <;> cases x <;> first | exact h.elim | exact (fun W hW => (show FarP M _ _ f _ from h) W (hm W hW)) | skip
 obtain ⟨h1, h2, h3, h4, blk, off, g, k, h5, h6, h7, h8⟩ := h
 exact ⟨h1, h2, h3, h4, blk, off, g, k, h5, fun W hW => h6 W (hm W hW), fun W hW => h7 W (hm W hW), fun W hW => h8 W (hm W hW)⟩
theorem XNew.far {lo : Nat} {A : World} {S : PS} {f : WF} {x : PX} (h : XNew lo A S f x) : FarX (fun W => Agree lo A W) S f x := by
 cases S <;> cases x <;> first | exact h.elim | exact (fun W hW => (PNew.agree h hW).is) | skip
 obtain ⟨h1, h2, h3, h4, blk, g, k, h5, h0, h6, h7, h8, h9⟩ := h
 exact ⟨h1, h2, h3, h4, blk, 0, g, k, h5, fun W hW => ⟨h6.agree h0 hW, h7.agree h0 hW⟩, fun W hW => (h8.agree hW).is, fun W hW => (h9.agree hW).is⟩
section
variable {w W : World} {k : Nat} {n : Int} {f g : WF} {x y : PF}
end
section
variable {n : Nat} {Q : Exit → Act → World → Prop} {l : Fr} {W : World} {ops : Array Oper} {L : List Asr} {i d : Nat} {ty : TypeId} {pos : String} {aft : Array Edge} {gd : Option (Nat × Bool)} {t k u m : Int} {x y : PF} {p q : Operand} {M : World → Prop}
end
end Go.Proofs.YtfkbkekgnoanaaaDoor
namespace Go.Proofs.YtfkbkekgnoanaaaDoor
open Go Go.RowKit
def MK (M : World → Prop) (K : List (Nat × World)) (W : World) : Prop := M W ∧ ∀ q ∈ K, Agree q.1 q.2 W
theorem MK.head {M : World → Prop} {W : World} {q : Nat × World} {K : List (Nat × World)} (h : MK M (q :: K) W) : Agree q.1 q.2 W := h.2 q List.mem_cons_self
theorem MK.keep {M : World → Prop} {W W' : World} {K : List (Nat × World)} (h : MK M K W) (hM : KeepsB M) (hb : Below W.heap.size W W') : MK M K W' := ⟨hM _ _ h.1 hb, fun q hq => (h.2 q hq).trans (below_agree hb _)⟩
theorem St.stays {M : World → Prop} {w0 W : World} {O : Own} {G : Grows} {K : List (Nat × World)} (h : St w0 O G K W) (hM : KeepsB M) (hw : M w0) : MK M K W := ⟨hM _ _ hw h.below, fun q hq => (h.kept q hq).1⟩
theorem one_le {lo n : Nat} {A : World} (h : lo ≤ n) : ∀ q ∈ [(n, A)], lo ≤ q.1 := fun q hq => by
 simp only [List.mem_cons, List.not_mem_nil, or_false] at hq
 subst hq; exact h
theorem St.keep1 {w0 W : World} {O : Own} {G : Grows} {q : Nat × World} {K : List (Nat × World)} (h : St w0 O G (q :: K) W) : St w0 O G [q] W := h.keep [q] (fun r hr => by
 simp only [List.mem_cons, List.not_mem_nil, or_false] at hr
 subst hr; exact List.mem_cons_self)
def XRet2 (M : World → Prop) (S : PS) (x : PX) (e0 : Int) (w : World) (e : Ending) (w' : World) : Prop := ∃ f : WF, e = .returned (.tuple #[f.val, .int .i64 e0]) ∧ FarX (fun W => M W ∧ Agree w.heap.size w' W) S f x ∧ Below w.heap.size w w'
def XLF (M : World → Prop) (S : PS) (fs : List WF) (xs : List PX) : Prop := fs.length = xs.length ∧ ∀ (i : Nat) f x, fs[i]? = some f → xs[i]? = some x → FarX M S f x
theorem XLF.is {M : World → Prop} {w : World} {S : PS} {fs : List WF} {xs : List PX} (h : XLF M S fs xs) (hw : M w) : XL w S fs xs := ⟨h.1, fun i f x hf hx => (h.2 i f x hf hx).is hw⟩
theorem XLF.at_ {M : World → Prop} {S : PS} {fs : List WF} {xs : List PX} (h : XLF M S fs xs) {k : Nat} (hk : k < fs.length) : ∃ f x, fs[k]? = some f ∧ xs[k]? = some x ∧ FarX M S f x :=
 ⟨fs[k], xs[k]'(by have := h.1; omega), by simp [hk], by have := h.1; simp [show k < xs.length by omega], h.2 k _ _ (by simp [hk]) (by have := h.1; simp [show k < xs.length by omega])⟩
theorem isR_ok {w : World} {S : PS} {sf : SF} {f : WF} {x : PX} (hs : SIs w S sf) (hok : S.ok) (hx : XIs w S f x) : Calls Tryd.prog 42 #[sf.val, f.val] w fun e w' => e = .returned (.bool true) ∧ Below w.heap.size w w' := by
 cases S <;> cases x <;> first | exact hx.elim | skip
 ·obtain ⟨a, c, rfl⟩ := hs
  exact isR_plain _ _ _ _ _ _ hok (PIs.rl100 hx) w (PIs.at_ hx) true (PIs.pw hx)
 ·obtain ⟨b, off, c, a1, c1, a2, c2, rfl, h1, h2⟩ := hs
  obtain ⟨ra, ca, rc, cc, pc, fb, fo, f1, f2, rfl, h6, h7, h8, h9⟩ := hx.two
  exact isR_pair 1 _ _ _ _ _ _ w (sin_two h1 h2) hok.1 hok.2 1 (two_win h6 h7 h8 h9) (by intro p hp; simp at hp; rcases hp with rfl | rfl <;> first | exact h8.rl100 | exact h9.rl100) true (two_pairOk h8 h9)
theorem allR_ok (S : PS) (sf : SF) (w : World) (hs : SIs w S sf) (hok : S.ok) (a : Option Addr) (c m : Nat) (fs : List WF) (xs : List PX) (hr : FRow w a fs) (hx : XL w S fs xs) (hm : fs.length = m) (hmx : m ≤ 9223372036854775807) :
  Calls Tryd.prog 32 #[sf.val, .slice a m c] w (fun e w' => e = .returned (.int .i64 0) ∧ Below w.heap.size w w') := by
 refine enterF (args := [sf.val, .slice a m c]) Tryd.func32 rfl Tryd.ntmps32 rfl ?_
 have hS := St.start w
 refine seqF (regF ?_)
 refine op_box (cs := [_, _, _]) hS rfl rfl rfl ?_
 clear hS; intro B1 W1 hS
 refine op_assign rfl rfl ?_
 refine endF (XF.thenN ?_)
 refine seqF ?_
 refine seqF (regF ?_)
 refine op_loadA (vs := [_, _, _]) Tryd.isAgg25 Tryd.sizeOf25 rfl (CellsAt.own (j := 0) (m := 3) (hS.at_ 0 rfl) rfl) rfl ?_
 refine op_call (vs := [_]) hS goes_24 rfl (spaceR_ok (hs.below hS.below) hok) rfl ?_
 rintro e W2 ⟨rfl, hb⟩
 refine ⟨_, rfl, hb, fun hS' => ?_⟩
 clear hS; have hS := hS'; clear hS' hb
 refine op_neq rfl rfl rfl ?_
 refine endF (XF.thenN ?_)
 refine condF rfl (fun hc => absurd (of_decide_eq_true hc) (by omega)) (fun hc => ?_)
 have hc := of_decide_eq_false hc
 refine skipF ?_
 refine XF.thenN ?_
 refine seqF ?_
 refine seqF (regF ?_)
 refine op_assign rfl rfl ?_
 refine endF (XF.thenN ?_)
 refine blockF ?_
 refine loopF (fun q l W => ∃ k : Nat, k ≤ m ∧ q = m - k ∧ l = [(1, .slice a m c), (2, .pointer (some ⟨B1, 0, none⟩)), (5, .int .i64 (k : Int))] ∧ St w [(B1, [.int .i64 sf.tag, .int .i64 sf.dim, .slice sf.a sf.len sf.cap], 25)] [] [] W) (m - 0) ([(1, _), (2, _), (5, _)]) ⟨rfl, rfl, rfl, trivial⟩ (⟨0, Nat.zero_le _, rfl, rfl, hS.clear⟩) ?_
 clear hS
 rintro q l W ⟨k, hkm, rfl, rfl, hS⟩
 refine seqF ?_
 refine seqF (regF ?_)
 refine op_move rfl rfl ?_
 refine op_move rfl rfl ?_
 refine op_len Tryd.underlying45 rfl rfl ?_
 refine op_lss rfl rfl rfl ?_
 refine endF (XF.thenN ?_)
 refine condF rfl (fun hc => ?_) (fun hc => ?_)
 ·have hc12 := of_decide_eq_true hc; clear hc
  have hk : k < m := by omega
  obtain ⟨f, x, hf, hxk, hxx⟩ := hx.at_ (k := k) (by omega)
  obtain ⟨b, off, rfl, h6⟩ := hr.at_ hf
  have k1 := CellsAt.agree hS.agree (Nat.zero_le _) h6.cells
  refine skipF ?_
  refine XF.thenN ?_
  refine seqF ?_
  refine blockF ?_
  refine seqF ?_
  refine regB (m := 7) followsM hS (by kernel_rfl) (by kernel_rfl) rfl ?_
  refine bl_cons 1 rfl (isV _) (stab_isV _) (rgV (li := [(2, _)]) rfl (w_free rfl) ⟨g_fr (by kernel_rfl) rfl, trivial⟩ (fun w hw => rn_loadA (vs := [_, _, _]) Tryd.isAgg25 Tryd.sizeOf25 rfl (CellsAt.agree (below_agree hw 0) (Nat.zero_le _) (CellsAt.own (j := 0) (m := 3) (hS.at_ 0 rfl) rfl))) (at_top rfl)) ?_
  refine bl_cons 2 rfl (isV _) (stab_isV _) (rgV (li := [(1, _)]) rfl (w_free rfl) ⟨g_fr (by kernel_rfl) rfl, trivial⟩ (fun w hw => rn_move rfl) (at_top rfl)) ?_
  refine bl_cons 3 rfl (isV _) (stab_isV _) (rgV (li := [(5, _)]) rfl (w_free rfl) ⟨g_fr (by kernel_rfl) rfl, trivial⟩ (fun w hw => rn_move rfl) (at_top rfl)) ?_
  refine bl_cons 4 rfl (isV _) (stab_isV _) (rgV (li := [(16, _), (17, _)]) rfl (w_free rfl) ⟨g_dep 1 (by kernel_rfl) (at_dep rfl rfl rfl), g_dep 2 (by kernel_rfl) (at_dep rfl rfl rfl), trivial⟩ (fun w hw => rn_indexA  Tryd.underlying45 Tryd.sizeOf47 rfl rfl rfl (by omega) rfl) (at_top rfl)) ?_
  refine bl_cons 5 rfl (isV _) (stab_isV _) (rgV (li := [(18, _)]) rfl (w_free rfl) ⟨g_dep 3 (by kernel_rfl) (at_dep rfl rfl rfl), trivial⟩ (fun w hw => rn_loadA (vs := [_, _, _, _, _, _]) Tryd.isAgg47 Tryd.sizeOf47 rfl (CellsAt.agree (below_agree hw 0) (Nat.zero_le _) (by assumption))) (at_top rfl)) ?_
  refine bl_cons 6 rfl (isV (.bool true)) (stab_isV _) (rg_call [isV _, isV _] rfl goes_42 (w_free rfl) ⟨p_tmp (g_dep 0 (by kernel_rfl) (at_dep rfl rfl rfl)), p_tmp (g_dep 4 (by kernel_rfl) (at_dep rfl rfl rfl)), trivial⟩ (fun vs w' hb hh => by have e := holds_isV (us := [_, _]) hh; subst e; exact (isR_ok (hs.below (hS.below.trans (hb.mono hS.below.size))) hok (hxx.below (hS.below.trans (hb.mono hS.below.size)))).mono fun e w2 h => ⟨_, h.1, rfl, h.2⟩) (at_top rfl)) ?_
  refine bl_cons 7 rfl (isV (.bool false)) (stab_isV _) (rgVe (li := [(20, _)]) rfl (w_free rfl) ⟨g_dep 5 (by kernel_rfl) (at_dep rfl rfl rfl), trivial⟩ (fun w hw => rn_not rfl) (rfl) (at_top rfl)) ?_
  refine bl_nil ?_
  intro W3 hbR hS'
  clear hS; have hS := hS'; clear hS'
  refine fin_v ?_
  refine fin_v ?_
  refine fin_v ?_
  refine fin_v ?_
  refine fin_v ?_
  refine fin_v ?_
  refine fin_v ?_
  refine fin_nil ?_
  refine XF.thenN ?_
  refine condN rfl ?_
  refine skipF ?_
  refine XF.blkN ?_
  refine XF.thenN ?_
  refine regF ?_
  refine op_move rfl rfl ?_
  refine op_add rfl rfl (IntWalk.i64_in _ (by omega)) rfl ?_
  refine op_assign rfl rfl ?_
  refine endF ?_
  exact XF.round (m - (k + 1)) [(1, _), (2, _), (5, _)] (by omega) ⟨rfl, rfl, rfl, trivial⟩ ⟨k + 1, by omega, rfl, rfl, hS.clear⟩
 ·have hc12 := of_decide_eq_false hc; clear hc
  refine exitF ?_
  refine XF.thenX ?_
  refine XF.thenX ?_
  refine XF.blkX ?_
  refine XF.thenN ?_
  refine seqF (regF ?_)
  refine op_assign rfl rfl ?_
  refine endF (XF.thenN ?_)
  refine retF ?_
  refine XF.res (res1 Tryd.results32 rfl) ?_
  exact ⟨rfl, hS.below⟩
theorem ExtendR_ok (S : PS) (sf : SF) (w : World) (hs : SIs w S sf) (hok : S.ok) (M : World → Prop) (hM : KeepsB M) (hw : M w) (a : Option Addr) (c m : Nat) (fs : List WF) (xs : List PX) (hr : FRow w a fs) (hx : XLF M S fs xs) (hm : fs.length = m) (hmx : m ≤ 9223372036854775807) :
  Calls Tryd.prog 12 #[sf.val, .slice a m c] w (XRet2 M S (xs.foldl (extX S) (oneX S)) 0 w) := by
 refine enterF (args := [sf.val, .slice a m c]) Tryd.func12 rfl Tryd.ntmps12 rfl ?_
 have hS := St.start w
 refine seqF (regF ?_)
 refine op_box (cs := [_, _, _]) hS rfl rfl rfl ?_
 clear hS; intro B1 W1 hS
 refine op_alloc (cs := [_, _, _, _, _, _]) hS Tryd.zeroValue47 rfl rfl ?_
 clear hS; intro B2 W2 hS
 refine op_assign rfl rfl ?_
 refine endF (XF.thenN ?_)
 refine seqF (regF ?_)
 refine op_loadA (vs := [_, _, _]) Tryd.isAgg25 Tryd.sizeOf25 rfl (CellsAt.own (j := 0) (m := 3) (hS.at_ 1 rfl) rfl) rfl ?_
 refine op_move rfl rfl ?_
 refine op_call (vs := [_, _]) hS goes_32 rfl (allR_ok S sf _ (hs.below hS.below) hok a c m fs xs (hr.below hS.below) ((hx.is hw).below hS.below) hm hmx) rfl ?_
 rintro e W3 ⟨rfl, hb⟩
 refine ⟨_, rfl, hb, fun hS' => ?_⟩
 clear hS; have hS := hS'; clear hS' hb
 refine op_assign rfl rfl ?_
 refine endF (XF.thenN ?_)
 refine seqF ?_
 refine seqF (regF ?_)
 refine op_move rfl rfl ?_
 refine op_neq rfl rfl rfl ?_
 refine endF (XF.thenN ?_)
 refine condF rfl (fun hc => absurd (of_decide_eq_true hc) (by omega)) (fun hc => ?_)
 have hc := of_decide_eq_false hc
 refine skipF ?_
 refine XF.thenN ?_
 refine seqF (regF ?_)
 refine op_loadA (vs := [_, _, _]) Tryd.isAgg25 Tryd.sizeOf25 rfl (CellsAt.own (j := 0) (m := 3) (hS.at_ 1 rfl) rfl) rfl ?_
 have hsz0 := hS.below.size
 refine op_call (vs := [_]) hS goes_33 rfl (oneR_ok (hs.below hS.below) hok) rfl ?_
 rintro e W4 ⟨f0, rfl, hn, hb⟩
 refine ⟨_, rfl, hb, fun hS' => ?_⟩
 clear hS; have hS := hS'; clear hS'
 refine op_alloc (cs := [_, _, _, _, _, _]) hS Tryd.zeroValue47 rfl rfl ?_
 clear hS; intro B5 W5 hS
 refine op_storeA (i := 0) (vs := [_, _, _, _, _, _]) (cs' := [_, _, _, _, _, _]) (O' := [_, _, _]) hS Tryd.sizeOf47 rfl rfl rfl rfl rfl rfl rfl ?_
 clear hS; intro W6 hS
 refine endF (XF.thenN ?_)
 refine seqF ?_
 refine seqF (regF ?_)
 refine op_assign rfl rfl ?_
 refine endF (XF.thenN ?_)
 refine blockF ?_
 refine loopF (fun q l W => ∃ (k : Nat) (f0 : WF) (K : List (Nat × World)), k ≤ m ∧ q = m - k ∧ l = [(1, .slice a m c), (2, .pointer (some ⟨B1, 0, none⟩)), (4, .pointer (some ⟨B2, 0, none⟩)), (7, .pointer (some ⟨B5, 0, none⟩)), (8, .int .i64 (k : Int))] ∧ FarX (MK M K) S f0 ((xs.take k).foldl (extX S) (oneX S)) ∧ (∀ q ∈ K, w.heap.size ≤ q.1) ∧ St w [(B5, f0.six, 47), (B2, [.bool false, .int .i64 0, .int .u64 0, .slice none 0 0, .slice none 0 0, .slice none 0 0], 47), (B1, [.int .i64 sf.tag, .int .i64 sf.dim, .slice sf.a sf.len sf.cap], 25)] [] K W) (m - 0) ([(1, _), (2, _), (4, _), (7, _), (8, _)]) ⟨rfl, rfl, rfl, rfl, rfl, trivial⟩ (⟨0, f0, _, Nat.zero_le _, rfl, rfl, hn.far.mono (fun W2 h2 => h2.2 _ (List.mem_of_getElem? (i := 0) rfl)), one_le hsz0, hS.keep1⟩) ?_
 clear hS
 rintro q l W ⟨k, f0, K, hkm, rfl, rfl, hn0, hK, hS⟩
 refine seqF ?_
 refine seqF (regF ?_)
 refine op_move rfl rfl ?_
 refine op_move rfl rfl ?_
 refine op_len Tryd.underlying45 rfl rfl ?_
 refine op_lss rfl rfl rfl ?_
 refine endF (XF.thenN ?_)
 refine condF rfl (fun hc => ?_) (fun hc => ?_)
 ·have hc21 := of_decide_eq_true hc; clear hc
  have hk : k < m := by omega
  obtain ⟨f, x, hf, hxk, hxx⟩ := hx.at_ (k := k) (by omega)
  obtain ⟨b, off, rfl, h6⟩ := hr.at_ hf
  have k1 := CellsAt.agree hS.agree (Nat.zero_le _) h6.cells
  have hsz2 := hS.below.size
  refine skipF ?_
  refine XF.thenN ?_
  refine seqF ?_
  refine blockF ?_
  refine regBK followsM 7 hS rfl rfl (by kernel_rfl) (by kernel_rfl) (by kernel_rfl) (fun d hd => by cases hd) ?_
  refine bl_cons 1 rfl (isV _) (stab_isV _) (rgV (li := [(2, _)]) rfl (w_free rfl) ⟨g_fr (by kernel_rfl) rfl, trivial⟩ (fun w hw => rn_loadA (vs := [_, _, _]) Tryd.isAgg25 Tryd.sizeOf25 rfl (CellsAt.agree (below_agree hw 0) (Nat.zero_le _) (CellsAt.own (j := 0) (m := 3) (hS.at_ 2 rfl) rfl))) (at_top rfl)) ?_
  refine bl_cons 2 rfl (isV _) (stab_isV _) (rgV (li := [(7, _)]) rfl (w_free rfl) ⟨g_fr (by kernel_rfl) rfl, trivial⟩ (fun w hw => rn_loadA (vs := [_, _, _, _, _, _]) Tryd.isAgg47 Tryd.sizeOf47 rfl (CellsAt.agree (below_agree hw 0) (Nat.zero_le _) (CellsAt.own (j := 0) (m := 6) (hS.at_ 0 rfl) rfl))) (at_top rfl)) ?_
  refine bl_cons 3 rfl (isV _) (stab_isV _) (rgV (li := [(1, _)]) rfl (w_free rfl) ⟨g_fr (by kernel_rfl) rfl, trivial⟩ (fun w hw => rn_move rfl) (at_top rfl)) ?_
  refine bl_cons 4 rfl (isV _) (stab_isV _) (rgV (li := [(8, _)]) rfl (w_free rfl) ⟨g_fr (by kernel_rfl) rfl, trivial⟩ (fun w hw => rn_move rfl) (at_top rfl)) ?_
  refine bl_cons 5 rfl (isV _) (stab_isV _) (rgV (li := [(26, _), (27, _)]) rfl (w_free rfl) ⟨g_dep 2 (by kernel_rfl) (at_dep rfl rfl rfl), g_dep 3 (by kernel_rfl) (at_dep rfl rfl rfl), trivial⟩ (fun w hw => rn_indexA  Tryd.underlying45 Tryd.sizeOf47 rfl rfl rfl (by omega) rfl) (at_top rfl)) ?_
  refine bl_cons 6 rfl (isV _) (stab_isV _) (rgV (li := [(28, _)]) rfl (w_free rfl) ⟨g_dep 4 (by kernel_rfl) (at_dep rfl rfl rfl), trivial⟩ (fun w hw => rn_loadA (vs := [_, _, _, _, _, _]) Tryd.isAgg47 Tryd.sizeOf47 rfl (CellsAt.agree (below_agree hw 0) (Nat.zero_le _) (by assumption))) (at_top rfl)) ?_
  refine bl_cons 7 rfl (isNew W.heap.size S (extX S ((xs.take k).foldl (extX S) (oneX S)) x)) (stab_isNew) (rg_call [isV _, isV _, isV _] rfl goes_34 (w_free rfl) ⟨p_tmp (g_dep 0 (by kernel_rfl) (at_dep rfl rfl rfl)), p_tmp (g_dep 1 (by kernel_rfl) (at_dep rfl rfl rfl)), p_tmp (g_dep 5 (by kernel_rfl) (at_dep rfl rfl rfl)), trivial⟩ (fun vs w' hb hh => by have e := holds_isV (us := [_, _, _]) hh; subst e; exact wret_gives hb.size (thenR_ok (hs.below (hS.below.trans (hb.mono hS.below.size))) hok (hn0.is ((hS.stays hM hw).keep hM hb)) (hxx.is (hM _ _ hw (hS.below.trans (hb.mono hS.below.size)))))) (at_top rfl)) ?_
  refine bl_nil ?_
  intro W7 hbR hS'
  clear hS; have hS := hS'; clear hS'
  refine fin_v ?_
  refine fin_v ?_
  refine fin_v ?_
  refine fin_v ?_
  refine fin_v ?_
  refine fin_v ?_
  refine fin_p ?_; rintro _ ⟨f2, rfl, hn2⟩; have hn2 := hn2.far.mono (M' := MK M ((_, W7) :: K)) (fun W2 h2 => h2.head)
  refine fin_nil ?_
  refine op_storeA (i := 0) (vs := [_, _, _, _, _, _]) (cs' := [_, _, _, _, _, _]) (O' := [_, _, _]) hS Tryd.sizeOf47 rfl rfl rfl rfl rfl rfl rfl ?_
  clear hS; intro W8 hS
  refine endF ?_
  refine XF.blkN ?_
  refine XF.thenN ?_
  refine regF ?_
  refine op_move rfl rfl ?_
  refine op_add rfl rfl (IntWalk.i64_in _ (by omega)) rfl ?_
  refine op_assign rfl rfl ?_
  refine endF ?_
  exact XF.round (m - (k + 1)) [(1, _), (2, _), (4, _), (7, _), (8, _)] (by omega) ⟨rfl, rfl, rfl, rfl, rfl, trivial⟩ ⟨k + 1, f2, _, by omega, rfl, rfl, by rw [take_fold hxk]; exact hn2, (fun q hq => by rcases List.mem_cons.1 hq with rfl | hq; exact hsz2; exact hK q hq), hS⟩
 ·have hc21 := of_decide_eq_false hc; clear hc
  refine exitF ?_
  refine XF.thenX ?_
  refine XF.thenX ?_
  refine XF.blkX ?_
  refine XF.thenN ?_
  refine seqF (regF ?_)
  refine op_loadA (vs := [_, _, _, _, _, _]) Tryd.isAgg47 Tryd.sizeOf47 rfl (CellsAt.own (j := 0) (m := 6) (hS.at_ 0 rfl) rfl) rfl ?_
  refine op_storeA (i := 1) (vs := [_, _, _, _, _, _]) (cs' := [_, _, _, _, _, _]) (O' := [_, _, _]) hS Tryd.sizeOf47 rfl rfl rfl rfl rfl rfl rfl ?_
  clear hS; intro W9 hS
  refine op_assign rfl rfl ?_
  refine endF (XF.thenN ?_)
  refine retF ?_
  refine XF.res (resCT (vs := [_, _, _, _, _, _]) Tryd.results12 Tryd.isAgg47 Tryd.sizeOf47 rfl (CellsAt.own (j := 0) (m := 6) (hS.at_ 1 rfl) rfl) rfl) ?_
  have e1 : xs.take k = xs := List.take_of_length_le (by have := hx.1; omega)
  rw [e1] at hn0
  exact ⟨f0, rfl, hn0.mono (fun W2 h2 => ⟨h2.1, fun q hq => ((hS.kept q hq).1).trans (h2.2.mono (hK q hq))⟩), hS.below⟩
end Go.Proofs.YtfkbkekgnoanaaaDoor
namespace Go.Proofs.YtfkbkekgnoanaaaDoor
open Go Go.RowKit
theorem holds_vvE {x y : Value} {s : Sy} {e : Nat} {vs : List Value} {w : World} (h : Holds [isV x, isV y, isE s e] vs w) : ∃ v, vs = [x, y, v] ∧ s e = some v := by
 obtain ⟨a, b, c, rfl, h1, h2, h3⟩ := holds3 h
 have e1 : a = x := h1
 have e2 : b = y := h2
 subst e1; subst e2
 exact ⟨c, rfl, h3⟩
theorem cat_row {w : World} {lo kl km : Nat} {v : Value} {is js : List Int} (h : w.ownsRow lo 3 1 v (0 + kl + km) ([] ++ is.map (Value.int .i64) ++ js.map (Value.int .i64))) (h1 : is.length = kl) (h2 : js.length = km) : ∃ a c, v = .slice a (kl + km) c ∧ Row w a (is ++ js) ∧ (is ++ js).length = kl + km := by
 subst h1; subst h2
 obtain ⟨a, c, rfl, hc⟩ := ownsRow_sl h
 have hN : RowN lo w a c (is ++ js) := by
  unfold RowN
  rw [List.length_append, List.map_append]
  simpa using h
 exact ⟨a, c, by rw [Nat.zero_add], hN.row, by simp⟩
theorem run_gN {P : Program} {f : FuncId} {vs : Array Value} {w : World} {v : Value} (h : Calls P f vs w fun e w' => e = .returned v ∧ Below w.heap.size w w') : Calls P f vs w (GivesN (isV v) w) := h.mono fun e w2 ⟨he, hb⟩ => ⟨v, he, fun _ _ => rfl, hb⟩
theorem run_gN0 {P : Program} {f : FuncId} {vs : Array Value} {w : World} {S : PS} {n c : Int} (h : Calls P f vs w (RunRet S (none, n, c) w)) : Calls P f vs w (GivesN (isV (.tuple #[.agg #[.int .i64 0, .slice none 0 0], .agg #[.bool false, .int .i64 0, .int .u64 0, .slice none 0 0, .slice none 0 0, .slice none 0 0], .int .i64 n, .int .i64 c])) w) := h.mono fun e w2 ⟨hb, he⟩ => ⟨_, he, fun _ _ => rfl, hb⟩
def isRunN (lo : Nat) (S : PS) (q : Int) (us : List Int) (x : PX) : Asr := fun v w => ∃ a c f, v = .tuple #[.agg #[.int .i64 q, .slice a us.length c], WF.val f, .int .i64 0, .int .i64 0] ∧ RowN lo w a c us ∧ XNew lo w S f x
theorem run_gN1 {P : Program} {f : FuncId} {vs : Array Value} {w : World} {S : PS} {q : Int} {us : List Int} {x : PX} {lo : Nat} (hlo : lo ≤ w.heap.size) (h : Calls P f vs w (RunRet S (some (q, us, x), 0, 0) w)) : Calls P f vs w (GivesN (isRunN lo S q us x) w) := h.mono fun e w2 ⟨hb, a, c, f, he, hn, hx⟩ => ⟨_, he, fun w3 hg => ⟨a, c, f, rfl, (hn.agree hg).mono hlo, (hx.agree hg).mono hlo⟩, hb⟩
theorem syp_move {P : Program} {p : Asr} {d td : Nat} {ty : TypeId} {pos : String} : ∀ (ev : Operand → Value) (w : World), p (ev (.tmp td)) w → ∃ v, (execOp ev ⟨some d, .move (.tmp td), ty, pos, #[], none⟩).run P w = .ok (.value v) w ∧ ∀ w2, p (ev (.tmp td)) w2 → p v w2 := fun ev w h => ⟨ev (.tmp td), by unfold execOp; rfl, fun _ h => h⟩
theorem syp_ext {P : Program} {p q : Asr} {d td k : Nat} {ty : TypeId} {pos : String} (hpq : ∀ v w, p v w → ∃ (vs : Array Value) (u : Value), v = .tuple vs ∧ vs[k]? = some u ∧ ∀ w2, p v w2 → q u w2) : ∀ (ev : Operand → Value) (w : World), p (ev (.tmp td)) w → ∃ v, (execOp ev ⟨some d, .extract (.tmp td) k, ty, pos, #[], none⟩).run P w = .ok (.value v) w ∧ ∀ w2, p (ev (.tmp td)) w2 → q v w2 := fun ev w h => by
 obtain ⟨vs, u, e, hu, h2⟩ := hpq _ _ h
 exact ⟨u, by unfold execOp; simp only []; rw [e]; simp [Instr.extract, hu], h2⟩
theorem tup_inj {a b c d a2 b2 c2 d2 : Value} (h : Value.tuple #[a, b, c, d] = .tuple #[a2, b2, c2, d2]) : a = a2 ∧ b = b2 ∧ c = c2 ∧ d = d2 := by
 simp at h; exact h
theorem isRun_0 {lo : Nat} {S : PS} {q : Int} {us : List Int} {x : PX} : ∀ v w, isRunN lo S q us x v w → ∃ (vs : Array Value) (u : Value), v = .tuple vs ∧ vs[0]? = some u ∧ ∀ w2, isRunN lo S q us x v w2 → isConfN lo q us u w2 := fun v w ⟨a, c, f, e, h1, h2⟩ => by
 subst e
 exact ⟨_, _, rfl, rfl, fun w2 ⟨a2, c2, f2, e2, h3, h4⟩ => ⟨a2, c2, (tup_inj e2).1, h3⟩⟩
theorem isRun_1 {lo : Nat} {S : PS} {q : Int} {us : List Int} {x : PX} : ∀ v w, isRunN lo S q us x v w → ∃ (vs : Array Value) (u : Value), v = .tuple vs ∧ vs[1]? = some u ∧ ∀ w2, isRunN lo S q us x v w2 → isNew lo S x u w2 := fun v w ⟨a, c, f, e, h1, h2⟩ => by
 subst e
 exact ⟨_, _, rfl, rfl, fun w2 ⟨a2, c2, f2, e2, h3, h4⟩ => ⟨f2, (tup_inj e2).2.1, h4⟩⟩
theorem isRun_2 {lo : Nat} {S : PS} {q : Int} {us : List Int} {x : PX} : ∀ v w, isRunN lo S q us x v w → ∃ (vs : Array Value) (u : Value), v = .tuple vs ∧ vs[2]? = some u ∧ ∀ w2, isRunN lo S q us x v w2 → isV (.int .i64 0) u w2 := fun v w ⟨a, c, f, e, h1, h2⟩ => by
 subst e
 exact ⟨_, _, rfl, rfl, fun w2 _ => rfl⟩
theorem isRun_3 {lo : Nat} {S : PS} {q : Int} {us : List Int} {x : PX} : ∀ v w, isRunN lo S q us x v w → ∃ (vs : Array Value) (u : Value), v = .tuple vs ∧ vs[3]? = some u ∧ ∀ w2, isRunN lo S q us x v w2 → isV (.int .i64 0) u w2 := fun v w ⟨a, c, f, e, h1, h2⟩ => by
 subst e
 exact ⟨_, _, rfl, rfl, fun w2 _ => rfl⟩
theorem confN_row {lo : Nat} {q : Int} {us : List Int} {a : Option Addr} {n c : Nat} {w : World} (h : isConfN lo q us (.agg #[.int .i64 q, .slice a n c]) w) : RowN lo w a c us := by
 obtain ⟨a2, c2, e, h⟩ := h
 simp at e
 obtain ⟨rfl, _, rfl⟩ := e
 exact h
theorem isNew_isX {lo : Nat} {S : PS} {x : PX} {v : Value} {w : World} (h : isNew lo S x v w) : isX S x v w := by
 obtain ⟨f, e, h⟩ := h
 exact ⟨f, e, h.is⟩
theorem sameV_is {w : World} {S : PS} {x y : PX} {v1 v2 : Value} (h1 : isX S x v1 w) (h2 : isX S y v2 w) (e : x = y) : Calls Tryd.prog 14 #[v1, v2] w fun e w' => e = .returned (.bool true) ∧ Below w.heap.size w w' := by
 obtain ⟨f, rfl, hf⟩ := h1
 obtain ⟨g, rfl, hg⟩ := h2
 exact sameW_is hf hg true ⟨fun _ => e, fun _ => rfl⟩
theorem w6_at {w : World} {B : Nat} {f : WF} {o : Nat} (h : CellsAt w B o f.six) : W6 w B o f := ⟨h.1, h.2.1, h.2.2.1, h.2.2.2.1, h.2.2.2.2.1, h.2.2.2.2.2.1⟩
theorem ext2R {w : World} {S : PS} {sf : SF} {f g : WF} {x y : PX} {lo1 lo2 B : Nat} {A1 A2 : World} {T : TypeId} (hs : SIs w S sf) (hok : S.ok) (h1 : XNew lo1 A1 S f x) (h2 : XNew lo2 A2 S g y) (ox : OkX S x) (g1 : Agree lo1 A1 w) (g2 : Agree lo2 A2 w) (hB : w.heap[B]? = some (.cells (f.six ++ g.six).toArray T (0, 0))) :
  Calls Tryd.prog 12 #[sf.val, .slice (some ⟨B, 0, none⟩) 2 2] w fun e w' => ∃ v, e = .returned (.tuple #[v, .int .i64 0]) ∧ (∃ h : WF, v = h.val) ∧ (∀ W2, Agree lo1 A1 W2 → Agree lo2 A2 W2 → Agree w.heap.size w' W2 → isX S (extX S x y) v W2) ∧ Below w.heap.size w w' := by
 have hf : [x, y].foldl (extX S) (oneX S) = extX S x y := by
  simp only [List.foldl_cons, List.foldl_nil]; rw [oneX_ext hok ox]
 refine (ExtendR_ok S sf w hs hok (fun W2 => Agree lo1 A1 W2 ∧ Agree lo2 A2 W2) (fun W W' h hb => ⟨h.1.trans (below_agree hb _), h.2.trans (below_agree hb _)⟩) ⟨g1, g2⟩ (some ⟨B, 0, none⟩) 2 2 [f, g] [x, y] (.inr ⟨B, 0, rfl, fun i u hu => ?_⟩) ⟨rfl, fun i u v hu hv => ?_⟩ rfl (by decide)).mono ?_
 ·match i, hu with
  | 0, hu => cases hu; exact w6_at (CellsAt.own (j := 0) (m := 6) hB rfl)
  | 1, hu => cases hu; exact w6_at (CellsAt.own (j := 6) (m := 6) hB rfl)
  | k + 2, hu => simp at hu
 ·match i, hu, hv with
  | 0, hu, hv => cases hu; cases hv; exact h1.far.mono (fun W h => h.1)
  | 1, hu, hv => cases hu; cases hv; exact h2.far.mono (fun W h => h.2)
  | k + 2, hu, hv => simp at hu
 ·rintro e w' ⟨f3, rfl, hx, hb⟩
  rw [hf] at hx
  exact ⟨_, rfl, ⟨f3, rfl⟩, fun W2 a b c => ⟨f3, rfl, hx.is ⟨⟨a, b⟩, c⟩⟩, hb⟩
theorem stepsParts_walk0 (ds d : Nat) (p : PV) (c : CV) (la : Option Addr) (ll lc : Nat) (is : List Int) (ma : Option Addr) (ml mc : Nat) (js : List Int) (w : World) (hp : PvIn w ds d p) (hcf : CIn w c) (hcc : c.wl ≤ c.wc) (hrla : Row w la is) (hll : is.length = ll) (hlc : ll ≤ lc) (hlm : ll ≤ 9223372036854775807) (hrma : Row w ma js) (hml : js.length = ml) (hmc : ml ≤ mc) (hmm : ml ≤ 9223372036854775807) (ht : Tabs w) :
  Calls Tryd.prog 4 #[p.val, c.val, .slice la ll lc, .slice ma ml mc] w (fun e w' => e = .returned (.bool (true)) ∧ Below w.heap.size w w') := by
 refine enterF (args := [p.val, c.val, .slice la ll lc, .slice ma ml mc]) Tryd.func4 rfl Tryd.ntmps4 rfl ?_
 have hS := St.start w
 refine seqF (regF ?_)
 refine op_box (cs := [_, _, _, _, _, _]) hS rfl rfl rfl ?_
 clear hS; intro B1 W1 hS
 refine op_box (cs := [_, _]) hS rfl rfl rfl ?_
 clear hS; intro B2 W2 hS
 refine op_assign rfl rfl ?_
 refine endF (XF.thenN ?_)
 refine seqF ?_
 refine seqF (regF ?_)
 refine op_call (vs := []) hS goes_6 rfl (awakeS_is _ (ht.below hS.below)) rfl ?_
 rintro e W3 ⟨rfl, hb⟩
 refine ⟨_, rfl, hb, fun hS' => ?_⟩
 clear hS; have hS := hS'; clear hS' hb
 refine op_not rfl rfl ?_
 refine endF (XF.thenN ?_)
 refine condN rfl ?_
 refine skipF ?_
 refine XF.thenN ?_
 refine joinF (fun l W => ∃ (kl : Nat) (is2 : List Int), l = [(2, .slice la kl lc), (3, .slice ma ml mc), (4, .pointer (some ⟨B1, 0, none⟩)), (5, .pointer (some ⟨B2, 0, none⟩))] ∧ is2.length = kl ∧ kl ≤ 200 ∧ Row w la is2 ∧ St w [(B2, [.int .i64 c.p, .slice c.wa c.wl c.wc], 31), (B1, p.six, 28)] [] [] W) ?_ ?_
 ·clear hS
  rintro _ W ⟨kl, is2, rfl, hll2, hk2, hrl2, hS⟩
  refine joinF (fun l W => ∃ (km : Nat) (js2 : List Int), l = [(2, .slice la kl lc), (3, .slice ma km mc), (4, .pointer (some ⟨B1, 0, none⟩)), (5, .pointer (some ⟨B2, 0, none⟩))] ∧ js2.length = km ∧ km ≤ 200 ∧ Row w ma js2 ∧ St w [(B2, [.int .i64 c.p, .slice c.wa c.wl c.wc], 31), (B1, p.six, 28)] [] [] W) ?_ ?_
  ·clear hS
   rintro _ W ⟨km, js2, rfl, hmm2, hk3, hrm2, hS⟩
   refine seqF ?_
   rcases parts_cases is2 js2 hp hcf with hne | ⟨S, px, n, e0, hrd, he0, hR, hRR⟩ | ⟨S, px, q, us, x, n, e0, hrd, he0, hna, hnb, hus, hst, hR, hR2, hRR⟩ | ⟨S, px, q, us, x, q2, us2, z, hrd, hus, hst, hR, hR2, hox, hoz, hRR⟩
   ·skip
    refine regY (al := [⟨13, 31, [.int .i64 0, .slice none 0 0], 15⟩, ⟨14, 47, [.bool false, .int .i64 0, .int .u64 0, .slice none 0 0, .slice none 0 0, .slice none 0 0], 16⟩]) (G := GCh ([]) 3 1 [(6, 0 + kl + km, [] ++ is2.map (Value.int .i64) ++ js2.map (Value.int .i64)), (4, 0 + kl, [] ++ is2.map (Value.int .i64)), (2, 0, [])]) (E := [2, 4, 6, 13, 14, 15, 16]) (k := 18) (ds := [12]) followsM rfl hS rfl rfl (by kernel_rfl) (by kernel_rfl) rfl (by decide) rfl ?_
    refine bly_cons 1 rfl (isV _) (syV fst_take [(4, _)] rfl rfl (fun _ => (w_free rfl)) (fun _ => ⟨g_fr (by kernel_rfl) rfl, trivial⟩) (fun s w hw => rn_loadA (vs := [_, _, _, _, _, _]) Tryd.isAgg28 Tryd.sizeOf28 rfl ((CellsAt.own (j := 0) (m := 6) (hw.at_ 1 rfl) rfl))) (at_top rfl)) ?_
    refine bly_cons 2 rfl (isV _) (syV fst_take [(5, _)] rfl rfl (fun _ => (w_free rfl)) (fun _ => ⟨g_fr (by kernel_rfl) rfl, trivial⟩) (fun s w hw => rn_loadA (vs := [_, _]) Tryd.isAgg31 Tryd.sizeOf31 rfl ((CellsAt.own (j := 0) (m := 2) (hw.at_ 0 rfl) rfl))) (at_top rfl)) ?_
    refine bly_cons 3 rfl (anyA) (sy_slice0 rfl rfl Tryd.underlying29 Tryd.sizeOf3 rfl rfl (fun s v hk => by rw [GCh_no ((upd_ne _ _ (by decide)).trans (hk.no 6 (by kernel_rfl))), GCh_no ((upd_ne _ _ (by decide)).trans (hk.no 4 (by kernel_rfl))), GCh_at (upd_at _ _ _), GCh_no (hk.no 6 (by kernel_rfl)), GCh_no (hk.no 4 (by kernel_rfl)), GCh_no hk.self]; rfl) (at_top rfl)) ?_
    refine bly_cons 4 rfl (isV _) (syV fst_take [(2, _)] rfl rfl (fun _ => (w_free rfl)) (fun _ => ⟨g_fr (by kernel_rfl) rfl, trivial⟩) (fun s w hw => rn_move rfl) (at_top rfl)) ?_
    refine bly_cons 5 rfl (anyA) (sy_app (tx := 38) (j0 := 2) (gi := 0) (news := is2.map (Value.int .i64)) fst_take [(39, _)] rfl rfl Tryd.underlying29 inf_3 rfl rfl (by show 0 < 1; decide) rfl rfl (by kernel_rfl) (fun _ => ⟨g_dep 3 (by kernel_rfl) (at_n rfl rfl (at_dep rfl rfl rfl)), trivial⟩) rfl rfl rfl (fun s v0 hk h0 => ⟨by rw [GCh_no (hk.no 6 (by kernel_rfl)), GCh_no hk.self, GCh_at h0]; rfl, fun v => by rw [GCh_no ((upd_ne _ _ (by decide)).trans (hk.no 6 (by kernel_rfl))), GCh_at (upd_at _ _ _), GCh_no (hk.no 6 (by kernel_rfl)), GCh_no hk.self, GCh_at h0]; rfl⟩) (fun s w hw => Row.app (hrl2.below hw.below) hll2) (by show (is2.map (Value.int .i64)).length = kl * 1; simpa using hll2) (ints_one is2) (by simp only [maxLen]; omega) (by show (0 + kl) * 8 ≤ _; omega) (at_top rfl)) ?_
    refine bly_cons 6 rfl (isV _) (syV fst_take [(3, _)] rfl rfl (fun _ => (w_free rfl)) (fun _ => ⟨g_fr (by kernel_rfl) rfl, trivial⟩) (fun s w hw => rn_move rfl) (at_top rfl)) ?_
    refine bly_cons 7 rfl (anyA) (sy_app (tx := 40) (j0 := 4) (gi := 0) (news := js2.map (Value.int .i64)) fst_take [(41, _)] rfl rfl Tryd.underlying29 inf_3 rfl rfl (by show 0 < 1; decide) rfl rfl (by kernel_rfl) (fun _ => ⟨g_dep 5 (by kernel_rfl) (at_n rfl rfl (at_dep rfl rfl rfl)), trivial⟩) rfl rfl rfl (fun s v0 hk h0 => ⟨by rw [GCh_no hk.self, GCh_at h0]; rfl, fun v => by rw [GCh_at (upd_at _ _ _), GCh_no hk.self, GCh_at h0]; rfl⟩) (fun s w hw => Row.app (hrm2.below hw.below) hmm2) (by show (js2.map (Value.int .i64)).length = km * 1; simpa using hmm2) (ints_one js2) (by simp only [maxLen]; omega) (by show (0 + kl + km) * 8 ≤ _; omega) (at_top rfl)) ?_
    refine bly_cons 8 rfl (isV (.tuple #[.agg #[.int .i64 0, .slice none 0 0], .agg #[.bool false, .int .i64 0, .int .u64 0, .slice none 0 0, .slice none 0 0, .slice none 0 0], .int .i64 (0), .int .i64 (stepE p c)])) (sy_call fst_take (fun s => [isV _, isV _, isE s 6]) rfl rfl goes_11 (fun _ => w_free rfl) (fun s => ⟨p_tmp (g_dep 0 (by kernel_rfl) (at_n rfl rfl (at_dep rfl rfl rfl))), p_tmp (g_dep 1 (by kernel_rfl) (at_n rfl rfl (at_dep rfl rfl rfl))), p_tmp (g_dep 6 (by kernel_rfl) (at_e rfl rfl)), trivial⟩) (fun vs s w' hk hw hlo hh => by
      obtain ⟨v9, rfl, hv9⟩ := holds_vvE hh
      have hrow9 := hw.row 0 (congrArg (fun z => z[0]?) (GCh_at hv9))
      obtain ⟨a9, c9, rfl, hr9, hl9⟩ := cat_row hrow9 hll2 hmm2
      exact run_gN (runA_bad ds d p c _ _ _ _ (hp.below hw.below) (hcf.below hw.below) hne)) (at_top rfl)) ?_
    refine bly_cons 9 rfl (isV _) (syV fst_take [(43, _)] rfl rfl (fun _ => (w_free rfl)) (fun _ => ⟨g_dep 7 (by kernel_rfl) (at_n rfl rfl (at_dep rfl rfl rfl)), trivial⟩) (fun s w hw => rn_move rfl) (at_top rfl)) ?_
    refine bly_cons 10 rfl (isV _) (syV fst_take [(35, _)] rfl rfl (fun _ => (w_free rfl)) (fun _ => ⟨g_dep 8 (by kernel_rfl) (at_n rfl rfl (at_dep rfl rfl rfl)), trivial⟩) (fun s w hw => rn_extract rfl rfl) (at_top rfl)) ?_
    refine bly_cons 11 rfl (isV _) (syV fst_take [(35, _)] rfl rfl (fun _ => (w_free rfl)) (fun _ => ⟨g_dep 8 (by kernel_rfl) (at_n rfl rfl (at_dep rfl rfl rfl)), trivial⟩) (fun s w hw => rn_extract rfl rfl) (at_top rfl)) ?_
    refine bly_cons 12 rfl (isV _) (syV fst_take [(35, _)] rfl rfl (fun _ => (w_free rfl)) (fun _ => ⟨g_dep 8 (by kernel_rfl) (at_n rfl rfl (at_dep rfl rfl rfl)), trivial⟩) (fun s w hw => rn_extract rfl rfl) (at_top rfl)) ?_
    refine bly_cons 13 rfl (isV _) (syV fst_take [(35, _)] rfl rfl (fun _ => (w_free rfl)) (fun _ => ⟨g_dep 8 (by kernel_rfl) (at_n rfl rfl (at_dep rfl rfl rfl)), trivial⟩) (fun s w hw => rn_extract rfl rfl) (at_top rfl)) ?_
    refine bly_cons 14 rfl (isPtr W.heap.size) (sy_alloc ⟨13, 31, [.int .i64 0, .slice none 0 0], 15⟩ rfl rfl Tryd.zeroValue31 List.mem_cons_self rfl rfl rfl (.inl (by kernel_rfl)) (by decide) rfl (fun _ _ => rfl) (at_top rfl)) ?_
    refine bly_cons 15 rfl (isPtr W.heap.size) (sy_alloc ⟨14, 47, [.bool false, .int .i64 0, .int .u64 0, .slice none 0 0, .slice none 0 0, .slice none 0 0], 16⟩ rfl rfl Tryd.zeroValue47 (List.mem_cons_of_mem _ List.mem_cons_self) rfl rfl rfl (.inl (by kernel_rfl)) (by decide) rfl (fun _ _ => rfl) (at_top rfl)) ?_
    refine bly_cons 16 rfl (isV _) (sy_store (jy := 9) (m := 2) ⟨13, 31, [.int .i64 0, .slice none 0 0], 15⟩ rfl rfl List.mem_cons_self rfl rfl (by kernel_rfl) (at_dep rfl rfl rfl) (by kernel_rfl) (at_dep rfl rfl rfl) (at_top rfl) Tryd.sizeOf31 rfl (fun v w h => by subst h; exact ⟨_, rfl, rfl, rfl⟩) (by decide) rfl (fun _ _ => rfl)) ?_
    refine bly_cons 17 rfl (isV _) (sy_store (jy := 10) (m := 6) ⟨14, 47, [.bool false, .int .i64 0, .int .u64 0, .slice none 0 0, .slice none 0 0, .slice none 0 0], 16⟩ rfl rfl (List.mem_cons_of_mem _ List.mem_cons_self) rfl rfl (by kernel_rfl) (at_dep rfl rfl rfl) (by kernel_rfl) (at_dep rfl rfl rfl) (at_top rfl) Tryd.sizeOf47 rfl (fun v w h => by subst h; exact ⟨_, rfl, rfl, rfl⟩) (by decide) rfl (fun _ _ => rfl)) ?_
    refine bly_cons 18 rfl (isV _) (syV fst_take [(46, _)] rfl rfl (fun _ => (w_free rfl)) (fun _ => ⟨g_dep 11 (by kernel_rfl) (at_n rfl rfl (at_dep rfl rfl rfl)), trivial⟩) (fun s w hw => rn_assign rfl) (at_top rfl)) ?_
    refine bly_nil ?_
    intro s4 W4 Ks4 hall4 hsz4 hKs4 hS' hcov4 hfx4
    obtain ⟨v4_2, h4_2⟩ := hall4 2 rfl
    obtain ⟨v4_4, h4_4⟩ := hall4 4 rfl
    obtain ⟨v4_6, h4_6⟩ := hall4 6 rfl
    obtain ⟨v4_13, h4_13⟩ := hall4 13 rfl
    obtain ⟨v4_14, h4_14⟩ := hall4 14 rfl
    obtain ⟨v4_15, h4_15⟩ := hall4 15 rfl
    obtain ⟨v4_16, h4_16⟩ := hall4 16 rfl
    have f4_13 : AwS _ _ (isPtr W.heap.size) _ _ := hfx4 13 rfl _ h4_13
    obtain ⟨B4_13, rfl, hB4_13⟩ := f4_13.here
    have f4_14 : AwS _ _ (isPtr W.heap.size) _ _ := hfx4 14 rfl _ h4_14
    obtain ⟨B4_14, rfl, hB4_14⟩ := f4_14.here
    have f4_15 : AwS _ _ (isV _) _ _ := hfx4 15 rfl _ h4_15
    obtain rfl := f4_15.here
    have f4_16 : AwS _ _ (isV _) _ _ := hfx4 16 rfl _ h4_16
    obtain rfl := f4_16.here
    clear hS; have hS := hS'.castO (O' := [(B4_13, _, 31), (B4_14, _, 47), _, _]) (by simp only [OY, AS_cons, AB.cs, h4_13, h4_14, h4_15, h4_16]; rfl); clear hS'
    have hS := hS.castG (GCh_at h4_6)
    refine castL (L' := [AwS _ _ (isV _), AwS _ _ (isV _), isE s4 2, AwS _ _ (isV _), isE s4 4, AwS _ _ (isV _), isE s4 6, AwS _ _ (isV (.tuple #[.agg #[.int .i64 0, .slice none 0 0], .agg #[.bool false, .int .i64 0, .int .u64 0, .slice none 0 0, .slice none 0 0, .slice none 0 0], .int .i64 (0), .int .i64 (stepE p c)])), AwS _ _ (isV _), AwS _ _ (isV _), AwS _ _ (isV _), AwS _ _ (isV _), AwS _ _ (isV _), isE s4 13, isE s4 14, isE s4 15, isE s4 16, AwS _ _ (isV _)]) rfl ?_
    refine fin_sV ?_
    refine fin_sV ?_
    refine fin_p ?_; intro u hu; obtain rfl := Option.some.inj (h4_2.symm.trans hu); clear hu
    refine fin_sV ?_
    refine fin_p ?_; intro u hu; obtain rfl := Option.some.inj (h4_4.symm.trans hu); clear hu
    refine fin_sV ?_
    refine fin_p ?_; intro u hu; obtain rfl := Option.some.inj (h4_6.symm.trans hu); clear hu
    refine fin_sV ?_
    refine fin_sV ?_
    refine fin_sV ?_
    refine fin_sV ?_
    refine fin_sV ?_
    refine fin_sV ?_
    refine fin_p ?_; intro u hu; obtain rfl := Option.some.inj (h4_13.symm.trans hu); clear hu
    refine fin_p ?_; intro u hu; obtain rfl := Option.some.inj (h4_14.symm.trans hu); clear hu
    refine fin_0 ?_
    refine fin_0 ?_
    refine fin_sV ?_
    refine fin_nil ?_
    refine op_assign rfl rfl ?_
    refine endF (XF.thenN ?_)
    refine seqF (regF ?_)
    refine op_loadA (vs := [_, _, _, _, _, _]) Tryd.isAgg28 Tryd.sizeOf28 rfl (CellsAt.own (j := 0) (m := 6) (hS.at_ 3 rfl) rfl) rfl ?_
    refine op_loadA (vs := [_, _]) Tryd.isAgg31 Tryd.sizeOf31 rfl (CellsAt.own (j := 0) (m := 2) (hS.at_ 2 rfl) rfl) rfl ?_
    refine op_move rfl rfl ?_
    refine op_call (vs := [_, _, _]) hS goes_11 rfl (runA_bad ds d p c _ _ _ _ (hp.below hS.below) (hcf.below hS.below) hne) rfl ?_
    rintro e W5 ⟨rfl, hb⟩
    refine ⟨_, rfl, hb, fun hS' => ?_⟩
    clear hS; have hS := hS'; clear hS' hb
    refine op_move rfl rfl ?_
    refine op_extract rfl rfl rfl ?_
    refine op_extract rfl rfl rfl ?_
    refine op_extract rfl rfl rfl ?_
    refine op_extract rfl rfl rfl ?_
    refine op_alloc (cs := [_, _]) hS Tryd.zeroValue31 rfl rfl ?_
    clear hS; intro B6 W6 hS
    refine op_alloc (cs := [_, _, _, _, _, _]) hS Tryd.zeroValue47 rfl rfl ?_
    clear hS; intro B7 W7 hS
    refine op_storeA (i := 1) (vs := [_, _]) (cs' := [_, _]) (O' := [_, _, _, _, _, _]) hS Tryd.sizeOf31 rfl rfl rfl rfl rfl rfl rfl ?_
    clear hS; intro W8 hS
    refine op_storeA (i := 0) (vs := [_, _, _, _, _, _]) (cs' := [_, _, _, _, _, _]) (O' := [_, _, _, _, _, _]) hS Tryd.sizeOf47 rfl rfl rfl rfl rfl rfl rfl ?_
    clear hS; intro W9 hS
    refine op_assign rfl rfl ?_
    refine op_assign rfl rfl ?_
    refine endF (XF.thenN ?_)
    refine seqF ?_
    refine seqF (regF ?_)
    refine op_move rfl rfl ?_
    refine op_neq rfl rfl rfl ?_
    refine endF (XF.thenN ?_)
    refine condF rfl (fun hc => ?_) (fun hc => absurd (of_decide_eq_false hc) (by exact fun h => h hne))
    have hc := of_decide_eq_true hc
    refine seqF (regF ?_)
    refine op_move rfl rfl ?_
    refine op_move rfl rfl ?_
    refine op_eql rfl rfl rfl ?_
    refine op_move rfl rfl ?_
    refine op_cases (d := 62) rfl (fun hc => ?_) (fun hc => absurd (of_decide_eq_false hc) (by exact fun h => h rfl))
    have hc := of_decide_eq_true hc
    refine op_wantedF (d := 62) rfl rfl ?_
    refine op_move rfl rfl ?_
    refine op_wantedF (d := 62) rfl rfl ?_
    refine op_move rfl rfl ?_
    refine op_wantedF (d := 62) rfl rfl ?_
    refine op_eql rfl rfl rfl ?_
    refine op_pickT rfl rfl rfl ?_
    refine op_assign rfl rfl ?_
    refine endF (XF.thenN ?_)
    refine retF ?_
    refine XF.thenR ?_
    refine XF.res (res1 Tryd.results4 rfl) ?_
    exact ⟨rbool (by simp), hS.below⟩
   ·skip
    refine regY (al := [⟨13, 31, [.int .i64 0, .slice none 0 0], 15⟩, ⟨14, 47, [.bool false, .int .i64 0, .int .u64 0, .slice none 0 0, .slice none 0 0, .slice none 0 0], 16⟩]) (G := GCh ([]) 3 1 [(6, 0 + kl + km, [] ++ is2.map (Value.int .i64) ++ js2.map (Value.int .i64)), (4, 0 + kl, [] ++ is2.map (Value.int .i64)), (2, 0, [])]) (E := [2, 4, 6, 13, 14, 15, 16]) (k := 18) (ds := [12]) followsM rfl hS rfl rfl (by kernel_rfl) (by kernel_rfl) rfl (by decide) rfl ?_
    refine bly_cons 1 rfl (isV _) (syV fst_take [(4, _)] rfl rfl (fun _ => (w_free rfl)) (fun _ => ⟨g_fr (by kernel_rfl) rfl, trivial⟩) (fun s w hw => rn_loadA (vs := [_, _, _, _, _, _]) Tryd.isAgg28 Tryd.sizeOf28 rfl ((CellsAt.own (j := 0) (m := 6) (hw.at_ 1 rfl) rfl))) (at_top rfl)) ?_
    refine bly_cons 2 rfl (isV _) (syV fst_take [(5, _)] rfl rfl (fun _ => (w_free rfl)) (fun _ => ⟨g_fr (by kernel_rfl) rfl, trivial⟩) (fun s w hw => rn_loadA (vs := [_, _]) Tryd.isAgg31 Tryd.sizeOf31 rfl ((CellsAt.own (j := 0) (m := 2) (hw.at_ 0 rfl) rfl))) (at_top rfl)) ?_
    refine bly_cons 3 rfl (anyA) (sy_slice0 rfl rfl Tryd.underlying29 Tryd.sizeOf3 rfl rfl (fun s v hk => by rw [GCh_no ((upd_ne _ _ (by decide)).trans (hk.no 6 (by kernel_rfl))), GCh_no ((upd_ne _ _ (by decide)).trans (hk.no 4 (by kernel_rfl))), GCh_at (upd_at _ _ _), GCh_no (hk.no 6 (by kernel_rfl)), GCh_no (hk.no 4 (by kernel_rfl)), GCh_no hk.self]; rfl) (at_top rfl)) ?_
    refine bly_cons 4 rfl (isV _) (syV fst_take [(2, _)] rfl rfl (fun _ => (w_free rfl)) (fun _ => ⟨g_fr (by kernel_rfl) rfl, trivial⟩) (fun s w hw => rn_move rfl) (at_top rfl)) ?_
    refine bly_cons 5 rfl (anyA) (sy_app (tx := 38) (j0 := 2) (gi := 0) (news := is2.map (Value.int .i64)) fst_take [(39, _)] rfl rfl Tryd.underlying29 inf_3 rfl rfl (by show 0 < 1; decide) rfl rfl (by kernel_rfl) (fun _ => ⟨g_dep 3 (by kernel_rfl) (at_n rfl rfl (at_dep rfl rfl rfl)), trivial⟩) rfl rfl rfl (fun s v0 hk h0 => ⟨by rw [GCh_no (hk.no 6 (by kernel_rfl)), GCh_no hk.self, GCh_at h0]; rfl, fun v => by rw [GCh_no ((upd_ne _ _ (by decide)).trans (hk.no 6 (by kernel_rfl))), GCh_at (upd_at _ _ _), GCh_no (hk.no 6 (by kernel_rfl)), GCh_no hk.self, GCh_at h0]; rfl⟩) (fun s w hw => Row.app (hrl2.below hw.below) hll2) (by show (is2.map (Value.int .i64)).length = kl * 1; simpa using hll2) (ints_one is2) (by simp only [maxLen]; omega) (by show (0 + kl) * 8 ≤ _; omega) (at_top rfl)) ?_
    refine bly_cons 6 rfl (isV _) (syV fst_take [(3, _)] rfl rfl (fun _ => (w_free rfl)) (fun _ => ⟨g_fr (by kernel_rfl) rfl, trivial⟩) (fun s w hw => rn_move rfl) (at_top rfl)) ?_
    refine bly_cons 7 rfl (anyA) (sy_app (tx := 40) (j0 := 4) (gi := 0) (news := js2.map (Value.int .i64)) fst_take [(41, _)] rfl rfl Tryd.underlying29 inf_3 rfl rfl (by show 0 < 1; decide) rfl rfl (by kernel_rfl) (fun _ => ⟨g_dep 5 (by kernel_rfl) (at_n rfl rfl (at_dep rfl rfl rfl)), trivial⟩) rfl rfl rfl (fun s v0 hk h0 => ⟨by rw [GCh_no hk.self, GCh_at h0]; rfl, fun v => by rw [GCh_at (upd_at _ _ _), GCh_no hk.self, GCh_at h0]; rfl⟩) (fun s w hw => Row.app (hrm2.below hw.below) hmm2) (by show (js2.map (Value.int .i64)).length = km * 1; simpa using hmm2) (ints_one js2) (by simp only [maxLen]; omega) (by show (0 + kl + km) * 8 ≤ _; omega) (at_top rfl)) ?_
    refine bly_cons 8 rfl (isV (.tuple #[.agg #[.int .i64 0, .slice none 0 0], .agg #[.bool false, .int .i64 0, .int .u64 0, .slice none 0 0, .slice none 0 0, .slice none 0 0], .int .i64 (n), .int .i64 (e0)])) (sy_call fst_take (fun s => [isV _, isV _, isE s 6]) rfl rfl goes_11 (fun _ => w_free rfl) (fun s => ⟨p_tmp (g_dep 0 (by kernel_rfl) (at_n rfl rfl (at_dep rfl rfl rfl))), p_tmp (g_dep 1 (by kernel_rfl) (at_n rfl rfl (at_dep rfl rfl rfl))), p_tmp (g_dep 6 (by kernel_rfl) (at_e rfl rfl)), trivial⟩) (fun vs s w' hk hw hlo hh => by
      obtain ⟨v9, rfl, hv9⟩ := holds_vvE hh
      have hrow9 := hw.row 0 (congrArg (fun z => z[0]?) (GCh_at hv9))
      obtain ⟨a9, c9, rfl, hr9, hl9⟩ := cat_row hrow9 hll2 hmm2
      exact run_gN0 (runA_is (hp.below hw.below) (hcf.below hw.below) hcc hr9 hl9 (by omega) (hrd.below hw.below) (ht.below hw.below) hRR)) (at_top rfl)) ?_
    refine bly_cons 9 rfl (isV _) (syV fst_take [(43, _)] rfl rfl (fun _ => (w_free rfl)) (fun _ => ⟨g_dep 7 (by kernel_rfl) (at_n rfl rfl (at_dep rfl rfl rfl)), trivial⟩) (fun s w hw => rn_move rfl) (at_top rfl)) ?_
    refine bly_cons 10 rfl (isV _) (syV fst_take [(35, _)] rfl rfl (fun _ => (w_free rfl)) (fun _ => ⟨g_dep 8 (by kernel_rfl) (at_n rfl rfl (at_dep rfl rfl rfl)), trivial⟩) (fun s w hw => rn_extract rfl rfl) (at_top rfl)) ?_
    refine bly_cons 11 rfl (isV _) (syV fst_take [(35, _)] rfl rfl (fun _ => (w_free rfl)) (fun _ => ⟨g_dep 8 (by kernel_rfl) (at_n rfl rfl (at_dep rfl rfl rfl)), trivial⟩) (fun s w hw => rn_extract rfl rfl) (at_top rfl)) ?_
    refine bly_cons 12 rfl (isV _) (syV fst_take [(35, _)] rfl rfl (fun _ => (w_free rfl)) (fun _ => ⟨g_dep 8 (by kernel_rfl) (at_n rfl rfl (at_dep rfl rfl rfl)), trivial⟩) (fun s w hw => rn_extract rfl rfl) (at_top rfl)) ?_
    refine bly_cons 13 rfl (isV _) (syV fst_take [(35, _)] rfl rfl (fun _ => (w_free rfl)) (fun _ => ⟨g_dep 8 (by kernel_rfl) (at_n rfl rfl (at_dep rfl rfl rfl)), trivial⟩) (fun s w hw => rn_extract rfl rfl) (at_top rfl)) ?_
    refine bly_cons 14 rfl (isPtr W.heap.size) (sy_alloc ⟨13, 31, [.int .i64 0, .slice none 0 0], 15⟩ rfl rfl Tryd.zeroValue31 List.mem_cons_self rfl rfl rfl (.inl (by kernel_rfl)) (by decide) rfl (fun _ _ => rfl) (at_top rfl)) ?_
    refine bly_cons 15 rfl (isPtr W.heap.size) (sy_alloc ⟨14, 47, [.bool false, .int .i64 0, .int .u64 0, .slice none 0 0, .slice none 0 0, .slice none 0 0], 16⟩ rfl rfl Tryd.zeroValue47 (List.mem_cons_of_mem _ List.mem_cons_self) rfl rfl rfl (.inl (by kernel_rfl)) (by decide) rfl (fun _ _ => rfl) (at_top rfl)) ?_
    refine bly_cons 16 rfl (isV _) (sy_store (jy := 9) (m := 2) ⟨13, 31, [.int .i64 0, .slice none 0 0], 15⟩ rfl rfl List.mem_cons_self rfl rfl (by kernel_rfl) (at_dep rfl rfl rfl) (by kernel_rfl) (at_dep rfl rfl rfl) (at_top rfl) Tryd.sizeOf31 rfl (fun v w h => by subst h; exact ⟨_, rfl, rfl, rfl⟩) (by decide) rfl (fun _ _ => rfl)) ?_
    refine bly_cons 17 rfl (isV _) (sy_store (jy := 10) (m := 6) ⟨14, 47, [.bool false, .int .i64 0, .int .u64 0, .slice none 0 0, .slice none 0 0, .slice none 0 0], 16⟩ rfl rfl (List.mem_cons_of_mem _ List.mem_cons_self) rfl rfl (by kernel_rfl) (at_dep rfl rfl rfl) (by kernel_rfl) (at_dep rfl rfl rfl) (at_top rfl) Tryd.sizeOf47 rfl (fun v w h => by subst h; exact ⟨_, rfl, rfl, rfl⟩) (by decide) rfl (fun _ _ => rfl)) ?_
    refine bly_cons 18 rfl (isV _) (syV fst_take [(46, _)] rfl rfl (fun _ => (w_free rfl)) (fun _ => ⟨g_dep 11 (by kernel_rfl) (at_n rfl rfl (at_dep rfl rfl rfl)), trivial⟩) (fun s w hw => rn_assign rfl) (at_top rfl)) ?_
    refine bly_nil ?_
    intro s10 W10 Ks10 hall10 hsz10 hKs10 hS' hcov10 hfx10
    obtain ⟨v10_2, h10_2⟩ := hall10 2 rfl
    obtain ⟨v10_4, h10_4⟩ := hall10 4 rfl
    obtain ⟨v10_6, h10_6⟩ := hall10 6 rfl
    obtain ⟨v10_13, h10_13⟩ := hall10 13 rfl
    obtain ⟨v10_14, h10_14⟩ := hall10 14 rfl
    obtain ⟨v10_15, h10_15⟩ := hall10 15 rfl
    obtain ⟨v10_16, h10_16⟩ := hall10 16 rfl
    have f10_13 : AwS _ _ (isPtr W.heap.size) _ _ := hfx10 13 rfl _ h10_13
    obtain ⟨B10_13, rfl, hB10_13⟩ := f10_13.here
    have f10_14 : AwS _ _ (isPtr W.heap.size) _ _ := hfx10 14 rfl _ h10_14
    obtain ⟨B10_14, rfl, hB10_14⟩ := f10_14.here
    have f10_15 : AwS _ _ (isV _) _ _ := hfx10 15 rfl _ h10_15
    obtain rfl := f10_15.here
    have f10_16 : AwS _ _ (isV _) _ _ := hfx10 16 rfl _ h10_16
    obtain rfl := f10_16.here
    clear hS; have hS := hS'.castO (O' := [(B10_13, _, 31), (B10_14, _, 47), _, _]) (by simp only [OY, AS_cons, AB.cs, h10_13, h10_14, h10_15, h10_16]; rfl); clear hS'
    have hS := hS.castG (GCh_at h10_6)
    refine castL (L' := [AwS _ _ (isV _), AwS _ _ (isV _), isE s10 2, AwS _ _ (isV _), isE s10 4, AwS _ _ (isV _), isE s10 6, AwS _ _ (isV (.tuple #[.agg #[.int .i64 0, .slice none 0 0], .agg #[.bool false, .int .i64 0, .int .u64 0, .slice none 0 0, .slice none 0 0, .slice none 0 0], .int .i64 (n), .int .i64 (e0)])), AwS _ _ (isV _), AwS _ _ (isV _), AwS _ _ (isV _), AwS _ _ (isV _), AwS _ _ (isV _), isE s10 13, isE s10 14, isE s10 15, isE s10 16, AwS _ _ (isV _)]) rfl ?_
    refine fin_sV ?_
    refine fin_sV ?_
    refine fin_p ?_; intro u hu; obtain rfl := Option.some.inj (h10_2.symm.trans hu); clear hu
    refine fin_sV ?_
    refine fin_p ?_; intro u hu; obtain rfl := Option.some.inj (h10_4.symm.trans hu); clear hu
    refine fin_sV ?_
    refine fin_p ?_; intro u hu; obtain rfl := Option.some.inj (h10_6.symm.trans hu); clear hu
    refine fin_sV ?_
    refine fin_sV ?_
    refine fin_sV ?_
    refine fin_sV ?_
    refine fin_sV ?_
    refine fin_sV ?_
    refine fin_p ?_; intro u hu; obtain rfl := Option.some.inj (h10_13.symm.trans hu); clear hu
    refine fin_p ?_; intro u hu; obtain rfl := Option.some.inj (h10_14.symm.trans hu); clear hu
    refine fin_0 ?_
    refine fin_0 ?_
    refine fin_sV ?_
    refine fin_nil ?_
    refine op_assign rfl rfl ?_
    refine endF (XF.thenN ?_)
    refine seqF (regF ?_)
    refine op_loadA (vs := [_, _, _, _, _, _]) Tryd.isAgg28 Tryd.sizeOf28 rfl (CellsAt.own (j := 0) (m := 6) (hS.at_ 3 rfl) rfl) rfl ?_
    refine op_loadA (vs := [_, _]) Tryd.isAgg31 Tryd.sizeOf31 rfl (CellsAt.own (j := 0) (m := 2) (hS.at_ 2 rfl) rfl) rfl ?_
    refine op_move rfl rfl ?_
    refine op_call (vs := [_, _, _]) hS goes_11 rfl (runA_is (hp.below hS.below) (hcf.below hS.below) hcc (hrl2.below hS.below) hll2 (by omega) (hrd.below hS.below) (ht.below hS.below) hR) rfl ?_
    rintro e W11 ⟨hb, rfl⟩
    refine ⟨_, rfl, hb, fun hS' => ?_⟩
    clear hS; have hS := hS'; clear hS' hb
    refine op_move rfl rfl ?_
    refine op_extract rfl rfl rfl ?_
    refine op_extract rfl rfl rfl ?_
    refine op_extract rfl rfl rfl ?_
    refine op_extract rfl rfl rfl ?_
    refine op_alloc (cs := [_, _]) hS Tryd.zeroValue31 rfl rfl ?_
    clear hS; intro B12 W12 hS
    refine op_alloc (cs := [_, _, _, _, _, _]) hS Tryd.zeroValue47 rfl rfl ?_
    clear hS; intro B13 W13 hS
    refine op_storeA (i := 1) (vs := [_, _]) (cs' := [_, _]) (O' := [_, _, _, _, _, _]) hS Tryd.sizeOf31 rfl rfl rfl rfl rfl rfl rfl ?_
    clear hS; intro W14 hS
    refine op_storeA (i := 0) (vs := [_, _, _, _, _, _]) (cs' := [_, _, _, _, _, _]) (O' := [_, _, _, _, _, _]) hS Tryd.sizeOf47 rfl rfl rfl rfl rfl rfl rfl ?_
    clear hS; intro W15 hS
    refine op_assign rfl rfl ?_
    refine op_assign rfl rfl ?_
    refine endF (XF.thenN ?_)
    refine seqF ?_
    refine seqF (regF ?_)
    refine op_move rfl rfl ?_
    refine op_neq rfl rfl rfl ?_
    refine endF (XF.thenN ?_)
    refine condF rfl (fun hc => ?_) (fun hc => absurd (of_decide_eq_false hc) (by exact fun h => h he0))
    have hc := of_decide_eq_true hc
    refine seqF (regF ?_)
    refine op_move rfl rfl ?_
    refine op_move rfl rfl ?_
    refine op_eql rfl rfl rfl ?_
    refine op_move rfl rfl ?_
    refine op_cases (d := 62) rfl (fun hc => ?_) (fun hc => absurd (of_decide_eq_false hc) (by exact fun h => h rfl))
    have hc := of_decide_eq_true hc
    refine op_wantedF (d := 62) rfl rfl ?_
    refine op_move rfl rfl ?_
    refine op_wantedF (d := 62) rfl rfl ?_
    refine op_move rfl rfl ?_
    refine op_wantedF (d := 62) rfl rfl ?_
    refine op_eql rfl rfl rfl ?_
    refine op_pickT rfl rfl rfl ?_
    refine op_assign rfl rfl ?_
    refine endF (XF.thenN ?_)
    refine retF ?_
    refine XF.thenR ?_
    refine XF.res (res1 Tryd.results4 rfl) ?_
    exact ⟨rbool (by simp), hS.below⟩
   ·skip
    refine regY (al := [⟨13, 31, [.int .i64 0, .slice none 0 0], 15⟩, ⟨14, 47, [.bool false, .int .i64 0, .int .u64 0, .slice none 0 0, .slice none 0 0, .slice none 0 0], 16⟩]) (G := GCh ([]) 3 1 [(6, 0 + kl + km, [] ++ is2.map (Value.int .i64) ++ js2.map (Value.int .i64)), (4, 0 + kl, [] ++ is2.map (Value.int .i64)), (2, 0, [])]) (E := [2, 4, 6, 13, 14, 15, 16]) (k := 18) (ds := [12]) followsM rfl hS rfl rfl (by kernel_rfl) (by kernel_rfl) rfl (by decide) rfl ?_
    refine bly_cons 1 rfl (isV _) (syV fst_take [(4, _)] rfl rfl (fun _ => (w_free rfl)) (fun _ => ⟨g_fr (by kernel_rfl) rfl, trivial⟩) (fun s w hw => rn_loadA (vs := [_, _, _, _, _, _]) Tryd.isAgg28 Tryd.sizeOf28 rfl ((CellsAt.own (j := 0) (m := 6) (hw.at_ 1 rfl) rfl))) (at_top rfl)) ?_
    refine bly_cons 2 rfl (isV _) (syV fst_take [(5, _)] rfl rfl (fun _ => (w_free rfl)) (fun _ => ⟨g_fr (by kernel_rfl) rfl, trivial⟩) (fun s w hw => rn_loadA (vs := [_, _]) Tryd.isAgg31 Tryd.sizeOf31 rfl ((CellsAt.own (j := 0) (m := 2) (hw.at_ 0 rfl) rfl))) (at_top rfl)) ?_
    refine bly_cons 3 rfl (anyA) (sy_slice0 rfl rfl Tryd.underlying29 Tryd.sizeOf3 rfl rfl (fun s v hk => by rw [GCh_no ((upd_ne _ _ (by decide)).trans (hk.no 6 (by kernel_rfl))), GCh_no ((upd_ne _ _ (by decide)).trans (hk.no 4 (by kernel_rfl))), GCh_at (upd_at _ _ _), GCh_no (hk.no 6 (by kernel_rfl)), GCh_no (hk.no 4 (by kernel_rfl)), GCh_no hk.self]; rfl) (at_top rfl)) ?_
    refine bly_cons 4 rfl (isV _) (syV fst_take [(2, _)] rfl rfl (fun _ => (w_free rfl)) (fun _ => ⟨g_fr (by kernel_rfl) rfl, trivial⟩) (fun s w hw => rn_move rfl) (at_top rfl)) ?_
    refine bly_cons 5 rfl (anyA) (sy_app (tx := 38) (j0 := 2) (gi := 0) (news := is2.map (Value.int .i64)) fst_take [(39, _)] rfl rfl Tryd.underlying29 inf_3 rfl rfl (by show 0 < 1; decide) rfl rfl (by kernel_rfl) (fun _ => ⟨g_dep 3 (by kernel_rfl) (at_n rfl rfl (at_dep rfl rfl rfl)), trivial⟩) rfl rfl rfl (fun s v0 hk h0 => ⟨by rw [GCh_no (hk.no 6 (by kernel_rfl)), GCh_no hk.self, GCh_at h0]; rfl, fun v => by rw [GCh_no ((upd_ne _ _ (by decide)).trans (hk.no 6 (by kernel_rfl))), GCh_at (upd_at _ _ _), GCh_no (hk.no 6 (by kernel_rfl)), GCh_no hk.self, GCh_at h0]; rfl⟩) (fun s w hw => Row.app (hrl2.below hw.below) hll2) (by show (is2.map (Value.int .i64)).length = kl * 1; simpa using hll2) (ints_one is2) (by simp only [maxLen]; omega) (by show (0 + kl) * 8 ≤ _; omega) (at_top rfl)) ?_
    refine bly_cons 6 rfl (isV _) (syV fst_take [(3, _)] rfl rfl (fun _ => (w_free rfl)) (fun _ => ⟨g_fr (by kernel_rfl) rfl, trivial⟩) (fun s w hw => rn_move rfl) (at_top rfl)) ?_
    refine bly_cons 7 rfl (anyA) (sy_app (tx := 40) (j0 := 4) (gi := 0) (news := js2.map (Value.int .i64)) fst_take [(41, _)] rfl rfl Tryd.underlying29 inf_3 rfl rfl (by show 0 < 1; decide) rfl rfl (by kernel_rfl) (fun _ => ⟨g_dep 5 (by kernel_rfl) (at_n rfl rfl (at_dep rfl rfl rfl)), trivial⟩) rfl rfl rfl (fun s v0 hk h0 => ⟨by rw [GCh_no hk.self, GCh_at h0]; rfl, fun v => by rw [GCh_at (upd_at _ _ _), GCh_no hk.self, GCh_at h0]; rfl⟩) (fun s w hw => Row.app (hrm2.below hw.below) hmm2) (by show (js2.map (Value.int .i64)).length = km * 1; simpa using hmm2) (ints_one js2) (by simp only [maxLen]; omega) (by show (0 + kl + km) * 8 ≤ _; omega) (at_top rfl)) ?_
    refine bly_cons 8 rfl (isV (.tuple #[.agg #[.int .i64 0, .slice none 0 0], .agg #[.bool false, .int .i64 0, .int .u64 0, .slice none 0 0, .slice none 0 0, .slice none 0 0], .int .i64 (n + (is2.length : Int)), .int .i64 (e0)])) (sy_call fst_take (fun s => [isV _, isV _, isE s 6]) rfl rfl goes_11 (fun _ => w_free rfl) (fun s => ⟨p_tmp (g_dep 0 (by kernel_rfl) (at_n rfl rfl (at_dep rfl rfl rfl))), p_tmp (g_dep 1 (by kernel_rfl) (at_n rfl rfl (at_dep rfl rfl rfl))), p_tmp (g_dep 6 (by kernel_rfl) (at_e rfl rfl)), trivial⟩) (fun vs s w' hk hw hlo hh => by
      obtain ⟨v9, rfl, hv9⟩ := holds_vvE hh
      have hrow9 := hw.row 0 (congrArg (fun z => z[0]?) (GCh_at hv9))
      obtain ⟨a9, c9, rfl, hr9, hl9⟩ := cat_row hrow9 hll2 hmm2
      exact run_gN0 (runA_is (hp.below hw.below) (hcf.below hw.below) hcc hr9 hl9 (by omega) (hrd.below hw.below) (ht.below hw.below) hRR)) (at_top rfl)) ?_
    refine bly_cons 9 rfl (isV _) (syV fst_take [(43, _)] rfl rfl (fun _ => (w_free rfl)) (fun _ => ⟨g_dep 7 (by kernel_rfl) (at_n rfl rfl (at_dep rfl rfl rfl)), trivial⟩) (fun s w hw => rn_move rfl) (at_top rfl)) ?_
    refine bly_cons 10 rfl (isV _) (syV fst_take [(35, _)] rfl rfl (fun _ => (w_free rfl)) (fun _ => ⟨g_dep 8 (by kernel_rfl) (at_n rfl rfl (at_dep rfl rfl rfl)), trivial⟩) (fun s w hw => rn_extract rfl rfl) (at_top rfl)) ?_
    refine bly_cons 11 rfl (isV _) (syV fst_take [(35, _)] rfl rfl (fun _ => (w_free rfl)) (fun _ => ⟨g_dep 8 (by kernel_rfl) (at_n rfl rfl (at_dep rfl rfl rfl)), trivial⟩) (fun s w hw => rn_extract rfl rfl) (at_top rfl)) ?_
    refine bly_cons 12 rfl (isV _) (syV fst_take [(35, _)] rfl rfl (fun _ => (w_free rfl)) (fun _ => ⟨g_dep 8 (by kernel_rfl) (at_n rfl rfl (at_dep rfl rfl rfl)), trivial⟩) (fun s w hw => rn_extract rfl rfl) (at_top rfl)) ?_
    refine bly_cons 13 rfl (isV _) (syV fst_take [(35, _)] rfl rfl (fun _ => (w_free rfl)) (fun _ => ⟨g_dep 8 (by kernel_rfl) (at_n rfl rfl (at_dep rfl rfl rfl)), trivial⟩) (fun s w hw => rn_extract rfl rfl) (at_top rfl)) ?_
    refine bly_cons 14 rfl (isPtr W.heap.size) (sy_alloc ⟨13, 31, [.int .i64 0, .slice none 0 0], 15⟩ rfl rfl Tryd.zeroValue31 List.mem_cons_self rfl rfl rfl (.inl (by kernel_rfl)) (by decide) rfl (fun _ _ => rfl) (at_top rfl)) ?_
    refine bly_cons 15 rfl (isPtr W.heap.size) (sy_alloc ⟨14, 47, [.bool false, .int .i64 0, .int .u64 0, .slice none 0 0, .slice none 0 0, .slice none 0 0], 16⟩ rfl rfl Tryd.zeroValue47 (List.mem_cons_of_mem _ List.mem_cons_self) rfl rfl rfl (.inl (by kernel_rfl)) (by decide) rfl (fun _ _ => rfl) (at_top rfl)) ?_
    refine bly_cons 16 rfl (isV _) (sy_store (jy := 9) (m := 2) ⟨13, 31, [.int .i64 0, .slice none 0 0], 15⟩ rfl rfl List.mem_cons_self rfl rfl (by kernel_rfl) (at_dep rfl rfl rfl) (by kernel_rfl) (at_dep rfl rfl rfl) (at_top rfl) Tryd.sizeOf31 rfl (fun v w h => by subst h; exact ⟨_, rfl, rfl, rfl⟩) (by decide) rfl (fun _ _ => rfl)) ?_
    refine bly_cons 17 rfl (isV _) (sy_store (jy := 10) (m := 6) ⟨14, 47, [.bool false, .int .i64 0, .int .u64 0, .slice none 0 0, .slice none 0 0, .slice none 0 0], 16⟩ rfl rfl (List.mem_cons_of_mem _ List.mem_cons_self) rfl rfl (by kernel_rfl) (at_dep rfl rfl rfl) (by kernel_rfl) (at_dep rfl rfl rfl) (at_top rfl) Tryd.sizeOf47 rfl (fun v w h => by subst h; exact ⟨_, rfl, rfl, rfl⟩) (by decide) rfl (fun _ _ => rfl)) ?_
    refine bly_cons 18 rfl (isV _) (syV fst_take [(46, _)] rfl rfl (fun _ => (w_free rfl)) (fun _ => ⟨g_dep 11 (by kernel_rfl) (at_n rfl rfl (at_dep rfl rfl rfl)), trivial⟩) (fun s w hw => rn_assign rfl) (at_top rfl)) ?_
    refine bly_nil ?_
    intro s16 W16 Ks16 hall16 hsz16 hKs16 hS' hcov16 hfx16
    obtain ⟨v16_2, h16_2⟩ := hall16 2 rfl
    obtain ⟨v16_4, h16_4⟩ := hall16 4 rfl
    obtain ⟨v16_6, h16_6⟩ := hall16 6 rfl
    obtain ⟨v16_13, h16_13⟩ := hall16 13 rfl
    obtain ⟨v16_14, h16_14⟩ := hall16 14 rfl
    obtain ⟨v16_15, h16_15⟩ := hall16 15 rfl
    obtain ⟨v16_16, h16_16⟩ := hall16 16 rfl
    have f16_13 : AwS _ _ (isPtr W.heap.size) _ _ := hfx16 13 rfl _ h16_13
    obtain ⟨B16_13, rfl, hB16_13⟩ := f16_13.here
    have f16_14 : AwS _ _ (isPtr W.heap.size) _ _ := hfx16 14 rfl _ h16_14
    obtain ⟨B16_14, rfl, hB16_14⟩ := f16_14.here
    have f16_15 : AwS _ _ (isV _) _ _ := hfx16 15 rfl _ h16_15
    obtain rfl := f16_15.here
    have f16_16 : AwS _ _ (isV _) _ _ := hfx16 16 rfl _ h16_16
    obtain rfl := f16_16.here
    clear hS; have hS := hS'.castO (O' := [(B16_13, _, 31), (B16_14, _, 47), _, _]) (by simp only [OY, AS_cons, AB.cs, h16_13, h16_14, h16_15, h16_16]; rfl); clear hS'
    have hS := hS.castG (GCh_at h16_6)
    refine castL (L' := [AwS _ _ (isV _), AwS _ _ (isV _), isE s16 2, AwS _ _ (isV _), isE s16 4, AwS _ _ (isV _), isE s16 6, AwS _ _ (isV (.tuple #[.agg #[.int .i64 0, .slice none 0 0], .agg #[.bool false, .int .i64 0, .int .u64 0, .slice none 0 0, .slice none 0 0, .slice none 0 0], .int .i64 (n + (is2.length : Int)), .int .i64 (e0)])), AwS _ _ (isV _), AwS _ _ (isV _), AwS _ _ (isV _), AwS _ _ (isV _), AwS _ _ (isV _), isE s16 13, isE s16 14, isE s16 15, isE s16 16, AwS _ _ (isV _)]) rfl ?_
    refine fin_sV ?_
    refine fin_sV ?_
    refine fin_p ?_; intro u hu; obtain rfl := Option.some.inj (h16_2.symm.trans hu); clear hu
    refine fin_sV ?_
    refine fin_p ?_; intro u hu; obtain rfl := Option.some.inj (h16_4.symm.trans hu); clear hu
    refine fin_sV ?_
    refine fin_p ?_; intro u hu; obtain rfl := Option.some.inj (h16_6.symm.trans hu); clear hu
    refine fin_sV ?_
    refine fin_sV ?_
    refine fin_sV ?_
    refine fin_sV ?_
    refine fin_sV ?_
    refine fin_sV ?_
    refine fin_p ?_; intro u hu; obtain rfl := Option.some.inj (h16_13.symm.trans hu); clear hu
    refine fin_p ?_; intro u hu; obtain rfl := Option.some.inj (h16_14.symm.trans hu); clear hu
    refine fin_0 ?_
    refine fin_0 ?_
    refine fin_sV ?_
    refine fin_nil ?_
    refine op_assign rfl rfl ?_
    refine endF (XF.thenN ?_)
    refine seqF (regF ?_)
    refine op_loadA (vs := [_, _, _, _, _, _]) Tryd.isAgg28 Tryd.sizeOf28 rfl (CellsAt.own (j := 0) (m := 6) (hS.at_ 3 rfl) rfl) rfl ?_
    refine op_loadA (vs := [_, _]) Tryd.isAgg31 Tryd.sizeOf31 rfl (CellsAt.own (j := 0) (m := 2) (hS.at_ 2 rfl) rfl) rfl ?_
    refine op_move rfl rfl ?_
    refine op_call (vs := [_, _, _]) hS goes_11 rfl (runA_is (hp.below hS.below) (hcf.below hS.below) hcc (hrl2.below hS.below) hll2 (by omega) (hrd.below hS.below) (ht.below hS.below) hR) rfl ?_
    rintro e W17 ⟨hb, a1, c1, f1, rfl, hn1, hx1⟩
    refine ⟨_, rfl, hb, fun hS' => ?_⟩
    clear hS; have hS := hS'; clear hS' hb
    refine op_move rfl rfl ?_
    refine op_extract rfl rfl rfl ?_
    refine op_extract rfl rfl rfl ?_
    refine op_extract rfl rfl rfl ?_
    refine op_extract rfl rfl rfl ?_
    refine op_alloc (cs := [_, _]) hS Tryd.zeroValue31 rfl rfl ?_
    clear hS; intro B18 W18 hS
    refine op_alloc (cs := [_, _, _, _, _, _]) hS Tryd.zeroValue47 rfl rfl ?_
    clear hS; intro B19 W19 hS
    refine op_storeA (i := 1) (vs := [_, _]) (cs' := [_, _]) (O' := [_, _, _, _, _, _]) hS Tryd.sizeOf31 rfl rfl rfl rfl rfl rfl rfl ?_
    clear hS; intro W20 hS
    refine op_storeA (i := 0) (vs := [_, _, _, _, _, _]) (cs' := [_, _, _, _, _, _]) (O' := [_, _, _, _, _, _]) hS Tryd.sizeOf47 rfl rfl rfl rfl rfl rfl rfl ?_
    clear hS; intro W21 hS
    refine op_assign rfl rfl ?_
    refine op_assign rfl rfl ?_
    refine endF (XF.thenN ?_)
    refine seqF ?_
    refine seqF (regF ?_)
    refine op_move rfl rfl ?_
    refine op_neq rfl rfl rfl ?_
    refine endF (XF.thenN ?_)
    refine condF rfl (fun hc => absurd (of_decide_eq_true hc) (by exact fun h => h rfl)) (fun hc => ?_)
    have hc := of_decide_eq_false hc
    refine skipF ?_
    refine XF.thenN ?_
    refine seqF (regF ?_)
    refine op_loadA (vs := [_, _, _, _, _, _]) Tryd.isAgg28 Tryd.sizeOf28 rfl (CellsAt.own (j := 0) (m := 6) (hS.at_ 5 rfl) rfl) rfl ?_
    refine op_loadA (vs := [_, _]) Tryd.isAgg31 Tryd.sizeOf31 rfl (CellsAt.own (j := 0) (m := 2) (hS.at_ 1 rfl) rfl) rfl ?_
    refine op_move rfl rfl ?_
    refine op_call (vs := [_, _, _]) hS goes_11 rfl (runA_is (c := ⟨q, a1, us.length, c1, us⟩) (hp.below hS.below) ⟨(hn1.agree (hS.since 0 rfl)).row, rfl⟩ hn1.cap (hrm2.below hS.below) hmm2 (by omega) (Ready.below ⟨hst _ _, hrd.ok, hrd.si, hrd.w4, hus, hrd.x⟩ hS.below) (ht.below hS.below) hR2) rfl ?_
    rintro e W22 ⟨hb, rfl⟩
    refine ⟨_, rfl, hb, fun hS' => ?_⟩
    clear hS; have hS := hS'; clear hS' hb
    refine op_move rfl rfl ?_
    refine op_extract rfl rfl rfl ?_
    refine op_extract rfl rfl rfl ?_
    refine op_extract rfl rfl rfl ?_
    refine op_extract rfl rfl rfl ?_
    refine op_alloc (cs := [_, _]) hS Tryd.zeroValue31 rfl rfl ?_
    clear hS; intro B23 W23 hS
    refine op_alloc (cs := [_, _, _, _, _, _]) hS Tryd.zeroValue47 rfl rfl ?_
    clear hS; intro B24 W24 hS
    refine op_storeA (i := 1) (vs := [_, _]) (cs' := [_, _]) (O' := [_, _, _, _, _, _, _, _]) hS Tryd.sizeOf31 rfl rfl rfl rfl rfl rfl rfl ?_
    clear hS; intro W25 hS
    refine op_storeA (i := 0) (vs := [_, _, _, _, _, _]) (cs' := [_, _, _, _, _, _]) (O' := [_, _, _, _, _, _, _, _]) hS Tryd.sizeOf47 rfl rfl rfl rfl rfl rfl rfl ?_
    clear hS; intro W26 hS
    refine op_assign rfl rfl ?_
    refine op_assign rfl rfl ?_
    refine endF (XF.thenN ?_)
    refine seqF ?_
    refine seqF (regF ?_)
    refine op_move rfl rfl ?_
    refine op_neq rfl rfl rfl ?_
    refine endF (XF.thenN ?_)
    refine condF rfl (fun hc => ?_) (fun hc => absurd (of_decide_eq_false hc) (by exact fun h => h he0))
    have hc := of_decide_eq_true hc
    refine seqF (regF ?_)
    refine op_move rfl rfl ?_
    refine op_move rfl rfl ?_
    refine op_eql rfl rfl rfl ?_
    refine op_move rfl rfl ?_
    refine op_cases (d := 81) rfl (fun hc => ?_) (fun hc => absurd (of_decide_eq_false hc) (by exact fun h => h rfl))
    have hc := of_decide_eq_true hc
    refine op_wantedF (d := 81) rfl rfl ?_
    refine op_move rfl rfl ?_
    refine op_wantedF (d := 81) rfl rfl ?_
    refine op_move rfl rfl ?_
    refine op_wantedF (d := 81) rfl rfl ?_
    refine op_len Tryd.underlying29 rfl rfl ?_
    refine op_wantedF (d := 81) rfl rfl ?_
    refine op_move rfl rfl ?_
    refine op_wantedF (d := 81) rfl rfl ?_
    refine op_add rfl rfl (IntWalk.i64_in _ (by omega)) rfl ?_
    refine op_wantedF (d := 81) rfl rfl ?_
    refine op_eql rfl rfl rfl ?_
    refine op_pickT rfl rfl rfl ?_
    refine op_assign rfl rfl ?_
    refine endF (XF.thenN ?_)
    refine retF ?_
    refine XF.thenR ?_
    refine XF.res (res1 Tryd.results4 rfl) ?_
    exact ⟨rbool (decide_eq_true (by omega)), hS.below⟩
   ·skip
    refine regY (al := [⟨13, 31, [.int .i64 0, .slice none 0 0], 15⟩, ⟨14, 47, [.bool false, .int .i64 0, .int .u64 0, .slice none 0 0, .slice none 0 0, .slice none 0 0], 16⟩]) (G := GCh ([]) 3 1 [(6, 0 + kl + km, [] ++ is2.map (Value.int .i64) ++ js2.map (Value.int .i64)), (4, 0 + kl, [] ++ is2.map (Value.int .i64)), (2, 0, [])]) (E := [2, 4, 6, 13, 14, 15, 16]) (k := 18) (ds := [12]) followsM rfl hS rfl rfl (by kernel_rfl) (by kernel_rfl) rfl (by decide) rfl ?_
    refine bly_cons 1 rfl (isV _) (syV fst_take [(4, _)] rfl rfl (fun _ => (w_free rfl)) (fun _ => ⟨g_fr (by kernel_rfl) rfl, trivial⟩) (fun s w hw => rn_loadA (vs := [_, _, _, _, _, _]) Tryd.isAgg28 Tryd.sizeOf28 rfl ((CellsAt.own (j := 0) (m := 6) (hw.at_ 1 rfl) rfl))) (at_top rfl)) ?_
    refine bly_cons 2 rfl (isV _) (syV fst_take [(5, _)] rfl rfl (fun _ => (w_free rfl)) (fun _ => ⟨g_fr (by kernel_rfl) rfl, trivial⟩) (fun s w hw => rn_loadA (vs := [_, _]) Tryd.isAgg31 Tryd.sizeOf31 rfl ((CellsAt.own (j := 0) (m := 2) (hw.at_ 0 rfl) rfl))) (at_top rfl)) ?_
    refine bly_cons 3 rfl (anyA) (sy_slice0 rfl rfl Tryd.underlying29 Tryd.sizeOf3 rfl rfl (fun s v hk => by rw [GCh_no ((upd_ne _ _ (by decide)).trans (hk.no 6 (by kernel_rfl))), GCh_no ((upd_ne _ _ (by decide)).trans (hk.no 4 (by kernel_rfl))), GCh_at (upd_at _ _ _), GCh_no (hk.no 6 (by kernel_rfl)), GCh_no (hk.no 4 (by kernel_rfl)), GCh_no hk.self]; rfl) (at_top rfl)) ?_
    refine bly_cons 4 rfl (isV _) (syV fst_take [(2, _)] rfl rfl (fun _ => (w_free rfl)) (fun _ => ⟨g_fr (by kernel_rfl) rfl, trivial⟩) (fun s w hw => rn_move rfl) (at_top rfl)) ?_
    refine bly_cons 5 rfl (anyA) (sy_app (tx := 38) (j0 := 2) (gi := 0) (news := is2.map (Value.int .i64)) fst_take [(39, _)] rfl rfl Tryd.underlying29 inf_3 rfl rfl (by show 0 < 1; decide) rfl rfl (by kernel_rfl) (fun _ => ⟨g_dep 3 (by kernel_rfl) (at_n rfl rfl (at_dep rfl rfl rfl)), trivial⟩) rfl rfl rfl (fun s v0 hk h0 => ⟨by rw [GCh_no (hk.no 6 (by kernel_rfl)), GCh_no hk.self, GCh_at h0]; rfl, fun v => by rw [GCh_no ((upd_ne _ _ (by decide)).trans (hk.no 6 (by kernel_rfl))), GCh_at (upd_at _ _ _), GCh_no (hk.no 6 (by kernel_rfl)), GCh_no hk.self, GCh_at h0]; rfl⟩) (fun s w hw => Row.app (hrl2.below hw.below) hll2) (by show (is2.map (Value.int .i64)).length = kl * 1; simpa using hll2) (ints_one is2) (by simp only [maxLen]; omega) (by show (0 + kl) * 8 ≤ _; omega) (at_top rfl)) ?_
    refine bly_cons 6 rfl (isV _) (syV fst_take [(3, _)] rfl rfl (fun _ => (w_free rfl)) (fun _ => ⟨g_fr (by kernel_rfl) rfl, trivial⟩) (fun s w hw => rn_move rfl) (at_top rfl)) ?_
    refine bly_cons 7 rfl (anyA) (sy_app (tx := 40) (j0 := 4) (gi := 0) (news := js2.map (Value.int .i64)) fst_take [(41, _)] rfl rfl Tryd.underlying29 inf_3 rfl rfl (by show 0 < 1; decide) rfl rfl (by kernel_rfl) (fun _ => ⟨g_dep 5 (by kernel_rfl) (at_n rfl rfl (at_dep rfl rfl rfl)), trivial⟩) rfl rfl rfl (fun s v0 hk h0 => ⟨by rw [GCh_no hk.self, GCh_at h0]; rfl, fun v => by rw [GCh_at (upd_at _ _ _), GCh_no hk.self, GCh_at h0]; rfl⟩) (fun s w hw => Row.app (hrm2.below hw.below) hmm2) (by show (js2.map (Value.int .i64)).length = km * 1; simpa using hmm2) (ints_one js2) (by simp only [maxLen]; omega) (by show (0 + kl + km) * 8 ≤ _; omega) (at_top rfl)) ?_
    refine bly_cons 8 rfl (isRunN W.heap.size S q2 us2 (extX S x z)) (sy_call fst_take (fun s => [isV _, isV _, isE s 6]) rfl rfl goes_11 (fun _ => w_free rfl) (fun s => ⟨p_tmp (g_dep 0 (by kernel_rfl) (at_n rfl rfl (at_dep rfl rfl rfl))), p_tmp (g_dep 1 (by kernel_rfl) (at_n rfl rfl (at_dep rfl rfl rfl))), p_tmp (g_dep 6 (by kernel_rfl) (at_e rfl rfl)), trivial⟩) (fun vs s w' hk hw hlo hh => by
      obtain ⟨v9, rfl, hv9⟩ := holds_vvE hh
      have hrow9 := hw.row 0 (congrArg (fun z => z[0]?) (GCh_at hv9))
      obtain ⟨a9, c9, rfl, hr9, hl9⟩ := cat_row hrow9 hll2 hmm2
      exact run_gN1 hlo (runA_is (hp.below hw.below) (hcf.below hw.below) hcc hr9 hl9 (by omega) (hrd.below hw.below) (ht.below hw.below) hRR)) (at_top rfl)) ?_
    refine bly_cons 9 rfl (isRunN W.heap.size S q2 us2 (extX S x z)) (syP (q := isRunN W.heap.size S q2 us2 (extX S x z)) 7 43 rfl rfl (by kernel_rfl) (at_dep rfl rfl rfl) syp_move (at_top rfl)) ?_
    refine bly_cons 10 rfl (isConfN W.heap.size q2 us2) (syP (q := isConfN W.heap.size q2 us2) 8 35 rfl rfl (by kernel_rfl) (at_dep rfl rfl rfl) (syp_ext isRun_0) (at_top rfl)) ?_
    refine bly_cons 11 rfl (isNew W.heap.size S (extX S x z)) (syP (q := isNew W.heap.size S (extX S x z)) 8 35 rfl rfl (by kernel_rfl) (at_dep rfl rfl rfl) (syp_ext isRun_1) (at_top rfl)) ?_
    refine bly_cons 12 rfl (isV (.int .i64 0)) (syP (q := isV (.int .i64 0)) 8 35 rfl rfl (by kernel_rfl) (at_dep rfl rfl rfl) (syp_ext isRun_2) (at_top rfl)) ?_
    refine bly_cons 13 rfl (isV (.int .i64 0)) (syP (q := isV (.int .i64 0)) 8 35 rfl rfl (by kernel_rfl) (at_dep rfl rfl rfl) (syp_ext isRun_3) (at_top rfl)) ?_
    refine bly_cons 14 rfl (isPtr W.heap.size) (sy_alloc ⟨13, 31, [.int .i64 0, .slice none 0 0], 15⟩ rfl rfl Tryd.zeroValue31 List.mem_cons_self rfl rfl rfl (.inl (by kernel_rfl)) (by decide) rfl (fun _ _ => rfl) (at_top rfl)) ?_
    refine bly_cons 15 rfl (isPtr W.heap.size) (sy_alloc ⟨14, 47, [.bool false, .int .i64 0, .int .u64 0, .slice none 0 0, .slice none 0 0, .slice none 0 0], 16⟩ rfl rfl Tryd.zeroValue47 (List.mem_cons_of_mem _ List.mem_cons_self) rfl rfl rfl (.inl (by kernel_rfl)) (by decide) rfl (fun _ _ => rfl) (at_top rfl)) ?_
    refine bly_cons 16 rfl (isConfN W.heap.size q2 us2) (sy_store (jy := 9) (m := 2) ⟨13, 31, [.int .i64 0, .slice none 0 0], 15⟩ rfl rfl List.mem_cons_self rfl rfl (by kernel_rfl) (at_dep rfl rfl rfl) (by kernel_rfl) (at_dep rfl rfl rfl) (at_top rfl) Tryd.sizeOf31 rfl (fun v w ⟨a, c, h, _⟩ => by subst h; exact ⟨_, rfl, rfl, rfl⟩) (by decide) rfl (fun _ _ => rfl)) ?_
    refine bly_cons 17 rfl (isNew W.heap.size S (extX S x z)) (sy_store (jy := 10) (m := 6) ⟨14, 47, [.bool false, .int .i64 0, .int .u64 0, .slice none 0 0, .slice none 0 0, .slice none 0 0], 16⟩ rfl rfl (List.mem_cons_of_mem _ List.mem_cons_self) rfl rfl (by kernel_rfl) (at_dep rfl rfl rfl) (by kernel_rfl) (at_dep rfl rfl rfl) (at_top rfl) Tryd.sizeOf47 rfl (fun v w ⟨f, h, _⟩ => by subst h; exact ⟨f.six, rfl, rfl, rfl⟩) (by decide) rfl (fun _ _ => rfl)) ?_
    refine bly_cons 18 rfl (isV _) (syV fst_take [(46, _)] rfl rfl (fun _ => (w_free rfl)) (fun _ => ⟨g_dep 11 (by kernel_rfl) (at_n rfl rfl (at_dep rfl rfl rfl)), trivial⟩) (fun s w hw => rn_assign rfl) (at_top rfl)) ?_
    refine bly_nil ?_
    intro s27 W27 Ks27 hall27 hsz27 hKs27 hS' hcov27 hfx27
    obtain ⟨v27_2, h27_2⟩ := hall27 2 rfl
    obtain ⟨v27_4, h27_4⟩ := hall27 4 rfl
    obtain ⟨v27_6, h27_6⟩ := hall27 6 rfl
    obtain ⟨v27_13, h27_13⟩ := hall27 13 rfl
    obtain ⟨v27_14, h27_14⟩ := hall27 14 rfl
    obtain ⟨v27_15, h27_15⟩ := hall27 15 rfl
    obtain ⟨v27_16, h27_16⟩ := hall27 16 rfl
    have f27_13 : AwS _ _ (isPtr W.heap.size) _ _ := hfx27 13 rfl _ h27_13
    obtain ⟨B27_13, rfl, hB27_13⟩ := f27_13.here
    have f27_14 : AwS _ _ (isPtr W.heap.size) _ _ := hfx27 14 rfl _ h27_14
    obtain ⟨B27_14, rfl, hB27_14⟩ := f27_14.here
    have f27_15 : AwS _ _ (isConfN W.heap.size q2 us2) _ _ := hfx27 15 rfl _ h27_15
    obtain ⟨aD, cD, rfl, hnD⟩ := f27_15.here
    have f27_16 : AwS _ _ (isNew W.heap.size S (extX S x z)) _ _ := hfx27 16 rfl _ h27_16
    obtain ⟨fD, rfl, hxD⟩ := f27_16.here
    clear hS; have hS := hS'.castO (O' := [(B27_13, _, 31), (B27_14, _, 47), _, _]) (by simp only [OY, AS_cons, AB.cs, h27_13, h27_14, h27_15, h27_16]; rfl); clear hS'
    have hS := hS.castG (GCh_at h27_6)
    have HD : Held w Ks27 (fun W2 => RowN _ W2 aD cD us2) := fun h2 hk => confN_row (f27_15 _ (hcov27 h2 hk))
    have HX : Held w Ks27 (fun W2 => isX S (extX S x z) fD.val W2) := fun h2 hk => isNew_isX (f27_16 _ (hcov27 h2 hk))
    refine castL (L' := [AwS _ _ (isV _), AwS _ _ (isV _), isE s27 2, AwS _ _ (isV _), isE s27 4, AwS _ _ (isV _), isE s27 6, AwS _ _ (isRunN W.heap.size S q2 us2 (extX S x z)), AwS _ _ (isRunN W.heap.size S q2 us2 (extX S x z)), AwS _ _ (isConfN W.heap.size q2 us2), AwS _ _ (isNew W.heap.size S (extX S x z)), AwS _ _ (isV (.int .i64 0)), AwS _ _ (isV (.int .i64 0)), isE s27 13, isE s27 14, isE s27 15, isE s27 16, AwS _ _ (isV _)]) rfl ?_
    refine fin_sV ?_
    refine fin_sV ?_
    refine fin_p ?_; intro u hu; obtain rfl := Option.some.inj (h27_2.symm.trans hu); clear hu
    refine fin_sV ?_
    refine fin_p ?_; intro u hu; obtain rfl := Option.some.inj (h27_4.symm.trans hu); clear hu
    refine fin_sV ?_
    refine fin_p ?_; intro u hu; obtain rfl := Option.some.inj (h27_6.symm.trans hu); clear hu
    refine fin_p ?_; intro _ _
    refine fin_p ?_; intro _ _
    refine fin_p ?_; intro _ _
    refine fin_p ?_; intro _ _
    refine fin_sV ?_
    refine fin_sV ?_
    refine fin_p ?_; intro u hu; obtain rfl := Option.some.inj (h27_13.symm.trans hu); clear hu
    refine fin_p ?_; intro u hu; obtain rfl := Option.some.inj (h27_14.symm.trans hu); clear hu
    refine fin_0 ?_
    refine fin_0 ?_
    refine fin_sV ?_
    refine fin_nil ?_
    refine op_assign rfl rfl ?_
    refine endF (XF.thenN ?_)
    refine seqF (regF ?_)
    refine op_loadA (vs := [_, _, _, _, _, _]) Tryd.isAgg28 Tryd.sizeOf28 rfl (CellsAt.own (j := 0) (m := 6) (hS.at_ 3 rfl) rfl) rfl ?_
    refine op_loadA (vs := [_, _]) Tryd.isAgg31 Tryd.sizeOf31 rfl (CellsAt.own (j := 0) (m := 2) (hS.at_ 2 rfl) rfl) rfl ?_
    refine op_move rfl rfl ?_
    refine op_call (vs := [_, _, _]) hS goes_11 rfl (runA_is (hp.below hS.below) (hcf.below hS.below) hcc (hrl2.below hS.below) hll2 (by omega) (hrd.below hS.below) (ht.below hS.below) hR) rfl ?_
    rintro e W28 ⟨hb, a1, c1, f1, rfl, hn1, hx1⟩
    refine ⟨_, rfl, hb, fun hS' => ?_⟩
    clear hS; have hS := hS'; clear hS' hb
    refine op_move rfl rfl ?_
    refine op_extract rfl rfl rfl ?_
    refine op_extract rfl rfl rfl ?_
    refine op_extract rfl rfl rfl ?_
    refine op_extract rfl rfl rfl ?_
    refine op_alloc (cs := [_, _]) hS Tryd.zeroValue31 rfl rfl ?_
    clear hS; intro B29 W29 hS
    refine op_alloc (cs := [_, _, _, _, _, _]) hS Tryd.zeroValue47 rfl rfl ?_
    clear hS; intro B30 W30 hS
    refine op_storeA (i := 1) (vs := [_, _]) (cs' := [_, _]) (O' := [_, _, _, _, _, _]) hS Tryd.sizeOf31 rfl rfl rfl rfl rfl rfl rfl ?_
    clear hS; intro W31 hS
    refine op_storeA (i := 0) (vs := [_, _, _, _, _, _]) (cs' := [_, _, _, _, _, _]) (O' := [_, _, _, _, _, _]) hS Tryd.sizeOf47 rfl rfl rfl rfl rfl rfl rfl ?_
    clear hS; intro W32 hS
    refine op_assign rfl rfl ?_
    refine op_assign rfl rfl ?_
    refine endF (XF.thenN ?_)
    refine seqF ?_
    refine seqF (regF ?_)
    refine op_move rfl rfl ?_
    refine op_neq rfl rfl rfl ?_
    refine endF (XF.thenN ?_)
    refine condF rfl (fun hc => absurd (of_decide_eq_true hc) (by exact fun h => h rfl)) (fun hc => ?_)
    have hc := of_decide_eq_false hc
    refine skipF ?_
    refine XF.thenN ?_
    refine seqF (regF ?_)
    refine op_loadA (vs := [_, _, _, _, _, _]) Tryd.isAgg28 Tryd.sizeOf28 rfl (CellsAt.own (j := 0) (m := 6) (hS.at_ 5 rfl) rfl) rfl ?_
    refine op_loadA (vs := [_, _]) Tryd.isAgg31 Tryd.sizeOf31 rfl (CellsAt.own (j := 0) (m := 2) (hS.at_ 1 rfl) rfl) rfl ?_
    refine op_move rfl rfl ?_
    refine op_call (vs := [_, _, _]) hS goes_11 rfl (runA_is (c := ⟨q, a1, us.length, c1, us⟩) (hp.below hS.below) ⟨(hn1.agree (hS.since 0 rfl)).row, rfl⟩ hn1.cap (hrm2.below hS.below) hmm2 (by omega) (Ready.below ⟨hst _ _, hrd.ok, hrd.si, hrd.w4, hus, hrd.x⟩ hS.below) (ht.below hS.below) hR2) rfl ?_
    rintro e W33 ⟨hb, a2, c2, f2, rfl, hn2, hx2⟩
    refine ⟨_, rfl, hb, fun hS' => ?_⟩
    clear hS; have hS := hS'; clear hS' hb
    refine op_move rfl rfl ?_
    refine op_extract rfl rfl rfl ?_
    refine op_extract rfl rfl rfl ?_
    refine op_extract rfl rfl rfl ?_
    refine op_extract rfl rfl rfl ?_
    refine op_alloc (cs := [_, _]) hS Tryd.zeroValue31 rfl rfl ?_
    clear hS; intro B34 W34 hS
    refine op_alloc (cs := [_, _, _, _, _, _]) hS Tryd.zeroValue47 rfl rfl ?_
    clear hS; intro B35 W35 hS
    refine op_storeA (i := 1) (vs := [_, _]) (cs' := [_, _]) (O' := [_, _, _, _, _, _, _, _]) hS Tryd.sizeOf31 rfl rfl rfl rfl rfl rfl rfl ?_
    clear hS; intro W36 hS
    refine op_storeA (i := 0) (vs := [_, _, _, _, _, _]) (cs' := [_, _, _, _, _, _]) (O' := [_, _, _, _, _, _, _, _]) hS Tryd.sizeOf47 rfl rfl rfl rfl rfl rfl rfl ?_
    clear hS; intro W37 hS
    refine op_assign rfl rfl ?_
    refine op_assign rfl rfl ?_
    refine endF (XF.thenN ?_)
    refine seqF ?_
    refine seqF (regF ?_)
    refine op_move rfl rfl ?_
    refine op_neq rfl rfl rfl ?_
    refine endF (XF.thenN ?_)
    refine condF rfl (fun hc => absurd (of_decide_eq_true hc) (by exact fun h => h rfl)) (fun hc => ?_)
    have hc := of_decide_eq_false hc
    refine skipF ?_
    refine XF.thenN ?_
    refine seqF (regF ?_)
    refine op_field (o' := 0) fa_28_0 rfl rfl rfl ?_
    refine op_loadA (vs := [_, _, _]) Tryd.isAgg25 Tryd.sizeOf25 rfl (CellsAt.own (j := 0) (m := 3) (hS.at_ 7 rfl) rfl) rfl ?_
    refine op_loadA (vs := [_, _, _, _, _, _]) Tryd.isAgg47 Tryd.sizeOf47 rfl (CellsAt.own (j := 0) (m := 6) (hS.at_ 2 rfl) rfl) rfl ?_
    refine op_loadA (vs := [_, _, _, _, _, _]) Tryd.isAgg47 Tryd.sizeOf47 rfl (CellsAt.own (j := 0) (m := 6) (hS.at_ 0 rfl) rfl) rfl ?_
    refine op_buildSlice (us := [(0, .agg (List.toArray [_, _, _, _, _, _])), (1, .agg (List.toArray [_, _, _, _, _, _]))]) hS Tryd.underlying45 Tryd.sizeOf47 Tryd.zeroValue47 rfl rfl rfl (bs_45_2 _ _ _ _ _ _ _ _ _ _ _ _) rfl ?_
    clear hS; intro B38 W38 hS
    refine op_call (vs := [_, _]) hS goes_12 rfl (ext2R (hrd.si.below hS.below) hrd.ok hx1 hx2 hox (hS.since 1 rfl) (hS.since 0 rfl) (hS.at_ 0 rfl)) rfl ?_
    rintro e W39 ⟨v3, rfl, ⟨f3, rfl⟩, hx3, hb⟩
    refine ⟨_, rfl, hb, fun hS' => ?_⟩
    clear hS; have hS := hS'; clear hS' hb
    refine op_move rfl rfl ?_
    refine op_extract rfl rfl rfl ?_
    refine op_extract rfl rfl rfl ?_
    refine op_alloc (cs := [_, _, _, _, _, _]) hS Tryd.zeroValue47 rfl rfl ?_
    clear hS; intro B40 W40 hS
    refine op_storeA (i := 0) (vs := [_, _, _, _, _, _]) (cs' := [_, _, _, _, _, _]) (O' := [_, _, _, _, _, _, _, _, _, _]) hS Tryd.sizeOf47 rfl rfl rfl rfl rfl rfl rfl ?_
    clear hS; intro W41 hS
    refine op_assign rfl rfl ?_
    refine endF (XF.thenN ?_)
    refine seqF ?_
    have hx4 := hx3 _ (hS.since 2 rfl) (hS.since 1 rfl) (hS.since 0 rfl)
    have hn4 := hn2.agree (hS.since 1 rfl)
    have hnD2 := HD hS (fun q hq => by simp [hq])
    have hxD2 := HX hS (fun q hq => by simp [hq])
    have hus2 : us2.length ≤ 9223372036854775807 := by have h2 : us2.length ≤ maxLen := hn4.lim; simp only [maxLen] at h2; omega
    have hmark := hS.below
    refine regF ?_
    refine op_move rfl rfl ?_
    refine op_eql rfl rfl rfl ?_
    refine op_move rfl rfl ?_
    refine op_cases (d := 100) rfl (fun hc => ?_) (fun hc => absurd (of_decide_eq_false hc) (by exact fun h => h rfl))
    have hc := of_decide_eq_true hc
    refine op_wantedF (d := 100) rfl rfl ?_
    refine op_move rfl rfl ?_
    refine op_wantedF (d := 100) rfl rfl ?_
    refine op_eql rfl rfl rfl ?_
    refine op_pickT rfl rfl rfl ?_
    refine op_move rfl rfl ?_
    refine op_cases (d := 104) rfl (fun hc => ?_) (fun hc => absurd (of_decide_eq_false hc) (by exact fun h => h rfl))
    have hc := of_decide_eq_true hc
    refine op_wantedF (d := 104) rfl rfl ?_
    refine op_loadA (vs := [_, _]) Tryd.isAgg31 Tryd.sizeOf31 rfl (CellsAt.own (j := 0) (m := 2) (hS.at_ 6 rfl) rfl) rfl ?_
    refine op_wantedF (d := 104) rfl rfl ?_
    refine op_loadA (vs := [_, _]) Tryd.isAgg31 Tryd.sizeOf31 rfl (CellsAt.own (j := 0) (m := 2) (hS.at_ 3 rfl) rfl) rfl ?_
    refine op_wantedF (d := 104) rfl rfl ?_
    have hsz15 := hS.below.size
    refine op_call (vs := [_, _]) hS goes_13 rfl (sameC_eq q2 hnD2.row hn4.row hus2) rfl ?_
    rintro e W42 ⟨rfl, hb⟩
    refine ⟨_, rfl, hb, fun hS' => ?_⟩
    clear hS; have hS := hS'; clear hS'
    have hx5 := stab_isX _ _ _ hx4 hb
    have hxD3 := stab_isX _ _ _ hxD2 hb
    refine op_pickT rfl rfl rfl ?_
    refine op_move rfl rfl ?_
    refine op_wantedF (d := 109) rfl rfl ?_
    refine op_loadA (vs := [_, _, _, _, _, _]) Tryd.isAgg47 Tryd.sizeOf47 rfl (CellsAt.own (j := 0) (m := 6) (hS.at_ 7 rfl) rfl) rfl ?_
    refine op_wantedF (d := 109) rfl rfl ?_
    refine op_loadA (vs := [_, _, _, _, _, _]) Tryd.isAgg47 Tryd.sizeOf47 rfl (CellsAt.own (j := 0) (m := 6) (hS.at_ 0 rfl) rfl) rfl ?_
    refine op_wantedF (d := 109) rfl rfl ?_
    refine op_call (vs := [_, _]) hS goes_14 rfl (sameV_is hxD3 hx5 rfl) rfl ?_
    rintro e W43 ⟨rfl, hb⟩
    refine ⟨_, rfl, hb, fun hS' => ?_⟩
    clear hS; have hS := hS'; clear hS' hb
    refine op_pickT rfl rfl rfl ?_
    refine op_assign rfl rfl ?_
    refine endF (XF.thenN ?_)
    refine retF ?_
    refine XF.res (res1 Tryd.results4 rfl) ?_
    exact ⟨rfl, hS.below⟩
  ·skip
   refine seqF (regF ?_)
   refine op_move rfl rfl ?_
   refine op_len Tryd.underlying29 rfl rfl ?_
   refine op_gtr rfl rfl rfl ?_
   refine endF (XF.thenN ?_)
   refine condF rfl (fun hc => ?_) (fun hc => ?_)
   ·have hc32 := of_decide_eq_true hc; clear hc
    have hla : ∀ x, ma = some x → ∃ b o, x = ⟨b, o, none⟩ := fun x hx => by
     rcases hrma with h | ⟨b, off, h, _⟩
     ·rw [h] at hml; simp at hml; omega
     ·exact ⟨b, off, by rw [h] at hx; exact (Option.some.inj hx).symm⟩
    refine regF ?_
    refine op_move rfl rfl ?_
    refine op_sliceTo (k := 200) Tryd.underlying29 Tryd.sizeOf3 rfl rfl (by decide) (by omega) (by omega) hla rfl ?_
    refine op_assign rfl rfl ?_
    refine endF ?_
    exact XF.join [(2, _), (3, _), (4, _), (5, _)] ⟨rfl, rfl, rfl, rfl, trivial⟩ ⟨200, js.take 200, rfl, by rw [List.length_take]; omega, Nat.le_refl _, hrma.take 200, hS.clear⟩
   ·have hc32 := of_decide_eq_false hc; clear hc
    refine skipF ?_
    exact XF.join [(2, _), (3, _), (4, _), (5, _)] ⟨rfl, rfl, rfl, rfl, trivial⟩ ⟨ml, js, rfl, hml, by omega, hrma, hS.clear⟩
 ·skip
  refine seqF (regF ?_)
  refine op_move rfl rfl ?_
  refine op_len Tryd.underlying29 rfl rfl ?_
  refine op_gtr rfl rfl rfl ?_
  refine endF (XF.thenN ?_)
  refine condF rfl (fun hc => ?_) (fun hc => ?_)
  ·have hc27 := of_decide_eq_true hc; clear hc
   have hla : ∀ x, la = some x → ∃ b o, x = ⟨b, o, none⟩ := fun x hx => by
    rcases hrla with h | ⟨b, off, h, _⟩
    ·rw [h] at hll; simp at hll; omega
    ·exact ⟨b, off, by rw [h] at hx; exact (Option.some.inj hx).symm⟩
   refine regF ?_
   refine op_move rfl rfl ?_
   refine op_sliceTo (k := 200) Tryd.underlying29 Tryd.sizeOf3 rfl rfl (by decide) (by omega) (by omega) hla rfl ?_
   refine op_assign rfl rfl ?_
   refine endF ?_
   exact XF.join [(2, _), (3, _), (4, _), (5, _)] ⟨rfl, rfl, rfl, rfl, trivial⟩ ⟨200, is.take 200, rfl, by rw [List.length_take]; omega, Nat.le_refl _, hrla.take 200, hS.clear⟩
  ·have hc27 := of_decide_eq_false hc; clear hc
   refine skipF ?_
   exact XF.join [(2, _), (3, _), (4, _), (5, _)] ⟨rfl, rfl, rfl, rfl, trivial⟩ ⟨ll, is, rfl, hll, by omega, hrla, hS.clear⟩
theorem stepsParts_walk (d : Nat) (p : PV) (c : CV) (la : Option Addr) (ll lc : Nat) (is : List Int) (ma : Option Addr) (ml mc : Nat) (js : List Int) (w : World) (hp : PvIn w d d p) (hc : CIn w c ∧ c.wl ≤ c.wc) (hl : Row w la is ∧ is.length = ll ∧ ll ≤ lc ∧ ll ≤ 9223372036854775807) (hm : Row w ma js ∧ js.length = ml ∧ ml ≤ mc ∧ ml ≤ 9223372036854775807) (ht : Tabs w) : Calls Tryd.prog 4 #[p.val, c.val, .slice la ll lc, .slice ma ml mc] w (fun e w' => e = .returned (.bool (true)) ∧ Below w.heap.size w w') :=
 stepsParts_walk0 d d p c la ll lc is ma ml mc js w hp hc.1 hc.2 hl.1 hl.2.1 hl.2.2.1 hl.2.2.2 hm.1 hm.2.1 hm.2.2.1 hm.2.2.2 ht
end Go.Proofs.YtfkbkekgnoanaaaDoor
namespace Go.Proofs.YtfkbkekgnoanaaaDoor
open Go.RowKit Go.ChangeShapes Go.WideShapes Go.Deep Go.Joins
theorem ten_len {cs : List Value} (h : cs.length = 10) : ∃ a b c d e f g i j k, cs = [a, b, c, d, e, f, g, i, j, k] := by
 match cs, h with
 | [a, b, c, d, e, f, g, i, j, k], _ => exact ⟨a, b, c, d, e, f, g, i, j, k, rfl⟩
theorem cellsAt_of {w : World} {b : Nat} : ∀ (vs : List Value) (o : Nat), (∀ (j : Nat) u, vs[j]? = some u → w.cell? ⟨b, o + j, none⟩ = some u) → CellsAt w b o vs
 | [], _, _ => trivial
 | v :: vs, o, h => ⟨h 0 v rfl, cellsAt_of vs (o + 1) fun j u hj => by have := h (j + 1) u (by simpa using hj); rwa [show o + 1 + j = o + (j + 1) by omega]⟩
section
variable {H : Type} {enc : TypeId × Value → H} {w : World} {base : Nat} {spare : Nat → Bool} {held : Bool}
theorem ints_in {n : Nat} {v : Value} {x : DataW H × List MemPlace} (h : DataW.trod enc Tryd.prog w base spare held n 29 [v] = some x) :
  ∃ (a : Option Addr) (len cap : Nat) (zs : List Int), v = .slice a len cap ∧ Row w a zs ∧ zs.length = len ∧ len ≤ cap ∧ cap ≤ maxLen := by
 rcases open_ints (t := 29) (e := 3) (k := .i64) (by kernel_rfl) (by kernel_rfl) (by kernel_rfl) h with ⟨hcs, _⟩ | ⟨x, len, cap, zs, hcs, _, hl, hm, hz, _, hcell, hwz⟩
 ·have hcs' : v = .slice none 0 0 := by simpa using hcs
  subst hcs'
  exact ⟨none, 0, 0, [], rfl, .inl rfl, rfl, Nat.le_refl _, Nat.zero_le _⟩
 ·have hcs' : v = .slice (some x) len cap := by simpa using hcs
  subst hcs'
  have hzl : len ≤ zs.length := by rw [hz]; split <;> omega
  refine ⟨some x, len, cap, zs.take len, rfl, ?_, by simp; omega, hl, hm⟩
  rcases Nat.eq_zero_or_pos len with h0 | h0
  ·subst h0; exact .inl (by simp)
  ·obtain ⟨b, off, spot⟩ := x
   have hc0 := hcell 0 (by omega)
   have hspot : spot = none := by simpa [Addr.add] using World.cell?_spot hc0
   subst hspot
   refine .inr ⟨b, off, rfl, fun i hi => ?_⟩
   have hi1 : i < len := by simp at hi; omega
   have hi2 : i < zs.length := by omega
   have hc := hcell i hi2
   have e : ({ block := b, off := off } : Addr).add i = ⟨b, off + i, none⟩ := by simp [Addr.add]
   rw [e] at hc
   rw [hc]
   simp [List.getD, List.getElem?_take, hi1]
theorem rule_in {n : Nat} {cs : List Value} {x : DataW H × List MemPlace} (h : DataW.trod enc Tryd.prog w base spare held n 69 cs = some x) : ∃ r : RV, cs = r.ten ∧ RIn w n r := by
 obtain ⟨xs, n', hn, _, hl, hlen, hg⟩ := DataW.trod_struct Tryd.underlying69 h
 rw [show Tryd.prog.cellsOf 69 = 10 by kernel_rfl] at hl
 obtain ⟨a, b, c, d, e, f, g, i, j, k, rfl⟩ := ten_len hl
 have hlen5 : xs.length = 5 := hlen
 have g0 := hg 0 _ rfl
 have g1 := hg 1 _ rfl
 have g2 := hg 2 _ rfl
 have g3 := hg 3 _ rfl
 have g4 := hg 4 _ rfl
 rw [show Tryd.prog.cellsOf _ = 1 by kernel_rfl, List.getElem?_eq_getElem (by omega)] at g0 g1 g2 g3
 rw [show Tryd.prog.cellsOf _ = 6 by kernel_rfl, List.getElem?_eq_getElem (by omega)] at g4
 obtain ⟨z0, e0, _, w0⟩ := DataW.trod_int (k := .i64) (by kernel_rfl) g0
 obtain ⟨z1, e1, _, w1⟩ := DataW.trod_int (k := .i64) (by kernel_rfl) g1
 obtain ⟨z2, e2, _, w2⟩ := DataW.trod_int (k := .i64) (by kernel_rfl) g2
 simp at e0 e1 e2
 subst e0 e1 e2
 obtain ⟨ra, rl, rc, ws, rfl, hrow, hrl, _, _⟩ := ints_in (v := d) g3
 obtain ⟨s, e4, hs⟩ := weight_in n' g4
 have e4' : [e, f, g, i, j, k] = s.f.six := by simpa using e4
 simp only [List.cons.injEq, and_true] at e4'
 obtain ⟨rfl, rfl, rfl, rfl, rfl, rfl⟩ := e4'
 exact ⟨⟨z0, z1, z2, ra, rl, rc, ws, s⟩, rfl, hrow, hrl, hs.more (by omega)⟩
theorem pds_in {n : Nat} {cs : List Value} {x : DataW H × List MemPlace} (h : DataW.trod enc Tryd.prog w base spare held n 28 cs = some x) : ∃ p : PV, cs = p.six ∧ PvIn w n n p := by
 obtain ⟨xs, n', hn, _, hl, hlen, hg⟩ := DataW.trod_struct Tryd.underlying28 h
 rw [show Tryd.prog.cellsOf 28 = 6 by kernel_rfl] at hl
 obtain ⟨a, b, c, d, e, f, rfl⟩ := six_len hl
 have hlen4 : xs.length = 4 := hlen
 have g0 := hg 0 _ rfl
 have g1 := hg 1 _ rfl
 have g2 := hg 2 _ rfl
 have g3 := hg 3 _ rfl
 rw [show Tryd.prog.cellsOf _ = 3 by kernel_rfl, List.getElem?_eq_getElem (by omega)] at g0
 rw [show Tryd.prog.cellsOf _ = 1 by kernel_rfl, List.getElem?_eq_getElem (by omega)] at g1 g2 g3
 obtain ⟨s, es, hs⟩ := space_in n' g0
 have es' : [a, b, c] = [.int .i64 s.f.tag, .int .i64 s.f.dim, .slice s.f.a s.f.len s.f.cap] := by simpa using es
 simp only [List.cons.injEq, and_true] at es'
 obtain ⟨rfl, rfl, rfl⟩ := es'
 obtain ⟨z1, e1, _, w1⟩ := DataW.trod_int (k := .i64) (by kernel_rfl) g1
 obtain ⟨z2, e2, _, w2⟩ := DataW.trod_int (k := .i64) (by kernel_rfl) g2
 simp at e1 e2
 subst e1 e2
 rcases DataW.trod_slice Tryd.underlying26 g3 with ⟨hcs, _⟩ | ⟨ad, len, cap, elems, rest, n2, hn2, hcs, _, hb, hle, hcap, hel, hi, _, _⟩
 ·simp at hcs
  subst hcs
  exact ⟨⟨s, z1, z2, none, 0, 0, []⟩, rfl, hs.more (by omega), .inl rfl, rfl, fun r hr => by cases hr⟩
 ·simp at hcs
  subst hcs
  rw [show Tryd.prog.cellsOf 69 = 10 by kernel_rfl] at hi
  obtain ⟨rs, hrl, hrs⟩ := list_pick len (fun i (r : RV) => (∀ (j : Nat) u, r.ten[j]? = some u → w.cell? (ad.add (i * 10 + j)) = some u) ∧ RIn w n2 r) (fun i hil => by
   have hii := hi i hil
   rw [List.getElem?_eq_getElem (by omega)] at hii
   obtain ⟨cs', hc, ht⟩ := Option.bind_eq_some_iff.1 hii
   obtain ⟨_, hcl, hat⟩ := World.cells?_some hc
   obtain ⟨r, rfl, hr⟩ := rule_in ht
   refine ⟨r, fun j u hj => ?_, hr⟩
   have hj10 : j < 10 := (List.getElem?_eq_some_iff.1 hj).1
   have h0 := hat j (by omega)
   rw [Go.Deep.add_add] at h0
   rw [h0]; exact hj)
  refine ⟨⟨s, z1, z2, some ad, len, cap, rs⟩, rfl, hs.more (by omega), ?_, hrl, fun r hr => ?_⟩
  ·rcases Nat.eq_zero_or_pos len with h0 | h0
   ·exact .inl (List.length_eq_zero_iff.1 (by dsimp only; omega))
   ·obtain ⟨b, off, spot⟩ := ad
    have h1 := (hrs 0 (rs[0]'(by omega)) (List.getElem?_eq_getElem (by omega))).1 0 _ rfl
    have hspot : spot = none := by simpa [Addr.add] using World.cell?_spot h1
    subst hspot
    refine .inr ⟨b, off, rfl, fun i r hir => cellsAt_of _ _ fun j u hj => ?_⟩
    have h3 := (hrs i r hir).1 j u hj
    have e : ∀ k, ({ block := b, off := off } : Addr).add k = ⟨b, off + k, none⟩ := fun k => by simp [Addr.add]
    rw [e, ← Nat.add_assoc] at h3
    exact h3
  ·obtain ⟨i, hi', hic⟩ := List.mem_iff_getElem.1 hr
   have h4 := (hrs i r (by rw [← hic]; exact List.getElem?_eq_getElem hi')).2
   exact ⟨h4.row, h4.len, h4.x.more (by omega)⟩
theorem conf_in {n : Nat} {cs : List Value} {x : DataW H × List MemPlace} (h : DataW.trod enc Tryd.prog w base spare held n 31 cs = some x) : ∃ c : CV, cs = [.int .i64 c.p, .slice c.wa c.wl c.wc] ∧ CIn w c ∧ c.wl ≤ c.wc := by
 obtain ⟨xs, n', hn, _, hl, hlen, hg⟩ := DataW.trod_struct Tryd.underlying31 h
 rw [show Tryd.prog.cellsOf 31 = 2 by kernel_rfl] at hl
 obtain ⟨a, b, rfl⟩ := two_len hl
 have hlen2 : xs.length = 2 := hlen
 have g0 := hg 0 _ rfl
 have g1 := hg 1 _ rfl
 rw [show Tryd.prog.cellsOf _ = 1 by kernel_rfl, List.getElem?_eq_getElem (by omega)] at g0 g1
 obtain ⟨z0, e0, _, w0⟩ := DataW.trod_int (k := .i64) (by kernel_rfl) g0
 simp at e0
 subst e0
 obtain ⟨ra, rl, rc, ws, rfl, hrow, hrl, hcap, _⟩ := ints_in (v := b) g1
 exact ⟨⟨z0, ra, rl, rc, ws⟩, rfl, ⟨hrow, hrl⟩, hcap⟩
theorem pds_open {r : Reach} {b0 : Nat} {v : Value} {d : DataW H} {p : List MemPlace} (hv : Value.okWide Tryd.prog w r b0 28 v) (h : DataW.Trod enc Tryd.prog w base spare held 28 v d p) :
  ∃ (n : Nat) (s : PV), v = s.val ∧ PvIn w n n s := by
 obtain ⟨cs, rfl, _⟩ := okWide_struct Tryd.underlying28 hv
 obtain ⟨n, h⟩ := h
 obtain ⟨s, e, hs⟩ := pds_in (n := n) h
 have e' : cs.toList = _ := e
 exact ⟨n, s, by show Value.agg cs = Value.agg _; congr 1; exact Array.ext' e', hs⟩
theorem conf_open {r : Reach} {b0 : Nat} {v : Value} {d : DataW H} {p : List MemPlace} (hv : Value.okWide Tryd.prog w r b0 31 v) (h : DataW.Trod enc Tryd.prog w base spare held 31 v d p) :
  ∃ (s : CV), v = s.val ∧ CIn w s ∧ s.wl ≤ s.wc := by
 obtain ⟨cs, rfl, _⟩ := okWide_struct Tryd.underlying31 hv
 obtain ⟨n, h⟩ := h
 obtain ⟨s, e, hs⟩ := conf_in (n := n) h
 have e' : cs.toList = _ := e
 exact ⟨s, by show Value.agg cs = Value.agg _; congr 1; exact Array.ext' e', hs⟩
theorem list_open {n : Nat} {a : Option Addr} {len cap : Nat} {x : DataW H × List MemPlace} (h : DataW.trod enc Tryd.prog w base spare held n 29 [.slice a len cap] = some x) : ∃ zs : List Int, Row w a zs ∧ zs.length = len ∧ len ≤ cap ∧ len ≤ 9223372036854775807 := by
 obtain ⟨a', len', cap', zs, e, h1, h2, h3, h4⟩ := ints_in h
 cases e
 exact ⟨zs, h1, h2, h3, by simp only [maxLen] at h4; omega⟩
end
end Go.Proofs.YtfkbkekgnoanaaaDoor
