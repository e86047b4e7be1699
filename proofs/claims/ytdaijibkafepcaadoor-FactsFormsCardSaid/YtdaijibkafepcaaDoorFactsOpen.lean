/-
  THE FACTS LAYER: a transformer that is handed in, opened.
-/
import Derived.Test.YtdaijibkafepcaaDoorFactsEnv
import Derived.Lib.SmallJoins
import Derived.ChangeSlices
import Derived.ChangeSame
import Derived.WalkKit
import Derived.ProofKit
namespace Go.Proofs.YtdaijibkafepcaaDoor
open Go.Joins Go.RowKit Go.ChangeShapes Go.WideShapes Go.Deep
set_option linter.unusedVariables false

section
variable {H : Type} {enc : TypeId × Value → H} {w : World} {base : Nat} {spare : Nat → Bool} {held : Bool}
set_option maxRecDepth 100000 in
theorem facts_open {r : Reach} {b0 : Nat} {v : Value} {d : DataW H} {p : List MemPlace} (hv : Value.okWide Tryd.prog w r b0 55 v) (h : DataW.Trod enc Tryd.prog w base spare held 55 v d p) :
    ∃ (g : Nat) (a : Option Addr) (len cap : Nat) (rows : List Nat), v = .agg #[.int .u64 (g : Int), .slice a len cap] ∧ IsF w g a len cap rows := by
  obtain ⟨v0, v1, y0, y1, n, rfl, rfl, rfl, h0, h1⟩ := open_agg2 Tryd.underlying55 (by kernel_rfl) (by kernel_rfl) hv h
  obtain ⟨z0, e0, _, w0⟩ := DataW.trod_int (k := .u64) (by kernel_rfl) h0
  have e0' : v0 = .int .u64 z0 := by simpa using e0
  subst e0'
  obtain ⟨g, rfl, hg⟩ := u64_nat w0
  rcases open_ints (t := 53) (e := 23) (k := .u64) (by kernel_rfl) (by kernel_rfl) (by kernel_rfl) h1 with ⟨hcs, _⟩ | ⟨x, len, cap, zs, hcs, _, hl, hm, hz, _, hcell, hwz⟩
  · have hcs' : v1 = .slice none 0 0 := by simpa using hcs
    subst hcs'
    exact ⟨g, none, 0, 0, [], rfl, .inl rfl, hg, (fun r hr => by cases hr), rfl, Nat.le_refl _, Nat.zero_le _⟩
  · have hcs' : v1 = .slice (some x) len cap := by simpa using hcs
    subst hcs'
    have hzl : len ≤ zs.length := by rw [hz]; split <;> omega
    refine ⟨g, some x, len, cap, (zs.take len).map Int.toNat, rfl, ?_, hg, ?_, ?_, hl, hm⟩
    · rcases Nat.eq_zero_or_pos len with h0 | h0
      · subst h0; exact .inl (by simp [u64s])
      · obtain ⟨b, off, spot⟩ := x
        have hc0 := hcell 0 (by omega)
        have hspot : spot = none := by simpa [Addr.add] using World.cell?_spot hc0
        subst hspot
        refine .inr ⟨b, off, rfl, fun i v hi => ?_⟩
        obtain ⟨q, hq, rfl⟩ := u64s_at hi
        rw [List.getElem?_map, List.getElem?_take] at hq
        split at hq
        · rename_i hlt
          have hi2 : i < zs.length := by omega
          rw [List.getElem?_eq_getElem hi2] at hq
          have hq' : (zs[i]).toNat = q := by simpa using hq
          obtain ⟨m, hm1, hm2⟩ := u64_nat (hwz _ (List.getElem_mem hi2))
          have hc := hcell i hi2
          have e : ({ block := b, off := off } : Addr).add i = ⟨b, off + i, none⟩ := by simp [Addr.add]
          rw [e] at hc
          rw [hc]
          have : zs.getD i 0 = zs[i] := by simp [List.getD, List.getElem?_eq_getElem hi2]
          rw [this, hm1, ← hq', hm1]
          rfl
        · cases hq
    · intro r hr
      obtain ⟨z, hz1, rfl⟩ := List.mem_map.1 hr
      obtain ⟨m, hm1, hm2⟩ := u64_nat (hwz z (List.mem_of_mem_take hz1))
      rw [hm1]; exact hm2
    · simp; omega
end
end Go.Proofs.YtdaijibkafepcaaDoor
