/-
  THE CELLS LAYER: rows of cells: which may be (Check of the program and of the reference), both checks.
-/
import Derived.Test.YtkekldebklghoaaDoorCellsBase
namespace Go.Proofs.YtkekldebklghoaaDoor
open Go.RowKit
set_option linter.unusedVariables false

/-- A cell: the set of sources, the kind, the constant. -/
structure Cl where
  f : Nat
  k : Int
  v : Int
abbrev Cl.val (c : Cl) : Value := .agg #[.int .u64 (c.f : Int), .int .i64 c.k, .int .i64 c.v]
/-- A slice of cells as the walks see it: it is empty, or its cells lie in a row; each set of sources is one of 64 bits. -/
def CRow (w : World) (a : Option Addr) (cs : List Cl) : Prop :=
  cs = [] ∨ ∃ b off, a = some ⟨b, off, none⟩ ∧ ∀ i c, cs[i]? = some c → w.cell? ⟨b, off + i * 3, none⟩ = some (.int .u64 (c.f : Int)) ∧ w.cell? ⟨b, off + i * 3 + 1, none⟩ = some (.int .i64 c.k) ∧ w.cell? ⟨b, off + i * 3 + 2, none⟩ = some (.int .i64 c.v)
def Bits (cs : List Cl) : Prop := ∀ c, c ∈ cs → c.f < 18446744073709551616
theorem cell_lt {w : World} {a : Addr} {v : Value} (h : w.cell? a = some v) : a.block < w.heap.size := by
  rcases Nat.lt_or_ge a.block w.heap.size with h' | h'
  · exact h'
  · simp [World.cell?, Array.getElem?_eq_none h'] at h
theorem CRow.below {w w' : World} {a : Option Addr} {cs : List Cl} (h : CRow w a cs) (hb : Below w.heap.size w w') : CRow w' a cs := by
  rcases h with h | ⟨b, off, rfl, hc⟩
  · exact .inl h
  · refine .inr ⟨b, off, rfl, fun i c hi => ?_⟩
    obtain ⟨h1, h2, h3⟩ := hc i c hi
    exact ⟨(hb.cell (cell_lt h1)).trans h1, (hb.cell (cell_lt h2)).trans h2, (hb.cell (cell_lt h3)).trans h3⟩
theorem CRow.at_ {w : World} {a : Option Addr} {cs : List Cl} (h : CRow w a cs) {k : Nat} (hk : k < cs.length) :
    ∃ b off c, a = some ⟨b, off, none⟩ ∧ cs[k]? = some c ∧ b < w.heap.size ∧ w.cell? ⟨b, off + k * 3, none⟩ = some (.int .u64 (c.f : Int)) ∧ w.cell? ⟨b, off + k * 3 + 1, none⟩ = some (.int .i64 c.k) ∧ w.cell? ⟨b, off + k * 3 + 2, none⟩ = some (.int .i64 c.v) := by
  rcases h with h | ⟨b, off, rfl, hc⟩
  · subst h; simp at hk
  · have e : cs[k]? = some cs[k] := List.getElem?_eq_getElem hk
    obtain ⟨h1, h2, h3⟩ := hc k _ e
    exact ⟨b, off, cs[k], rfl, e, cell_lt h1, h1, h2, h3⟩

def okAt (d : Nat) (c : Cl) : Bool := cellOk d c.f c.k c.v
/-- What the checks answer. -/
def chkC (d : Int) (cs : List Cl) : Int := if d < 0 ∨ 64 < d then 41 else if (cs.length : Int) ≠ d then 40 else if cs.all (okAt d.toNat) then 0 else 40
def dimC (d : Int) : Int := if d < 0 ∨ 64 < d then 41 else 0

theorem checkDim_any (d : Int) (w : World) : Calls Tryd.prog 50 #[.int .i64 d] w fun e w' => e = .returned (.int .i64 (dimC d)) ∧ w = w' := by
  by_cases h0 : d < 0
  · have H := Lib.hid (show dimC d = 41 by simp [dimC, h0])
    go_enter Tryd.func50, Tryd.ntmps50
    go_wp2
    go_ret
    exact ⟨rint H.out.symm, rfl⟩
  by_cases h1 : 64 < d
  · have H := Lib.hid (show dimC d = 41 by simp [dimC, h1])
    go_enter Tryd.func50, Tryd.ntmps50
    go_wp2
    go_ret
    exact ⟨rint H.out.symm, rfl⟩
  · have H := Lib.hid (show dimC d = 0 by simp [dimC, h0, h1])
    go_enter Tryd.func50, Tryd.ntmps50
    go_wp2
    go_ret
    exact ⟨rint H.out.symm, rfl⟩
theorem dim_any (d : Int) (w : World) : Calls Tryd.prog 52 #[.int .i64 d] w fun e w' => e = .returned (.int .i64 (dimC d)) ∧ w = w' := by
  by_cases h0 : d < 0
  · have H := Lib.hid (show dimC d = 41 by simp [dimC, h0])
    go_enter Tryd.func52, Tryd.ntmps52
    go_wp2
    go_ret
    exact ⟨rint H.out.symm, rfl⟩
  by_cases h1 : 64 < d
  · have H := Lib.hid (show dimC d = 41 by simp [dimC, h1])
    go_enter Tryd.func52, Tryd.ntmps52
    go_wp2
    go_ret
    exact ⟨rint H.out.symm, rfl⟩
  · have H := Lib.hid (show dimC d = 0 by simp [dimC, h0, h1])
    go_enter Tryd.func52, Tryd.ntmps52
    go_wp2
    go_ret
    exact ⟨rint H.out.symm, rfl⟩
theorem dim_is (d : Int) (w : World) (c : Int) (hc : dimC d = c) : Calls Tryd.prog 52 #[.int .i64 d] w fun e w' => e = .returned (.int .i64 c) ∧ w = w' := by subst hc; exact dim_any d w
theorem checkDim_is (d : Int) (w : World) (c : Int) (hc : dimC d = c) : Calls Tryd.prog 50 #[.int .i64 d] w fun e w' => e = .returned (.int .i64 c) ∧ w = w' := by subst hc; exact checkDim_any d w

theorem take_all_succ {α : Type} {p : α → Bool} {zs : List α} {k : Nat} {z : α} (hz : zs[k]? = some z) (h : (zs.take k).all p = true) (hp : p z = true) : (zs.take (k + 1)).all p = true := by
  obtain ⟨hk, e⟩ := List.getElem?_eq_some_iff.1 hz
  rw [List.take_succ_eq_append_getElem hk, List.all_append, h]
  simp [e, hp]
theorem all_false {α : Type} {p : α → Bool} {zs : List α} {k : Nat} {z : α} (hz : zs[k]? = some z) (hp : p z = false) : zs.all p = false := by
  obtain ⟨hk, e⟩ := List.getElem?_eq_some_iff.1 hz
  rw [List.all_eq_false]
  exact ⟨z, by rw [← e]; exact List.getElem_mem hk, by rw [hp]; simp⟩
theorem chkC_bad {n : Nat} {cs : List Cl} {k : Nat} {c : Cl} (hn : n ≤ 64) (hl : cs.length = n) (hz : cs[k]? = some c) (hp : okAt n c = false) : chkC n cs = 40 := by
  unfold chkC
  rw [if_neg (by omega), if_neg (by omega), Int.toNat_natCast, all_false hz hp]; rfl
theorem chkC_good {n : Nat} {cs : List Cl} {k : Nat} (hn : n ≤ 64) (hl : cs.length = n) (hk : cs.length ≤ k) (h : (cs.take k).all (okAt n) = true) : chkC n cs = 0 := by
  rw [List.take_of_length_le hk] at h
  unfold chkC
  rw [if_neg (by omega), if_neg (by omega), Int.toNat_natCast, h]; rfl

set_option maxHeartbeats 1000000 in
theorem check_any (d : Int) (a : Option Addr) (cap : Nat) (cs : List Cl) (w : World) (hm : cs.length ≤ maxLen) (hrow : CRow w a cs) (hbits : Bits cs) :
    Calls Tryd.prog 16 #[.int .i64 d, .slice a cs.length cap] w fun e w' => e = .returned (.int .i64 (chkC d cs)) ∧ Below w.heap.size w w' := by
  unfold maxLen at hm
  have HROW := Lib.hid hrow
  have HBITS := Lib.hid hbits
  clear hrow hbits
  by_cases hd : d < 0 ∨ 64 < d
  · have H := Lib.hid (show chkC d cs = 41 by simp [chkC, hd])
    have H2 := Lib.hid (show dimC d = 41 by simp [dimC, hd])
    clear hd
    go_enter Tryd.func16, Tryd.ntmps16
    go_wp2_with (go_at_call 50; refine (checkDim_is _ _ 41 H2.out).mono ?_; rintro e w' ⟨rfl, rfl⟩)
    go_ret
    exact ⟨rint H.out.symm, Below.refl _ _⟩
  obtain ⟨n, rfl⟩ : ∃ n : Nat, d = n := ⟨d.toNat, by omega⟩
  have hn : n ≤ 64 := by omega
  have H2 := Lib.hid (show dimC n = 0 by simp [dimC, hd])
  clear hd
  by_cases hl : cs.length = n
  · have HL := Lib.hid hl
    have hne : ((cs.length : Int) != (n : Int)) = false := by simp [hl]
    have hn' : cs.length ≤ 64 := by omega
    clear hl
    go_enter Tryd.func16, Tryd.ntmps16
    go_wp2_with (go_at_call 50; refine (checkDim_is _ _ 0 H2.out).mono ?_; rintro e w' ⟨rfl, rfl⟩)
    go_loopw [19] (fun i wr => ∃ k : Nat, k ≤ cs.length ∧ i = .int .i64 k ∧ Hid ((cs.take k).all (okAt n) = true) ∧ Below w.heap.size w wr) (fun i _ => cs.length - (intOf i).toNat)
    case atStart => exact ⟨0, Nat.zero_le _, rfl, by simp [Hid], Below.refl _ _⟩
    case round =>
      obtain ⟨k, hk, rfl, HA, hb⟩ := hrel
      by_cases hlt : k < cs.length
      · obtain ⟨b, off, c, rfl, hz, hblt, c0, c1, c2⟩ := (HROW.out.below hb).at_ hlt
        have hf : c.f < 18446744073709551616 := HBITS.out c (List.mem_of_getElem? hz)
        have HZ := Lib.hid hz
        clear hz
        cases hok : okAt n c
        · have H := Lib.hid (chkC_bad hn HL.out HZ.out hok)
          have HOK : Hid (cellOk n c.f c.k c.v = false) := hok
          clear hok
          go_wp2_with (go_at_call 51; refine (mayBe_any n c.f c.k c.v _ hf hn).mono ?_; rintro e w3 ⟨rfl, hb3⟩; rw [HOK.out])
          go_ret
          exact ⟨rint H.out.symm, (hb.alloc hb.size _).trans (hb3.mono (by have := hb.size; simp; omega))⟩
        · have H := Lib.hid (take_all_succ HZ.out HA.out hok)
          have HOK : Hid (cellOk n c.f c.k c.v = true) := hok
          clear hok
          go_wp2_with (go_at_call 51; refine (mayBe_any n c.f c.k c.v _ hf hn).mono ?_; rintro e w3 ⟨rfl, hb3⟩; rw [HOK.out])
          go_roundw
          case rel => exact ⟨k + 1, by omega, by go_num, H, (hb.alloc hb.size _).trans (hb3.mono (by have := hb.size; simp; omega))⟩
          case measure => simp [intOf]; omega
      · have H := Lib.hid (chkC_good hn HL.out (by omega) HA.out)
        go_wp2
        go_ret
        exact ⟨rint H.out.symm, hb⟩
  · have H := Lib.hid (show chkC n cs = 40 by simp [chkC]; omega)
    have hne : ((cs.length : Int) != (n : Int)) = true := by simp; omega
    clear hl
    go_enter Tryd.func16, Tryd.ntmps16
    go_wp2_with (go_at_call 50; refine (checkDim_is _ _ 0 H2.out).mono ?_; rintro e w' ⟨rfl, rfl⟩)
    go_ret
    exact ⟨rint H.out.symm, Below.refl _ _⟩

set_option maxHeartbeats 1000000 in
theorem checkRef_any (d : Int) (a : Option Addr) (cap : Nat) (cs : List Cl) (w : World) (hm : cs.length ≤ maxLen) (hrow : CRow w a cs) (hbits : Bits cs) :
    Calls Tryd.prog 17 #[.int .i64 d, .slice a cs.length cap] w fun e w' => e = .returned (.int .i64 (chkC d cs)) ∧ Below w.heap.size w w' := by
  unfold maxLen at hm
  have HROW := Lib.hid hrow
  have HBITS := Lib.hid hbits
  clear hrow hbits
  by_cases hd : d < 0 ∨ 64 < d
  · have H := Lib.hid (show chkC d cs = 41 by simp [chkC, hd])
    have H2 := Lib.hid (show dimC d = 41 by simp [dimC, hd])
    clear hd
    go_enter Tryd.func17, Tryd.ntmps17
    go_wp2_with (go_at_call 52; refine (dim_is _ _ 41 H2.out).mono ?_; rintro e w' ⟨rfl, rfl⟩)
    go_ret
    exact ⟨rint H.out.symm, Below.refl _ _⟩
  obtain ⟨n, rfl⟩ : ∃ n : Nat, d = n := ⟨d.toNat, by omega⟩
  have hn : n ≤ 64 := by omega
  have H2 := Lib.hid (show dimC n = 0 by simp [dimC, hd])
  clear hd
  by_cases hl : cs.length = n
  · have HL := Lib.hid hl
    have hne : ((cs.length : Int) != (n : Int)) = false := by simp [hl]
    have hn' : cs.length ≤ 64 := by omega
    have hg1 : n ≤ cs.length := by omega
    have hg2 : cs.length ≤ n := by omega
    clear hl
    go_enter Tryd.func17, Tryd.ntmps17
    go_wp2_with (go_at_call 52; refine (dim_is _ _ 0 H2.out).mono ?_; rintro e w' ⟨rfl, rfl⟩)
    go_loopw [6] (fun i wr => ∃ k : Nat, k ≤ n ∧ i = .int .i64 k ∧ Hid ((cs.take k).all (okAt n) = true) ∧ Below w.heap.size w wr) (fun i _ => n - (intOf i).toNat)
    case atStart => exact ⟨0, Nat.zero_le _, rfl, by simp [Hid], Below.refl _ _⟩
    case round =>
      obtain ⟨k, hk, rfl, HA, hb⟩ := hrel
      by_cases hlt : k < n
      · have hlt2 : k < cs.length := by omega
        obtain ⟨b, off, c, rfl, hz, hblt, c0, c1, c2⟩ := (HROW.out.below hb).at_ hlt2
        have hf : c.f < 18446744073709551616 := HBITS.out c (List.mem_of_getElem? hz)
        have HZ := Lib.hid hz
        clear hz
        cases hok : okAt n c
        · have H := Lib.hid (chkC_bad hn HL.out HZ.out hok)
          have HOK : Hid (cellOk n c.f c.k c.v = false) := hok
          clear hok
          go_wp2_with (go_at_call 53; refine (cell_any n c.f c.k c.v _ hf hn).mono ?_; rintro e w3 ⟨rfl, hb3⟩; rw [HOK.out])
          go_ret
          exact ⟨rint H.out.symm, hb.trans (hb3.mono hb.size)⟩
        · have H := Lib.hid (take_all_succ HZ.out HA.out hok)
          have HOK : Hid (cellOk n c.f c.k c.v = true) := hok
          clear hok
          go_wp2_with (go_at_call 53; refine (cell_any n c.f c.k c.v _ hf hn).mono ?_; rintro e w3 ⟨rfl, hb3⟩; rw [HOK.out])
          go_roundw
          case rel => exact ⟨k + 1, by omega, by go_num, H, hb.trans (hb3.mono hb.size)⟩
          case measure => simp [intOf]; omega
      · have H := Lib.hid (chkC_good hn HL.out (by omega) HA.out)
        go_wp2
        go_ret
        exact ⟨rint H.out.symm, hb⟩
  · have H := Lib.hid (show chkC n cs = 40 by simp [chkC]; omega)
    have hne : ((cs.length : Int) != (n : Int)) = true := by simp; omega
    clear hl
    go_enter Tryd.func17, Tryd.ntmps17
    go_wp2_with (go_at_call 52; refine (dim_is _ _ 0 H2.out).mono ?_; rintro e w' ⟨rfl, rfl⟩)
    go_ret
    exact ⟨rint H.out.symm, Below.refl _ _⟩
end Go.Proofs.YtkekldebklghoaaDoor
