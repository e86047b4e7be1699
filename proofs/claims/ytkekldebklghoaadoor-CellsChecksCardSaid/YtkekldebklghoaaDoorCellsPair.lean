/-
  THE CELLS LAYER: both of two cells, one answer for the program and the reference; both checks of two rows.
-/
import Derived.Test.YtkekldebklghoaaDoorCellsRows
import Derived.Test.YtkekldebklghoaaDoorCellsJoin
import Derived.Test.YtkekldebklghoaaDoorCellsTwo
import Derived.Laws.Bits64b
namespace Go.Proofs.YtkekldebklghoaaDoor
open Go.RowKit
set_option linter.unusedVariables false

def Cl.ok (c : Cl) : Prop := c.f < 18446744073709551616 ∧ kindOk c.f c.k c.v = true
def joinK (k v k2 v2 : Int) : Int := if k = 0 then k2 else if k2 = 0 then k else if k = 1 ∧ k2 = 1 ∧ v = v2 then 1 else 2
def joinV (k v k2 v2 : Int) : Int := if k = 0 then v2 else if k2 = 0 then v else if k = 1 ∧ k2 = 1 ∧ v = v2 then v else 0
def join (a b : Cl) : Cl := ⟨if joinK a.k a.v b.k b.v = 2 then 0 else a.f ||| b.f, joinK a.k a.v b.k b.v, joinV a.k a.v b.k b.v⟩

theorem kind_cases {f : Nat} {k v : Int} (h : kindOk f k v = true) : (k = 0 ∧ v = 0) ∨ k = 1 ∨ (k = 2 ∧ v = 0) := by
  unfold kindOk at h
  split at h
  · left; simp at h; exact ⟨by assumption, h⟩
  · split at h
    · right; left; assumption
    · split at h
      · right; right; simp at h; exact ⟨by assumption, h.1⟩
      · cases h
theorem or_cast (a b : Nat) (ha : a < 18446744073709551616) (hb : b < 18446744073709551616) : bits .or .u64 (a : Int) (b : Int) = ((a ||| b : Nat) : Int) := bits_or_u64_nat a b ha hb

def JoinPost (a b : Cl) (w : World) (e : Ending) (w' : World) : Prop := e = .returned (join a b).val ∧ Below w.heap.size w w'
theorem to_post {f f2 : Nat} {k v k2 v2 : Int} {F K V : Int} {w : World} (hF : F = ((if joinK k v k2 v2 = 2 then 0 else f ||| f2 : Nat) : Int)) (hK : K = joinK k v k2 v2) (hV : V = joinV k v k2 v2) :
    ∀ e w', (e = Ending.returned (.agg #[.int .u64 F, .int .i64 K, .int .i64 V]) ∧ Below w.heap.size w w') → JoinPost ⟨f, k, v⟩ ⟨f2, k2, v2⟩ w e w' := by
  rintro e w' ⟨rfl, hb⟩
  exact ⟨by simp only [join, Cl.val]; rw [hF, hK, hV], hb⟩

theorem joined_any (a b : Cl) (ha : a.ok) (hb : b.ok) (w : World) : Calls Tryd.prog 59 #[a.val, b.val] w (JoinPost a b w) := by
  obtain ⟨f, k, v⟩ := a
  obtain ⟨f2, k2, v2⟩ := b
  obtain ⟨hf, hk⟩ := ha
  obtain ⟨hf2, hk2⟩ := hb
  simp only at hf hk hf2 hk2
  have ho := or_cast f f2 hf hf2
  rcases kind_cases hk with ⟨rfl, rfl⟩ | rfl | ⟨rfl, rfl⟩ <;> rcases kind_cases hk2 with ⟨rfl, rfl⟩ | rfl | ⟨rfl, rfl⟩
  · exact (joined_00 f f2 w).mono (to_post (by simp [joinK, ho]) (by simp [joinK]) (by simp [joinV]))
  · exact (joined_01 f f2 v2 w).mono (to_post (by simp [joinK, ho]) (by simp [joinK]) (by simp [joinV]))
  · exact (joined_02 f f2 w).mono (to_post (by simp [joinK]) (by simp [joinK]) (by simp [joinV]))
  · exact (joined_10 f f2 v w).mono (to_post (by simp [joinK, ho]) (by simp [joinK]) (by simp [joinV]))
  · by_cases hv : v = v2
    · subst hv
      exact (joined_11 f f2 v w).mono (to_post (by simp [joinK, ho]) (by simp [joinK]) (by simp [joinV]))
    · exact (joined_1x f f2 v v2 (by simp [hv]) w).mono (to_post (by simp [joinK, hv]) (by simp [joinK, hv]) (by simp [joinV, hv]))
  · exact (joined_12 f f2 v w).mono (to_post (by simp [joinK]) (by simp [joinK]) (by simp [joinV]))
  · exact (joined_20 f f2 w).mono (to_post (by simp [joinK]) (by simp [joinK]) (by simp [joinV]))
  · exact (joined_21 f f2 v2 w).mono (to_post (by simp [joinK]) (by simp [joinK]) (by simp [joinV]))
  · exact (joined_22 f f2 w).mono (to_post (by simp [joinK]) (by simp [joinK]) (by simp [joinV]))
theorem two_any (a b : Cl) (ha : a.ok) (hb : b.ok) (w : World) : Calls Tryd.prog 58 #[a.val, b.val] w (JoinPost a b w) := by
  obtain ⟨f, k, v⟩ := a
  obtain ⟨f2, k2, v2⟩ := b
  obtain ⟨hf, hk⟩ := ha
  obtain ⟨hf2, hk2⟩ := hb
  simp only at hf hk hf2 hk2
  have ho := or_cast f f2 hf hf2
  rcases kind_cases hk with ⟨rfl, rfl⟩ | rfl | ⟨rfl, rfl⟩ <;> rcases kind_cases hk2 with ⟨rfl, rfl⟩ | rfl | ⟨rfl, rfl⟩
  · exact (two_00 f f2 w).mono (to_post (by simp [joinK, ho]) (by simp [joinK]) (by simp [joinV]))
  · exact (two_01 f f2 v2 w).mono (to_post (by simp [joinK, ho]) (by simp [joinK]) (by simp [joinV]))
  · exact (two_02 f f2 w).mono (to_post (by simp [joinK]) (by simp [joinK]) (by simp [joinV]))
  · exact (two_10 f f2 v w).mono (to_post (by simp [joinK, ho]) (by simp [joinK]) (by simp [joinV]))
  · by_cases hv : v = v2
    · subst hv
      exact (two_11 f f2 v w).mono (to_post (by simp [joinK, ho]) (by simp [joinK]) (by simp [joinV]))
    · exact (two_1x f f2 v v2 (by simp [hv]) w).mono (to_post (by simp [joinK, hv]) (by simp [joinK, hv]) (by simp [joinV, hv]))
  · exact (two_12 f f2 v w).mono (to_post (by simp [joinK]) (by simp [joinK]) (by simp [joinV]))
  · exact (two_20 f f2 w).mono (to_post (by simp [joinK]) (by simp [joinK]) (by simp [joinV]))
  · exact (two_21 f f2 v2 w).mono (to_post (by simp [joinK]) (by simp [joinK]) (by simp [joinV]))
  · exact (two_22 f f2 w).mono (to_post (by simp [joinK]) (by simp [joinK]) (by simp [joinV]))

theorem check_is (d : Int) (a : Option Addr) (len cap : Nat) (cs : List Cl) (w : World) (c : Int) (hl : cs.length = len) (hm : cs.length ≤ maxLen) (hrow : CRow w a cs) (hbits : Bits cs) (hc : chkC d cs = c) :
    Calls Tryd.prog 16 #[.int .i64 d, .slice a len cap] w fun e w' => e = .returned (.int .i64 c) ∧ Below w.heap.size w w' := by
  subst hl; subst hc; exact check_any d a cap cs w hm hrow hbits
theorem checkRef_is (d : Int) (a : Option Addr) (len cap : Nat) (cs : List Cl) (w : World) (c : Int) (hl : cs.length = len) (hm : cs.length ≤ maxLen) (hrow : CRow w a cs) (hbits : Bits cs) (hc : chkC d cs = c) :
    Calls Tryd.prog 17 #[.int .i64 d, .slice a len cap] w fun e w' => e = .returned (.int .i64 c) ∧ Below w.heap.size w w' := by
  subst hl; subst hc; exact checkRef_any d a cap cs w hm hrow hbits

def chk2C (d : Int) (xs ys : List Cl) : Int := if chkC d xs = 0 then chkC d ys else chkC d xs
theorem checkBoth_any (d : Int) (a b : Option Addr) (capa capb : Nat) (xs ys : List Cl) (w : World) (hma : xs.length ≤ maxLen) (hmb : ys.length ≤ maxLen) (hra : CRow w a xs) (hrb : CRow w b ys) (hba : Bits xs) (hbb : Bits ys) (c : Int) (hc : chk2C d xs ys = c) :
    Calls Tryd.prog 55 #[.int .i64 d, .slice a xs.length capa, .slice b ys.length capb] w fun e w' => e = .returned (.int .i64 c) ∧ Below w.heap.size w w' := by
  have HMA := Lib.hid hma; have HMB := Lib.hid hmb; have HRA := Lib.hid hra; have HRB := Lib.hid hrb; have HBA := Lib.hid hba; have HBB := Lib.hid hbb
  clear hma hmb hra hrb hba hbb
  by_cases h0 : chkC d xs = 0
  · have H0 := Lib.hid h0
    have H1 := Lib.hid (show chkC d ys = c by simpa [chk2C, h0] using hc)
    clear h0 hc
    go_enter Tryd.func55, Tryd.ntmps55
    go_wp2_with fail
    refine (check_is _ _ _ _ xs _ 0 rfl HMA.out HRA.out HBA.out H0.out).mono ?_
    rintro e w1 ⟨rfl, hb1⟩
    go_wp2_with fail
    refine (check_is _ _ _ _ ys _ c rfl HMB.out (HRB.out.below hb1) HBB.out H1.out).mono ?_
    rintro e w2 ⟨rfl, hb2⟩
    go_wp2
    go_ret
    exact ⟨rfl, hb1.trans (hb2.mono hb1.size)⟩
  · have H1 := Lib.hid (show chkC d xs = c by simpa [chk2C, h0] using hc)
    have hne : (c != 0) = true := by rw [← H1.out]; simpa using h0
    clear h0 hc
    go_enter Tryd.func55, Tryd.ntmps55
    go_wp2_with fail
    refine (check_is _ _ _ _ xs _ c rfl HMA.out HRA.out HBA.out H1.out).mono ?_
    rintro e w1 ⟨rfl, hb1⟩
    go_wp2
    go_ret
    exact ⟨rfl, hb1⟩
theorem checks_any (d : Int) (a b : Option Addr) (capa capb : Nat) (xs ys : List Cl) (w : World) (hma : xs.length ≤ maxLen) (hmb : ys.length ≤ maxLen) (hra : CRow w a xs) (hrb : CRow w b ys) (hba : Bits xs) (hbb : Bits ys) (c : Int) (hc : chk2C d xs ys = c) :
    Calls Tryd.prog 57 #[.int .i64 d, .slice a xs.length capa, .slice b ys.length capb] w fun e w' => e = .returned (.int .i64 c) ∧ Below w.heap.size w w' := by
  have HMA := Lib.hid hma; have HMB := Lib.hid hmb; have HRA := Lib.hid hra; have HRB := Lib.hid hrb; have HBA := Lib.hid hba; have HBB := Lib.hid hbb
  clear hma hmb hra hrb hba hbb
  by_cases h0 : chkC d xs = 0
  · have H0 := Lib.hid h0
    have H1 := Lib.hid (show chkC d ys = c by simpa [chk2C, h0] using hc)
    clear h0 hc
    go_enter Tryd.func57, Tryd.ntmps57
    go_wp2_with fail
    refine (checkRef_is _ _ _ _ xs _ 0 rfl HMA.out HRA.out HBA.out H0.out).mono ?_
    rintro e w1 ⟨rfl, hb1⟩
    go_wp2_with fail
    refine (checkRef_is _ _ _ _ ys _ c rfl HMB.out (HRB.out.below hb1) HBB.out H1.out).mono ?_
    rintro e w2 ⟨rfl, hb2⟩
    go_wp2
    go_ret
    exact ⟨rfl, hb1.trans (hb2.mono hb1.size)⟩
  · have H1 := Lib.hid (show chkC d xs = c by simpa [chk2C, h0] using hc)
    have hne : (c != 0) = true := by rw [← H1.out]; simpa using h0
    clear h0 hc
    go_enter Tryd.func57, Tryd.ntmps57
    go_wp2_with fail
    refine (checkRef_is _ _ _ _ xs _ c rfl HMA.out HRA.out HBA.out H1.out).mono ?_
    rintro e w1 ⟨rfl, hb1⟩
    go_wp2
    go_ret
    exact ⟨rfl, hb1⟩
end Go.Proofs.YtkekldebklghoaaDoor
