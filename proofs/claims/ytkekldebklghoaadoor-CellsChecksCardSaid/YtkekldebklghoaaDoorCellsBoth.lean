/-
  THE CELLS LAYER: Both of two rows, of the reference.
-/
import Derived.Test.YtkekldebklghoaaDoorCellsPair
import Derived.Test.YtkekldebklghoaaDoorCellsOwn
import Derived.Deep.AppendLies
namespace Go.Proofs.YtkekldebklghoaaDoor
open Go.RowKit
set_option linter.unusedVariables false

def bothC (xs ys : List Cl) : List Cl := List.zipWith join xs ys
theorem okAt_ok {n : Nat} {c : Cl} (hf : c.f < 18446744073709551616) (h : okAt n c = true) : c.ok := by
  unfold okAt cellOk at h
  simp only [Bool.and_eq_true] at h
  exact ⟨hf, h.2⟩
theorem chkC_zero {d : Int} {cs : List Cl} (h : chkC d cs = 0) : 0 ≤ d ∧ d ≤ 64 ∧ (cs.length : Int) = d ∧ cs.all (okAt d.toNat) = true := by
  unfold chkC at h
  split at h
  · omega
  · split at h
    · omega
    · cases hz : cs.all (okAt d.toNat) <;> rw [hz] at h <;> simp at h
      exact ⟨by omega, by omega, by omega, rfl⟩
theorem chk2C_zero {d : Int} {xs ys : List Cl} (h : chk2C d xs ys = 0) : chkC d xs = 0 ∧ chkC d ys = 0 := by
  unfold chk2C at h
  split at h
  · exact ⟨by assumption, h⟩
  · exact absurd h (by assumption)
theorem ok_get {n : Nat} {cs : List Cl} (hb : Bits cs) (h : cs.all (okAt n) = true) {i : Nat} {c : Cl} (hi : cs[i]? = some c) : c.ok := by
  rw [List.all_eq_true] at h
  exact okAt_ok (hb c (List.mem_of_getElem? hi)) (h c (List.mem_of_getElem? hi))
theorem zip_snoc {xs ys : List Cl} {k : Nat} {x y : Cl} (hx : xs[k]? = some x) (hy : ys[k]? = some y) : (bothC xs ys).take (k + 1) = (bothC xs ys).take k ++ [join x y] := by
  have h : (bothC xs ys)[k]? = some (join x y) := by simp [bothC, List.getElem?_zipWith, hx, hy]
  obtain ⟨hk, e⟩ := List.getElem?_eq_some_iff.1 h
  rw [List.take_succ_eq_append_getElem hk, e]
theorem both_length {xs ys : List Cl} {n : Nat} (h1 : xs.length = n) (h2 : ys.length = n) : (bothC xs ys).length = n := by simp [bothC, h1, h2]

def bothR (d : Int) (xs ys : List Cl) : List Cl := if chk2C d xs ys = 0 then bothC xs ys else []

theorem cell_one (w : World) (T : Nat) (f k v : Value) : ∀ j u, [f, k, v][j]? = some u → (w.alloc (.cells #[f, k, v] T)).cell? ((⟨w.heap.size, 0, none⟩ : Addr).add j) = some u := by
  intro j u h
  match j, h with
  | 0, h => simp at h; subst h; simp [Addr.add, World.cell?_alloc_new]
  | 1, h => simp at h; subst h; simp [Addr.add, World.cell?_alloc_new]
  | 2, h => simp at h; subst h; simp [Addr.add, World.cell?_alloc_new]

theorem two_is (x y z : Cl) (hx : x.ok) (hy : y.ok) (hz : join x y = z) (w : World) : Calls Tryd.prog 58 #[x.val, y.val] w fun e w' => e = .returned z.val ∧ Below w.heap.size w w' := by
  subst hz; exact two_any x y hx hy w
theorem joined_is (x y z : Cl) (hx : x.ok) (hy : y.ok) (hz : join x y = z) (w : World) : Calls Tryd.prog 59 #[x.val, y.val] w fun e w' => e = .returned z.val ∧ Below w.heap.size w w' := by
  subst hz; exact joined_any x y hx hy w
theorem six_below {w w' : World} {B p q : Nat} {o1 o2 : Nat} {v0 v1 v2 u0 u1 u2 : Value} (hb : Below B w w') (hp : p < B) (hq : q < B)
    (h : w.cell? ⟨p, o1, none⟩ = some v0 ∧ w.cell? ⟨p, o1 + 1, none⟩ = some v1 ∧ w.cell? ⟨p, o1 + 2, none⟩ = some v2 ∧ w.cell? ⟨q, o2, none⟩ = some u0 ∧ w.cell? ⟨q, o2 + 1, none⟩ = some u1 ∧ w.cell? ⟨q, o2 + 2, none⟩ = some u2) :
    w'.cell? ⟨p, o1, none⟩ = some v0 ∧ w'.cell? ⟨p, o1 + 1, none⟩ = some v1 ∧ w'.cell? ⟨p, o1 + 2, none⟩ = some v2 ∧ w'.cell? ⟨q, o2, none⟩ = some u0 ∧ w'.cell? ⟨q, o2 + 1, none⟩ = some u1 ∧ w'.cell? ⟨q, o2 + 2, none⟩ = some u2 := by
  obtain ⟨a0, a1, a2, b0, b1, b2⟩ := h
  exact ⟨(hb.cell (p := ⟨p, _, none⟩) hp).trans a0, (hb.cell (p := ⟨p, _, none⟩) hp).trans a1, (hb.cell (p := ⟨p, _, none⟩) hp).trans a2, (hb.cell (p := ⟨q, _, none⟩) hq).trans b0, (hb.cell (p := ⟨q, _, none⟩) hq).trans b1, (hb.cell (p := ⟨q, _, none⟩) hq).trans b2⟩

set_option maxRecDepth 100000 in
set_option maxHeartbeats 2000000 in
theorem bothRef_any (d : Int) (a b : Option Addr) (capa capb : Nat) (xs ys : List Cl) (w : World) (hma : xs.length ≤ maxLen) (hmb : ys.length ≤ maxLen) (hra : CRow w a xs) (hrb : CRow w b ys) (hba : Bits xs) (hbb : Bits ys) (c : Int) (hc : chk2C d xs ys = c) :
    Calls Tryd.prog 22 #[.int .i64 d, .slice a xs.length capa, .slice b ys.length capb] w (CellsRet (bothR d xs ys) c w) := by
  have HMA := Lib.hid hma; have HMB := Lib.hid hmb; have HRA := Lib.hid hra; have HRB := Lib.hid hrb; have HBA := Lib.hid hba; have HBB := Lib.hid hbb
  have HC := Lib.hid hc
  clear hma hmb hra hrb hba hbb
  by_cases h0 : c = 0
  · subst h0
    obtain ⟨k1, k2⟩ := chk2C_zero hc
    obtain ⟨d0, d1, la, oka⟩ := chkC_zero k1
    obtain ⟨_, _, lb, okb⟩ := chkC_zero k2
    obtain ⟨n, rfl⟩ : ∃ n : Nat, d = n := ⟨d.toNat, by omega⟩
    have hla : xs.length = n := by omega
    have hlb : ys.length = n := by omega
    have HR := Lib.hid (show bothR n xs ys = bothC xs ys by simp [bothR, hc])
    have HN := Lib.hid (both_length hla hlb)
    have OKA := Lib.hid oka; have OKB := Lib.hid okb
    have ga1 : n ≤ xs.length := by omega
    have gb1 : n ≤ ys.length := by omega
    have ga2 : xs.length ≤ n := by omega
    have gb2 : ys.length ≤ n := by omega
    have hn : n ≤ 64 := by omega
    obtain ⟨i0, hi, hz0, hz1, hz2⟩ := info_parts infoC
    clear hc k1 k2 d0 d1 la oka lb okb hla hlb
    go_enter Tryd.func22, Tryd.ntmps22
    go_wp2_with fail
    refine (checks_any _ a b capa capb xs ys _ HMA.out HMB.out HRA.out HRB.out HBA.out HBB.out 0 HC.out).mono ?_
    rintro e w1 ⟨rfl, hb1⟩
    go_wp2_with fail
    go_loopw [9, 10] (fun l i wr => ∃ k : Nat, k ≤ n ∧ i = .int .i64 k ∧ Hid (wr.ownsRow w.heap.size 51 3 l k (flat ((bothC xs ys).take k))) ∧ Below w.heap.size w wr) (fun _ i _ => n - (intOf i).toNat)
    case atStart => exact ⟨0, Nat.zero_le _, rfl, World.ownsRow_nil w1 w.heap.size _ 3, hb1⟩
    case round =>
      obtain ⟨k, hk, rfl, HO, hb⟩ := hrel
      by_cases hlt : k < n
      · obtain ⟨ba, offa, x, rfl, hx, hba, a0, a1, a2⟩ := HRA.out.at_ (show k < xs.length by omega)
        obtain ⟨bb, offb, y, rfl, hy, hbb, b0, b1, b2⟩ := HRB.out.at_ (show k < ys.length by omega)
        have HF : Hid (_ ∧ _ ∧ _ ∧ _ ∧ _ ∧ _) := ⟨a0, a1, a2, b0, b1, b2⟩
        clear a0 a1 a2 b0 b1 b2
        obtain ⟨a0, a1, a2, b0, b1, b2⟩ := six_below hb hba hbb HF.out
        have OX := Lib.hid (ok_get HBA.out OKA.out hx)
        have OY := Lib.hid (ok_get HBB.out OKB.out hy)
        obtain ⟨z, hz⟩ : ∃ z, join x y = z := ⟨_, rfl⟩
        have HZ := Lib.hid (zip_snoc hx hy)
        rw [hz] at HZ
        have HJ := Lib.hid hz
        clear hx hy hz
        have g0 : (0 : Int) ≤ (k : Int) := by omega
        have g1 : (k : Int) < (xs.length : Int) := by omega
        have g2 : (k : Int) < (ys.length : Int) := by omega
        go_wp2_with fail
        go_region_held3 (fun w' => w'.cell? ⟨ba, offa + k * 3, none⟩ = some (.int .u64 (x.f : Int)) ∧ w'.cell? ⟨ba, offa + k * 3 + 1, none⟩ = some (.int .i64 x.k) ∧ w'.cell? ⟨ba, offa + k * 3 + 2, none⟩ = some (.int .i64 x.v) ∧ w'.cell? ⟨bb, offb + k * 3, none⟩ = some (.int .u64 (y.f : Int)) ∧ w'.cell? ⟨bb, offb + k * 3 + 1, none⟩ = some (.int .i64 y.k) ∧ w'.cell? ⟨bb, offb + k * 3 + 2, none⟩ = some (.int .i64 y.v))
          (first | exact ⟨a0, a1, a2, b0, b1, b2⟩ | exact six_below hB3 hba hbb HF.out | exact six_below (hB3.alloc hB3.size _) hba hbb HF.out | exact six_below hB4 hba hbb HF.out | fail)
          (first | (go_at_call 58; refine (two_is x y z OX.out OY.out HJ.out _).mono ?_; rintro e w3 ⟨rfl, hb3⟩; have hB3 : Below w.heap.size w w3 := hb.drew.trans (hb3.mono hb.size); have hown : Hid (w3.ownsRow w.heap.size 51 3 u9 k (flat ((bothC xs ys).take k))) := own_below (w := wr.drew) HO.out hb3) | (refine step_append_lies (w3.alloc (.cells #[.int .u64 (z.f : Int), .int .i64 z.k, .int .i64 z.v] 51)) ?_ (.tmp 23) (.tmp 33) 22 ?_ w.heap.size 51 i0 _ 3 24 Tryd.underlying22 hi hz0 hz1 hz2 ?_ ?_ u9 k (flat ((bothC xs ys).take k)) ?_ ?_ ⟨w3.heap.size, 0, none⟩ 1 1 [.int .u64 (z.f : Int), .int .i64 z.k, .int .i64 z.v] ?_ ?_ ?_ ?_ ?_ ?_ ?_ ?_ (w3.heap.size + 1) ?_ ?_; rfl; rfl; rfl; omega; rfl; exact hown.out.alloc _; rfl; rfl; exact (World.news_of_block (cs := #[.int .u64 (z.f : Int), .int .i64 z.k, .int .i64 z.v]) (t := 51) (fr := (0, 0)) (heap_alloc_new w3 _)); simp [Value.oneCell']; omega; (unfold maxLen; omega); omega; (have := hB3.size; simp; omega); simp; intro gg cp w5 hown1 hgrow hat hlt5; have hB4 : Below w.heap.size w w5 := (hB3.alloc hB3.size _).grown hgrow (by have := hB3.size; simp; omega) (fun j e => (hown.out.lt j e).1)) | fail)
        have HO2 : Hid (w5.ownsRow w.heap.size 51 3 (.slice (some ⟨gg, 0, none⟩) (k + 1) cp) (k + 1) (flat ((bothC xs ys).take (k + 1)))) := by rw [HZ.out, flat_snoc]; exact hown1
        clear hown1
        go_wp2
        go_roundw
        case rel => exact ⟨k + 1, by omega, by go_num, HO2, hB4⟩
        case measure => simp [intOf]; omega
      · obtain rfl : n = k := by omega
        have HE : Hid (wr.ownsRow w.heap.size 51 3 u9 n (flat (bothR n xs ys))) := by
          have := HO.out
          rw [List.take_of_length_le (by rw [HN.out]; exact Nat.le_refl _)] at this
          rw [HR.out]; exact this
        go_wp2
        go_ret2
        exact cellsRet_own HE.out hb 0
  · have HR := Lib.hid (show bothR d xs ys = [] by simp [bothR, hc, h0])
    have hne : (c != 0) = true := by simpa using h0
    clear hc h0
    go_enter Tryd.func22, Tryd.ntmps22
    go_wp2_with fail
    refine (checks_any _ a b capa capb xs ys _ HMA.out HMB.out HRA.out HRB.out HBA.out HBB.out c HC.out).mono ?_
    rintro e w1 ⟨rfl, hb1⟩
    go_wp2
    go_ret2
    rw [HR.out]
    exact cellsRet_nil c hb1
end Go.Proofs.YtkekldebklghoaaDoor
