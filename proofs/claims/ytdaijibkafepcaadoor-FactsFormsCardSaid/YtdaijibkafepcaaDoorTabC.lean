/-
  The one table that the facts' rows list: math/bits.deBruijn64tab.
-/
import Derived.Test.YtdaijibkafepcaaDoorBitsTextR
namespace Go.Proofs.YtdaijibkafepcaaDoor
open Go.RowKit
set_option linter.unusedVariables false
structure TabC (W : World) : Prop where
  ctz : Lib.TabIs Tryd.prog W "math/bits.deBruijn64tab" .u8 tab64
theorem TabC.below {W W' : World} (h : TabC W) (hb : Below W.heap.size W W') : TabC W' := ⟨var?_below hb gCtz (var_lt gCtz h.ctz) h.ctz⟩
theorem tabC_of {W : World} (h : laidMet Tryd.prog [("math/bits.deBruijn64tab", Rows.laid_math_bits_deBruijn64tab)] W) : TabC W :=
  ⟨Lib.tabIs_of_head (rest := []) gCtz tCtz Tryd.underlying105 Tryd.underlying5 cells8 cellsCtz (show laidMet Tryd.prog (("math/bits.deBruijn64tab", Lib.tabData .u8 tab64) :: []) W from h)⟩
theorem ctzC_calls (x : Nat) (hx0 : x ≠ 0) (hx : x < 18446744073709551616) (w : World) (ht : TabC w) :
    Calls Tryd.prog 64 #[.int .u64 x] w fun e w' => e = .returned (.int .i64 (Lib.ctz 64 x)) ∧ w = w' := by
  obtain ⟨hlow, hk⟩ := Lib.lowest_bit 64 x hx0 hx
  obtain ⟨hi, htab⟩ := Lib.deBruijn64_at _ hk
  have hcell := ht.ctz.cell gCtz _ (by rw [tab64, List.length_map]; exact hi)
  have e : tab64.getD (2 ^ Lib.ctz 64 x * 285870213051353865 % 18446744073709551616 / 288230376151711744) 0 = ((Lib.ctz 64 x : Nat) : Int) := by
    have : tab64.getD (2 ^ Lib.ctz 64 x * 285870213051353865 % 18446744073709551616 / 288230376151711744) 0 = Int.ofNat (Lib.deBruijn64tab.getD (2 ^ Lib.ctz 64 x * 285870213051353865 % 18446744073709551616 / 288230376151711744) 0) := by
      simp only [tab64, List.getD, List.getElem?_map]
      cases Lib.deBruijn64tab[2 ^ Lib.ctz 64 x * 285870213051353865 % 18446744073709551616 / 288230376151711744]? <;> rfl
    rw [this, htab]; rfl
  rw [e] at hcell
  exact tz_core x _ _ w (by simp; omega) (Go.Proofs.tz64_key x _ hx hx0 hlow) hi hk hcell
theorem nextC_is (f : Nat) (i : Int) (r : Int) (b : Bool) (h : IsNext f i r b) (hf : f < 18446744073709551616) (w : World) (ht : TabC w) :
    Calls Tryd.prog 22 #[.int .u64 f, .int .i64 i] w fun e w' => e = .returned (.tuple #[.int .i64 r, .bool b]) ∧ w = w' := by
  have HT := Lib.hid ht
  by_cases hi : 63 < i
  · have e : r = 0 ∧ b = false := isNext_uniq h (.inr ⟨rfl, rfl, fun j hj hij => by omega⟩)
    obtain ⟨rfl, rfl⟩ := e
    clear h ht
    go_enter Tryd.func22, Tryd.ntmps22
    go_wp2
    go_ret2
    exact ⟨rfl, rfl⟩
  · have hc := Lib.hid (next_of_rest f i i.toNat (by omega) rfl hf r b h)
    have HA : bits BinOp.andNot IntKind.u64 (f : Int) ((2 ^ i.toNat - 1 : Nat) : Int) = ((restN f i.toNat : Nat) : Int) := u64_andNot_nat f _ hf (mask_lt (by omega))
    have hmx : (if i < 0 then (0 : Int) else i) = ((i.toNat : Nat) : Int) := by split <;> omega
    have hmx2 : max i 0 = ((i.toNat : Nat) : Int) := by omega
    have hlt := restN_lt f i.toNat hf
    obtain ⟨m, hm⟩ : ∃ m, i.toNat = m := ⟨_, rfl⟩
    rw [hm] at HA hc hmx hmx2 hlt
    have hm63 : m ≤ 63 := by omega
    obtain ⟨q, hq⟩ : ∃ q, restN f m = q := ⟨_, rfl⟩
    rw [hq] at HA hc hlt
    obtain ⟨p, hp⟩ : ∃ p : Nat, 2 ^ m - 1 = p := ⟨_, rfl⟩
    rw [hp] at HA
    have HP := Lib.hid hp
    clear ht h hq hp hf hm
    rcases hc.out with ⟨h0, rfl, rfl⟩ | ⟨h0, hr, rfl⟩
    · subst h0
      go_enter Tryd.func22, Tryd.ntmps22
      go_wp2_with fail
      refine (mask_any m (by omega) _).mono ?_
      rintro e w1 ⟨rfl, rfl⟩
      rw [HP.out]
      go_wp2
      go_ret2
      exact ⟨rfl, rfl⟩
    · have HR := Lib.hid hr
      have hq0 : ((q : Int) == 0) = false := by simp; omega
      clear hr hc
      go_enter Tryd.func22, Tryd.ntmps22
      go_wp2_with fail
      refine (mask_any m (by omega) _).mono ?_
      rintro e w1 ⟨rfl, rfl⟩
      rw [HP.out]
      go_wp2_with fail
      refine (ctzC_calls q (by omega) hlt _ HT.out).mono ?_
      rintro e w1 ⟨rfl, rfl⟩
      go_wp2
      go_ret2
      exact ⟨rib HR.out.symm rfl, rfl⟩
end Go.Proofs.YtdaijibkafepcaaDoor
