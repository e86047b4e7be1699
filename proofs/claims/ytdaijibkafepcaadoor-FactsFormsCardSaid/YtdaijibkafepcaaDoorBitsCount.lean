/-
  THE BITS LAYER: OnesCount64 and Count.
-/
import Derived.Test.YtdaijibkafepcaaDoorBitsBase
import Derived.Laws.Bits128
namespace Go.Proofs.YtdaijibkafepcaaDoor
open Go.RowKit
set_option linter.unusedVariables false
theorem lanes85 : lanes 85 8 = 6148914691236517205 := by decide +kernel
theorem lanes51 : lanes 51 8 = 3689348814741910323 := by decide +kernel
theorem lanes15 : lanes 15 8 = 1085102592571150095 := by decide +kernel
theorem and64 (a m : Nat) (ha : a < 18446744073709551616) (hm : m < 18446744073709551616) : bits .and .u64 (a : Int) (m : Int) = ((a &&& m : Nat) : Int) := u64_and_nat a m ha hm
theorem cnt1 (x : Nat) (hx : x < 18446744073709551616) : IntKind.u64.wrap (bits .and .u64 ((x : Int) / 2) 6148914691236517205 + bits .and .u64 (x : Int) 6148914691236517205) = ((py 8 x : Nat) : Int) ∧ py 8 x ≤ 12297829382473034410 := by
  have a := and64 (x / 2) 6148914691236517205 (by omega) (by decide)
  have b := and64 x 6148914691236517205 hx (by decide)
  have l1 : x / 2 &&& 6148914691236517205 ≤ 6148914691236517205 := Nat.and_le_right
  have l2 : x &&& 6148914691236517205 ≤ 6148914691236517205 := Nat.and_le_right
  rw [Int.natCast_ediv] at a
  unfold py
  rw [lanes85]
  generalize (x / 2 &&& 6148914691236517205) = p at *
  generalize (x &&& 6148914691236517205) = q at *
  rw [show ((2 : Nat) : Int) = 2 from rfl, show ((6148914691236517205 : Nat) : Int) = 6148914691236517205 from rfl] at a
  rw [show ((6148914691236517205 : Nat) : Int) = 6148914691236517205 from rfl] at b
  rw [a, b, IntKind.wrap_u64]
  omega
theorem cnt2 (y : Nat) (hy : y ≤ 12297829382473034410) : IntKind.u64.wrap (bits .and .u64 ((y : Int) / 4) 3689348814741910323 + bits .and .u64 (y : Int) 3689348814741910323) = (((y / 4 &&& 3689348814741910323) + (y &&& 3689348814741910323) : Nat) : Int) ∧ (y / 4 &&& 3689348814741910323) + (y &&& 3689348814741910323) ≤ 7378697629483820646 := by
  have a := and64 (y / 4) 3689348814741910323 (by omega) (by decide)
  have b := and64 y 3689348814741910323 (by omega) (by decide)
  have l1 : y / 4 &&& 3689348814741910323 ≤ 3689348814741910323 := Nat.and_le_right
  have l2 : y &&& 3689348814741910323 ≤ 3689348814741910323 := Nat.and_le_right
  rw [Int.natCast_ediv] at a
  generalize (y / 4 &&& 3689348814741910323) = p at *
  generalize (y &&& 3689348814741910323) = q at *
  rw [show ((4 : Nat) : Int) = 4 from rfl, show ((3689348814741910323 : Nat) : Int) = 3689348814741910323 from rfl] at a
  rw [show ((3689348814741910323 : Nat) : Int) = 3689348814741910323 from rfl] at b
  rw [a, b, IntKind.wrap_u64]
  omega
theorem cnt3 (z : Nat) (hz : z ≤ 7378697629483820646) : bits .and .u64 (IntKind.u64.wrap ((z : Int) / 16 + (z : Int))) 1085102592571150095 = (((z / 16 + z) &&& 1085102592571150095 : Nat) : Int) := by
  have a := and64 (z / 16 + z) 1085102592571150095 (by omega) (by decide)
  have e : IntKind.u64.wrap ((z : Int) / 16 + (z : Int)) = ((z / 16 + z : Nat) : Int) := by rw [IntKind.wrap_u64]; omega
  rw [e]; exact a
theorem cnt4 (v d : Nat) : IntKind.u64.wrap ((v : Int) + (v : Int) / (d : Int)) = (((v + v / d) % 18446744073709551616 : Nat) : Int) := by
  rw [IntKind.wrap_u64, ← Int.natCast_ediv]; omega
theorem cnt5 (c : Nat) : bits .and .i64 (wrap64 (c : Int)) 127 = ((c % 128 : Nat) : Int) := by
  rw [i64_and127]
  unfold wrap64
  omega
theorem ones_calls (x : Nat) (hx : x < 18446744073709551616) (r : Nat) (hr : ones x = r) (w : World) :
    Calls Tryd.prog 65 #[.int .u64 x] w fun e w' => e = .returned (.int .i64 r) ∧ w = w' := by
  obtain ⟨H1, b1⟩ := cnt1 x hx
  obtain ⟨y, hy⟩ : ∃ y, py 8 x = y := ⟨_, rfl⟩
  rw [hy] at H1 b1
  obtain ⟨H2, b2⟩ := cnt2 y b1
  have hz0 : pz 8 x = _ := rfl
  unfold pz at hz0
  rw [hy, lanes51] at hz0
  obtain ⟨z, hz⟩ : ∃ z, (y / 4 &&& 3689348814741910323) + (y &&& 3689348814741910323) = z := ⟨_, rfl⟩
  rw [hz] at H2 b2 hz0
  have H3 := cnt3 z b2
  have hv0 : pv 8 x = _ := rfl
  unfold pv at hv0
  rw [lanes15] at hv0
  have hz1 : pz 8 x = z := by unfold pz; rw [hy, lanes51, hz]
  rw [hz1] at hv0
  obtain ⟨v, hv⟩ : ∃ v, (z / 16 + z) &&& 1085102592571150095 = v := ⟨_, rfl⟩
  rw [hv] at H3 hv0
  have H4 := cnt4 v 256
  obtain ⟨a, ha⟩ : ∃ a, (v + v / 256) % 18446744073709551616 = a := ⟨_, rfl⟩
  rw [ha] at H4
  have H5 := cnt4 a 65536
  obtain ⟨b, hb⟩ : ∃ b, (a + a / 65536) % 18446744073709551616 = b := ⟨_, rfl⟩
  rw [hb] at H5
  have H6 := cnt4 b 4294967296
  obtain ⟨c, hc⟩ : ∃ c, (b + b / 4294967296) % 18446744073709551616 = c := ⟨_, rfl⟩
  rw [hc] at H6
  have H7 := cnt5 c
  have HR : Hid (((c % 128 : Nat) : Int) = (r : Int)) := by
    show _ = _
    rw [← hr]; unfold ones low7; simp only
    rw [show pv 8 x = v by rw [← hv]; unfold pv; rw [hz1, lanes15], ha, hb, hc]
  clear hr hx b1 b2 hy hz0 hz hv0 hz1 hv ha hb hc
  rw [show ((256 : Nat) : Int) = 256 from rfl] at H4
  rw [show ((65536 : Nat) : Int) = 65536 from rfl] at H5
  rw [show ((4294967296 : Nat) : Int) = 4294967296 from rfl] at H6
  go_enter Tryd.func65, Tryd.ntmps65
  go_wp2
  go_ret
  exact ⟨rint (by first | exact HR.out | (have := HR.out; simpa using this)), rfl⟩
theorem countA_is (x : Nat) (hx : x < 18446744073709551616) (r : Nat) (hr : ones x = r) (w : World) :
    Calls Tryd.prog 24 #[.int .u64 x] w fun e w' => e = .returned (.int .i64 r) ∧ w = w' := by
  have HR := Lib.hid hr
  clear hr
  go_enter Tryd.func24, Tryd.ntmps24
  go_wp2_with fail
  refine (ones_calls x hx r HR.out _).mono ?_
  rintro e w1 ⟨rfl, rfl⟩
  go_wp2
  go_ret
  exact ⟨rfl, rfl⟩
end Go.Proofs.YtdaijibkafepcaaDoor
