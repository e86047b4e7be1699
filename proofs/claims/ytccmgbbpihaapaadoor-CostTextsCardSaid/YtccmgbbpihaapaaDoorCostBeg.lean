/-
  THE COST LAYER: the reference's begins.
-/
import Derived.Test.YtccmgbbpihaapaaDoorCostNum
namespace Go.Proofs.YtccmgbbpihaapaaDoor
open Go.RowKit
set_option linter.unusedVariables false

def noneL : List UInt8 := [110, 111, 110, 101]
def begC (limit : Int) (l : List UInt8) : Bool := (decide (l.length ≤ 4) && (l == noneL.take l.length)) || decide (0 ≤ numC limit l)

theorem none_take (n : Nat) : (({ data := #[110, 111, 110, 101] } : ByteArray).extract 0 n).toList = noneL.take n := by
  rw [Lib.toList_data]
  simp [noneL]
theorem begins_any (limit : Int) (s : ByteArray) (w : World) (r : Bool) (hr : begC limit s.data.toList = r) :
    Calls Tryd.prog 74 #[.int .i64 limit, .string s] w fun e w' => e = .returned (.bool r) ∧ w = w' := by
  have hlen := len_of s
  obtain ⟨x, hx⟩ : ∃ x, numC limit s.data.toList = x := ⟨_, rfl⟩
  have HX := Lib.hid hx
  by_cases h4 : s.size ≤ 4
  · have h4' : (s.size : Int) ≤ 4 := by omega
    by_cases hq : s.toList = (({ data := #[110, 111, 110, 101] } : ByteArray).extract 0 s.size).toList
    · have HE : Hid (r = true) := by
        show _ = _
        rw [none_take, Lib.toList_data] at hq
        rw [← hr, begC, hlen, ← hq]; simp [h4]
      clear hr hx hlen h4
      go_enter Tryd.func74, Tryd.ntmps74
      go_wp2
      go_ret
      exact ⟨by rw [HE.out]; rfl, rfl⟩
    · have HE : Hid (r = decide (0 ≤ x)) := by
        show _ = _
        rw [none_take, Lib.toList_data] at hq
        rw [← hr, begC, hlen, hx]
        have h9 : (s.data.toList == noneL.take s.size) = false := by simpa using hq
        rw [h9]; simp
      have hq2 : (s.toList == (({ data := #[110, 111, 110, 101] } : ByteArray).extract 0 s.size).toList) = false := by simpa using hq
      clear hr hx hlen h4
      go_enter Tryd.func74, Tryd.ntmps74
      go_wp2_with (go_at_call 75; refine (number_any limit s _ x HX.out).mono ?_; rintro e w' ⟨rfl, rfl⟩)
      go_ret
      exact ⟨by rw [HE.out]; first | rfl | simp [hq2], rfl⟩
  · have h4' : ¬ (s.size : Int) ≤ 4 := by omega
    have HE : Hid (r = decide (0 ≤ x)) := by show _ = _; rw [← hr, begC, hlen, hx]; simp [h4]
    clear hr hx hlen h4
    go_enter Tryd.func74, Tryd.ntmps74
    go_wp2_with (go_at_call 75; refine (number_any limit s _ x HX.out).mono ?_; rintro e w' ⟨rfl, rfl⟩)
    go_ret
    exact ⟨by rw [HE.out]; rfl, rfl⟩
end Go.Proofs.YtccmgbbpihaapaaDoor
