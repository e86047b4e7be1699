/-
  THE COST LAYER: the law CostTexts' walk.
-/
import Derived.Test.YtccmgbbpihaapaaDoorCostRead
namespace Go.Proofs.YtccmgbbpihaapaaDoor
open Go.RowKit
set_option linter.unusedVariables false

set_option maxRecDepth 100000 in
set_option maxHeartbeats 2000000 in
theorem costTexts_walk (limit c : Int) (s : ByteArray) (w : World) (h1 : (Lit.int .i64 limit).wf = true) (h2 : (Lit.int .i64 c).wf = true) (hs : s.size ≤ maxLen) (ht : Tabs w) :
    Calls Tryd.prog 11 #[.int .i64 limit, .int .i64 c, .string s] w fun e w' => e = .returned (.bool true) ∧ Below w.heap.size w w' := by
  have hs2 : s.size ≤ 9223372036854775807 := by unfold maxLen at hs; omega
  have HT := Lib.hid ht
  obtain ⟨n, hn⟩ := isN_ex limit s.data.toList
  obtain ⟨t, htx⟩ : ∃ t, txtC limit c = t := ⟨_, rfl⟩
  obtain ⟨x, hx⟩ : ∃ x, chk limit [c] = x := ⟨_, rfl⟩
  obtain ⟨y, hy⟩ : ∃ y, chk limit [] = y := ⟨_, rfl⟩
  obtain ⟨a, ha⟩ : ∃ a, (if y = 0 then readA limit s.data.toList n else 0) = a := ⟨_, rfl⟩
  obtain ⟨p, hp⟩ : ∃ a, (if y = 0 then readP limit s.data.toList n else 0) = a := ⟨_, rfl⟩
  obtain ⟨e0, he⟩ : ∃ a, (if y = 0 then readE limit s.data.toList n else y) = a := ⟨_, rfl⟩
  have HN := Lib.hid hn; have HTX := Lib.hid htx; have HX := Lib.hid hx; have HY := Lib.hid hy; have HA := Lib.hid ha; have HP := Lib.hid hp; have HE := Lib.hid he
  clear ht hn htx hx hy ha hp he h1 h2 hs
  go_enter Tryd.func11, Tryd.ntmps11
  go_wp2_with fail
  refine (text_any limit c _ HT.out t x HTX.out HX.out).mono ?_
  rintro e w1 ⟨rfl, hB1⟩
  go_wp2_with fail
  refine (textRef_any limit c _ (HT.out.below hB1) t x HTX.out HX.out).mono ?_
  rintro e w2 ⟨rfl, hb2⟩
  have hB2 := hB1.trans (hb2.mono hB1.size)
  go_wp2_with fail
  refine (read_any limit s _ hs2 n HN.out y HY.out a p e0 HA.out HP.out HE.out).mono ?_
  unfold Read3
  rintro e w3 ⟨rfl, hb3⟩
  have hB3 := hB2.trans (hb3.mono hB2.size)
  go_wp2_with fail
  refine (readRef_any limit s _ hs2 n HN.out y HY.out a p e0 HA.out HP.out HE.out).mono ?_
  unfold Read3
  rintro e w4 ⟨rfl, rfl⟩
  go_wp2_with fail
  refine (awake_any _).mono ?_
  rintro e w5 ⟨rfl, hb5⟩
  go_wp2
  go_ret
  exact ⟨by simp, hB3.trans (hb5.mono hB3.size)⟩
end Go.Proofs.YtccmgbbpihaapaaDoor
