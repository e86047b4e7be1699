/-
  THE FACTS LAYER: the law FactsOwn' walk.
-/
import Derived.Test.YtdaijibkafepcaaDoorFactsEnv
import Derived.Test.YtdaijibkafepcaaDoorFactsOpen
import Derived.Laws.AppendOwnNone
import Derived.Deep.DeepCutAuto
import Derived.Deep.CutRange
import Derived.Deep.AppendLies
namespace Go.Proofs.YtdaijibkafepcaaDoor
open Go.RowKit
set_option linter.unusedVariables false
theorem canonV_len100 {n : Int} {g : Nat} {xs : List Nat} (h : xs.length ≤ 100) : (canonV n g xs).length ≤ 100 := by
  unfold canonV
  split
  · rw [canonL_length]; exact h
  · simp
section
variable {H : Type} {enc : TypeId × Value → H} {w : World} {base : Nat} {spare : Nat → Bool} {held : Bool}
open Go.Joins Go.RowKit Go.ChangeShapes Go.WideShapes Go.Deep
set_option maxRecDepth 100000 in
theorem facts_open2 {r : Reach} {b0 : Nat} {v : Value} {d : DataW H} {p : List MemPlace} (hv : Value.okWide Tryd.prog w r b0 55 v) (h : DataW.Trod enc Tryd.prog w base spare held 55 v d p) :
    ∃ (g : Nat) (a : Option Addr) (len cap : Nat) (rows : List Nat), v = .agg #[.int .u64 (g : Int), .slice a len cap] ∧ IsF w g a len cap rows ∧ (a = none → cap = 0) := by
  obtain ⟨g, a, len, cap, rows, rfl, hf⟩ := facts_open hv h
  refine ⟨g, a, len, cap, rows, rfl, hf, fun ha => ?_⟩
  obtain ⟨v0, v1, y0, y1, n, e1, rfl, rfl, h0, h1⟩ := open_agg2 Tryd.underlying55 (by kernel_rfl) (by kernel_rfl) hv h
  obtain rfl : v1 = .slice a len cap := by simp at e1; exact e1.2.symm
  rcases open_ints (t := 53) (e := 23) (k := .u64) (by kernel_rfl) (by kernel_rfl) (by kernel_rfl) h1 with ⟨hcs, _⟩ | ⟨x, len', cap', zs, hcs, _⟩
  · simp at hcs; omega
  · simp at hcs; rw [ha] at hcs; cases hcs.1
end
theorem step_append_u64 {w : World} {ops : Array Oper} {o : Oper} {act : Act} {K : Act → World → Prop} {Q : Exit → Act → World → Prop} {E : Prop} (hgd : o.guard = none) (s x : Operand)
    (ho : o.op = .call { callee := .builtin .append, args := #[s, x], argTypes := #[53, 53] })
    (base B : Nat) (hs : act.eval s = .slice (some ⟨B, 0, none⟩) 0 0) (hown : w.ownsRow base 23 1 (.slice (some ⟨B, 0, none⟩) 0 0) 0 [])
    (a : Option Addr) (m c : Nat) (xs : List Nat) (hx : act.eval x = .slice a m c) (hrow : VRow w a (u64s xs)) (hl : xs.length = m) (hnil : a = none → c = 0) (hm : m ≤ 100) (hbase : base ≤ w.heap.size) (hB : B < w.heap.size)
    (h : ∀ g cap w', w'.ownsRow base 23 1 (.slice (some ⟨g, 0, none⟩) m cap) m (u64s xs) → (w.grownBy w' (some B) ∨ w = w') → base ≤ g → g < w'.heap.size → K (act.put o.dst (.slice (some ⟨g, 0, none⟩) m cap)) w') :
    if Region.wanted o (yielded ops act.tmps) = true then Oper.wp Tryd.prog o act w K Q else E := by
  have hw : Region.wanted o (yielded ops act.tmps) = true := by simp [Region.wanted, hgd]
  rw [if_pos hw]
  obtain ⟨i0, hi, hz0, hz1, hz2⟩ := info_parts infoU
  have hBb : base ≤ B := by
    rcases hown.2 with ⟨h1, _⟩ | ⟨g, cap, cur, hv, hb, _⟩
    · cases h1
    · simp at hv; omega
  cases a with
  | none =>
    obtain rfl : c = 0 := hnil rfl
    have hxs : u64s xs = [] := by
      rcases hrow with h1 | ⟨b, off, e, _⟩
      · exact h1
      · cases e
    obtain rfl : m = 0 := by rw [← hl, ← u64s_length, hxs]; rfl
    have hrun := run_append_owned_none (P := Tryd.prog) (w := w) base 53 o.type _ i0 1 Tryd.underlying53 hi _ 0 [] hown
    unfold Oper.wp
    simp [execOp, ho, resolve, invoke, builtin, hs, hx, hrun, Result.andThen]
    exact h B 0 w (by rw [hxs]; exact hown) (.inr rfl) hBb hB
  | some ad =>
    obtain ⟨v', w', hr, h2, h3, _, h5⟩ := run_append_own_at (P := Tryd.prog) w base 53 o.type 23 i0 _ 1 8 Tryd.underlying53 hi hz0 hz1 hz2 rfl (by decide) _ 0 [] hown ad m c (u64s xs) (by rw [u64s_length, hl, Nat.mul_one]) (news_of_vrow hrow) (u64s_one xs) (by unfold maxLen; omega) (by omega) hbase
    rw [List.nil_append, Nat.zero_add] at h2
    obtain ⟨g, cap, rfl, hg1, hg2⟩ : ∃ g cap, v' = .slice (some ⟨g, 0, none⟩) m cap ∧ base ≤ g ∧ g < w'.heap.size := by
      rcases h2.2 with ⟨rfl, _⟩ | ⟨g, cap, cur, rfl, hb, hg, _⟩
      · rcases h5 with h5 | h5 <;> simp [Value.ownBlock] at h5
      · exact ⟨g, cap, rfl, hb, (Array.getElem?_eq_some_iff.1 hg).1⟩
    unfold Oper.wp execOp
    simp only [ho, resolve, invoke, builtin, Sem.run_bind, Sem.run_pure, Result.andThen_ok, List.map_toArray, List.map_cons, List.map_nil, hs, hx, hr]
    exact h g cap w' h2 (.inl h3) hg1 hg2
theorem own_app_below {w0 w w' : World} {B b0 : Nat} (hb : Below b0 w0 w) (hB : b0 ≤ B) (hs : b0 ≤ w.heap.size) (h : w.grownBy w' (some B) ∨ w = w') : Below b0 w0 w' := by
  rcases h with h | rfl
  · exact hb.grown h hs (fun k e => by cases e; exact hB)
  · exact hb
theorem own_app_block {w w' : World} {B k : Nat} {o : Obj} (h : w.grownBy w' (some B) ∨ w = w') (hk : k ≠ B) (hb : w.heap[k]? = some o) : w'.heap[k]? = some o := by
  rcases h with h | rfl
  · rw [h.block k (Array.getElem?_eq_some_iff.1 hb).1 (by simp [hk])]; exact hb
  · exact hb
def OwnRel (w : World) (ga la : Nat) (xs : List Nat) (o : Value) (wx : World) : Prop := ∃ P g cap, o = .pointer (some ⟨P, 0, none⟩) ∧ w.heap.size ≤ P ∧ g ≠ P ∧ w.heap.size ≤ g ∧ g < wx.heap.size ∧ Below w.heap.size w wx ∧ Hid (wx.heap[P]? = some (.cells #[.int .u64 (ga : Int), .slice (some ⟨g, 0, none⟩) la cap] 55 (0, 0))) ∧ Hid (wx.ownsRow w.heap.size 23 1 (.slice (some ⟨g, 0, none⟩) la cap) la (u64s xs))
theorem own_meetA {w w5 : World} {ga la g cap : Nat} {xs : List Nat} (hb : Below w.heap.size w w5) (h1 : w.heap.size ≤ g) (h2 : g < w5.heap.size) (ho : w5.ownsRow w.heap.size 23 1 (.slice (some ⟨g, 0, none⟩) la cap) la (u64s xs)) :
    OwnRel w ga la xs (.pointer (some ⟨w5.heap.size, 0, none⟩)) (w5.alloc (.cells #[.int .u64 (ga : Int), .slice (some ⟨g, 0, none⟩) la cap] 55)) :=
  ⟨w5.heap.size, g, cap, rfl, hb.size, by omega, h1, by simp; omega, hb.alloc hb.size _, heapV_new _ _, ho.alloc _⟩
theorem own_meetB {w w5 : World} {P ga la g cap : Nat} {xs : List Nat} (hb : Below w.heap.size w w5) (h1 : w.heap.size ≤ g) (h2 : g < w5.heap.size) (ho : w5.ownsRow w.heap.size 23 1 (.slice (some ⟨g, 0, none⟩) la cap) la (u64s xs)) (hP : w.heap.size ≤ P) {x y : Value} (hp : w5.heap[P]? = some (.cells #[x, y] 55 (0, 0))) :
    OwnRel w ga la xs (.pointer (some ⟨P, 0, none⟩)) ((w5.setCell ⟨P, 0, none⟩ (.int .u64 (ga : Int))).setCell ⟨P, 1, none⟩ (.slice (some ⟨g, 0, none⟩) la cap)) := by
  have NB := not_row hp (by decide) ho
  exact ⟨P, g, cap, rfl, hP, fun e => NB (by rw [e]; rfl), h1, by simpa [World.setCell] using h2, (hb.setCell (p := ⟨P, 0, none⟩) hP _).setCell (p := ⟨P, 1, none⟩) hP _, two_set1 (two_set0 hp), (ho.kept (grownBy_set _ _ 0 _) (.inr NB.symm)).kept (grownBy_set _ P 1 _) (.inr NB.symm)⟩
theorem u64s_ints (l : List Nat) : ∀ u ∈ u64s l, ∃ z : Int, u = .int .u64 z := by
  intro u hu; unfold u64s at hu; rw [List.mem_map] at hu; obtain ⟨r, _, rfl⟩ := hu; exact ⟨_, rfl⟩
theorem own_below8 {w w' : World} {base size n : Nat} {E : TypeId} {v : Value} {xs : List Value} (h : w.ownsRow base E size v n xs) (hb : Below w.heap.size w w') : w'.ownsRow base E size v n xs := by
  refine ⟨h.1, ?_⟩
  rcases h.2 with h2 | ⟨g, cap, cur, hv, hg, hh, r⟩
  · exact .inl h2
  · exact .inr ⟨g, cap, cur, hv, hg, heap_old hh hb, r⟩
structure OwnK (wr : World) (A B P A1 A2 : Nat) (ca cb co cp cq : Array Value) (a b p q : Option Addr) (xs ys cv kv : List Nat) : Prop where
  hA : wr.heap[A]? = some (.cells ca 55 (0, 0))
  hB : wr.heap[B]? = some (.cells cb 55 (0, 0))
  hO : wr.heap[P]? = some (.cells co 55 (0, 0))
  hP : wr.heap[A1]? = some (.cells cp 55 (0, 0))
  hQ : wr.heap[A2]? = some (.cells cq 55 (0, 0))
  ra : VRow wr a (u64s xs)
  rb : VRow wr b (u64s ys)
  rp : VRow wr p (u64s cv)
  rq : VRow wr q (u64s kv)
structure OwnN (g A B P A1 A2 : Nat) (a b p q : Option Addr) (xs ys : List Nat) : Prop where
  nA : A ≠ g
  nB : B ≠ g
  nO : P ≠ g
  nP : A1 ≠ g
  nQ : A2 ≠ g
  ra : u64s xs ≠ [] → ∀ ad, a = some ad → ad.block ≠ g
  rb : u64s ys ≠ [] → ∀ ad, b = some ad → ad.block ≠ g
  rp : ∀ ad, p = some ad → ad.block ≠ g
  rq : ∀ ad, q = some ad → ad.block ≠ g
theorem vrow_set8 {w : World} {a : Option Addr} {vs : List Value} (h : VRow w a vs) {B j : Nat} {v : Value} (hne : vs ≠ [] → ∀ ad, a = some ad → ad.block ≠ B) : VRow (w.setCell ⟨B, j, none⟩ v) a vs := by
  by_cases h0 : vs = []
  · exact .inl h0
  · exact vrow_set h (hne h0)
theorem vrow_lt {w : World} {a : Option Addr} {vs : List Value} (h : VRow w a vs) (hne : vs ≠ []) : ∀ ad, a = some ad → ad.block < w.heap.size := by
  intro ad e
  have h0 : 0 < vs.length := by cases vs with | nil => exact absurd rfl hne | cons _ _ => simp
  obtain ⟨b, off, v, ha, _, hb, _⟩ := h.at_ h0
  rw [e] at ha; cases ha; exact hb
theorem OwnK.set {wr : World} {g A B P A1 A2 : Nat} {ca cb co cp cq : Array Value} {a b p q : Option Addr} {xs ys cv kv : List Nat} (h : OwnK wr A B P A1 A2 ca cb co cp cq a b p q xs ys cv kv) (n : OwnN g A B P A1 A2 a b p q xs ys) (j : Nat) (v : Value) : OwnK (wr.setCell ⟨g, j, none⟩ v) A B P A1 A2 ca cb co cp cq a b p q xs ys cv kv :=
  ⟨heap_other h.hA n.nA, heap_other h.hB n.nB, heap_other h.hO n.nO, heap_other h.hP n.nP, heap_other h.hQ n.nQ, vrow_set8 h.ra n.ra, vrow_set8 h.rb n.rb, vrow_set h.rp n.rp, vrow_set h.rq n.rq⟩
theorem OwnK.drew {wr : World} {A B P A1 A2 : Nat} {ca cb co cp cq : Array Value} {a b p q : Option Addr} {xs ys cv kv : List Nat} (h : OwnK wr A B P A1 A2 ca cb co cp cq a b p q xs ys cv kv) : OwnK wr.drew A B P A1 A2 ca cb co cp cq a b p q xs ys cv kv := ⟨h.hA, h.hB, h.hO, h.hP, h.hQ, h.ra, h.rb, h.rp, h.rq⟩
set_option maxRecDepth 100000 in
set_option maxHeartbeats 4000000 in
theorem factsOwn_walk (n : Int) (ga : Nat) (a : Option Addr) (la0 capa : Nat) (xs0 : List Nat) (gb : Nat) (b : Option Addr) (lb0 capb : Nat) (ys0 : List Nat) (w : World) (hn : (Lit.int .i64 n).wf = true) (ha : IsF w ga a la0 capa xs0) (na : a = none → capa = 0) (hb : IsF w gb b lb0 capb ys0) (ht : TabC w) :
    Calls Tryd.prog 13 #[.int .i64 n, .agg #[.int .u64 (ga : Int), .slice a la0 capa], .agg #[.int .u64 (gb : Int), .slice b lb0 capb]] w fun e w' => e = .returned (.bool true) ∧ Below w.heap.size w w' := by
  have HFA := Lib.hid ha.fat; have HFB := Lib.hid hb.fat
  obtain ⟨xs, hxs⟩ : ∃ xs, xs0.take 100 = xs := ⟨_, rfl⟩
  obtain ⟨ys, hys⟩ : ∃ ys, ys0.take 100 = ys := ⟨_, rfl⟩
  rw [hxs] at HFA; rw [hys] at HFB
  obtain ⟨la, hla⟩ : ∃ la, min 100 la0 = la := ⟨_, rfl⟩
  obtain ⟨lb, hlb⟩ : ∃ lb, min 100 lb0 = lb := ⟨_, rfl⟩
  have HLA : Hid (xs.length = la) := by show _ = _; rw [← hxs, ← hla]; exact ha.cutlen
  have HLB : Hid (ys.length = lb) := by show _ = _; rw [← hys, ← hlb]; exact hb.cutlen
  have CUTA : Hid (∀ W : World, Calls Tryd.prog 36 #[.agg #[.int .u64 (ga : Int), .slice a la0 capa]] W fun e w' => e = .returned (.agg #[.int .u64 (ga : Int), .slice a la capa]) ∧ Below W.heap.size W w') := fun W => cut_is ga a la0 capa ha.hcap ha.some_ la hla W
  have CUTB : Hid (∀ W : World, Calls Tryd.prog 36 #[.agg #[.int .u64 (gb : Int), .slice b lb0 capb]] W fun e w' => e = .returned (.agg #[.int .u64 (gb : Int), .slice b lb capb]) ∧ Below W.heap.size W w') := fun W => cut_is gb b lb0 capb hb.hcap hb.some_ lb hlb W
  have HT := Lib.hid ht
  have NA := Lib.hid na
  obtain ⟨e0, he⟩ : ∃ e0, bothE n ga xs gb ys = e0 := ⟨_, rfl⟩
  obtain ⟨cg, hcg⟩ : ∃ g, combG n ga xs gb ys = g := ⟨_, rfl⟩
  obtain ⟨cv, hcv⟩ : ∃ g, combV n ga xs gb ys = g := ⟨_, rfl⟩
  obtain ⟨ce, hce⟩ : ∃ e, shapedE n ga xs = e := ⟨_, rfl⟩
  obtain ⟨kg, hkg⟩ : ∃ e, canonG n ga xs = e := ⟨_, rfl⟩
  obtain ⟨kv, hkv⟩ : ∃ e, canonV n ga xs = e := ⟨_, rfl⟩
  obtain ⟨lc, hlc⟩ : ∃ g, cv.length = g := ⟨_, rfl⟩
  obtain ⟨lk, hlk⟩ : ∃ g, kv.length = g := ⟨_, rfl⟩
  have hcl : cv.length ≤ 100 := by rw [← hcv]; exact combV_len HFA.out.len
  have hkl : kv.length ≤ 100 := by rw [← hkv]; exact canonV_len100 HFA.out.len
  have hla100 : la ≤ 100 := by rw [← HLA.out]; exact HFA.out.len
  have HE := Lib.hid he; have HCG := Lib.hid hcg; have HCV := Lib.hid hcv; have HCE := Lib.hid hce; have HKG := Lib.hid hkg; have HKV := Lib.hid hkv; have HLC := Lib.hid hlc; have HLK := Lib.hid hlk
  obtain ⟨t0, t1⟩ := two_boxes w #[.int .u64 (ga : Int), .slice a la0 capa] #[.int .u64 (gb : Int), .slice b lb0 capb] 55
  obtain ⟨W0, hW0⟩ : ∃ W, (w.alloc (.cells #[.int .u64 (ga : Int), .slice a la0 capa] 55)).alloc (.cells #[.int .u64 (gb : Int), .slice b lb0 capb] 55) = W := ⟨_, rfl⟩
  have K00 : Hid (KeepK w W0 w.heap.size (w.heap.size + 1) #[.int .u64 (ga : Int), .slice a la0 capa] #[.int .u64 (gb : Int), .slice b lb0 capb]) := by
    rw [← hW0]
    exact ⟨t0, t1, ((Below.refl _ _).alloc (Nat.le_refl _) _).alloc (by simp) _⟩
  obtain ⟨x0, x1, _⟩ := two_cells K00.out.hA
  obtain ⟨y0, y1, _⟩ := two_cells K00.out.hB
  clear ha hb ht na hxs hys hla hlb hn t0 t1 he hcg hcv hce hkg hkv hlc hlk
  go_enter Tryd.func13, Tryd.ntmps13
  go_upto_region 1 with fail
  go_cut [6] from 17 to 20 (fun r wx => r = .bool false ∧ Hid (KeepK w wx w.heap.size (w.heap.size + 1) #[.int .u64 (ga : Int), .slice a la capa] #[.int .u64 (gb : Int), .slice b lb capb]))
  case first =>
    go_region_with (first | (go_at_call 36; go_loud (with_reducible refine (CUTA.out _).mono ?_; rintro e wA ⟨rfl, hbA⟩; have KA := Lib.hid (KeepK.call K00.out.drew hbA); obtain ⟨b0, b1, _⟩ := two_cells KA.out.hB)) | (go_at_call 36; with_reducible refine (CUTB.out _).mono ?_; rintro e wB ⟨rfl, hbB⟩; have KB := Lib.hid (KA.out.call hbB); obtain ⟨p0, p1, pf⟩ := two_cells KB.out.hA; have pf0 := pf 0; have pf1 := pf 1; clear pf; have SB := Lib.hid (heap_other (B := w.heap.size) (j := 1) (c := .slice a la capa) (heap_other (B := w.heap.size) (j := 0) (c := .int .u64 (ga : Int)) KB.out.hB (by omega)) (by omega)); obtain ⟨q0, q1, qf⟩ := two_cells SB.out; have qf0 := qf 0; have qf1 := qf 1; clear qf))
    all_goals (go_wp2_with fail; go_meet; exact ⟨rfl, cut_both KB.out⟩)
  case rest =>
    obtain ⟨rfl, K⟩ := hcut
    obtain ⟨w1, hw1⟩ : ∃ W, W = wc := ⟨_, rfl⟩
    subst hw1
    obtain ⟨q0hA0, q0hA1, _⟩ := two_cells K.out.hA
    obtain ⟨q0hB0, q0hB1, _⟩ := two_cells K.out.hB
    have hlit := World.ownsRow_lit (e := 23) (size := 1) w1 #[] 0 (Nat.le_refl _) (by simp) rfl
    obtain ⟨Wy, hWy⟩ : ∃ W, w1.alloc (.cells #[] 23) = W := ⟨_, rfl⟩
    obtain ⟨Wz, hWz⟩ : ∃ W, Wy.alloc (.cells #[.int .u64 0, .slice none 0 0] 55) = W := ⟨_, rfl⟩
    have LIY : Hid (Wy.drew.ownsRow w1.heap.size 23 1 (.slice (some ⟨w1.heap.size, 0, none⟩) 0 0) 0 []) := by show World.ownsRow _ _ _ _ _ _ _; rw [← hWy]; exact hlit
    have LIT : Hid (Wz.drew.ownsRow w1.heap.size 23 1 (.slice (some ⟨w1.heap.size, 0, none⟩) 0 0) 0 []) := by show World.ownsRow _ _ _ _ _ _ _; rw [← hWz, ← hWy]; exact hlit.alloc _
    clear hlit
    have BY : Below w1.heap.size w1 Wy := by rw [← hWy]; exact (Below.refl _ _).alloc (Nat.le_refl _) _
    have BZ : Below w1.heap.size w1 Wz := by rw [← hWz]; exact BY.alloc BY.size _
    have hsy : Wy.heap.size = w1.heap.size + 1 := by rw [← hWy]; simp
    have XZ : Hid (Wz.heap[w1.heap.size + 1]? = some (.cells #[.int .u64 0, .slice none 0 0] 55 (0, 0))) := by show _ = _; rw [← hWz, ← hsy]; exact heapV_new _ _
    have KY := Lib.hid (K.out.call BY); have KZ := Lib.hid (K.out.call BZ)
    have RY := Lib.hid (KY.out.fat HFA.out).row; have RZ := Lib.hid (KZ.out.fat HFA.out).row
    have hsz : w1.heap.size + 1 < Wz.heap.size := (Array.getElem?_eq_some_iff.1 XZ.out).1
    obtain ⟨y0, y1, _⟩ := two_cells KY.out.hA; obtain ⟨z0, z1, _⟩ := two_cells KZ.out.hA
    obtain ⟨Wb, hWb⟩ : ∃ W, w1.alloc (.cells #[.int .u64 0, .slice none 0 0] 55) = W := ⟨_, rfl⟩
    obtain ⟨Wx, hWx⟩ : ∃ W, Wb.alloc (.cells #[] 23) = W := ⟨_, rfl⟩
    have hsb : Wb.heap.size = w1.heap.size + 1 := by rw [← hWb]; simp
    have BB : Below w1.heap.size w1 Wb := by rw [← hWb]; exact (Below.refl _ _).alloc (Nat.le_refl _) _
    have BXX : Below w1.heap.size w1 Wx := by rw [← hWx]; exact BB.alloc BB.size _
    have LIX : Hid (Wx.drew.ownsRow w1.heap.size 23 1 (.slice (some ⟨w1.heap.size + 1, 0, none⟩) 0 0) 0 []) := by show World.ownsRow _ _ _ _ _ _ _; rw [← hWx, ← hsb]; exact World.ownsRow_lit (e := 23) (size := 1) Wb #[] 0 (by omega) (by simp) rfl
    have XX : Hid (Wx.heap[w1.heap.size]? = some (.cells #[.int .u64 0, .slice none 0 0] 55 (0, 0))) := by show _ = _; rw [← hWx, ← hWb]; exact heap_allocd (heapV_new _ _) _
    have KB := Lib.hid (K.out.call BB); have KX := Lib.hid (K.out.call BXX)
    have RX := Lib.hid (KX.out.fat HFA.out).row
    have hsx : w1.heap.size + 1 < Wx.heap.size := by rw [← hWx]; simp; omega
    obtain ⟨b0, b1, _⟩ := two_cells KB.out.hA; obtain ⟨x20, x21, _⟩ := two_cells KX.out.hA
    go_wp2_with fail
    go_cut [7] from 21 to 27 (fun o wx => OwnRel w1 ga la xs o wx)
    case first =>
      go_region_law (first | (refine step_append_u64 (w := Wz.drew) ?_ (.tmp 23) (.tmp 25) ?_ w1.heap.size (w1.heap.size) ?_ ?_ a la capa xs ?_ ?_ HLA.out NA.out hla100 ?_ ?_ ?_; rfl; rfl; rfl; exact LIT.out; rfl; exact VRow.below RZ.out (Below.refl _ _).drew; exact BZ.size; (show w1.heap.size < Wz.heap.size; omega); intro g cap w5 hown1 hgr hg1 hg2; have hb5 : Below w1.heap.size w1 w5 := own_app_below BZ.drew (by omega) BZ.size hgr; have HO5 := Lib.hid hown1; have K5 := Lib.hid (K.out.call hb5); obtain ⟨p0, p1, _⟩ := two_cells K5.out.hA; obtain ⟨p2, p3, _⟩ := two_cells (heap_allocd K5.out.hA (.cells #[.int .u64 0, .slice none 0 0] 55)); have XO := Lib.hid (own_app_block hgr (by omega) (show Wz.drew.heap[w1.heap.size + 1]? = _ from XZ.out)); obtain ⟨o0, o1, of⟩ := two_cells XO.out; have of0 := of 0; have of1 := of 1; clear hown1 hgr of) | (refine step_append_u64 (w := Wy.drew) ?_ (.tmp 23) (.tmp 25) ?_ w1.heap.size (w1.heap.size) ?_ ?_ a la capa xs ?_ ?_ HLA.out NA.out hla100 ?_ ?_ ?_; rfl; rfl; rfl; exact LIY.out; rfl; exact VRow.below RY.out (Below.refl _ _).drew; exact BY.size; (show w1.heap.size < Wy.heap.size; omega); intro g cap w5 hown1 hgr hg1 hg2; have hb5 : Below w1.heap.size w1 w5 := own_app_below BY.drew (by omega) BY.size hgr; have HO5 := Lib.hid hown1; have K5 := Lib.hid (K.out.call hb5); obtain ⟨p0, p1, _⟩ := two_cells K5.out.hA; obtain ⟨p2, p3, _⟩ := two_cells (heap_allocd K5.out.hA (.cells #[.int .u64 0, .slice none 0 0] 55)); have XN := Lib.hid (heapV_new w5 (.cells #[.int .u64 0, .slice none 0 0] 55)); obtain ⟨o0, o1, of⟩ := two_cells XN.out; have of0 := of 0; have of1 := of 1; clear hown1 hgr of) | (refine step_append_u64 (w := Wx.drew) ?_ (.tmp 23) (.tmp 25) ?_ w1.heap.size (w1.heap.size + 1) ?_ ?_ a la capa xs ?_ ?_ HLA.out NA.out hla100 ?_ ?_ ?_; rfl; rfl; rfl; exact LIX.out; rfl; exact VRow.below RX.out (Below.refl _ _).drew; exact BXX.size; (show w1.heap.size + 1 < Wx.heap.size; omega); intro g cap w5 hown1 hgr hg1 hg2; have hb5 : Below w1.heap.size w1 w5 := own_app_below BXX.drew (by omega) BXX.size hgr; have HO5 := Lib.hid hown1; have K5 := Lib.hid (K.out.call hb5); obtain ⟨p0, p1, _⟩ := two_cells K5.out.hA; obtain ⟨p2, p3, _⟩ := two_cells (heap_allocd K5.out.hA (.cells #[.int .u64 0, .slice none 0 0] 55)); have XP := Lib.hid (own_app_block hgr (by omega) (show Wx.drew.heap[w1.heap.size]? = _ from XX.out)); obtain ⟨o0, o1, of⟩ := two_cells XP.out; have of0 := of 0; have of1 := of 1; clear hown1 hgr of))
      all_goals (go_wp2_with fail; go_meet; first | exact own_meetA hb5 hg1 hg2 HO5.out | exact own_meetB hb5 hg1 hg2 HO5.out (by omega) (by assumption : Hid _).out)
    case rest =>
      clear q0hA0 q0hA1 q0hB0 q0hB1 z0 z1 y0 y1 b0 b1 x20 x21 LIY LIT LIX BY BZ BB BXX XZ XX RY RZ RX KY KZ KB KX hWy hWz hWb hWx hsy hsz hsb hsx
      obtain ⟨P, g, cap, rfl, hP, hgP, hg0, hg6, B6, GO, RO⟩ := hcut
      have K6 := Lib.hid (K.out.call B6)
      have hw1s := K.out.below.size
      clear K
      have ROW : Hid (Got wc P ga (some ⟨g, 0, none⟩) la cap xs) := by refine ⟨GO.out, ?_⟩; obtain ⟨_, a9, c9, e9, r9, _⟩ := VRow.of_own RO.out; cases e9; exact r9
      have FOW : Hid (∀ W : World, VRow W (some ⟨g, 0, none⟩) (u64s xs) → FAt W (some ⟨g, 0, none⟩) ga xs) := fun W h => ⟨h, HFA.out.gen, HFA.out.all, HFA.out.len⟩
      obtain ⟨q20hA0, q20hA1, _⟩ := two_cells K6.out.hA
      obtain ⟨q20hB0, q20hB1, _⟩ := two_cells K6.out.hB
      obtain ⟨gown200, gown201, _⟩ := two_cells ROW.out.box
      go_wp2_with fail
      refine (combA_is n (some ⟨g, 0, none⟩) b cap capb ga gb xs ys _ (FOW.out _ ROW.out.row) (K6.out.fat HFB.out) e0 HE.out cg HCG.out cv HCV.out la lb HLA.out HLB.out).mono ?_
      rintro e v21 ⟨a21, c21, rfl, hr21, hf21, hb21⟩
      rw [HLC.out]
      obtain ⟨W21, hW21⟩ : ∃ W, v21.alloc (.cells #[.int .u64 (cg : Int), .slice a21 lc c21] 55) = W := ⟨_, rfl⟩
      have K21 := Lib.hid (K6.out.grow hb21 (.cells #[.int .u64 (cg : Int), .slice a21 lc c21] 55))
      have G21 : Hid (Got (v21.alloc (.cells #[.int .u64 (cg : Int), .slice a21 lc c21] 55)) v21.heap.size cg a21 lc c21 cv) := Got.new hr21
      have T21 := Lib.hid (hb21.alloc hb21.size (.cells #[.int .u64 (cg : Int), .slice a21 lc c21] 55))
      have own_21 := Lib.hid (Got.call ROW.out (T21.out.mono (Nat.le_refl _)))
      rw [hW21] at K21 G21 T21 own_21
      have HF21 := Lib.hid hf21; have hs21 := hb21.size; have hu21 : v21.heap.size < W21.heap.size := by rw [← hW21]; simp
      clear hr21 hf21 hb21 q20hA0 q20hA1 q20hB0 q20hB1 gown200 gown201
      obtain ⟨q21hA0, q21hA1, _⟩ := two_cells K21.out.hA
      obtain ⟨q21hB0, q21hB1, _⟩ := two_cells K21.out.hB
      obtain ⟨gown210, gown211, _⟩ := two_cells own_21.out.box
      go_wp2_with fail
      refine (canonA_is n (some ⟨g, 0, none⟩) cap ga xs _ (FOW.out _ own_21.out.row) ce HCE.out kg HKG.out kv HKV.out la HLA.out).mono ?_
      rintro e v22 ⟨a22, c22, rfl, hr22, hf22, hb22⟩
      rw [HLK.out]
      obtain ⟨W22, hW22⟩ : ∃ W, v22.alloc (.cells #[.int .u64 (kg : Int), .slice a22 lk c22] 55) = W := ⟨_, rfl⟩
      have K22 := Lib.hid (K21.out.grow hb22 (.cells #[.int .u64 (kg : Int), .slice a22 lk c22] 55))
      have G22 : Hid (Got (v22.alloc (.cells #[.int .u64 (kg : Int), .slice a22 lk c22] 55)) v22.heap.size kg a22 lk c22 kv) := Got.new hr22
      have T22 := Lib.hid (hb22.alloc hb22.size (.cells #[.int .u64 (kg : Int), .slice a22 lk c22] 55))
      have own_22 := Lib.hid (Got.call own_21.out (T22.out.mono (Nat.le_refl _)))
      have p_22 := Lib.hid (Got.call G21.out (T22.out.mono (Nat.le_refl _)))
      rw [hW22] at K22 G22 T22 own_22 p_22
      have HF22 := Lib.hid hf22; have hs22 := hb22.size; have hu22 : v22.heap.size < W22.heap.size := by rw [← hW22]; simp
      clear hr22 hf22 hb22 q21hA0 q21hA1 q21hB0 q21hB1 gown210 gown211
      obtain ⟨A1, hA1⟩ : ∃ x, v21.heap.size = x := ⟨_, rfl⟩; obtain ⟨A2, hA2⟩ : ∃ x, v22.heap.size = x := ⟨_, rfl⟩
      have T12 := Lib.hid ((T21.out).trans (T22.out.mono (by omega)))
      have RO2 := own_below8 RO.out T12.out
      have hg8 : w.heap.size ≤ g := by omega
      have hw2 : w1.heap.size ≤ wc.heap.size := B6.size
      rw [hA1] at p_22; rw [hA2] at G22
      have OK0 : Hid (OwnK W22 w.heap.size (w.heap.size + 1) P A1 A2 (#[.int .u64 (ga : Int), .slice a la capa]) (#[.int .u64 (gb : Int), .slice b lb capb]) (#[.int .u64 (ga : Int), .slice (some ⟨g, 0, none⟩) la cap]) (#[.int .u64 (cg : Int), .slice a21 lc c21]) (#[.int .u64 (kg : Int), .slice a22 lk c22]) a b a21 a22 xs ys cv kv) := ⟨K22.out.hA, K22.out.hB, own_22.out.box, p_22.out.box, G22.out.box, (K22.out.fat HFA.out).row, (K22.out.fat HFB.out).row, p_22.out.row, G22.out.row⟩
      have nr : ∀ {Z : Nat} {cs : Array Value}, W22.heap[Z]? = some (.cells cs 55 (0, 0)) → Z ≠ g := fun h e => not_row h (by decide) RO2 (by rw [e]; rfl)
      have NN : Hid (OwnN g w.heap.size (w.heap.size + 1) P A1 A2 a b a21 a22 xs ys) := ⟨nr OK0.out.hA, nr OK0.out.hB, nr OK0.out.hO, nr OK0.out.hP, nr OK0.out.hQ, fun h ad e => by have := vrow_lt HFA.out.row h ad e; omega, fun h ad e => by have := vrow_lt HFB.out.row h ad e; omega, fun ad e => by have := (HF21.out ad e).1; omega, fun ad e => by have := (HF22.out ad e).1; omega⟩
      have OWN0 : Hid (∃ vs : List Value, (∀ u ∈ vs, ∃ z : Int, u = .int .u64 z) ∧ W22.ownsRow w1.heap.size 23 1 (.slice (some ⟨g, 0, none⟩) la cap) la vs) := ⟨u64s xs, u64s_ints xs, RO2⟩
      have KB22 := Lib.hid K22.out.below
      clear nr RO2 GO RO ROW HF21 HF22 own_22 p_22 G22 T21 T22 T12 K22 hs21 hs22 hu21 hu22 K21 K6 B6 G21 own_21
      obtain ⟨l0, l1, _⟩ := two_cells OK0.out.hO
      go_wp2_with fail
      go_loopw [44] (fun i wr => ∃ k : Nat, k ≤ la ∧ i = .int .i64 k ∧ Hid (∃ vs : List Value, (∀ u ∈ vs, ∃ z : Int, u = .int .u64 z) ∧ wr.ownsRow w1.heap.size 23 1 (.slice (some ⟨g, 0, none⟩) la cap) la vs) ∧ Hid (OwnK wr w.heap.size (w.heap.size + 1) P A1 A2 (#[.int .u64 (ga : Int), .slice a la capa]) (#[.int .u64 (gb : Int), .slice b lb capb]) (#[.int .u64 (ga : Int), .slice (some ⟨g, 0, none⟩) la cap]) (#[.int .u64 (cg : Int), .slice a21 lc c21]) (#[.int .u64 (kg : Int), .slice a22 lk c22]) a b a21 a22 xs ys cv kv) ∧ Below w.heap.size w wr) (fun i _ => la - (intOf i).toNat)
      case atStart => exact ⟨0, Nat.zero_le _, rfl, OWN0, OK0, KB22.out⟩
      case round =>
        clear l0 l1
        obtain ⟨k, hk, rfl, HO, HK, hb⟩ := hrel
        obtain ⟨l0, l1, _⟩ := two_cells HK.out.hO
        by_cases hlt : k < la
        · obtain ⟨vs, hvi, hown⟩ := HO.out
          have hvl : vs.length = la := by have := hown.1; omega
          obtain ⟨z, hz⟩ : ∃ z : Int, vs[k]? = some (.int .u64 z) := by obtain ⟨z, hz⟩ := hvi (vs[k]'(by omega)) (List.getElem_mem _); exact ⟨z, by rw [List.getElem?_eq_getElem (by omega), hz]⟩
          have d0 := (hown.cellAt k (by omega)).trans hz
          have q0 := hown.frozenAt k
          have g0 : (0 : Int) ≤ (k : Int) := by omega
          have g1 : (k : Int) < (la : Int) := by omega
          have HS : ∀ u : Int, Hid (∃ vs : List Value, (∀ u ∈ vs, ∃ z : Int, u = .int .u64 z) ∧ (wr.setCell ⟨g, k, none⟩ (.int .u64 u)).ownsRow w1.heap.size 23 1 (.slice (some ⟨g, 0, none⟩) la cap) la vs) := fun u => ⟨vs.set k (.int .u64 u), fun x hx => by rcases List.mem_or_eq_of_mem_set hx with h | h; exact hvi x h; exact ⟨u, h⟩, (hown.stored k (.int .u64 u)).1⟩
          have HHS := Lib.hid HS
          have HK2 := Lib.hid (fun u : Int => OwnK.drew (HK.out.set NN.out k (.int .u64 u)))
          have HB2 := Lib.hid (fun u : Int => hb.setCell (p := ⟨g, k, none⟩) hg8 (.int .u64 u) |>.drew)
          clear HS hown hvi hz
          go_wp2
          go_region
          all_goals go_wp2
          all_goals go_roundw
          case rel => exact ⟨k + 1, by omega, by go_num, HHS.out _, HK2.out _, HB2.out _⟩
          case measure => simp [intOf]; omega
        · have KE : Hid (KeepK w wr w.heap.size (w.heap.size + 1) #[.int .u64 (ga : Int), .slice a la capa] #[.int .u64 (gb : Int), .slice b lb capb]) := ⟨HK.out.hA, HK.out.hB, hb⟩
          have GP : Hid (Got wr A1 cg a21 lc c21 cv) := ⟨HK.out.hP, HK.out.rp⟩
          have GQ : Hid (Got wr A2 kg a22 lk c22 kv) := ⟨HK.out.hQ, HK.out.rq⟩
          have g1 : (la : Int) ≤ (k : Int) := by omega
          clear HK HO hb l0 l1 NN OK0 OWN0
          obtain ⟨q30hA0, q30hA1, _⟩ := two_cells KE.out.hA
          obtain ⟨q30hB0, q30hB1, _⟩ := two_cells KE.out.hB
          go_wp2_with fail
          refine (combR_is n a b capa capb ga gb xs ys _ (KE.out.fat HFA.out) (KE.out.fat HFB.out) e0 HE.out cg HCG.out cv HCV.out la lb HLA.out HLB.out).mono ?_
          rintro e v31 ⟨a31, c31, rfl, hr31, hf31, hb31⟩
          rw [HLC.out]
          obtain ⟨W31, hW31⟩ : ∃ W, v31.alloc (.cells #[.int .u64 (cg : Int), .slice a31 lc c31] 55) = W := ⟨_, rfl⟩
          have K31 := Lib.hid (KE.out.grow hb31 (.cells #[.int .u64 (cg : Int), .slice a31 lc c31] 55))
          have G31 : Hid (Got (v31.alloc (.cells #[.int .u64 (cg : Int), .slice a31 lc c31] 55)) v31.heap.size cg a31 lc c31 cv) := Got.new hr31
          have p_31 := Lib.hid ((GP.out.call hb31).call (box_new (.cells #[.int .u64 (cg : Int), .slice a31 lc c31] 55)))
          have q_31 := Lib.hid ((GQ.out.call hb31).call (box_new (.cells #[.int .u64 (cg : Int), .slice a31 lc c31] 55)))
          rw [hW31] at K31 G31 p_31 q_31
          clear hr31 hf31 hb31
          clear q30hA0 q30hA1 q30hB0 q30hB1
          obtain ⟨q31hA0, q31hA1, _⟩ := two_cells K31.out.hA
          obtain ⟨q31hB0, q31hB1, _⟩ := two_cells K31.out.hB
          go_wp2_with fail
          refine (canonRR_is n a capa ga xs _ (K31.out.fat HFA.out) ce HCE.out kg HKG.out kv HKV.out la HLA.out).mono ?_
          rintro e v32 ⟨a32, c32, rfl, hr32, hf32, hb32⟩
          rw [HLK.out]
          obtain ⟨W32, hW32⟩ : ∃ W, v32.alloc (.cells #[.int .u64 (kg : Int), .slice a32 lk c32] 55) = W := ⟨_, rfl⟩
          have K32 := Lib.hid (K31.out.grow hb32 (.cells #[.int .u64 (kg : Int), .slice a32 lk c32] 55))
          have G32 : Hid (Got (v32.alloc (.cells #[.int .u64 (kg : Int), .slice a32 lk c32] 55)) v32.heap.size kg a32 lk c32 kv) := Got.new hr32
          have p_32 := Lib.hid ((p_31.out.call hb32).call (box_new (.cells #[.int .u64 (kg : Int), .slice a32 lk c32] 55)))
          have q_32 := Lib.hid ((q_31.out.call hb32).call (box_new (.cells #[.int .u64 (kg : Int), .slice a32 lk c32] 55)))
          have x_32 := Lib.hid ((G31.out.call hb32).call (box_new (.cells #[.int .u64 (kg : Int), .slice a32 lk c32] 55)))
          rw [hW32] at K32 G32 p_32 q_32 x_32
          clear hr32 hf32 hb32
          clear q31hA0 q31hA1 q31hB0 q31hB1
          obtain ⟨q32hA0, q32hA1, _⟩ := two_cells K32.out.hA
          obtain ⟨q32hB0, q32hB1, _⟩ := two_cells K32.out.hB
          obtain ⟨gp320, gp321, _⟩ := two_cells p_32.out.box
          obtain ⟨gx320, gx321, _⟩ := two_cells x_32.out.box
          go_wp2_with fail
          refine (sameR_is a21 a31 c21 c31 cg cg cv cv _ hcl hcl p_32.out.row x_32.out.row true (same_self _ _) lc lc HLC.out HLC.out).mono ?_
          rintro e v33 ⟨rfl, hb33⟩
          have K33 := Lib.hid (K32.out.call hb33)
          have p_33 := Lib.hid (p_32.out.call hb33)
          have q_33 := Lib.hid (q_32.out.call hb33)
          have x_33 := Lib.hid (x_32.out.call hb33)
          have y_33 := Lib.hid (G32.out.call hb33)
          clear hb33
          clear q32hA0 q32hA1 q32hB0 q32hB1 gp320 gp321 gx320 gx321
          obtain ⟨q33hA0, q33hA1, _⟩ := two_cells K33.out.hA
          obtain ⟨q33hB0, q33hB1, _⟩ := two_cells K33.out.hB
          obtain ⟨gq330, gq331, _⟩ := two_cells q_33.out.box
          obtain ⟨gy330, gy331, _⟩ := two_cells y_33.out.box
          go_wp2_with fail
          refine (sameR_is a22 a32 c22 c32 kg kg kv kv _ hkl hkl q_33.out.row y_33.out.row true (same_self _ _) lk lk HLK.out HLK.out).mono ?_
          rintro e v34 ⟨rfl, hb34⟩
          have K34 := Lib.hid (K33.out.call hb34)
          have p_34 := Lib.hid (p_33.out.call hb34)
          have q_34 := Lib.hid (q_33.out.call hb34)
          have x_34 := Lib.hid (x_33.out.call hb34)
          have y_34 := Lib.hid (y_33.out.call hb34)
          clear hb34
          clear q33hA0 q33hA1 q33hB0 q33hB1 gq330 gq331 gy330 gy331
          obtain ⟨q34hA0, q34hA1, _⟩ := two_cells K34.out.hA
          obtain ⟨q34hB0, q34hB1, _⟩ := two_cells K34.out.hB
          go_wp2_with fail
          refine (alive_any _ (K34.out.tabs HT.out)).mono ?_
          rintro e v35 ⟨rfl, hb35⟩
          have K35 := Lib.hid (K34.out.call hb35)
          have p_35 := Lib.hid (p_34.out.call hb35)
          have q_35 := Lib.hid (q_34.out.call hb35)
          have x_35 := Lib.hid (x_34.out.call hb35)
          have y_35 := Lib.hid (y_34.out.call hb35)
          clear hb35
          go_wp2
          go_ret
          exact ⟨rfl, K35.out.below⟩
end Go.Proofs.YtdaijibkafepcaaDoor
