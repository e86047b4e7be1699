import Derived.Test.YtofaiolkihcfmaaGreatDoorRows
import Derived.Lib.LaidTab
import Derived.Lib.ItoaNum
import Derived.Lib.TrailingZeros
import Derived.Stop.LaidErr
import Derived.WalkSmall
import Derived.LaidMore
import Derived.WalkKit
import Derived.Shelf.Spec.TrailingZeros
import Derived.Test.YtofaiolkihcfmaaGreatDoorProg
import Derived.Laws.BitsAllLaws
import Derived.Laws.Bits64
import Derived.Lib.Hide
import Derived.Deep.QuietTactic
import Derived.BigQuiet
import Derived.RegionTactic
import Derived.BigRegion
import Derived.Deep.RegionHeld3
import Derived.ChangeAlike
import Derived.RangeFuncNested
import Derived.RangeFuncBound
import Derived.RangeFuncCalls
import Derived.RangeFuncLeaves
import Derived.Shelf.Abstract
import Derived.Shelf.RegionOpen
import Derived.OwnWalkIn
import Derived.TacticsInMore
import Derived.LoopNIn
import Derived.LoopIn
import Derived.Laws.Bits128
import Derived.Deep.AppendLies
import Derived.Below
import Derived.Maps.AppendAt
import Derived.Shelf.Strconv.Itoa0
import Derived.Shelf.Strconv.Itoa1
import Derived.Shelf.LaysM
import Derived.Shelf.Strconv.Itoa2
import Derived.Shelf.Strconv.AppendUint10
import Derived.Shelf.Strconv.AppendInt10
import Derived.Shelf.Strconv.AppendIntPublic10
import Derived.Shelf.Slices.Reverse
import Derived.Ground.Names2Prog
import Derived.Shelf.Slices.Clone
import Derived.Shelf.Slices.Cells
import Derived.Sort.Grow
import Derived.Lib.OthersKept
import Derived.Laws.IdiomStrings
import Derived.StillTailTactics
import Derived.Deep.RegionLaw
import Derived.Deep.DeepCutAuto
import Derived.Deep.CutRange
import Derived.Deep.RegionWith
import Derived.Laws.Bits64b
import Derived.Lib.SliceRun
import Derived.Laws.OwnMore
import Derived.OwnWalk
import Derived.WalkSpells
set_option maxRecDepth 100000
set_option maxHeartbeats 4000000
set_option linter.unusedVariables false
set_option linter.unusedSimpArgs false
set_option linter.unusedSectionVars false
set_option linter.unnecessarySimpa false
namespace Go.Proofs.YtofaiolkihcfmaaGreatDoor
open Go.Proofs.Tryz
section
open Go.RowKit
def oO:List Int:=Lib.deBruijn64tab.map Int.ofNat
structure Tabs (W:World):Prop where
 pow:Lib.TabIs prog W "internal/strconv.uint64pow10" .u64 Lib.pow10Tab
 ctz:Lib.TabIs prog W "math/bits.deBruijn64tab" .u8 oO
theorem gPow:prog.globalNamed "internal/strconv.uint64pow10" = some 0:=by kernel_rfl
theorem G9:prog.globalNamed "math/bits.deBruijn64tab" = some 2:=by kernel_rfl
theorem tPow:(prog.globals[0]?).map (·.type)=some 171:=by kernel_rfl
theorem tCtz:(prog.globals[2]?).map (·.type)=some 193:=by kernel_rfl
theorem Nz:prog.cellsOf 171=20:=by kernel_rfl
theorem N3:prog.cellsOf 193=64:=by kernel_rfl
theorem cells64:prog.cellsOf 46=1:=by kernel_rfl
theorem cells8:prog.cellsOf 5=1:=by kernel_rfl
theorem Ha {P:Program} {W:World} {n:String} {g:Nat} {cs:Array Value} (hg:P.globalNamed n=some g) (h:W.var? P n=some cs):g < W.heap.size:=by
 unfold World.var? at h
 simp only [hg,Option.bind_some] at h
 rcases Nat.lt_or_ge g W.heap.size with h' | h'
 ·exact h'
 ·simp [Array.getElem?_eq_none h'] at h
theorem Tabs.below {W W':World} (h:Tabs W) (hb:Below W.heap.size W W'):Tabs W' :=
 ⟨var?_below hb gPow (Ha gPow h.pow) h.pow,var?_below hb G9 (Ha G9 h.ctz) h.ctz⟩
theorem tabs_of {W:World} (h:laidMet prog [("math/bits.deBruijn32tab",Rows.laid_math_bits_deBruijn32tab),("math/bits.deBruijn64tab",Rows.laid_math_bits_deBruijn64tab),("internal/strconv.uint64pow10",Rows.laid_internal_strconv_uint64pow10)] W):Tabs W :=
 ⟨Lib.tabIs_of_head (rest:=[]) gPow tPow underlying171 underlying46 cells64 Nz (show laidMet prog (("internal/strconv.uint64pow10",Lib.tabData .u64 Lib.pow10Tab)::[]) W from h.tail.tail),
  Lib.tabIs_of_head (rest:=[("internal/strconv.uint64pow10",Rows.laid_internal_strconv_uint64pow10)]) G9 tCtz underlying193 underlying5 cells8 N3 (show laidMet prog (("math/bits.deBruijn64tab",Lib.tabData .u8 oO)::[("internal/strconv.uint64pow10",Rows.laid_internal_strconv_uint64pow10)]) W from h.tail)⟩
theorem Jq (x k idx:Nat) (w:World) (hx0:((x:Int) == 0)=false)
  (key:IntKind.u64.wrap (bits BinOp.and IntKind.u64 (x:Int) (IntKind.u64.wrap (-(x:Int))) * 285870213051353865) / 288230376151711744=(idx:Int))
  (hi:idx < 64) (hk:k < 64) (hcell:w.cell? ⟨2,idx,none⟩=some (.int .u8 k)) :
  Calls prog 129 #[.int .u64 x] w fun e w'=>e = .returned (.int .i64 k)∧w=w':=by
 go_enter func129,ntmps129
 go_wp2_with (simp only [key])
 go_ret
 exact ⟨rfl,rfl⟩
theorem Lw (x:Nat) (hx0:x≠0) (hx:x < 18446744073709551616) (w:World) (ht:Tabs w) :
  Calls prog 129 #[.int .u64 x] w fun e w'=>e = .returned (.int .i64 (Lib.ctz 64 x))∧w=w':=by
 obtain ⟨hlow,hk⟩:=Lib.lowest_bit 64 x hx0 hx
 obtain ⟨hi,htab⟩:=Lib.deBruijn64_at _ hk
 have hcell:=ht.ctz.cell G9 _ (by rw [oO,List.length_map];exact hi)
 have e:oO.getD (2 ^ Lib.ctz 64 x * 285870213051353865 % 18446744073709551616 / 288230376151711744) 0=((Lib.ctz 64 x:Nat):Int):=by
  have:oO.getD (2 ^ Lib.ctz 64 x * 285870213051353865 % 18446744073709551616 / 288230376151711744) 0=Int.ofNat (Lib.deBruijn64tab.getD (2 ^ Lib.ctz 64 x * 285870213051353865 % 18446744073709551616 / 288230376151711744) 0):=by
   simp only [oO,List.getD,List.getElem?_map]
   cases Lib.deBruijn64tab[2 ^ Lib.ctz 64 x * 285870213051353865 % 18446744073709551616 / 288230376151711744]?<;>rfl
  rw [this,htab];rfl
 rw [e] at hcell
 exact Jq x _ _ w (by simp;omega) (Go.Proofs.tz64_key x _ hx hx0 hlow) hi hk hcell
end
section
theorem wN (x:Nat) (h0:x≠0) (h:x < 18446744073709551616):∃ m,x=2 ^ Lib.ctz 64 x * (2 * m+1)∧Lib.ctz 64 x < 64:=by
 have:=Lib.ctzFrom_spec 64 x (by omega) h
 unfold Lib.ctz
 rw [if_neg h0]
 exact this
theorem Jr {x:Nat} (h0:x≠0) (h:x < 18446744073709551616):x.testBit (Lib.ctz 64 x)=true:=by
 obtain ⟨m,hm,_⟩:=wN x h0 h
 generalize Lib.ctz 64 x=k at *
 rw [hm,Nat.mul_comm,Nat.testBit_mul_two_pow]
 simp
theorem wO {x:Nat} (h0:x≠0) (h:x < 18446744073709551616) {i:Nat} (hi:i < Lib.ctz 64 x):x.testBit i=false:=by
 obtain ⟨m,hm,_⟩:=wN x h0 h
 generalize Lib.ctz 64 x=k at *
 rw [hm,Nat.mul_comm,Nat.testBit_mul_two_pow]
 simp;omega
theorem Lx {x:Nat} (h0:x≠0) (h:x < 18446744073709551616) (i:Nat):(x &&& (x - 1)).testBit i=(x.testBit i && decide (i≠Lib.ctz 64 x)):=by
 obtain ⟨m,hm,_⟩:=wN x h0 h
 generalize Lib.ctz 64 x=k at *
 have hp:0 < 2 ^ k:=Nat.two_pow_pos k
 have e1:x - 1=2 ^ k * (2 * m)+(2 ^ k - 1):=by
  rw [hm,Nat.mul_add];omega
 have e2:x=2 ^ k * (2 * m+1)+0:=by omega
 rw [Nat.testBit_and,e1,Nat.testBit_two_pow_mul_add _ (by omega)]
 rw [e2,Nat.testBit_two_pow_mul_add _ hp]
 by_cases hi:i < k
 ·simp [hi]
 ·simp only [hi,if_false]
  by_cases he:i=k
  ·subst he;simp
  ·obtain ⟨j,rfl⟩:∃ j,i=k+(j+1):=⟨i - k - 1,by omega⟩
   have e3:k+(j+1) - k=j+1:=by omega
   rw [e3,Nat.testBit_succ,Nat.testBit_succ]
   have d1:(2 * m+1) / 2=m:=by omega
   have d2:2 * m / 2=m:=by omega
   rw [d1,d2]
   simp
theorem N4 {x:Nat} (h0:x≠0):x &&& (x - 1) < x:=Nat.lt_of_le_of_lt Nat.and_le_right (by omega)
def N5 (c:Nat):Nat→Nat
 | 0=>0
 | m+1=>256 * N5 c m+c
def py (m x:Nat):Nat:=(x / 2 &&& N5 85 m)+(x &&& N5 85 m)
def y1 (b:Nat):Nat:=((b / 2) &&& 85)+(b &&& 85)
def z1 (b:Nat):Nat:=(y1 b / 4 &&& 51)+(y1 b &&& 51)
def v1 (b:Nat):Nat:=(z1 b / 16+z1 b) &&& 15
end
section
open Go.RowKit
theorem dR {k:IntKind} {a b:Int} (h:a=b):Ending.returned (.int k a) = .returned (.int k b):=by rw [h]
theorem bY {a b:Bool} (h:a=b):Ending.returned (.bool a) = .returned (.bool b):=by rw [h]
theorem rii {k m:IntKind} {a b c d:Int} (h:a=b) (h2:c=d):Ending.returned (.tuple #[.int k a,.int m c]) = .returned (.tuple #[.int k b,.int m d]):=by rw [h,h2]
theorem zL (n a b:Int) (r:Bool) (hr:(decide (a≤n) && decide (n≤b))=r) (w:World):Calls prog 136 #[.int .i64 n,.int .i64 a,.int .i64 b] w fun e w'=>e = .returned (.bool r)∧w=w':=by
 subst hr
 by_cases h1:a≤n
 ·by_cases h2:n≤b
  ·have H:Hid ((decide (a≤n) && decide (n≤b))=true):=by show _=_;simp [h1,h2]
   rw [H.out]
   go_enter func136,ntmps136
   go_wp2
   go_ret
   exact ⟨rfl,rfl⟩
  ·have H:Hid ((decide (a≤n) && decide (n≤b))=false):=by show _=_;simp [h1,h2]
   rw [H.out]
   go_enter func136,ntmps136
   go_wp2
   go_ret
   exact ⟨rfl,rfl⟩
 ·have H:Hid ((decide (a≤n) && decide (n≤b))=false):=by show _=_;simp [h1]
  rw [H.out]
  go_enter func136,ntmps136
  go_wp2
  go_ret
  exact ⟨rfl,rfl⟩
theorem lN {n:Nat} (hn:n≤64):2 ^ n≤18446744073709551616:=Nat.pow_le_pow_right (by decide:1≤2) hn
theorem sH {n:Nat} (hn:n≤63):2 ^ n≤9223372036854775808:=Nat.pow_le_pow_right (by decide:1≤2) hn
theorem N6 (n:Nat) (hn:n≤64):IntKind.u64.wrap (IntKind.u64.wrap ((2:Int) ^ n) - 1)=((2 ^ n - 1:Nat):Int):=by
 have e:((2:Int) ^ n)=((2 ^ n:Nat):Int):=by simp
 have h:=lN hn
 have h1:1≤2 ^ n:=Nat.one_le_two_pow
 rw [e]
 generalize 2 ^ n=q at *
 rw [IntKind.wrap_u64,IntKind.wrap_u64]
 omega
theorem wP (n:Nat) (hn:n≤64) (w:World):Calls prog 137 #[.int .i64 n] w fun e w'=>e = .returned (.int .u64 ((2 ^ n - 1:Nat):Int))∧w=w':=by
 have H:=Lib.hid (N6 n hn)
 go_enter func137,ntmps137
 go_wp2
 go_ret
 exact ⟨dR H.out,rfl⟩
theorem Hb (k:Nat) (hk:k < 63):IntKind.u64.wrap (((2 ^ k:Nat):Int) * 2)=((2 ^ (k+1):Nat):Int):=by
 have h:=sH (show k+1≤63 by omega)
 rw [Nat.pow_succ] at *
 generalize 2 ^ k=q at *
 rw [IntKind.wrap_u64];omega
theorem tX (i:Int) (hi:i≤63) (w:World):Calls prog 72 #[.int .i64 i] w fun e w'=>e = .returned (.int .u64 ((2 ^ i.toNat:Nat):Int))∧w=w':=by
 go_enter func72,ntmps72
 go_wp2_with fail
 go_loop [0,3] (fun j v=>∃ (k:Nat) (q:Int),k≤i.toNat∧q=i - (k:Int)∧j = .int .i64 q∧∃ p:Int,v = .int .u64 p∧Hid (((2 ^ k:Nat):Int)=p)) (fun j _=>(intOf j).toNat)
 case atStart=>exact ⟨0,i,Nat.zero_le _,by omega,rfl,1,rfl,rfl⟩
 case round =>
  obtain ⟨k,q,hk,hq,rfl,p,rfl,HP⟩:=hrel
  by_cases hlt:0 < q
  ·have HN:Hid (((2 ^ (k+1):Nat):Int)=IntKind.u64.wrap (p * 2)):=by show _=_;rw [← HP.out];exact (Hb k (by omega)).symm
   have g:IntKind.i64.wrap (q - 1)=q - 1:=by simp [IntKind.wrap,IntKind.signed,IntKind.bits];omega
   go_wp2
   go_round
   case rel=>exact ⟨k+1,q - 1,by omega,by omega,by congr 1;omega,_,rfl,HN⟩
   case measure=>simp [intOf];omega
  ·have HE:Hid (p=((2 ^ i.toNat:Nat):Int)):=by show _=_;rw [← HP.out,show k=i.toNat by omega]
   go_wp2
   go_ret
   exact ⟨dR HE.out,rfl⟩
def zE (f:Nat) (i:Int):Bool:=decide (0≤i) && (decide (i < 64) && f.testBit i.toNat)
theorem N7 (f k:Nat) (hf:f < 18446744073709551616):((IntKind.u64.wrap ((f:Int) / ((2 ^ k:Nat):Int))).tmod 2 == 1)=f.testBit k:=by
 have h1:f / 2 ^ k < 18446744073709551616:=Nat.lt_of_le_of_lt (Nat.div_le_self _ _) hf
 rw [← Int.natCast_ediv,Nat.testBit_eq_decide_div_mod_eq,IntKind.wrap_u64,tmod_of_emod]
 generalize f / 2 ^ k=q at *
 rw [Bool.eq_iff_iff,beq_iff_eq,decide_eq_true_iff];omega
theorem Bb (f:Nat) (i:Int) (r:Bool) (hr:zE f i=r) (hf:f < 18446744073709551616) (w:World):Calls prog 75 #[.int .u64 f,.int .i64 i] w fun e w'=>e = .returned (.bool r)∧w=w':=by
 by_cases h0:0≤i
 ·by_cases h1:i < 64
  ·have hp:0 < 2 ^ i.toNat:=Nat.two_pow_pos _
   have hp2:2 ^ i.toNat≤9223372036854775808:=sH (by omega)
   have H:Hid (((IntKind.u64.wrap ((f:Int) / ((2 ^ i.toNat:Nat):Int))).tmod 2 == 1)=r):=by
    show _=_
    rw [N7 f _ hf,← hr];simp [zE,h0,h1]
   have hq:f / 2 ^ i.toNat < 18446744073709551616:=Nat.lt_of_le_of_lt (Nat.div_le_self _ _) hf
   clear hr
   revert hp hp2 H hq
   obtain ⟨p,hpp⟩:∃ p:Nat,2 ^ i.toNat=p:=⟨_,rfl⟩
   have HPP:=Lib.hid hpp
   rw [hpp]
   intro hp hp2 H hq
   clear hpp
   have hd0:((p:Int) == 0)=false:=by simp;omega
   go_enter func75,ntmps75
   go_wp2_with fail
   refine (tX i (by omega) _).mono ?_
   rintro e w1 ⟨rfl,rfl⟩
   rw [HPP.out]
   go_wp2
   go_ret
   exact ⟨bY (by first | exact H.out | (have:=H.out;simpa using this)),rfl⟩
  ·have H:Hid (false=r):=by show _=_;rw [← hr];simp [zE,h1]
   clear hr
   go_enter func75,ntmps75
   go_wp2
   go_ret
   exact ⟨bY H.out,rfl⟩
 ·have H:Hid (false=r):=by show _=_;rw [← hr];simp [zE,h0]
  clear hr
  go_enter func75,ntmps75
  go_wp2
  go_ret
  exact ⟨bY H.out,rfl⟩
end
section
open Go.RowKit Go.Shelf
structure Abide {α:Type} (B:Nat) (J:List α→World→Prop):Prop where
 cell:∀ pre X v,J pre X→J pre (X.setCell ⟨B,0,none⟩ v)
 drew:∀ pre X m,J pre X→J pre (X.drewN m)
def Js {α:Type} (F:Fence) (n:Nat) (P:Program) (g:Nat) (lb:Array Value) (encs:α→Array Value) (xs:List α) (B:Nat) (Kw:World→Prop) (w:World):Prop :=
 ∀ (l:Nat) (J:List α→World→Prop) (W:World),W.heap[B]?=w.heap[B]?→Abide B J→(∀ pre X,J pre X→Kw X) →
  (∀ pre x rest X,xs=pre++x::rest→J pre X→YieldAt F (n - 1) P l (encs x) X fun e X'=>e = .returned (.bool true)∧J (pre++[x]) X'∧X'.heap[B]?=X.heap[B]?) →
  J [] W →
  CallsIn F n P g (#[.func (.yield l) #[] #[]]++lb) W fun e W'=>(∃ v,e = .returned v)∧J xs W'
def N8 {α:Type} (A B:Nat) (I:List α→World→Prop) (ys:List α) (W:World):Exit→Act→World→Prop
 | .normal,_,W'=>KeepsFrom A W W'∧W'.heap[B]?=W.heap[B]?∧I ys W'
 | _,_,_=>False
variable {F:Fence} {n:Nat} {P:Program}
theorem Hc {α:Type} {g:Operand} {ps:Array Tmp} {assign body:Code} {Q:Exit→Act→World→Prop} {a:Act} {w:World}
  (hro:F.round=none) (h1:1≤n) {gf:Nat} {lb:Array Value} (hg:a.eval g = .func (.func gf) #[] lb) (hFg:F.fn gf) (eg:∀ args w,(callFunc gf args).run P w = .ok (.enter gf args) w)
  {encs:α→Array Value} {xs:List α} {B:Nat} {Kw:World→Prop} (hB:B < w.heap.size) (hseq:Js F (n - 1) P gf lb encs xs B Kw w) (hps:∀ x,(encs x).size=ps.size)
  (I:List α→World→Prop) (hI:OwnFrom w.heap.size I) (hA:Abide B I) (hKw:∀ pre X,I pre X→Kw X) (h0:I [] w) (a₁:α→Act)
  (hassign:∀ (l:Nat) (x:α) (W:World) (K:Act→World→Prop),K (a₁ x) W →
   assign.wpIn (F.inRound l) (n - 1 - 1) P (Exit.then K (fun _ _ _=>False)) { tmps:=(ps.zip (encs x)).foldl (fun t (p,v)=>t.setIfInBounds p v) a.tmps,defers:=[] } W)
  (hbody:∀ (l:Nat) (pre:List α) (x:α) (rest:List α) (W:World),xs=pre++x::rest→I pre W→body.wpIn (F.inRound l) (n - 1 - 1) P (N8 w.heap.size B I (pre++[x]) W) (a₁ x) W)
  (hdone:∀ (D:Nat) (W:World),w.heap.size≤D→I xs W→W.heap[D]?=some (.deferred (some []))→Q .normal { a with defers:={ target:=.collected D,args:=#[] }::a.defers } W) :
  (Code.rangeFunc g ps assign body).wpIn F n P Q a w:=by
 refine wpIn_rangeFunc fun fn hfn=>?_
 rw [hro]
 let rec_:LoopState→Loop:=fun st=>{ state:=st,pending:=none,fn,tmps:=a.tmps,params:=ps,assign,body,defers:=w.heap.size }
 have hsz0:(w.alloc (.deferred (some []))).heap.size=w.heap.size+1:=by simp
 obtain ⟨W1,hW1⟩:∃ W1,(w.alloc (.deferred (some []))).alloc (.loop (rec_ .ready))=W1:=⟨_,rfl⟩
 have hL1:W1.heap[w.heap.size+1]?=some (.loop (rec_ .ready)):=by
  rw [← hW1,← hsz0];exact World.alloc_heap_new _ _
 have hK1:W1.heap[w.heap.size]?=some (.deferred (some [])):=by
  rw [← hW1];exact (Below.heap_alloc _ _ _ (by simp)).trans (World.alloc_heap_new w _)
 have hI1:I [] W1:=by
  rw [← hW1]
  exact hI _ _ _ none (hI _ _ _ none h0 (World.grownBy_alloc w _ none) (fun r e=>by cases e)) (World.grownBy_alloc _ _ none) (fun r e=>by cases e)
 have hB1:W1.heap[B]?=w.heap[B]?:=by
  rw [← hW1];exact (Below.heap_alloc _ _ _ (by simp;omega)).trans (Below.heap_alloc _ _ _ hB)
 refine ⟨w.heap.size+1,[{ target:=.collected w.heap.size,args:=#[] }],W1,{ target:=.fn (.func gf) lb,args:=#[.func (.yield (w.heap.size+1)) #[] #[]] },W1,gf,
  #[.func (.yield (w.heap.size+1)) #[] #[]]++lb,W1,?_,?_,?_,?_,fun _=>h1,?_⟩
 ·rw [← hW1];exact run_enterLoop_outer _ _ _ _ _
 ·simp only [resolve,hg]
  simp [go_sem]
 ·intro f' hf';simp [Target.leads] at hf';subst hf';exact hFg
 ·simp [invoke,go_sem,eg]
 have other:∀ (X:World) (v:Value) (k:Nat),B < w.heap.size→w.heap.size≤k→(X.setCell ⟨B,0,none⟩ v).heap[k]?=X.heap[k]?:=fun X v k h1 h2=>Below.heap_setCell _ _ _ _ (by show k≠B;omega)
 refine (hseq (w.heap.size+1) (fun pre W=>I pre W∧W.heap[w.heap.size+1]?=some (.loop (rec_ .ready))∧W.heap[w.heap.size]?=some (.deferred (some []))) W1 hB1
  ⟨fun pre X v h=>⟨hA.cell _ _ _ h.1,(other X v _ hB (by omega)).trans h.2.1,(other X v _ hB (by omega)).trans h.2.2⟩,fun pre X m h=>⟨hA.drew _ _ _ h.1,h.2.1,h.2.2⟩⟩ (fun pre X h=>hKw _ _ h.1) ?_ ⟨hI1,hL1,hK1⟩).mono ?_
 ·rintro pre x rest W hx ⟨hi,hl,hk⟩
  have hlt:w.heap.size+1 < W.heap.size:=(Array.getElem?_eq_some_iff.1 hl).1
  have hy:=run_yield (P:=P) (args:=encs x) hl (hps x)
  refine ⟨fn,_,assign,body,hy,roundIn_of_wpIn hfn (hassign _ x W _ ⟨_,run_beginRound hl rfl,?_⟩)⟩
  have hl2:(W.putObj (w.heap.size+1) (.loop (rec_ .busy))).heap[w.heap.size+1]?=some (.loop (rec_ .busy)):=World.putObj_heap_same hlt
  have hk2:(W.putObj (w.heap.size+1) (.loop (rec_ .busy))).heap[w.heap.size]?=some (.deferred (some [])):=(World.putObj_heap_other (by omega)).trans hk
  refine wpIn_mono (hbody _ pre x rest _ hx (hI.putObj _ hi (by omega) hl rfl)) ?_
  rintro e a3 W3 hp
  cases e with
  | normal =>
   obtain ⟨hk3,hb3,hi3⟩:=hp
   have hl3:=hk3.same _ _ (by omega) hl2 rfl
   have hq3:=hk3.same _ _ (Nat.le_refl _) hk2 rfl
   have hr:=run_endRound (P:=P) none hl3
   refine ⟨_,_,hr,rfl,⟨hI.putObj _ hi3 (by omega) hl3 rfl,World.putObj_heap_same (Array.getElem?_eq_some_iff.1 hl3).1,(World.putObj_heap_other (by omega)).trans hq3⟩,?_⟩
   exact (World.putObj_heap_other (by omega)).trans (hb3.trans (World.putObj_heap_other (by omega)))
  | ret=>exact hp.elim
  | exit id=>exact hp.elim
  | goto t=>exact hp.elim
  | panic ch=>exact hp.elim
  | outgrown=>exact hp.elim
 ·rintro e W2 ⟨⟨v,rfl⟩,hi,hl,hk⟩
  exact ⟨none,_,run_endLoop (P:=P) hl (by simp [rec_]),hdone _ _ (Nat.le_refl _) (hI.putObj _ hi (by omega) hl rfl) ((World.putObj_heap_other (by omega)).trans hk)⟩
end
section
open Go.RowKit Go.Shelf
attribute [local go_sem] Oper.semAt_some
def mem (s:Nat):List Nat:=(List.range 64).filter s.testBit
theorem Hd {s x:Nat} (h:x∈mem s):x < 64:=by
 unfold mem at h
 rw [List.mem_filter] at h
 exact List.mem_range.1 h.1
theorem Jt {s x:Nat} (h:x∈mem s):s.testBit x=true:=by
 unfold mem at h
 rw [List.mem_filter] at h
 exact h.2
end
section
open Go.RowKit
theorem Bc (b j:Nat) (hb:b < 18446744073709551616):(18446744073709551615 - b).testBit j=(decide (j < 64) && !b.testBit j):=by
 have e:18446744073709551615 - b=2 ^ 64 - (b+1):=by omega
 rw [e,Nat.testBit_two_pow_sub_succ (by simpa using hb)]
theorem N9 (n j:Nat):(2 ^ n - 1).testBit j=decide (j < n):=Nat.testBit_two_pow_sub_one n j
theorem Bd {n:Nat} (hn:n≤64):2 ^ n - 1 < 18446744073709551616:=by have:=lN hn;have:=Nat.two_pow_pos n;omega
theorem Be {x j:Nat} (hx:x < 18446744073709551616) (h:x.testBit j=true):j < 64:=by
 rcases Nat.lt_or_ge j 64 with h1 | h1
 ·exact h1
 ·rw [Nat.testBit_lt_two_pow (Nat.lt_of_lt_of_le hx (Nat.pow_le_pow_right (by omega:0 < 2) h1))] at h;cases h
def qU (n:Int):Int:=if 0≤n∧n≤64 then ((2 ^ n.toNat - 1:Nat):Int) else 0
def lO (n:Int):Int:=if 0≤n∧n≤64 then 0 else 10
theorem oP (n:Int) (r e0:Int) (hr:qU n=r) (he:lO n=e0) (w:World):Calls prog 132 #[.int .i64 n] w fun e w'=>e = .returned (.tuple #[.int .u64 r,.int .i64 e0])∧w=w':=by
 by_cases h:0≤n∧n≤64
 ·have HR:Hid (((2 ^ n.toNat - 1:Nat):Int)=r):=by show _=_;rw [← hr,qU,if_pos h]
  have HE:Hid (0=e0):=by show _=_;rw [← he,lO,if_pos h]
  have hw:=Lib.hid (show (decide ((0:Int)≤n) && decide (n≤64))=true by simp [h.1,h.2])
  obtain ⟨m,rfl⟩:∃ m:Nat,n=m:=⟨n.toNat,by omega⟩
  have hm:m≤64:=by omega
  clear hr he h
  go_enter func132,ntmps132
  go_wp2_with fail
  refine (zL _ 0 64 true hw.out _).mono ?_
  rintro e w1 ⟨rfl,rfl⟩
  go_wp2_with fail
  refine (wP m hm _).mono ?_
  rintro e w1 ⟨rfl,rfl⟩
  go_wp2
  go_ret2
  exact ⟨rii (by simpa using HR.out) HE.out,rfl⟩
 ·have HR:Hid (0=r):=by show _=_;rw [← hr,qU,if_neg h]
  have HE:Hid (10=e0):=by show _=_;rw [← he,lO,if_neg h]
  have hw:=Lib.hid (show (decide ((0:Int)≤n) && decide (n≤64))=false by simp;omega)
  clear hr he h
  go_enter func132,ntmps132
  go_wp2_with fail
  refine (zL _ 0 64 false hw.out _).mono ?_
  rintro e w1 ⟨rfl,rfl⟩
  go_wp2
  go_ret2
  exact ⟨rii HR.out HE.out,rfl⟩
theorem Ly (k:Nat) (hk:k < 64):IntKind.u64.wrap (((2 ^ k - 1:Nat):Int)+((2 ^ k:Nat):Int))=((2 ^ (k+1) - 1:Nat):Int):=by
 have h:=sH (show k≤63 by omega)
 have hp:=Nat.two_pow_pos k
 rw [Nat.pow_succ] at *
 generalize 2 ^ k=q at *
 rw [IntKind.wrap_u64];omega
theorem Eg (n:Int) (r e0:Int) (hr:qU n=r) (he:lO n=e0) (w:World):Calls prog 133 #[.int .i64 n] w fun e w'=>e = .returned (.tuple #[.int .u64 r,.int .i64 e0])∧w=w':=by
 by_cases h:0≤n∧n≤64
 ·have HR:Hid (((2 ^ n.toNat - 1:Nat):Int)=r):=by show _=_;rw [← hr,qU,if_pos h]
  have HE:Hid (0=e0):=by show _=_;rw [← he,lO,if_pos h]
  obtain ⟨m,rfl⟩:∃ m:Nat,n=m:=⟨n.toNat,by omega⟩
  have hm:m≤64:=by omega
  clear hr he h
  go_enter func133,ntmps133
  go_wp2_with fail
  go_loop [4,5] (fun s i=>∃ (k:Nat) (p:Int),k≤m∧i = .int .i64 k∧s = .int .u64 p∧Hid (((2 ^ k - 1:Nat):Int)=p)) (fun _ i=>m - (intOf i).toNat)
  case atStart=>exact ⟨0,0,Nat.zero_le _,rfl,rfl,rfl⟩
  case round =>
   obtain ⟨k,p,hk,rfl,rfl,HP⟩:=hrel
   by_cases hlt:k < m
   ·have HN:Hid (((2 ^ (k+1) - 1:Nat):Int)=IntKind.u64.wrap (p+((2 ^ k:Nat):Int))):=by show _=_;rw [← HP.out];exact (Ly k (by omega)).symm
    obtain ⟨q,hq⟩:∃ q:Nat,2 ^ k=q:=⟨_,rfl⟩
    have HQ:=Lib.hid hq
    rw [hq] at HN
    clear hq
    go_wp2_with fail
    refine (tX k (by omega) _).mono ?_
    rintro e w1 ⟨rfl,rfl⟩
    rw [show (k:Int).toNat=k from rfl,HQ.out]
    go_wp2
    go_round
    case rel=>exact ⟨k+1,_,by omega,by go_num,rfl,HN⟩
    case measure=>simp [intOf];omega
   ·have HF:Hid (p=r):=by show _=_;rw [← HP.out,← HR.out,show k=m by omega];rfl
    go_wp2
    go_ret2
    exact ⟨rii HF.out HE.out,rfl⟩
 ·have HR:Hid (0=r):=by show _=_;rw [← hr,qU,if_neg h]
  have HE:Hid (10=e0):=by show _=_;rw [← he,lO,if_neg h]
  clear hr he
  by_cases h0:n < 0
  ·clear h
   go_enter func133,ntmps133
   go_wp2
   go_ret2
   exact ⟨rii HR.out HE.out,rfl⟩
  ·have h1:64 < n:=by omega
   clear h
   go_enter func133,ntmps133
   go_wp2
   go_ret2
   exact ⟨rii HR.out HE.out,rfl⟩
def lP (f:Nat) (i:Int) (r:Int) (b:Bool):Prop :=
 (b=true∧∃ k:Nat,r=k∧k < 64∧i≤k∧f.testBit k=true∧∀ j:Nat,j < k→i≤j→f.testBit j=false) ∨
 (b=false∧r=0∧∀ j:Nat,j < 64→i≤j→f.testBit j=false)
theorem zM (f:Nat) (i:Int):∃ r b,lP f i r b:=by
 by_cases h:∃ k:Nat,k < 64∧i≤k∧f.testBit k=true
 ·have hm:∀ n:Nat,(∃ k:Nat,k < n∧i≤k∧f.testBit k=true)→∃ k:Nat,k < n∧i≤k∧f.testBit k=true∧∀ j:Nat,j < k→i≤j→f.testBit j=false:=by
   intro n
   induction n with
   | zero=>rintro ⟨k,hk,_⟩;omega
   | succ n ih =>
    rintro ⟨k,hk,h1,h2⟩
    by_cases hx:∃ k:Nat,k < n∧i≤k∧f.testBit k=true
    ·obtain ⟨q,a,b,c,d⟩:=ih hx
     exact ⟨q,by omega,b,c,d⟩
    ·refine ⟨k,hk,h1,h2,fun j hj hi=>?_⟩
     cases hb:f.testBit j
     ·rfl
     ·exact absurd ⟨j,by omega,hi,hb⟩ hx
  obtain ⟨k,a,b,c,d⟩:=hm 64 h
  exact ⟨k,true,.inl ⟨rfl,k,rfl,a,b,c,d⟩⟩
 ·refine ⟨0,false,.inr ⟨rfl,rfl,fun j hj hi=>?_⟩⟩
  cases hb:f.testBit j
  ·rfl
  ·exact absurd ⟨j,hj,hi,hb⟩ h
theorem kC {f:Nat} {i r r':Int} {b b':Bool} (h:lP f i r b) (h':lP f i r' b'):r=r'∧b=b':=by
 rcases h with ⟨rfl,k,rfl,a1,a2,a3,a4⟩ | ⟨rfl,rfl,a⟩
 ·rcases h' with ⟨rfl,k',rfl,b1,b2,b3,b4⟩ | ⟨rfl,rfl,b⟩
  ·have:k=k':=by
    rcases Nat.lt_trichotomy k k' with h | h | h
    ·have:=b4 k h a2;rw [a3] at this;cases this
    ·exact h
    ·have:=a4 k' h b2;rw [b3] at this;cases this
   exact ⟨by rw [this],rfl⟩
  ·have:=b k a1 a2;rw [a3] at this;cases this
 ·rcases h' with ⟨rfl,k',rfl,b1,b2,b3,b4⟩ | ⟨rfl,rfl,b⟩
  ·have:=a k' b1 b2;rw [b3] at this;cases this
  ·exact ⟨rfl,rfl⟩
def restN (f m:Nat):Nat:=f &&& (18446744073709551615 - (2 ^ m - 1))
theorem mW (f m:Nat) (hm:m≤64) (hf:f < 18446744073709551616) (j:Nat):(restN f m).testBit j=(f.testBit j && decide (m≤j)):=by
 unfold restN
 rw [Nat.testBit_and,Bc _ _ (Bd hm),N9]
 cases hb:f.testBit j
 ·rfl
 ·have:=Be hf hb
  simp [this]
  by_cases h:m≤j
  ·simp [h]
  ·simp [h];omega
theorem Eh (f m:Nat) (hf:f < 18446744073709551616):restN f m < 18446744073709551616:=Nat.lt_of_le_of_lt Nat.and_le_left hf
theorem Bg (f:Nat) (i:Int) (m:Nat) (hm:m≤63) (hi:m=i.toNat) (hf:f < 18446744073709551616) (r:Int) (b:Bool) (h:lP f i r b) :
  (restN f m=0∧r=0∧b=false)∨(restN f m≠0∧r=(Lib.ctz 64 (restN f m):Nat)∧b=true):=by
 by_cases h0:restN f m=0
 ·left
  have:lP f i 0 false:=.inr ⟨rfl,rfl,fun j hj hij=>by
   have:=mW f m (by omega) hf j
   rw [h0,Nat.zero_testBit] at this
   cases hb:f.testBit j
   ·rfl
   ·rw [hb,Bool.true_and] at this
    have h9:=decide_eq_false_iff_not.1 this.symm
    omega⟩
  obtain ⟨e1,e2⟩:=kC h this
  exact ⟨h0,e1,e2⟩
 ·right
  have hlt:=Eh f m hf
  have b1:=Jr h0 hlt
  have b2:=fun {j}=>@wO _ h0 hlt j
  obtain ⟨k,hk⟩:∃ k,Lib.ctz 64 (restN f m)=k:=⟨_,rfl⟩
  rw [hk] at b1
  rw [mW f m (by omega) hf] at b1
  simp only [Bool.and_eq_true,decide_eq_true_eq] at b1
  have:lP f i k true:=.inl ⟨rfl,k,rfl,Be hf b1.1,by omega,b1.1,fun j hj hij=>by
   have:=b2 (j:=j) (by rw [hk];exact hj)
   rw [mW f m (by omega) hf] at this
   cases hb:f.testBit j
   ·rfl
   ·rw [hb,Bool.true_and] at this
    have h9:=decide_eq_false_iff_not.1 this
    omega⟩
  obtain ⟨e1,e2⟩:=kC h this
  exact ⟨h0,by rw [hk];exact e1,e2⟩
theorem rib {k:IntKind} {a b:Int} {c d:Bool} (h:a=b) (h2:c=d):Ending.returned (.tuple #[.int k a,.bool c]) = .returned (.tuple #[.int k b,.bool d]):=by rw [h,h2]
def fP (w:World) (a:Option Addr) (vs:List Value):Prop :=
 vs=[]∨∃ b off,a=some ⟨b,off,none⟩∧∀ (i:Nat) v,vs[i]?=some v→w.cell? ⟨b,off+i,none⟩=some v
theorem iU {w:World} {p:Addr} {v:Value} (h:w.cell? p=some v):p.block < w.heap.size:=by
 unfold World.cell? at h
 rcases Nat.lt_or_ge p.block w.heap.size with h' | h'
 ·exact h'
 ·simp [Array.getElem?_eq_none h'] at h
theorem fP.below {w w':World} {a:Option Addr} {vs:List Value} (h:fP w a vs) (hb:Below w.heap.size w w'):fP w' a vs:=by
 rcases h with h | ⟨b,off,ha,hc⟩
 ·exact .inl h
 ·exact .inr ⟨b,off,ha,fun i v hi=>(hb.cell (p:=⟨b,off+i,none⟩) (iU (hc i v hi))).trans (hc i v hi)⟩
theorem fP.at_ {w:World} {a:Option Addr} {vs:List Value} (h:fP w a vs) {i:Nat} (hi:i < vs.length) :
  ∃ b off v,a=some ⟨b,off,none⟩∧vs[i]?=some v∧b < w.heap.size∧w.cell? ⟨b,off+i,none⟩=some v:=by
 rcases h with h | ⟨b,off,ha,hc⟩
 ·subst h;simp at hi
 ·have e:vs[i]?=some vs[i]:=by simp [hi]
  exact ⟨b,off,vs[i],ha,e,iU (hc i _ e),hc i _ e⟩
theorem fP.of_own {w:World} {base:Nat} {E:Nat} {v:Value} {n:Nat} {vs:List Value} (h:w.ownsRow base E 1 v n vs) :
  n=vs.length∧∃ a cap,v = .slice a vs.length cap∧fP w a vs∧∀ ad,a=some ad→base≤ad.block∧ad.block < w.heap.size:=by
 have hl:=h.1
 have hn:n=vs.length:=by omega
 refine ⟨hn,?_⟩
 rcases h.2 with ⟨rfl,h0⟩ | ⟨g,cap,cur,rfl,hg,hh,hnc,hcm,hcs,ht⟩
 ·have:vs=[]:=List.length_eq_zero_iff.1 (by omega)
  subst this
  exact ⟨none,0,rfl,.inl rfl,fun ad e=>by cases e⟩
 ·subst hn
  refine ⟨some ⟨g,0,none⟩,cap,rfl,.inr ⟨g,0,rfl,fun i x hi=>?_⟩,fun ad e=>by cases e;exact ⟨hg,(Array.getElem?_eq_some_iff.1 hh).1⟩⟩
  have hi2:i < vs.length:=(List.getElem?_eq_some_iff.1 hi).1
  have c0:=h.cellAt i (by omega)
  rw [Nat.zero_add]
  exact c0.trans hi
theorem rD {w w':World} {base size n:Nat} {E:Nat} {v:Value} {xs:List Value} (h:w.ownsRow base E size v n xs) (hb:Below w.heap.size w w'):w'.ownsRow base E size v n xs:=by
 refine ⟨h.1,?_⟩
 rcases h.2 with h2 | ⟨g,cap,cur,hv,hg,hh,r⟩
 ·exact .inl h2
 ·exact .inr ⟨g,cap,cur,hv,hg,by rw [hb.block g (Array.getElem?_eq_some_iff.1 hh).1];exact hh,r⟩
theorem dG (w:World) (o:Obj):(w.alloc o).heap[w.heap.size]?=some o:=by
 show (w.heap.push o)[w.heap.size]?=some o
 simp
def vK (s k:Nat):List Nat:=(List.range k).filter s.testBit
theorem Oa {s k:Nat} (h:s.testBit k=true):vK s (k+1)=vK s k++[k]:=by simp [vK,List.range_succ,List.filter_append,h]
theorem memK_no {s k:Nat} (h:s.testBit k=false):vK s (k+1)=vK s k:=by simp [vK,List.range_succ,List.filter_append,h]
end
end Go.Proofs.YtofaiolkihcfmaaGreatDoor
namespace Go.Proofs
open Go.Shelf
def Tryz.laysM288_ren:Go.Shelf.Ren:=⟨fun | 288=>68 | 283=>88 | 284=>89 | 285=>90 | 286=>91 | 129=>113 | 317=>112 | 318=>114 | 319=>115 | 320=>116 | 337=>128 | 338=>129 | n=>n,fun | 37=>94 | 53=>46 | 3=>3 | 4=>4 | 9=>9 | 171=>150 | 0=>0 | 173=>153 | 212=>171 | 51=>172 | 5=>5 | 20=>20 | 213=>173 | 46=>174 | 232=>192 | 233=>193 | n=>n,fun | 17=>0 | 18=>1 | 19=>2 | n=>n⟩
def Tryz.laysM249_ren:Go.Shelf.Ren:=⟨fun | 249=>48 | 288=>68 | 283=>88 | 284=>89 | 285=>90 | 286=>91 | 129=>113 | 317=>112 | 318=>114 | 319=>115 | 320=>116 | 337=>128 | 338=>129 | n=>n,fun | 37=>94 | 2=>2 | 3=>3 | 53=>46 | 4=>4 | 9=>9 | 171=>150 | 0=>0 | 173=>153 | 212=>171 | 51=>172 | 5=>5 | 20=>20 | 213=>173 | 46=>174 | 232=>192 | 233=>193 | n=>n,fun | 17=>0 | 18=>1 | 19=>2 | n=>n⟩
def Tryz.laysM176_ren:Go.Shelf.Ren:=⟨fun | 176=>27 | 249=>48 | 288=>68 | 283=>88 | 284=>89 | 285=>90 | 286=>91 | 129=>113 | 317=>112 | 318=>114 | 319=>115 | 320=>116 | 337=>128 | 338=>129 | n=>n,fun | 37=>94 | 2=>2 | 3=>3 | 53=>46 | 4=>4 | 9=>9 | 171=>150 | 0=>0 | 173=>153 | 212=>171 | 51=>172 | 5=>5 | 20=>20 | 213=>173 | 46=>174 | 232=>192 | 233=>193 | n=>n,fun | 17=>0 | 18=>1 | 19=>2 | n=>n⟩
theorem Tryz.laysM176:Go.Proofs.LaysM.n176 prog Tryz.laysM176_ren:={
 mixed:=by kernel_rfl
 f129:=func113.trans (congrArg some (by kernel_rfl))
 f176:=func27.trans (congrArg some (by kernel_rfl))
 f249:=func48.trans (congrArg some (by kernel_rfl))
 f283:=func88.trans (congrArg some (by kernel_rfl))
 f284:=func89.trans (congrArg some (by kernel_rfl))
 f285:=func90.trans (congrArg some (by kernel_rfl))
 f286:=func91.trans (congrArg some (by kernel_rfl))
 f288:=func68.trans (congrArg some (by kernel_rfl))
 f317:=func112.trans (congrArg some (by kernel_rfl))
 f318:=func114.trans (congrArg some (by kernel_rfl))
 f319:=func115.trans (congrArg some (by kernel_rfl))
 f320:=func116.trans (congrArg some (by kernel_rfl))
 f337:=func128.trans (congrArg some (by kernel_rfl))
 f338:=func129.trans (congrArg some (by kernel_rfl))
 t0:=underlying0
 a0:=isAgg0
 z0:=sizeOf0
 v0:=zeroValue0
 t2:=underlying2
 a2:=isAgg2
 z2:=sizeOf2
 v2:=zeroValue2
 t3:=underlying3
 a3:=isAgg3
 z3:=sizeOf3
 v3:=zeroValue3
 t4:=underlying4
 a4:=isAgg4
 z4:=sizeOf4
 v4:=zeroValue4
 t5:=underlying5
 a5:=isAgg5
 z5:=sizeOf5
 v5:=zeroValue5
 t9:=underlying9
 a9:=isAgg9
 z9:=sizeOf9
 v9:=zeroValue9
 t20:=underlying20
 a20:=isAgg20
 z20:=sizeOf20
 v20:=zeroValue20
 t37:=underlying94
 a37:=isAgg94
 z37:=sizeOf94
 v37:=zeroValue94
 t46:=underlying174
 a46:=isAgg174
 z46:=sizeOf174
 v46:=zeroValue174
 t51:=underlying172
 a51:=isAgg172
 z51:=sizeOf172
 v51:=zeroValue172
 t53:=underlying46
 a53:=isAgg46
 z53:=sizeOf46
 v53:=zeroValue46
 t171:=underlying150
 a171:=isAgg150
 z171:=sizeOf150
 v171:=zeroValue150
 t173:=underlying153
 a173:=isAgg153
 z173:=sizeOf153
 v173:=zeroValue153
 t212:=underlying171
 a212:=isAgg171
 z212:=sizeOf171
 v212:=zeroValue171
 t213:=underlying173
 a213:=isAgg173
 z213:=sizeOf173
 t232:=underlying192
 a232:=isAgg192
 z232:=sizeOf192
 v232:=zeroValue192
 t233:=underlying193
 a233:=isAgg193
 z233:=sizeOf193
 v233:=zeroValue193
 g17:=by kernel_rfl
 g18:=by kernel_rfl
 g19:=by kernel_rfl
 i0:=by kernel_rfl
 i2:=by kernel_rfl
 i3:=by kernel_rfl
 i4:=by kernel_rfl
 i5:=by kernel_rfl
 i9:=by kernel_rfl
 i20:=by kernel_rfl
 i37:=by kernel_rfl
 i46:=by kernel_rfl
 i51:=by kernel_rfl
 i53:=by kernel_rfl
 i171:=by kernel_rfl
 i173:=by kernel_rfl
 i212:=by kernel_rfl
 i232:=by kernel_rfl
 i233:=by kernel_rfl
 m17:=by kernel_rfl
 m18:=by kernel_rfl
 m19:=by kernel_rfl }
open Go.RowKit Go.Sort Go.Lib in
theorem Tryz.strconv_AppendInt_10 (B n:Nat) (i:Int) (h0 : -9223372036854775808≤i) (h1:i≤9223372036854775807) (sv:Value) (xs:List Value) (w:World) (hown:w.ownsRow B 5 1 sv n xs) (hBw:B≤w.heap.size) (hlim:n+21≤140737488355328) (htab:Lib.TabBelow prog B w "internal/strconv.uint64pow10" .u64 Lib.pow10Tab) :
  Calls prog 27 #[sv,.int .i64 i,.int .i64 10] w fun e w'=>∃ v',e = .returned v'∧w'.ownsRow B 5 1 v' (n+(Lib.itoa i).length) (xs++Lib.byteCells (Lib.itoa i))∧Below B w w'∧Lib.OthersKept 5 none w w':=Any.strconv_AppendInt_10 Tryz.laysM176 B n i h0 h1 sv xs w hown hBw hlim htab
def Tryz.lays112_ren:Go.Shelf.Ren:=⟨fun | 112=>39 | n=>n,fun | 28=>29 | 3=>3 | 4=>4 | 0=>0 | n=>n,fun | n=>n⟩
theorem Tryz.lays112:Go.Proofs.Lays.n112 prog Tryz.lays112_ren:={
 mixed:=by kernel_rfl
 f112:=func39.trans (congrArg some (by kernel_rfl))
 t0:=underlying0
 a0:=isAgg0
 z0:=sizeOf0
 v0:=zeroValue0
 t3:=underlying3
 a3:=isAgg3
 z3:=sizeOf3
 v3:=zeroValue3
 t4:=underlying4
 a4:=isAgg4
 z4:=sizeOf4
 v4:=zeroValue4
 t28:=underlying29
 a28:=isAgg29
 z28:=sizeOf29
 v28:=zeroValue29 }
open Go.RowKit Go.Lib Go.Sort in
theorem Tryz.slices_Reverse_int (blk off cap:Nat) (zs:List Int) (w:World) (hH:Holds (Value.int .i64) w blk off zs.toArray) (hsz:zs.length≤9223372036854775807) :
  Calls prog 39 #[.slice (some ⟨blk,off,none⟩) zs.length cap] w fun e w'=>e = .returned (.tuple #[])∧∃ n,w'=putRow (Value.int .i64) (Sort.ahead w n) blk off zs.reverse.toArray:=Any.slices_Reverse_int Tryz.lays112 blk off cap zs w hH hsz
open Go.RowKit Go.Lib Go.Sort in
theorem Tryz.slices_Reverse_int_empty (a:Option Addr) (cap:Nat) (w:World) :
  Calls prog 39 #[.slice a 0 cap] w fun e w'=>e = .returned (.tuple #[])∧w'=w:=Any.slices_Reverse_int_empty Tryz.lays112 a cap w
def Tryz.laysNm215_ren:Go.Shelf.Ren:=⟨fun | 15=>38 | n=>n,fun | 22=>29 | 3=>3 | 4=>4 | n=>n,fun | n=>n⟩
theorem Tryz.laysNm215:Go.Proofs.Lays2.n15 prog Tryz.laysNm215_ren:={
 mixed:=by kernel_rfl
 f15:=func38.trans (congrArg some (by kernel_rfl))
 t3:=underlying3
 a3:=isAgg3
 z3:=sizeOf3
 v3:=zeroValue3
 t4:=underlying4
 a4:=isAgg4
 z4:=sizeOf4
 v4:=zeroValue4
 t22:=underlying29
 a22:=isAgg29
 z22:=sizeOf29
 v22:=zeroValue29
 i3:=by kernel_rfl }
open Go.RowKit Go.Lib in
theorem Tryz.slices_Clone_int (b off n c:Nat) (zs:List Int) (w:World) (hz:n≤zs.length) (hbig:n * 8≤140737488355328) (hc:∀ j,j < zs.length→w.cell? ⟨b,off+j,none⟩=some (.int .i64 (zs.getD j 0))) :
  Calls prog 38 #[.slice (some ⟨b,off,none⟩) n c] w fun e w'=>∃ v',e = .returned v'∧w'.ownsRow w.heap.size 3 1 v' n ((zs.take n).map (Value.int .i64))∧v'≠.slice none 0 0∧Below w.heap.size w w':=Any.slices_Clone_int Tryz.laysNm215 b off n c zs w hz hbig hc
open Go.RowKit Go.Lib in
theorem Tryz.slices_Clone_int_nil (n c:Nat) (w:World) :
  Calls prog 38 #[.slice none n c] w fun e w'=>e = .returned (.slice none 0 0)∧w'=w:=Any.slices_Clone_int_nil Tryz.laysNm215 n c w
open Go.RowKit Go.Lib in
theorem Tryz.slices_Clone_int_zero (a:Addr) (c:Nat) (w:World) :
  Calls prog 38 #[.slice (some a) 0 c] w fun e w'=>∃ v',e = .returned v'∧w'.ownsRow w.heap.size 3 1 v' 0 []∧v'≠.slice none 0 0∧Below w.heap.size w w':=Any.slices_Clone_int_zero Tryz.laysNm215 a c w
end Go.Proofs
namespace Go.Proofs.YtofaiolkihcfmaaGreatDoor
open Go.Proofs.Tryz
section
open Go.Proofs.Tryz
open Go.RowKit
theorem Ei (i:Int) (j v:Nat) (hj:i.toNat=j) (hv:2 ^ j=v) (hi:i≤63) (w:World):Calls prog 72 #[.int .i64 i] w fun e w'=>e = .returned (.int .u64 v)∧w=w':=by
 subst hv hj;exact tX i hi w
def u64s (l:List Nat):List Value:=l.map fun r:Nat=>Value.int .u64 (r:Int)
theorem fE (l:List Nat):(u64s l).length=l.length:=by simp [u64s]
theorem pV (l:List Nat) (x:Nat):u64s (l++[x])=u64s l++[Value.int .u64 (x:Int)]:=by simp [u64s]
theorem Bh {l:List Nat} {i:Nat} {v:Value} (h:(u64s l)[i]?=some v):∃ r,l[i]?=some r∧v = .int .u64 (r:Int):=by
 unfold u64s at h
 rw [List.getElem?_map] at h
 cases hr:l[i]? with
 | none=>rw [hr] at h;cases h
 | some r=>rw [hr] at h;exact ⟨r,rfl,(Option.some.inj h).symm⟩
structure FAt (w:World) (a:Option Addr) (gen:Nat) (rows:List Nat):Prop where
 row:fP w a (u64s rows)
 gen:gen < 18446744073709551616
 all:∀ r∈rows,r < 18446744073709551616
 len:rows.length≤100
theorem FAt.below {w w':World} {a:Option Addr} {gen:Nat} {rows:List Nat} (h:FAt w a gen rows) (hb:Below w.heap.size w w'):FAt w' a gen rows:=⟨h.row.below hb,h.gen,h.all,h.len⟩
theorem FAt.at_ {w:World} {a:Option Addr} {gen:Nat} {rows:List Nat} (h:FAt w a gen rows) {i:Nat} (hi:i < rows.length) :
  ∃ b off r,a=some ⟨b,off,none⟩∧rows[i]?=some r∧r < 18446744073709551616∧b < w.heap.size∧w.cell? ⟨b,off+i,none⟩=some (.int .u64 (r:Int)):=by
 obtain ⟨b,off,v,ha,hv,hb,hc⟩:=h.row.at_ (i:=i) (by rw [fE];exact hi)
 obtain ⟨r,hr,rfl⟩:=Bh hv
 exact ⟨b,off,r,ha,hr,h.all r (List.mem_of_getElem? hr),hb,hc⟩
def fQ (gen:Nat) (a:Option Addr) (len cap:Nat):Value:=.agg #[.int .u64 (gen:Int),.slice a len cap]
def fH (n:Int):Bool:=decide (0≤n) && decide (n≤64)
theorem tY (n:Int) (r:Bool) (hr:fH n=r) (w:World):Calls prog 94 #[.int .i64 n] w fun e w'=>e = .returned (.bool r)∧w=w':=by
 subst hr
 by_cases h1:0≤n
 ·by_cases h2:n≤64
  ·have H:Hid (fH n=true):=by show _=_;simp [fH,h1,h2]
   rw [H.out]
   go_enter func94,ntmps94
   go_wp2
   go_ret
   exact ⟨rfl,rfl⟩
  ·have H:Hid (fH n=false):=by show _=_;simp [fH,h2]
   rw [H.out]
   go_enter func94,ntmps94
   go_wp2
   go_ret
   exact ⟨rfl,rfl⟩
 ·have H:Hid (fH n=false):=by show _=_;simp [fH,h1]
  rw [H.out]
  go_enter func94,ntmps94
  go_wp2
  go_ret
  exact ⟨rfl,rfl⟩
theorem Oc (a b r:Nat) (ha:a < 18446744073709551616) (hb:b < 18446744073709551616) (hr:a ||| b=r) (w:World):Calls prog 64 #[.int .u64 a,.int .u64 b] w fun e w'=>e = .returned (.int .u64 r)∧w=w':=by
 have H:Hid (bits .or .u64 (a:Int) (b:Int)=(r:Int)):=by show _=_;rw [u64_or_nat a b ha hb,hr]
 go_enter func64,ntmps64
 go_wp2
 go_ret
 exact ⟨dR H.out,rfl⟩
def mC (m s:Nat):Bool:=restN s m == 0
theorem iV {m s:Nat} (hm:m≤64) (hs:s < 18446744073709551616):mC m s=true↔s < 2 ^ m:=by
 unfold mC
 rw [beq_iff_eq]
 constructor
 ·intro h
  apply Nat.lt_pow_two_of_testBit
  intro i hi
  have:=mW s m hm hs i
  rw [h,Nat.zero_testBit] at this
  cases hb:s.testBit i
  ·rfl
  ·rw [hb] at this;simp at this;omega
 ·intro h
  apply Nat.eq_of_testBit_eq
  intro i
  rw [mW s m hm hs,Nat.zero_testBit]
  by_cases hi:m≤i
  ·rw [Nat.testBit_lt_two_pow (Nat.lt_of_lt_of_le h (Nat.pow_le_pow_right (by omega) hi))];rfl
  ·simp [hi]
def He (n:Int) (s:Nat):Bool:=if fH n=true then mC n.toNat s else s == 0
theorem Ej {n:Int} (h:fH n=true):qU n=((2 ^ n.toNat - 1:Nat):Int)∧lO n=0:=by
 simp only [fH,Bool.and_eq_true,decide_eq_true_eq] at h
 exact ⟨by rw [qU,if_pos h],by rw [lO,if_pos h]⟩
theorem uW {n:Int} (h:fH n=false):qU n=0∧lO n=10:=by
 have:¬ (0≤n∧n≤64):=by intro x;simp [fH,x.1,x.2] at h
 exact ⟨by rw [qU,if_neg this],by rw [lO,if_neg this]⟩
theorem oQ (s m:Nat) (hs:s < 18446744073709551616) (hm:m≤64):bits BinOp.andNot IntKind.u64 (s:Int) ((2 ^ m - 1:Nat):Int)=((restN s m:Nat):Int):=u64_andNot_nat s _ hs (Bd hm)
theorem nP {n:Int} (h:fH n=true):∃ m:Nat,n=m∧m≤64:=by
 simp only [fH,Bool.and_eq_true,decide_eq_true_eq] at h
 exact ⟨n.toNat,by omega,by omega⟩
theorem Ek (s:Nat) (hs:s < 18446744073709551616):bits BinOp.andNot IntKind.u64 (s:Int) 0=(s:Int):=by
 have h:=u64_andNot_nat s 0 hs (by decide)
 have e:s &&& (18446744073709551615 - 0)=s:=by
  apply Nat.eq_of_testBit_eq
  intro i
  rw [Nat.testBit_and,Bc 0 i (by decide),Nat.zero_testBit]
  cases hb:s.testBit i
  ·rfl
  ·simp [Be hs hb]
 rw [e] at h
 exact h
theorem gL (n:Int) (s:Nat) (hs:s < 18446744073709551616) (r:Bool) (hr:He n s=r) (w:World):Calls prog 127 #[.int .i64 n,.int .u64 s] w fun e w'=>e = .returned (.bool r)∧w=w':=by
 cases hd:fH n
 ·obtain ⟨f1,f2⟩:=uW hd
  have F1:=Lib.hid f1;have F2:=Lib.hid f2
  have HA:=Ek s hs
  have HR:Hid (((s:Int) == 0)=r):=by
   show _=_
   rw [← hr,He,hd]
   simp only [Bool.false_eq_true,if_false]
   rw [Bool.eq_iff_iff];simp
  clear hd f1 f2 hr hs
  go_enter func127,ntmps127
  go_wp2_with fail
  refine (Eg n 0 10 F1.out F2.out _).mono ?_
  rintro e w1 ⟨rfl,rfl⟩
  go_wp2
  go_ret
  exact ⟨bY HR.out,rfl⟩
 ·obtain ⟨m,rfl,hm⟩:=nP hd
  obtain ⟨f1,f2⟩:=Ej hd
  have F1:=Lib.hid f1;have F2:=Lib.hid f2
  have HA:=oQ s m hs hm
  have HR:Hid ((((restN s m:Nat):Int) == 0)=r):=by
   show _=_
   rw [← hr,He,hd,if_pos rfl]
   unfold mC
   rw [Int.toNat_natCast,Bool.eq_iff_iff];simp
  obtain ⟨q,hq⟩:∃ q,restN s m=q:=⟨_,rfl⟩
  rw [hq] at HA HR
  obtain ⟨p,hp⟩:∃ p:Nat,2 ^ m - 1=p:=⟨_,rfl⟩
  rw [Int.toNat_natCast,hp] at F1
  rw [hp] at HA
  clear hd f1 f2 hr hs hq hp
  go_enter func127,ntmps127
  go_wp2_with fail
  refine (Eg m p 0 F1.out F2.out _).mono ?_
  rintro e w1 ⟨rfl,rfl⟩
  go_wp2
  go_ret
  exact ⟨bY HR.out,rfl⟩
def fC (m gen:Nat) (rows:List Nat):Bool:=decide (rows.length=m) && (mC m gen && rows.all (mC m))
def mE (n:Int) (gen:Nat) (rows:List Nat):Int:=if fH n=true then (if fC n.toNat gen rows=true then 0 else 30) else 31
theorem wQ {l:List Nat} {p:Nat→Bool} {k:Nat} (h:∀ i r,i < k→l[i]?=some r→p r=true) (hk:l.length≤k):l.all p=true:=by
 rw [List.all_eq_true]
 intro x hx
 obtain ⟨i,hi⟩:=List.getElem?_of_mem hx
 exact h i x (by have:=(List.getElem?_eq_some_iff.1 hi).1;omega) hi
theorem Bi {l:List Nat} {p:Nat→Bool} {i r:Nat} (h:l[i]?=some r) (hp:p r=false):l.all p=false:=by
 rw [List.all_eq_false]
 exact ⟨r,List.mem_of_getElem? h,by rw [hp];simp⟩
set_option maxHeartbeats 1000000 in
theorem Lz (n:Int) (a:Option Addr) (cap gen:Nat) (rows:List Nat) (w:World) (hf:FAt w a gen rows) (r:Int) (hr:mE n gen rows=r) :
  Calls prog 124 #[.int .i64 n,fQ gen a rows.length cap] w fun e w'=>e = .returned (.int .i64 r)∧Below w.heap.size w w':=by
 have HF:=Lib.hid hf
 have hgen:=hf.gen
 have hlen:=hf.len
 have hB0:Below w.heap.size w (w.alloc (.cells #[.int .u64 (gen:Int),.slice a rows.length cap] 49)):=(Below.refl _ _).alloc (Nat.le_refl _) _
 have HF1:Hid (FAt (w.alloc (.cells #[.int .u64 (gen:Int),.slice a rows.length cap] 49)) a gen rows):=hf.below hB0
 obtain ⟨len,hl⟩:∃ len,rows.length=len:=⟨_,rfl⟩
 have HL:=Lib.hid hl
 rw [hl] at hB0 HF1 hlen ⊢
 unfold fQ
 clear hf hl
 cases hd:fH n
 ·obtain ⟨f1,f2⟩:=uW hd
  have F1:=Lib.hid f1;have F2:=Lib.hid f2
  have HR:Hid (31=r):=by show _=_;rw [← hr,mE,hd];rfl
  clear hd f1 f2 hr
  go_enter func124,ntmps124
  go_wp2_with fail
  refine (oP n 0 10 F1.out F2.out _).mono ?_
  rintro e w1 ⟨rfl,rfl⟩
  go_wp2
  go_ret
  exact ⟨dR HR.out,hB0⟩
 ·obtain ⟨m,rfl,hm⟩:=nP hd
  obtain ⟨f1,f2⟩:=Ej hd
  have F1:=Lib.hid f1;have F2:=Lib.hid f2
  have HA:=oQ gen m hgen hm
  have HRR:Hid ((if fC m gen rows=true then (0:Int) else 30)=r):=by show _=_;rw [← hr,mE,hd,if_pos rfl,Int.toNat_natCast]
  have HAR:Hid (∀ r:Nat,r < 18446744073709551616→bits BinOp.andNot IntKind.u64 (r:Int) ((2 ^ m - 1:Nat):Int)=((restN r m:Nat):Int)):=fun r hr=>oQ r m hr hm
  obtain ⟨p,hp⟩:∃ p:Nat,2 ^ m - 1=p:=⟨_,rfl⟩
  rw [Int.toNat_natCast,hp] at F1
  rw [hp] at HA HAR
  clear hd f1 f2 hr hp
  by_cases hlm:len=m
  ·subst hlm
   cases hig:mC len gen
   ·have HR:Hid (30=r):=by show _=_;rw [← HRR.out,fC,hig];simp
    have hq0:(((restN gen len:Nat):Int) != 0)=true:=by
     unfold mC at hig
     have:restN gen len≠0:=by simpa using hig
     simp;omega
    obtain ⟨q,hq⟩:∃ q,restN gen len=q:=⟨_,rfl⟩
    rw [hq] at HA hq0
    clear hig hq
    go_enter func124,ntmps124
    go_wp2_with fail
    refine (oP len p 0 F1.out F2.out _).mono ?_
    rintro e w1 ⟨rfl,rfl⟩
    go_wp2
    go_ret
    exact ⟨dR HR.out,hB0⟩
   ·have HIG:=Lib.hid hig
    have hq0:restN gen len=0:=by unfold mC at hig;simpa using hig
    rw [hq0] at HA
    clear hig hq0
    go_enter func124,ntmps124
    go_wp2_with fail
    refine (oP len p 0 F1.out F2.out _).mono ?_
    rintro e w1 ⟨rfl,rfl⟩
    go_wp2_with fail
    go_loopw [31] (fun i wr=>∃ k:Nat,k≤len∧i = .int .i64 k∧Hid (∀ (i:Nat) x,i < k→rows[i]?=some x→mC len x=true)∧(w.alloc (.cells #[.int .u64 (gen:Int),.slice a len cap] 49))=wr) (fun i _=>len - (intOf i).toNat)
    case atStart=>exact ⟨0,Nat.zero_le _,rfl,fun i x h=>by omega,rfl⟩
    case round =>
     obtain ⟨k,hk,rfl,HK,rfl⟩:=hrel
     by_cases hlt:k < len
     ·obtain ⟨ba,offa,x,rfl,hx,hx64,hba,a0⟩:=HF1.out.at_ (by rw [HL.out];exact hlt)
      have g0:(0:Int)≤(k:Int):=by omega
      have g1:(k:Int) < (len:Int):=by omega
      have hax:=HAR.out x hx64
      cases hin:mC len x
      ·have HR:Hid (30=r):=by show _=_;rw [← HRR.out,fC,Bi hx hin];simp
       have hq0:(((restN x len:Nat):Int) != 0)=true:=by
        unfold mC at hin
        have:restN x len≠0:=by simpa using hin
        simp;omega
       obtain ⟨q,hq⟩:∃ q,restN x len=q:=⟨_,rfl⟩
       rw [hq] at hax hq0
       clear hin hq hx
       go_wp2
       go_ret
       exact ⟨dR HR.out,hB0⟩
      ·have HN:Hid (∀ (i:Nat) y,i < k+1→rows[i]?=some y→mC len y=true):=fun i y hi hy=>by
        by_cases e:i=k
        ·subst e;rw [hx] at hy;cases hy;exact hin
        ·exact HK.out i y (by omega) hy
       have hq0:restN x len=0:=by unfold mC at hin;simpa using hin
       rw [hq0] at hax
       clear hin hx hq0
       go_wp2
       go_roundw
       case rel=>exact ⟨k+1,by omega,by go_num,HN,by trivial⟩
       case measure=>simp [intOf];omega
     ·have HR:Hid (0=r):=by
       show _=_
       have e1:fC len gen rows=true:=by
        unfold fC
        rw [HIG.out,wQ HK.out (by rw [HL.out];omega)]
        simp [HL.out]
       rw [← HRR.out,e1];rfl
      go_wp2
      go_ret
      exact ⟨dR HR.out,hB0⟩
  ·have HR:Hid (30=r):=by
    show _=_
    rw [← HRR.out,fC,decide_eq_false (by rw [HL.out];exact hlm)];rfl
   have hne:((len:Int) != (m:Int))=true:=by simp;omega
   clear hlm
   go_enter func124,ntmps124
   go_wp2_with fail
   refine (oP m p 0 F1.out F2.out _).mono ?_
   rintro e w1 ⟨rfl,rfl⟩
   go_wp2
   go_ret
   exact ⟨dR HR.out,hB0⟩
theorem nQ {k:IntKind} {a b:Int} (h:a=b):Ending.returned (.int k a) = .returned (.int k b):=by rw [h]
theorem mX {a b:Bool} (h:a=b):Ending.returned (.bool a) = .returned (.bool b):=by rw [h]
theorem vL (f d:Nat):((f:Int) / 2 ^ d)=((f / 2 ^ d:Nat):Int):=by
 rw [Int.natCast_ediv];congr 1
def iW (d f:Nat):Bool:=f / 2 ^ d == 0
def eH (f:Nat) (k v:Int):Bool:=if k=0 then v == 0 else if k=1 then true else if k=2 then v == 0 && f == 0 else false
def kM (d f:Nat) (k v:Int):Bool:=iW d f && eH f k v
theorem Ju (f d:Nat):((f:Int) / 2 ^ d != 0) = !iW d f:=by
 rw [vL];unfold iW
 generalize f / 2 ^ d=q
 rw [Bool.eq_iff_iff,bne_iff_ne,Bool.not_eq_true',beq_eq_false_iff_ne];omega
theorem Od {d f:Nat} (h:64≤d) (hf:f < 18446744073709551616):iW d f=true:=by
 unfold iW
 have e:(2:Nat) ^ 64≤2 ^ d:=Nat.pow_le_pow_right (by decide) h
 have:f < 2 ^ d:=Nat.lt_of_lt_of_le hf e
 simp [Nat.div_eq_of_lt this]
theorem zN (d f:Nat) (k v:Int) (w:World) (hf:f < 18446744073709551616) (hd:d≤64):Calls prog 125 #[.int .i64 d,.agg #[.int .u64 f,.int .i64 k,.int .i64 v]] w fun e w'=>e = .returned (.bool (kM d f k v))∧Below w.heap.size w w':=by
 cases hi:iW d f
 ·have hlt:d < 64:=by
   rcases Nat.lt_or_ge d 64 with h | h
   ·exact h
   ·rw [Od h hf] at hi;cases hi
  have h0:((f:Int) / 2 ^ d != 0)=true:=by rw [Ju,hi];rfl
  have H:=Lib.hid (show kM d f k v=false by simp [kM,hi])
  clear hi
  go_enter func125,ntmps125
  go_wp2
  go_ret
  exact ⟨mX H.out.symm,(Below.refl _ _).alloc (Nat.le_refl _) _⟩
 ·have h0:((f:Int) / 2 ^ d != 0)=false:=by rw [Ju,hi];rfl
  have hc:kM d f k v=eH f k v:=by simp [kM,hi]
  rw [hc]
  clear hi hc
  by_cases hlt:d < 64
  all_goals
   by_cases k0:k=0
   ·subst k0
    have H:=Lib.hid (show eH f 0 v=(v == 0) by simp [eH])
    go_enter func125,ntmps125
    go_wp2
    go_ret
    exact ⟨mX H.out.symm,(Below.refl _ _).alloc (Nat.le_refl _) _⟩
   by_cases k1:k=1
   ·subst k1
    have H:=Lib.hid (show eH f 1 v=true by simp [eH])
    go_enter func125,ntmps125
    go_wp2
    go_ret
    exact ⟨mX H.out.symm,(Below.refl _ _).alloc (Nat.le_refl _) _⟩
   by_cases k2:k=2
   ·subst k2
    by_cases v0:v=0
    ·subst v0
     have H:=Lib.hid (show eH f 2 0=((f:Int) == 0) by simp [eH];rw [Bool.eq_iff_iff];simp)
     go_enter func125,ntmps125
     go_wp2
     go_ret
     exact ⟨mX H.out.symm,(Below.refl _ _).alloc (Nat.le_refl _) _⟩
    ·have H:=Lib.hid (show eH f 2 v=false by simp [eH,v0])
     have hv:(v == 0)=false:=by simp [v0]
     clear v0
     go_enter func125,ntmps125
     go_wp2
     go_ret
     exact ⟨mX H.out.symm,(Below.refl _ _).alloc (Nat.le_refl _) _⟩
   ·have H:=Lib.hid (show eH f k v=false by simp [eH,k0,k1,k2])
    have e0:(k == 0)=false:=by simp [k0]
    have e1:(k == 1)=false:=by simp [k1]
    have e2:(k == 2)=false:=by simp [k2]
    clear k0 k1 k2
    go_enter func125,ntmps125
    go_wp2
    go_ret
    exact ⟨mX H.out.symm,(Below.refl _ _).alloc (Nat.le_refl _) _⟩
theorem El (d f:Nat) (hf:f < 18446744073709551616):iW d f=true↔∀ i,d≤i→i < 64→f.testBit i=false:=by
 unfold iW
 rw [beq_iff_eq,Nat.div_eq_zero_iff]
 constructor
 ·intro h i hi _
  rcases h with h | h
  ·exact absurd h (by have:=Nat.two_pow_pos d;omega)
  ·exact Nat.testBit_lt_two_pow (Nat.lt_of_lt_of_le h (Nat.pow_le_pow_right (by omega) hi))
 ·intro h
  right
  apply Nat.lt_pow_two_of_testBit
  intro i hi
  by_cases h64:i < 64
  ·exact h i hi h64
  ·have e:(2:Nat) ^ 64≤2 ^ i:=Nat.pow_le_pow_right (by decide) (by omega)
   exact Nat.testBit_lt_two_pow (Nat.lt_of_lt_of_le hf e)
structure Cl where
 f:Nat
 k:Int
 v:Int
abbrev Cl.val (c:Cl):Value:=.agg #[.int .u64 (c.f:Int),.int .i64 c.k,.int .i64 c.v]
def fN (w:World) (a:Option Addr) (cs:List Cl):Prop :=
 cs=[]∨∃ b off,a=some ⟨b,off,none⟩∧∀ i c,cs[i]?=some c→w.cell? ⟨b,off+i * 3,none⟩=some (.int .u64 (c.f:Int))∧w.cell? ⟨b,off+i * 3+1,none⟩=some (.int .i64 c.k)∧w.cell? ⟨b,off+i * 3+2,none⟩=some (.int .i64 c.v)
def nR (cs:List Cl):Prop:=∀ c,c∈cs→c.f < 18446744073709551616
theorem nS {w:World} {a:Addr} {v:Value} (h:w.cell? a=some v):a.block < w.heap.size:=by
 rcases Nat.lt_or_ge a.block w.heap.size with h' | h'
 ·exact h'
 ·simp [World.cell?,Array.getElem?_eq_none h'] at h
theorem fN.below {w w':World} {a:Option Addr} {cs:List Cl} (h:fN w a cs) (hb:Below w.heap.size w w'):fN w' a cs:=by
 rcases h with h | ⟨b,off,rfl,hc⟩
 ·exact .inl h
 ·refine .inr ⟨b,off,rfl,fun i c hi=>?_⟩
  obtain ⟨h1,h2,h3⟩:=hc i c hi
  exact ⟨(hb.cell (nS h1)).trans h1,(hb.cell (nS h2)).trans h2,(hb.cell (nS h3)).trans h3⟩
theorem fN.at_ {w:World} {a:Option Addr} {cs:List Cl} (h:fN w a cs) {k:Nat} (hk:k < cs.length) :
  ∃ b off c,a=some ⟨b,off,none⟩∧cs[k]?=some c∧b < w.heap.size∧w.cell? ⟨b,off+k * 3,none⟩=some (.int .u64 (c.f:Int))∧w.cell? ⟨b,off+k * 3+1,none⟩=some (.int .i64 c.k)∧w.cell? ⟨b,off+k * 3+2,none⟩=some (.int .i64 c.v):=by
 rcases h with h | ⟨b,off,rfl,hc⟩
 ·subst h;simp at hk
 ·have e:cs[k]?=some cs[k]:=List.getElem?_eq_getElem hk
  obtain ⟨h1,h2,h3⟩:=hc k _ e
  exact ⟨b,off,cs[k],rfl,e,nS h1,h1,h2,h3⟩
def kV (d:Nat) (c:Cl):Bool:=kM d c.f c.k c.v
def kN (d:Int) (cs:List Cl):Int:=if d < 0∨64 < d then 41 else if (cs.length:Int)≠d then 40 else if cs.all (kV d.toNat) then 0 else 40
def oN (d:Int):Int:=if d < 0∨64 < d then 41 else 0
theorem Bj (d:Int) (w:World):Calls prog 119 #[.int .i64 d] w fun e w'=>e = .returned (.int .i64 (oN d))∧w=w':=by
 by_cases h0:d < 0
 ·have H:=Lib.hid (show oN d=41 by simp [oN,h0])
  go_enter func119,ntmps119
  go_wp2
  go_ret
  exact ⟨nQ H.out.symm,rfl⟩
 by_cases h1:64 < d
 ·have H:=Lib.hid (show oN d=41 by simp [oN,h1])
  go_enter func119,ntmps119
  go_wp2
  go_ret
  exact ⟨nQ H.out.symm,rfl⟩
 ·have H:=Lib.hid (show oN d=0 by simp [oN,h0,h1])
  go_enter func119,ntmps119
  go_wp2
  go_ret
  exact ⟨nQ H.out.symm,rfl⟩
theorem kD (d:Int) (w:World) (c:Int) (hc:oN d=c):Calls prog 119 #[.int .i64 d] w fun e w'=>e = .returned (.int .i64 c)∧w=w':=by subst hc;exact Bj d w
theorem mY {α:Type} {p:α→Bool} {zs:List α} {k:Nat} {z:α} (hz:zs[k]?=some z) (h:(zs.take k).all p=true) (hp:p z=true):(zs.take (k+1)).all p=true:=by
 obtain ⟨hk,e⟩:=List.getElem?_eq_some_iff.1 hz
 rw [List.take_succ_eq_append_getElem hk,List.all_append,h]
 simp [e,hp]
theorem Bk {α:Type} {p:α→Bool} {zs:List α} {k:Nat} {z:α} (hz:zs[k]?=some z) (hp:p z=false):zs.all p=false:=by
 obtain ⟨hk,e⟩:=List.getElem?_eq_some_iff.1 hz
 rw [List.all_eq_false]
 exact ⟨z,by rw [← e];exact List.getElem_mem hk,by rw [hp];simp⟩
theorem Em {n:Nat} {cs:List Cl} {k:Nat} {c:Cl} (hn:n≤64) (hl:cs.length=n) (hz:cs[k]?=some c) (hp:kV n c=false):kN n cs=40:=by
 unfold kN
 rw [if_neg (by omega),if_neg (by omega),Int.toNat_natCast,Bk hz hp];rfl
theorem tZ {n:Nat} {cs:List Cl} {k:Nat} (hn:n≤64) (hl:cs.length=n) (hk:cs.length≤k) (h:(cs.take k).all (kV n)=true):kN n cs=0:=by
 rw [List.take_of_length_le hk] at h
 unfold kN
 rw [if_neg (by omega),if_neg (by omega),Int.toNat_natCast,h];rfl
set_option maxHeartbeats 1000000 in
theorem Bl (d:Int) (a:Option Addr) (cap:Nat) (cs:List Cl) (w:World) (hm:cs.length≤maxLen) (hrow:fN w a cs) (hbits:nR cs) :
  Calls prog 104 #[.int .i64 d,.slice a cs.length cap] w fun e w'=>e = .returned (.int .i64 (kN d cs))∧Below w.heap.size w w':=by
 unfold maxLen at hm
 have HROW:=Lib.hid hrow
 have HBITS:=Lib.hid hbits
 clear hrow hbits
 by_cases hd:d < 0∨64 < d
 ·have H:=Lib.hid (show kN d cs=41 by simp [kN,hd])
  have H2:=Lib.hid (show oN d=41 by simp [oN,hd])
  clear hd
  go_enter func104,ntmps104
  go_wp2_with (go_at_call 119;refine (kD _ _ 41 H2.out).mono ?_;rintro e w' ⟨rfl,rfl⟩)
  go_ret
  exact ⟨nQ H.out.symm,Below.refl _ _⟩
 obtain ⟨n,rfl⟩:∃ n:Nat,d=n:=⟨d.toNat,by omega⟩
 have hn:n≤64:=by omega
 have H2:=Lib.hid (show oN n=0 by simp [oN,hd])
 clear hd
 by_cases hl:cs.length=n
 ·have HL:=Lib.hid hl
  have hne:((cs.length:Int) != (n:Int))=false:=by simp [hl]
  have hn':cs.length≤64:=by omega
  clear hl
  go_enter func104,ntmps104
  go_wp2_with (go_at_call 119;refine (kD _ _ 0 H2.out).mono ?_;rintro e w' ⟨rfl,rfl⟩)
  go_loopw [19] (fun i wr=>∃ k:Nat,k≤cs.length∧i = .int .i64 k∧Hid ((cs.take k).all (kV n)=true)∧Below w.heap.size w wr) (fun i _=>cs.length - (intOf i).toNat)
  case atStart=>exact ⟨0,Nat.zero_le _,rfl,by simp [Hid],Below.refl _ _⟩
  case round =>
   obtain ⟨k,hk,rfl,HA,hb⟩:=hrel
   by_cases hlt:k < cs.length
   ·obtain ⟨b,off,c,rfl,hz,hblt,c0,c1,c2⟩:=(HROW.out.below hb).at_ hlt
    have hf:c.f < 18446744073709551616:=HBITS.out c (List.mem_of_getElem? hz)
    have HZ:=Lib.hid hz
    clear hz
    cases hok:kV n c
    ·have H:=Lib.hid (Em hn HL.out HZ.out hok)
     have HOK:Hid (kM n c.f c.k c.v=false):=hok
     clear hok
     go_wp2_with (go_at_call 125;refine (zN n c.f c.k c.v _ hf hn).mono ?_;rintro e w3 ⟨rfl,hb3⟩;rw [HOK.out])
     go_ret
     exact ⟨nQ H.out.symm,(hb.alloc hb.size _).trans (hb3.mono (by have:=hb.size;simp;omega))⟩
    ·have H:=Lib.hid (mY HZ.out HA.out hok)
     have HOK:Hid (kM n c.f c.k c.v=true):=hok
     clear hok
     go_wp2_with (go_at_call 125;refine (zN n c.f c.k c.v _ hf hn).mono ?_;rintro e w3 ⟨rfl,hb3⟩;rw [HOK.out])
     go_roundw
     case rel=>exact ⟨k+1,by omega,by go_num,H,(hb.alloc hb.size _).trans (hb3.mono (by have:=hb.size;simp;omega))⟩
     case measure=>simp [intOf];omega
   ·have H:=Lib.hid (tZ hn HL.out (by omega) HA.out)
    go_wp2
    go_ret
    exact ⟨nQ H.out.symm,hb⟩
 ·have H:=Lib.hid (show kN n cs=40 by simp [kN];omega)
  have hne:((cs.length:Int) != (n:Int))=true:=by simp;omega
  clear hl
  go_enter func104,ntmps104
  go_wp2_with (go_at_call 119;refine (kD _ _ 0 H2.out).mono ?_;rintro e w' ⟨rfl,rfl⟩)
  go_ret
  exact ⟨nQ H.out.symm,Below.refl _ _⟩
structure SF where
 tag:Int
 dim:Int
 a:Option Addr
 len:Nat
 cap:Nat
abbrev SF.val (f:SF):Value:=.agg #[.int .i64 f.tag,.int .i64 f.dim,.slice f.a f.len f.cap]
inductive SV where
 | mk (f:SF) (ps:List SV)
def SV.f:SV→SF | .mk f _=>f
def SV.ps:SV→List SV | .mk _ ps=>ps
def S3 (w:World) (b o:Nat) (f:SF):Prop:=w.cell? ⟨b,o,none⟩=some (.int .i64 f.tag)∧w.cell? ⟨b,o+1,none⟩=some (.int .i64 f.dim)∧w.cell? ⟨b,o+2,none⟩=some (.slice f.a f.len f.cap)
def Oe (w:World) (a:Option Addr) (ps:List SV):Prop :=
 ps=[]∨∃ b off,a=some ⟨b,off,none⟩∧∀ (i:Nat) p,ps[i]?=some p→S3 w b (off+i * 3) p.f
def SIn (w:World):Nat→SV→Prop
 | 0,_=>False
 | d+1,.mk f ps=>ps.length=f.len∧Oe w f.a ps∧∀ p∈ps,SIn w d p
theorem iF {w w':World} {p:Addr} {v:Value} (h:w.cell? p=some v) (hb:Below w.heap.size w w'):w'.cell? p=some v:=(hb.cell (iU h)).trans h
theorem S3.below {w w':World} {b o:Nat} {f:SF} (h:S3 w b o f) (hb:Below w.heap.size w w'):S3 w' b o f:=⟨iF h.1 hb,iF h.2.1 hb,iF h.2.2 hb⟩
theorem Oe.below {w w':World} {a:Option Addr} {ps:List SV} (h:Oe w a ps) (hb:Below w.heap.size w w'):Oe w' a ps:=by
 rcases h with h | ⟨b,off,rfl,hc⟩
 ·exact .inl h
 ·exact .inr ⟨b,off,rfl,fun i p hi=>(hc i p hi).below hb⟩
theorem SIn.below {w w':World} (hb:Below w.heap.size w w'):∀ {d:Nat} {s:SV},SIn w d s→SIn w' d s
 | 0,_,h=>h.elim
 | d+1,.mk f ps,⟨h1,h2,h3⟩=>⟨h1,h2.below hb,fun p hp=>SIn.below hb (h3 p hp)⟩
structure WF where
 z:Bool
 c:Int
 g:Nat
 ra:Option Addr
 rl:Nat
 rc:Nat
 rows:List Nat
 ca:Option Addr
 cl:Nat
 cc:Nat
 cells:List Cl
 pa:Option Addr
 pl:Nat
 pc:Nat
abbrev WF.val (f:WF):Value:=.agg #[.bool f.z,.int .i64 f.c,.int .u64 (f.g:Int),.slice f.ra f.rl f.rc,.slice f.ca f.cl f.cc,.slice f.pa f.pl f.pc]
abbrev WF.six (f:WF):List Value:=[.bool f.z,.int .i64 f.c,.int .u64 (f.g:Int),.slice f.ra f.rl f.rc,.slice f.ca f.cl f.cc,.slice f.pa f.pl f.pc]
structure WF.At (w:World) (f:WF):Prop where
 rows:fP w f.ra (u64s f.rows)
 rl:f.rows.length=f.rl
 g64:f.g < 18446744073709551616
 r64:∀ r∈f.rows,r < 18446744073709551616
 cells:fN w f.ca f.cells
 cl:f.cells.length=f.cl
 bits:nR f.cells
 cmax:f.cl≤maxLen
theorem WF.At.below {w w':World} {f:WF} (h:f.At w) (hb:Below w.heap.size w w'):f.At w':=⟨h.rows.below hb,h.rl,h.g64,h.r64,h.cells.below hb,h.cl,h.bits,h.cmax⟩
inductive WV where
 | mk (f:WF) (ps:List WV)
def WV.f:WV→WF | .mk f _=>f
def WV.ps:WV→List WV | .mk _ ps=>ps
def W6 (w:World) (b o:Nat) (f:WF):Prop:=w.cell? ⟨b,o,none⟩=some (.bool f.z)∧w.cell? ⟨b,o+1,none⟩=some (.int .i64 f.c)∧w.cell? ⟨b,o+2,none⟩=some (.int .u64 (f.g:Int))∧w.cell? ⟨b,o+3,none⟩=some (.slice f.ra f.rl f.rc)∧w.cell? ⟨b,o+4,none⟩=some (.slice f.ca f.cl f.cc)∧w.cell? ⟨b,o+5,none⟩=some (.slice f.pa f.pl f.pc)
def Bm (w:World) (a:Option Addr) (ps:List WV):Prop :=
 ps=[]∨∃ b off,a=some ⟨b,off,none⟩∧∀ (i:Nat) p,ps[i]?=some p→W6 w b (off+i * 6) p.f
def WIn (w:World):Nat→WV→Prop
 | 0,_=>False
 | d+1,.mk f ps=>f.At w∧ps.length=f.pl∧Bm w f.pa ps∧∀ p∈ps,WIn w d p
theorem W6.below {w w':World} {b o:Nat} {f:WF} (h:W6 w b o f) (hb:Below w.heap.size w w'):W6 w' b o f:=⟨iF h.1 hb,iF h.2.1 hb,iF h.2.2.1 hb,iF h.2.2.2.1 hb,iF h.2.2.2.2.1 hb,iF h.2.2.2.2.2 hb⟩
theorem Bm.below {w w':World} {a:Option Addr} {ps:List WV} (h:Bm w a ps) (hb:Below w.heap.size w w'):Bm w' a ps:=by
 rcases h with h | ⟨b,off,rfl,hc⟩
 ·exact .inl h
 ·exact .inr ⟨b,off,rfl,fun i p hi=>(hc i p hi).below hb⟩
theorem WIn.below {w w':World} (hb:Below w.heap.size w w'):∀ {d:Nat} {s:WV},WIn w d s→WIn w' d s
 | 0,_,h=>h.elim
 | d+1,.mk f ps,⟨h0,h1,h2,h3⟩=>⟨h0.below hb,h1,h2.below hb,fun p hp=>WIn.below hb (h3 p hp)⟩
theorem Bm.at_ {w:World} {a:Option Addr} {ps:List WV} (h:Bm w a ps) {i:Nat} {p:WV} (hi:ps[i]?=some p):∃ b off,a=some ⟨b,off,none⟩∧b < w.heap.size∧W6 w b (off+i * 6) p.f:=by
 rcases h with rfl | ⟨b,off,ha,hc⟩
 ·simp at hi
 ·exact ⟨b,off,ha,iU (hc i p hi).1,hc i p hi⟩
def cA (t n:Int) (l:Nat):Bool:=decide (l=0) && (if t=1 then decide (n=0) else if t=2 then decide (0≤n) && decide (n≤1048576) else if t=3∨t=4 then decide (0≤n) && decide (n≤64) else false)
theorem zF (w:World) (v:Array Value) (T:TypeId):Below w.heap.size w (w.alloc (.cells v T)):=(Below.refl _ _).alloc (Nat.le_refl _) _
set_option maxHeartbeats 2000000 in
theorem iX (t n:Int) (a:Option Addr) (l c:Nat) (r:Bool) (hr:cA t n l=r) (w:World) :
  Calls prog 76 #[.agg #[.int .i64 t,.int .i64 n,.slice a l c]] w fun e w'=>e = .returned (.bool r)∧Below w.heap.size w w':=by
 have hB:=Lib.hid (zF w #[.int .i64 t,.int .i64 n,.slice a l c] 25)
 by_cases ht:t=1∨t=2∨t=3∨t=4
 ·by_cases hl:l=0
  ·subst hl
   by_cases h0:0≤n
   ·rcases ht with rfl | rfl | rfl | rfl
    ·by_cases hm:n≤0
     ·obtain rfl:n=0:=by omega
      have HR:Hid (true=r):=by show _=_;rw [← hr];simp [cA]
      clear hr
      go_enter func76,ntmps76
      go_wp2
      go_ret
      exact ⟨bY HR.out,hB.out⟩
     ·have HR:Hid (false=r):=by show _=_;rw [← hr];simp [cA];omega
      clear hr
      go_enter func76,ntmps76
      go_wp2
      go_ret
      exact ⟨bY HR.out,hB.out⟩
    ·by_cases hm:n≤1048576
     ·have HR:Hid (true=r):=by show _=_;rw [← hr];simp [cA,h0,hm]
      clear hr
      go_enter func76,ntmps76
      go_wp2
      go_ret
      exact ⟨bY HR.out,hB.out⟩
     ·have HR:Hid (false=r):=by show _=_;rw [← hr];simp [cA,hm]
      clear hr
      go_enter func76,ntmps76
      go_wp2
      go_ret
      exact ⟨bY HR.out,hB.out⟩
    all_goals
     by_cases hm:n≤64
     ·have HR:Hid (true=r):=by show _=_;rw [← hr];simp [cA,h0,hm]
      clear hr
      go_enter func76,ntmps76
      go_wp2
      go_ret
      exact ⟨bY HR.out,hB.out⟩
     ·have HR:Hid (false=r):=by show _=_;rw [← hr];simp [cA,hm]
      clear hr
      go_enter func76,ntmps76
      go_wp2
      go_ret
      exact ⟨bY HR.out,hB.out⟩
   ·have HR:Hid (false=r):=by show _=_;rw [← hr];rcases ht with rfl | rfl | rfl | rfl<;>simp [cA]<;>omega
    clear hr
    rcases ht with rfl | rfl | rfl | rfl
    all_goals
     go_enter func76,ntmps76
     go_wp2
     go_ret
     exact ⟨bY HR.out,hB.out⟩
  ·have HR:Hid (false=r):=by show _=_;rw [← hr];simp [cA,hl]
   have hl2:((l:Int) == 0)=false:=by simp;omega
   clear hr
   rcases ht with rfl | rfl | rfl | rfl
   all_goals
    go_enter func76,ntmps76
    go_wp2
    go_ret
    exact ⟨bY HR.out,hB.out⟩
 ·have HR:Hid (false=r):=by show _=_;rw [← hr];simp only [not_or] at ht;simp [cA,ht]
  have e1:(t == 1)=false:=by simp;omega
  have e2:(t == 2)=false:=by simp;omega
  have e3:(t == 3)=false:=by simp;omega
  have e4:(t == 4)=false:=by simp;omega
  clear hr ht
  go_enter func76,ntmps76
  go_wp2
  go_ret
  exact ⟨bY HR.out,hB.out⟩
def SV.pl (s:SV):Bool:=cA s.f.tag s.f.dim s.f.len
def eI:SV→Int
 | .mk f ps=>if cA f.tag f.dim f.len=true then 0 else if f.tag=5∧f.dim=0∧ps.length=2∧ps.all SV.pl=true then 0 else 50
set_option maxHeartbeats 1000000 in
theorem Of (m:Nat) (hm:m≤64) (a:Option Addr) (cap gen:Nat) (rows:List Nat) (w:World) (hf:FAt w a gen rows) (r:Bool) (hr:fC m gen rows=r) :
  Calls prog 111 #[.int .i64 m,fQ gen a rows.length cap] w fun e w'=>e = .returned (.bool r)∧Below w.heap.size w w':=by
 have HF:=Lib.hid hf
 have hgen:=hf.gen
 have hlen:=hf.len
 have HR:=Lib.hid hr
 have hB0:Below w.heap.size w (w.alloc (.cells #[.int .u64 (gen:Int),.slice a rows.length cap] 49)):=(Below.refl _ _).alloc (Nat.le_refl _) _
 have HF1:Hid (FAt (w.alloc (.cells #[.int .u64 (gen:Int),.slice a rows.length cap] 49)) a gen rows):=hf.below hB0
 have HI:Hid (∀ s:Nat,He (m:Int) s=mC m s):=fun s=>by
  have:fH (m:Int)=true:=by simp [fH];omega
  rw [He,this];rfl
 obtain ⟨len,hl⟩:∃ len,rows.length=len:=⟨_,rfl⟩
 have HL:=Lib.hid hl
 rw [hl] at hB0 HF1 hlen ⊢
 unfold fQ
 clear hf hl hr
 by_cases hlm:len=m
 ·subst hlm
  cases hig:mC len gen
  ·have HX:Hid (false=r):=by show _=_;rw [← HR.out,fC,hig];simp
   have HG:=Lib.hid hig
   clear hig
   go_enter func111,ntmps111
   go_wp2_with fail
   refine (gL len gen hgen false (by rw [HI.out];exact HG.out) _).mono ?_
   rintro e w1 ⟨rfl,rfl⟩
   go_wp2
   go_ret
   exact ⟨bY HX.out,hB0⟩
  ·have HG:=Lib.hid hig
   clear hig
   go_enter func111,ntmps111
   go_wp2_with fail
   refine (gL len gen hgen true (by rw [HI.out];exact HG.out) _).mono ?_
   rintro e w1 ⟨rfl,rfl⟩
   go_wp2_with fail
   go_loopw [5] (fun i wr=>∃ k:Nat,k≤len∧i = .int .i64 k∧Hid (∀ (i:Nat) x,i < k→rows[i]?=some x→mC len x=true)∧(w.alloc (.cells #[.int .u64 (gen:Int),.slice a len cap] 49))=wr) (fun i _=>len - (intOf i).toNat)
   case atStart=>exact ⟨0,Nat.zero_le _,rfl,fun i x h=>by omega,rfl⟩
   case round =>
    obtain ⟨k,hk,rfl,HK,rfl⟩:=hrel
    by_cases hlt:k < len
    ·obtain ⟨ba,offa,x,rfl,hx,hx64,hba,a0⟩:=HF1.out.at_ (by rw [HL.out];exact hlt)
     have g0:(0:Int)≤(k:Int):=by omega
     have g1:(k:Int) < (len:Int):=by omega
     cases hin:mC len x
     ·have HX:Hid (false=r):=by show _=_;rw [← HR.out,fC,Bi hx hin];simp
      have HIN:=Lib.hid hin
      clear hin hx
      go_wp2_with fail
      refine (gL len x hx64 false (by rw [HI.out];exact HIN.out) _).mono ?_
      rintro e w1 ⟨rfl,rfl⟩
      go_wp2
      go_ret
      exact ⟨bY HX.out,hB0⟩
     ·have HN:Hid (∀ (i:Nat) y,i < k+1→rows[i]?=some y→mC len y=true):=fun i y hi hy=>by
       by_cases e:i=k
       ·subst e;rw [hx] at hy;cases hy;exact hin
       ·exact HK.out i y (by omega) hy
      have HIN:=Lib.hid hin
      clear hin hx
      go_wp2_with fail
      refine (gL len x hx64 true (by rw [HI.out];exact HIN.out) _).mono ?_
      rintro e w1 ⟨rfl,rfl⟩
      go_wp2
      go_roundw
      case rel=>exact ⟨k+1,by omega,by go_num,HN,by trivial⟩
      case measure=>simp [intOf];omega
    ·have HX:Hid (true=r):=by
      show _=_
      have e1:fC len gen rows=true:=by
       unfold fC
       rw [HG.out,wQ HK.out (by rw [HL.out];omega)]
       simp [HL.out]
      rw [← HR.out,e1]
     go_wp2
     go_ret
     exact ⟨bY HX.out,hB0⟩
 ·have HX:Hid (false=r):=by
   show _=_
   rw [← HR.out,fC,decide_eq_false (by rw [HL.out];exact hlm)];rfl
  have hne:((len:Int) != (m:Int))=true:=by simp;omega
  clear hlm
  go_enter func111,ntmps111
  go_wp2
  go_ret
  exact ⟨bY HX.out,hB0⟩
def andn (a b:Nat):Nat:=a &&& (18446744073709551615 - b)
theorem wR {a b:Nat} (ha:a < 18446744073709551616) (hb:b < 18446744073709551616) (j:Nat):(andn a b).testBit j=(a.testBit j && !b.testBit j):=by
 unfold andn
 rw [Nat.testBit_and,Bc _ _ hb]
 cases h:a.testBit j
 ·rfl
 ·simp [Be ha h]
theorem Jv (a b:Nat) (ha:a < 18446744073709551616) (hb:b < 18446744073709551616):bits BinOp.andNot IntKind.u64 (a:Int) (b:Int)=((andn a b:Nat):Int):=u64_andNot_nat a b ha hb
def fI (gen:Nat) (rows:List Nat):List Nat:=rows.map fun r=>andn r gen
theorem jZ (gen:Nat) (rows:List Nat):(fI gen rows).length=rows.length:=by simp [fI]
theorem En {gen:Nat} {rows:List Nat} {k x:Nat} (h:rows[k]?=some x):(fI gen rows).take (k+1)=(fI gen rows).take k++[andn x gen]:=by
 have h2:(fI gen rows)[k]?=some (andn x gen):=by simp [fI,h]
 obtain ⟨hk,e⟩:=List.getElem?_eq_some_iff.1 h2
 rw [List.take_succ_eq_append_getElem hk,e]
theorem wS:(prog.info? 46).map (fun i=>(i.zero,i.size,i.bytes))=some (some (.int .u64 0),1,8):=by kernel_rfl
theorem bR {w:World} {B:Nat} {a b:Value} {T:TypeId} (h:w.heap[B]?=some (.cells #[a,b] T (0,0))) :
  w.cell? ⟨B,0,none⟩=some a∧w.cell? ⟨B,1,none⟩=some b∧(∀ j,w.frozen? ⟨B,j,none⟩=false) :=
 ⟨by simp [World.cell?,h],by simp [World.cell?,h],fun j=>by simp [World.frozen?,h]⟩
theorem eZ {w:World} {B:Nat} {a b c:Value} {T:TypeId} (h:w.heap[B]?=some (.cells #[a,b] T (0,0))):(w.setCell ⟨B,1,none⟩ c).heap[B]?=some (.cells #[a,c] T (0,0)):=heap_setCell_same w B 1 _ _ _ h
theorem gJ {w:World} {B:Nat} {a b c:Value} {T:TypeId} (h:w.heap[B]?=some (.cells #[a,b] T (0,0))):(w.setCell ⟨B,0,none⟩ c).heap[B]?=some (.cells #[c,b] T (0,0)):=heap_setCell_same w B 0 _ _ _ h
theorem dH {w:World} {B C j:Nat} {c:Value} {o:Obj} (h:w.heap[C]?=some o) (hne:C≠B):(w.setCell ⟨B,j,none⟩ c).heap[C]?=some o:=(Below.heap_setCell _ _ _ _ hne).trans h
theorem cG {w w':World} {C:Nat} {o:Obj} (h:w.heap[C]?=some o) (hb:Below w.heap.size w w'):w'.heap[C]?=some o:=(hb.block C (Array.getElem?_eq_some_iff.1 h).1).trans h
theorem cT {w:World} {C:Nat} {o:Obj} (h:w.heap[C]?=some o) (o':Obj):(w.alloc o').heap[C]?=some o:=(Below.heap_alloc _ _ _ (Array.getElem?_eq_some_iff.1 h).1).trans h
theorem gI {w:World} {B:Nat} {cs:Array Value} {T E:TypeId} (h:w.heap[B]?=some (.cells cs T (0,0))) (hTE:T≠E) {base size k:Nat} {v:Value} {xs:List Value} (hr:w.ownsRow base E size v k xs):some B≠v.ownBlock:=by
 rcases hr.2 with ⟨rfl,_⟩ | ⟨g,cap,cur,rfl,_,hgb,_⟩
 ·simp [Value.ownBlock]
 ·intro e'
  obtain rfl:B=g:=by simpa [Value.ownBlock] using e'
  have:=h.symm.trans hgb
  simp at this
  exact hTE this.2
theorem fJ {w w':World} {B:Nat} {cs:Array Value} {T E:TypeId} (h:w.heap[B]?=some (.cells cs T (0,0))) (hTE:T≠E) {base size k:Nat} {v:Value} {xs:List Value} (hr:w.ownsRow base E size v k xs) (hg:w.grownBy w' v.ownBlock):w'.heap[B]?=some (.cells cs T (0,0)) :=
 (hg.block B (Array.getElem?_eq_some_iff.1 h).1 (fun e=>gI h hTE hr e)).trans h
theorem dS (W:World) (b j:Nat) (v:Value):W.grownBy (W.setCell ⟨b,j,none⟩ v) (some b) :=
 ⟨rfl,rfl,rfl,(KeepsWalks.setCell W _ v).size,fun k _ hk=>Below.heap_setCell _ _ _ k (fun e=>hk (by rw [e]))⟩
theorem mZ {w:World} {a:Option Addr} {vs:List Value} (h:fP w a vs) {B j:Nat} {v:Value} (hne:∀ ad,a=some ad→ad.block≠B):fP (w.setCell ⟨B,j,none⟩ v) a vs:=by
 rcases h with h | ⟨b,off,ha,hc⟩
 ·exact .inl h
 ·refine .inr ⟨b,off,ha,fun i x hi=>?_⟩
  rw [← hc i x hi]
  unfold World.cell?
  rw [Below.heap_setCell _ _ _ _ (hne _ ha)]
def FOne (gen:Nat) (rows:List Nat) (w:World) (e:Ending) (w':World):Prop :=
 ∃ a cap,e = .returned (fQ gen a rows.length cap)∧fP w' a (u64s rows)∧(∀ ad,a=some ad→w.heap.size≤ad.block∧ad.block < w'.heap.size)∧Below w.heap.size w w'
set_option maxHeartbeats 2000000 in
theorem uA (a:Option Addr) (cap gen:Nat) (rows:List Nat) (w:World) (hf:FAt w a gen rows) (ys:List Nat) (hys:fI gen rows=ys) :
  Calls prog 65 #[fQ gen a rows.length cap] w (FOne gen ys w):=by
 have HF:=Lib.hid hf
 have hgen:=hf.gen
 have hlen:=hf.len
 have HY:=Lib.hid hys
 obtain ⟨i0,hi,hz0,hz1,hz2⟩:=info_parts wS
 obtain ⟨len,hl⟩:∃ len,rows.length=len:=⟨_,rfl⟩
 have HL:=Lib.hid hl
 rw [hl] at hlen ⊢
 unfold fQ
 clear hf hl hys
 go_enter func65,ntmps65
 go_wp2_with fail
 go_loopw [4] (fun i wr=>∃ (k:Nat) (v:Value),k≤len∧i = .int .i64 k∧Hid (wr.heap[w.heap.size]?=some (.cells #[.int .u64 (gen:Int),.slice a len cap] 49 (0,0)))∧Hid (wr.heap[w.heap.size+1]?=some (.cells #[.int .u64 0,.slice none 0 0] 49 (0,0)))∧Hid (wr.heap[w.heap.size+1+1]?=some (.cells #[.int .u64 (gen:Int),v] 49 (0,0)))∧Hid (wr.ownsRow w.heap.size 46 1 v k (u64s (ys.take k)))∧Below w.heap.size w wr) (fun i _=>len - (intOf i).toNat)
 case atStart =>
  refine ⟨0,.slice none 0 0,Nat.zero_le _,rfl,?_,?_,?_,World.ownsRow_nil _ _ _ _,(((Below.refl _ _).alloc (Nat.le_refl _) _).alloc (by simp) _).alloc (by simp;omega) _⟩
  ·show _=_
   exact cT (cT (dG _ _) _) _
  ·show _=_
   have:=cT (dG (w.alloc (.cells #[.int .u64 (gen:Int),.slice a len cap] 49)) (.cells #[.int .u64 0,.slice none 0 0] 49)) (.cells #[.int .u64 (gen:Int),.slice none 0 0] 49)
   rwa [World.size_alloc] at this
  ·show _=_
   have:=dG ((w.alloc (.cells #[.int .u64 (gen:Int),.slice a len cap] 49)).alloc (.cells #[.int .u64 0,.slice none 0 0] 49)) (.cells #[.int .u64 (gen:Int),.slice none 0 0] 49)
   rwa [World.size_alloc,World.size_alloc] at this
 case round =>
  obtain ⟨k,v,hk,rfl,B0,B1,B2,HO,hb⟩:=hrel
  obtain ⟨c0,c1,cf⟩:=bR B0.out
  obtain ⟨e0,e1,ef⟩:=bR B2.out
  have ef1:=ef 1
  by_cases hlt:k < len
  ·obtain ⟨ba,offa,x,rfl,hx,hx64,hba,a0⟩:=(HF.out.below hb).at_ (by rw [HL.out];exact hlt)
   have g0:(0:Int)≤(k:Int):=by omega
   have g1:(k:Int) < (len:Int):=by omega
   have hag:=Jv x gen hx64 hgen
   obtain ⟨y,hy⟩:∃ y,andn x gen=y:=⟨_,rfl⟩
   rw [hy] at hag
   have HT:Hid (ys.take (k+1)=ys.take k++[y]):=by show _=_;rw [← HY.out,En hx,hy]
   clear hx hy cf ef
   go_wp2_with fail
   have q1:(wr.alloc (.cells #[.int .u64 (y:Int)] 46)).cell? ⟨w.heap.size+1+1,1,none⟩=some v:=(bR (cT B2.out _)).2.1
   go_region_law (first | (refine step_append_lies (wr.drew.alloc (.cells #[.int .u64 (y:Int)] 46)) ?_ (.tmp 16) (.tmp 25) 47 ?_ w.heap.size 46 i0 _ 1 8 underlying47 hi hz0 hz1 hz2 ?_ ?_ v k (u64s (ys.take k)) ?_ ?_ ⟨wr.heap.size,0,none⟩ 1 1 [.int .u64 (y:Int)] ?_ ?_ ?_ ?_ ?_ ?_ ?_ ?_ (wr.heap.size+1) ?_ ?_;rfl;rfl;rfl;omega;rfl;exact (HO.out:(wr.drew).ownsRow _ _ _ _ _ _).alloc _;rfl;rfl;exact (World.news_of_block (cs:=#[.int .u64 (y:Int)]) (t:=46) (fr:=(0,0)) (dG wr.drew _));simp [Value.oneCell'];omega;(unfold maxLen;omega);omega;(have:=hb.size;simp;omega);simp;intro gg cp w5 hown1 hgrow hat hlt5;have hB4:Below w.heap.size w w5:=(hb.drew.alloc hb.size _).grown hgrow (by have:=hb.size;simp;omega) (fun j e=>(HO.out.lt j e).1);have D0:=Lib.hid (fJ (cT (w:=wr.drew) B0.out (.cells #[.int .u64 (y:Int)] 46)) (by decide) ((HO.out:(wr.drew).ownsRow _ _ _ _ _ _).alloc _) hgrow);have D1:=Lib.hid (fJ (cT (w:=wr.drew) B1.out (.cells #[.int .u64 (y:Int)] 46)) (by decide) ((HO.out:(wr.drew).ownsRow _ _ _ _ _ _).alloc _) hgrow);have D2:=Lib.hid (fJ (cT (w:=wr.drew) B2.out (.cells #[.int .u64 (y:Int)] 46)) (by decide) ((HO.out:(wr.drew).ownsRow _ _ _ _ _ _).alloc _) hgrow);obtain ⟨_,d1,df⟩:=bR D2.out;have df1:=df 1;clear df) | fail)
   all_goals
    have HO5:=Lib.hid (show (w5.setCell ⟨w.heap.size+1+1,1,none⟩ (.slice (some ⟨gg,0,none⟩) (k+1) cp)).ownsRow w.heap.size 46 1 (.slice (some ⟨gg,0,none⟩) (k+1) cp) (k+1) (u64s (ys.take (k+1))) by
     rw [HT.out,pV];exact hown1.kept (dS w5 _ _ _) (.inr (gI D2.out (by decide) hown1).symm))
    have N0:=Lib.hid (dH (B:=w.heap.size+1+1) (j:=1) (c:=.slice (some ⟨gg,0,none⟩) (k+1) cp) D0.out (by omega))
    have N1:=Lib.hid (dH (B:=w.heap.size+1+1) (j:=1) (c:=.slice (some ⟨gg,0,none⟩) (k+1) cp) D1.out (by omega))
    have N2:=Lib.hid (eZ (c:=.slice (some ⟨gg,0,none⟩) (k+1) cp) D2.out)
    have NB:=Lib.hid (hB4.setCell (p:=⟨w.heap.size+1+1,1,none⟩) (by simp;omega) (.slice (some ⟨gg,0,none⟩) (k+1) cp))
    clear hown1 hgrow hat d1 df1 q1 c0 c1 e0 e1 ef1
    go_wp2
    go_roundw
    case rel=>exact ⟨k+1,_,by omega,by go_num,N0,N1,N2,HO5,NB.out⟩
    case measure=>simp [intOf];omega
  ·obtain rfl:k=len:=by omega
   obtain ⟨r0,r1,rf⟩:=bR B1.out
   have rf0:=rf 0;have rf1:=rf 1
   have HYL:Hid (ys.length=k):=by show _=_;rw [← HY.out,jZ,HL.out]
   have HO2:Hid (wr.ownsRow w.heap.size 46 1 v k (u64s ys)):=by
    have:=HO.out
    rwa [List.take_of_length_le (by rw [HYL.out];exact Nat.le_refl _)] at this
   obtain ⟨hvn,a3,cap3,hv3,hr3,hf3⟩:=fP.of_own HO2.out
   subst hv3
   have HR3:=Lib.hid hr3;have HF3:=Lib.hid hf3
   have N1:=Lib.hid (eZ (c:=.slice a3 (u64s ys).length cap3) (gJ (c:=.int .u64 (gen:Int)) B1.out))
   have NR:=Lib.hid (mZ (mZ HR3.out (B:=w.heap.size+1) (j:=0) (v:=.int .u64 (gen:Int)) (fun ad e x=>gI B1.out (by decide) HO2.out (by rw [e];show _=some _;rw [x]))) (B:=w.heap.size+1) (j:=1) (v:=.slice a3 (u64s ys).length cap3) (fun ad e x=>gI B1.out (by decide) HO2.out (by rw [e];show _=some _;rw [x])))
   have NB:=Lib.hid ((hb.setCell (p:=⟨w.heap.size+1,0,none⟩) (by simp) (.int .u64 (gen:Int))).setCell (p:=⟨w.heap.size+1,1,none⟩) (by simp) (.slice a3 (u64s ys).length cap3))
   obtain ⟨s0,s1,_⟩:=bR N1.out
   clear cf ef hvn hr3 hf3
   go_wp2
   refine bodyPost_ret (v:=.agg #[.int .u64 (gen:Int),.slice a3 (u64s ys).length cap3]) ?_ rfl ⟨a3,cap3,by rw [fQ,fE],NR.out,fun ad e=>⟨(HF3.out ad e).1,by simpa [World.setCell] using (HF3.out ad e).2⟩,NB.out⟩
   simp [results,results65,go_sem,s0,s1]
theorem iG {w:World} {B:Nat} {cs:Array Value} {T:TypeId} (h:w.heap[B]?=some (.cells cs T (0,0))) {j:Nat} {v:Value} (hj:cs[j]?=some v):w.cell? ⟨B,j,none⟩=some v:=by
 unfold World.cell?;simp only [h];exact hj
theorem fX {w:World} {B:Nat} {a b c:Value} {T:TypeId} (h:w.heap[B]?=some (.cells #[a,b,c] T (0,0))):w.cell? ⟨B,0,none⟩=some a∧w.cell? ⟨B,1,none⟩=some b∧w.cell? ⟨B,2,none⟩=some c:=⟨iG h rfl,iG h rfl,iG h rfl⟩
theorem eU {w:World} {B:Nat} {a b c d e f:Value} {T:TypeId} (h:w.heap[B]?=some (.cells #[a,b,c,d,e,f] T (0,0))):w.cell? ⟨B,0,none⟩=some a∧w.cell? ⟨B,1,none⟩=some b∧w.cell? ⟨B,2,none⟩=some c∧w.cell? ⟨B,3,none⟩=some d∧w.cell? ⟨B,4,none⟩=some e∧w.cell? ⟨B,5,none⟩=some f:=⟨iG h rfl,iG h rfl,iG h rfl,iG h rfl,iG h rfl,iG h rfl⟩
theorem SIn.two {w:World} {d:Nat} {f:SF} {p q:SV} (h:SIn w (d+1) (.mk f [p,q])):f.len=2∧∃ b off,f.a=some ⟨b,off,none⟩∧b < w.heap.size∧S3 w b off p.f∧S3 w b (off+3) q.f∧SIn w d p∧SIn w d q:=by
 obtain ⟨h1,h2,h3⟩:=h
 refine ⟨h1.symm,?_⟩
 rcases h2 with h2 | ⟨b,off,ha,hc⟩
 ·cases h2
 ·have c0:=hc 0 p rfl
  have c1:=hc 1 q rfl
  simp only [Nat.zero_mul,Nat.add_zero,Nat.one_mul] at c0 c1
  exact ⟨b,off,ha,iU c0.1,c0,c1,h3 p (by simp),h3 q (by simp)⟩
theorem rE {α:Type} {l:List α} (h:l.length=2):∃ p q,l=[p,q]:=by
 match l,h with
 | [p,q],_=>exact ⟨p,q,rfl⟩
set_option maxHeartbeats 2000000 in
theorem uB (d:Nat) (s:SV) (e0:Int) (w:World) (hs:SIn w d s) (he:eI s=e0) :
  Calls prog 57 #[s.f.val] w fun e w'=>e = .returned (.int .i64 e0)∧Below w.heap.size w w':=by
 match d,s,hs with
 | d+1,.mk ⟨t,n,a,l,c⟩ ps,hs =>
 show Calls prog 57 #[.agg #[.int .i64 t,.int .i64 n,.slice a l c]] w _
 have hl:ps.length=l:=hs.1
 have hB:=Lib.hid (zF w #[.int .i64 t,.int .i64 n,.slice a l c] 25)
 have BX:=Lib.hid (dG w (.cells #[.int .i64 t,.int .i64 n,.slice a l c] 25))
 obtain ⟨r,hr⟩:∃ r,cA t n l=r:=⟨_,rfl⟩
 have HR:=Lib.hid hr
 cases r
 ·by_cases ht:t=5
  ·subst ht
   by_cases hn:n=0
   ·subst hn
    by_cases hl2:l=2
    ·subst hl2
     obtain ⟨p,q,rfl⟩:=rE hl
     obtain ⟨_,b,off,ha,hb,hp,hq,_,_⟩:=hs.two
     obtain rfl:a=some ⟨b,off,none⟩:=ha
     obtain ⟨⟨pt,pn,pa,pl,pc⟩,pps⟩:=p
     obtain ⟨⟨qt,qn,qa,ql,qc⟩,qps⟩:=q
     have HP:=Lib.hid hp;have HQ:=Lib.hid hq
     obtain ⟨r1,hr1⟩:∃ r,cA pt pn pl=r:=⟨_,rfl⟩
     obtain ⟨r2,hr2⟩:∃ r,cA qt qn ql=r:=⟨_,rfl⟩
     have HR1:=Lib.hid hr1;have HR2:=Lib.hid hr2
     have HE:Hid ((if r1=true∧r2=true then (0:Int) else 50)=e0):=by
      show _=_
      rw [← he];simp [eI,hr,SV.pl,SV.f,hr1,hr2]
     clear hr hs hl hp hq hr1 hr2 he
     cases r1
     ·have HE2:Hid ((50:Int)=e0):=by show _=_;rw [← HE.out];simp
      clear HE
      go_enter func57,ntmps57
      go_wp2_with fail
      refine (iX 5 0 _ 2 c false HR.out _).mono ?_
      rintro e w1 ⟨rfl,hb1⟩
      obtain ⟨x0,x1,x2⟩:=fX (cG BX.out hb1)
      obtain ⟨y0,y1,y2⟩:=(HP.out.below hB.out).below hb1
      dsimp only [SV.f] at y0 y1 y2
      go_wp2_with fail
      refine (iX pt pn _ pl pc false HR1.out _).mono ?_
      rintro e w2 ⟨rfl,hb2⟩
      go_wp2
      go_ret
      exact ⟨dR HE2.out,(hB.out.trans (hb1.mono hB.out.size)).trans (hb2.mono (hB.out.trans (hb1.mono hB.out.size)).size)⟩
     ·have HE2:Hid ((if r2=true then (0:Int) else 50)=e0):=by show _=_;rw [← HE.out];simp
      clear HE
      go_enter func57,ntmps57
      go_wp2_with fail
      refine (iX 5 0 _ 2 c false HR.out _).mono ?_
      rintro e w1 ⟨rfl,hb1⟩
      have hB1:=hB.out.trans (hb1.mono hB.out.size)
      obtain ⟨x0,x1,x2⟩:=fX (cG BX.out hb1)
      obtain ⟨y0,y1,y2⟩:=(HP.out.below hB.out).below hb1
      dsimp only [SV.f] at y0 y1 y2
      go_wp2_with fail
      refine (iX pt pn _ pl pc true HR1.out _).mono ?_
      rintro e w2 ⟨rfl,hb2⟩
      have hB2:=hB1.trans (hb2.mono hB1.size)
      clear x0 x1 x2 y0 y1 y2
      obtain ⟨x0,x1,x2⟩:=fX (cG (cG BX.out hb1) hb2)
      obtain ⟨y0,y1,y2⟩:=((HQ.out.below hB.out).below hb1).below hb2
      dsimp only [SV.f] at y0 y1 y2
      simp only [Nat.add_assoc,Nat.reduceAdd] at y1 y2
      go_wp2_with fail
      refine (iX qt qn _ ql qc r2 HR2.out _).mono ?_
      rintro e w3 ⟨rfl,hb3⟩
      have hB3:=hB2.trans (hb3.mono hB2.size)
      cases r2
      all_goals
       go_wp2
       go_ret
       exact ⟨dR HE2.out,hB3⟩
    ·have HE:Hid ((50:Int)=e0):=by
      show _=_
      rw [← he];simp [eI,hr,hl,hl2]
     have hl3:((l:Int) == 2)=false:=by simp;omega
     clear hr hs hl he hl2
     go_enter func57,ntmps57
     go_wp2_with fail
     refine (iX 5 0 a l c false HR.out _).mono ?_
     rintro e w1 ⟨rfl,hb1⟩
     obtain ⟨x0,x1,x2⟩:=fX (cG BX.out hb1)
     go_wp2
     go_ret
     exact ⟨dR HE.out,hB.out.trans (hb1.mono hB.out.size)⟩
   ·have HE:Hid ((50:Int)=e0):=by show _=_;rw [← he];simp [eI,hr,hn]
    have hn3:(n == 0)=false:=by simp [hn]
    clear hr hs hl he hn
    go_enter func57,ntmps57
    go_wp2_with fail
    refine (iX 5 n a l c false HR.out _).mono ?_
    rintro e w1 ⟨rfl,hb1⟩
    obtain ⟨x0,x1,x2⟩:=fX (cG BX.out hb1)
    go_wp2
    go_ret
    exact ⟨dR HE.out,hB.out.trans (hb1.mono hB.out.size)⟩
  ·have HE:Hid ((50:Int)=e0):=by show _=_;rw [← he];simp [eI,hr,ht]
   have hn3:(t == 5)=false:=by simp [ht]
   clear hr hs hl he ht
   go_enter func57,ntmps57
   go_wp2_with fail
   refine (iX t n a l c false HR.out _).mono ?_
   rintro e w1 ⟨rfl,hb1⟩
   obtain ⟨x0,x1,x2⟩:=fX (cG BX.out hb1)
   go_wp2
   go_ret
   exact ⟨dR HE.out,hB.out.trans (hb1.mono hB.out.size)⟩
 ·have HE:Hid ((0:Int)=e0):=by show _=_;rw [← he];simp [eI,hr]
  clear hr hs hl he
  go_enter func57,ntmps57
  go_wp2_with fail
  refine (iX t n a l c true HR.out _).mono ?_
  rintro e w1 ⟨rfl,hb1⟩
  go_wp2
  go_ret
  exact ⟨dR HE.out,hB.out.trans (hb1.mono hB.out.size)⟩
theorem Eo {f:SF} {ps:List SV} (h:f.tag≠5):eI (.mk f ps)=if cA f.tag f.dim f.len=true then 0 else 50:=by simp [eI,h]
set_option maxHeartbeats 2000000 in
theorem oR (t n:Int) (a:Option Addr) (l c:Nat) (ht:t≠5) (r:Bool) (hr:cA t n l=r) (w:World) :
  Calls prog 42 #[.agg #[.int .i64 t,.int .i64 n,.slice a l c]] w fun e w'=>e = .returned (.int .i64 (if r=true then 0 else 50))∧Below w.heap.size w w':=by
 have hB:=Lib.hid (zF w #[.int .i64 t,.int .i64 n,.slice a l c] 25)
 have e5:(t == 5)=false:=by simp [ht]
 by_cases ht2:t=1∨t=2∨t=3∨t=4
 ·by_cases hl:l=0
  ·subst hl
   by_cases h0:0≤n
   ·rcases ht2 with rfl | rfl | rfl | rfl
    ·by_cases hm:n=0
     ·subst hm
      obtain rfl:true=r:=by rw [← hr];simp [cA]
      clear hr
      go_enter func42,ntmps42
      go_wp2_with fail
      go_ret
      exact ⟨by simp,hB.out⟩
     ·obtain rfl:false=r:=by rw [← hr];simp [cA];omega
      have hm2:(n == 0)=false:=by simp [hm]
      clear hr
      go_enter func42,ntmps42
      go_wp2_with fail
      go_ret
      exact ⟨by simp,hB.out⟩
    ·by_cases hm:n≤1048576
     ·obtain rfl:true=r:=by rw [← hr];simp [cA,h0,hm]
      clear hr
      go_enter func42,ntmps42
      go_wp2_with fail
      go_ret
      exact ⟨by simp,hB.out⟩
     ·obtain rfl:false=r:=by rw [← hr];simp [cA,hm]
      clear hr
      go_enter func42,ntmps42
      go_wp2_with fail
      go_ret
      exact ⟨by simp,hB.out⟩
    all_goals
     by_cases hm:n≤64
     ·obtain rfl:true=r:=by rw [← hr];simp [cA,h0,hm]
      clear hr
      go_enter func42,ntmps42
      go_wp2_with fail
      go_ret
      exact ⟨by simp,hB.out⟩
     ·obtain rfl:false=r:=by rw [← hr];simp [cA,hm]
      clear hr
      go_enter func42,ntmps42
      go_wp2_with fail
      go_ret
      exact ⟨by simp,hB.out⟩
   ·obtain rfl:false=r:=by rw [← hr];rcases ht2 with rfl | rfl | rfl | rfl<;>simp [cA]<;>omega
    have hn0:(n == 0)=false:=by simp;omega
    clear hr
    rcases ht2 with rfl | rfl | rfl | rfl
    all_goals
     go_enter func42,ntmps42
     go_wp2_with fail
     go_ret
     exact ⟨by simp,hB.out⟩
  ·obtain rfl:false=r:=by rw [← hr];simp [cA,hl]
   have hl2:((l:Int) == 0)=false:=by simp;omega
   clear hr
   rcases ht2 with rfl | rfl | rfl | rfl
   ·by_cases hm:n=0
    ·subst hm
     go_enter func42,ntmps42
     go_wp2_with fail
     go_ret
     exact ⟨by simp,hB.out⟩
    ·have hm2:(n == 0)=false:=by simp [hm]
     go_enter func42,ntmps42
     go_wp2_with fail
     go_ret
     exact ⟨by simp,hB.out⟩
   all_goals
    by_cases h0:0≤n
    ·by_cases hm:n≤64
     ·have hm3:n≤1048576:=by omega
      go_enter func42,ntmps42
      go_wp2_with fail
      go_ret
      exact ⟨by simp,hB.out⟩
     ·by_cases hm3:n≤1048576
      all_goals
       go_enter func42,ntmps42
       go_wp2_with fail
       go_ret
       exact ⟨by simp,hB.out⟩
    ·go_enter func42,ntmps42
     go_wp2_with fail
     go_ret
     exact ⟨by simp,hB.out⟩
 ·obtain rfl:false=r:=by rw [← hr];simp only [not_or] at ht2;simp [cA,ht2]
  have e1:(t == 1)=false:=by simp;omega
  have e2:(t == 2)=false:=by simp;omega
  have e3:(t == 3)=false:=by simp;omega
  have e4:(t == 4)=false:=by simp;omega
  clear hr ht2 ht
  go_enter func42,ntmps42
  go_wp2_with fail
  go_ret
  exact ⟨by simp,hB.out⟩
def iH (cost facts cells parts:Bool) (f:WF):Bool:=(cost || decide (f.c=0)) && ((facts || (decide (f.g=0) && decide (f.rl=0))) && ((cells || decide (f.cl=0)) && (parts || decide (f.pl=0))))
def iI (t:Int) (f:WF):Bool:=iH (!f.z && decide (t=2)) (!f.z && decide (t=3)) (!f.z && decide (t=4)) (!f.z && decide (t=5)) f
theorem L0 (w:World) (a b:Array Value) (S T:TypeId):Below w.heap.size w ((w.alloc (.cells a S)).alloc (.cells b T)):=((Below.refl _ _).alloc (Nat.le_refl _) _).alloc (by simp) _
theorem lQ (w:World) (a b:Array Value) (S T:TypeId):((w.alloc (.cells a S)).alloc (.cells b T)).heap[w.heap.size]?=some (.cells a S (0,0))∧((w.alloc (.cells a S)).alloc (.cells b T)).heap[w.heap.size+1]?=some (.cells b T (0,0)):=by
 refine ⟨cT (dG w _) _,?_⟩
 have:=dG (w.alloc (.cells a S)) (.cells b T)
 rwa [World.size_alloc] at this
theorem dV (n:Nat):((n:Int) == 0)=decide (n=0):=by
 rw [Bool.eq_iff_iff];simp
theorem pW (n:Int):(n == 0)=decide (n=0):=by
 rw [Bool.eq_iff_iff];simp
theorem Jw (t n:Int) (a:Option Addr) (l c0:Nat) (f:WF) (r:Bool) (hr:iI t f=r) (w:World) :
  Calls prog 102 #[.agg #[.int .i64 t,.int .i64 n,.slice a l c0],f.val] w fun e w'=>e = .returned (.bool r)∧Below w.heap.size w w':=by
 obtain ⟨z,c,g,ra,rl,rc,rows,ca,cl,cc,cells,pa,pl,pc⟩:=f
 show Calls prog 102 #[.agg #[.int .i64 t,.int .i64 n,.slice a l c0],.agg #[.bool z,.int .i64 c,.int .u64 (g:Int),.slice ra rl rc,.slice ca cl cc,.slice pa pl pc]] w _
 have hB:=Lib.hid (L0 w #[.int .i64 t,.int .i64 n,.slice a l c0] #[.bool z,.int .i64 c,.int .u64 (g:Int),.slice ra rl rc,.slice ca cl cc,.slice pa pl pc] 25 53)
 obtain ⟨t0,t1⟩:=lQ w #[.int .i64 t,.int .i64 n,.slice a l c0] #[.bool z,.int .i64 c,.int .u64 (g:Int),.slice ra rl rc,.slice ca cl cc,.slice pa pl pc] 25 53
 obtain ⟨x0,x1,x2⟩:=fX t0
 obtain ⟨y0,y1,y2,y3,y4,y5⟩:=eU t1
 obtain ⟨W0,hW0⟩:∃ W,(w.alloc (.cells #[.int .i64 t,.int .i64 n,.slice a l c0] 25)).alloc (.cells #[.bool z,.int .i64 c,.int .u64 (g:Int),.slice ra rl rc,.slice ca cl cc,.slice pa pl pc] 53)=W:=⟨_,rfl⟩
 rw [hW0] at hB x0 x1 x2 y0 y1 y2 y3 y4 y5
 obtain ⟨b1,h1⟩:∃ b,(c == 0)=b:=⟨_,rfl⟩
 obtain ⟨b2,h2⟩:∃ b,(decide (g=0) && decide (rl=0))=b:=⟨_,rfl⟩
 obtain ⟨b3,h3⟩:∃ b,((cl:Int) == 0)=b:=⟨_,rfl⟩
 obtain ⟨b4,h4⟩:∃ b,((pl:Int) == 0)=b:=⟨_,rfl⟩
 have H2:=Lib.hid h2
 have HR:Hid ((((!z && decide (t=2)) || b1) && (((!z && decide (t=3)) || b2) && (((!z && decide (t=4)) || b3) && ((!z && decide (t=5)) || b4))))=r):=by
  show _=_
  rw [← hr,← h1,← h2,← h3,← h4,dV,dV,pW];rfl
 clear hr t0 t1 h2
 have hg:((g:Int) == 0)=decide (g=0):=dV g
 have hrl:((rl:Int) == 0)=decide (rl=0):=dV rl
 have HZ:∀ (b:Bool),b2=b→Hid (b2=b):=fun _ h=>h
 have h2:=H2.out
 have ht:t=2∨t=3∨t=4∨t=5∨((t == 2)=false∧(t == 3)=false∧(t == 4)=false∧(t == 5)=false∧decide (t=2)=false∧decide (t=3)=false∧decide (t=4)=false∧decide (t=5)=false):=by
  by_cases e2:t=2
  ·exact .inl e2
  by_cases e3:t=3
  ·exact .inr (.inl e3)
  by_cases e4:t=4
  ·exact .inr (.inr (.inl e4))
  by_cases e5:t=5
  ·exact .inr (.inr (.inr (.inl e5)))
  ·exact .inr (.inr (.inr (.inr ⟨by simp [e2],by simp [e3],by simp [e4],by simp [e5],by simp [e2],by simp [e3],by simp [e4],by simp [e5]⟩)))
 have HTT:=Lib.hid ht
 clear ht
 by_cases hg0:g=0
 ·have hg1:((g:Int) == 0)=true:=by simp [hg0]
  have h2':(decide (rl=0))=b2:=by simpa [hg0] using h2
  rw [h2'] at hrl
  clear h2 h2' hg HZ hg0
  cases z
  ·rcases HTT.out with rfl | rfl | rfl | rfl | ⟨e2,e3,e4,e5,d2,d3,d4,d5⟩
   case inr.inr.inr.inr =>
    have D:=Lib.hid (And.intro d2 (And.intro d3 (And.intro d4 d5)))
    clear d2 d3 d4 d5
    go_enter func102,ntmps102
    go_upto_region 15 with fail
    clear h1 h3 h4 hrl
    cases b1<;>cases b2<;>cases b3<;>cases b4<;>(go_wp2;go_ret;exact ⟨bY (by rw [← HR.out,D.out.1,D.out.2.1,D.out.2.2.1,D.out.2.2.2];rfl),hB.out⟩)
   all_goals
    go_enter func102,ntmps102
    go_upto_region 15 with fail
    clear h1 h3 h4 hrl
    cases b1<;>cases b2<;>cases b3<;>cases b4<;>(go_wp2;go_ret;exact ⟨bY (by rw [← HR.out];rfl),hB.out⟩)
  ·go_enter func102,ntmps102
   go_upto_region 15 with fail
   clear h1 h3 h4 hrl
   cases b1<;>cases b2<;>cases b3<;>cases b4<;>(go_wp2;go_ret;exact ⟨bY (by rw [← HR.out];rfl),hB.out⟩)
 ·have hg1:((g:Int) == 0)=false:=by simp [hg0]
  obtain rfl:b2=false:=by rw [← h2];simp [hg0]
  clear h2 hg HZ hrl hg0
  cases z
  ·rcases HTT.out with rfl | rfl | rfl | rfl | ⟨e2,e3,e4,e5,d2,d3,d4,d5⟩
   case inr.inr.inr.inr =>
    have D:=Lib.hid (And.intro d2 (And.intro d3 (And.intro d4 d5)))
    clear d2 d3 d4 d5
    go_enter func102,ntmps102
    go_upto_region 15 with fail
    clear h1 h3 h4 hg1
    cases b1<;>cases b3<;>cases b4<;>(go_wp2;go_ret;exact ⟨bY (by rw [← HR.out,D.out.1,D.out.2.1,D.out.2.2.1,D.out.2.2.2];rfl),hB.out⟩)
   all_goals
    go_enter func102,ntmps102
    go_upto_region 15 with fail
    clear h1 h3 h4 hg1
    cases b1<;>cases b3<;>cases b4<;>(go_wp2;go_ret;exact ⟨bY (by rw [← HR.out];rfl),hB.out⟩)
  ·go_enter func102,ntmps102
   go_upto_region 15 with fail
   clear h1 h3 h4 hg1
   cases b1<;>cases b3<;>cases b4<;>(go_wp2;go_ret;exact ⟨bY (by rw [← HR.out];rfl),hB.out⟩)
def Bn (w:World) (a:Option Addr) (xs:List Nat):Prop:=fP w a (u64s xs)
theorem Bn.at_ {w:World} {a:Option Addr} {xs:List Nat} (h:Bn w a xs) {i:Nat} (hi:i < xs.length) :
  ∃ b off r,a=some ⟨b,off,none⟩∧xs[i]?=some r∧b < w.heap.size∧w.cell? ⟨b,off+i,none⟩=some (.int .u64 (r:Int)):=by
 obtain ⟨b,off,v,ha,hv,hb,hc⟩:=fP.at_ h (i:=i) (by rw [fE];exact hi)
 obtain ⟨r,hr,rfl⟩:=Bh hv
 exact ⟨b,off,r,ha,hr,hb,hc⟩
theorem Hf {xs ys:List Nat} (hl:xs.length=ys.length) (h:∀ (i x y:Nat),xs[i]?=some x→ys[i]?=some y→x=y):xs=ys:=by
 apply List.ext_getElem hl
 intro i h1 h2
 exact h i _ _ (List.getElem?_eq_getElem h1) (List.getElem?_eq_getElem h2)
def qV (ga:Nat) (xs:List Nat) (gb:Nat) (ys:List Nat):Bool:=ga == gb && xs == ys
theorem nA (w:World) (a b:Array Value) (T:TypeId):((w.alloc (.cells a T)).alloc (.cells b T)).heap[w.heap.size]?=some (.cells a T (0,0))∧((w.alloc (.cells a T)).alloc (.cells b T)).heap[w.heap.size+1]?=some (.cells b T (0,0)):=by
 refine ⟨cT (dG _ _) _,?_⟩
 have:=dG (w.alloc (.cells a T)) (.cells b T)
 rwa [World.size_alloc] at this
set_option maxHeartbeats 1000000 in
theorem zO (a b:Option Addr) (capa capb ga gb:Nat) (xs ys:List Nat) (w:World) (hx:xs.length≤9223372036854775807) (hy:ys.length≤9223372036854775807) (hra:Bn w a xs) (hrb:Bn w b ys) (r:Bool) (hr:qV ga xs gb ys=r) (n m:Nat) (hn:xs.length=n) (hm:ys.length=m) :
  Calls prog 25 #[fQ ga a n capa,fQ gb b m capb] w fun e w'=>e = .returned (.bool r)∧Below w.heap.size w w':=by
 unfold fQ
 have hB0:Below w.heap.size w ((w.alloc (.cells #[.int .u64 (ga:Int),.slice a n capa] 49)).alloc (.cells #[.int .u64 (gb:Int),.slice b m capb] 49)):=((Below.refl _ _).alloc (Nat.le_refl _) _).alloc (by simp) _
 have HA:=Lib.hid hra;have HB:=Lib.hid hrb;have HN:=Lib.hid hn;have HM:=Lib.hid hm
 obtain ⟨t0,t1⟩:=nA w #[.int .u64 (ga:Int),.slice a n capa] #[.int .u64 (gb:Int),.slice b m capb] 49
 have T0:=Lib.hid t0;have T1:=Lib.hid t1
 rw [hn] at hx;rw [hm] at hy
 by_cases hg:ga=gb
 ·subst hg
  have HR:Hid ((xs == ys)=r):=by show _=_;rw [← hr,qV];simp
  clear hra hrb hr hn hm t0 t1
  by_cases hnm:n=m
  ·subst hnm
   go_enter func25,ntmps25
   go_wp2_with fail
   go_loopw [5] (fun i wr=>∃ k:Nat,k≤n∧i = .int .i64 k∧Hid (∀ i x y,i < k→xs[i]?=some x→ys[i]?=some y→x=y)∧Hid (wr.heap[w.heap.size]?=some (.cells #[.int .u64 (ga:Int),.slice a n capa] 49 (0,0)))∧Hid (wr.heap[w.heap.size+1]?=some (.cells #[.int .u64 (ga:Int),.slice b n capb] 49 (0,0)))∧Below w.heap.size w wr) (fun i _=>n - (intOf i).toNat)
   case atStart=>exact ⟨0,Nat.zero_le _,rfl,fun i x y h=>by omega,T0,T1,hB0⟩
   case round =>
    obtain ⟨k,hk,rfl,HK,B0,B1,hb⟩:=hrel
    obtain ⟨c0,c1,_⟩:=bR B0.out
    obtain ⟨d0,d1,_⟩:=bR B1.out
    by_cases hlt:k < n
    ·obtain ⟨ba,offa,x,rfl,hx1,hba,a0⟩:=Bn.at_ (fP.below HA.out hb) (i:=k) (by rw [HN.out];exact hlt)
     obtain ⟨bb,offb,y,rfl,hy1,hbb,b0⟩:=Bn.at_ (fP.below HB.out hb) (i:=k) (by rw [HM.out];exact hlt)
     have g0:(0:Int)≤(k:Int):=by omega
     have g1:(k:Int) < (n:Int):=by omega
     by_cases hxy:x=y
     ·subst hxy
      have HNX:Hid (∀ i x y,i < k+1→xs[i]?=some x→ys[i]?=some y→x=y):=fun i u v hi hu hv=>by
       by_cases e:i=k
       ·subst e;rw [hx1] at hu;rw [hy1] at hv;cases hu;cases hv;rfl
       ·exact HK.out i u v (by omega) hu hv
      clear hx1 hy1
      go_wp2_with fail
      go_quiet (fail)
      go_wp2
      go_roundw
      case rel=>exact ⟨k+1,by omega,by go_num,HNX,B0,B1,below_drewN hb _⟩
      case measure=>simp [intOf];omega
     ·have hne:((x:Int) != (y:Int))=true:=by simp;omega
      have HX:Hid (false=r):=by
       show _=_
       rw [← HR.out]
       symm
       rw [beq_eq_false_iff_ne]
       rintro rfl
       rw [hx1] at hy1;cases hy1;exact hxy rfl
      clear hx1 hy1 hxy
      go_wp2_with fail
      go_quiet (fail)
      go_wp2
      go_ret
      exact ⟨bY HX.out,below_drewN hb _⟩
    ·have HX:Hid (true=r):=by
      show _=_
      rw [← HR.out]
      symm
      rw [beq_iff_eq]
      refine Hf (by rw [HN.out,HM.out]) fun i x y hi hj=>?_
      have:=(List.getElem?_eq_some_iff.1 hi).1
      rw [HN.out] at this
      exact HK.out i x y (by omega) hi hj
     go_wp2
     go_ret
     exact ⟨bY HX.out,hb⟩
  ·have HX:Hid (false=r):=by
    show _=_
    rw [← HR.out]
    symm
    rw [beq_eq_false_iff_ne]
    rintro rfl
    exact hnm (HN.out.symm.trans HM.out)
   have hne:((n:Int) != (m:Int))=true:=by simp;omega
   clear hnm
   go_enter func25,ntmps25
   go_wp2
   go_ret
   exact ⟨bY HX.out,hB0⟩
 ·have HR:Hid (false=r):=by show _=_;rw [← hr,qV,beq_eq_false_iff_ne.2 hg];rfl
  have hne:((ga:Int) != (gb:Int))=true:=by simp;omega
  clear hra hrb hr hn hm hg t0 t1
  go_enter func25,ntmps25
  go_wp2
  go_ret
  exact ⟨bY HR.out,hB0⟩
theorem wT (a b:Option Addr) (capa capb ga gb:Nat) (xs ys:List Nat) (w:World) (hx:xs.length≤100) (hy:ys.length≤100) (hra:Bn w a xs) (hrb:Bn w b ys) (r:Bool) (hr:qV ga xs gb ys=r) (n m:Nat) (hn:xs.length=n) (hm:ys.length=m) :
  Calls prog 25 #[fQ ga a n capa,fQ gb b m capb] w fun e w'=>e = .returned (.bool r)∧Below w.heap.size w w' :=
 zO a b capa capb ga gb xs ys w (Nat.le_trans hx (by decide)) (Nat.le_trans hy (by decide)) hra hrb r hr n m hn hm
def jO (gen:Nat) (rows:List Nat):Bool:=rows.all fun r=>r &&& gen == 0
def eR (n:Int) (gen:Nat) (rows:List Nat):Int:=if fH n=true then (if (fC n.toNat gen rows && jO gen rows)=true then 0 else 30) else 31
theorem Bo {n:Int} {gen:Nat} {rows:List Nat} {e:Int} (h:mE n gen rows=e) (he:e≠0):eR n gen rows=e:=by
 unfold mE at h
 unfold eR
 split at h
 ·rename_i hd
  rw [if_pos hd]
  split at h
  ·exact absurd h.symm he
  ·rename_i hs
   rw [if_neg (by intro x;rw [Bool.and_eq_true] at x;exact hs x.1)]
   exact h
 ·rename_i hd
  rw [if_neg hd];exact h
theorem Ep {n:Int} {gen:Nat} {rows:List Nat} (h:mE n gen rows=0):eR n gen rows=if jO gen rows=true then 0 else 30:=by
 unfold mE at h
 unfold eR
 split at h
 ·rename_i hd
  rw [if_pos hd]
  split at h
  ·rename_i hs
   rw [hs,Bool.true_and]
  ·cases h
 ·cases h
set_option maxHeartbeats 1000000 in
theorem pY (n:Int) (a:Option Addr) (cap gen:Nat) (rows:List Nat) (w:World) (hf:FAt w a gen rows) (r:Int) (hr:eR n gen rows=r) (len:Nat) (hl:rows.length=len) :
  Calls prog 103 #[.int .i64 n,fQ gen a len cap] w fun e w'=>e = .returned (.int .i64 r)∧Below w.heap.size w w':=by
 have HF:=Lib.hid hf
 have hgen:=hf.gen
 have hlen:=hf.len
 have hB0:Below w.heap.size w (w.alloc (.cells #[.int .u64 (gen:Int),.slice a len cap] 49)):=(Below.refl _ _).alloc (Nat.le_refl _) _
 have HF1:Hid (FAt (w.alloc (.cells #[.int .u64 (gen:Int),.slice a len cap] 49)) a gen rows):=hf.below hB0
 have T0:=Lib.hid (dG w (.cells #[.int .u64 (gen:Int),.slice a len cap] 49))
 have HL:=Lib.hid hl
 rw [hl] at hlen
 obtain ⟨s,hs⟩:∃ s,mE n gen rows=s:=⟨_,rfl⟩
 have HS:=Lib.hid hs
 unfold fQ
 clear hf hl
 have call:∀ W,FAt W a gen rows→Calls prog 124 #[.int .i64 n,fQ gen a len cap] W fun e w'=>e = .returned (.int .i64 s)∧Below W.heap.size W w':=fun W hW=>by
  have:=Lz n a cap gen rows W hW s HS.out
  rwa [HL.out] at this
 unfold fQ at call
 have HCALL:=Lib.hid call
 clear call
 by_cases h0:s=0
 ·subst h0
  have HRR:Hid ((if jO gen rows=true then (0:Int) else 30)=r):=by show _=_;rw [← hr,Ep hs]
  clear hr hs
  go_enter func103,ntmps103
  go_wp2_with fail
  refine (HCALL.out _ HF1.out).mono ?_
  rintro e w1 ⟨rfl,hb1⟩
  have hB1:=hB0.trans (hb1.mono hB0.size)
  have T1:=Lib.hid (cG T0.out hb1)
  obtain ⟨c0,c1,_⟩:=bR T1.out
  have HF2:=Lib.hid (HF1.out.below hb1)
  go_wp2_with fail
  go_loopw [17] (fun i wr=>∃ k:Nat,k≤len∧i = .int .i64 k∧Hid (∀ (i:Nat) x,i < k→rows[i]?=some x→(x &&& gen == 0)=true)∧w1=wr) (fun i _=>len - (intOf i).toNat)
  case atStart=>exact ⟨0,Nat.zero_le _,rfl,fun i x h=>by omega,rfl⟩
  case round =>
   obtain ⟨k,hk,rfl,HK,rfl⟩:=hrel
   by_cases hlt:k < len
   ·obtain ⟨ba,offa,x,rfl,hx,hx64,hba,a0⟩:=HF2.out.at_ (by rw [HL.out];exact hlt)
    have g0:(0:Int)≤(k:Int):=by omega
    have g1:(k:Int) < (len:Int):=by omega
    have hax:=u64_and_nat x gen hx64 hgen
    obtain ⟨q,hq⟩:∃ q,x &&& gen=q:=⟨_,rfl⟩
    rw [hq] at hax
    by_cases hq0:q=0
    ·have HN:Hid (∀ (i:Nat) y,i < k+1→rows[i]?=some y→(y &&& gen == 0)=true):=fun i y hi hy=>by
      by_cases e:i=k
      ·subst e;rw [hx] at hy;cases hy;rw [hq,hq0];rfl
      ·exact HK.out i y (by omega) hy
     subst hq0
     clear hx hq
     go_wp2
     go_roundw
     case rel=>exact ⟨k+1,by omega,by go_num,HN,by trivial⟩
     case measure=>simp [intOf];omega
    ·have HR:Hid (30=r):=by
      show _=_
      have:jO gen rows=false:=Bi (p:=fun r=>r &&& gen == 0) hx (by simp only [hq];simpa using hq0)
      rw [← HRR.out,this];rfl
     have hne:((q:Int) != 0)=true:=by simp;omega
     clear hx hq hq0
     go_wp2
     go_ret
     exact ⟨dR HR.out,hB1⟩
   ·have HR:Hid (0=r):=by
     show _=_
     have:jO gen rows=true:=wQ (p:=fun r=>r &&& gen == 0) HK.out (by rw [HL.out];omega)
     rw [← HRR.out,this];rfl
    go_wp2
    go_ret
    exact ⟨dR HR.out,hB1⟩
 ·have HR:Hid (s=r):=by show _=_;rw [← hr,Bo hs h0]
  have hne:(s != 0)=true:=by simpa using h0
  clear hr hs h0
  go_enter func103,ntmps103
  go_wp2_with fail
  refine (HCALL.out _ HF1.out).mono ?_
  rintro e w1 ⟨rfl,hb1⟩
  go_wp2
  go_ret
  exact ⟨dR HR.out,hB0.trans (hb1.mono hB0.size)⟩
theorem zP {r gen:Nat} (hr:r < 18446744073709551616) (hg:gen < 18446744073709551616):(andn r gen=r)↔(r &&& gen=0):=by
 constructor
 ·intro h
  apply Nat.eq_of_testBit_eq
  intro j
  have:=congrArg (fun z=>Nat.testBit z j) h
  simp only [wR hr hg] at this
  rw [Nat.testBit_and,Nat.zero_testBit]
  cases h1:r.testBit j
  ·rfl
  ·rw [h1] at this;simp at this;rw [this];rfl
 ·intro h
  apply Nat.eq_of_testBit_eq
  intro j
  rw [wR hr hg]
  have:=congrArg (fun z=>Nat.testBit z j) h
  simp only [Nat.testBit_and,Nat.zero_testBit] at this
  cases h1:r.testBit j
  ·rfl
  ·rw [h1] at this;simp at this;rw [this];rfl
theorem Eq {gen:Nat} {rows:List Nat} (hg:gen < 18446744073709551616) (ha:∀ r∈rows,r < 18446744073709551616):(fI gen rows == rows)=jO gen rows:=by
 rw [Bool.eq_iff_iff,beq_iff_eq]
 unfold jO fI
 rw [List.all_eq_true]
 constructor
 ·intro h x hx
  obtain ⟨i,hi⟩:=List.getElem?_of_mem hx
  have:(rows.map fun r=>andn r gen)[i]?=some x:=by rw [h];exact hi
  rw [List.getElem?_map,hi] at this
  have h2:andn x gen=x:=Option.some.inj this
  rw [(zP (ha x hx) hg).1 h2];rfl
 ·intro h
  have:∀ r∈rows,andn r gen=r:=fun r hr=>(zP (ha r hr) hg).2 (by have:=h r hr;simpa using this)
  conv=>rhs;rw [← List.map_id rows]
  exact List.map_congr_left this
set_option maxHeartbeats 2000000 in
theorem pZ (n:Int) (a:Option Addr) (cap gen:Nat) (rows:List Nat) (w:World) (hf:FAt w a gen rows) (r:Int) (hr:eR n gen rows=r) (len:Nat) (hl:rows.length=len) :
  Calls prog 85 #[.int .i64 n,fQ gen a len cap] w fun e w'=>e = .returned (.int .i64 r)∧Below w.heap.size w w':=by
 have HF:=Lib.hid hf
 have hgen:=hf.gen
 have hlen:=hf.len
 have hB0:Below w.heap.size w (w.alloc (.cells #[.int .u64 (gen:Int),.slice a len cap] 49)):=(Below.refl _ _).alloc (Nat.le_refl _) _
 have HF1:Hid (FAt (w.alloc (.cells #[.int .u64 (gen:Int),.slice a len cap] 49)) a gen rows):=hf.below hB0
 have T0:=Lib.hid (dG w (.cells #[.int .u64 (gen:Int),.slice a len cap] 49))
 have HL:=Lib.hid hl
 unfold fQ
 cases hd:fH n
 ·have HR:Hid (31=r):=by show _=_;rw [← hr,eR,hd];rfl
  have HD:=Lib.hid hd
  clear hr hd hf hl
  go_enter func85,ntmps85
  go_wp2_with fail
  refine (tY n false HD.out _).mono ?_
  rintro e w1 ⟨rfl,rfl⟩
  go_wp2
  go_ret
  exact ⟨dR HR.out,hB0⟩
 ·have HD:=Lib.hid hd
  obtain ⟨m,rfl,hm⟩:=nP hd
  have HRR:Hid ((if (fC m gen rows && jO gen rows)=true then (0:Int) else 30)=r):=by show _=_;rw [← hr,eR,hd,if_pos rfl,Int.toNat_natCast]
  have hcs:=Eq hf.gen hf.all
  have HCS:=Lib.hid hcs
  have hcl:=jZ gen rows
  obtain ⟨ys,hys⟩:∃ ys,fI gen rows=ys:=⟨_,rfl⟩
  rw [hys] at HCS hcl
  have HYS:=Lib.hid hys
  have HYL:Hid (ys.length=len):=hcl.trans hl
  have shp:∀ (W:World) (b:Bool),fC m gen rows=b→FAt W a gen rows→Calls prog 111 #[.int .i64 m,.agg #[.int .u64 (gen:Int),.slice a len cap]] W fun e w'=>e = .returned (.bool b)∧Below W.heap.size W w':=fun W b hb hW=>by
   have:=Of m hm a cap gen rows W hW b hb
   rwa [hl] at this
  have can:∀ (W:World),FAt W a gen rows→Calls prog 65 #[.agg #[.int .u64 (gen:Int),.slice a len cap]] W (FOne gen ys W):=fun W hW=>by
   have:=uA a cap gen rows W hW ys hys
   rwa [hl] at this
  have HSHP:=Lib.hid shp;have HCAN:=Lib.hid can
  rw [hl] at hlen
  have hylen:Hid (ys.length≤100):=by show _≤_;rw [HYL.out];exact hlen
  have hrlen:Hid (rows.length≤100):=by show _≤_;rw [HL.out];exact hlen
  clear hr hd hf hl hcs hcl hys shp can
  cases hsh:fC m gen rows
  ·have HR:Hid (30=r):=by show _=_;rw [← HRR.out,hsh];rfl
   have HSH:=Lib.hid hsh
   obtain ⟨c0,c1,_⟩:=bR T0.out
   clear hsh
   go_enter func85,ntmps85
   go_wp2_with fail
   refine (tY m true HD.out _).mono ?_
   rintro e w1 ⟨rfl,rfl⟩
   go_wp2_with fail
   go_region_with (go_at_call 111;refine (HSHP.out _ false HSH.out (HF1.out.below (by first | exact Below.refl _ _ | exact (Below.refl _ _).drew))).mono ?_;rintro e w3 ⟨rfl,hb3⟩;have hB3:Below w.heap.size w w3:=hB0.trans (Below.mono (by first | exact hb3 | exact Below.trans ((Below.refl _ _).drew) hb3) hB0.size))
   all_goals
    go_wp2
    go_ret
    exact ⟨dR HR.out,hB3⟩
  ·have HSH:=Lib.hid hsh
   obtain ⟨b,hb⟩:∃ b,jO gen rows=b:=⟨_,rfl⟩
   have HSM:Hid (qV gen ys gen rows=b):=by show _=_;rw [qV,HCS.out,hb];simp
   have HR:Hid ((if b=true then (0:Int) else 30)=r):=by show _=_;rw [← HRR.out,hsh,hb];rfl
   obtain ⟨c0,c1,_⟩:=bR T0.out
   clear hsh hb
   go_enter func85,ntmps85
   go_wp2_with fail
   refine (tY m true HD.out _).mono ?_
   rintro e w1 ⟨rfl,rfl⟩
   go_wp2_with fail
   go_region_with (first | (go_at_call 111;refine (HSHP.out _ true HSH.out (HF1.out.below (by first | exact Below.refl _ _ | exact (Below.refl _ _).drew))).mono ?_;rintro e w3 ⟨rfl,hb3⟩;have hB3:Below w.heap.size w w3:=hB0.trans (Below.mono (by first | exact hb3 | exact Below.trans ((Below.refl _ _).drew) hb3) hB0.size);have HF3:=Lib.hid (HF.out.below hB3);obtain ⟨d0,d1,_⟩:=bR (cG T0.out (show Below _ _ w3 from (by first | exact hb3 | exact Below.trans ((Below.refl _ _).drew) hb3)))) | (go_at_call 65;refine (HCAN.out _ HF3.out).mono ?_;rintro e w4 ⟨a4,cap4,rfl,hr4,hf4,hb4⟩;have hB4:=hB3.trans (hb4.mono hB3.size);have HF4:=Lib.hid (HF3.out.below hb4);have HR4:=Lib.hid hr4;have k0:=(hb4.cell (p:=⟨w.heap.size,0,none⟩) (iU d0)).trans d0;have k1:=(hb4.cell (p:=⟨w.heap.size,1,none⟩) (iU d1)).trans d1) | (go_at_call 25;refine (wT a4 a cap4 cap gen gen ys rows _ hylen.out hrlen.out HR4.out HF4.out.row b HSM.out _ len rfl HL.out).mono ?_;rintro e w5 ⟨rfl,hb5⟩;have hB5:=hB4.trans (hb5.mono hB4.size)))
   all_goals
    cases b
    ·go_wp2
     go_ret
     exact ⟨dR HR.out,hB5⟩
    ·go_wp2
     go_ret
     exact ⟨dR HR.out,hB5⟩
theorem fY (f k v:Int) (w:World):Calls prog 131 #[.agg #[.int .u64 f,.int .i64 k,.int .i64 v]] w fun e w'=>e = .returned (.agg #[.int .u64 0,.int .i64 k,.int .i64 v])∧(w.alloc (.cells #[.int .u64 0,.int .i64 k,.int .i64 v] 92)).alloc (.cells #[.int .u64 0,.int .i64 k,.int .i64 v] 92)=w':=by
 go_enter func131,ntmps131
 go_wp2
 refine bodyPost_ret (v:=.agg #[.int .u64 0,.int .i64 k,.int .i64 v]) (by simp [results,results131,go_sem]) rfl ⟨rfl,rfl⟩
set_option maxHeartbeats 1000000 in
theorem L3 (f f2:Int) (w:World):Calls prog 126 #[.agg #[.int .u64 f,.int .i64 0,.int .i64 0],.agg #[.int .u64 f2,.int .i64 0,.int .i64 0]] w fun e w'=>e = .returned (.agg #[.int .u64 (bits .or .u64 f f2),.int .i64 0,.int .i64 0])∧Below w.heap.size w w':=by
 go_enter func126,ntmps126
 go_wp2
 go_region_with (go_at_call 131;refine (fY _ _ _ _).mono ?_;rintro e w' ⟨rfl,rfl⟩)
 all_goals go_wp2
 all_goals refine bodyPost_ret (v:=.agg #[.int .u64 (bits .or .u64 f f2),.int .i64 0,.int .i64 0]) (by simp [results,results126,go_sem]) rfl ⟨rfl,?_⟩
 all_goals repeat (first | exact Below.refl _ _ | refine Below.drew ?_ | (refine Below.setCell ?_ (by simp) _) | (refine Below.alloc ?_ (by simp;try omega) _))
set_option maxHeartbeats 1000000 in
theorem L4 (f f2:Int) (v2:Int) (w:World):Calls prog 126 #[.agg #[.int .u64 f,.int .i64 0,.int .i64 0],.agg #[.int .u64 f2,.int .i64 1,.int .i64 v2]] w fun e w'=>e = .returned (.agg #[.int .u64 (bits .or .u64 f f2),.int .i64 1,.int .i64 v2])∧Below w.heap.size w w':=by
 go_enter func126,ntmps126
 go_wp2
 go_region_with (go_at_call 131;refine (fY _ _ _ _).mono ?_;rintro e w' ⟨rfl,rfl⟩)
 all_goals go_wp2
 all_goals refine bodyPost_ret (v:=.agg #[.int .u64 (bits .or .u64 f f2),.int .i64 1,.int .i64 v2]) (by simp [results,results126,go_sem]) rfl ⟨rfl,?_⟩
 all_goals repeat (first | exact Below.refl _ _ | refine Below.drew ?_ | (refine Below.setCell ?_ (by simp) _) | (refine Below.alloc ?_ (by simp;try omega) _))
set_option maxHeartbeats 1000000 in
theorem L5 (f f2:Int) (w:World):Calls prog 126 #[.agg #[.int .u64 f,.int .i64 0,.int .i64 0],.agg #[.int .u64 f2,.int .i64 2,.int .i64 0]] w fun e w'=>e = .returned (.agg #[.int .u64 0,.int .i64 2,.int .i64 0])∧Below w.heap.size w w':=by
 go_enter func126,ntmps126
 go_wp2
 go_region_with (go_at_call 131;refine (fY _ _ _ _).mono ?_;rintro e w' ⟨rfl,rfl⟩)
 all_goals go_wp2
 all_goals refine bodyPost_ret (v:=.agg #[.int .u64 0,.int .i64 2,.int .i64 0]) (by simp [results,results126,go_sem]) rfl ⟨rfl,?_⟩
 all_goals repeat (first | exact Below.refl _ _ | refine Below.drew ?_ | (refine Below.setCell ?_ (by simp) _) | (refine Below.alloc ?_ (by simp;try omega) _))
set_option maxHeartbeats 1000000 in
theorem L6 (f f2:Int) (v:Int) (w:World):Calls prog 126 #[.agg #[.int .u64 f,.int .i64 1,.int .i64 v],.agg #[.int .u64 f2,.int .i64 0,.int .i64 0]] w fun e w'=>e = .returned (.agg #[.int .u64 (bits .or .u64 f f2),.int .i64 1,.int .i64 v])∧Below w.heap.size w w':=by
 go_enter func126,ntmps126
 go_wp2
 go_region_with (go_at_call 131;refine (fY _ _ _ _).mono ?_;rintro e w' ⟨rfl,rfl⟩)
 all_goals go_wp2
 all_goals refine bodyPost_ret (v:=.agg #[.int .u64 (bits .or .u64 f f2),.int .i64 1,.int .i64 v]) (by simp [results,results126,go_sem]) rfl ⟨rfl,?_⟩
 all_goals repeat (first | exact Below.refl _ _ | refine Below.drew ?_ | (refine Below.setCell ?_ (by simp) _) | (refine Below.alloc ?_ (by simp;try omega) _))
set_option maxHeartbeats 1000000 in
theorem L7 (f f2:Int) (v:Int) (w:World):Calls prog 126 #[.agg #[.int .u64 f,.int .i64 1,.int .i64 v],.agg #[.int .u64 f2,.int .i64 1,.int .i64 v]] w fun e w'=>e = .returned (.agg #[.int .u64 (bits .or .u64 f f2),.int .i64 1,.int .i64 v])∧Below w.heap.size w w':=by
 go_enter func126,ntmps126
 go_wp2
 go_region_with (go_at_call 131;refine (fY _ _ _ _).mono ?_;rintro e w' ⟨rfl,rfl⟩)
 all_goals go_wp2
 all_goals refine bodyPost_ret (v:=.agg #[.int .u64 (bits .or .u64 f f2),.int .i64 1,.int .i64 v]) (by simp [results,results126,go_sem]) rfl ⟨rfl,?_⟩
 all_goals repeat (first | exact Below.refl _ _ | refine Below.drew ?_ | (refine Below.setCell ?_ (by simp) _) | (refine Below.alloc ?_ (by simp;try omega) _))
set_option maxHeartbeats 1000000 in
theorem L8 (f f2:Int) (v v2:Int) (hv:(v == v2)=false) (w:World):Calls prog 126 #[.agg #[.int .u64 f,.int .i64 1,.int .i64 v],.agg #[.int .u64 f2,.int .i64 1,.int .i64 v2]] w fun e w'=>e = .returned (.agg #[.int .u64 0,.int .i64 2,.int .i64 0])∧Below w.heap.size w w':=by
 go_enter func126,ntmps126
 go_wp2
 go_region_with (go_at_call 131;refine (fY _ _ _ _).mono ?_;rintro e w' ⟨rfl,rfl⟩)
 all_goals go_wp2
 all_goals refine bodyPost_ret (v:=.agg #[.int .u64 0,.int .i64 2,.int .i64 0]) (by simp [results,results126,go_sem]) rfl ⟨rfl,?_⟩
 all_goals repeat (first | exact Below.refl _ _ | refine Below.drew ?_ | (refine Below.setCell ?_ (by simp) _) | (refine Below.alloc ?_ (by simp;try omega) _))
set_option maxHeartbeats 1000000 in
theorem L9 (f f2:Int) (v:Int) (w:World):Calls prog 126 #[.agg #[.int .u64 f,.int .i64 1,.int .i64 v],.agg #[.int .u64 f2,.int .i64 2,.int .i64 0]] w fun e w'=>e = .returned (.agg #[.int .u64 0,.int .i64 2,.int .i64 0])∧Below w.heap.size w w':=by
 go_enter func126,ntmps126
 go_wp2
 go_region_with (go_at_call 131;refine (fY _ _ _ _).mono ?_;rintro e w' ⟨rfl,rfl⟩)
 all_goals go_wp2
 all_goals refine bodyPost_ret (v:=.agg #[.int .u64 0,.int .i64 2,.int .i64 0]) (by simp [results,results126,go_sem]) rfl ⟨rfl,?_⟩
 all_goals repeat (first | exact Below.refl _ _ | refine Below.drew ?_ | (refine Below.setCell ?_ (by simp) _) | (refine Below.alloc ?_ (by simp;try omega) _))
set_option maxHeartbeats 1000000 in
theorem Ma (f f2:Int) (w:World):Calls prog 126 #[.agg #[.int .u64 f,.int .i64 2,.int .i64 0],.agg #[.int .u64 f2,.int .i64 0,.int .i64 0]] w fun e w'=>e = .returned (.agg #[.int .u64 0,.int .i64 2,.int .i64 0])∧Below w.heap.size w w':=by
 go_enter func126,ntmps126
 go_wp2
 go_region_with (go_at_call 131;refine (fY _ _ _ _).mono ?_;rintro e w' ⟨rfl,rfl⟩)
 all_goals go_wp2
 all_goals refine bodyPost_ret (v:=.agg #[.int .u64 0,.int .i64 2,.int .i64 0]) (by simp [results,results126,go_sem]) rfl ⟨rfl,?_⟩
 all_goals repeat (first | exact Below.refl _ _ | refine Below.drew ?_ | (refine Below.setCell ?_ (by simp) _) | (refine Below.alloc ?_ (by simp;try omega) _))
set_option maxHeartbeats 1000000 in
theorem Mb (f f2:Int) (v2:Int) (w:World):Calls prog 126 #[.agg #[.int .u64 f,.int .i64 2,.int .i64 0],.agg #[.int .u64 f2,.int .i64 1,.int .i64 v2]] w fun e w'=>e = .returned (.agg #[.int .u64 0,.int .i64 2,.int .i64 0])∧Below w.heap.size w w':=by
 go_enter func126,ntmps126
 go_wp2
 go_region_with (go_at_call 131;refine (fY _ _ _ _).mono ?_;rintro e w' ⟨rfl,rfl⟩)
 all_goals go_wp2
 all_goals refine bodyPost_ret (v:=.agg #[.int .u64 0,.int .i64 2,.int .i64 0]) (by simp [results,results126,go_sem]) rfl ⟨rfl,?_⟩
 all_goals repeat (first | exact Below.refl _ _ | refine Below.drew ?_ | (refine Below.setCell ?_ (by simp) _) | (refine Below.alloc ?_ (by simp;try omega) _))
set_option maxHeartbeats 1000000 in
theorem Mc (f f2:Int) (w:World):Calls prog 126 #[.agg #[.int .u64 f,.int .i64 2,.int .i64 0],.agg #[.int .u64 f2,.int .i64 2,.int .i64 0]] w fun e w'=>e = .returned (.agg #[.int .u64 0,.int .i64 2,.int .i64 0])∧Below w.heap.size w w':=by
 go_enter func126,ntmps126
 go_wp2
 go_region_with (go_at_call 131;refine (fY _ _ _ _).mono ?_;rintro e w' ⟨rfl,rfl⟩)
 all_goals go_wp2
 all_goals refine bodyPost_ret (v:=.agg #[.int .u64 0,.int .i64 2,.int .i64 0]) (by simp [results,results126,go_sem]) rfl ⟨rfl,?_⟩
 all_goals repeat (first | exact Below.refl _ _ | refine Below.drew ?_ | (refine Below.setCell ?_ (by simp) _) | (refine Below.alloc ?_ (by simp;try omega) _))
def Cl.ok (c:Cl):Prop:=c.f < 18446744073709551616∧eH c.f c.k c.v=true
def joinK (k v k2 v2:Int):Int:=if k=0 then k2 else if k2=0 then k else if k=1∧k2=1∧v=v2 then 1 else 2
def gK (k v k2 v2:Int):Int:=if k=0 then v2 else if k2=0 then v else if k=1∧k2=1∧v=v2 then v else 0
def join (a b:Cl):Cl:=⟨if joinK a.k a.v b.k b.v=2 then 0 else a.f ||| b.f,joinK a.k a.v b.k b.v,gK a.k a.v b.k b.v⟩
theorem jP {f:Nat} {k v:Int} (h:eH f k v=true):(k=0∧v=0)∨k=1∨(k=2∧v=0):=by
 unfold eH at h
 split at h
 ·left;simp at h;exact ⟨by assumption,h⟩
 ·split at h
  ·right;left;assumption
  ·split at h
   ·right;right;simp at h;exact ⟨by assumption,h.1⟩
   ·cases h
theorem Jx (a b:Nat) (ha:a < 18446744073709551616) (hb:b < 18446744073709551616):bits .or .u64 (a:Int) (b:Int)=((a ||| b:Nat):Int):=bits_or_u64_nat a b ha hb
def wU (a b:Cl) (w:World) (e:Ending) (w':World):Prop:=e = .returned (join a b).val∧Below w.heap.size w w'
theorem eV {f f2:Nat} {k v k2 v2:Int} {F K V:Int} {w:World} (hF:F=((if joinK k v k2 v2=2 then 0 else f ||| f2:Nat):Int)) (hK:K=joinK k v k2 v2) (hV:V=gK k v k2 v2) :
  ∀ e w',(e=Ending.returned (.agg #[.int .u64 F,.int .i64 K,.int .i64 V])∧Below w.heap.size w w')→wU ⟨f,k,v⟩ ⟨f2,k2,v2⟩ w e w':=by
 rintro e w' ⟨rfl,hb⟩
 exact ⟨by simp only [join,Cl.val];rw [hF,hK,hV],hb⟩
theorem Hg (a b:Cl) (ha:a.ok) (hb:b.ok) (w:World):Calls prog 126 #[a.val,b.val] w (wU a b w):=by
 obtain ⟨f,k,v⟩:=a
 obtain ⟨f2,k2,v2⟩:=b
 obtain ⟨hf,hk⟩:=ha
 obtain ⟨hf2,hk2⟩:=hb
 simp only at hf hk hf2 hk2
 have ho:=Jx f f2 hf hf2
 rcases jP hk with ⟨rfl,rfl⟩ | rfl | ⟨rfl,rfl⟩<;>rcases jP hk2 with ⟨rfl,rfl⟩ | rfl | ⟨rfl,rfl⟩
 ·exact (L3 f f2 w).mono (eV (by simp [joinK,ho]) (by simp [joinK]) (by simp [gK]))
 ·exact (L4 f f2 v2 w).mono (eV (by simp [joinK,ho]) (by simp [joinK]) (by simp [gK]))
 ·exact (L5 f f2 w).mono (eV (by simp [joinK]) (by simp [joinK]) (by simp [gK]))
 ·exact (L6 f f2 v w).mono (eV (by simp [joinK,ho]) (by simp [joinK]) (by simp [gK]))
 ·by_cases hv:v=v2
  ·subst hv
   exact (L7 f f2 v w).mono (eV (by simp [joinK,ho]) (by simp [joinK]) (by simp [gK]))
  ·exact (L8 f f2 v v2 (by simp [hv]) w).mono (eV (by simp [joinK,hv]) (by simp [joinK,hv]) (by simp [gK,hv]))
 ·exact (L9 f f2 v w).mono (eV (by simp [joinK]) (by simp [joinK]) (by simp [gK]))
 ·exact (Ma f f2 w).mono (eV (by simp [joinK]) (by simp [joinK]) (by simp [gK]))
 ·exact (Mb f f2 v2 w).mono (eV (by simp [joinK]) (by simp [joinK]) (by simp [gK]))
 ·exact (Mc f f2 w).mono (eV (by simp [joinK]) (by simp [joinK]) (by simp [gK]))
theorem sI (d:Int) (a:Option Addr) (len cap:Nat) (cs:List Cl) (w:World) (c:Int) (hl:cs.length=len) (hm:cs.length≤maxLen) (hrow:fN w a cs) (hbits:nR cs) (hc:kN d cs=c) :
  Calls prog 104 #[.int .i64 d,.slice a len cap] w fun e w'=>e = .returned (.int .i64 c)∧Below w.heap.size w w':=by
 subst hl;subst hc;exact Bl d a cap cs w hm hrow hbits
def mF (d:Int) (xs ys:List Cl):Int:=if kN d xs=0 then kN d ys else kN d xs
theorem kA (d:Int) (a b:Option Addr) (capa capb:Nat) (xs ys:List Cl) (w:World) (hma:xs.length≤maxLen) (hmb:ys.length≤maxLen) (hra:fN w a xs) (hrb:fN w b ys) (hba:nR xs) (hbb:nR ys) (c:Int) (hc:mF d xs ys=c) :
  Calls prog 109 #[.int .i64 d,.slice a xs.length capa,.slice b ys.length capb] w fun e w'=>e = .returned (.int .i64 c)∧Below w.heap.size w w':=by
 have HMA:=Lib.hid hma;have HMB:=Lib.hid hmb;have HRA:=Lib.hid hra;have HRB:=Lib.hid hrb;have HBA:=Lib.hid hba;have HBB:=Lib.hid hbb
 clear hma hmb hra hrb hba hbb
 by_cases h0:kN d xs=0
 ·have H0:=Lib.hid h0
  have H1:=Lib.hid (show kN d ys=c by simpa [mF,h0] using hc)
  clear h0 hc
  go_enter func109,ntmps109
  go_wp2_with fail
  refine (sI _ _ _ _ xs _ 0 rfl HMA.out HRA.out HBA.out H0.out).mono ?_
  rintro e w1 ⟨rfl,hb1⟩
  go_wp2_with fail
  refine (sI _ _ _ _ ys _ c rfl HMB.out (HRB.out.below hb1) HBB.out H1.out).mono ?_
  rintro e w2 ⟨rfl,hb2⟩
  go_wp2
  go_ret
  exact ⟨rfl,hb1.trans (hb2.mono hb1.size)⟩
 ·have H1:=Lib.hid (show kN d xs=c by simpa [mF,h0] using hc)
  have hne:(c != 0)=true:=by rw [← H1.out];simpa using h0
  clear h0 hc
  go_enter func109,ntmps109
  go_wp2_with fail
  refine (sI _ _ _ _ xs _ c rfl HMA.out HRA.out HBA.out H1.out).mono ?_
  rintro e w1 ⟨rfl,hb1⟩
  go_wp2
  go_ret
  exact ⟨rfl,hb1⟩
def fM (t n:Int) (f:WF):Bool:=iI t f && (f.z || (if t=2 then decide (0≤f.c) && decide (f.c≤n) else if t=3 then decide (eR n f.g f.rows=0) else if t=4 then decide (kN n f.cells=0) else true))
theorem fK {t n:Int} {l:Nat} (h:cA t n l=true):l=0∧(t=1∨t=2∨t=3∨t=4):=by
 simp only [cA,Bool.and_eq_true,decide_eq_true_eq] at h
 refine ⟨h.1,?_⟩
 rcases h with ⟨_,h⟩
 by_cases h1:t=1
 ·exact .inl h1
 by_cases h2:t=2
 ·exact .inr (.inl h2)
 by_cases h3:t=3
 ·exact .inr (.inr (.inl h3))
 by_cases h4:t=4
 ·exact .inr (.inr (.inr h4))
 ·simp [h1,h2,h3,h4] at h
theorem lR {t n:Int} {l:Nat} (h:cA t n l=true):0≤n∧n≤1048576∧(t=1→n=0)∧((t=3∨t=4)→n≤64):=by
 have ht:=(fK h).2
 simp only [cA,Bool.and_eq_true,decide_eq_true_eq] at h
 rcases h with ⟨_,h⟩
 rcases ht with rfl | rfl | rfl | rfl<;>simp at h<;>omega
theorem WF.At.fat {w:World} {f:WF} (h:f.At w) (hs:f.rl≤100):FAt w f.ra f.g f.rows:=⟨h.rows,h.g64,h.r64,by rw [h.rl];exact hs⟩
def mD (ys xs:List Nat) (k:Nat):List Nat:=ys.take k++xs.drop k
theorem sJ {ys xs:List Nat} {k x y:Nat} (hy:ys[k]?=some y) (hx:xs[k]?=some x):(mD ys xs k).set k y=mD ys xs (k+1):=by
 obtain ⟨hk,ex⟩:=List.getElem?_eq_some_iff.1 hx
 obtain ⟨hk2,ey⟩:=List.getElem?_eq_some_iff.1 hy
 unfold mD
 have hl:(ys.take k).length=k:=by rw [List.length_take];omega
 rw [List.set_append_right _ _ (by omega),hl,Nat.sub_self,List.drop_eq_getElem_cons hk,List.set_cons_zero,List.take_succ_eq_append_getElem hk2,ey,List.append_assoc]
 rfl
theorem vT {ys xs:List Nat} {k x:Nat} (hl:ys.length=xs.length) (hx:xs[k]?=some x):(mD ys xs k)[k]?=some x:=by
 obtain ⟨hk,ex⟩:=List.getElem?_eq_some_iff.1 hx
 unfold mD
 have h2:(ys.take k).length=k:=by rw [List.length_take];omega
 rw [List.getElem?_append_right (by omega),h2,Nat.sub_self,List.getElem?_drop,Nat.add_zero,hx]
theorem qA (ys xs:List Nat):mD ys xs 0=xs:=by simp [mD]
theorem sK {ys xs:List Nat} (hl:ys.length=xs.length):mD ys xs xs.length=ys:=by
 unfold mD
 rw [List.take_of_length_le (by omega),List.drop_of_length_le (Nat.le_refl _),List.append_nil]
theorem sL (l:List Nat) (k y:Nat):(u64s l).set k (.int .u64 (y:Int))=u64s (l.set k y):=by
 unfold u64s;rw [List.map_set]
theorem sM {l:List Nat} {k x:Nat} (h:l[k]?=some x):(u64s l)[k]?=some (.int .u64 (x:Int)):=by
 unfold u64s;rw [List.getElem?_map,h];rfl
theorem Bp {w:World} {ad:Addr} {vs:List Value} (h:fP w (some ad) vs):∀ j u,vs[j]?=some u→w.cell? (ad.add j)=some u:=by
 intro j u hj
 rcases h with h | ⟨b,off,ha,hc⟩
 ·subst h;simp at hj
 ·cases ha
  have:=hc j u hj
  rw [← this]
  simp only [Addr.add];split<;>simp_all
theorem Og (l:List Nat):∀ u∈u64s l,u.oneCell'=true:=by
 intro u hu
 unfold u64s at hu
 rw [List.mem_map] at hu
 obtain ⟨r,_,rfl⟩:=hu
 rfl
set_option maxHeartbeats 1000000 in
theorem wV (a:Option Addr) (cap:Nat) (xs:List Nat) (w:World) (hx:xs.length≤100) (hra:Bn w a xs) (n:Nat) (hn:xs.length=n) :
  Calls prog 97 #[.slice a n cap] w fun e w'=>∃ v,e = .returned v∧w'.ownsRow w.heap.size 46 1 v n (u64s xs)∧Below w.heap.size w w':=by
 obtain ⟨i0,hi,hz0,hz1,hz2⟩:=info_parts wS
 have q22:∀ (w:World) (a:Option Addr) (n c n' c':Nat),(binOp .eql 47 (.slice a n c) (.slice none n' c')).run prog w = .ok (.bool a.isNone) w:=fun w a n c n' c'=>Lib.run_eql_slice_nil w _ _ a n c n' c' underlying47
 have HN:=Lib.hid hn
 rw [hn] at hx
 cases a with
 | none =>
  have hcs:u64s xs=[]:=by
   rcases hra with h | ⟨b,off,e,_⟩
   ·exact h
   ·cases e
  have hx0:xs=[]:=List.length_eq_zero_iff.1 (by rw [← fE,hcs];rfl)
  subst hx0
  obtain rfl:0=n:=HN.out
  clear hra
  go_enter func97,ntmps97
  go_wp2
  go_ret
  exact ⟨_,rfl,World.ownsRow_nil _ _ _ _,Below.refl _ _⟩
 | some ad =>
  have HNW:=Lib.hid (fun (o:Obj)=>Bp (fP.below hra ((Below.refl _ w).alloc (Nat.le_refl _) o)))
  have hown:(w.alloc (.cells #[] 46)).ownsRow w.heap.size 46 1 (.slice (some ⟨w.heap.size,0,none⟩) 0 0) 0 []:=World.ownsRow_lit w #[] 0 (Nat.le_refl _) (by simp) rfl
  have HO:=Lib.hid hown
  have hul:Hid ((u64s xs).length=n * 1):=by show _=_;rw [fE,hn,Nat.mul_one]
  clear hra hown hn
  go_enter func97,ntmps97
  go_wp2_with (at_builtin;go_loud (refine wpList_append_own _ rfl (.tmp 5) (.tmp 6) 47 rfl w.heap.size 46 i0 _ 1 8 underlying47 hi hz0 hz1 hz2 rfl (by decide) _ _ _ rfl HO.out ad n cap (u64s xs) rfl hul.out (HNW.out _) (Og xs) (by unfold maxLen;omega) (by omega) (by simp) ?_;intro v' w2 hown2 hgrow hnil))
  go_ret
  refine ⟨v',rfl,by simpa using hown2,?_⟩
  exact ((Below.refl _ _).alloc (Nat.le_refl _) _).grown hgrow (by simp) (fun j e=>by cases e;exact Nat.le_refl _)
structure OwnPost (w w':World) (base n:Nat) (v:Value) (xs:List Nat):Prop where
 own:w'.ownsRow base 46 1 v n (u64s xs)
 below:Below base w w'
 rest:∀ j,j < w.heap.size→some j≠v.ownBlock→w'.heap[j]?=w.heap[j]?
set_option maxHeartbeats 1000000 in
theorem sN (gen:Nat) (base n:Nat) (v:Value) (xs ys:List Nat) (w:World) (hgen:gen < 18446744073709551616) (hall:∀ r∈xs,r < 18446744073709551616) (hx:xs.length≤100) (hn:xs.length=n) (hb0:base≤w.heap.size) (hown:w.ownsRow base 46 1 v n (u64s xs)) (hys:fI gen xs=ys) :
  Calls prog 108 #[.int .u64 gen,v] w fun e w'=>e = .returned (.agg #[.int .u64 (gen:Int),v])∧OwnPost w w' base n v ys:=by
 have HALL:=Lib.hid hall;have HN:=Lib.hid hn
 have HYL:Hid (ys.length=xs.length):=by show _=_;rw [← hys,jZ]
 have HYS:=Lib.hid hys
 obtain ⟨a,cap,hv⟩:∃ a cap,v = .slice a n cap:=by
  rcases hown.2 with ⟨h,h0⟩ | ⟨g,cap,cur,h,_⟩
  ·exact ⟨none,0,by rw [h,h0]⟩
  ·exact ⟨_,_,h⟩
 subst hv
 have HO0:=Lib.hid hown
 rw [hn] at hx
 clear hown hys hall hn
 go_enter func108,ntmps108
 go_wp2_with fail
 go_loopw [8] (fun i wr=>∃ k:Nat,k≤n∧i = .int .i64 k∧Hid (wr.ownsRow base 46 1 (.slice a n cap) n (u64s (mD ys xs k)))∧Hid (wr.heap[w.heap.size]?=some (.cells #[.int .u64 0,.slice none 0 0] 49 (0,0)))∧Below base w wr∧Hid (∀ j,j < w.heap.size→some j≠(Value.slice a n cap).ownBlock→wr.heap[j]?=w.heap[j]?)) (fun i _=>n - (intOf i).toNat)
 case atStart =>
  refine ⟨0,Nat.zero_le _,rfl,?_,dG _ _,(Below.refl _ _).alloc hb0 _,fun j hj _=>Below.heap_alloc _ _ _ hj⟩
  rw [qA]
  exact HO0.out.alloc _
 case round =>
  obtain ⟨k,hk,rfl,HO,HR,hb,HX⟩:=hrel
  by_cases hlt:k < n
  ·obtain ⟨x,hx1⟩:∃ x,xs[k]?=some x:=⟨xs[k]'(by rw [HN.out];exact hlt),by simp [HN.out,hlt]⟩
   have hx64:=HALL.out x (List.mem_of_getElem? hx1)
   have hag:=Jv x gen hx64 hgen
   obtain ⟨y,hy⟩:∃ y,andn x gen=y:=⟨_,rfl⟩
   rw [hy] at hag
   have hy1:ys[k]?=some y:=by rw [← HYS.out,fI,List.getElem?_map,hx1,← hy];rfl
   have HM:=Lib.hid (sJ hy1 hx1)
   obtain ⟨g,capg,hv,hbg,hgl⟩:=HO.out.form (show 0 < n by omega)
   have hv2:a=some ⟨g,0,none⟩∧capg=cap:=by cases hv;exact ⟨rfl,rfl⟩
   obtain ⟨rfl,rfl⟩:=hv2
   have d0:=(HO.out.cellAt k (by omega)).trans (sM (vT HYL.out hx1))
   have q0:=HO.out.frozenAt k
   have g0:(0:Int)≤(k:Int):=by omega
   have g3:(k:Int) < (n:Int):=by omega
   have HO2:Hid ((wr.setCell ⟨g,k,none⟩ (.int .u64 (y:Int))).ownsRow base 46 1 (.slice (some ⟨g,0,none⟩) n capg) n (u64s (mD ys xs (k+1)))):=by
    rw [← HM.out,← sL]
    exact (HO.out.stored k _).1
   have hgr:g≠w.heap.size:=by
    intro e
    have h1:=gI HR.out (by decide) HO.out
    apply h1
    show some _=some g
    rw [e]
   have HR2:=Lib.hid (dH (j:=k) (c:=.int .u64 (y:Int)) HR.out (fun e=>hgr e.symm))
   have HX2:Hid (∀ j,j < w.heap.size→some j≠(Value.slice (some ⟨g,0,none⟩) n capg).ownBlock→(wr.setCell ⟨g,k,none⟩ (.int .u64 (y:Int))).heap[j]?=w.heap[j]?):=fun j h1 h2=>by
    rw [Below.heap_setCell _ _ _ _ (show j≠g by intro e;apply h2;rw [e];rfl)]
    exact HX.out j h1 h2
   have hb2:=hb.setCell (p:=⟨g,k,none⟩) hbg (.int .u64 (y:Int))
   clear hx1 hy hy1 hv hgr
   go_wp2
   go_roundw
   case rel=>exact ⟨k+1,by omega,by go_num,HO2,HR2,hb2,HX2⟩
   case measure=>simp [intOf];omega
  ·obtain rfl:k=n:=by omega
   have HO2:Hid (wr.ownsRow base 46 1 (.slice a k cap) k (u64s ys)):=by
    have:=HO.out
    rw [← HN.out] at this ⊢
    rwa [sK HYL.out] at this
   obtain ⟨r0,r1,rf⟩:=bR HR.out
   have rf0:=rf 0;have rf1:=rf 1
   have N1:=Lib.hid (eZ (c:=.slice a k cap) (gJ (c:=.int .u64 (gen:Int)) HR.out))
   obtain ⟨s0,s1,_⟩:=bR N1.out
   have HNB:=Lib.hid (gI HR.out (by decide) HO.out)
   clear rf
   go_wp2
   refine bodyPost_ret (v:=.agg #[.int .u64 (gen:Int),.slice a k cap]) ?_ rfl ⟨rfl,?_,(hb.setCell (p:=⟨w.heap.size,0,none⟩) hb0 _).setCell (p:=⟨w.heap.size,1,none⟩) hb0 _,?_⟩
   ·simp [results,results108,go_sem,s0,s1]
   ·exact (HO2.out.kept (dS _ _ _ _) (.inr HNB.out.symm)).kept (dS _ _ _ _) (.inr HNB.out.symm)
   ·intro j h1 h2
    rw [Below.heap_setCell _ _ _ _ (show j≠w.heap.size by omega),Below.heap_setCell _ _ _ _ (show j≠w.heap.size by omega)]
    exact HX.out j h1 h2
def Hh (gen:Nat) (rows:List Nat) (err:Int) (w:World) (e:Ending) (w':World):Prop :=
 ∃ a cap,e = .returned (.tuple #[.agg #[.int .u64 (gen:Int),.slice a rows.length cap],.int .i64 err])∧fP w' a (u64s rows)∧(∀ ad,a=some ad→w.heap.size≤ad.block∧ad.block < w'.heap.size)∧Below w.heap.size w w'
theorem sO {w w':World} (err:Int) (hb:Below w.heap.size w w'):Hh 0 [] err w (.returned (.tuple #[.agg #[.int .u64 0,.slice none 0 0],.int .i64 err])) w' :=
 ⟨none,0,rfl,.inl rfl,(fun ad e=>by cases e),hb⟩
theorem zQ {w:World} {base n:Nat} {E:TypeId} {v:Value} {xs:List Value} (h:w.ownsRow base E 1 v n xs):∃ a cap,v = .slice a n cap:=by
 rcases h.2 with ⟨h,h0⟩ | ⟨g,cap,cur,h,_⟩
 ·exact ⟨none,0,by rw [h,h0]⟩
 ·exact ⟨_,_,h⟩
theorem wW {w w':World} {gen n:Nat} {v:Value} {rows:List Nat} {base:Nat} (hb0:w.heap.size≤base) (h:w'.ownsRow base 46 1 v n (u64s rows)) (hb:Below w.heap.size w w') (err:Int):Hh gen rows err w (.returned (.tuple #[.agg #[.int .u64 (gen:Int),v],.int .i64 err])) w':=by
 obtain ⟨hn,a,cap,rfl,hr,hf⟩:=fP.of_own h
 exact ⟨a,cap,by rw [fE],hr,fun ad e=>⟨Nat.le_trans hb0 (hf ad e).1,(hf ad e).2⟩,hb⟩
def iY (n:Int) (ga:Nat) (xs:List Nat) (gb:Nat) (ys:List Nat):Int:=if eR n ga xs=0 then eR n gb ys else eR n ga xs
set_option maxHeartbeats 1000000 in
theorem sP (n:Int) (a b:Option Addr) (capa capb ga gb:Nat) (xs ys:List Nat) (w:World) (hfa:FAt w a ga xs) (hfb:FAt w b gb ys) (r:Int) (hr:iY n ga xs gb ys=r) (la lb:Nat) (hla:xs.length=la) (hlb:ys.length=lb) :
  Calls prog 107 #[.int .i64 n,fQ ga a la capa,fQ gb b lb capb] w fun e w'=>e = .returned (.int .i64 r)∧Below w.heap.size w w':=by
 unfold fQ
 have hB0:Below w.heap.size w ((w.alloc (.cells #[.int .u64 (ga:Int),.slice a la capa] 49)).alloc (.cells #[.int .u64 (gb:Int),.slice b lb capb] 49)):=((Below.refl _ _).alloc (Nat.le_refl _) _).alloc (by simp) _
 have HA:=Lib.hid (hfa.below hB0);have HB:=Lib.hid (hfb.below hB0);have HLA:=Lib.hid hla;have HLB:=Lib.hid hlb
 obtain ⟨t0,t1⟩:=nA w #[.int .u64 (ga:Int),.slice a la capa] #[.int .u64 (gb:Int),.slice b lb capb] 49
 have T1:=Lib.hid t1
 obtain ⟨s,hs⟩:∃ s,eR n ga xs=s:=⟨_,rfl⟩
 have HS:=Lib.hid hs
 by_cases h0:s=0
 ·subst h0
  have HR:Hid (eR n gb ys=r):=by show _=_;rw [← hr,iY,if_pos hs]
  clear hfa hfb hr hla hlb t0 t1 hs
  go_enter func107,ntmps107
  go_wp2_with fail
  refine (pY n a capa ga xs _ HA.out 0 HS.out la HLA.out).mono ?_
  rintro e w1 ⟨rfl,hb1⟩
  have hB1:=hB0.trans (hb1.mono hB0.size)
  obtain ⟨d0,d1,_⟩:=bR (cG T1.out hb1)
  go_wp2_with fail
  refine (pY n b capb gb ys _ (HB.out.below hb1) r HR.out lb HLB.out).mono ?_
  rintro e w2 ⟨rfl,hb2⟩
  go_wp2
  go_ret
  exact ⟨rfl,hB1.trans (hb2.mono hB1.size)⟩
 ·have HR:Hid (s=r):=by show _=_;rw [← hr,iY,hs,if_neg h0]
  have hne:(s != 0)=true:=by simpa using h0
  clear hfa hfb hr hla hlb t0 t1 hs h0
  go_enter func107,ntmps107
  go_wp2_with fail
  refine (pY n a capa ga xs _ HA.out s HS.out la HLA.out).mono ?_
  rintro e w1 ⟨rfl,hb1⟩
  go_wp2
  go_ret
  exact ⟨dR HR.out,hB0.trans (hb1.mono hB0.size)⟩
set_option maxHeartbeats 1000000 in
theorem vU (n:Int) (a b:Option Addr) (capa capb ga gb:Nat) (xs ys:List Nat) (w:World) (hfa:FAt w a ga xs) (hfb:FAt w b gb ys) (r:Int) (hr:iY n ga xs gb ys=r) (la lb:Nat) (hla:xs.length=la) (hlb:ys.length=lb) :
  Calls prog 63 #[.int .i64 n,fQ ga a la capa,fQ gb b lb capb] w fun e w'=>e = .returned (.int .i64 r)∧Below w.heap.size w w':=by
 unfold fQ
 have hB0:Below w.heap.size w ((w.alloc (.cells #[.int .u64 (ga:Int),.slice a la capa] 49)).alloc (.cells #[.int .u64 (gb:Int),.slice b lb capb] 49)):=((Below.refl _ _).alloc (Nat.le_refl _) _).alloc (by simp) _
 have HA:=Lib.hid (hfa.below hB0);have HB:=Lib.hid (hfb.below hB0);have HLA:=Lib.hid hla;have HLB:=Lib.hid hlb
 obtain ⟨t0,t1⟩:=nA w #[.int .u64 (ga:Int),.slice a la capa] #[.int .u64 (gb:Int),.slice b lb capb] 49
 have T1:=Lib.hid t1
 obtain ⟨s,hs⟩:∃ s,eR n ga xs=s:=⟨_,rfl⟩
 have HS:=Lib.hid hs
 by_cases h0:s=0
 ·subst h0
  have HR:Hid (eR n gb ys=r):=by show _=_;rw [← hr,iY,if_pos hs]
  clear hfa hfb hr hla hlb t0 t1 hs
  go_enter func63,ntmps63
  go_wp2_with fail
  refine (pZ n a capa ga xs _ HA.out 0 HS.out la HLA.out).mono ?_
  rintro e w1 ⟨rfl,hb1⟩
  have hB1:=hB0.trans (hb1.mono hB0.size)
  obtain ⟨d0,d1,_⟩:=bR (cG T1.out hb1)
  go_wp2_with fail
  refine (pZ n b capb gb ys _ (HB.out.below hb1) r HR.out lb HLB.out).mono ?_
  rintro e w2 ⟨rfl,hb2⟩
  go_wp2
  go_ret
  exact ⟨rfl,hB1.trans (hb2.mono hB1.size)⟩
 ·have HR:Hid (s=r):=by show _=_;rw [← hr,iY,hs,if_neg h0]
  have hne:(s != 0)=true:=by simpa using h0
  clear hfa hfb hr hla hlb t0 t1 hs h0
  go_enter func63,ntmps63
  go_wp2_with fail
  refine (pZ n a capa ga xs _ HA.out s HS.out la HLA.out).mono ?_
  rintro e w1 ⟨rfl,hb1⟩
  go_wp2
  go_ret
  exact ⟨dR HR.out,hB0.trans (hb1.mono hB0.size)⟩
structure TabC (W:World):Prop where
 ctz:Lib.TabIs prog W "math/bits.deBruijn64tab" .u8 oO
theorem TabC.below {W W':World} (h:TabC W) (hb:Below W.heap.size W W'):TabC W':=⟨var?_below hb G9 (Ha G9 h.ctz) h.ctz⟩
theorem Hi (x:Nat) (hx0:x≠0) (hx:x < 18446744073709551616) (w:World) (ht:TabC w) :
  Calls prog 129 #[.int .u64 x] w fun e w'=>e = .returned (.int .i64 (Lib.ctz 64 x))∧w=w':=by
 obtain ⟨hlow,hk⟩:=Lib.lowest_bit 64 x hx0 hx
 obtain ⟨hi,htab⟩:=Lib.deBruijn64_at _ hk
 have hcell:=ht.ctz.cell G9 _ (by rw [oO,List.length_map];exact hi)
 have e:oO.getD (2 ^ Lib.ctz 64 x * 285870213051353865 % 18446744073709551616 / 288230376151711744) 0=((Lib.ctz 64 x:Nat):Int):=by
  have:oO.getD (2 ^ Lib.ctz 64 x * 285870213051353865 % 18446744073709551616 / 288230376151711744) 0=Int.ofNat (Lib.deBruijn64tab.getD (2 ^ Lib.ctz 64 x * 285870213051353865 % 18446744073709551616 / 288230376151711744) 0):=by
   simp only [oO,List.getD,List.getElem?_map]
   cases Lib.deBruijn64tab[2 ^ Lib.ctz 64 x * 285870213051353865 % 18446744073709551616 / 288230376151711744]?<;>rfl
  rw [this,htab];rfl
 rw [e] at hcell
 exact Jq x _ _ w (by simp;omega) (Go.Proofs.tz64_key x _ hx hx0 hlow) hi hk hcell
theorem Er (f:Nat) (i:Int) (r:Int) (b:Bool) (h:lP f i r b) (hf:f < 18446744073709551616) (w:World) (ht:TabC w) :
  Calls prog 135 #[.int .u64 f,.int .i64 i] w fun e w'=>e = .returned (.tuple #[.int .i64 r,.bool b])∧w=w':=by
 have HT:=Lib.hid ht
 by_cases hi:63 < i
 ·have e:r=0∧b=false:=kC h (.inr ⟨rfl,rfl,fun j hj hij=>by omega⟩)
  obtain ⟨rfl,rfl⟩:=e
  clear h ht
  go_enter func135,ntmps135
  go_wp2
  go_ret2
  exact ⟨rfl,rfl⟩
 ·have hc:=Lib.hid (Bg f i i.toNat (by omega) rfl hf r b h)
  have HA:bits BinOp.andNot IntKind.u64 (f:Int) ((2 ^ i.toNat - 1:Nat):Int)=((restN f i.toNat:Nat):Int):=u64_andNot_nat f _ hf (Bd (by omega))
  have hmx:(if i < 0 then (0:Int) else i)=((i.toNat:Nat):Int):=by split<;>omega
  have hmx2:max i 0=((i.toNat:Nat):Int):=by omega
  have hlt:=Eh f i.toNat hf
  obtain ⟨m,hm⟩:∃ m,i.toNat=m:=⟨_,rfl⟩
  rw [hm] at HA hc hmx hmx2 hlt
  have hm63:m≤63:=by omega
  obtain ⟨q,hq⟩:∃ q,restN f m=q:=⟨_,rfl⟩
  rw [hq] at HA hc hlt
  obtain ⟨p,hp⟩:∃ p:Nat,2 ^ m - 1=p:=⟨_,rfl⟩
  rw [hp] at HA
  have HP:=Lib.hid hp
  clear ht h hq hp hf hm
  rcases hc.out with ⟨h0,rfl,rfl⟩ | ⟨h0,hr,rfl⟩
  ·subst h0
   go_enter func135,ntmps135
   go_wp2_with fail
   refine (wP m (by omega) _).mono ?_
   rintro e w1 ⟨rfl,rfl⟩
   rw [HP.out]
   go_wp2
   go_ret2
   exact ⟨rfl,rfl⟩
  ·have HR:=Lib.hid hr
   have hq0:((q:Int) == 0)=false:=by simp;omega
   clear hr hc
   go_enter func135,ntmps135
   go_wp2_with fail
   refine (wP m (by omega) _).mono ?_
   rintro e w1 ⟨rfl,rfl⟩
   rw [HP.out]
   go_wp2_with fail
   refine (Hi q (by omega) hlt _ HT.out).mono ?_
   rintro e w1 ⟨rfl,rfl⟩
   go_wp2
   go_ret2
   exact ⟨rib HR.out.symm rfl,rfl⟩
end
section
open Go.RowKit Go.Shelf
def Hj (rest:List Nat) (r:Int) (b:Bool):Prop:=(rest=[]∧r=0∧b=false)∨(∃ x l,rest=x::l∧r=(x:Int)∧b=true)
theorem wX {s j:Nat} (hj:j < 64) (h:s.testBit j=true):j∈mem s:=by
 unfold mem
 rw [List.mem_filter]
 exact ⟨List.mem_range.2 hj,h⟩
theorem rF (s:Nat):(mem s).Pairwise (· < ·):=List.Pairwise.filter _ List.pairwise_lt_range
theorem zR {s:Nat} {pre rest:List Nat} {i r:Int} {b:Bool} (hm:mem s=pre++rest) (hp:∀ p∈pre,(p:Int) < i) (hr:∀ q∈rest,i≤(q:Int)) (h:lP s i r b):Hj rest r b:=by
 have hs:=rF s
 rw [hm,List.pairwise_append] at hs
 cases rest with
 | nil =>
  have:lP s i 0 false:=.inr ⟨rfl,rfl,fun j hj hij=>by
   cases hb:s.testBit j
   ·rfl
   ·have:=wX hj hb
    rw [hm,List.append_nil] at this
    have:=hp j this
    omega⟩
  obtain ⟨e1,e2⟩:=kC h this
  exact .inl ⟨rfl,e1,e2⟩
 | cons y l =>
  have hy:y∈mem s:=by rw [hm];simp
  have hyl:∀ q∈l,y < q:=fun q hq=>(List.pairwise_cons.1 hs.2.1).1 q hq
  have:lP s i y true:=.inl ⟨rfl,y,rfl,Hd hy,hr y (by simp),Jt hy,fun j hj hij=>by
   cases hb:s.testBit j
   ·rfl
   ·have hj64:=Hd hy
    have:=wX (by omega) hb
    rw [hm,List.mem_append,List.mem_cons] at this
    rcases this with h1 | h1 | h1
    ·have:=hp j h1;omega
    ·omega
    ·have:=hyl j h1;omega⟩
  obtain ⟨e1,e2⟩:=kC h this
  exact .inr ⟨y,l,rfl,e1,e2⟩
theorem Md {s:Nat} {pre l:List Nat} {x:Nat} (hm:mem s=pre++x::l) {r:Int} {b:Bool} (h:lP s ((x:Int)+1) r b):Hj l r b:=by
 have hs:=rF s
 rw [hm,List.pairwise_append] at hs
 refine zR (pre:=pre++[x]) (by rw [hm];simp) (fun p hp=>?_) (fun q hq=>?_) h
 ·rw [List.mem_append,List.mem_singleton] at hp
  rcases hp with hp | rfl
  ·have:=hs.2.2 p hp x (by simp);omega
  ·omega
 ·have:=(List.pairwise_cons.1 hs.2.1).1 q hq
  omega
def Hk:Value→Bool
 | .bool b=>b
 | _=>false
section iter
attribute [local go_sem] Oper.semAt_some
set_option maxHeartbeats 1000000 in
theorem Me (n:Nat) (hn:1≤n) (l B s:Nat) (hs:s < 18446744073709551616) (J:List Nat→World→Prop) (hA:Abide B J) (hT:∀ pre X,J pre X→TabC X)
  (hY:∀ (pre:List Nat) (x:Nat) (rest:List Nat) X,mem s=pre++x::rest→J pre X→YieldAt Fence.wide (n - 1) prog l #[.int .i64 x] X fun e X'=>e = .returned (.bool true)∧J (pre++[x]) X'∧X'.heap[B]?=X.heap[B]?)
  (W:World) (hB:Boxed W B 46 (.int .u64 s)) (h0:J [] W) :
  CallsIn Fence.wide n prog 134 #[.func (.yield l) #[] #[],.pointer (some ⟨B,0,none⟩)] W fun e W'=>(∃ v,e = .returned v)∧J (mem s) W':=by
 have HY:=Lib.hid hY
 have HJ0:=Lib.hid h0
 have HB0:=Lib.hid hB
 have hc0:=hB.cell
 obtain ⟨r0,b0,hn0⟩:=zM s 0
 have HN0:=Lib.hid hn0
 have HNR:=Lib.hid (zR (pre:=[]) (rest:=mem s) rfl (by simp) (fun q _=>by omega) hn0)
 clear hY h0 hB hn0
 refine callsIn_of_wp func134 rfl trivial ?_ rfl
 simp only [ntmps134,List.size_toArray,List.length_cons,List.length_nil,Nat.reduceAdd,Nat.reduceSub,Array.replicate_succ,Array.replicate_zero,List.push_toArray,List.append_toArray,List.nil_append,List.cons_append]
 gi_wp2_with (refine ⟨trivial,?_⟩;gi_at_call 135;refine (callsIn_wide.2 (Er s 0 r0 b0 HN0.out hs _ (hT _ _ HJ0.out))).mono ?_;rintro e w' ⟨rfl,rfl⟩)
 gi_loopw [3,4] (fun i ok wr=>∃ (pre rest:List Nat) (r:Int) (b:Bool),i = .int .i64 r∧ok = .bool b∧Hid (mem s=pre++rest)∧Hid (Hj rest r b)∧Hid (Boxed wr B 46 (.int .u64 s))∧Hid (J pre wr))
  (fun i ok _=>if Hk ok=true then 65 - (intOf i).toNat else 0)
 case atStart=>exact ⟨[],mem s,r0,b0,rfl,rfl,rfl,HNR.out,HB0.out,HJ0.out⟩
 case round =>
  obtain ⟨pre,rest,r,b,rfl,rfl,hm,hnx,hb,hJ⟩:=hrel
  have hc:=hb.out.cell
  rcases hnx.out with ⟨rfl,rfl,rfl⟩ | ⟨x,tl,rfl,rfl,rfl⟩
  ·have hall:Hid (pre=mem s):=by show _=_;rw [hm.out,List.append_nil]
   gi_wp2
   go_end0
   exact ⟨⟨_,rfl⟩,by rw [← hall.out];exact hJ.out⟩
  ·have hx64:x < 64:=Hd (s:=s) (by rw [hm.out];simp)
   obtain ⟨r2,b2,hn2⟩:=zM s ((x:Int)+1)
   have HN2:=Lib.hid hn2
   have HNR2:=Lib.hid (Md hm.out hn2)
   have hM3:Hid (mem s=(pre++[x])++tl):=by show _=_;rw [hm.out];simp
   obtain ⟨fn,tmps,assign,body,hy,hR⟩:=HY.out pre x tl wr hm.out hJ.out
   have hmx:Hid (∀ y l2,tl=y::l2→x < y):=fun y l2 e=>by
    have hs:=rF s
    rw [hm.out,List.pairwise_append] at hs
    exact (List.pairwise_cons.1 hs.2.1).1 y (by rw [e];simp)
   clear hn2
   gi_wp2
   refine hR.mono ?_
   rintro e W3 ⟨rfl,hJ3,hk3⟩
   have HB3:Hid (Boxed W3 B 46 (.int .u64 s)):=hk3.trans hb.out
   have HJ3:=Lib.hid hJ3
   have hc3:=HB3.out.cell
   clear hk3 hJ3
   gi_wp2_with (refine ⟨trivial,?_⟩;gi_at_call 135;refine (callsIn_wide.2 (Er s ((x:Int)+1) r2 b2 HN2.out hs _ (hT _ _ HJ3.out))).mono ?_;rintro e w' ⟨rfl,rfl⟩)
   go_roundw
   case rel=>exact ⟨pre++[x],tl,r2,b2,rfl,rfl,hM3,HNR2,HB3,HJ3⟩
   case measure =>
    rcases HNR2.out with ⟨_,rfl,rfl⟩ | ⟨y,l2,e,rfl,rfl⟩
    ·simp [intOf,Hk];omega
    ·have:=hmx.out y l2 e
     simp [intOf,Hk];omega
end iter
theorem Bq (s:Nat) (w:World) :
  Calls prog 130 #[.int .u64 s] w fun e w'=>e = .returned (.func (.func 134) #[] #[.pointer (some ⟨w.heap.size,0,none⟩)])∧w'=w.alloc (.cells #[.int .u64 s] 46):=by
 go_enter func130,ntmps130
 go_wp2
 go_ret
 exact ⟨rfl,rfl⟩
theorem Br (n:Nat) (hn:1≤n) (B s:Nat) (hs:s < 18446744073709551616) (w:World) (hB:Boxed w B 46 (.int .u64 s)) :
  Js Fence.wide n prog 134 #[.pointer (some ⟨B,0,none⟩)] (fun x:Nat=>#[Value.int .i64 x]) (mem s) B TabC w :=
 fun l J W hW hA hT hY h0=>Me n hn l B s hs J hA hT hY W (hW.trans hB) h0
def accF (rows:List Nat) (gen:Nat) (l:List Nat):Nat:=l.foldl (fun c i=>c ||| rows.getD i 0) gen
def madeF (gen:Nat) (rows:List Nat) (s:Nat):Nat:=accF rows gen (mem s)
theorem zS (rows:List Nat) (gen:Nat) (l:List Nat) (x:Nat):accF rows gen (l++[x])=accF rows gen l ||| rows.getD x 0:=by
 unfold accF;rw [List.foldl_append];rfl
theorem Oh {a b:Nat} (ha:a < 18446744073709551616) (hb:b < 18446744073709551616):a ||| b < 18446744073709551616:=by
 have e:(18446744073709551616:Nat)=2 ^ 64:=rfl
 rw [e] at *;exact Nat.or_lt_two_pow ha hb
theorem Bt {rows:List Nat} (hr:∀ r∈rows,r < 18446744073709551616):∀ (l:List Nat) (gen:Nat),gen < 18446744073709551616→accF rows gen l < 18446744073709551616
 | [],gen,h=>h
 | x::l,gen,h=>by
  have:rows.getD x 0 < 18446744073709551616:=by
   rw [List.getD_eq_getElem?_getD]
   cases hx:rows[x]? with
   | none=>simp
   | some y=>exact hr y (List.mem_of_getElem? hx)
  exact Bt hr l _ (Oh h this)
theorem sQ {rows:List Nat} {gen s:Nat} (hr:∀ r∈rows,r < 18446744073709551616) (hg:gen < 18446744073709551616):madeF gen rows s < 18446744073709551616:=Bt hr _ _ hg
end
section
open Go.RowKit Go.Shelf
theorem Hl {B C D:Nat} {t:TypeId} {f:List Nat→Value} {o:Obj} {w:World} (hBC:B≠C) (hBD:B≠D) (hBn:w.heap.size≤B) {tB:TypeId} {vB:Value} :
  Abide B (fun (pre:List Nat) W=>(∃ v,Boxed W B tB v)∧W.heap[D]?=some o∧Boxed W C t (f pre)∧Below w.heap.size w W) where
 cell:=by
  rintro pre X u ⟨⟨v,hB⟩,hD,hC,hb⟩
  exact ⟨⟨u,hB.set u⟩,(Below.heap_setCell _ _ _ _ hBD.symm).trans hD,hC.other hBC.symm _,hb.setCell (p:=⟨B,0,none⟩) hBn _⟩
 drew:=by
  rintro pre X m ⟨hB,hD,hC,hb⟩
  exact ⟨hB,hD,hC,below_drewN hb m⟩
theorem Oi {B C D E:Nat} {t tB T:TypeId} {f:List Nat→Value} {cs:Array Value} {w:World} (hE:w.heap.size≤E) :
  OwnFrom E (fun (pre:List Nat) W=>(∃ v,Boxed W B tB v)∧W.heap[D]?=some (.cells cs T (0,0))∧Boxed W C t (f pre)∧Below w.heap.size w W):=by
 rintro s X Y row ⟨⟨vB,hB⟩,hD,hC,hb⟩ hg hrow
 have ne:∀ (b:Nat) (tt:TypeId) (u:Array Value),X.heap[b]?=some (.cells u tt (0,0))→some b≠row:=fun b tt u hbx e'=>by
  obtain ⟨_,o,ho,hc⟩:=hrow b e'.symm
  rw [hbx] at ho;cases ho;cases hc
 exact ⟨⟨vB,hB.kept hg (ne _ _ _ hB)⟩,(hg.block D (Array.getElem?_eq_some_iff.1 hD).1 (ne _ _ _ hD)).trans hD,hC.kept hg (ne _ _ _ hC),hb.grown hg hb.size fun k e'=>Nat.le_trans hE (hrow k e').1⟩
section madeA
attribute [local go_sem] Oper.semAt_some
set_option maxHeartbeats 2000000 in
theorem Oj (a:Option Addr) (cap gen:Nat) (rows:List Nat) (s:Nat) (hs:s < 18446744073709551616) (w:World) (hf:FAt w a gen rows) (hin:∀ i∈mem s,i < rows.length) (ht:TabC w) (r:Nat) (hr:madeF gen rows s=r) (len:Nat) (hl:rows.length=len) :
  CallsIn Fence.wide 5 prog 122 #[fQ gen a len cap,.int .u64 s] w fun e W'=>e = .returned (.int .u64 r)∧Below w.heap.size w W':=by
 unfold fQ
 have HF:=Lib.hid hf;have HIN:=Lib.hid hin;have HR:=Lib.hid hr;have HL:=Lib.hid hl;have HT:=Lib.hid ht
 have hgen:=hf.gen
 have HALL:=Lib.hid hf.all
 have hlen:len≤100:=by rw [← hl];exact hf.len
 clear hin hr hl
 refine callsIn_of_wp_marks func122 rfl trivial ?_ rfl
 simp only [ntmps122,List.size_toArray,List.length_cons,List.length_nil,Nat.reduceAdd,Nat.reduceSub,Array.replicate_succ,Array.replicate_zero,List.push_toArray,List.append_toArray,List.nil_append,List.cons_append]
 gi_wp2_with (refine ⟨trivial,?_⟩;gi_at_call 130;refine (callsIn_wide.2 (Bq s _)).mono ?_;rintro e w' ⟨rfl,rfl⟩)
 have b0:=dG w (.cells #[.int .u64 (gen:Int),.slice a len cap] 49)
 have bO:=Boxed.new (w.alloc (.cells #[.int .u64 (gen:Int),.slice a len cap] 49)) 46 (.int .u64 (gen:Int))
 have bN:=Boxed.new ((w.alloc (.cells #[.int .u64 (gen:Int),.slice a len cap] 49)).alloc (.cells #[.int .u64 (gen:Int)] 46)) 46 (.int .u64 s)
 rw [World.size_alloc] at bO
 rw [World.size_alloc,World.size_alloc] at bN
 have hB0:Below w.heap.size w (((w.alloc (.cells #[.int .u64 (gen:Int),.slice a len cap] 49)).alloc (.cells #[.int .u64 (gen:Int)] 46)).alloc (.cells #[.int .u64 s] 46)):=(((Below.refl _ w).alloc (Nat.le_refl _) _).alloc (by simp) _).alloc (by simp;omega) _
 refine Hc (F:=Fence.wide) (n:=5) rfl (by omega) (gf:=134) (lb:=#[.pointer (some ⟨w.heap.size+1+1,0,none⟩)]) (by simp [go_sem]) trivial (enters_of func134 (by kernel_rfl) rfl)
  (B:=w.heap.size+1+1) (Kw:=TabC) (by simp) (Br 4 (by omega) (w.heap.size+1+1) s hs _ bN) (fun _=>rfl)
  (fun pre W=>(∃ v,Boxed W (w.heap.size+1+1) 46 v)∧W.heap[w.heap.size]?=some (.cells #[.int .u64 (gen:Int),.slice a len cap] 49 (0,0))∧Boxed W (w.heap.size+1) 46 (.int .u64 (accF rows gen pre:Nat))∧Below w.heap.size w W)
  (Oi (by simp;omega)) (Hl (by omega) (by omega) (by omega) (vB:=undef)) (fun pre X h=>HT.out.below h.2.2.2) ⟨⟨_,bN⟩,cT (cT b0 _) _,bO.alloc _,hB0⟩
  (fun x=>{ tmps:=#[.agg #[.int .u64 (gen:Int),.slice a len cap],.int .u64 s,.pointer (some ⟨w.heap.size,0,none⟩),undef,.int .u64 0,.pointer (some ⟨w.heap.size+1,0,none⟩),.int .i64 x,.pointer (some ⟨w.heap.size,0,none⟩),.int .u64 (gen:Int),.int .u64 s,.func (.func 134) #[] #[.pointer (some ⟨w.heap.size+1+1,0,none⟩)],.int .i64 x,undef,undef,undef,undef,undef,undef,undef,undef],defers:=[] }) ?assign ?body ?done
 case assign =>
  intro l x W K hK
  gi_wp2
  exact hK
 case body =>
  rintro l pre x rest W hx ⟨⟨vB,hvB⟩,h0,hv,hB⟩
  have hc:=hv.cell
  have hfr:=hv.frozen
  obtain ⟨c0,c1,_⟩:=bR h0
  have hxm:x∈mem s:=by rw [hx];simp
  have hxl:x < len:=by rw [← HL.out];exact HIN.out x hxm
  obtain ⟨ba,offa,z,rfl,hz,hz64,hba,a0⟩:=(HF.out.below hB).at_ (i:=x) (by rw [HL.out];exact hxl)
  have g0:(0:Int)≤(x:Int):=by omega
  have g1:(x:Int) < (len:Int):=by omega
  have hacc:=Bt HALL.out pre gen hgen
  have hor:=u64_or_nat (accF rows gen pre) z hacc hz64
  have HS:Hid (accF rows gen (pre++[x])=accF rows gen pre ||| z):=by
   show _=_
   rw [zS,List.getD_eq_getElem?_getD,hz];rfl
  obtain ⟨u,hu⟩:∃ u,accF rows gen pre=u:=⟨_,rfl⟩
  rw [hu] at hor hc HS hv
  obtain ⟨q,hq⟩:∃ q,u ||| z=q:=⟨_,rfl⟩
  rw [hq] at hor HS
  have HV:=Lib.hid hv;have H0:=Lib.hid h0;have HVB:=Lib.hid hvB
  clear hz hu hq hx hacc hv h0 hvB
  have hmix:prog.follows .mixedOrders=true:=by kernel_rfl
  gi_wp2_with fail
  gi_region_with_o (fail)
  all_goals
   refine ⟨((KeepsOthers.setCell _ _ _).trans (KeepsOthers.drew _)).from _,Below.heap_setCell _ _ _ _ (show w.heap.size+1+1≠w.heap.size+1 by omega),⟨vB,HVB.out.other (by omega) _⟩,dH H0.out (by omega),?_,(hB.setCell (p:=⟨w.heap.size+1,0,none⟩) (by simp) _).drew⟩
   rw [HS.out]
   exact HV.out.set _
 case done =>
  rintro D W hD ⟨⟨vB,hvB⟩,h0,hv,hB⟩ hK
  have hc:=hv.cell
  have HQ:Hid (accF rows gen (mem s)=r):=HR.out
  gi_wp2
  refine ⟨by simp,.inl ⟨_,_,rfl,run_takeDeferred hK,?_⟩⟩
  exact ⟨_,results_tmp rfl _ _ _,by rw [← HQ.out];rfl,hB.trans (belowK_b (w:=w) (Nat.le_refl _) W D _ _ (by simp at hD;omega) hK rfl rfl)⟩
end madeA
theorem Es (a:Option Addr) (cap gen:Nat) (rows:List Nat) (s:Nat) (hs:s < 18446744073709551616) (w:World) (hf:FAt w a gen rows) (hin:∀ i∈mem s,i < rows.length) (ht:TabC w) (r:Nat) (hr:madeF gen rows s=r) (len:Nat) (hl:rows.length=len) :
  Calls prog 122 #[fQ gen a len cap,.int .u64 s] w fun e W'=>e = .returned (.int .u64 r)∧Below w.heap.size w W' :=
 callsIn_wide.1 (Oj a cap gen rows s hs w hf hin ht r hr len hl)
theorem Ok {s m:Nat} (hs:s < 2 ^ m) (hm:m≤64):vK s m=mem s:=by
 unfold vK mem
 obtain ⟨d,hd⟩:∃ d,64=m+d:=⟨64 - m,by omega⟩
 rw [hd,List.range_add,List.filter_append]
 have:((List.range d).map (m + ·)).filter s.testBit=[]:=by
  rw [List.filter_eq_nil_iff]
  intro x hx
  rw [List.mem_map] at hx
  obtain ⟨y,_,rfl⟩:=hx
  rw [Nat.testBit_lt_two_pow (Nat.lt_of_lt_of_le hs (Nat.pow_le_pow_right (by omega) (by omega)))]
  simp
 rw [this,List.append_nil]
set_option maxHeartbeats 1000000 in
theorem Et (a:Option Addr) (cap gen:Nat) (rows:List Nat) (s:Nat) (hs:s < 2 ^ rows.length) (hl64:rows.length≤64) (w:World) (hf:FAt w a gen rows) (r:Nat) (hr:madeF gen rows s=r) (len:Nat) (hl:rows.length=len) :
  Calls prog 74 #[fQ gen a len cap,.int .u64 s] w fun e W'=>e = .returned (.int .u64 r)∧Below w.heap.size w W':=by
 unfold fQ
 have hs64:s < 18446744073709551616:=Nat.lt_of_lt_of_le hs (lN hl64)
 have hB0:Below w.heap.size w (w.alloc (.cells #[.int .u64 (gen:Int),.slice a len cap] 49)):=(Below.refl _ _).alloc (Nat.le_refl _) _
 have HF1:Hid (FAt (w.alloc (.cells #[.int .u64 (gen:Int),.slice a len cap] 49)) a gen rows):=hf.below hB0
 have hgen:=hf.gen
 have HALL:=Lib.hid hf.all
 have HL:=Lib.hid hl
 rw [hl] at hl64 hs
 have HR:Hid (accF rows gen (vK s len)=r):=by show _=_;rw [Ok hs hl64];exact hr
 clear hf hr hl hs
 go_enter func74,ntmps74
 go_wp2_with fail
 go_loopw [5,6] (fun o i wr=>∃ (k u:Nat),k≤len∧i = .int .i64 k∧o = .int .u64 u∧u < 18446744073709551616∧Hid (accF rows gen (vK s k)=u)∧(w.alloc (.cells #[.int .u64 (gen:Int),.slice a len cap] 49))=wr) (fun _ i _=>len - (intOf i).toNat)
 case atStart=>exact ⟨0,gen,Nat.zero_le _,rfl,rfl,hgen,rfl,rfl⟩
 case round =>
  obtain ⟨k,u,hk,rfl,rfl,hu,HU,rfl⟩:=hrel
  by_cases hlt:k < len
  ·cases hbit:s.testBit k
   ·have HN:Hid (accF rows gen (vK s (k+1))=u):=by show _=_;rw [memK_no hbit];exact HU.out
    have HH:=Lib.hid (show zE s k=false by simp [zE,hbit])
    clear hbit
    go_wp2_with fail
    refine (Bb s k false HH.out hs64 _).mono ?_
    rintro e w1 ⟨rfl,rfl⟩
    go_wp2
    go_roundw
    case rel=>exact ⟨k+1,u,by omega,by go_num,rfl,hu,HN,by trivial⟩
    case measure=>simp [intOf];omega
   ·obtain ⟨ba,offa,z,rfl,hz,hz64,hba,a0⟩:=HF1.out.at_ (i:=k) (by rw [HL.out];exact hlt)
    obtain ⟨q,hq⟩:∃ q,u ||| z=q:=⟨_,rfl⟩
    have hq64:q < 18446744073709551616:=by rw [← hq];exact Oh hu hz64
    have HN:Hid (accF rows gen (vK s (k+1))=q):=by
     show _=_
     rw [Oa hbit,zS,HU.out,List.getD_eq_getElem?_getD,hz,← hq];rfl
    have HH:=Lib.hid (show zE s k=true by simp [zE,hbit];omega)
    have HQ:=Lib.hid hq
    have g0:(0:Int)≤(k:Int):=by omega
    have g1:(k:Int) < (len:Int):=by omega
    clear hbit hz hq
    go_wp2_with fail
    refine (Bb s k true HH.out hs64 _).mono ?_
    rintro e w1 ⟨rfl,rfl⟩
    go_wp2_with fail
    refine (Oc u z q hu hz64 HQ.out _).mono ?_
    rintro e w1 ⟨rfl,rfl⟩
    go_wp2
    go_roundw
    case rel=>exact ⟨k+1,q,by omega,by go_num,rfl,hq64,HN,by trivial⟩
    case measure=>simp [intOf];omega
  ·have HE:Hid ((u:Int)=(r:Int)):=by
    show _=_
    rw [← HU.out,← HR.out,show k=len by omega]
   go_wp2
   go_ret
   exact ⟨dR HE.out,hB0⟩
end
section
open Go.RowKit
theorem nB {n:Int} {gen:Nat} {rows:List Nat} (h:eR n gen rows=0):fH n=true∧fC n.toNat gen rows=true∧jO gen rows=true:=by
 unfold eR at h
 split at h
 ·rename_i hd
  split at h
  ·rename_i hs
   rw [Bool.and_eq_true] at hs
   exact ⟨hd,hs.1,hs.2⟩
  ·cases h
 ·cases h
theorem lS {m gen:Nat} {rows:List Nat} (h:fC m gen rows=true):rows.length=m∧mC m gen=true∧∀ r∈rows,mC m r=true:=by
 unfold fC at h
 simp only [Bool.and_eq_true,decide_eq_true_eq,List.all_eq_true] at h
 exact h
theorem zT {s m i:Nat} (hs:s < 2 ^ m) (hi:i∈mem s):i < m:=by
 rcases Nat.lt_or_ge i m with h | h
 ·exact h
 ·have:=Jt hi
  rw [Nat.testBit_lt_two_pow (Nat.lt_of_lt_of_le hs (Nat.pow_le_pow_right (by omega) h))] at this
  cases this
def orL (xs ys:List Nat):List Nat:=List.zipWith (fun a b:Nat=>a ||| b) xs ys
theorem Ol {xs ys:List Nat} {k x y:Nat} (hx:xs[k]?=some x) (hy:ys[k]?=some y):(orL xs ys)[k]?=some (x ||| y):=by simp [orL,List.getElem?_zipWith,hx,hy]
theorem Bu {xs ys:List Nat} (h:ys.length=xs.length):(orL xs ys).length=xs.length:=by simp [orL,h]
theorem Om {xs ys:List Nat} (hx:∀ r∈xs,r < 18446744073709551616) (hy:∀ r∈ys,r < 18446744073709551616):∀ r∈orL xs ys,r < 18446744073709551616:=by
 intro r hr
 obtain ⟨i,hi⟩:=List.getElem?_of_mem hr
 unfold orL at hi
 rw [List.getElem?_zipWith] at hi
 cases h1:xs[i]? with
 | none=>rw [h1] at hi;simp at hi
 | some a =>
  cases h2:ys[i]? with
  | none=>rw [h1,h2] at hi;simp at hi
  | some b =>
   rw [h1,h2] at hi
   have:a ||| b=r:=by simpa using hi
   rw [← this]
   exact Oh (hx a (List.mem_of_getElem? h1)) (hy b (List.mem_of_getElem? h2))
def oJ (n:Int) (ga:Nat) (xs:List Nat) (gb:Nat) (ys:List Nat):Nat:=if iY n ga xs gb ys=0 then ga ||| gb else 0
def nC (n:Int) (ga:Nat) (xs:List Nat) (gb:Nat) (ys:List Nat):List Nat:=if iY n ga xs gb ys=0 then fI (ga ||| gb) (orL xs ys) else []
theorem wY {n:Int} {ga gb:Nat} {xs ys:List Nat} (h:iY n ga xs gb ys=0):eR n ga xs=0∧eR n gb ys=0:=by
 unfold iY at h
 split at h
 ·rename_i h1;exact ⟨h1,h⟩
 ·rename_i h1;exact absurd h h1
theorem qB {n:Int} {ga gb:Nat} {xs ys:List Nat} (h:iY n ga xs gb ys=0):∃ m:Nat,n=m∧m≤64∧xs.length=m∧ys.length=m:=by
 obtain ⟨h1,h2⟩:=wY h
 obtain ⟨hd,s1,_⟩:=nB h1
 obtain ⟨_,s2,_⟩:=nB h2
 obtain ⟨m,rfl,hm⟩:=nP hd
 rw [Int.toNat_natCast] at s1 s2
 exact ⟨m,rfl,hm,(lS s1).1,(lS s2).1⟩
theorem mG (w:World) (a b c:Array Value) (T:TypeId) :
  (((w.alloc (.cells a T)).alloc (.cells b T)).alloc (.cells c T)).heap[w.heap.size]?=some (.cells a T (0,0))∧(((w.alloc (.cells a T)).alloc (.cells b T)).alloc (.cells c T)).heap[w.heap.size+1]?=some (.cells b T (0,0))∧(((w.alloc (.cells a T)).alloc (.cells b T)).alloc (.cells c T)).heap[w.heap.size+1+1]?=some (.cells c T (0,0)):=by
 obtain ⟨t0,t1⟩:=nA w a b T
 refine ⟨cT t0 _,cT t1 _,?_⟩
 have:=dG ((w.alloc (.cells a T)).alloc (.cells b T)) (.cells c T)
 rwa [World.size_alloc,World.size_alloc] at this
theorem On (n:Int) (a b:Option Addr) (capa capb ga gb:Nat) (xs ys:List Nat) (w:World) (hfa:FAt w a ga xs) (hfb:FAt w b gb ys) (e0:Int) (he:iY n ga xs gb ys=e0) (g:Nat) (hg:oJ n ga xs gb ys=g) (zs:List Nat) (hz:nC n ga xs gb ys=zs) (la lb:Nat) (hla:xs.length=la) (hlb:ys.length=lb) :
  Calls prog 83 #[.int .i64 n,fQ ga a la capa,fQ gb b lb capb] w (Hh g zs e0 w):=by
 unfold fQ
 have hB0:Below w.heap.size w (((w.alloc (.cells #[.int .u64 (ga:Int),.slice a la capa] 49)).alloc (.cells #[.int .u64 (gb:Int),.slice b lb capb] 49)).alloc (.cells #[.int .u64 0,.slice none 0 0] 49)):=(((Below.refl _ _).alloc (Nat.le_refl _) _).alloc (by simp) _).alloc (by simp;omega) _
 have HA:=Lib.hid (hfa.below hB0);have HB:=Lib.hid (hfb.below hB0);have HLA:=Lib.hid hla;have HLB:=Lib.hid hlb
 obtain ⟨t0,t1,t2⟩:=mG w #[.int .u64 (ga:Int),.slice a la capa] #[.int .u64 (gb:Int),.slice b lb capb] #[.int .u64 0,.slice none 0 0] 49
 have T0:=Lib.hid t0;have T1:=Lib.hid t1;have T2:=Lib.hid t2
 have hga:=hfa.gen;have hgb:=hfb.gen
 have HXA:=Lib.hid hfa.all;have HYA:=Lib.hid hfb.all
 have HXL:=Lib.hid hfa.len
 have HE:=Lib.hid he
 by_cases h0:e0=0
 ·subst h0
  obtain ⟨m,rfl,hm,hxm,hym⟩:=qB he
  obtain rfl:m=la:=by omega
  obtain rfl:m=lb:=by omega
  obtain rfl:ga ||| gb=g:=by rw [← hg,oJ,if_pos he]
  have HZ:Hid (fI (ga ||| gb) (orL xs ys)=zs):=by show _=_;rw [← hz,nC,if_pos he]
  have HOL:Hid ((orL xs ys).length=xs.length):=Bu (by omega)
  have hgg:=Oh hga hgb
  have hor:=u64_or_nat ga gb hga hgb
  obtain ⟨gg,hggq⟩:∃ gg,ga ||| gb=gg:=⟨_,rfl⟩
  rw [hggq] at hgg hor HZ ⊢
  clear hfa hfb he hg hz hla hlb t0 t1 t2 hxm hym hggq
  go_enter func83,ntmps83
  go_wp2_with fail
  refine (sP m a b capa capb ga gb xs ys _ HA.out HB.out 0 HE.out m m HLA.out HLB.out).mono ?_
  rintro e w1 ⟨rfl,hb1⟩
  have hB1:=hB0.trans (hb1.mono hB0.size)
  have U0:=Lib.hid (cG T0.out hb1);have U1:=Lib.hid (cG T1.out hb1);have U2:=Lib.hid (cG T2.out hb1)
  obtain ⟨c0,c1,_⟩:=bR U0.out
  go_wp2_with fail
  refine (wV a capa xs _ HXL.out (HA.out.below hb1).row m HLA.out).mono ?_
  rintro e w2 ⟨v,rfl,hown,hb2⟩
  obtain ⟨av,capv,hv⟩:=zQ hown
  subst hv
  have hB2:=hB1.trans (hb2.mono hB1.size)
  have V0:=Lib.hid (cG U0.out hb2);have V1:=Lib.hid (cG U1.out hb2);have V2:=Lib.hid (cG U2.out hb2)
  have HFB:=Lib.hid ((HB.out.below hb1).below hb2)
  have hw1:w.heap.size+1+1 < w1.heap.size:=(Array.getElem?_eq_some_iff.1 U2.out).1
  have HO0:Hid (w2.ownsRow w1.heap.size 46 1 (.slice av m capv) m (u64s (mD (orL xs ys) xs 0))):=by rw [qA];exact hown
  obtain ⟨k0,k1,_⟩:=bR V1.out
  clear hown c0 c1
  go_wp2_with fail
  go_loopw [26] (fun i wr=>∃ k:Nat,k≤m∧i = .int .i64 k∧Hid (wr.ownsRow w1.heap.size 46 1 (.slice av m capv) m (u64s (mD (orL xs ys) xs k)))∧Hid (wr.heap[w.heap.size]?=some (.cells #[.int .u64 (ga:Int),.slice a m capa] 49 (0,0)))∧Hid (wr.heap[w.heap.size+1]?=some (.cells #[.int .u64 (gb:Int),.slice b m capb] 49 (0,0)))∧Hid (wr.heap[w.heap.size+1+1]?=some (.cells #[.int .u64 0,.slice none 0 0] 49 (0,0)))∧Below w1.heap.size w2 wr) (fun i _=>m - (intOf i).toNat)
  case atStart=>exact ⟨0,Nat.zero_le _,rfl,HO0,V0,V1,V2,Below.refl _ _⟩
  case round =>
   obtain ⟨k,hk,rfl,HO,R0,R1,R2,hb⟩:=hrel
   by_cases hlt:k < m
   ·obtain ⟨x,hx⟩:∃ x,xs[k]?=some x:=⟨xs[k]'(by rw [HLA.out];exact hlt),by simp [HLA.out,hlt]⟩
    have hx64:=HXA.out x (List.mem_of_getElem? hx)
    obtain ⟨bb,offb,y,rfl,hy,hy64,hbb,b0⟩:=(HB.out.below hb1).at_ (i:=k) (by rw [HLB.out];exact hlt)
    have b0':=((hb.cell (p:=⟨bb,offb+k,none⟩) hbb).trans ((hb2.cell (p:=⟨bb,offb+k,none⟩) hbb).trans b0))
    have hxy:=u64_or_nat x y hx64 hy64
    have HM:=Lib.hid (sJ (Ol hx hy) hx)
    obtain ⟨q,hq⟩:∃ q,x ||| y=q:=⟨_,rfl⟩
    rw [hq] at hxy HM
    obtain ⟨gr,capr,hvr,hbg,hgl⟩:=HO.out.form (show 0 < m by omega)
    have hv2:av=some ⟨gr,0,none⟩∧capr=capv:=by cases hvr;exact ⟨rfl,rfl⟩
    obtain ⟨rfl,rfl⟩:=hv2
    have d0:=(HO.out.cellAt k (by omega)).trans (sM (vT HOL.out hx))
    have q0:=HO.out.frozenAt k
    have g0:(0:Int)≤(k:Int):=by omega
    have g3:(k:Int) < (m:Int):=by omega
    have HO2:Hid ((wr.setCell ⟨gr,k,none⟩ (.int .u64 (q:Int))).ownsRow w1.heap.size 46 1 (.slice (some ⟨gr,0,none⟩) m capr) m (u64s (mD (orL xs ys) xs (k+1)))):=by
     rw [← HM.out,← sL]
     exact (HO.out.stored k _).1
    have R0':=Lib.hid (dH (B:=gr) (j:=k) (c:=.int .u64 (q:Int)) R0.out (by omega))
    have R1':=Lib.hid (dH (B:=gr) (j:=k) (c:=.int .u64 (q:Int)) R1.out (by omega))
    have R2':=Lib.hid (dH (B:=gr) (j:=k) (c:=.int .u64 (q:Int)) R2.out (by omega))
    have hb':=hb.setCell (p:=⟨gr,k,none⟩) hbg (.int .u64 (q:Int))
    clear hx hy hq hvr b0
    go_wp2
    go_roundw
    case rel=>exact ⟨k+1,by omega,by go_num,HO2,R0',R1',R2',hb'⟩
    case measure=>simp [intOf];omega
   ·obtain rfl:k=m:=by omega
    have HO2:Hid (wr.ownsRow w1.heap.size 46 1 (.slice av k capv) k (u64s (orL xs ys))):=by
     have:=HO.out
     rw [← HLA.out] at this ⊢
     rwa [sK HOL.out] at this
    obtain ⟨a0,a1,_⟩:=bR R0.out
    obtain ⟨b0,b1,_⟩:=bR R1.out
    have hbw:w1.heap.size≤wr.heap.size:=Nat.le_trans hb2.size hb.size
    have HOLT:=Lib.hid (Om HXA.out HYA.out)
    have hol100:Hid ((orL xs ys).length≤100):=by show _≤_;rw [HOL.out];exact HXL.out
    have holn:Hid ((orL xs ys).length=k):=by show _=_;rw [HOL.out];exact HLA.out
    go_wp2_with fail
    refine (sN gg w1.heap.size k (.slice av k capv) (orL xs ys) zs _ hgg HOLT.out hol100.out holn.out hbw HO2.out HZ.out).mono ?_
    rintro e w4 ⟨rfl,post⟩
    have POST:=Lib.hid post
    have hB4:Below w.heap.size w w4:=((hB1.trans (hb2.mono hB1.size)).trans (hb.mono hB1.size)).trans (post.below.mono hB1.size)
    have W2:=Lib.hid ((post.rest (w.heap.size+1+1) ((Array.getElem?_eq_some_iff.1 R2.out).1) (fun e=>by have h9:=(HO2.out.lt _ e.symm).1;omega)).trans R2.out)
    obtain ⟨p0,p1,ff⟩:=bR W2.out
    have f0:=ff 0;have f1:=ff 1
    have N1:=Lib.hid (eZ (c:=.slice av k capv) (gJ (c:=.int .u64 (gg:Int)) W2.out))
    obtain ⟨s0,s1,_⟩:=bR N1.out
    have HNB:=Lib.hid (gI W2.out (by decide) POST.out.own)
    have HO5:=Lib.hid ((POST.out.own.kept (dS _ _ 0 (.int .u64 (gg:Int))) (.inr HNB.out.symm)).kept (dS _ (w.heap.size+1+1) 1 (.slice av k capv)) (.inr HNB.out.symm))
    have HB5:=Lib.hid ((hB4.setCell (p:=⟨w.heap.size+1+1,0,none⟩) (by simp;omega) (.int .u64 (gg:Int))).setCell (p:=⟨w.heap.size+1+1,1,none⟩) (by simp;omega) (.slice av k capv))
    clear post ff a0 a1 b0 b1
    go_wp2
    refine bodyPost_ret (v:=.tuple #[.agg #[.int .u64 (gg:Int),.slice av k capv],.int .i64 0]) ?_ rfl (wW hB1.size HO5.out HB5.out 0)
    simp [results,results83,go_sem,s0,s1]
 ·obtain rfl:0=g:=by rw [← hg,oJ,he,if_neg h0]
  obtain rfl:[]=zs:=by rw [← hz,nC,he,if_neg h0]
  have hne:(e0 != 0)=true:=by simpa using h0
  clear hfa hfb he hg hz hla hlb t0 t1 t2 h0
  go_enter func83,ntmps83
  go_wp2_with fail
  refine (sP n a b capa capb ga gb xs ys _ HA.out HB.out e0 HE.out la lb HLA.out HLB.out).mono ?_
  rintro e w1 ⟨rfl,hb1⟩
  have hB1:=hB0.trans (hb1.mono hB0.size)
  have U2:=Lib.hid (cG T2.out hb1)
  obtain ⟨d0,d1,df⟩:=bR U2.out
  have f0:=df 0;have f1:=df 1
  have N1:=Lib.hid (eZ (c:=.slice none 0 0) (gJ (c:=.int .u64 0) U2.out))
  obtain ⟨s0,s1,_⟩:=bR N1.out
  clear df
  go_wp2
  refine bodyPost_ret (v:=.tuple #[.agg #[.int .u64 0,.slice none 0 0],.int .i64 e0]) ?_ rfl (sO e0 ((hB1.setCell (p:=⟨w.heap.size+1+1,0,none⟩) (by simp;omega) _).setCell (p:=⟨w.heap.size+1+1,1,none⟩) (by simp;omega) _))
  simp [results,results83,go_sem,s0,s1]
def vM (n:Int) (ga:Nat) (xs:List Nat) (gb:Nat) (ys:List Nat):Nat:=if iY n ga xs gb ys=0 then madeF gb ys ga else 0
def uC (n:Int) (ga:Nat) (xs:List Nat) (gb:Nat) (ys:List Nat):List Nat:=if iY n ga xs gb ys=0 then fI (madeF gb ys ga) (xs.map (madeF gb ys)) else []
theorem extA_is (n:Int) (a b:Option Addr) (capa capb ga gb:Nat) (xs ys:List Nat) (w:World) (hfa:FAt w a ga xs) (hfb:FAt w b gb ys) (ht:TabC w) (e0:Int) (he:iY n ga xs gb ys=e0) (g:Nat) (hg:vM n ga xs gb ys=g) (zs:List Nat) (hz:uC n ga xs gb ys=zs) (la lb:Nat) (hla:xs.length=la) (hlb:ys.length=lb) :
  Calls prog 100 #[.int .i64 n,fQ ga a la capa,fQ gb b lb capb] w (Hh g zs e0 w):=by
 unfold fQ
 have hB0:Below w.heap.size w (((w.alloc (.cells #[.int .u64 (ga:Int),.slice a la capa] 49)).alloc (.cells #[.int .u64 (gb:Int),.slice b lb capb] 49)).alloc (.cells #[.int .u64 0,.slice none 0 0] 49)):=(((Below.refl _ _).alloc (Nat.le_refl _) _).alloc (by simp) _).alloc (by simp;omega) _
 have HA:=Lib.hid (hfa.below hB0);have HB:=Lib.hid (hfb.below hB0);have HLA:=Lib.hid hla;have HLB:=Lib.hid hlb
 obtain ⟨t0,t1,t2⟩:=mG w #[.int .u64 (ga:Int),.slice a la capa] #[.int .u64 (gb:Int),.slice b lb capb] #[.int .u64 0,.slice none 0 0] 49
 have T0:=Lib.hid t0;have T1:=Lib.hid t1;have T2:=Lib.hid t2
 have hga:=hfa.gen;have hgb:=hfb.gen
 have HXA:=Lib.hid hfa.all;have HYA:=Lib.hid hfb.all
 have HXL:=Lib.hid hfa.len
 have HE:=Lib.hid he
 by_cases h0:e0=0
 ·subst h0
  obtain ⟨m,rfl,hm,hxm,hym⟩:=qB he
  obtain rfl:m=la:=by omega
  obtain rfl:m=lb:=by omega
  obtain rfl:madeF gb ys ga=g:=by rw [← hg,vM,if_pos he]
  have HZ:Hid (fI (madeF gb ys ga) (xs.map (madeF gb ys))=zs):=by show _=_;rw [← hz,uC,if_pos he]
  have HOL:Hid ((xs.map (madeF gb ys)).length=(List.replicate m 0).length):=by show _=_;simp;omega
  obtain ⟨hc1,hc2⟩:=wY he
  obtain ⟨hd,sh1,_⟩:=nB hc1
  rw [Int.toNat_natCast] at sh1
  obtain ⟨_,ig,ir⟩:=lS sh1
  have HINg:Hid (∀ i∈mem ga,i < ys.length):=fun i hi=>by rw [hym];exact zT ((iV hm hga).1 ig) hi
  have HINr:Hid (∀ x∈xs,∀ i∈mem x,i < ys.length):=fun x hx i hi=>by rw [hym];exact zT ((iV hm (hfa.all x hx)).1 (ir x hx)) hi
  have hgg:madeF gb ys ga < 18446744073709551616:=sQ hfb.all hgb
  have HGG:Hid (madeF gb ys ga=madeF gb ys ga):=rfl
  obtain ⟨gg,hggq⟩:∃ gg,madeF gb ys ga=gg:=⟨_,rfl⟩
  have HGQ:=Lib.hid hggq
  rw [hggq] at hgg HZ ⊢
  obtain ⟨i0,hi,hz0,hz1,hz2⟩:=info_parts wS
  have HT:=Lib.hid ht
  have hm0:(0:Int)≤(m:Int):=by omega
  have hm64:(m:Int)≤64:=by omega
  clear hfa hfb he hg hz hla hlb t0 t1 t2 hxm hym hggq hc1 hc2 hd sh1 ig ir HGG ht
  go_enter func100,ntmps100
  go_wp2_with fail
  refine (sP m a b capa capb ga gb xs ys _ HA.out HB.out 0 HE.out m m HLA.out HLB.out).mono ?_
  rintro e w1 ⟨rfl,hb1⟩
  have hB1:=hB0.trans (hb1.mono hB0.size)
  have U0:=Lib.hid (cG T0.out hb1);have U1:=Lib.hid (cG T1.out hb1);have U2:=Lib.hid (cG T2.out hb1)
  go_wp2_with (at_make;go_loud (refine wpList_make_full _ rfl (.tmp 20) (.tmp 20) 47 rfl w1.heap.size 46 i0 _ 1 underlying47 hi hz0 hz1 .i64 .i64 (m:Int) (m:Int) m rfl rfl rfl rfl (by rw [hz2];omega) (by unfold maxLen;omega) (Nat.le_refl _) ?_;intro w2 hown2 hgrow2;have hb2:Below w1.heap.size w1 w2:=(Below.refl _ _).grown hgrow2 (Nat.le_refl _) (fun j e=>by cases e);have V0:=Lib.hid (cG U0.out hb2);obtain ⟨c0,c1,_⟩:=bR V0.out))
  have hB2:=hB1.trans (hb2.mono hB1.size)
  have V1:=Lib.hid (cG U1.out hb2);have V2:=Lib.hid (cG U2.out hb2)
  have hw1:w.heap.size+1+1 < w1.heap.size:=(Array.getElem?_eq_some_iff.1 U2.out).1
  have HO0:Hid (w2.ownsRow w1.heap.size 46 1 (.slice (some ⟨w1.heap.size,0,none⟩) m m) m (u64s (mD (xs.map (madeF gb ys)) (List.replicate m 0) 0))):=by
   rw [qA]
   have e:u64s (List.replicate m 0)=List.replicate m (.int .u64 0):=by simp [u64s]
   have e2:(madeCells (Value.int IntKind.u64 0).cells (m * 1)).toList=List.replicate m (.int .u64 0):=by
    rw [Nat.mul_one]
    apply List.ext_getElem
    ·simp [madeCells]
    ·intro i h1 h2
     simp [madeCells,Value.cells,Nat.mod_one]
   rw [e,← e2]
   exact hown2
  clear hown2 c0 c1
  go_wp2_with fail
  go_loopw [25] (fun i wr=>∃ k:Nat,k≤m∧i = .int .i64 k∧Hid (wr.ownsRow w1.heap.size 46 1 (.slice (some ⟨w1.heap.size,0,none⟩) m m) m (u64s (mD (xs.map (madeF gb ys)) (List.replicate m 0) k)))∧Hid (wr.heap[w.heap.size]?=some (.cells #[.int .u64 (ga:Int),.slice a m capa] 49 (0,0)))∧Hid (wr.heap[w.heap.size+1]?=some (.cells #[.int .u64 (gb:Int),.slice b m capb] 49 (0,0)))∧Hid (wr.heap[w.heap.size+1+1]?=some (.cells #[.int .u64 0,.slice none 0 0] 49 (0,0)))∧Below w1.heap.size w1 wr) (fun i _=>m - (intOf i).toNat)
  case atStart=>exact ⟨0,Nat.zero_le _,rfl,HO0,V0,V1,V2,hb2⟩
  case round =>
   obtain ⟨k,hk,rfl,HO,R0,R1,R2,hb⟩:=hrel
   have HFB:=Lib.hid ((HB.out.below hb1).below hb)
   obtain ⟨d0,d1,_⟩:=bR R1.out
   by_cases hlt:k < m
   ·obtain ⟨ba,offa,x,rfl,hx,hx64,hba,a0⟩:=((HA.out.below hb1).below hb).at_ (i:=k) (by rw [HLA.out];exact hlt)
    have HXI:=Lib.hid (HINr.out x (List.mem_of_getElem? hx))
    have hxk:(List.replicate m 0)[k]?=some 0:=by simp [hlt]
    have hmx:(xs.map (madeF gb ys))[k]?=some (madeF gb ys x):=by rw [List.getElem?_map,hx];rfl
    have HM:=Lib.hid (sJ hmx hxk)
    obtain ⟨q,hq⟩:∃ q,madeF gb ys x=q:=⟨_,rfl⟩
    have HQ:=Lib.hid hq
    rw [hq] at HM
    have z0:=Lib.hid (sM (vT HOL.out hxk))
    have g0:(0:Int)≤(k:Int):=by omega
    have g3:(k:Int) < (m:Int):=by omega
    have hbw:Hid (Below w.heap.size w wr):=hB1.trans (hb.mono hB1.size)
    clear hx hq hmx hxk
    go_wp2_with fail
    refine (Es b capb gb ys x hx64 _ HFB.out HXI.out (HT.out.below hbw.out) q HQ.out m HLB.out).mono ?_
    rintro e w4 ⟨rfl,hb4⟩
    have HO4:=Lib.hid (rD HO.out hb4)
    have dd:=(HO4.out.cellAt k (by omega)).trans z0.out
    have q0:=HO4.out.frozenAt k
    have HO2:Hid ((w4.setCell ⟨w1.heap.size,k,none⟩ (.int .u64 (q:Int))).ownsRow w1.heap.size 46 1 (.slice (some ⟨w1.heap.size,0,none⟩) m m) m (u64s (mD (xs.map (madeF gb ys)) (List.replicate m 0) (k+1)))):=by
     rw [← HM.out,← sL]
     exact (HO4.out.stored k _).1
    have R0':=Lib.hid (dH (B:=w1.heap.size) (j:=k) (c:=.int .u64 (q:Int)) (cG R0.out hb4) (by omega))
    have R1':=Lib.hid (dH (B:=w1.heap.size) (j:=k) (c:=.int .u64 (q:Int)) (cG R1.out hb4) (by omega))
    have R2':=Lib.hid (dH (B:=w1.heap.size) (j:=k) (c:=.int .u64 (q:Int)) (cG R2.out hb4) (by omega))
    have hb':=(hb.trans (hb4.mono hb.size)).setCell (p:=⟨w1.heap.size,k,none⟩) (Nat.le_refl _) (.int .u64 (q:Int))
    go_wp2
    go_roundw
    case rel=>exact ⟨k+1,by omega,by go_num,HO2,R0',R1',R2',hb'⟩
    case measure=>simp [intOf];omega
   ·obtain rfl:k=m:=by omega
    have HO2:Hid (wr.ownsRow w1.heap.size 46 1 (.slice (some ⟨w1.heap.size,0,none⟩) k k) k (u64s (xs.map (madeF gb ys)))):=by
     have:=HO.out
     have e:mD (xs.map (madeF gb ys)) (List.replicate k 0) k=xs.map (madeF gb ys):=by
      have:=sK HOL.out
      rwa [List.length_replicate] at this
     rwa [e] at this
    obtain ⟨a0,a1,_⟩:=bR R0.out
    have hol100:Hid ((xs.map (madeF gb ys)).length≤100):=by show _≤_;rw [List.length_map];exact HXL.out
    have holn:Hid ((xs.map (madeF gb ys)).length=k):=by show _=_;rw [List.length_map];exact HLA.out
    have HOLT:Hid (∀ r∈xs.map (madeF gb ys),r < 18446744073709551616):=fun r hr=>by
     rw [List.mem_map] at hr
     obtain ⟨x,_,rfl⟩:=hr
     exact sQ HYA.out hgb
    have hbw:Hid (Below w.heap.size w wr):=hB1.trans (hb.mono hB1.size)
    go_wp2_with fail
    refine (Es b capb gb ys ga hga _ HFB.out HINg.out (HT.out.below hbw.out) gg HGQ.out k HLB.out).mono ?_
    rintro e w3 ⟨rfl,hb3⟩
    have hb3w:w1.heap.size≤w3.heap.size:=Nat.le_trans hb.size hb3.size
    have HO3:=Lib.hid (rD HO2.out hb3)
    have R3:=Lib.hid (cG R2.out hb3)
    go_wp2_with fail
    refine (sN gg w1.heap.size k _ (xs.map (madeF gb ys)) zs _ hgg HOLT.out hol100.out holn.out hb3w HO3.out HZ.out).mono ?_
    rintro e w4 ⟨rfl,post⟩
    have POST:=Lib.hid post
    have hB4:Below w.heap.size w w4:=(hbw.out.trans (hb3.mono hbw.out.size)).trans (post.below.mono hB1.size)
    have W2:=Lib.hid ((post.rest (w.heap.size+1+1) ((Array.getElem?_eq_some_iff.1 R3.out).1) (fun e=>by have h9:=(HO3.out.lt _ e.symm).1;omega)).trans R3.out)
    obtain ⟨p0,p1,ff⟩:=bR W2.out
    have f0:=ff 0;have f1:=ff 1
    have N1:=Lib.hid (eZ (c:=.slice (some ⟨w1.heap.size,0,none⟩) k k) (gJ (c:=.int .u64 (gg:Int)) W2.out))
    obtain ⟨s0,s1,_⟩:=bR N1.out
    have HNB:=Lib.hid (gI W2.out (by decide) POST.out.own)
    have HO5:=Lib.hid ((POST.out.own.kept (dS _ _ 0 (.int .u64 (gg:Int))) (.inr HNB.out.symm)).kept (dS _ (w.heap.size+1+1) 1 (.slice (some ⟨w1.heap.size,0,none⟩) k k)) (.inr HNB.out.symm))
    have HB5:=Lib.hid ((hB4.setCell (p:=⟨w.heap.size+1+1,0,none⟩) (by simp;omega) (.int .u64 (gg:Int))).setCell (p:=⟨w.heap.size+1+1,1,none⟩) (by simp;omega) (.slice (some ⟨w1.heap.size,0,none⟩) k k))
    clear post ff a0 a1 d0 d1
    go_wp2
    refine bodyPost_ret (v:=.tuple #[.agg #[.int .u64 (gg:Int),.slice (some ⟨w1.heap.size,0,none⟩) k k],.int .i64 0]) ?_ rfl (wW hB1.size HO5.out HB5.out 0)
    simp [results,results100,go_sem,s0,s1]
 ·obtain rfl:0=g:=by rw [← hg,vM,he,if_neg h0]
  obtain rfl:[]=zs:=by rw [← hz,uC,he,if_neg h0]
  have hne:(e0 != 0)=true:=by simpa using h0
  clear hfa hfb he hg hz hla hlb t0 t1 t2 h0
  go_enter func100,ntmps100
  go_wp2_with fail
  refine (sP n a b capa capb ga gb xs ys _ HA.out HB.out e0 HE.out la lb HLA.out HLB.out).mono ?_
  rintro e w1 ⟨rfl,hb1⟩
  have hB1:=hB0.trans (hb1.mono hB0.size)
  have U2:=Lib.hid (cG T2.out hb1)
  obtain ⟨d0,d1,df⟩:=bR U2.out
  have f0:=df 0;have f1:=df 1
  have N1:=Lib.hid (eZ (c:=.slice none 0 0) (gJ (c:=.int .u64 0) U2.out))
  obtain ⟨s0,s1,_⟩:=bR N1.out
  clear df
  go_wp2
  refine bodyPost_ret (v:=.tuple #[.agg #[.int .u64 0,.slice none 0 0],.int .i64 e0]) ?_ rfl (sO e0 ((hB1.setCell (p:=⟨w.heap.size+1+1,0,none⟩) (by simp;omega) _).setCell (p:=⟨w.heap.size+1+1,1,none⟩) (by simp;omega) _))
  simp [results,results100,go_sem,s0,s1]
structure KeepK (w wr:World) (A B:Nat) (ca cb:Array Value):Prop where
 hA:wr.heap[A]?=some (.cells ca 49 (0,0))
 hB:wr.heap[B]?=some (.cells cb 49 (0,0))
 below:Below w.heap.size w wr
theorem KeepK.drew {w wr:World} {A B:Nat} {ca cb:Array Value} (h:KeepK w wr A B ca cb):KeepK w wr.drew A B ca cb:=⟨h.hA,h.hB,h.below.drew⟩
theorem KeepK.alloc {w wr:World} {A B:Nat} {ca cb:Array Value} (h:KeepK w wr A B ca cb) (o:Obj):KeepK w (wr.alloc o) A B ca cb:=⟨cT h.hA o,cT h.hB o,h.below.alloc h.below.size o⟩
theorem KeepK.call {w wr w':World} {A B:Nat} {ca cb:Array Value} (h:KeepK w wr A B ca cb) (hb:Below wr.heap.size wr w'):KeepK w w' A B ca cb:=⟨cG h.hA hb,cG h.hB hb,h.below.trans (hb.mono h.below.size)⟩
theorem KeepK.set {w wr:World} {A B F j:Nat} {ca cb:Array Value} (h:KeepK w wr A B ca cb) (h1:A≠F) (h2:B≠F) (h3:w.heap.size≤F) (v:Value):KeepK w (wr.setCell ⟨F,j,none⟩ v) A B ca cb:=⟨dH h.hA h1,dH h.hB h2,h.below.setCell (p:=⟨F,j,none⟩) h3 v⟩
theorem KeepK.grown {w wr w':World} {A B base n:Nat} {ca cb:Array Value} {v:Value} {xs:List Value} (h:KeepK w wr A B ca cb) (hr:wr.ownsRow base 46 1 v n xs) (hb:w.heap.size≤base) (hg:wr.grownBy w' v.ownBlock):KeepK w w' A B ca cb :=
 ⟨fJ h.hA (by decide) hr hg,fJ h.hB (by decide) hr hg,h.below.grown hg h.below.size (fun j e=>Nat.le_trans hb (hr.lt j e).1)⟩
theorem KeepK.cells {w wr:World} {A B:Nat} {u1 u2 v1 v2:Value} (h:KeepK w wr A B #[u1,u2] #[v1,v2]) {p q:Addr} {x y:Value} (hp:w.cell? p=some x) (hq:w.cell? q=some y) :
  wr.cell? ⟨A,1,none⟩=some u2∧wr.cell? p=some x∧wr.cell? ⟨B,1,none⟩=some v2∧wr.cell? q=some y :=
 ⟨(bR h.hA).2.1,(h.below.cell (iU hp)).trans hp,(bR h.hB).2.1,(h.below.cell (iU hq)).trans hq⟩
theorem Oo {xs ys:List Nat} {k x y q:Nat} (hx:xs[k]?=some x) (hy:ys[k]?=some y) (hq:x ||| y=q):(orL xs ys).take (k+1)=(orL xs ys).take k++[q]:=by
 have h2:=Ol hx hy
 rw [hq] at h2
 obtain ⟨hk,e⟩:=List.getElem?_eq_some_iff.1 h2
 rw [List.take_succ_eq_append_getElem hk,e]
set_option maxHeartbeats 20000000 in
theorem Oq (n:Int) (a b:Option Addr) (capa capb ga gb:Nat) (xs ys:List Nat) (w:World) (hfa:FAt w a ga xs) (hfb:FAt w b gb ys) (e0:Int) (he:iY n ga xs gb ys=e0) (g:Nat) (hg:oJ n ga xs gb ys=g) (zs:List Nat) (hz:nC n ga xs gb ys=zs) (la lb:Nat) (hla:xs.length=la) (hlb:ys.length=lb) :
  Calls prog 44 #[.int .i64 n,fQ ga a la capa,fQ gb b lb capb] w (Hh g zs e0 w):=by
 unfold fQ
 have hB0:Below w.heap.size w (((w.alloc (.cells #[.int .u64 (ga:Int),.slice a la capa] 49)).alloc (.cells #[.int .u64 (gb:Int),.slice b lb capb] 49)).alloc (.cells #[.int .u64 0,.slice none 0 0] 49)):=(((Below.refl _ _).alloc (Nat.le_refl _) _).alloc (by simp) _).alloc (by simp;omega) _
 have HA0:=Lib.hid hfa;have HBB0:=Lib.hid hfb
 have HA:=Lib.hid (hfa.below hB0);have HB:=Lib.hid (hfb.below hB0);have HLA:=Lib.hid hla;have HLB:=Lib.hid hlb
 obtain ⟨t0,t1,t2⟩:=mG w #[.int .u64 (ga:Int),.slice a la capa] #[.int .u64 (gb:Int),.slice b lb capb] #[.int .u64 0,.slice none 0 0] 49
 have T0:=Lib.hid t0;have T1:=Lib.hid t1;have T2:=Lib.hid t2
 have hga:=hfa.gen;have hgb:=hfb.gen
 have HXA:=Lib.hid hfa.all;have HYA:=Lib.hid hfb.all
 have HXL:=Lib.hid hfa.len
 have HE:=Lib.hid he
 by_cases h0:e0=0
 ·subst h0
  obtain ⟨m,rfl,hm,hxm,hym⟩:=qB he
  obtain rfl:m=la:=by omega
  obtain rfl:m=lb:=by omega
  obtain rfl:ga ||| gb=g:=by rw [← hg,oJ,if_pos he]
  have HZ:Hid (fI (ga ||| gb) (orL xs ys)=zs):=by show _=_;rw [← hz,nC,if_pos he]
  have HOL:Hid ((orL xs ys).length=m):=by show _=_;rw [Bu (by omega)];exact hla
  have hgg:=Oh hga hgb
  obtain ⟨gg,hggq⟩:∃ gg,ga ||| gb=gg:=⟨_,rfl⟩
  have HGQ:=Lib.hid hggq
  rw [hggq] at hgg HZ ⊢
  obtain ⟨i0,hi,hz0,hz1,hz2⟩:=info_parts wS
  clear hfa hfb he hg hz hla hlb t0 t1 t2 hxm hym hggq
  go_enter func44,ntmps44
  go_wp2_with fail
  refine (vU m a b capa capb ga gb xs ys _ HA.out HB.out 0 HE.out m m HLA.out HLB.out).mono ?_
  rintro e w1 ⟨rfl,hb1⟩
  have hB1:=hB0.trans (hb1.mono hB0.size)
  have U0:=Lib.hid (cG T0.out hb1);have U1:=Lib.hid (cG T1.out hb1);have U2:=Lib.hid (cG T2.out hb1)
  obtain ⟨c0,c1,_⟩:=bR U0.out
  obtain ⟨k0,k1,_⟩:=bR U1.out
  go_wp2_with fail
  refine (Oc ga gb gg hga hgb HGQ.out _).mono ?_
  rintro e w2 ⟨rfl,rfl⟩
  have hw1:w.heap.size+1+1 < w1.heap.size:=(Array.getElem?_eq_some_iff.1 U2.out).1
  have UF:=Lib.hid (dG w1 (.cells #[.int .u64 (gg:Int),.slice none 0 0] 49))
  have K0:Hid (KeepK w (w1.alloc (.cells #[.int .u64 (gg:Int),.slice none 0 0] 49)) w.heap.size (w.heap.size+1) #[.int .u64 (ga:Int),.slice a m capa] #[.int .u64 (gb:Int),.slice b m capb]):=KeepK.alloc ⟨U0.out,U1.out,hB1⟩ _
  have S0:=Lib.hid (cT U2.out (.cells #[.int .u64 (gg:Int),.slice none 0 0] 49))
  obtain ⟨F,hF⟩:∃ F,w1.heap.size=F:=⟨_,rfl⟩
  have HFL:Hid ((w1.alloc (.cells #[.int .u64 (gg:Int),.slice none 0 0] 49)).heap.size=F+1):=by show _=_;rw [World.size_alloc,hF]
  rw [hF] at UF hw1
  clear c0 c1 k0 k1
  go_wp2_with fail
  go_loopw [10] (fun i wr=>∃ (k:Nat) (v:Value),k≤m∧i = .int .i64 k∧Hid (KeepK w wr w.heap.size (w.heap.size+1) #[.int .u64 (ga:Int),.slice a m capa] #[.int .u64 (gb:Int),.slice b m capb])∧Hid (wr.heap[w.heap.size+1+1]?=some (.cells #[.int .u64 0,.slice none 0 0] 49 (0,0)))∧Hid (wr.heap[F]?=some (.cells #[.int .u64 (gg:Int),v] 49 (0,0)))∧Hid (wr.ownsRow F 46 1 v k (u64s ((orL xs ys).take k)))∧F≤wr.heap.size) (fun i _=>m - (intOf i).toNat)
  case atStart=>exact ⟨0,.slice none 0 0,Nat.zero_le _,rfl,K0,S0,UF,World.ownsRow_nil _ _ _ _,by have:=HFL.out;omega⟩
  case round =>
   obtain ⟨k,v,hk,rfl,K,R2,RF,HO,hFw⟩:=hrel
   obtain ⟨f0,f1,ff⟩:=bR RF.out
   have ff1:=ff 1
   by_cases hlt:k < m
   ·obtain ⟨ba,offa,x,rfl,hx,hx64,hba,a0⟩:=HA0.out.at_ (i:=k) (by rw [HLA.out];exact hlt)
    obtain ⟨bb,offb,y,rfl,hy,hy64,hbb,b0⟩:=HBB0.out.at_ (i:=k) (by rw [HLB.out];exact hlt)
    obtain ⟨q,hq⟩:∃ q,x ||| y=q:=⟨_,rfl⟩
    have HQ:=Lib.hid hq
    have HT:=Lib.hid (Oo hx hy hq)
    have A0:=Lib.hid a0;have B0:=Lib.hid b0
    have g0:(0:Int)≤(k:Int):=by omega
    have g1:(k:Int) < (m:Int):=by omega
    have q1:(wr.alloc (.cells #[.int .u64 (q:Int)] 46)).cell? ⟨F,1,none⟩=some v:=(bR (cT RF.out _)).2.1
    have KA:=Lib.hid (K.out.drew.alloc (.cells #[.int .u64 (q:Int)] 46))
    obtain ⟨s1,s2,s3,s4⟩:=K.out.cells a0 b0
    clear hx hy hq ff a0 b0
    go_wp2_with fail
    go_region_law (first | (refine step_append_lies (wr.drew.alloc (.cells #[.int .u64 (q:Int)] 46)) ?_ (.tmp 31) (.tmp 43) 47 ?_ F 46 i0 _ 1 8 underlying47 hi hz0 hz1 hz2 ?_ ?_ v k (u64s ((orL xs ys).take k)) ?_ ?_ ⟨wr.heap.size,0,none⟩ 1 1 [.int .u64 (q:Int)] ?_ ?_ ?_ ?_ ?_ ?_ ?_ ?_ (wr.heap.size+1) ?_ ?_;rfl;rfl;rfl;omega;rfl;exact (HO.out:(wr.drew).ownsRow _ _ _ _ _ _).alloc _;rfl;rfl;exact (World.news_of_block (cs:=#[.int .u64 (q:Int)]) (t:=46) (fr:=(0,0)) (dG wr.drew _));simp [Value.oneCell'];omega;(unfold maxLen;omega);omega;(simp;omega);simp;intro gg9 cp w5 hown1 hgrow hat hlt5;have HOA:=Lib.hid ((HO.out:(wr.drew).ownsRow _ _ _ _ _ _).alloc (.cells #[.int .u64 (q:Int)] 46));have K5:=Lib.hid (KA.out.grown HOA.out (by omega) hgrow);have D2:=Lib.hid (fJ (cT (w:=wr.drew) R2.out (.cells #[.int .u64 (q:Int)] 46)) (by decide) HOA.out hgrow);have DF:=Lib.hid (fJ (cT (w:=wr.drew) RF.out (.cells #[.int .u64 (q:Int)] 46)) (by decide) HOA.out hgrow);have hs5:=hgrow.size;obtain ⟨_,d1,df⟩:=bR DF.out;have df1:=df 1;clear df) | (go_simp;go_at_call 64;refine (Oc x y q hx64 hy64 HQ.out _).mono ?_;rintro e w3 ⟨rfl,rfl⟩) | fail)
    all_goals
     have hsl:Hid (F≤w5.heap.size):=by show _≤_;simp at hs5;omega
     have HO5:=Lib.hid (show (w5.setCell ⟨F,1,none⟩ (.slice (some ⟨gg9,0,none⟩) (k+1) cp)).ownsRow F 46 1 (.slice (some ⟨gg9,0,none⟩) (k+1) cp) (k+1) (u64s ((orL xs ys).take (k+1))) by
      rw [HT.out,pV];exact hown1.kept (dS w5 _ _ _) (.inr (gI DF.out (by decide) hown1).symm))
     have N2:=Lib.hid (dH (B:=F) (j:=1) (c:=.slice (some ⟨gg9,0,none⟩) (k+1) cp) D2.out (by omega))
     have NF:=Lib.hid (eZ (c:=.slice (some ⟨gg9,0,none⟩) (k+1) cp) DF.out)
     have NK:=Lib.hid (K5.out.set (F:=F) (j:=1) (by omega) (by omega) (by omega) (.slice (some ⟨gg9,0,none⟩) (k+1) cp))
     clear hown1 hgrow hat d1 df1 q1 s1 s2 s3 s4 f0 f1 ff1 hs5
     go_wp2
     go_roundw
     case rel=>exact ⟨k+1,_,by omega,by go_num,NK,N2,NF,HO5,by have:=hsl.out;simpa [World.setCell] using this⟩
     case measure=>simp [intOf];omega
   ·obtain rfl:k=m:=by omega
    have HO2:Hid (wr.ownsRow F 46 1 v k (u64s (orL xs ys))):=by
     have:=HO.out
     rwa [List.take_of_length_le (by rw [HOL.out];exact Nat.le_refl _)] at this
    obtain ⟨hvn,a3,cap3,hv3,hr3,hf3⟩:=fP.of_own HO2.out
    have hol:(u64s (orL xs ys)).length=k:=hvn.symm
    rw [hol] at hv3
    subst hv3
    have holn:(orL xs ys).length=k:=by rw [← hol,fE]
    have hfat:FAt wr a3 gg (orL xs ys):=⟨hr3,hgg,Om HXA.out HYA.out,by rw [holn,← HLA.out];exact HXL.out⟩
    have can:∀ (W:World),FAt W a3 gg (orL xs ys)→Calls prog 65 #[.agg #[.int .u64 (gg:Int),.slice a3 k cap3]] W (FOne gg zs W):=fun W hW=>by
     have:=uA a3 cap3 gg (orL xs ys) W hW zs HZ.out
     rwa [holn] at this
    have HCAN:=Lib.hid can;have HFAT:=Lib.hid hfat
    have hrel:=K.out.below
    have hsz:w.heap.size≤wr.heap.size:=hrel.size
    have R3:=R2
    clear hvn hr3 hf3 hol holn hfat can ff ff1
    go_wp2_with fail
    refine (HCAN.out _ HFAT.out).mono ?_
    rintro e w4 ⟨a4,cap4,rfl,hr4,hf4,hb4⟩
    unfold fQ
    have hB4:=hrel.trans (hb4.mono hrel.size)
    have U4:=Lib.hid (cG R3.out hb4)
    obtain ⟨k0,k1,df⟩:=bR U4.out
    have y0:=df 0;have y1:=df 1
    have N1:=Lib.hid (eZ (c:=.slice a4 zs.length cap4) (gJ (c:=.int .u64 (gg:Int)) U4.out))
    obtain ⟨s0,s1,_⟩:=bR N1.out
    have hne:∀ ad,a4=some ad→ad.block≠w.heap.size+1+1:=fun ad e=>by
     have h1:=(hf4 ad e).1
     omega
    have NR:=Lib.hid (mZ (mZ hr4 (B:=w.heap.size+1+1) (j:=0) (v:=.int .u64 (gg:Int)) hne) (B:=w.heap.size+1+1) (j:=1) (v:=.slice a4 zs.length cap4) hne)
    have HF4:=Lib.hid hf4
    clear df hr4 hf4 hne
    go_wp2
    refine bodyPost_ret (v:=.tuple #[.agg #[.int .u64 (gg:Int),.slice a4 zs.length cap4],.int .i64 0]) ?_ rfl ⟨a4,cap4,rfl,NR.out,fun ad e=>⟨Nat.le_trans hsz (HF4.out ad e).1,by simpa [World.setCell] using (HF4.out ad e).2⟩,(hB4.setCell (p:=⟨w.heap.size+1+1,0,none⟩) (by simp;omega) _).setCell (p:=⟨w.heap.size+1+1,1,none⟩) (by simp;omega) _⟩
    simp [results,results44,go_sem,s0,s1]
 ·obtain rfl:0=g:=by rw [← hg,oJ,he,if_neg h0]
  obtain rfl:[]=zs:=by rw [← hz,nC,he,if_neg h0]
  have hne:(e0 != 0)=true:=by simpa using h0
  clear hfa hfb he hg hz hla hlb t0 t1 t2 h0
  go_enter func44,ntmps44
  go_wp2_with fail
  refine (vU n a b capa capb ga gb xs ys _ HA.out HB.out e0 HE.out la lb HLA.out HLB.out).mono ?_
  rintro e w1 ⟨rfl,hb1⟩
  have hB1:=hB0.trans (hb1.mono hB0.size)
  have U2:=Lib.hid (cG T2.out hb1)
  obtain ⟨d0,d1,df⟩:=bR U2.out
  have f0:=df 0;have f1:=df 1
  have N1:=Lib.hid (eZ (c:=.slice none 0 0) (gJ (c:=.int .u64 0) U2.out))
  obtain ⟨s0,s1,_⟩:=bR N1.out
  clear df
  go_wp2
  refine bodyPost_ret (v:=.tuple #[.agg #[.int .u64 0,.slice none 0 0],.int .i64 e0]) ?_ rfl (sO e0 ((hB1.setCell (p:=⟨w.heap.size+1+1,0,none⟩) (by simp;omega) _).setCell (p:=⟨w.heap.size+1+1,1,none⟩) (by simp;omega) _))
  simp [results,results44,go_sem,s0,s1]
theorem KeepK.cells4 {w wr:World} {A B:Nat} {u1 u2 v1 v2:Value} (h:KeepK w wr A B #[u1,u2] #[v1,v2]) {p:Addr} {x:Value} (hp:w.cell? p=some x) :
  wr.cell? ⟨A,1,none⟩=some u2∧wr.cell? p=some x∧wr.cell? ⟨B,0,none⟩=some v1∧wr.cell? ⟨B,1,none⟩=some v2 :=
 ⟨(bR h.hA).2.1,(h.below.cell (iU hp)).trans hp,(bR h.hB).1,(bR h.hB).2.1⟩
theorem map_take {f:Nat→Nat} {xs:List Nat} {k x q:Nat} (hx:xs[k]?=some x) (hq:f x=q):(xs.map f).take (k+1)=(xs.map f).take k++[q]:=by
 have h2:(xs.map f)[k]?=some q:=by rw [List.getElem?_map,hx,← hq];rfl
 obtain ⟨hk,e⟩:=List.getElem?_eq_some_iff.1 h2
 rw [List.take_succ_eq_append_getElem hk,e]
set_option maxHeartbeats 20000000 in
theorem extR_is (n:Int) (a b:Option Addr) (capa capb ga gb:Nat) (xs ys:List Nat) (w:World) (hfa:FAt w a ga xs) (hfb:FAt w b gb ys) (e0:Int) (he:iY n ga xs gb ys=e0) (g:Nat) (hg:vM n ga xs gb ys=g) (zs:List Nat) (hz:uC n ga xs gb ys=zs) (la lb:Nat) (hla:xs.length=la) (hlb:ys.length=lb) :
  Calls prog 55 #[.int .i64 n,fQ ga a la capa,fQ gb b lb capb] w (Hh g zs e0 w):=by
 unfold fQ
 have hB0:Below w.heap.size w (((w.alloc (.cells #[.int .u64 (ga:Int),.slice a la capa] 49)).alloc (.cells #[.int .u64 (gb:Int),.slice b lb capb] 49)).alloc (.cells #[.int .u64 0,.slice none 0 0] 49)):=(((Below.refl _ _).alloc (Nat.le_refl _) _).alloc (by simp) _).alloc (by simp;omega) _
 have HA0:=Lib.hid hfa;have HBB0:=Lib.hid hfb
 have HA:=Lib.hid (hfa.below hB0);have HB:=Lib.hid (hfb.below hB0);have HLA:=Lib.hid hla;have HLB:=Lib.hid hlb
 obtain ⟨t0,t1,t2⟩:=mG w #[.int .u64 (ga:Int),.slice a la capa] #[.int .u64 (gb:Int),.slice b lb capb] #[.int .u64 0,.slice none 0 0] 49
 have T0:=Lib.hid t0;have T1:=Lib.hid t1;have T2:=Lib.hid t2
 have hga:=hfa.gen;have hgb:=hfb.gen
 have HXA:=Lib.hid hfa.all;have HYA:=Lib.hid hfb.all
 have HXL:=Lib.hid hfa.len
 have HE:=Lib.hid he
 by_cases h0:e0=0
 ·subst h0
  obtain ⟨m,rfl,hm,hxm,hym⟩:=qB he
  obtain rfl:m=la:=by omega
  obtain rfl:m=lb:=by omega
  obtain rfl:madeF gb ys ga=g:=by rw [← hg,vM,if_pos he]
  have HZ:Hid (fI (madeF gb ys ga) (xs.map (madeF gb ys))=zs):=by show _=_;rw [← hz,uC,if_pos he]
  have HOL:Hid ((xs.map (madeF gb ys)).length=m):=by show _=_;rw [List.length_map];exact hla
  obtain ⟨hc1,hc2⟩:=wY he
  obtain ⟨_,sh1,_⟩:=nB hc1
  rw [Int.toNat_natCast] at sh1
  obtain ⟨_,ig,ir⟩:=lS sh1
  have HINg:Hid (ga < 2 ^ ys.length):=by show _ < _;rw [hym];exact (iV hm hga).1 ig
  have HINr:Hid (∀ x∈xs,x < 2 ^ ys.length):=fun x hx=>by rw [hym];exact (iV hm (hfa.all x hx)).1 (ir x hx)
  have HY64:Hid (ys.length≤64):=by show _≤_;omega
  have hgg:madeF gb ys ga < 18446744073709551616:=sQ hfb.all hgb
  obtain ⟨gg,hggq⟩:∃ gg,madeF gb ys ga=gg:=⟨_,rfl⟩
  have HGQ:=Lib.hid hggq
  rw [hggq] at hgg HZ ⊢
  obtain ⟨i0,hi,hz0,hz1,hz2⟩:=info_parts wS
  clear hfa hfb he hg hz hla hlb t0 t1 t2 hxm hym hggq hc1 hc2 sh1 ig ir
  go_enter func55,ntmps55
  go_wp2_with fail
  refine (vU m a b capa capb ga gb xs ys _ HA.out HB.out 0 HE.out m m HLA.out HLB.out).mono ?_
  rintro e w1 ⟨rfl,hb1⟩
  have hB1:=hB0.trans (hb1.mono hB0.size)
  have U0:=Lib.hid (cG T0.out hb1);have U1:=Lib.hid (cG T1.out hb1);have U2:=Lib.hid (cG T2.out hb1)
  obtain ⟨c0,c1,_⟩:=bR U0.out
  obtain ⟨k0,k1,_⟩:=bR U1.out
  go_wp2_with fail
  refine (Et b capb gb ys ga HINg.out HY64.out _ (HB.out.below hb1) gg HGQ.out m HLB.out).mono ?_
  rintro e w2 ⟨rfl,hb2⟩
  have U0:=Lib.hid (cG U0.out hb2);have U1:=Lib.hid (cG U1.out hb2);have U2:=Lib.hid (cG U2.out hb2)
  have hB1:=hB1.trans (hb2.mono hB1.size)
  have hw1:w.heap.size+1+1 < w2.heap.size:=(Array.getElem?_eq_some_iff.1 U2.out).1
  have UF:=Lib.hid (dG w2 (.cells #[.int .u64 (gg:Int),.slice none 0 0] 49))
  have K0:Hid (KeepK w (w2.alloc (.cells #[.int .u64 (gg:Int),.slice none 0 0] 49)) w.heap.size (w.heap.size+1) #[.int .u64 (ga:Int),.slice a m capa] #[.int .u64 (gb:Int),.slice b m capb]):=KeepK.alloc ⟨U0.out,U1.out,hB1⟩ _
  have S0:=Lib.hid (cT U2.out (.cells #[.int .u64 (gg:Int),.slice none 0 0] 49))
  obtain ⟨F,hF⟩:∃ F,w2.heap.size=F:=⟨_,rfl⟩
  have HFL:Hid ((w2.alloc (.cells #[.int .u64 (gg:Int),.slice none 0 0] 49)).heap.size=F+1):=by show _=_;rw [World.size_alloc,hF]
  rw [hF] at UF hw1
  clear c0 c1 k0 k1
  go_wp2_with fail
  go_loopw [10] (fun i wr=>∃ (k:Nat) (v:Value),k≤m∧i = .int .i64 k∧Hid (KeepK w wr w.heap.size (w.heap.size+1) #[.int .u64 (ga:Int),.slice a m capa] #[.int .u64 (gb:Int),.slice b m capb])∧Hid (wr.heap[w.heap.size+1+1]?=some (.cells #[.int .u64 0,.slice none 0 0] 49 (0,0)))∧Hid (wr.heap[F]?=some (.cells #[.int .u64 (gg:Int),v] 49 (0,0)))∧Hid (wr.ownsRow F 46 1 v k (u64s ((xs.map (madeF gb ys)).take k)))∧F≤wr.heap.size) (fun i _=>m - (intOf i).toNat)
  case atStart=>exact ⟨0,.slice none 0 0,Nat.zero_le _,rfl,K0,S0,UF,World.ownsRow_nil _ _ _ _,by have:=HFL.out;omega⟩
  case round =>
   obtain ⟨k,v,hk,rfl,K,R2,RF,HO,hFw⟩:=hrel
   obtain ⟨f0,f1,ff⟩:=bR RF.out
   have ff1:=ff 1
   by_cases hlt:k < m
   ·obtain ⟨ba,offa,x,rfl,hx,hx64,hba,a0⟩:=HA0.out.at_ (i:=k) (by rw [HLA.out];exact hlt)
    obtain ⟨q,hq⟩:∃ q,madeF gb ys x=q:=⟨_,rfl⟩
    have HQ:=Lib.hid hq
    have HT:=Lib.hid (map_take hx hq)
    have HX2:=Lib.hid (HINr.out x (List.mem_of_getElem? hx))
    have A0:=Lib.hid a0
    have g0:(0:Int)≤(k:Int):=by omega
    have g1:(k:Int) < (m:Int):=by omega
    obtain ⟨s1,s2,s3,s4⟩:=K.out.cells4 a0
    clear hx hq ff a0
    go_wp2_with fail
    go_region_law (first | (refine step_append_lies (w3.alloc (.cells #[.int .u64 (q:Int)] 46)) ?_ (.tmp 30) (.tmp 38) 47 ?_ F 46 i0 _ 1 8 underlying47 hi hz0 hz1 hz2 ?_ ?_ v k (u64s ((xs.map (madeF gb ys)).take k)) ?_ ?_ ⟨w3.heap.size,0,none⟩ 1 1 [.int .u64 (q:Int)] ?_ ?_ ?_ ?_ ?_ ?_ ?_ ?_ (w3.heap.size+1) ?_ ?_;rfl;rfl;rfl;omega;rfl;exact HO3.out.alloc _;rfl;rfl;exact (World.news_of_block (cs:=#[.int .u64 (q:Int)]) (t:=46) (fr:=(0,0)) (dG w3 _));simp [Value.oneCell'];omega;(unfold maxLen;omega);omega;(simp;omega);simp;intro gg9 cp w5 hown1 hgrow hat hlt5;have HOA:=Lib.hid (HO3.out.alloc (.cells #[.int .u64 (q:Int)] 46));have K5:=Lib.hid (KA.out.grown HOA.out (by omega) hgrow);have D2:=Lib.hid (fJ (cT R23.out (.cells #[.int .u64 (q:Int)] 46)) (by decide) HOA.out hgrow);have DF:=Lib.hid (fJ (cT RF3.out (.cells #[.int .u64 (q:Int)] 46)) (by decide) HOA.out hgrow);have hs5:=hgrow.size;obtain ⟨_,d1,df⟩:=bR DF.out;have df1:=df 1;clear df) | (go_simp;go_at_call 74;refine (Et b capb gb ys x HX2.out HY64.out _ (by first | exact HBB0.out.below K.out.drew.below | exact HBB0.out.below K.out.below) q HQ.out m HLB.out).mono ?_;rintro e w3 ⟨rfl,hb3⟩;have K3:=Lib.hid (K.out.drew.call hb3);have R23:=Lib.hid (cG (w:=wr.drew) R2.out hb3);have RF3:=Lib.hid (cG (w:=wr.drew) RF.out hb3);have HO3:=Lib.hid (rD (w:=wr.drew) HO.out hb3);have hFw3:F≤w3.heap.size:=Nat.le_trans hFw hb3.size;have x1:=(bR RF3.out).2.1;have q1:=(bR (cT RF3.out (.cells #[.int .u64 (q:Int)] 46))).2.1;have KA:=Lib.hid (K3.out.alloc (.cells #[.int .u64 (q:Int)] 46))) | fail)
    all_goals
     have hsl:Hid (F≤w5.heap.size):=by show _≤_;simp at hs5;omega
     have HO5:=Lib.hid (show (w5.setCell ⟨F,1,none⟩ (.slice (some ⟨gg9,0,none⟩) (k+1) cp)).ownsRow F 46 1 (.slice (some ⟨gg9,0,none⟩) (k+1) cp) (k+1) (u64s ((xs.map (madeF gb ys)).take (k+1))) by
      rw [HT.out,pV];exact hown1.kept (dS w5 _ _ _) (.inr (gI DF.out (by decide) hown1).symm))
     have N2:=Lib.hid (dH (B:=F) (j:=1) (c:=.slice (some ⟨gg9,0,none⟩) (k+1) cp) D2.out (by omega))
     have NF:=Lib.hid (eZ (c:=.slice (some ⟨gg9,0,none⟩) (k+1) cp) DF.out)
     have NK:=Lib.hid (K5.out.set (F:=F) (j:=1) (by omega) (by omega) (by omega) (.slice (some ⟨gg9,0,none⟩) (k+1) cp))
     clear hown1 hgrow hat d1 df1 q1 x1 s1 s2 s3 s4 f0 f1 ff1 hs5 hb3
     go_wp2
     go_roundw
     case rel=>exact ⟨k+1,_,by omega,by go_num,NK,N2,NF,HO5,by have:=hsl.out;simpa [World.setCell] using this⟩
     case measure=>simp [intOf];omega
   ·obtain rfl:k=m:=by omega
    have HO2:Hid (wr.ownsRow F 46 1 v k (u64s (xs.map (madeF gb ys)))):=by
     have:=HO.out
     rwa [List.take_of_length_le (by rw [HOL.out];exact Nat.le_refl _)] at this
    obtain ⟨hvn,a3,cap3,hv3,hr3,hf3⟩:=fP.of_own HO2.out
    have hol:(u64s (xs.map (madeF gb ys))).length=k:=hvn.symm
    rw [hol] at hv3
    subst hv3
    have HMLT:Hid (∀ r∈xs.map (madeF gb ys),r < 18446744073709551616):=fun r hr=>by obtain ⟨x,_,e⟩:=List.mem_map.1 hr;rw [← e];exact sQ HYA.out hgb
    have holn:(xs.map (madeF gb ys)).length=k:=by rw [← hol,fE]
    have hfat:FAt wr a3 gg (xs.map (madeF gb ys)):=⟨hr3,hgg,HMLT.out,by rw [holn,← HLA.out];exact HXL.out⟩
    have can:∀ (W:World),FAt W a3 gg (xs.map (madeF gb ys))→Calls prog 65 #[.agg #[.int .u64 (gg:Int),.slice a3 k cap3]] W (FOne gg zs W):=fun W hW=>by
     have:=uA a3 cap3 gg (xs.map (madeF gb ys)) W hW zs HZ.out
     rwa [holn] at this
    have HCAN:=Lib.hid can;have HFAT:=Lib.hid hfat
    have hrel:=K.out.below
    have hsz:w.heap.size≤wr.heap.size:=hrel.size
    have R3:=R2
    clear hvn hr3 hf3 hol holn hfat can ff ff1
    go_wp2_with fail
    refine (HCAN.out _ HFAT.out).mono ?_
    rintro e w4 ⟨a4,cap4,rfl,hr4,hf4,hb4⟩
    unfold fQ
    have hB4:=hrel.trans (hb4.mono hrel.size)
    have U4:=Lib.hid (cG R3.out hb4)
    obtain ⟨k0,k1,df⟩:=bR U4.out
    have y0:=df 0;have y1:=df 1
    have N1:=Lib.hid (eZ (c:=.slice a4 zs.length cap4) (gJ (c:=.int .u64 (gg:Int)) U4.out))
    obtain ⟨s0,s1,_⟩:=bR N1.out
    have hne:∀ ad,a4=some ad→ad.block≠w.heap.size+1+1:=fun ad e=>by
     have h1:=(hf4 ad e).1
     omega
    have NR:=Lib.hid (mZ (mZ hr4 (B:=w.heap.size+1+1) (j:=0) (v:=.int .u64 (gg:Int)) hne) (B:=w.heap.size+1+1) (j:=1) (v:=.slice a4 zs.length cap4) hne)
    have HF4:=Lib.hid hf4
    clear df hr4 hf4 hne
    go_wp2
    refine bodyPost_ret (v:=.tuple #[.agg #[.int .u64 (gg:Int),.slice a4 zs.length cap4],.int .i64 0]) ?_ rfl ⟨a4,cap4,rfl,NR.out,fun ad e=>⟨Nat.le_trans hsz (HF4.out ad e).1,by simpa [World.setCell] using (HF4.out ad e).2⟩,(hB4.setCell (p:=⟨w.heap.size+1+1,0,none⟩) (by simp;omega) _).setCell (p:=⟨w.heap.size+1+1,1,none⟩) (by simp;omega) _⟩
    simp [results,results55,go_sem,s0,s1]
 ·obtain rfl:0=g:=by rw [← hg,vM,he,if_neg h0]
  obtain rfl:[]=zs:=by rw [← hz,uC,he,if_neg h0]
  have hne:(e0 != 0)=true:=by simpa using h0
  clear hfa hfb he hg hz hla hlb t0 t1 t2 h0
  go_enter func55,ntmps55
  go_wp2_with fail
  refine (vU n a b capa capb ga gb xs ys _ HA.out HB.out e0 HE.out la lb HLA.out HLB.out).mono ?_
  rintro e w1 ⟨rfl,hb1⟩
  have hB1:=hB0.trans (hb1.mono hB0.size)
  have U2:=Lib.hid (cG T2.out hb1)
  obtain ⟨d0,d1,df⟩:=bR U2.out
  have f0:=df 0;have f1:=df 1
  have N1:=Lib.hid (eZ (c:=.slice none 0 0) (gJ (c:=.int .u64 0) U2.out))
  obtain ⟨s0,s1,_⟩:=bR N1.out
  clear df
  go_wp2
  refine bodyPost_ret (v:=.tuple #[.agg #[.int .u64 0,.slice none 0 0],.int .i64 e0]) ?_ rfl (sO e0 ((hB1.setCell (p:=⟨w.heap.size+1+1,0,none⟩) (by simp;omega) _).setCell (p:=⟨w.heap.size+1+1,1,none⟩) (by simp;omega) _))
  simp [results,results55,go_sem,s0,s1]
def Eu (gen:Nat) (rows:List Nat) (err:Int) (w:World) (e:Ending) (w':World):Prop :=
 ∃ v,e = .returned (.tuple #[.agg #[.int .u64 (gen:Int),v],.int .i64 err])∧w'.ownsRow w.heap.size 46 1 v rows.length (u64s rows)∧Below w.heap.size w w'
theorem Ev {w w':World} (err:Int) (hb:Below w.heap.size w w'):Eu 0 [] err w (.returned (.tuple #[.agg #[.int .u64 0,.slice none 0 0],.int .i64 err])) w' :=
 ⟨_,rfl,World.ownsRow_nil _ _ _ _,hb⟩
theorem Ew {w w':World} {gen n:Nat} {v:Value} {rows:List Nat} (h:w'.ownsRow w.heap.size 46 1 v n (u64s rows)) (hb:Below w.heap.size w w') (err:Int):Eu gen rows err w (.returned (.tuple #[.agg #[.int .u64 (gen:Int),v],.int .i64 err])) w':=by
 have hn:n=rows.length:=by have:=h.1;rw [fE] at this;omega
 subst hn
 exact ⟨v,rfl,h,hb⟩
theorem Eu.ret {gen:Nat} {rows:List Nat} {err:Int} {w w':World} {e:Ending} (h:Eu gen rows err w e w'):Hh gen rows err w e w':=by
 obtain ⟨v,rfl,ho,hb⟩:=h
 exact wW (Nat.le_refl _) ho hb err
def iZ (m:Nat):List Nat:=(List.range m).map fun i=>2 ^ i
theorem kW (m:Nat):(iZ m).length=m:=by simp [iZ]
theorem Ex {m k:Nat} (h:k < m):(iZ m)[k]?=some (2 ^ k):=by
 unfold iZ
 rw [List.getElem?_map,List.getElem?_range h];rfl
def Ey (n:Int):List Nat:=if fH n=true then iZ n.toNat else []
def Ez (n:Int):Int:=if fH n=true then 0 else 31
set_option maxHeartbeats 2000000 in
theorem oneA_is (n:Int) (w:World) (e0:Int) (he:Ez n=e0) (ys:List Nat) (hys:Ey n=ys) :
  Calls prog 95 #[.int .i64 n] w (Eu 0 ys e0 w):=by
 have hB0:Below w.heap.size w (w.alloc (.cells #[.int .u64 0,.slice none 0 0] 49)):=(Below.refl _ _).alloc (Nat.le_refl _) _
 have T0:=Lib.hid (dG w (.cells #[.int .u64 0,.slice none 0 0] 49))
 obtain ⟨i0,hi,hz0,hz1,hz2⟩:=info_parts wS
 cases hd:fH n
 ·obtain rfl:31=e0:=by rw [← he,Ez,hd];rfl
  obtain rfl:[]=ys:=by rw [← hys,Ey,hd];rfl
  obtain ⟨d0,d1,df⟩:=bR T0.out
  have f0:=df 0;have f1:=df 1
  have hx:n < 0∨64 < n:=by
   by_cases h:n < 0
   ·exact .inl h
   ·simp [fH,show 0≤n by omega] at hd;exact .inr hd
  clear df hd he hys
  rcases hx with hx | hx
  all_goals
   go_enter func95,ntmps95
   go_wp2
   refine bodyPost_ret (v:=.tuple #[.agg #[.int .u64 0,.slice none 0 0],.int .i64 31]) ?_ rfl (Ev 31 hB0)
   simp [results,results95,go_sem,d0,d1]
 ·obtain ⟨m,rfl,hm⟩:=nP hd
  obtain rfl:0=e0:=by rw [← he,Ez,hd];rfl
  have HY:Hid (iZ m=ys):=by show _=_;rw [← hys,Ey,hd,if_pos rfl,Int.toNat_natCast]
  have hm0:(0:Int)≤(m:Int):=by omega
  have hm64:(m:Int)≤64:=by omega
  clear hd he hys
  go_enter func95,ntmps95
  go_wp2_with (at_make;go_loud (refine wpList_make_full _ rfl (.tmp 13) (.tmp 13) 47 rfl w.heap.size 46 i0 _ 1 underlying47 hi hz0 hz1 .i64 .i64 (m:Int) (m:Int) m rfl rfl rfl rfl (by rw [hz2];omega) (by unfold maxLen;omega) hB0.size ?_;intro w2 hown2 hgrow2))
  have hbl:(w.alloc (.cells #[.int .u64 0,.slice none 0 0] 49)).heap.size=w.heap.size+1:=by simp
  have hzz:Hid (w2.ownsRow w.heap.size 46 1 (.slice (some ⟨w.heap.size+1,0,none⟩) m m) m (u64s (mD (iZ m) (List.replicate m 0) 0))):=by
   rw [qA,← hbl]
   have e:u64s (List.replicate m 0)=List.replicate m (.int .u64 0):=by simp [u64s]
   have e2:(madeCells (Value.int IntKind.u64 0).cells (m * 1)).toList=List.replicate m (.int .u64 0):=by
    rw [Nat.mul_one]
    apply List.ext_getElem
    ·simp [madeCells]
    ·intro i h1 h2
     simp [madeCells,Value.cells,Nat.mod_one]
   rw [e,← e2]
   exact hown2
  have U0:=Lib.hid ((hgrow2.block _ (Array.getElem?_eq_some_iff.1 T0.out).1 (by simp)).trans T0.out)
  have hB2:Below w.heap.size w w2:=hB0.grown hgrow2 hB0.size (fun j e=>by cases e)
  clear hown2
  go_wp2_with fail
  go_loopw [17] (fun i wr=>∃ k:Nat,k≤m∧i = .int .i64 k∧Hid (wr.ownsRow w.heap.size 46 1 (.slice (some ⟨w.heap.size+1,0,none⟩) m m) m (u64s (mD (iZ m) (List.replicate m 0) k)))∧Hid (wr.heap[w.heap.size]?=some (.cells #[.int .u64 0,.slice none 0 0] 49 (0,0)))∧Below w.heap.size w wr) (fun i _=>m - (intOf i).toNat)
  case atStart=>exact ⟨0,Nat.zero_le _,rfl,hzz,U0,hB2⟩
  case round =>
   obtain ⟨k,hk,rfl,HO,HR,hb⟩:=hrel
   by_cases hlt:k < m
   ·have hsh:IntKind.u64.wrap ((2:Int) ^ k)=((2 ^ k:Nat):Int):=by
     have hpw:2 ^ k≤9223372036854775808:=sH (by omega)
     rw [IntKind.wrap_u64]
     have e:((2:Int) ^ k)=((2 ^ k:Nat):Int):=by simp
     rw [e]
     generalize 2 ^ k=q at *
     omega
    have hxk:(List.replicate m 0)[k]?=some 0:=by simp [hlt]
    have HM:=Lib.hid (sJ (Ex hlt) hxk)
    obtain ⟨q,hq⟩:∃ q:Nat,2 ^ k=q:=⟨_,rfl⟩
    rw [hq] at hsh HM
    have q0:=HO.out.frozenAt k
    have d0:=(HO.out.cellAt k (by omega)).trans (sM (vT (by rw [kW];simp) hxk))
    have g0:(0:Int)≤(k:Int):=by omega
    have g3:(k:Int) < (m:Int):=by omega
    have HO2:Hid ((wr.setCell ⟨w.heap.size+1,k,none⟩ (.int .u64 (q:Int))).ownsRow w.heap.size 46 1 (.slice (some ⟨w.heap.size+1,0,none⟩) m m) m (u64s (mD (iZ m) (List.replicate m 0) (k+1)))):=by
     rw [← HM.out,← sL]
     exact (HO.out.stored k _).1
    have HR2:=Lib.hid (dH (B:=w.heap.size+1) (j:=k) (c:=.int .u64 (q:Int)) HR.out (by omega))
    have hb2:=hb.setCell (p:=⟨w.heap.size+1,k,none⟩) (by simp) (.int .u64 (q:Int))
    clear hxk hq
    go_wp2
    go_roundw
    case rel=>exact ⟨k+1,by omega,by go_num,HO2,HR2,hb2⟩
    case measure=>simp [intOf];omega
   ·obtain rfl:k=m:=by omega
    have HO2:Hid (wr.ownsRow w.heap.size 46 1 (.slice (some ⟨w.heap.size+1,0,none⟩) k k) k (u64s ys)):=by
     have:=HO.out
     have e:mD (iZ k) (List.replicate k 0) k=iZ k:=by
      have:=sK (ys:=iZ k) (xs:=List.replicate k 0) (by rw [kW];simp)
      simpa using this
     rwa [e,HY.out] at this
    obtain ⟨r0,r1,rf⟩:=bR HR.out
    have rf0:=rf 0;have rf1:=rf 1
    have N1:=Lib.hid (eZ (c:=.slice (some ⟨w.heap.size+1,0,none⟩) k k) (gJ (c:=.int .u64 0) HR.out))
    obtain ⟨s0,s1,_⟩:=bR N1.out
    have HO5:=Lib.hid ((HO2.out.kept (dS _ _ 0 (.int .u64 0)) (.inr (gI HR.out (by decide) HO2.out).symm)).kept (dS _ w.heap.size 1 (.slice (some ⟨w.heap.size+1,0,none⟩) k k)) (.inr (gI HR.out (by decide) HO2.out).symm))
    have HB5:=Lib.hid ((hb.setCell (p:=⟨w.heap.size,0,none⟩) (Nat.le_refl _) (.int .u64 0)).setCell (p:=⟨w.heap.size,1,none⟩) (Nat.le_refl _) (.slice (some ⟨w.heap.size+1,0,none⟩) k k))
    clear rf
    go_wp2
    refine bodyPost_ret (v:=.tuple #[.agg #[.int .u64 0,.slice (some ⟨w.heap.size+1,0,none⟩) k k],.int .i64 0]) ?_ rfl (Ew (gen:=0) HO5.out HB5.out 0)
    simp [results,results95,go_sem,s0,s1]
theorem oneR_is (n:Int) (w:World) (e0:Int) (he:Ez n=e0) (ys:List Nat) (hys:Ey n=ys) :
  Calls prog 71 #[.int .i64 n] w (Eu 0 ys e0 w):=by
 have hB0:Below w.heap.size w (w.alloc (.cells #[.int .u64 0,.slice none 0 0] 49)):=(Below.refl _ _).alloc (Nat.le_refl _) _
 have T0:=Lib.hid (dG w (.cells #[.int .u64 0,.slice none 0 0] 49))
 obtain ⟨i0,hi,hz0,hz1,hz2⟩:=info_parts wS
 cases hd:fH n
 ·obtain rfl:31=e0:=by rw [← he,Ez,hd];rfl
  obtain rfl:[]=ys:=by rw [← hys,Ey,hd];rfl
  have HD:=Lib.hid hd
  obtain ⟨d0,d1,df⟩:=bR T0.out
  have f0:=df 0;have f1:=df 1
  clear df hd he hys
  go_enter func71,ntmps71
  go_wp2_with fail
  refine (tY n false HD.out _).mono ?_
  rintro e w1 ⟨rfl,rfl⟩
  go_wp2
  refine bodyPost_ret (v:=.tuple #[.agg #[.int .u64 0,.slice none 0 0],.int .i64 31]) ?_ rfl (Ev 31 hB0)
  simp [results,results71,go_sem,d0,d1]
 ·have HD:=Lib.hid hd
  obtain ⟨m,rfl,hm⟩:=nP hd
  obtain rfl:0=e0:=by rw [← he,Ez,hd];rfl
  have HY:Hid (iZ m=ys):=by show _=_;rw [← hys,Ey,hd,if_pos rfl,Int.toNat_natCast]
  have HYL:Hid (ys.length=m):=by show _=_;rw [← HY.out,kW]
  clear hd he hys
  obtain ⟨t0,t1⟩:=nA w #[.int .u64 0,.slice none 0 0] #[.int .u64 0,.slice none 0 0] 49
  have A0:=Lib.hid t0;have A1:=Lib.hid t1
  clear t0 t1
  go_enter func71,ntmps71
  go_wp2_with fail
  refine (tY m true HD.out _).mono ?_
  rintro e w1 ⟨rfl,rfl⟩
  go_wp2_with fail
  go_loopw [5] (fun i wr=>∃ (k:Nat) (v:Value),k≤m∧i = .int .i64 k∧Hid (wr.heap[w.heap.size]?=some (.cells #[.int .u64 0,.slice none 0 0] 49 (0,0)))∧Hid (wr.heap[w.heap.size+1]?=some (.cells #[.int .u64 0,v] 49 (0,0)))∧Hid (wr.ownsRow w.heap.size 46 1 v k (u64s (ys.take k)))∧Below w.heap.size w wr) (fun i _=>m - (intOf i).toNat)
  case atStart=>exact ⟨0,.slice none 0 0,Nat.zero_le _,rfl,A0,A1,World.ownsRow_nil _ _ _ _,hB0.alloc (by simp) _⟩
  case round =>
   obtain ⟨k,v,hk,rfl,B1,B2,HO,hb⟩:=hrel
   obtain ⟨e0,e1,ef⟩:=bR B2.out
   have ef1:=ef 1
   by_cases hlt:k < m
   ·obtain ⟨y,hy⟩:∃ y:Nat,2 ^ k=y:=⟨_,rfl⟩
    have HYK:=Lib.hid hy
    have HT:Hid (ys.take (k+1)=ys.take k++[y]):=by
     show _=_
     have h2:ys[k]?=some y:=by rw [← HY.out,Ex hlt,hy]
     obtain ⟨hk2,e⟩:=List.getElem?_eq_some_iff.1 h2
     rw [List.take_succ_eq_append_getElem hk2,e]
    have q1:(wr.alloc (.cells #[.int .u64 (y:Int)] 46)).cell? ⟨w.heap.size+1,1,none⟩=some v:=(bR (cT B2.out _)).2.1
    clear hy ef
    go_wp2_with fail
    go_region_law (first | (refine step_append_lies (wr.drew.alloc (.cells #[.int .u64 (y:Int)] 46)) ?_ (.tmp 17) (.tmp 20) 47 ?_ w.heap.size 46 i0 _ 1 8 underlying47 hi hz0 hz1 hz2 ?_ ?_ v k (u64s (ys.take k)) ?_ ?_ ⟨wr.heap.size,0,none⟩ 1 1 [.int .u64 (y:Int)] ?_ ?_ ?_ ?_ ?_ ?_ ?_ ?_ (wr.heap.size+1) ?_ ?_;rfl;rfl;rfl;omega;rfl;exact (HO.out:(wr.drew).ownsRow _ _ _ _ _ _).alloc _;rfl;rfl;exact (World.news_of_block (cs:=#[.int .u64 (y:Int)]) (t:=46) (fr:=(0,0)) (dG wr.drew _));simp [Value.oneCell'];omega;(unfold maxLen;omega);omega;(have:=hb.size;simp;omega);simp;intro gg cp w5 hown1 hgrow hat hlt5;have hB4:Below w.heap.size w w5:=(hb.drew.alloc hb.size _).grown hgrow (by have:=hb.size;simp;omega) (fun j e=>(HO.out.lt j e).1);have D1:=Lib.hid (fJ (cT (w:=wr.drew) B1.out (.cells #[.int .u64 (y:Int)] 46)) (by decide) ((HO.out:(wr.drew).ownsRow _ _ _ _ _ _).alloc _) hgrow);have D2:=Lib.hid (fJ (cT (w:=wr.drew) B2.out (.cells #[.int .u64 (y:Int)] 46)) (by decide) ((HO.out:(wr.drew).ownsRow _ _ _ _ _ _).alloc _) hgrow);obtain ⟨_,d1,df⟩:=bR D2.out;have df1:=df 1;clear df) | (go_simp;go_at_call 72;refine (Ei k k y rfl HYK.out (by omega) _).mono ?_;rintro e w3 ⟨rfl,rfl⟩) | fail)
    all_goals
     have HO5:=Lib.hid (show (w5.setCell ⟨w.heap.size+1,1,none⟩ (.slice (some ⟨gg,0,none⟩) (k+1) cp)).ownsRow w.heap.size 46 1 (.slice (some ⟨gg,0,none⟩) (k+1) cp) (k+1) (u64s (ys.take (k+1))) by
      rw [HT.out,pV];exact hown1.kept (dS w5 _ _ _) (.inr (gI D2.out (by decide) hown1).symm))
     have N1:=Lib.hid (dH (B:=w.heap.size+1) (j:=1) (c:=.slice (some ⟨gg,0,none⟩) (k+1) cp) D1.out (by omega))
     have N2:=Lib.hid (eZ (c:=.slice (some ⟨gg,0,none⟩) (k+1) cp) D2.out)
     have NB:=Lib.hid (hB4.setCell (p:=⟨w.heap.size+1,1,none⟩) (by simp) (.slice (some ⟨gg,0,none⟩) (k+1) cp))
     clear hown1 hgrow hat d1 df1 q1 e0 e1 ef1
     go_wp2
     go_roundw
     case rel=>exact ⟨k+1,_,by omega,by go_num,N1,N2,HO5,NB.out⟩
     case measure=>simp [intOf];omega
   ·obtain rfl:k=m:=by omega
    obtain ⟨r0,r1,rf⟩:=bR B1.out
    have rf0:=rf 0;have rf1:=rf 1
    have HO2:Hid (wr.ownsRow w.heap.size 46 1 v k (u64s ys)):=by
     have:=HO.out
     rwa [List.take_of_length_le (by rw [HYL.out];exact Nat.le_refl _)] at this
    obtain ⟨a3,cap3,hv3⟩:=zQ HO2.out
    subst hv3
    have N1:=Lib.hid (eZ (c:=.slice a3 k cap3) (gJ (c:=.int .u64 0) B1.out))
    obtain ⟨s0,s1,_⟩:=bR N1.out
    have HO5:=Lib.hid ((HO2.out.kept (dS _ _ 0 (.int .u64 0)) (.inr (gI B1.out (by decide) HO2.out).symm)).kept (dS _ w.heap.size 1 (.slice a3 k cap3)) (.inr (gI B1.out (by decide) HO2.out).symm))
    have HB5:=Lib.hid ((hb.setCell (p:=⟨w.heap.size,0,none⟩) (Nat.le_refl _) (.int .u64 0)).setCell (p:=⟨w.heap.size,1,none⟩) (Nat.le_refl _) (.slice a3 k cap3))
    clear rf ef
    go_wp2
    refine bodyPost_ret (v:=.tuple #[.agg #[.int .u64 0,.slice a3 k cap3],.int .i64 0]) ?_ rfl (Ew (gen:=0) HO5.out HB5.out 0)
    simp [results,results71,go_sem,s0,s1]
theorem Bv {a:Int} (h:(Lit.int .u64 a).wf=true):∃ n:Nat,a=n∧n < 18446744073709551616:=by
 simp only [Lit.wf,IntKind.min,IntKind.max,IntKind.signed,IntKind.bits,Bool.and_eq_true,decide_eq_true_eq] at h
 simp at h
 exact ⟨a.toNat,by omega,by omega⟩
theorem zU (g:Nat) (zs:List Nat):qV g zs g zs=true:=by simp [qV]
structure Good (m:Nat) (g:Nat) (rows:List Nat):Prop where
 hm:m≤64
 hl:rows.length=m
 hg:g < 2 ^ m
 hr:∀ r∈rows,r < 2 ^ m
 hc:∀ r∈rows,r &&& g=0
theorem Good.g64 {m g:Nat} {rows:List Nat} (h:Good m g rows):g < 18446744073709551616:=Nat.lt_of_lt_of_le h.hg (lN h.hm)
theorem Good.r64 {m g:Nat} {rows:List Nat} (h:Good m g rows):∀ r∈rows,r < 18446744073709551616:=fun r hr=>Nat.lt_of_lt_of_le (h.hr r hr) (lN h.hm)
theorem rG {m g:Nat} {rows:List Nat} (h:Good m g rows):eR m g rows=0:=by
 have hd:fH m=true:=by simp [fH];have:=h.hm;omega
 have h1:fC m g rows=true:=by
  unfold fC
  simp only [Bool.and_eq_true,decide_eq_true_eq,List.all_eq_true]
  exact ⟨h.hl,(iV h.hm h.g64).2 h.hg,fun r hr=>(iV h.hm (h.r64 r hr)).2 (h.hr r hr)⟩
 have h2:jO g rows=true:=by
  unfold jO
  rw [List.all_eq_true]
  intro r hr
  have:=h.hc r hr
  simp [this]
 unfold eR
 rw [if_pos hd,Int.toNat_natCast,h1,h2];rfl
theorem Hm {n:Int} {g:Nat} {rows:List Nat} (hg:g < 18446744073709551616) (hr:∀ r∈rows,r < 18446744073709551616) (h:eR n g rows=0):∃ m:Nat,n=m∧Good m g rows:=by
 obtain ⟨hd,hs,hc⟩:=nB h
 obtain ⟨m,rfl,hm⟩:=nP hd
 rw [Int.toNat_natCast] at hs
 obtain ⟨hl,ig,ir⟩:=lS hs
 unfold jO at hc
 rw [List.all_eq_true] at hc
 exact ⟨m,rfl,hm,hl,(iV hm hg).1 ig,fun r h=>(iV hm (hr r h)).1 (ir r h),fun r h=>by simpa using hc r h⟩
theorem wZ {m g:Nat} {rows:List Nat} (hm:m≤64) (hl:rows.length=m) (hg:g < 2 ^ m) (hr:∀ r∈rows,r < 2 ^ m):Good m g (fI g rows) where
 hm:=hm
 hl:=by rw [jZ,hl]
 hg:=hg
 hr:=fun r h=>by
  obtain ⟨x,hx,rfl⟩:=List.mem_map.1 h
  exact Nat.lt_of_le_of_lt Nat.and_le_left (hr x hx)
 hc:=fun r h=>by
  obtain ⟨x,hx,rfl⟩:=List.mem_map.1 h
  have h1:=Nat.lt_of_lt_of_le (hr x hx) (lN hm)
  have h2:=Nat.lt_of_lt_of_le hg (lN hm)
  apply Nat.eq_of_testBit_eq
  intro j
  rw [Nat.testBit_and,wR h1 h2,Nat.zero_testBit]
  cases x.testBit j<;>cases g.testBit j<;>rfl
theorem zV {m:Nat} {rows:List Nat} (hr:∀ r∈rows,r < 2 ^ m):∀ (l:List Nat) (g:Nat),g < 2 ^ m→accF rows g l < 2 ^ m
 | [],g,h=>h
 | x::l,g,h=>by
  have:rows.getD x 0 < 2 ^ m:=by
   rw [List.getD_eq_getElem?_getD]
   cases hx:rows[x]? with
   | none=>exact Nat.two_pow_pos m
   | some y=>exact hr y (List.mem_of_getElem? hx)
  exact zV hr l _ (Nat.or_lt_two_pow h this)
theorem Good.made {m g:Nat} {rows:List Nat} (h:Good m g rows) (s:Nat):madeF g rows s < 2 ^ m:=zV h.hr _ _ h.hg
theorem Good.comb {m ga gb:Nat} {xs ys:List Nat} (ha:Good m ga xs) (hb:Good m gb ys):Good m (ga ||| gb) (fI (ga ||| gb) (orL xs ys)) :=
 wZ ha.hm (by rw [Bu (by rw [ha.hl,hb.hl]),ha.hl]) (Nat.or_lt_two_pow ha.hg hb.hg) (fun r hr=>by
  obtain ⟨i,hi⟩:=List.getElem?_of_mem hr
  unfold orL at hi
  rw [List.getElem?_zipWith] at hi
  cases h1:xs[i]? with
  | none=>rw [h1] at hi;simp at hi
  | some a =>
   cases h2:ys[i]? with
   | none=>rw [h1,h2] at hi;simp at hi
   | some b =>
    rw [h1,h2] at hi
    have:a ||| b=r:=by simpa using hi
    rw [← this]
    exact Nat.or_lt_two_pow (ha.hr a (List.mem_of_getElem? h1)) (hb.hr b (List.mem_of_getElem? h2)))
theorem Good.ext {m ga gb:Nat} {xs ys:List Nat} (ha:Good m ga xs) (hb:Good m gb ys):Good m (madeF gb ys ga) (fI (madeF gb ys ga) (xs.map (madeF gb ys))) :=
 wZ ha.hm (by rw [List.length_map,ha.hl]) (hb.made ga) (fun r hr=>by
  obtain ⟨x,_,rfl⟩:=List.mem_map.1 hr
  exact hb.made x)
theorem qC {m ga gb:Nat} {xs ys:List Nat} (ha:Good m ga xs) (hb:Good m gb ys):iY m ga xs gb ys=0:=by
 rw [iY,if_pos (rG ha)];exact rG hb
theorem Hn {m ga gb:Nat} {xs ys:List Nat} (ha:Good m ga xs) (hb:Good m gb ys):oJ m ga xs gb ys=ga ||| gb:=by rw [oJ,if_pos (qC ha hb)]
theorem Ho {m ga gb:Nat} {xs ys:List Nat} (ha:Good m ga xs) (hb:Good m gb ys):nC m ga xs gb ys=fI (ga ||| gb) (orL xs ys):=by rw [nC,if_pos (qC ha hb)]
theorem Mf {m ga gb:Nat} {xs ys:List Nat} (ha:Good m ga xs) (hb:Good m gb ys):vM m ga xs gb ys=madeF gb ys ga:=by rw [vM,if_pos (qC ha hb)]
theorem Mg {m ga gb:Nat} {xs ys:List Nat} (ha:Good m ga xs) (hb:Good m gb ys):uC m ga xs gb ys=fI (madeF gb ys ga) (xs.map (madeF gb ys)):=by rw [uC,if_pos (qC ha hb)]
theorem Good.combT {m ga gb:Nat} {xs ys:List Nat} (ha:Good m ga xs) (hb:Good m gb ys):Good m (oJ m ga xs gb ys) (nC m ga xs gb ys):=by rw [Hn ha hb,Ho ha hb];exact ha.comb hb
theorem Good.extT {m ga gb:Nat} {xs ys:List Nat} (ha:Good m ga xs) (hb:Good m gb ys):Good m (vM m ga xs gb ys) (uC m ga xs gb ys):=by rw [Mf ha hb,Mg ha hb];exact ha.ext hb
theorem uD {m:Nat} (hm:m≤64):Good m 0 (iZ m) where
 hm:=hm
 hl:=kW m
 hg:=Nat.two_pow_pos m
 hr:=fun r hr=>by
  obtain ⟨i,hi,rfl⟩:=List.mem_map.1 hr
  exact Nat.pow_lt_pow_right (by omega) (List.mem_range.1 hi)
 hc:=fun r _=>Nat.and_zero r
theorem sR {m:Nat} (hm:m≤64):Ez m=0∧Ey m=iZ m:=by
 have hd:fH m=true:=by simp [fH];omega
 exact ⟨by rw [Ez,if_pos hd],by rw [Ey,if_pos hd,Int.toNat_natCast]⟩
section
variable {m ga gb gc:Nat} {xs ys zs:List Nat}
end
def vN (c:Cl):List Value:=[.int .u64 (c.f:Int),.int .i64 c.k,.int .i64 c.v]
def flat (cs:List Cl):List Value:=cs.flatMap vN
theorem mH (cs:List Cl):(flat cs).length=cs.length * 3:=by
 induction cs with
 | nil=>rfl
 | cons c r ih=>simp [flat,vN] at ih ⊢;omega
theorem iP (c:Cl) (r:List Cl):flat (c::r)=vN c++flat r:=by simp [flat]
theorem zW (cs:List Cl) (c:Cl):flat (cs++[c])=flat cs++vN c:=by simp [flat]
theorem nT:∀ {cs:List Cl} {i:Nat} {c:Cl},cs[i]?=some c→(flat cs)[i * 3]?=some (.int .u64 (c.f:Int))∧(flat cs)[i * 3+1]?=some (.int .i64 c.k)∧(flat cs)[i * 3+2]?=some (.int .i64 c.v)
 | [],i,c,h=>by simp at h
 | x::r,0,c,h=>by
  simp at h;subst h
  simp [iP,vN]
 | x::r,i+1,c,h=>by
  simp at h
  have ih:=nT (cs:=r) (i:=i) h
  have e0:(i+1) * 3=i * 3+3:=by omega
  have e1:(i+1) * 3+1=(i * 3+1)+3:=by omega
  have e2:(i+1) * 3+2=(i * 3+2)+3:=by omega
  rw [e1,e2,e0,iP]
  simp only [vN,List.cons_append,List.nil_append,List.getElem?_cons_succ]
  exact ih
theorem E0:∀ (cs:List Cl) (i:Nat) (c:Cl),i < cs.length→(((flat cs).set (i * 3) (.int .u64 (c.f:Int))).set (i * 3+1) (.int .i64 c.k)).set (i * 3+2) (.int .i64 c.v)=flat (cs.set i c)
 | [],i,c,h=>by simp at h
 | x::r,0,c,h=>by simp [iP,vN]
 | x::r,i+1,c,h=>by
  have ih:=E0 r i c (by simpa using h)
  have e0:(i+1) * 3=i * 3+3:=by omega
  have e1:(i+1) * 3+1=(i * 3+1)+3:=by omega
  have e2:(i+1) * 3+2=(i * 3+2)+3:=by omega
  rw [e1,e2,e0,iP,List.set_cons_succ,iP,← ih]
  simp [vN]
theorem zX {w w':World} {base size n:Nat} {E:Nat} {v:Value} {xs:List Value} (h:w.ownsRow base E size v n xs) (hb:Below w.heap.size w w'):w'.ownsRow base E size v n xs:=by
 refine ⟨h.1,?_⟩
 rcases h.2 with h2 | ⟨g,cap,cur,hv,hg,hh,r⟩
 ·exact .inl h2
 ·exact .inr ⟨g,cap,cur,hv,hg,by rw [hb.block g (Array.getElem?_eq_some_iff.1 hh).1];exact hh,r⟩
theorem fF {w:World} {base:Nat} {E:Nat} {v:Value} {n:Nat} {cs:List Cl} (h:w.ownsRow base E 3 v n (flat cs)) :
  n=cs.length∧∃ a cap,v = .slice a n cap∧fN w a cs∧∀ ad,a=some ad→base≤ad.block∧ad.off=0∧ad.block < w.heap.size:=by
 have hl:=h.1
 rw [mH] at hl
 have hn:n=cs.length:=by omega
 refine ⟨hn,?_⟩
 rcases h.2 with ⟨rfl,h0⟩ | ⟨g,cap,cur,rfl,hg,hh,hnc,hcm,hcs,ht⟩
 ·subst h0
  have:cs=[]:=List.length_eq_zero_iff.1 hn.symm
  exact ⟨none,0,rfl,.inl this,fun ad e=>by cases e⟩
 ·refine ⟨some ⟨g,0,none⟩,cap,rfl,.inr ⟨g,0,rfl,fun i c hi=>?_⟩,fun ad e=>by cases e;exact ⟨hg,rfl,(Array.getElem?_eq_some_iff.1 hh).1⟩⟩
  obtain ⟨f0,f1,f2⟩:=nT hi
  have hi2:i < cs.length:=(List.getElem?_eq_some_iff.1 hi).1
  have c0:=h.cellAt (i * 3) (by omega)
  have c1:=h.cellAt (i * 3+1) (by omega)
  have c2:=h.cellAt (i * 3+2) (by omega)
  rw [Nat.zero_add]
  exact ⟨c0.trans f0,c1.trans f1,c2.trans f2⟩
def jA (cs:List Cl) (err:Int) (w:World) (e:Ending) (w':World):Prop :=
 ∃ a cap,e = .returned (.tuple #[.slice a cs.length cap,.int .i64 err])∧fN w' a cs∧(∀ ad,a=some ad→w.heap.size≤ad.block∧ad.block < w'.heap.size)∧Below w.heap.size w w'
theorem nU (err:Int) {w w':World} (hb:Below w.heap.size w w'):jA [] err w (.returned (.tuple #[.slice none 0 0,.int .i64 err])) w' :=
 ⟨none,0,rfl,.inl rfl,(fun ad e=>by cases e),hb⟩
theorem Bw {cs:List Cl} {w w':World} {E:Nat} {v:Value} {n:Nat} (h:w'.ownsRow w.heap.size E 3 v n (flat cs)) (hb:Below w.heap.size w w') (err:Int):jA cs err w (.returned (.tuple #[v,.int .i64 err])) w':=by
 obtain ⟨rfl,a,cap,rfl,hr,hf⟩:=fF h
 exact ⟨a,cap,rfl,hr,fun ad e=>⟨(hf ad e).1,(hf ad e).2.2⟩,hb⟩
def uE (cs:List Cl) (w:World) (e:Ending) (w':World):Prop :=
 ∃ v,e = .returned v∧w'.ownsRow w.heap.size 92 3 v cs.length (flat cs)∧Below w.heap.size w w'
theorem Or:(prog.info? 92).map (fun i=>(i.zero,i.size,i.bytes))=some (some (.agg #[.int .u64 0,.int .i64 0,.int .i64 0]),3,24):=by kernel_rfl
def eN (xs ys:List Cl):List Cl:=List.zipWith join xs ys
theorem okAt_ok {n:Nat} {c:Cl} (hf:c.f < 18446744073709551616) (h:kV n c=true):c.ok:=by
 unfold kV kM at h
 simp only [Bool.and_eq_true] at h
 exact ⟨hf,h.2⟩
theorem lJ {d:Int} {cs:List Cl} (h:kN d cs=0):0≤d∧d≤64∧(cs.length:Int)=d∧cs.all (kV d.toNat)=true:=by
 unfold kN at h
 split at h
 ·omega
 ·split at h
  ·omega
  ·cases hz:cs.all (kV d.toNat)<;>rw [hz] at h<;>simp at h
   exact ⟨by omega,by omega,by omega,rfl⟩
theorem xA {d:Int} {xs ys:List Cl} (h:mF d xs ys=0):kN d xs=0∧kN d ys=0:=by
 unfold mF at h
 split at h
 ·exact ⟨by assumption,h⟩
 ·exact absurd h (by assumption)
theorem Bx {n:Nat} {cs:List Cl} (hb:nR cs) (h:cs.all (kV n)=true) {i:Nat} {c:Cl} (hi:cs[i]?=some c):c.ok:=by
 rw [List.all_eq_true] at h
 exact okAt_ok (hb c (List.mem_of_getElem? hi)) (h c (List.mem_of_getElem? hi))
theorem Ot {xs ys:List Cl} {k:Nat} {x y:Cl} (hx:xs[k]?=some x) (hy:ys[k]?=some y):(eN xs ys).take (k+1)=(eN xs ys).take k++[join x y]:=by
 have h:(eN xs ys)[k]?=some (join x y):=by simp [eN,List.getElem?_zipWith,hx,hy]
 obtain ⟨hk,e⟩:=List.getElem?_eq_some_iff.1 h
 rw [List.take_succ_eq_append_getElem hk,e]
def qW (d:Int) (xs ys:List Cl):List Cl:=if mF d xs ys=0 then eN xs ys else []
theorem zY (x y z:Cl) (hx:x.ok) (hy:y.ok) (hz:join x y=z) (w:World):Calls prog 126 #[x.val,y.val] w fun e w'=>e = .returned z.val∧Below w.heap.size w w':=by
 subst hz;exact Hg x y hx hy w
theorem Hp {w:World} {b off:Nat} {cs:List Cl} (h:∀ i c,cs[i]?=some c→w.cell? ⟨b,off+i * 3,none⟩=some (.int .u64 (c.f:Int))∧w.cell? ⟨b,off+i * 3+1,none⟩=some (.int .i64 c.k)∧w.cell? ⟨b,off+i * 3+2,none⟩=some (.int .i64 c.v)) :
  ∀ j u,(flat cs)[j]?=some u→w.cell? ((⟨b,off,none⟩:Addr).add j)=some u:=by
 intro j u hj
 have hlt:j < cs.length * 3:=by rw [← mH];exact (List.getElem?_eq_some_iff.1 hj).1
 obtain ⟨i,r,hr,rfl⟩:∃ i r,r < 3∧j=i * 3+r:=⟨j / 3,j % 3,by omega,by omega⟩
 have hi:i < cs.length:=by omega
 obtain ⟨h0,h1,h2⟩:=h i cs[i] (List.getElem?_eq_getElem hi)
 obtain ⟨f0,f1,f2⟩:=nT (List.getElem?_eq_getElem hi)
 have e:((⟨b,off,none⟩:Addr).add (i * 3+r))=⟨b,off+(i * 3+r),none⟩:=by
  simp only [Addr.add];split<;>simp_all
 rw [e]
 match r,hr with
 | 0,_=>rw [Nat.add_zero] at hj ⊢;rw [f0] at hj;rw [h0];exact hj
 | 1,_=>rw [f1] at hj;rw [← Nat.add_assoc,h1];exact hj
 | 2,_=>rw [f2] at hj;rw [← Nat.add_assoc,h2];exact hj
theorem Mh {w:World} {ad:Addr} {cs:List Cl} (h:fN w (some ad) cs):∀ j u,(flat cs)[j]?=some u→w.cell? (ad.add j)=some u:=by
 rcases h with h | ⟨b,off,e,hc⟩
 ·subst h;intro j u hj;simp [flat] at hj
 ·cases e;exact Hp hc
theorem Ou (cs:List Cl):∀ u∈flat cs,u.oneCell'=true:=by
 intro u hu
 simp only [flat,List.mem_flatMap,vN] at hu
 obtain ⟨c,_,hu⟩:=hu
 simp at hu
 rcases hu with rfl | rfl | rfl<;>rfl
set_option maxHeartbeats 1000000 in
theorem zZ (a:Option Addr) (cap:Nat) (cs:List Cl) (w:World) (hm:cs.length≤64) (hrow:fN w a cs) :
  Calls prog 98 #[.slice a cs.length cap] w (uE cs w):=by
 obtain ⟨i0,hi,hz0,hz1,hz2⟩:=info_parts Or
 have q22:∀ (w:World) (a:Option Addr) (n c n' c':Nat),(binOp .eql 50 (.slice a n c) (.slice none n' c')).run prog w = .ok (.bool a.isNone) w:=fun w a n c n' c'=>Lib.run_eql_slice_nil w _ _ a n c n' c' underlying50
 cases a with
 | none =>
  have hcs:cs=[]:=by
   rcases hrow with h | ⟨b,off,e,_⟩
   ·exact h
   ·cases e
  subst hcs
  clear hrow
  go_enter func98,ntmps98
  go_wp2
  go_ret
  exact ⟨_,rfl,World.ownsRow_nil _ _ _ _,Below.refl _ _⟩
 | some ad =>
  have HN:=Lib.hid (fun (o:Obj)=>Mh (hrow.below ((Below.refl _ w).alloc (Nat.le_refl _) o)))
  have hown:(w.alloc (.cells #[] 92)).ownsRow w.heap.size 92 3 (.slice (some ⟨w.heap.size,0,none⟩) 0 0) 0 []:=World.ownsRow_lit w #[] 0 (Nat.le_refl _) (by simp) rfl
  have HO:=Lib.hid hown
  clear hrow hown
  go_enter func98,ntmps98
  go_wp2_with (at_builtin;refine wpList_append_own _ rfl (.tmp 5) (.tmp 6) 50 rfl w.heap.size 92 i0 _ 3 24 underlying50 hi hz0 hz1 hz2 rfl (by decide) _ _ _ rfl HO.out ad cs.length cap (flat cs) rfl (mH cs) (HN.out _) (Ou cs) (by unfold maxLen;omega) (by omega) (by simp) ?_;intro v' w2 hown2 hgrow hnil)
  go_ret
  refine ⟨v',rfl,by simpa using hown2,?_⟩
  exact ((Below.refl _ _).alloc (Nat.le_refl _) _).grown hgrow (by simp) (fun j e=>by cases e;exact Nat.le_refl _)
theorem xB {w:World} {base g n cap k:Nat} {E:Nat} {cs:List Cl} (h:w.ownsRow base E 3 (.slice (some ⟨g,0,none⟩) n cap) n (flat cs)) (hk:k < cs.length) (z:Cl) :
  (((w.setCell ⟨g,k * 3,none⟩ (.int .u64 (z.f:Int))).setCell ⟨g,k * 3+1,none⟩ (.int .i64 z.k)).setCell ⟨g,k * 3+2,none⟩ (.int .i64 z.v)).ownsRow base E 3 (.slice (some ⟨g,0,none⟩) n cap) n (flat (cs.set k z)):=by
 rw [← E0 cs k z hk]
 exact ((((h.stored (k * 3) _).1.stored (k * 3+1) _).1.stored (k * 3+2) _).1)
theorem Ov {xs ys:List Cl} {k:Nat} {x y z:Cl} (hx:xs[k]?=some x) (hy:ys[k]?=some y) (hz:join x y=z):(((eN xs ys).take k++xs.drop k).set k z)=(eN xs ys).take (k+1)++xs.drop (k+1):=by
 obtain ⟨hk,ex⟩:=List.getElem?_eq_some_iff.1 hx
 obtain ⟨hk2,ey⟩:=List.getElem?_eq_some_iff.1 hy
 have hl:((eN xs ys).take k).length=k:=by simp [eN];omega
 rw [Ot hx hy,hz,List.set_append_right _ _ (by omega),hl,Nat.sub_self,List.drop_eq_getElem_cons hk,List.set_cons_zero,List.append_assoc]
 rfl
theorem mix_at {xs ys:List Cl} {k:Nat} {x y:Cl} (hx:xs[k]?=some x) (hy:ys[k]?=some y):((eN xs ys).take k++xs.drop k)[k]?=some x:=by
 obtain ⟨hk,ex⟩:=List.getElem?_eq_some_iff.1 hx
 obtain ⟨hk2,ey⟩:=List.getElem?_eq_some_iff.1 hy
 have hl:((eN xs ys).take k).length=k:=by simp [eN];omega
 rw [List.getElem?_append_right (by omega),hl,Nat.sub_self,List.getElem?_drop,Nat.add_zero,hx]
theorem mix_len {xs ys:List Cl} {k:Nat} (hl:ys.length=xs.length) (hk:k≤xs.length):((eN xs ys).take k++xs.drop k).length=xs.length:=by simp [eN];omega
set_option maxHeartbeats 2000000 in
theorem Ow (a b:Option Addr) (capa capb:Nat) (xs ys:List Cl) (w:World) (hm:xs.length≤64) (hl:ys.length=xs.length) (hra:fN w a xs) (hrb:fN w b ys) (hoa:∀ (i:Nat) c,xs[i]?=some c→c.ok) (hob:∀ (i:Nat) c,ys[i]?=some c→c.ok) :
  Calls prog 110 #[.slice a xs.length capa,.slice b ys.length capb] w (uE (eN xs ys) w):=by
 have HRA:=Lib.hid hra;have HRB:=Lib.hid hrb;have HOA:=Lib.hid hoa;have HOB:=Lib.hid hob;have HL:=Lib.hid hl
 have g1:ys.length≤xs.length:=by omega
 have g2:xs.length≤ys.length:=by omega
 clear hra hrb hoa hob hl
 go_enter func110,ntmps110
 go_wp2_with fail
 refine (zZ a capa xs _ hm HRA.out).mono ?_
 rintro e w1 ⟨v,rfl,hown1,hb1⟩
 have HO1:=Lib.hid hown1
 clear hown1
 go_wp2_with fail
 go_loopw [12] (fun i wr=>∃ k:Nat,k≤xs.length∧i = .int .i64 k∧Hid (wr.ownsRow w.heap.size 92 3 v xs.length (flat ((eN xs ys).take k++xs.drop k)))∧Below w.heap.size w wr) (fun i _=>xs.length - (intOf i).toNat)
 case atStart=>exact ⟨0,Nat.zero_le _,rfl,HO1.out,hb1⟩
 case round =>
  obtain ⟨k,hk,rfl,HO,hb⟩:=hrel
  by_cases hlt:k < xs.length
  ·obtain ⟨bb,offb,y,rfl,hy,hbb,b0,b1,b2⟩:=HRB.out.at_ (show k < ys.length by omega)
   obtain ⟨x,hx⟩:∃ x,xs[k]?=some x:=⟨_,List.getElem?_eq_getElem hlt⟩
   have c0:=(hb.cell (p:=⟨bb,offb+k * 3,none⟩) hbb).trans b0
   have c1:=(hb.cell (p:=⟨bb,offb+k * 3+1,none⟩) hbb).trans b1
   have c2:=(hb.cell (p:=⟨bb,offb+k * 3+2,none⟩) hbb).trans b2
   clear b0 b1 b2
   obtain ⟨z,hz⟩:∃ z,join x y=z:=⟨_,rfl⟩
   have OX:=Lib.hid (HOA.out k x hx)
   have OY:=Lib.hid (HOB.out k y hy)
   have HJ:=Lib.hid hz
   have HM:=Lib.hid (Ov hx hy hz)
   have HA:=Lib.hid (mix_at hx hy)
   have HLEN:=Lib.hid (mix_len HL.out hk)
   clear hx hy hz
   obtain ⟨g,capg,hv,hbg,hgl⟩:=HO.out.form (show 0 < xs.length by omega)
   subst hv
   obtain ⟨f0,f1,f2⟩:=nT HA.out
   have d0:=(HO.out.cellAt (k * 3) (by omega)).trans f0
   have d1:=(HO.out.cellAt (k * 3+1) (by omega)).trans f1
   have d2:=(HO.out.cellAt (k * 3+2) (by omega)).trans f2
   have F0:=Lib.hid f0;have F1:=Lib.hid f1;have F2:=Lib.hid f2
   clear f0 f1 f2
   have g0:(0:Int)≤(k:Int):=by omega
   have g3:(k:Int) < (xs.length:Int):=by omega
   have g4:(k:Int) < (ys.length:Int):=by omega
   go_wp2_with fail
   go_region_with (go_at_call 126;refine (zY x y z OX.out OY.out HJ.out _).mono ?_;rintro e w3 ⟨rfl,hb3⟩;have hB3:Below wr.heap.size wr w3:=Below.trans (by repeat (first | exact Below.refl _ _ | refine Below.drew ?_ | refine Below.alloc ?_ (Nat.le_refl _) _)) (hb3.mono (by simp));have o3:=zX HO.out hB3;have e0:=(o3.cellAt (k * 3) (by omega)).trans F0.out;have e1:=(o3.cellAt (k * 3+1) (by omega)).trans F1.out;have e2:=(o3.cellAt (k * 3+2) (by omega)).trans F2.out;have q0:=o3.frozenAt (k * 3);have q1:=o3.frozenAt (k * 3+1);have q2:=o3.frozenAt (k * 3+2);have O3:=Lib.hid o3;clear o3)
   all_goals
    have HS:=Lib.hid (xB O3.out (by rw [HLEN.out];exact hlt) z)
    rw [HM.out] at HS
    have HB:Hid (Below w.heap.size w (((w3.setCell ⟨g,k * 3,none⟩ (.int .u64 (z.f:Int))).setCell ⟨g,k * 3+1,none⟩ (.int .i64 z.k)).setCell ⟨g,k * 3+2,none⟩ (.int .i64 z.v))):=(((hb.trans (hB3.mono hb.size)).setCell (p:=⟨g,k * 3,none⟩) hbg _).setCell (p:=⟨g,k * 3+1,none⟩) hbg _).setCell (p:=⟨g,k * 3+2,none⟩) hbg _
    clear e0 e1 e2 q0 q1 q2 O3
    go_wp2
    go_roundw
    case rel=>exact ⟨k+1,by omega,by go_num,HS,HB.out⟩
    case measure=>simp [intOf];omega
  ·obtain rfl:k=xs.length:=by omega
   have HE:Hid (wr.ownsRow w.heap.size 92 3 v (eN xs ys).length (flat (eN xs ys))):=by
    have h:=HO.out
    have hlen:(eN xs ys).length=xs.length:=by simp [eN,HL.out]
    rw [List.take_of_length_le (by omega),List.drop_of_length_le (Nat.le_refl _),List.append_nil] at h
    rw [hlen];exact h
   go_wp2
   go_ret
   exact ⟨v,rfl,HE.out,hb⟩
end
end Go.Proofs.YtofaiolkihcfmaaGreatDoor
