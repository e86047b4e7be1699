import Derived.Test.YtbmieipifgailaaGreatDoorRows
import Derived.Lib.LaidTab
import Derived.Lib.ItoaNum
import Derived.Lib.TrailingZeros
import Derived.Stop.LaidErr
import Derived.WalkSmall
import Derived.LaidMore
import Derived.WalkKit
import Derived.Shelf.Spec.TrailingZeros
import Derived.Test.YtbmieipifgailaaGreatDoorProg
import Derived.Laws.BitsAllLaws
import Derived.Laws.Bits64
import Derived.Lib.Hide
import Derived.Deep.QuietTactic
import Derived.BigQuiet
import Derived.RegionTactic
import Derived.BigRegion
import Derived.Deep.RegionHeld3
import Derived.ChangeAlike
import Derived.RangeFuncNested
import Derived.RangeFuncBound
import Derived.RangeFuncCalls
import Derived.RangeFuncLeaves
import Derived.Shelf.Abstract
import Derived.Shelf.RegionOpen
import Derived.OwnWalkIn
import Derived.TacticsInMore
import Derived.LoopNIn
import Derived.LoopIn
import Derived.Laws.Bits128
import Derived.Deep.AppendLies
import Derived.Below
import Derived.Shelf.Small.Bits
import Derived.Shelf.Small.Wraps
import Derived.Shelf.Strconv.Itoa0
import Derived.Shelf.Slices.Equal
import Derived.Ground.Names2Prog
import Derived.Shelf.Slices.Clone
import Derived.Sort.Grow
import Derived.Maps.AppendAt
import Derived.Lib.OthersKept
import Derived.Laws.IdiomStrings
import Derived.StillTailTactics
import Derived.Deep.RegionLaw
import Derived.Lib.SliceRun
import Derived.Deep.RegionWith
import Derived.Laws.Bits64b
import Derived.Laws.OwnMore
import Derived.OwnWalk
import Derived.WalkSpells
import Derived.Lib.Join
import Derived.Deep.Slices
import Derived.Deep.Fields
import Derived.ChangeSame
set_option maxRecDepth 100000
set_option maxHeartbeats 4000000
set_option linter.unusedVariables false
set_option linter.unusedSimpArgs false
set_option linter.unusedSectionVars false
set_option linter.unnecessarySimpa false
namespace Go.Proofs.YtbmieipifgailaaGreatDoor
open Go.Proofs.Tryz
section
open Go.RowKit
def qQ:List Int:=Lib.deBruijn64tab.map Int.ofNat
structure Tabs (W:World):Prop where
 pow:True
 ctz:Lib.TabIs prog W "math/bits.deBruijn64tab" .u8 qQ
theorem Ki:prog.globalNamed "math/bits.deBruijn64tab" = some 0:=by kernel_rfl
theorem tCtz:(prog.globals[0]?).map (·.type)=some 183:=by kernel_rfl
theorem Ta:prog.cellsOf 183=64:=by kernel_rfl
theorem cells8:prog.cellsOf 5=1:=by kernel_rfl
theorem Tb {P:Program} {W:World} {n:String} {g:Nat} {cs:Array Value} (hg:P.globalNamed n=some g) (h:W.var? P n=some cs):g < W.heap.size:=by
 unfold World.var? at h;simp only [hg,Option.bind_some] at h;rcases Nat.lt_or_ge g W.heap.size with h' | h'
 ·exact h'
 ·simp [Array.getElem?_eq_none h'] at h
theorem Tabs.below {W W':World} (h:Tabs W) (hb:Below W.heap.size W W'):Tabs W' :=
 ⟨trivial,var?_below hb Ki (Tb Ki h.ctz) h.ctz⟩
theorem tabs_of {W:World} (h:laidMet prog [("math/bits.deBruijn64tab",Rows.laid_math_bits_deBruijn64tab)] W):Tabs W :=
 ⟨trivial,Lib.tabIs_of_head (rest:=[]) Ki tCtz underlying183 underlying5 cells8 Ta (show laidMet prog (("math/bits.deBruijn64tab",Lib.tabData .u8 qQ)::[]) W from h)⟩
theorem Nl (x k idx:Nat) (w:World) (hx0:((x:Int) == 0)=false)
  (key:IntKind.u64.wrap (bits BinOp.and IntKind.u64 (x:Int) (IntKind.u64.wrap (-(x:Int))) * 285870213051353865) / 288230376151711744=(idx:Int))
  (hi:idx < 64) (hk:k < 64) (hcell:w.cell? ⟨0,idx,none⟩=some (.int .u8 k)) :
  Calls prog 144 #[.int .u64 x] w fun e w'=>e = .returned (.int .i64 k)∧w=w':=by
 go_enter func144,ntmps144;go_wp2_with (simp only [key]);go_ret;exact ⟨rfl,rfl⟩
theorem Qd (x:Nat) (hx0:x≠0) (hx:x < 18446744073709551616) (w:World) (ht:Tabs w) :
  Calls prog 144 #[.int .u64 x] w fun e w'=>e = .returned (.int .i64 (Lib.ctz 64 x))∧w=w':=by
 obtain ⟨hlow,hk⟩:=Lib.lowest_bit 64 x hx0 hx;obtain ⟨hi,htab⟩:=Lib.deBruijn64_at _ hk;have hcell:=ht.ctz.cell Ki _ (by rw [qQ,List.length_map];exact hi);have e:qQ.getD (2 ^ Lib.ctz 64 x * 285870213051353865 % 18446744073709551616 / 288230376151711744) 0=((Lib.ctz 64 x:Nat):Int):=by
  have:qQ.getD (2 ^ Lib.ctz 64 x * 285870213051353865 % 18446744073709551616 / 288230376151711744) 0=Int.ofNat (Lib.deBruijn64tab.getD (2 ^ Lib.ctz 64 x * 285870213051353865 % 18446744073709551616 / 288230376151711744) 0):=by simp only [qQ,List.getD,List.getElem?_map];cases Lib.deBruijn64tab[2 ^ Lib.ctz 64 x * 285870213051353865 % 18446744073709551616 / 288230376151711744]?<;>rfl
  rw [this,htab];rfl
 rw [e] at hcell;exact Nl x _ _ w (by simp;omega) (Go.Proofs.tz64_key x _ hx hx0 hlow) hi hk hcell
end
section
theorem zI (x:Nat) (h0:x≠0) (h:x < 18446744073709551616):∃ m,x=2 ^ Lib.ctz 64 x * (2 * m+1)∧Lib.ctz 64 x < 64:=by have:=Lib.ctzFrom_spec 64 x (by omega) h;unfold Lib.ctz;rw [if_neg h0];exact this
theorem Nm {x:Nat} (h0:x≠0) (h:x < 18446744073709551616):x.testBit (Lib.ctz 64 x)=true:=by obtain ⟨m,hm,_⟩:=zI x h0 h;generalize Lib.ctz 64 x=k at *;rw [hm,Nat.mul_comm,Nat.testBit_mul_two_pow];simp
theorem zJ {x:Nat} (h0:x≠0) (h:x < 18446744073709551616) {i:Nat} (hi:i < Lib.ctz 64 x):x.testBit i=false:=by obtain ⟨m,hm,_⟩:=zI x h0 h;generalize Lib.ctz 64 x=k at *;rw [hm,Nat.mul_comm,Nat.testBit_mul_two_pow];simp;omega
theorem Qe {x:Nat} (h0:x≠0) (h:x < 18446744073709551616) (i:Nat):(x &&& (x - 1)).testBit i=(x.testBit i && decide (i≠Lib.ctz 64 x)):=by
 obtain ⟨m,hm,_⟩:=zI x h0 h;generalize Lib.ctz 64 x=k at *;have hp:0 < 2 ^ k:=Nat.two_pow_pos k;have e1:x - 1=2 ^ k * (2 * m)+(2 ^ k - 1):=by rw [hm,Nat.mul_add];omega
 have e2:x=2 ^ k * (2 * m+1)+0:=by omega
 rw [Nat.testBit_and,e1,Nat.testBit_two_pow_mul_add _ (by omega)];rw [e2,Nat.testBit_two_pow_mul_add _ hp];by_cases hi:i < k
 ·simp [hi]
 ·simp only [hi,if_false];by_cases he:i=k
  ·subst he;simp
  ·obtain ⟨j,rfl⟩:∃ j,i=k+(j+1):=⟨i - k - 1,by omega⟩;have e3:k+(j+1) - k=j+1:=by omega
   rw [e3,Nat.testBit_succ,Nat.testBit_succ];have d1:(2 * m+1) / 2=m:=by omega
   have d2:2 * m / 2=m:=by omega
   rw [d1,d2];simp
theorem Tc {x:Nat} (h0:x≠0):x &&& (x - 1) < x:=Nat.lt_of_le_of_lt Nat.and_le_right (by omega)
def Td (c:Nat):Nat→Nat
 | 0=>0
 | m+1=>256 * Td c m+c
def py (m x:Nat):Nat:=(x / 2 &&& Td 85 m)+(x &&& Td 85 m)
def y1 (b:Nat):Nat:=((b / 2) &&& 85)+(b &&& 85)
def z1 (b:Nat):Nat:=(y1 b / 4 &&& 51)+(y1 b &&& 51)
def v1 (b:Nat):Nat:=(z1 b / 16+z1 b) &&& 15
end
section
open Go.RowKit
theorem eM {k:IntKind} {a b:Int} (h:a=b):Ending.returned (.int k a) = .returned (.int k b):=by rw [h]
theorem bG {a b:Bool} (h:a=b):Ending.returned (.bool a) = .returned (.bool b):=by rw [h]
theorem rii {k m:IntKind} {a b c d:Int} (h:a=b) (h2:c=d):Ending.returned (.tuple #[.int k a,.int m c]) = .returned (.tuple #[.int k b,.int m d]):=by rw [h,h2]
theorem Cy (n a b:Int) (r:Bool) (hr:(decide (a≤n) && decide (n≤b))=r) (w:World):Calls prog 133 #[.int .i64 n,.int .i64 a,.int .i64 b] w fun e w'=>e = .returned (.bool r)∧w=w':=by
 subst hr;by_cases h1:a≤n
 ·by_cases h2:n≤b
  ·have H:Hid ((decide (a≤n) && decide (n≤b))=true):=by show _=_;simp [h1,h2]
   rw [H.out];go_enter func133,ntmps133;go_wp2;go_ret;exact ⟨rfl,rfl⟩
  ·have H:Hid ((decide (a≤n) && decide (n≤b))=false):=by show _=_;simp [h1,h2]
   rw [H.out];go_enter func133,ntmps133;go_wp2;go_ret;exact ⟨rfl,rfl⟩
 ·have H:Hid ((decide (a≤n) && decide (n≤b))=false):=by show _=_;simp [h1]
  rw [H.out];go_enter func133,ntmps133;go_wp2;go_ret;exact ⟨rfl,rfl⟩
theorem oK {n:Nat} (hn:n≤64):2 ^ n≤18446744073709551616:=Nat.pow_le_pow_right (by decide:1≤2) hn
theorem zK {n:Nat} (hn:n≤63):2 ^ n≤9223372036854775808:=Nat.pow_le_pow_right (by decide:1≤2) hn
theorem Te (n:Nat) (hn:n≤64):IntKind.u64.wrap (IntKind.u64.wrap ((2:Int) ^ n) - 1)=((2 ^ n - 1:Nat):Int):=by
 have e:((2:Int) ^ n)=((2 ^ n:Nat):Int):=by simp
 have h:=oK hn;have h1:1≤2 ^ n:=Nat.one_le_two_pow;rw [e];generalize 2 ^ n=q at *;rw [IntKind.wrap_u64,IntKind.wrap_u64];omega
theorem zL (n:Nat) (hn:n≤64) (w:World):Calls prog 134 #[.int .i64 n] w fun e w'=>e = .returned (.int .u64 ((2 ^ n - 1:Nat):Int))∧w=w':=by have H:=Lib.hid (Te n hn);go_enter func134,ntmps134;go_wp2;go_ret;exact ⟨eM H.out,rfl⟩
theorem Km (k:Nat) (hk:k < 63):IntKind.u64.wrap (((2 ^ k:Nat):Int) * 2)=((2 ^ (k+1):Nat):Int):=by have h:=zK (show k+1≤63 by omega);rw [Nat.pow_succ] at *;generalize 2 ^ k=q at *;rw [IntKind.wrap_u64];omega
theorem Qf (i:Int) (hi:i≤63) (w:World):Calls prog 128 #[.int .i64 i] w fun e w'=>e = .returned (.int .u64 ((2 ^ i.toNat:Nat):Int))∧w=w':=by
 go_enter func128,ntmps128;go_wp2_with fail;go_loop [0,3] (fun j v=>∃ (k:Nat) (q:Int),k≤i.toNat∧q=i - (k:Int)∧j = .int .i64 q∧∃ p:Int,v = .int .u64 p∧Hid (((2 ^ k:Nat):Int)=p)) (fun j _=>(intOf j).toNat)
 case atStart=>exact ⟨0,i,Nat.zero_le _,by omega,rfl,1,rfl,rfl⟩
 case round =>
  obtain ⟨k,q,hk,hq,rfl,p,rfl,HP⟩:=hrel;by_cases hlt:0 < q
  ·have HN:Hid (((2 ^ (k+1):Nat):Int)=IntKind.u64.wrap (p * 2)):=by show _=_;rw [← HP.out];exact (Km k (by omega)).symm
   have g:IntKind.i64.wrap (q - 1)=q - 1:=by simp [IntKind.wrap,IntKind.signed,IntKind.bits];omega
   go_wp2;go_round
   case rel=>exact ⟨k+1,q - 1,by omega,by omega,by congr 1;omega,_,rfl,HN⟩
   case measure=>simp [intOf];omega
  ·have HE:Hid (p=((2 ^ i.toNat:Nat):Int)):=by show _=_;rw [← HP.out,show k=i.toNat by omega]
   go_wp2;go_ret;exact ⟨eM HE.out,rfl⟩
end
section
open Go.RowKit Go.Shelf
structure Abide {α:Type} (B:Nat) (J:List α→World→Prop):Prop where
 cell:∀ pre X v,J pre X→J pre (X.setCell ⟨B,0,none⟩ v)
 drew:∀ pre X m,J pre X→J pre (X.drewN m)
def Nn {α:Type} (F:Fence) (n:Nat) (P:Program) (g:Nat) (lb:Array Value) (encs:α→Array Value) (xs:List α) (B:Nat) (Kw:World→Prop) (w:World):Prop :=
 ∀ (l:Nat) (J:List α→World→Prop) (W:World),W.heap[B]?=w.heap[B]?→Abide B J→(∀ pre X,J pre X→Kw X) →
  (∀ pre x rest X,xs=pre++x::rest→J pre X→YieldAt F (n - 1) P l (encs x) X fun e X'=>e = .returned (.bool true)∧J (pre++[x]) X'∧X'.heap[B]?=X.heap[B]?) →
  J [] W →
  CallsIn F n P g (#[.func (.yield l) #[] #[]]++lb) W fun e W'=>(∃ v,e = .returned v)∧J xs W'
def Tf {α:Type} (A B:Nat) (I:List α→World→Prop) (ys:List α) (W:World):Exit→Act→World→Prop
 | .normal,_,W'=>KeepsFrom A W W'∧W'.heap[B]?=W.heap[B]?∧I ys W'
 | _,_,_=>False
variable {F:Fence} {n:Nat} {P:Program}
theorem Ko {α:Type} {g:Operand} {ps:Array Tmp} {assign body:Code} {Q:Exit→Act→World→Prop} {a:Act} {w:World}
  (hro:F.round=none) (h1:1≤n) {gf:Nat} {lb:Array Value} (hg:a.eval g = .func (.func gf) #[] lb) (hFg:F.fn gf) (eg:∀ args w,(callFunc gf args).run P w = .ok (.enter gf args) w)
  {encs:α→Array Value} {xs:List α} {B:Nat} {Kw:World→Prop} (hB:B < w.heap.size) (hseq:Nn F (n - 1) P gf lb encs xs B Kw w) (hps:∀ x,(encs x).size=ps.size)
  (I:List α→World→Prop) (hI:OwnFrom w.heap.size I) (hA:Abide B I) (hKw:∀ pre X,I pre X→Kw X) (h0:I [] w) (a₁:α→Act)
  (hassign:∀ (l:Nat) (x:α) (W:World) (K:Act→World→Prop),K (a₁ x) W →
   assign.wpIn (F.inRound l) (n - 1 - 1) P (Exit.then K (fun _ _ _=>False)) { tmps:=(ps.zip (encs x)).foldl (fun t (p,v)=>t.setIfInBounds p v) a.tmps,defers:=[] } W)
  (hbody:∀ (l:Nat) (pre:List α) (x:α) (rest:List α) (W:World),xs=pre++x::rest→I pre W→body.wpIn (F.inRound l) (n - 1 - 1) P (Tf w.heap.size B I (pre++[x]) W) (a₁ x) W)
  (hdone:∀ (D:Nat) (W:World),w.heap.size≤D→I xs W→W.heap[D]?=some (.deferred (some []))→Q .normal { a with defers:={ target:=.collected D,args:=#[] }::a.defers } W) :
  (Code.rangeFunc g ps assign body).wpIn F n P Q a w:=by
 refine wpIn_rangeFunc fun fn hfn=>?_
 rw [hro]
 let rec_:LoopState→Loop:=fun st=>{ state:=st,pending:=none,fn,tmps:=a.tmps,params:=ps,assign,body,defers:=w.heap.size }
 have hsz0:(w.alloc (.deferred (some []))).heap.size=w.heap.size+1:=by simp
 obtain ⟨W1,hW1⟩:∃ W1,(w.alloc (.deferred (some []))).alloc (.loop (rec_ .ready))=W1:=⟨_,rfl⟩;have hL1:W1.heap[w.heap.size+1]?=some (.loop (rec_ .ready)):=by rw [← hW1,← hsz0];exact World.alloc_heap_new _ _
 have hK1:W1.heap[w.heap.size]?=some (.deferred (some [])):=by rw [← hW1];exact (Below.heap_alloc _ _ _ (by simp)).trans (World.alloc_heap_new w _)
 have hI1:I [] W1:=by rw [← hW1];exact hI _ _ _ none (hI _ _ _ none h0 (World.grownBy_alloc w _ none) (fun r e=>by cases e)) (World.grownBy_alloc _ _ none) (fun r e=>by cases e)
 have hB1:W1.heap[B]?=w.heap[B]?:=by rw [← hW1];exact (Below.heap_alloc _ _ _ (by simp;omega)).trans (Below.heap_alloc _ _ _ hB)
 refine ⟨w.heap.size+1,[{ target:=.collected w.heap.size,args:=#[] }],W1,{ target:=.fn (.func gf) lb,args:=#[.func (.yield (w.heap.size+1)) #[] #[]] },W1,gf,
  #[.func (.yield (w.heap.size+1)) #[] #[]]++lb,W1,?_,?_,?_,?_,fun _=>h1,?_⟩
 ·rw [← hW1];exact run_enterLoop_outer _ _ _ _ _
 ·simp only [resolve,hg];simp [go_sem]
 ·intro f' hf';simp [Target.leads] at hf';subst hf';exact hFg
 ·simp [invoke,go_sem,eg]
 have other:∀ (X:World) (v:Value) (k:Nat),B < w.heap.size→w.heap.size≤k→(X.setCell ⟨B,0,none⟩ v).heap[k]?=X.heap[k]?:=fun X v k h1 h2=>Below.heap_setCell _ _ _ _ (by show k≠B;omega)
 refine (hseq (w.heap.size+1) (fun pre W=>I pre W∧W.heap[w.heap.size+1]?=some (.loop (rec_ .ready))∧W.heap[w.heap.size]?=some (.deferred (some []))) W1 hB1
  ⟨fun pre X v h=>⟨hA.cell _ _ _ h.1,(other X v _ hB (by omega)).trans h.2.1,(other X v _ hB (by omega)).trans h.2.2⟩,fun pre X m h=>⟨hA.drew _ _ _ h.1,h.2.1,h.2.2⟩⟩ (fun pre X h=>hKw _ _ h.1) ?_ ⟨hI1,hL1,hK1⟩).mono ?_
 ·rintro pre x rest W hx ⟨hi,hl,hk⟩;have hlt:w.heap.size+1 < W.heap.size:=(Array.getElem?_eq_some_iff.1 hl).1;have hy:=run_yield (P:=P) (args:=encs x) hl (hps x);refine ⟨fn,_,assign,body,hy,roundIn_of_wpIn hfn (hassign _ x W _ ⟨_,run_beginRound hl rfl,?_⟩)⟩;have hl2:(W.putObj (w.heap.size+1) (.loop (rec_ .busy))).heap[w.heap.size+1]?=some (.loop (rec_ .busy)):=World.putObj_heap_same hlt;have hk2:(W.putObj (w.heap.size+1) (.loop (rec_ .busy))).heap[w.heap.size]?=some (.deferred (some [])):=(World.putObj_heap_other (by omega)).trans hk;refine wpIn_mono (hbody _ pre x rest _ hx (hI.putObj _ hi (by omega) hl rfl)) ?_;rintro e a3 W3 hp;cases e with
  | normal =>
   obtain ⟨hk3,hb3,hi3⟩:=hp;have hl3:=hk3.same _ _ (by omega) hl2 rfl;have hq3:=hk3.same _ _ (Nat.le_refl _) hk2 rfl;have hr:=run_endRound (P:=P) none hl3;refine ⟨_,_,hr,rfl,⟨hI.putObj _ hi3 (by omega) hl3 rfl,World.putObj_heap_same (Array.getElem?_eq_some_iff.1 hl3).1,(World.putObj_heap_other (by omega)).trans hq3⟩,?_⟩;exact (World.putObj_heap_other (by omega)).trans (hb3.trans (World.putObj_heap_other (by omega)))
  | ret=>exact hp.elim
  | exit id=>exact hp.elim
  | goto t=>exact hp.elim
  | panic ch=>exact hp.elim
  | outgrown=>exact hp.elim
 ·rintro e W2 ⟨⟨v,rfl⟩,hi,hl,hk⟩;exact ⟨none,_,run_endLoop (P:=P) hl (by simp [rec_]),hdone _ _ (Nat.le_refl _) (hI.putObj _ hi (by omega) hl rfl) ((World.putObj_heap_other (by omega)).trans hk)⟩
end
section
open Go.RowKit Go.Shelf
attribute [local go_sem] Oper.semAt_some
def mem (s:Nat):List Nat:=(List.range 64).filter s.testBit
theorem Tg:mem 0=[]:=by simp [mem]
theorem E3 {s x:Nat} (h:x∈mem s):x < 64:=by unfold mem at h;rw [List.mem_filter] at h;exact List.mem_range.1 h.1
theorem E4 {s x:Nat} (h:x∈mem s):s.testBit x=true:=by unfold mem at h;rw [List.mem_filter] at h;exact h.2
end
section
open Go.RowKit
theorem E5 (b j:Nat) (hb:b < 18446744073709551616):(18446744073709551615 - b).testBit j=(decide (j < 64) && !b.testBit j):=by
 have e:18446744073709551615 - b=2 ^ 64 - (b+1):=by omega
 rw [e,Nat.testBit_two_pow_sub_succ (by simpa using hb)]
theorem Th (n j:Nat):(2 ^ n - 1).testBit j=decide (j < n):=Nat.testBit_two_pow_sub_one n j
theorem E6 {n:Nat} (hn:n≤64):2 ^ n - 1 < 18446744073709551616:=by have:=oK hn;have:=Nat.two_pow_pos n;omega
theorem E7 {x j:Nat} (hx:x < 18446744073709551616) (h:x.testBit j=true):j < 64:=by
 rcases Nat.lt_or_ge j 64 with h1 | h1
 ·exact h1
 ·rw [Nat.testBit_lt_two_pow (Nat.lt_of_lt_of_le hx (Nat.pow_le_pow_right (by omega:0 < 2) h1))] at h;cases h
def tF (n:Int):Int:=if 0≤n∧n≤64 then ((2 ^ n.toNat - 1:Nat):Int) else 0
def mT (n:Int):Int:=if 0≤n∧n≤64 then 0 else 10
theorem qR (n:Int) (r e0:Int) (hr:tF n=r) (he:mT n=e0) (w:World):Calls prog 127 #[.int .i64 n] w fun e w'=>e = .returned (.tuple #[.int .u64 r,.int .i64 e0])∧w=w':=by
 by_cases h:0≤n∧n≤64
 ·have HR:Hid (((2 ^ n.toNat - 1:Nat):Int)=r):=by show _=_;rw [← hr,tF,if_pos h]
  have HE:Hid (0=e0):=by show _=_;rw [← he,mT,if_pos h]
  have hw:=Lib.hid (show (decide ((0:Int)≤n) && decide (n≤64))=true by simp [h.1,h.2]);obtain ⟨m,rfl⟩:∃ m:Nat,n=m:=⟨n.toNat,by omega⟩;have hm:m≤64:=by omega
  clear hr he h;go_enter func127,ntmps127;go_wp2_with fail;refine (Cy _ 0 64 true hw.out _).mono ?_;rintro e w1 ⟨rfl,rfl⟩;go_wp2_with fail;refine (zL m hm _).mono ?_;rintro e w1 ⟨rfl,rfl⟩;go_wp2;go_ret2;exact ⟨rii (by simpa using HR.out) HE.out,rfl⟩
 ·have HR:Hid (0=r):=by show _=_;rw [← hr,tF,if_neg h]
  have HE:Hid (10=e0):=by show _=_;rw [← he,mT,if_neg h]
  have hw:=Lib.hid (show (decide ((0:Int)≤n) && decide (n≤64))=false by simp;omega);clear hr he h;go_enter func127,ntmps127;go_wp2_with fail;refine (Cy _ 0 64 false hw.out _).mono ?_;rintro e w1 ⟨rfl,rfl⟩;go_wp2;go_ret2;exact ⟨rii HR.out HE.out,rfl⟩
theorem Qg (k:Nat) (hk:k < 64):IntKind.u64.wrap (((2 ^ k - 1:Nat):Int)+((2 ^ k:Nat):Int))=((2 ^ (k+1) - 1:Nat):Int):=by have h:=zK (show k≤63 by omega);have hp:=Nat.two_pow_pos k;rw [Nat.pow_succ] at *;generalize 2 ^ k=q at *;rw [IntKind.wrap_u64];omega
theorem Hf (n:Int) (r e0:Int) (hr:tF n=r) (he:mT n=e0) (w:World):Calls prog 115 #[.int .i64 n] w fun e w'=>e = .returned (.tuple #[.int .u64 r,.int .i64 e0])∧w=w':=by
 by_cases h:0≤n∧n≤64
 ·have HR:Hid (((2 ^ n.toNat - 1:Nat):Int)=r):=by show _=_;rw [← hr,tF,if_pos h]
  have HE:Hid (0=e0):=by show _=_;rw [← he,mT,if_pos h]
  obtain ⟨m,rfl⟩:∃ m:Nat,n=m:=⟨n.toNat,by omega⟩;have hm:m≤64:=by omega
  clear hr he h;go_enter func115,ntmps115;go_wp2_with fail;go_loop [4,5] (fun s i=>∃ (k:Nat) (p:Int),k≤m∧i = .int .i64 k∧s = .int .u64 p∧Hid (((2 ^ k - 1:Nat):Int)=p)) (fun _ i=>m - (intOf i).toNat)
  case atStart=>exact ⟨0,0,Nat.zero_le _,rfl,rfl,rfl⟩
  case round =>
   obtain ⟨k,p,hk,rfl,rfl,HP⟩:=hrel;by_cases hlt:k < m
   ·have HN:Hid (((2 ^ (k+1) - 1:Nat):Int)=IntKind.u64.wrap (p+((2 ^ k:Nat):Int))):=by show _=_;rw [← HP.out];exact (Qg k (by omega)).symm
    obtain ⟨q,hq⟩:∃ q:Nat,2 ^ k=q:=⟨_,rfl⟩;have HQ:=Lib.hid hq;rw [hq] at HN;clear hq;go_wp2_with fail;refine (Qf k (by omega) _).mono ?_;rintro e w1 ⟨rfl,rfl⟩;rw [show (k:Int).toNat=k from rfl,HQ.out];go_wp2;go_round
    case rel=>exact ⟨k+1,_,by omega,by go_num,rfl,HN⟩
    case measure=>simp [intOf];omega
   ·have HF:Hid (p=r):=by show _=_;rw [← HP.out,← HR.out,show k=m by omega];rfl
    go_wp2;go_ret2;exact ⟨rii HF.out HE.out,rfl⟩
 ·have HR:Hid (0=r):=by show _=_;rw [← hr,tF,if_neg h]
  have HE:Hid (10=e0):=by show _=_;rw [← he,mT,if_neg h]
  clear hr he;by_cases h0:n < 0
  ·clear h;go_enter func115,ntmps115;go_wp2;go_ret2;exact ⟨rii HR.out HE.out,rfl⟩
  ·have h1:64 < n:=by omega
   clear h;go_enter func115,ntmps115;go_wp2;go_ret2;exact ⟨rii HR.out HE.out,rfl⟩
def mU (f:Nat) (i:Int) (r:Int) (b:Bool):Prop :=
 (b=true∧∃ k:Nat,r=k∧k < 64∧i≤k∧f.testBit k=true∧∀ j:Nat,j < k→i≤j→f.testBit j=false) ∨
 (b=false∧r=0∧∀ j:Nat,j < 64→i≤j→f.testBit j=false)
theorem Cz (f:Nat) (i:Int):∃ r b,mU f i r b:=by
 by_cases h:∃ k:Nat,k < 64∧i≤k∧f.testBit k=true
 ·have hm:∀ n:Nat,(∃ k:Nat,k < n∧i≤k∧f.testBit k=true)→∃ k:Nat,k < n∧i≤k∧f.testBit k=true∧∀ j:Nat,j < k→i≤j→f.testBit j=false:=by
   intro n
   induction n with
   | zero=>rintro ⟨k,hk,_⟩;omega
   | succ n ih =>
    rintro ⟨k,hk,h1,h2⟩;by_cases hx:∃ k:Nat,k < n∧i≤k∧f.testBit k=true
    ·obtain ⟨q,a,b,c,d⟩:=ih hx;exact ⟨q,by omega,b,c,d⟩
    ·refine ⟨k,hk,h1,h2,fun j hj hi=>?_⟩;cases hb:f.testBit j
     ·rfl
     ·exact absurd ⟨j,by omega,hi,hb⟩ hx
  obtain ⟨k,a,b,c,d⟩:=hm 64 h;exact ⟨k,true,.inl ⟨rfl,k,rfl,a,b,c,d⟩⟩
 ·refine ⟨0,false,.inr ⟨rfl,rfl,fun j hj hi=>?_⟩⟩;cases hb:f.testBit j
  ·rfl
  ·exact absurd ⟨j,hj,hi,hb⟩ h
theorem lO {f:Nat} {i r r':Int} {b b':Bool} (h:mU f i r b) (h':mU f i r' b'):r=r'∧b=b':=by
 rcases h with ⟨rfl,k,rfl,a1,a2,a3,a4⟩ | ⟨rfl,rfl,a⟩
 ·rcases h' with ⟨rfl,k',rfl,b1,b2,b3,b4⟩ | ⟨rfl,rfl,b⟩
  ·have:k=k':=by
    rcases Nat.lt_trichotomy k k' with h | h | h
    ·have:=b4 k h a2;rw [a3] at this;cases this
    ·exact h
    ·have:=a4 k' h b2;rw [b3] at this;cases this
   exact ⟨by rw [this],rfl⟩
  ·have:=b k a1 a2;rw [a3] at this;cases this
 ·rcases h' with ⟨rfl,k',rfl,b1,b2,b3,b4⟩ | ⟨rfl,rfl,b⟩
  ·have:=a k' b1 b2;rw [b3] at this;cases this
  ·exact ⟨rfl,rfl⟩
def restN (f m:Nat):Nat:=f &&& (18446744073709551615 - (2 ^ m - 1))
theorem oL (f m:Nat) (hm:m≤64) (hf:f < 18446744073709551616) (j:Nat):(restN f m).testBit j=(f.testBit j && decide (m≤j)):=by
 unfold restN;rw [Nat.testBit_and,E5 _ _ (E6 hm),Th];cases hb:f.testBit j
 ·rfl
 ·have:=E7 hf hb;simp [this];by_cases h:m≤j
  ·simp [h]
  ·simp [h];omega
theorem Hg (f m:Nat) (hf:f < 18446744073709551616):restN f m < 18446744073709551616:=Nat.lt_of_le_of_lt Nat.and_le_left hf
theorem E8 (f:Nat) (i:Int) (m:Nat) (hm:m≤63) (hi:m=i.toNat) (hf:f < 18446744073709551616) (r:Int) (b:Bool) (h:mU f i r b) :
  (restN f m=0∧r=0∧b=false)∨(restN f m≠0∧r=(Lib.ctz 64 (restN f m):Nat)∧b=true):=by
 by_cases h0:restN f m=0
 ·left
  have:mU f i 0 false:=.inr ⟨rfl,rfl,fun j hj hij=>by
   have:=oL f m (by omega) hf j;rw [h0,Nat.zero_testBit] at this;cases hb:f.testBit j
   ·rfl
   ·rw [hb,Bool.true_and] at this;have h9:=decide_eq_false_iff_not.1 this.symm;omega⟩
  obtain ⟨e1,e2⟩:=lO h this;exact ⟨h0,e1,e2⟩
 ·right;have hlt:=Hg f m hf;have b1:=Nm h0 hlt;have b2:=fun {j}=>@zJ _ h0 hlt j
  obtain ⟨k,hk⟩:∃ k,Lib.ctz 64 (restN f m)=k:=⟨_,rfl⟩;rw [hk] at b1;rw [oL f m (by omega) hf] at b1;simp only [Bool.and_eq_true,decide_eq_true_eq] at b1
  have:mU f i k true:=.inl ⟨rfl,k,rfl,E7 hf b1.1,by omega,b1.1,fun j hj hij=>by
   have:=b2 (j:=j) (by rw [hk];exact hj);rw [oL f m (by omega) hf] at this;cases hb:f.testBit j
   ·rfl
   ·rw [hb,Bool.true_and] at this;have h9:=decide_eq_false_iff_not.1 this;omega⟩
  obtain ⟨e1,e2⟩:=lO h this;exact ⟨h0,by rw [hk];exact e1,e2⟩
theorem rib {k:IntKind} {a b:Int} {c d:Bool} (h:a=b) (h2:c=d):Ending.returned (.tuple #[.int k a,.bool c]) = .returned (.tuple #[.int k b,.bool d]):=by rw [h,h2]
def fL (w:World) (a:Option Addr) (vs:List Value):Prop :=
 vs=[]∨∃ b off,a=some ⟨b,off,none⟩∧∀ (i:Nat) v,vs[i]?=some v→w.cell? ⟨b,off+i,none⟩=some v
theorem jF {w:World} {p:Addr} {v:Value} (h:w.cell? p=some v):p.block < w.heap.size:=by
 unfold World.cell? at h;rcases Nat.lt_or_ge p.block w.heap.size with h' | h'
 ·exact h'
 ·simp [Array.getElem?_eq_none h'] at h
theorem fL.below {w w':World} {a:Option Addr} {vs:List Value} (h:fL w a vs) (hb:Below w.heap.size w w'):fL w' a vs:=by
 rcases h with h | ⟨b,off,ha,hc⟩
 ·exact .inl h
 ·exact .inr ⟨b,off,ha,fun i v hi=>(hb.cell (p:=⟨b,off+i,none⟩) (jF (hc i v hi))).trans (hc i v hi)⟩
theorem fL.at_ {w:World} {a:Option Addr} {vs:List Value} (h:fL w a vs) {i:Nat} (hi:i < vs.length) :
  ∃ b off v,a=some ⟨b,off,none⟩∧vs[i]?=some v∧b < w.heap.size∧w.cell? ⟨b,off+i,none⟩=some v:=by
 rcases h with h | ⟨b,off,ha,hc⟩
 ·subst h;simp at hi
 ·have e:vs[i]?=some vs[i]:=by simp [hi]
  exact ⟨b,off,vs[i],ha,e,jF (hc i _ e),hc i _ e⟩
theorem fL.of_own {w:World} {base:Nat} {E:Nat} {v:Value} {n:Nat} {vs:List Value} (h:w.ownsRow base E 1 v n vs) :
  n=vs.length∧∃ a cap,v = .slice a vs.length cap∧fL w a vs∧∀ ad,a=some ad→base≤ad.block∧ad.block < w.heap.size:=by
 have hl:=h.1;have hn:n=vs.length:=by omega
 refine ⟨hn,?_⟩;rcases h.2 with ⟨rfl,h0⟩ | ⟨g,cap,cur,rfl,hg,hh,hnc,hcm,hcs,ht⟩
 ·have:vs=[]:=List.length_eq_zero_iff.1 (by omega)
  subst this;exact ⟨none,0,rfl,.inl rfl,fun ad e=>by cases e⟩
 ·subst hn;refine ⟨some ⟨g,0,none⟩,cap,rfl,.inr ⟨g,0,rfl,fun i x hi=>?_⟩,fun ad e=>by cases e;exact ⟨hg,(Array.getElem?_eq_some_iff.1 hh).1⟩⟩;have hi2:i < vs.length:=(List.getElem?_eq_some_iff.1 hi).1;have c0:=h.cellAt i (by omega);rw [Nat.zero_add];exact c0.trans hi
theorem zM {w w':World} {base size n:Nat} {E:Nat} {v:Value} {xs:List Value} (h:w.ownsRow base E size v n xs) (hb:Below w.heap.size w w'):w'.ownsRow base E size v n xs:=by
 refine ⟨h.1,?_⟩;rcases h.2 with h2 | ⟨g,cap,cur,hv,hg,hh,r⟩
 ·exact .inl h2
 ·exact .inr ⟨g,cap,cur,hv,hg,by rw [hb.block g (Array.getElem?_eq_some_iff.1 hh).1];exact hh,r⟩
theorem eA (w:World) (o:Obj):(w.alloc o).heap[w.heap.size]?=some o:=by show (w.heap.push o)[w.heap.size]?=some o;simp
end
end Go.Proofs.YtbmieipifgailaaGreatDoor
namespace Go.Proofs
open Go.Shelf
def Tryz.laysNm215_ren:Go.Shelf.Ren:=⟨fun | 15=>50 | n=>n,fun | 22=>26 | 3=>3 | 4=>4 | n=>n,fun | n=>n⟩
theorem Tryz.laysNm215:Go.Proofs.Lays2.n15 prog Tryz.laysNm215_ren:={
 mixed:=by kernel_rfl
 f15:=func50.trans (congrArg some (by kernel_rfl))
 t3:=underlying3
 a3:=isAgg3
 z3:=sizeOf3
 v3:=zeroValue3
 t4:=underlying4
 a4:=isAgg4
 z4:=sizeOf4
 v4:=zeroValue4
 t22:=underlying26
 a22:=isAgg26
 z22:=sizeOf26
 v22:=zeroValue26
 i3:=by kernel_rfl }
open Go.RowKit Go.Lib in
theorem Tryz.slices_Clone_int (b off n c:Nat) (zs:List Int) (w:World) (hz:n≤zs.length) (hbig:n * 8≤140737488355328) (hc:∀ j,j < zs.length→w.cell? ⟨b,off+j,none⟩=some (.int .i64 (zs.getD j 0))) :
  Calls prog 50 #[.slice (some ⟨b,off,none⟩) n c] w fun e w'=>∃ v',e = .returned v'∧w'.ownsRow w.heap.size 3 1 v' n ((zs.take n).map (Value.int .i64))∧v'≠.slice none 0 0∧Below w.heap.size w w':=Any.slices_Clone_int Tryz.laysNm215 b off n c zs w hz hbig hc
open Go.RowKit Go.Lib in
theorem Tryz.slices_Clone_int_nil (n c:Nat) (w:World) :
  Calls prog 50 #[.slice none n c] w fun e w'=>e = .returned (.slice none 0 0)∧w'=w:=Any.slices_Clone_int_nil Tryz.laysNm215 n c w
open Go.RowKit Go.Lib in
theorem Tryz.slices_Clone_int_zero (a:Addr) (c:Nat) (w:World) :
  Calls prog 50 #[.slice (some a) 0 c] w fun e w'=>∃ v',e = .returned v'∧w'.ownsRow w.heap.size 3 1 v' 0 []∧v'≠.slice none 0 0∧Below w.heap.size w w':=Any.slices_Clone_int_zero Tryz.laysNm215 a c w
end Go.Proofs
namespace Go.Proofs.YtbmieipifgailaaGreatDoor
open Go.Proofs.Tryz
section
open Go.Proofs.Tryz
open Go.RowKit
def u64s (l:List Nat):List Value:=l.map fun r:Nat=>Value.int .u64 (r:Int)
theorem fV (l:List Nat):(u64s l).length=l.length:=by simp [u64s]
theorem C0 (l:List Nat) (x:Nat):u64s (l++[x])=u64s l++[Value.int .u64 (x:Int)]:=by simp [u64s]
theorem E9 {l:List Nat} {i:Nat} {v:Value} (h:(u64s l)[i]?=some v):∃ r,l[i]?=some r∧v = .int .u64 (r:Int):=by
 unfold u64s at h;rw [List.getElem?_map] at h;cases hr:l[i]? with
 | none=>rw [hr] at h;cases h
 | some r=>rw [hr] at h;exact ⟨r,rfl,(Option.some.inj h).symm⟩
structure FAt (w:World) (a:Option Addr) (gen:Nat) (rows:List Nat):Prop where
 row:fL w a (u64s rows)
 gen:gen < 18446744073709551616
 all:∀ r∈rows,r < 18446744073709551616
 len:rows.length≤100
theorem FAt.below {w w':World} {a:Option Addr} {gen:Nat} {rows:List Nat} (h:FAt w a gen rows) (hb:Below w.heap.size w w'):FAt w' a gen rows:=⟨h.row.below hb,h.gen,h.all,h.len⟩
theorem FAt.at_ {w:World} {a:Option Addr} {gen:Nat} {rows:List Nat} (h:FAt w a gen rows) {i:Nat} (hi:i < rows.length) :
  ∃ b off r,a=some ⟨b,off,none⟩∧rows[i]?=some r∧r < 18446744073709551616∧b < w.heap.size∧w.cell? ⟨b,off+i,none⟩=some (.int .u64 (r:Int)):=by
 obtain ⟨b,off,v,ha,hv,hb,hc⟩:=h.row.at_ (i:=i) (by rw [fV];exact hi);obtain ⟨r,hr,rfl⟩:=E9 hv;exact ⟨b,off,r,ha,hr,h.all r (List.mem_of_getElem? hr),hb,hc⟩
def gG (gen:Nat) (a:Option Addr) (len cap:Nat):Value:=.agg #[.int .u64 (gen:Int),.slice a len cap]
def fM (n:Int):Bool:=decide (0≤n) && decide (n≤64)
theorem Fa (n:Int) (r:Bool) (hr:fM n=r) (w:World):Calls prog 96 #[.int .i64 n] w fun e w'=>e = .returned (.bool r)∧w=w':=by
 subst hr;by_cases h1:0≤n
 ·by_cases h2:n≤64
  ·have H:Hid (fM n=true):=by show _=_;simp [fM,h1,h2]
   rw [H.out];go_enter func96,ntmps96;go_wp2;go_ret;exact ⟨rfl,rfl⟩
  ·have H:Hid (fM n=false):=by show _=_;simp [fM,h2]
   rw [H.out];go_enter func96,ntmps96;go_wp2;go_ret;exact ⟨rfl,rfl⟩
 ·have H:Hid (fM n=false):=by show _=_;simp [fM,h1]
  rw [H.out];go_enter func96,ntmps96;go_wp2;go_ret;exact ⟨rfl,rfl⟩
theorem or_is (a b r:Nat) (ha:a < 18446744073709551616) (hb:b < 18446744073709551616) (hr:a ||| b=r) (w:World):Calls prog 88 #[.int .u64 a,.int .u64 b] w fun e w'=>e = .returned (.int .u64 r)∧w=w':=by
 have H:Hid (bits .or .u64 (a:Int) (b:Int)=(r:Int)):=by show _=_;rw [u64_or_nat a b ha hb,hr]
 go_enter func88,ntmps88;go_wp2;go_ret;exact ⟨eM H.out,rfl⟩
def nN (m s:Nat):Bool:=restN s m == 0
theorem mV {m s:Nat} (hm:m≤64) (hs:s < 18446744073709551616):nN m s=true↔s < 2 ^ m:=by
 unfold nN;rw [beq_iff_eq];constructor
 ·intro h;apply Nat.lt_pow_two_of_testBit;intro i hi;have:=oL s m hm hs i;rw [h,Nat.zero_testBit] at this;cases hb:s.testBit i
  ·rfl
  ·rw [hb] at this;simp at this;omega
 ·intro h;apply Nat.eq_of_testBit_eq;intro i;rw [oL s m hm hs,Nat.zero_testBit];by_cases hi:m≤i
  ·rw [Nat.testBit_lt_two_pow (Nat.lt_of_lt_of_le h (Nat.pow_le_pow_right (by omega) hi))];rfl
  ·simp [hi]
def Kp (n:Int) (s:Nat):Bool:=if fM n=true then nN n.toNat s else s == 0
theorem Hh {n:Int} (h:fM n=true):tF n=((2 ^ n.toNat - 1:Nat):Int)∧mT n=0:=by simp only [fM,Bool.and_eq_true,decide_eq_true_eq] at h;exact ⟨by rw [tF,if_pos h],by rw [mT,if_pos h]⟩
theorem xR {n:Int} (h:fM n=false):tF n=0∧mT n=10:=by
 have:¬ (0≤n∧n≤64):=by intro x;simp [fM,x.1,x.2] at h
 exact ⟨by rw [tF,if_neg this],by rw [mT,if_neg this]⟩
theorem qS (s m:Nat) (hs:s < 18446744073709551616) (hm:m≤64):bits BinOp.andNot IntKind.u64 (s:Int) ((2 ^ m - 1:Nat):Int)=((restN s m:Nat):Int):=u64_andNot_nat s _ hs (E6 hm)
theorem rY {n:Int} (h:fM n=true):∃ m:Nat,n=m∧m≤64:=by simp only [fM,Bool.and_eq_true,decide_eq_true_eq] at h;exact ⟨n.toNat,by omega,by omega⟩
theorem Hi (s:Nat) (hs:s < 18446744073709551616):bits BinOp.andNot IntKind.u64 (s:Int) 0=(s:Int):=by
 have h:=u64_andNot_nat s 0 hs (by decide);have e:s &&& (18446744073709551615 - 0)=s:=by
  apply Nat.eq_of_testBit_eq;intro i;rw [Nat.testBit_and,E5 0 i (by decide),Nat.zero_testBit];cases hb:s.testBit i
  ·rfl
  ·simp [E7 hs hb]
 rw [e] at h;exact h
theorem hQ (n:Int) (s:Nat) (hs:s < 18446744073709551616) (r:Bool) (hr:Kp n s=r) (w:World):Calls prog 98 #[.int .i64 n,.int .u64 s] w fun e w'=>e = .returned (.bool r)∧w=w':=by
 cases hd:fM n
 ·obtain ⟨f1,f2⟩:=xR hd;have F1:=Lib.hid f1;have F2:=Lib.hid f2;have HA:=Hi s hs;have HR:Hid (((s:Int) == 0)=r):=by show _=_;rw [← hr,Kp,hd];simp only [Bool.false_eq_true,if_false];rw [Bool.eq_iff_iff];simp
  clear hd f1 f2 hr hs;go_enter func98,ntmps98;go_wp2_with fail;refine (Hf n 0 10 F1.out F2.out _).mono ?_;rintro e w1 ⟨rfl,rfl⟩;go_wp2;go_ret;exact ⟨bG HR.out,rfl⟩
 ·obtain ⟨m,rfl,hm⟩:=rY hd;obtain ⟨f1,f2⟩:=Hh hd;have F1:=Lib.hid f1;have F2:=Lib.hid f2;have HA:=qS s m hs hm;have HR:Hid ((((restN s m:Nat):Int) == 0)=r):=by show _=_;rw [← hr,Kp,hd,if_pos rfl];unfold nN;rw [Int.toNat_natCast,Bool.eq_iff_iff];simp
  obtain ⟨q,hq⟩:∃ q,restN s m=q:=⟨_,rfl⟩;rw [hq] at HA HR;obtain ⟨p,hp⟩:∃ p:Nat,2 ^ m - 1=p:=⟨_,rfl⟩;rw [Int.toNat_natCast,hp] at F1;rw [hp] at HA;clear hd f1 f2 hr hs hq hp;go_enter func98,ntmps98;go_wp2_with fail;refine (Hf m p 0 F1.out F2.out _).mono ?_;rintro e w1 ⟨rfl,rfl⟩;go_wp2;go_ret;exact ⟨bG HR.out,rfl⟩
def fE (m gen:Nat) (rows:List Nat):Bool:=decide (rows.length=m) && (nN m gen && rows.all (nN m))
def nR (n:Int) (gen:Nat) (rows:List Nat):Int:=if fM n=true then (if fE n.toNat gen rows=true then 0 else 30) else 31
theorem zN {l:List Nat} {p:Nat→Bool} {k:Nat} (h:∀ i r,i < k→l[i]?=some r→p r=true) (hk:l.length≤k):l.all p=true:=by rw [List.all_eq_true];intro x hx;obtain ⟨i,hi⟩:=List.getElem?_of_mem hx;exact h i x (by have:=(List.getElem?_eq_some_iff.1 hi).1;omega) hi
theorem Fb {l:List Nat} {p:Nat→Bool} {i r:Nat} (h:l[i]?=some r) (hp:p r=false):l.all p=false:=by rw [List.all_eq_false];exact ⟨r,List.mem_of_getElem? h,by rw [hp];simp⟩
theorem Qh (n:Int) (a:Option Addr) (cap gen:Nat) (rows:List Nat) (w:World) (hf:FAt w a gen rows) (r:Int) (hr:nR n gen rows=r) :
  Calls prog 112 #[.int .i64 n,gG gen a rows.length cap] w fun e w'=>e = .returned (.int .i64 r)∧Below w.heap.size w w':=by
 have HF:=Lib.hid hf;have hgen:=hf.gen;have hlen:=hf.len;have hB0:Below w.heap.size w (w.alloc (.cells #[.int .u64 (gen:Int),.slice a rows.length cap] 42)):=(Below.refl _ _).alloc (Nat.le_refl _) _;have HF1:Hid (FAt (w.alloc (.cells #[.int .u64 (gen:Int),.slice a rows.length cap] 42)) a gen rows):=hf.below hB0;obtain ⟨len,hl⟩:∃ len,rows.length=len:=⟨_,rfl⟩;have HL:=Lib.hid hl;rw [hl] at hB0 HF1 hlen ⊢;unfold gG;clear hf hl;cases hd:fM n
 ·obtain ⟨f1,f2⟩:=xR hd;have F1:=Lib.hid f1;have F2:=Lib.hid f2;have HR:Hid (31=r):=by show _=_;rw [← hr,nR,hd];rfl
  clear hd f1 f2 hr;go_enter func112,ntmps112;go_wp2_with fail;refine (qR n 0 10 F1.out F2.out _).mono ?_;rintro e w1 ⟨rfl,rfl⟩;go_wp2;go_ret;exact ⟨eM HR.out,hB0⟩
 ·obtain ⟨m,rfl,hm⟩:=rY hd;obtain ⟨f1,f2⟩:=Hh hd;have F1:=Lib.hid f1;have F2:=Lib.hid f2;have HA:=qS gen m hgen hm;have HRR:Hid ((if fE m gen rows=true then (0:Int) else 30)=r):=by show _=_;rw [← hr,nR,hd,if_pos rfl,Int.toNat_natCast]
  have HAR:Hid (∀ r:Nat,r < 18446744073709551616→bits BinOp.andNot IntKind.u64 (r:Int) ((2 ^ m - 1:Nat):Int)=((restN r m:Nat):Int)):=fun r hr=>qS r m hr hm
  obtain ⟨p,hp⟩:∃ p:Nat,2 ^ m - 1=p:=⟨_,rfl⟩;rw [Int.toNat_natCast,hp] at F1;rw [hp] at HA HAR;clear hd f1 f2 hr hp;by_cases hlm:len=m
  ·subst hlm;cases hig:nN len gen
   ·have HR:Hid (30=r):=by show _=_;rw [← HRR.out,fE,hig];simp
    have hq0:(((restN gen len:Nat):Int) != 0)=true:=by
     unfold nN at hig
     have:restN gen len≠0:=by simpa using hig
     simp;omega
    obtain ⟨q,hq⟩:∃ q,restN gen len=q:=⟨_,rfl⟩;rw [hq] at HA hq0;clear hig hq;go_enter func112,ntmps112;go_wp2_with fail;refine (qR len p 0 F1.out F2.out _).mono ?_;rintro e w1 ⟨rfl,rfl⟩;go_wp2;go_ret;exact ⟨eM HR.out,hB0⟩
   ·have HIG:=Lib.hid hig;have hq0:restN gen len=0:=by unfold nN at hig;simpa using hig
    rw [hq0] at HA;clear hig hq0;go_enter func112,ntmps112;go_wp2_with fail;refine (qR len p 0 F1.out F2.out _).mono ?_;rintro e w1 ⟨rfl,rfl⟩;go_wp2_with fail;go_loopw [31] (fun i wr=>∃ k:Nat,k≤len∧i = .int .i64 k∧Hid (∀ (i:Nat) x,i < k→rows[i]?=some x→nN len x=true)∧(w.alloc (.cells #[.int .u64 (gen:Int),.slice a len cap] 42))=wr) (fun i _=>len - (intOf i).toNat)
    case atStart=>exact ⟨0,Nat.zero_le _,rfl,fun i x h=>by omega,rfl⟩
    case round =>
     obtain ⟨k,hk,rfl,HK,rfl⟩:=hrel;by_cases hlt:k < len
     ·obtain ⟨ba,offa,x,rfl,hx,hx64,hba,a0⟩:=HF1.out.at_ (by rw [HL.out];exact hlt);have g0:(0:Int)≤(k:Int):=by omega
      have g1:(k:Int) < (len:Int):=by omega
      have hax:=HAR.out x hx64;cases hin:nN len x
      ·have HR:Hid (30=r):=by show _=_;rw [← HRR.out,fE,Fb hx hin];simp
       have hq0:(((restN x len:Nat):Int) != 0)=true:=by
        unfold nN at hin
        have:restN x len≠0:=by simpa using hin
        simp;omega
       obtain ⟨q,hq⟩:∃ q,restN x len=q:=⟨_,rfl⟩;rw [hq] at hax hq0;clear hin hq hx;go_wp2;go_ret;exact ⟨eM HR.out,hB0⟩
      ·have HN:Hid (∀ (i:Nat) y,i < k+1→rows[i]?=some y→nN len y=true):=fun i y hi hy=>by
        by_cases e:i=k
        ·subst e;rw [hx] at hy;cases hy;exact hin
        ·exact HK.out i y (by omega) hy
       have hq0:restN x len=0:=by unfold nN at hin;simpa using hin
       rw [hq0] at hax;clear hin hx hq0;go_wp2;go_roundw
       case rel=>exact ⟨k+1,by omega,by go_num,HN,by trivial⟩
       case measure=>simp [intOf];omega
     ·have HR:Hid (0=r):=by
       show _=_;have e1:fE len gen rows=true:=by unfold fE;rw [HIG.out,zN HK.out (by rw [HL.out];omega)];simp [HL.out]
       rw [← HRR.out,e1];rfl
      go_wp2;go_ret;exact ⟨eM HR.out,hB0⟩
  ·have HR:Hid (30=r):=by show _=_;rw [← HRR.out,fE,decide_eq_false (by rw [HL.out];exact hlm)];rfl
   have hne:((len:Int) != (m:Int))=true:=by simp;omega
   clear hlm;go_enter func112,ntmps112;go_wp2_with fail;refine (qR m p 0 F1.out F2.out _).mono ?_;rintro e w1 ⟨rfl,rfl⟩;go_wp2;go_ret;exact ⟨eM HR.out,hB0⟩
theorem pH {k:IntKind} {a b:Int} (h:a=b):Ending.returned (.int k a) = .returned (.int k b):=by rw [h]
theorem kA {a b:Bool} (h:a=b):Ending.returned (.bool a) = .returned (.bool b):=by rw [h]
theorem yH (f d:Nat):((f:Int) / 2 ^ d)=((f / 2 ^ d:Nat):Int):=by rw [Int.natCast_ediv];congr 1
def kB (d f:Nat):Bool:=f / 2 ^ d == 0
def eB (f:Nat) (k v:Int):Bool:=if k=0 then v == 0 else if k=1 then true else if k=2 then v == 0 && f == 0 else false
def mD (d f:Nat) (k v:Int):Bool:=kB d f && eB f k v
theorem No (f d:Nat):((f:Int) / 2 ^ d != 0) = !kB d f:=by rw [yH];unfold kB;generalize f / 2 ^ d=q;rw [Bool.eq_iff_iff,bne_iff_ne,Bool.not_eq_true',beq_eq_false_iff_ne];omega
theorem Ti {d f:Nat} (h:64≤d) (hf:f < 18446744073709551616):kB d f=true:=by
 unfold kB;have e:(2:Nat) ^ 64≤2 ^ d:=Nat.pow_le_pow_right (by decide) h
 have:f < 2 ^ d:=Nat.lt_of_lt_of_le hf e
 simp [Nat.div_eq_of_lt this]
theorem C1 (d f:Nat) (k v:Int) (w:World) (hf:f < 18446744073709551616) (hd:d≤64):Calls prog 114 #[.int .i64 d,.agg #[.int .u64 f,.int .i64 k,.int .i64 v]] w fun e w'=>e = .returned (.bool (mD d f k v))∧Below w.heap.size w w':=by
 cases hi:kB d f
 ·have hlt:d < 64:=by
   rcases Nat.lt_or_ge d 64 with h | h
   ·exact h
   ·rw [Ti h hf] at hi;cases hi
  have h0:((f:Int) / 2 ^ d != 0)=true:=by rw [No,hi];rfl
  have H:=Lib.hid (show mD d f k v=false by simp [mD,hi]);clear hi;go_enter func114,ntmps114;go_wp2;go_ret;exact ⟨kA H.out.symm,(Below.refl _ _).alloc (Nat.le_refl _) _⟩
 ·have h0:((f:Int) / 2 ^ d != 0)=false:=by rw [No,hi];rfl
  have hc:mD d f k v=eB f k v:=by simp [mD,hi]
  rw [hc];clear hi hc;by_cases hlt:d < 64
  all_goals
   by_cases k0:k=0
   ·subst k0;have H:=Lib.hid (show eB f 0 v=(v == 0) by simp [eB]);go_enter func114,ntmps114;go_wp2;go_ret;exact ⟨kA H.out.symm,(Below.refl _ _).alloc (Nat.le_refl _) _⟩
   by_cases k1:k=1
   ·subst k1;have H:=Lib.hid (show eB f 1 v=true by simp [eB]);go_enter func114,ntmps114;go_wp2;go_ret;exact ⟨kA H.out.symm,(Below.refl _ _).alloc (Nat.le_refl _) _⟩
   by_cases k2:k=2
   ·subst k2;by_cases v0:v=0
    ·subst v0;have H:=Lib.hid (show eB f 2 0=((f:Int) == 0) by simp [eB];rw [Bool.eq_iff_iff];simp);go_enter func114,ntmps114;go_wp2;go_ret;exact ⟨kA H.out.symm,(Below.refl _ _).alloc (Nat.le_refl _) _⟩
    ·have H:=Lib.hid (show eB f 2 v=false by simp [eB,v0]);have hv:(v == 0)=false:=by simp [v0]
     clear v0;go_enter func114,ntmps114;go_wp2;go_ret;exact ⟨kA H.out.symm,(Below.refl _ _).alloc (Nat.le_refl _) _⟩
   ·have H:=Lib.hid (show eB f k v=false by simp [eB,k0,k1,k2]);have e0:(k == 0)=false:=by simp [k0]
    have e1:(k == 1)=false:=by simp [k1]
    have e2:(k == 2)=false:=by simp [k2]
    clear k0 k1 k2;go_enter func114,ntmps114;go_wp2;go_ret;exact ⟨kA H.out.symm,(Below.refl _ _).alloc (Nat.le_refl _) _⟩
theorem Hj (d f:Nat) (hf:f < 18446744073709551616):kB d f=true↔∀ i,d≤i→i < 64→f.testBit i=false:=by
 unfold kB;rw [beq_iff_eq,Nat.div_eq_zero_iff];constructor
 ·intro h i hi _;rcases h with h | h
  ·exact absurd h (by have:=Nat.two_pow_pos d;omega)
  ·exact Nat.testBit_lt_two_pow (Nat.lt_of_lt_of_le h (Nat.pow_le_pow_right (by omega) hi))
 ·intro h;right;apply Nat.lt_pow_two_of_testBit;intro i hi;by_cases h64:i < 64
  ·exact h i hi h64
  ·have e:(2:Nat) ^ 64≤2 ^ i:=Nat.pow_le_pow_right (by decide) (by omega);exact Nat.testBit_lt_two_pow (Nat.lt_of_lt_of_le hf e)
structure Cl where
 f:Nat
 k:Int
 v:Int
abbrev Cl.val (c:Cl):Value:=.agg #[.int .u64 (c.f:Int),.int .i64 c.k,.int .i64 c.v]
def fA (w:World) (a:Option Addr) (cs:List Cl):Prop :=
 cs=[]∨∃ b off,a=some ⟨b,off,none⟩∧∀ i c,cs[i]?=some c→w.cell? ⟨b,off+i * 3,none⟩=some (.int .u64 (c.f:Int))∧w.cell? ⟨b,off+i * 3+1,none⟩=some (.int .i64 c.k)∧w.cell? ⟨b,off+i * 3+2,none⟩=some (.int .i64 c.v)
def Bits (cs:List Cl):Prop:=∀ c,c∈cs→c.f < 18446744073709551616
theorem pI {w:World} {a:Addr} {v:Value} (h:w.cell? a=some v):a.block < w.heap.size:=by
 rcases Nat.lt_or_ge a.block w.heap.size with h' | h'
 ·exact h'
 ·simp [World.cell?,Array.getElem?_eq_none h'] at h
theorem fA.below {w w':World} {a:Option Addr} {cs:List Cl} (h:fA w a cs) (hb:Below w.heap.size w w'):fA w' a cs:=by
 rcases h with h | ⟨b,off,rfl,hc⟩
 ·exact .inl h
 ·refine .inr ⟨b,off,rfl,fun i c hi=>?_⟩;obtain ⟨h1,h2,h3⟩:=hc i c hi;exact ⟨(hb.cell (pI h1)).trans h1,(hb.cell (pI h2)).trans h2,(hb.cell (pI h3)).trans h3⟩
theorem fA.at_ {w:World} {a:Option Addr} {cs:List Cl} (h:fA w a cs) {k:Nat} (hk:k < cs.length) :
  ∃ b off c,a=some ⟨b,off,none⟩∧cs[k]?=some c∧b < w.heap.size∧w.cell? ⟨b,off+k * 3,none⟩=some (.int .u64 (c.f:Int))∧w.cell? ⟨b,off+k * 3+1,none⟩=some (.int .i64 c.k)∧w.cell? ⟨b,off+k * 3+2,none⟩=some (.int .i64 c.v):=by
 rcases h with h | ⟨b,off,rfl,hc⟩
 ·subst h;simp at hk
 ·have e:cs[k]?=some cs[k]:=List.getElem?_eq_getElem hk;obtain ⟨h1,h2,h3⟩:=hc k _ e;exact ⟨b,off,cs[k],rfl,e,pI h1,h1,h2,h3⟩
def jX (d:Nat) (c:Cl):Bool:=mD d c.f c.k c.v
def mE (d:Int) (cs:List Cl):Int:=if d < 0∨64 < d then 41 else if (cs.length:Int)≠d then 40 else if cs.all (jX d.toNat) then 0 else 40
def qM (d:Int):Int:=if d < 0∨64 < d then 41 else 0
theorem Fc (d:Int) (w:World):Calls prog 113 #[.int .i64 d] w fun e w'=>e = .returned (.int .i64 (qM d))∧w=w':=by
 by_cases h0:d < 0
 ·have H:=Lib.hid (show qM d=41 by simp [qM,h0]);go_enter func113,ntmps113;go_wp2;go_ret;exact ⟨pH H.out.symm,rfl⟩
 by_cases h1:64 < d
 ·have H:=Lib.hid (show qM d=41 by simp [qM,h1]);go_enter func113,ntmps113;go_wp2;go_ret;exact ⟨pH H.out.symm,rfl⟩
 ·have H:=Lib.hid (show qM d=0 by simp [qM,h0,h1]);go_enter func113,ntmps113;go_wp2;go_ret;exact ⟨pH H.out.symm,rfl⟩
theorem lP (d:Int) (w:World) (c:Int) (hc:qM d=c):Calls prog 113 #[.int .i64 d] w fun e w'=>e = .returned (.int .i64 c)∧w=w':=by subst hc;exact Fc d w
theorem oM {α:Type} {p:α→Bool} {zs:List α} {k:Nat} {z:α} (hz:zs[k]?=some z) (h:(zs.take k).all p=true) (hp:p z=true):(zs.take (k+1)).all p=true:=by obtain ⟨hk,e⟩:=List.getElem?_eq_some_iff.1 hz;rw [List.take_succ_eq_append_getElem hk,List.all_append,h];simp [e,hp]
theorem Fd {α:Type} {p:α→Bool} {zs:List α} {k:Nat} {z:α} (hz:zs[k]?=some z) (hp:p z=false):zs.all p=false:=by obtain ⟨hk,e⟩:=List.getElem?_eq_some_iff.1 hz;rw [List.all_eq_false];exact ⟨z,by rw [← e];exact List.getElem_mem hk,by rw [hp];simp⟩
theorem Hk {n:Nat} {cs:List Cl} {k:Nat} {c:Cl} (hn:n≤64) (hl:cs.length=n) (hz:cs[k]?=some c) (hp:jX n c=false):mE n cs=40:=by unfold mE;rw [if_neg (by omega),if_neg (by omega),Int.toNat_natCast,Fd hz hp];rfl
theorem wO {n:Nat} {cs:List Cl} {k:Nat} (hn:n≤64) (hl:cs.length=n) (hk:cs.length≤k) (h:(cs.take k).all (jX n)=true):mE n cs=0:=by rw [List.take_of_length_le hk] at h;unfold mE;rw [if_neg (by omega),if_neg (by omega),Int.toNat_natCast,h];rfl
theorem Fe (d:Int) (a:Option Addr) (cap:Nat) (cs:List Cl) (w:World) (hm:cs.length≤maxLen) (hrow:fA w a cs) (hbits:Bits cs) :
  Calls prog 95 #[.int .i64 d,.slice a cs.length cap] w fun e w'=>e = .returned (.int .i64 (mE d cs))∧Below w.heap.size w w':=by
 unfold maxLen at hm;have HROW:=Lib.hid hrow;have HBITS:=Lib.hid hbits;clear hrow hbits;by_cases hd:d < 0∨64 < d
 ·have H:=Lib.hid (show mE d cs=41 by simp [mE,hd]);have H2:=Lib.hid (show qM d=41 by simp [qM,hd]);clear hd;go_enter func95,ntmps95;go_wp2_with (go_at_call 113;refine (lP _ _ 41 H2.out).mono ?_;rintro e w' ⟨rfl,rfl⟩);go_ret;exact ⟨pH H.out.symm,Below.refl _ _⟩
 obtain ⟨n,rfl⟩:∃ n:Nat,d=n:=⟨d.toNat,by omega⟩;have hn:n≤64:=by omega
 have H2:=Lib.hid (show qM n=0 by simp [qM,hd]);clear hd;by_cases hl:cs.length=n
 ·have HL:=Lib.hid hl;have hne:((cs.length:Int) != (n:Int))=false:=by simp [hl]
  have hn':cs.length≤64:=by omega
  clear hl;go_enter func95,ntmps95;go_wp2_with (go_at_call 113;refine (lP _ _ 0 H2.out).mono ?_;rintro e w' ⟨rfl,rfl⟩);go_loopw [19] (fun i wr=>∃ k:Nat,k≤cs.length∧i = .int .i64 k∧Hid ((cs.take k).all (jX n)=true)∧Below w.heap.size w wr) (fun i _=>cs.length - (intOf i).toNat)
  case atStart=>exact ⟨0,Nat.zero_le _,rfl,by simp [Hid],Below.refl _ _⟩
  case round =>
   obtain ⟨k,hk,rfl,HA,hb⟩:=hrel;by_cases hlt:k < cs.length
   ·obtain ⟨b,off,c,rfl,hz,hblt,c0,c1,c2⟩:=(HROW.out.below hb).at_ hlt;have hf:c.f < 18446744073709551616:=HBITS.out c (List.mem_of_getElem? hz);have HZ:=Lib.hid hz;clear hz;cases hok:jX n c
    ·have H:=Lib.hid (Hk hn HL.out HZ.out hok);have HOK:Hid (mD n c.f c.k c.v=false):=hok;clear hok;go_wp2_with (go_at_call 114;refine (C1 n c.f c.k c.v _ hf hn).mono ?_;rintro e w3 ⟨rfl,hb3⟩;rw [HOK.out]);go_ret;exact ⟨pH H.out.symm,(hb.alloc hb.size _).trans (hb3.mono (by have:=hb.size;simp;omega))⟩
    ·have H:=Lib.hid (oM HZ.out HA.out hok);have HOK:Hid (mD n c.f c.k c.v=true):=hok;clear hok;go_wp2_with (go_at_call 114;refine (C1 n c.f c.k c.v _ hf hn).mono ?_;rintro e w3 ⟨rfl,hb3⟩;rw [HOK.out]);go_roundw
     case rel=>exact ⟨k+1,by omega,by go_num,H,(hb.alloc hb.size _).trans (hb3.mono (by have:=hb.size;simp;omega))⟩
     case measure=>simp [intOf];omega
   ·have H:=Lib.hid (wO hn HL.out (by omega) HA.out);go_wp2;go_ret;exact ⟨pH H.out.symm,hb⟩
 ·have H:=Lib.hid (show mE n cs=40 by simp [mE];omega);have hne:((cs.length:Int) != (n:Int))=true:=by simp;omega
  clear hl;go_enter func95,ntmps95;go_wp2_with (go_at_call 113;refine (lP _ _ 0 H2.out).mono ?_;rintro e w' ⟨rfl,rfl⟩);go_ret;exact ⟨pH H.out.symm,Below.refl _ _⟩
structure SF where
 tag:Int
 dim:Int
 a:Option Addr
 len:Nat
 cap:Nat
abbrev SF.val (f:SF):Value:=.agg #[.int .i64 f.tag,.int .i64 f.dim,.slice f.a f.len f.cap]
inductive SV where
 | mk (f:SF) (ps:List SV)
def SV.f:SV→SF | .mk f _=>f
def SV.ps:SV→List SV | .mk _ ps=>ps
def S3 (w:World) (b o:Nat) (f:SF):Prop:=w.cell? ⟨b,o,none⟩=some (.int .i64 f.tag)∧w.cell? ⟨b,o+1,none⟩=some (.int .i64 f.dim)∧w.cell? ⟨b,o+2,none⟩=some (.slice f.a f.len f.cap)
def yI (w:World) (a:Option Addr) (ps:List SV):Prop :=
 ps=[]∨∃ b off,a=some ⟨b,off,none⟩∧∀ (i:Nat) p,ps[i]?=some p→S3 w b (off+i * 3) p.f
def SIn (w:World):Nat→SV→Prop
 | 0,_=>False
 | d+1,.mk f ps=>ps.length=f.len∧yI w f.a ps∧∀ p∈ps,SIn w d p
theorem kC {w w':World} {p:Addr} {v:Value} (h:w.cell? p=some v) (hb:Below w.heap.size w w'):w'.cell? p=some v:=(hb.cell (jF h)).trans h
theorem S3.below {w w':World} {b o:Nat} {f:SF} (h:S3 w b o f) (hb:Below w.heap.size w w'):S3 w' b o f:=⟨kC h.1 hb,kC h.2.1 hb,kC h.2.2 hb⟩
theorem yI.below {w w':World} {a:Option Addr} {ps:List SV} (h:yI w a ps) (hb:Below w.heap.size w w'):yI w' a ps:=by
 rcases h with h | ⟨b,off,rfl,hc⟩
 ·exact .inl h
 ·exact .inr ⟨b,off,rfl,fun i p hi=>(hc i p hi).below hb⟩
theorem SIn.below {w w':World} (hb:Below w.heap.size w w'):∀ {d:Nat} {s:SV},SIn w d s→SIn w' d s
 | 0,_,h=>h.elim
 | d+1,.mk f ps,⟨h1,h2,h3⟩=>⟨h1,h2.below hb,fun p hp=>SIn.below hb (h3 p hp)⟩
theorem yI.at_ {w:World} {a:Option Addr} {ps:List SV} (h:yI w a ps) {i:Nat} {p:SV} (hi:ps[i]?=some p):∃ b off,a=some ⟨b,off,none⟩∧b < w.heap.size∧S3 w b (off+i * 3) p.f:=by
 rcases h with rfl | ⟨b,off,ha,hc⟩
 ·simp at hi
 ·exact ⟨b,off,ha,jF (hc i p hi).1,hc i p hi⟩
structure WF where
 z:Bool
 c:Int
 g:Nat
 ra:Option Addr
 rl:Nat
 rc:Nat
 rows:List Nat
 ca:Option Addr
 cl:Nat
 cc:Nat
 cells:List Cl
 pa:Option Addr
 pl:Nat
 pc:Nat
abbrev WF.val (f:WF):Value:=.agg #[.bool f.z,.int .i64 f.c,.int .u64 (f.g:Int),.slice f.ra f.rl f.rc,.slice f.ca f.cl f.cc,.slice f.pa f.pl f.pc]
abbrev WF.six (f:WF):List Value:=[.bool f.z,.int .i64 f.c,.int .u64 (f.g:Int),.slice f.ra f.rl f.rc,.slice f.ca f.cl f.cc,.slice f.pa f.pl f.pc]
structure WF.At (w:World) (f:WF):Prop where
 rows:fL w f.ra (u64s f.rows)
 rl:f.rows.length=f.rl
 g64:f.g < 18446744073709551616
 r64:∀ r∈f.rows,r < 18446744073709551616
 cells:fA w f.ca f.cells
 cl:f.cells.length=f.cl
 bits:Bits f.cells
 cmax:f.cl≤maxLen
theorem WF.At.below {w w':World} {f:WF} (h:f.At w) (hb:Below w.heap.size w w'):f.At w':=⟨h.rows.below hb,h.rl,h.g64,h.r64,h.cells.below hb,h.cl,h.bits,h.cmax⟩
inductive WV where
 | mk (f:WF) (ps:List WV)
def WV.f:WV→WF | .mk f _=>f
def WV.ps:WV→List WV | .mk _ ps=>ps
def W6 (w:World) (b o:Nat) (f:WF):Prop:=w.cell? ⟨b,o,none⟩=some (.bool f.z)∧w.cell? ⟨b,o+1,none⟩=some (.int .i64 f.c)∧w.cell? ⟨b,o+2,none⟩=some (.int .u64 (f.g:Int))∧w.cell? ⟨b,o+3,none⟩=some (.slice f.ra f.rl f.rc)∧w.cell? ⟨b,o+4,none⟩=some (.slice f.ca f.cl f.cc)∧w.cell? ⟨b,o+5,none⟩=some (.slice f.pa f.pl f.pc)
def yJ (w:World) (a:Option Addr) (ps:List WV):Prop :=
 ps=[]∨∃ b off,a=some ⟨b,off,none⟩∧∀ (i:Nat) p,ps[i]?=some p→W6 w b (off+i * 6) p.f
def WIn (w:World):Nat→WV→Prop
 | 0,_=>False
 | d+1,.mk f ps=>f.At w∧ps.length=f.pl∧yJ w f.pa ps∧∀ p∈ps,WIn w d p
theorem W6.below {w w':World} {b o:Nat} {f:WF} (h:W6 w b o f) (hb:Below w.heap.size w w'):W6 w' b o f:=⟨kC h.1 hb,kC h.2.1 hb,kC h.2.2.1 hb,kC h.2.2.2.1 hb,kC h.2.2.2.2.1 hb,kC h.2.2.2.2.2 hb⟩
theorem yJ.below {w w':World} {a:Option Addr} {ps:List WV} (h:yJ w a ps) (hb:Below w.heap.size w w'):yJ w' a ps:=by
 rcases h with h | ⟨b,off,rfl,hc⟩
 ·exact .inl h
 ·exact .inr ⟨b,off,rfl,fun i p hi=>(hc i p hi).below hb⟩
theorem WIn.below {w w':World} (hb:Below w.heap.size w w'):∀ {d:Nat} {s:WV},WIn w d s→WIn w' d s
 | 0,_,h=>h.elim
 | d+1,.mk f ps,⟨h0,h1,h2,h3⟩=>⟨h0.below hb,h1,h2.below hb,fun p hp=>WIn.below hb (h3 p hp)⟩
theorem yJ.at_ {w:World} {a:Option Addr} {ps:List WV} (h:yJ w a ps) {i:Nat} {p:WV} (hi:ps[i]?=some p):∃ b off,a=some ⟨b,off,none⟩∧b < w.heap.size∧W6 w b (off+i * 6) p.f:=by
 rcases h with rfl | ⟨b,off,ha,hc⟩
 ·simp at hi
 ·exact ⟨b,off,ha,jF (hc i p hi).1,hc i p hi⟩
def bV (t n:Int) (l:Nat):Bool:=decide (l=0) && (if t=1 then decide (n=0) else if t=2 then decide (0≤n) && decide (n≤1048576) else if t=3∨t=4 then decide (0≤n) && decide (n≤64) else false)
theorem Cm (w:World) (v:Array Value) (T:TypeId):Below w.heap.size w (w.alloc (.cells v T)):=(Below.refl _ _).alloc (Nat.le_refl _) _
theorem kD (t n:Int) (a:Option Addr) (l c:Nat) (r:Bool) (hr:bV t n l=r) (w:World) :
  Calls prog 37 #[.agg #[.int .i64 t,.int .i64 n,.slice a l c]] w fun e w'=>e = .returned (.bool r)∧Below w.heap.size w w':=by
 have hB:=Lib.hid (Cm w #[.int .i64 t,.int .i64 n,.slice a l c] 25);by_cases ht:t=1∨t=2∨t=3∨t=4
 ·by_cases hl:l=0
  ·subst hl;by_cases h0:0≤n
   ·rcases ht with rfl | rfl | rfl | rfl
    ·by_cases hm:n≤0
     ·obtain rfl:n=0:=by omega
      have HR:Hid (true=r):=by show _=_;rw [← hr];simp [bV]
      clear hr;go_enter func37,ntmps37;go_wp2;go_ret;exact ⟨bG HR.out,hB.out⟩
     ·have HR:Hid (false=r):=by show _=_;rw [← hr];simp [bV];omega
      clear hr;go_enter func37,ntmps37;go_wp2;go_ret;exact ⟨bG HR.out,hB.out⟩
    ·by_cases hm:n≤1048576
     ·have HR:Hid (true=r):=by show _=_;rw [← hr];simp [bV,h0,hm]
      clear hr;go_enter func37,ntmps37;go_wp2;go_ret;exact ⟨bG HR.out,hB.out⟩
     ·have HR:Hid (false=r):=by show _=_;rw [← hr];simp [bV,hm]
      clear hr;go_enter func37,ntmps37;go_wp2;go_ret;exact ⟨bG HR.out,hB.out⟩
    all_goals
     by_cases hm:n≤64
     ·have HR:Hid (true=r):=by show _=_;rw [← hr];simp [bV,h0,hm]
      clear hr;go_enter func37,ntmps37;go_wp2;go_ret;exact ⟨bG HR.out,hB.out⟩
     ·have HR:Hid (false=r):=by show _=_;rw [← hr];simp [bV,hm]
      clear hr;go_enter func37,ntmps37;go_wp2;go_ret;exact ⟨bG HR.out,hB.out⟩
   ·have HR:Hid (false=r):=by show _=_;rw [← hr];rcases ht with rfl | rfl | rfl | rfl<;>simp [bV]<;>omega
    clear hr;rcases ht with rfl | rfl | rfl | rfl
    all_goals
     go_enter func37,ntmps37;go_wp2;go_ret;exact ⟨bG HR.out,hB.out⟩
  ·have HR:Hid (false=r):=by show _=_;rw [← hr];simp [bV,hl]
   have hl2:((l:Int) == 0)=false:=by simp;omega
   clear hr;rcases ht with rfl | rfl | rfl | rfl
   all_goals
    go_enter func37,ntmps37;go_wp2;go_ret;exact ⟨bG HR.out,hB.out⟩
 ·have HR:Hid (false=r):=by show _=_;rw [← hr];simp only [not_or] at ht;simp [bV,ht]
  have e1:(t == 1)=false:=by simp;omega
  have e2:(t == 2)=false:=by simp;omega
  have e3:(t == 3)=false:=by simp;omega
  have e4:(t == 4)=false:=by simp;omega
  clear hr ht;go_enter func37,ntmps37;go_wp2;go_ret;exact ⟨bG HR.out,hB.out⟩
def SV.pl (s:SV):Bool:=bV s.f.tag s.f.dim s.f.len
def dR:SV→Int
 | .mk f ps=>if bV f.tag f.dim f.len=true then 0 else if f.tag=5∧f.dim=0∧ps.length=2∧ps.all SV.pl=true then 0 else 50
theorem Tj (m:Nat) (hm:m≤64) (a:Option Addr) (cap gen:Nat) (rows:List Nat) (w:World) (hf:FAt w a gen rows) (r:Bool) (hr:fE m gen rows=r) :
  Calls prog 97 #[.int .i64 m,gG gen a rows.length cap] w fun e w'=>e = .returned (.bool r)∧Below w.heap.size w w':=by
 have HF:=Lib.hid hf;have hgen:=hf.gen;have hlen:=hf.len;have HR:=Lib.hid hr;have hB0:Below w.heap.size w (w.alloc (.cells #[.int .u64 (gen:Int),.slice a rows.length cap] 42)):=(Below.refl _ _).alloc (Nat.le_refl _) _;have HF1:Hid (FAt (w.alloc (.cells #[.int .u64 (gen:Int),.slice a rows.length cap] 42)) a gen rows):=hf.below hB0;have HI:Hid (∀ s:Nat,Kp (m:Int) s=nN m s):=fun s=>by
  have:fM (m:Int)=true:=by simp [fM];omega
  rw [Kp,this];rfl
 obtain ⟨len,hl⟩:∃ len,rows.length=len:=⟨_,rfl⟩;have HL:=Lib.hid hl;rw [hl] at hB0 HF1 hlen ⊢;unfold gG;clear hf hl hr;by_cases hlm:len=m
 ·subst hlm;cases hig:nN len gen
  ·have HX:Hid (false=r):=by show _=_;rw [← HR.out,fE,hig];simp
   have HG:=Lib.hid hig;clear hig;go_enter func97,ntmps97;go_wp2_with fail;refine (hQ len gen hgen false (by rw [HI.out];exact HG.out) _).mono ?_;rintro e w1 ⟨rfl,rfl⟩;go_wp2;go_ret;exact ⟨bG HX.out,hB0⟩
  ·have HG:=Lib.hid hig;clear hig;go_enter func97,ntmps97;go_wp2_with fail;refine (hQ len gen hgen true (by rw [HI.out];exact HG.out) _).mono ?_;rintro e w1 ⟨rfl,rfl⟩;go_wp2_with fail;go_loopw [5] (fun i wr=>∃ k:Nat,k≤len∧i = .int .i64 k∧Hid (∀ (i:Nat) x,i < k→rows[i]?=some x→nN len x=true)∧(w.alloc (.cells #[.int .u64 (gen:Int),.slice a len cap] 42))=wr) (fun i _=>len - (intOf i).toNat)
   case atStart=>exact ⟨0,Nat.zero_le _,rfl,fun i x h=>by omega,rfl⟩
   case round =>
    obtain ⟨k,hk,rfl,HK,rfl⟩:=hrel;by_cases hlt:k < len
    ·obtain ⟨ba,offa,x,rfl,hx,hx64,hba,a0⟩:=HF1.out.at_ (by rw [HL.out];exact hlt);have g0:(0:Int)≤(k:Int):=by omega
     have g1:(k:Int) < (len:Int):=by omega
     cases hin:nN len x
     ·have HX:Hid (false=r):=by show _=_;rw [← HR.out,fE,Fb hx hin];simp
      have HIN:=Lib.hid hin;clear hin hx;go_wp2_with fail;refine (hQ len x hx64 false (by rw [HI.out];exact HIN.out) _).mono ?_;rintro e w1 ⟨rfl,rfl⟩;go_wp2;go_ret;exact ⟨bG HX.out,hB0⟩
     ·have HN:Hid (∀ (i:Nat) y,i < k+1→rows[i]?=some y→nN len y=true):=fun i y hi hy=>by
       by_cases e:i=k
       ·subst e;rw [hx] at hy;cases hy;exact hin
       ·exact HK.out i y (by omega) hy
      have HIN:=Lib.hid hin;clear hin hx;go_wp2_with fail;refine (hQ len x hx64 true (by rw [HI.out];exact HIN.out) _).mono ?_;rintro e w1 ⟨rfl,rfl⟩;go_wp2;go_roundw
      case rel=>exact ⟨k+1,by omega,by go_num,HN,by trivial⟩
      case measure=>simp [intOf];omega
    ·have HX:Hid (true=r):=by
      show _=_;have e1:fE len gen rows=true:=by unfold fE;rw [HG.out,zN HK.out (by rw [HL.out];omega)];simp [HL.out]
      rw [← HR.out,e1]
     go_wp2;go_ret;exact ⟨bG HX.out,hB0⟩
 ·have HX:Hid (false=r):=by show _=_;rw [← HR.out,fE,decide_eq_false (by rw [HL.out];exact hlm)];rfl
  have hne:((len:Int) != (m:Int))=true:=by simp;omega
  clear hlm;go_enter func97,ntmps97;go_wp2;go_ret;exact ⟨bG HX.out,hB0⟩
def andn (a b:Nat):Nat:=a &&& (18446744073709551615 - b)
theorem qT {a b:Nat} (ha:a < 18446744073709551616) (hb:b < 18446744073709551616) (j:Nat):(andn a b).testBit j=(a.testBit j && !b.testBit j):=by
 unfold andn;rw [Nat.testBit_and,E5 _ _ hb];cases h:a.testBit j
 ·rfl
 ·simp [E7 ha h]
theorem Np (a b:Nat) (ha:a < 18446744073709551616) (hb:b < 18446744073709551616):bits BinOp.andNot IntKind.u64 (a:Int) (b:Int)=((andn a b:Nat):Int):=u64_andNot_nat a b ha hb
def eL (gen:Nat) (rows:List Nat):List Nat:=rows.map fun r=>andn r gen
theorem iZ (gen:Nat) (rows:List Nat):(eL gen rows).length=rows.length:=by simp [eL]
theorem Hl {gen:Nat} {rows:List Nat} {k x:Nat} (h:rows[k]?=some x):(eL gen rows).take (k+1)=(eL gen rows).take k++[andn x gen]:=by
 have h2:(eL gen rows)[k]?=some (andn x gen):=by simp [eL,h]
 obtain ⟨hk,e⟩:=List.getElem?_eq_some_iff.1 h2;rw [List.take_succ_eq_append_getElem hk,e]
theorem Hm:(prog.info? 39).map (fun i=>(i.zero,i.size,i.bytes))=some (some (.int .u64 0),1,8):=by kernel_rfl
theorem cF {w:World} {B:Nat} {a b:Value} {T:TypeId} (h:w.heap[B]?=some (.cells #[a,b] T (0,0))) :
  w.cell? ⟨B,0,none⟩=some a∧w.cell? ⟨B,1,none⟩=some b∧(∀ j,w.frozen? ⟨B,j,none⟩=false) :=
 ⟨by simp [World.cell?,h],by simp [World.cell?,h],fun j=>by simp [World.frozen?,h]⟩
theorem iK {w:World} {B:Nat} {a b c:Value} {T:TypeId} (h:w.heap[B]?=some (.cells #[a,b] T (0,0))):(w.setCell ⟨B,1,none⟩ c).heap[B]?=some (.cells #[a,c] T (0,0)):=heap_setCell_same w B 1 _ _ _ h
theorem kE {w:World} {B:Nat} {a b c:Value} {T:TypeId} (h:w.heap[B]?=some (.cells #[a,b] T (0,0))):(w.setCell ⟨B,0,none⟩ c).heap[B]?=some (.cells #[c,b] T (0,0)):=heap_setCell_same w B 0 _ _ _ h
theorem dS {w:World} {B C j:Nat} {c:Value} {o:Obj} (h:w.heap[C]?=some o) (hne:C≠B):(w.setCell ⟨B,j,none⟩ c).heap[C]?=some o:=(Below.heap_setCell _ _ _ _ hne).trans h
theorem cP {w w':World} {C:Nat} {o:Obj} (h:w.heap[C]?=some o) (hb:Below w.heap.size w w'):w'.heap[C]?=some o:=(hb.block C (Array.getElem?_eq_some_iff.1 h).1).trans h
theorem dC {w:World} {C:Nat} {o:Obj} (h:w.heap[C]?=some o) (o':Obj):(w.alloc o').heap[C]?=some o:=(Below.heap_alloc _ _ _ (Array.getElem?_eq_some_iff.1 h).1).trans h
theorem kF {w:World} {B:Nat} {cs:Array Value} {T E:TypeId} (h:w.heap[B]?=some (.cells cs T (0,0))) (hTE:T≠E) {base size k:Nat} {v:Value} {xs:List Value} (hr:w.ownsRow base E size v k xs):some B≠v.ownBlock:=by
 rcases hr.2 with ⟨rfl,_⟩ | ⟨g,cap,cur,rfl,_,hgb,_⟩
 ·simp [Value.ownBlock]
 ·intro e';obtain rfl:B=g:=by simpa [Value.ownBlock] using e'
  have:=h.symm.trans hgb;simp at this;exact hTE this.2
theorem jK {w w':World} {B:Nat} {cs:Array Value} {T E:TypeId} (h:w.heap[B]?=some (.cells cs T (0,0))) (hTE:T≠E) {base size k:Nat} {v:Value} {xs:List Value} (hr:w.ownsRow base E size v k xs) (hg:w.grownBy w' v.ownBlock):w'.heap[B]?=some (.cells cs T (0,0)) :=
 (hg.block B (Array.getElem?_eq_some_iff.1 h).1 (fun e=>kF h hTE hr e)).trans h
theorem fG (W:World) (b j:Nat) (v:Value):W.grownBy (W.setCell ⟨b,j,none⟩ v) (some b) :=
 ⟨rfl,rfl,rfl,(KeepsWalks.setCell W _ v).size,fun k _ hk=>Below.heap_setCell _ _ _ k (fun e=>hk (by rw [e]))⟩
theorem uO {w:World} {a:Option Addr} {vs:List Value} (h:fL w a vs) {B j:Nat} {v:Value} (hne:∀ ad,a=some ad→ad.block≠B):fL (w.setCell ⟨B,j,none⟩ v) a vs:=by
 rcases h with h | ⟨b,off,ha,hc⟩
 ·exact .inl h
 ·refine .inr ⟨b,off,ha,fun i x hi=>?_⟩;rw [← hc i x hi];unfold World.cell?;rw [Below.heap_setCell _ _ _ _ (hne _ ha)]
def FOne (gen:Nat) (rows:List Nat) (w:World) (e:Ending) (w':World):Prop :=
 ∃ a cap,e = .returned (gG gen a rows.length cap)∧fL w' a (u64s rows)∧(∀ ad,a=some ad→w.heap.size≤ad.block∧ad.block < w'.heap.size)∧Below w.heap.size w w'
theorem C2 (a:Option Addr) (cap gen:Nat) (rows:List Nat) (w:World) (hf:FAt w a gen rows) (ys:List Nat) (hys:eL gen rows=ys) :
  Calls prog 89 #[gG gen a rows.length cap] w (FOne gen ys w):=by
 have HF:=Lib.hid hf;have hgen:=hf.gen;have hlen:=hf.len;have HY:=Lib.hid hys;obtain ⟨i0,hi,hz0,hz1,hz2⟩:=info_parts Hm;obtain ⟨len,hl⟩:∃ len,rows.length=len:=⟨_,rfl⟩;have HL:=Lib.hid hl;rw [hl] at hlen ⊢;unfold gG;clear hf hl hys;go_enter func89,ntmps89;go_wp2_with fail;go_loopw [4] (fun i wr=>∃ (k:Nat) (v:Value),k≤len∧i = .int .i64 k∧Hid (wr.heap[w.heap.size]?=some (.cells #[.int .u64 (gen:Int),.slice a len cap] 42 (0,0)))∧Hid (wr.heap[w.heap.size+1]?=some (.cells #[.int .u64 0,.slice none 0 0] 42 (0,0)))∧Hid (wr.heap[w.heap.size+1+1]?=some (.cells #[.int .u64 (gen:Int),v] 42 (0,0)))∧Hid (wr.ownsRow w.heap.size 39 1 v k (u64s (ys.take k)))∧Below w.heap.size w wr) (fun i _=>len - (intOf i).toNat)
 case atStart =>
  refine ⟨0,.slice none 0 0,Nat.zero_le _,rfl,?_,?_,?_,World.ownsRow_nil _ _ _ _,(((Below.refl _ _).alloc (Nat.le_refl _) _).alloc (by simp) _).alloc (by simp;omega) _⟩
  ·show _=_;exact dC (dC (eA _ _) _) _
  ·show _=_;have:=dC (eA (w.alloc (.cells #[.int .u64 (gen:Int),.slice a len cap] 42)) (.cells #[.int .u64 0,.slice none 0 0] 42)) (.cells #[.int .u64 (gen:Int),.slice none 0 0] 42)
   rwa [World.size_alloc] at this
  ·show _=_;have:=eA ((w.alloc (.cells #[.int .u64 (gen:Int),.slice a len cap] 42)).alloc (.cells #[.int .u64 0,.slice none 0 0] 42)) (.cells #[.int .u64 (gen:Int),.slice none 0 0] 42)
   rwa [World.size_alloc,World.size_alloc] at this
 case round =>
  obtain ⟨k,v,hk,rfl,B0,B1,B2,HO,hb⟩:=hrel;obtain ⟨c0,c1,cf⟩:=cF B0.out;obtain ⟨e0,e1,ef⟩:=cF B2.out;have ef1:=ef 1;by_cases hlt:k < len
  ·obtain ⟨ba,offa,x,rfl,hx,hx64,hba,a0⟩:=(HF.out.below hb).at_ (by rw [HL.out];exact hlt);have g0:(0:Int)≤(k:Int):=by omega
   have g1:(k:Int) < (len:Int):=by omega
   have hag:=Np x gen hx64 hgen;obtain ⟨y,hy⟩:∃ y,andn x gen=y:=⟨_,rfl⟩;rw [hy] at hag;have HT:Hid (ys.take (k+1)=ys.take k++[y]):=by show _=_;rw [← HY.out,Hl hx,hy]
   clear hx hy cf ef;go_wp2_with fail;have q1:(wr.alloc (.cells #[.int .u64 (y:Int)] 39)).cell? ⟨w.heap.size+1+1,1,none⟩=some v:=(cF (dC B2.out _)).2.1;go_region_law (first | (refine step_append_lies (wr.drew.alloc (.cells #[.int .u64 (y:Int)] 39)) ?_ (.tmp 16) (.tmp 25) 40 ?_ w.heap.size 39 i0 _ 1 8 underlying40 hi hz0 hz1 hz2 ?_ ?_ v k (u64s (ys.take k)) ?_ ?_ ⟨wr.heap.size,0,none⟩ 1 1 [.int .u64 (y:Int)] ?_ ?_ ?_ ?_ ?_ ?_ ?_ ?_ (wr.heap.size+1) ?_ ?_;rfl;rfl;rfl;omega;rfl;exact (HO.out:(wr.drew).ownsRow _ _ _ _ _ _).alloc _;rfl;rfl;exact (World.news_of_block (cs:=#[.int .u64 (y:Int)]) (t:=39) (fr:=(0,0)) (eA wr.drew _));simp [Value.oneCell'];omega;(unfold maxLen;omega);omega;(have:=hb.size;simp;omega);simp;intro gg cp w5 hown1 hgrow hat hlt5;have hB4:Below w.heap.size w w5:=(hb.drew.alloc hb.size _).grown hgrow (by have:=hb.size;simp;omega) (fun j e=>(HO.out.lt j e).1);have D0:=Lib.hid (jK (dC (w:=wr.drew) B0.out (.cells #[.int .u64 (y:Int)] 39)) (by decide) ((HO.out:(wr.drew).ownsRow _ _ _ _ _ _).alloc _) hgrow);have D1:=Lib.hid (jK (dC (w:=wr.drew) B1.out (.cells #[.int .u64 (y:Int)] 39)) (by decide) ((HO.out:(wr.drew).ownsRow _ _ _ _ _ _).alloc _) hgrow);have D2:=Lib.hid (jK (dC (w:=wr.drew) B2.out (.cells #[.int .u64 (y:Int)] 39)) (by decide) ((HO.out:(wr.drew).ownsRow _ _ _ _ _ _).alloc _) hgrow);obtain ⟨_,d1,df⟩:=cF D2.out;have df1:=df 1;clear df) | fail)
   all_goals
    have HO5:=Lib.hid (show (w5.setCell ⟨w.heap.size+1+1,1,none⟩ (.slice (some ⟨gg,0,none⟩) (k+1) cp)).ownsRow w.heap.size 39 1 (.slice (some ⟨gg,0,none⟩) (k+1) cp) (k+1) (u64s (ys.take (k+1))) by
     rw [HT.out,C0];exact hown1.kept (fG w5 _ _ _) (.inr (kF D2.out (by decide) hown1).symm))
    have N0:=Lib.hid (dS (B:=w.heap.size+1+1) (j:=1) (c:=.slice (some ⟨gg,0,none⟩) (k+1) cp) D0.out (by omega));have N1:=Lib.hid (dS (B:=w.heap.size+1+1) (j:=1) (c:=.slice (some ⟨gg,0,none⟩) (k+1) cp) D1.out (by omega));have N2:=Lib.hid (iK (c:=.slice (some ⟨gg,0,none⟩) (k+1) cp) D2.out);have NB:=Lib.hid (hB4.setCell (p:=⟨w.heap.size+1+1,1,none⟩) (by simp;omega) (.slice (some ⟨gg,0,none⟩) (k+1) cp));clear hown1 hgrow hat d1 df1 q1 c0 c1 e0 e1 ef1;go_wp2;go_roundw
    case rel=>exact ⟨k+1,_,by omega,by go_num,N0,N1,N2,HO5,NB.out⟩
    case measure=>simp [intOf];omega
  ·obtain rfl:k=len:=by omega
   obtain ⟨r0,r1,rf⟩:=cF B1.out;have rf0:=rf 0;have rf1:=rf 1;have HYL:Hid (ys.length=k):=by show _=_;rw [← HY.out,iZ,HL.out]
   have HO2:Hid (wr.ownsRow w.heap.size 39 1 v k (u64s ys)):=by
    have:=HO.out
    rwa [List.take_of_length_le (by rw [HYL.out];exact Nat.le_refl _)] at this
   obtain ⟨hvn,a3,cap3,hv3,hr3,hf3⟩:=fL.of_own HO2.out;subst hv3;have HR3:=Lib.hid hr3;have HF3:=Lib.hid hf3;have N1:=Lib.hid (iK (c:=.slice a3 (u64s ys).length cap3) (kE (c:=.int .u64 (gen:Int)) B1.out));have NR:=Lib.hid (uO (uO HR3.out (B:=w.heap.size+1) (j:=0) (v:=.int .u64 (gen:Int)) (fun ad e x=>kF B1.out (by decide) HO2.out (by rw [e];show _=some _;rw [x]))) (B:=w.heap.size+1) (j:=1) (v:=.slice a3 (u64s ys).length cap3) (fun ad e x=>kF B1.out (by decide) HO2.out (by rw [e];show _=some _;rw [x])));have NB:=Lib.hid ((hb.setCell (p:=⟨w.heap.size+1,0,none⟩) (by simp) (.int .u64 (gen:Int))).setCell (p:=⟨w.heap.size+1,1,none⟩) (by simp) (.slice a3 (u64s ys).length cap3));obtain ⟨s0,s1,_⟩:=cF N1.out;clear cf ef hvn hr3 hf3;go_wp2;refine bodyPost_ret (v:=.agg #[.int .u64 (gen:Int),.slice a3 (u64s ys).length cap3]) ?_ rfl ⟨a3,cap3,by rw [gG,fV],NR.out,fun ad e=>⟨(HF3.out ad e).1,by simpa [World.setCell] using (HF3.out ad e).2⟩,NB.out⟩;simp [results,results89,go_sem,s0,s1]
def tO (w:World) (a:Option Addr) (xs:List Nat):Prop:=fL w a (u64s xs)
theorem tO.at_ {w:World} {a:Option Addr} {xs:List Nat} (h:tO w a xs) {i:Nat} (hi:i < xs.length) :
  ∃ b off r,a=some ⟨b,off,none⟩∧xs[i]?=some r∧b < w.heap.size∧w.cell? ⟨b,off+i,none⟩=some (.int .u64 (r:Int)):=by
 obtain ⟨b,off,v,ha,hv,hb,hc⟩:=fL.at_ h (i:=i) (by rw [fV];exact hi);obtain ⟨r,hr,rfl⟩:=E9 hv;exact ⟨b,off,r,ha,hr,hb,hc⟩
theorem tP {xs ys:List Nat} (hl:xs.length=ys.length) (h:∀ (i x y:Nat),xs[i]?=some x→ys[i]?=some y→x=y):xs=ys:=by apply List.ext_getElem hl;intro i h1 h2;exact h i _ _ (List.getElem?_eq_getElem h1) (List.getElem?_eq_getElem h2)
theorem Qi (a b:Option Addr) (capa capb:Nat) (xs ys:List Nat) (w:World) (hx:xs.length≤9223372036854775807) (hy:ys.length≤9223372036854775807) (hra:tO w a xs) (hrb:tO w b ys) (r:Bool) (hr:(xs == ys)=r) (n m:Nat) (hn:xs.length=n) (hm:ys.length=m) :
  Calls prog 91 #[.slice a n capa,.slice b m capb] w fun e w'=>e = .returned (.bool r)∧Below w.heap.size w w':=by
 have HA:=Lib.hid hra;have HB:=Lib.hid hrb;have HR:=Lib.hid hr;have HN:=Lib.hid hn;have HM:=Lib.hid hm;rw [hn] at hx;rw [hm] at hy;clear hra hrb hr hn hm;by_cases hnm:n=m
 ·subst hnm;go_enter func91,ntmps91;go_wp2_with fail;go_loopw [13] (fun i wr=>∃ k:Nat,k≤n∧i = .int .i64 k∧Hid (∀ i x y,i < k→xs[i]?=some x→ys[i]?=some y→x=y)∧Below w.heap.size w wr) (fun i _=>n - (intOf i).toNat)
  case atStart=>exact ⟨0,Nat.zero_le _,rfl,fun i x y h=>by omega,Below.refl _ _⟩
  case round =>
   obtain ⟨k,hk,rfl,HK,hb⟩:=hrel;by_cases hlt:k < n
   ·obtain ⟨ba,offa,x,rfl,hx1,hba,a0⟩:=tO.at_ (fL.below HA.out hb) (i:=k) (by rw [HN.out];exact hlt);obtain ⟨bb,offb,y,rfl,hy1,hbb,b0⟩:=tO.at_ (fL.below HB.out hb) (i:=k) (by rw [HM.out];exact hlt);have g0:(0:Int)≤(k:Int):=by omega
    have g1:(k:Int) < (n:Int):=by omega
    by_cases hxy:x=y
    ·subst hxy;have HNX:Hid (∀ i x y,i < k+1→xs[i]?=some x→ys[i]?=some y→x=y):=fun i u v hi hu hv=>by
      by_cases e:i=k
      ·subst e;rw [hx1] at hu;rw [hy1] at hv;cases hu;cases hv;rfl
      ·exact HK.out i u v (by omega) hu hv
     clear hx1 hy1;go_wp2_with fail;go_quiet (fail);go_wp2;go_roundw
     case rel=>exact ⟨k+1,by omega,by go_num,HNX,below_drewN hb _⟩
     case measure=>simp [intOf];omega
    ·have hne:((x:Int) != (y:Int))=true:=by simp;omega
     have HX:Hid (false=r):=by show _=_;rw [← HR.out];symm;rw [beq_eq_false_iff_ne];rintro rfl;rw [hx1] at hy1;cases hy1;exact hxy rfl
     clear hx1 hy1 hxy;go_wp2_with fail;go_quiet (fail);go_wp2;go_ret;exact ⟨bG HX.out,below_drewN hb _⟩
   ·have HX:Hid (true=r):=by
     show _=_;rw [← HR.out];symm;rw [beq_iff_eq];refine tP (by rw [HN.out,HM.out]) fun i x y hi hj=>?_
     have:=(List.getElem?_eq_some_iff.1 hi).1;rw [HN.out] at this;exact HK.out i x y (by omega) hi hj
    go_wp2;go_ret;exact ⟨bG HX.out,hb⟩
 ·have HX:Hid (false=r):=by show _=_;rw [← HR.out];symm;rw [beq_eq_false_iff_ne];rintro rfl;exact hnm (HN.out.symm.trans HM.out)
  have hne:((n:Int) != (m:Int))=true:=by simp;omega
  clear hnm;go_enter func91,ntmps91;go_wp2;go_ret;exact ⟨bG HX.out,Below.refl _ _⟩
def oN (ga:Nat) (xs:List Nat) (gb:Nat) (ys:List Nat):Bool:=ga == gb && xs == ys
theorem rZ (w:World) (a b:Array Value) (T:TypeId):((w.alloc (.cells a T)).alloc (.cells b T)).heap[w.heap.size]?=some (.cells a T (0,0))∧((w.alloc (.cells a T)).alloc (.cells b T)).heap[w.heap.size+1]?=some (.cells b T (0,0)):=by
 refine ⟨dC (eA _ _) _,?_⟩;have:=eA (w.alloc (.cells a T)) (.cells b T)
 rwa [World.size_alloc] at this
theorem Qj (a b:Option Addr) (capa capb ga gb:Nat) (xs ys:List Nat) (w:World) (hx:xs.length≤9223372036854775807) (hy:ys.length≤9223372036854775807) (hra:tO w a xs) (hrb:tO w b ys) (r:Bool) (hr:oN ga xs gb ys=r) (n m:Nat) (hn:xs.length=n) (hm:ys.length=m) :
  Calls prog 60 #[gG ga a n capa,gG gb b m capb] w fun e w'=>e = .returned (.bool r)∧Below w.heap.size w w':=by
 unfold gG;have hB0:Below w.heap.size w ((w.alloc (.cells #[.int .u64 (ga:Int),.slice a n capa] 42)).alloc (.cells #[.int .u64 (gb:Int),.slice b m capb] 42)):=((Below.refl _ _).alloc (Nat.le_refl _) _).alloc (by simp) _;have HA:=Lib.hid (fL.below hra hB0);have HB:=Lib.hid (fL.below hrb hB0);have HN:=Lib.hid hn;have HM:=Lib.hid hm;have HX:=Lib.hid hx;have HY:=Lib.hid hy;by_cases hg:ga=gb
 ·subst hg;have HR:Hid ((xs == ys)=r):=by show _=_;rw [← hr,oN];simp
  clear hra hrb hr hn hm hx hy;go_enter func60,ntmps60;go_wp2_with fail;refine (Qi a b capa capb xs ys _ HX.out HY.out HA.out HB.out r HR.out n m HN.out HM.out).mono ?_;rintro e w1 ⟨rfl,hb1⟩;go_wp2;go_ret;exact ⟨by simp,hB0.trans (hb1.mono hB0.size)⟩
 ·have HR:Hid (false=r):=by show _=_;rw [← hr,oN,beq_eq_false_iff_ne.2 hg];rfl
  have hne:((ga:Int) == (gb:Int))=false:=by simp;omega
  clear hra hrb hr hn hm hx hy hg;go_enter func60,ntmps60;go_wp2;go_ret;exact ⟨bG HR.out,hB0⟩
theorem C3 (a b:Option Addr) (capa capb ga gb:Nat) (xs ys:List Nat) (w:World) (hx:xs.length≤9223372036854775807) (hy:ys.length≤9223372036854775807) (hra:tO w a xs) (hrb:tO w b ys) (r:Bool) (hr:oN ga xs gb ys=r) (n m:Nat) (hn:xs.length=n) (hm:ys.length=m) :
  Calls prog 59 #[gG ga a n capa,gG gb b m capb] w fun e w'=>e = .returned (.bool r)∧Below w.heap.size w w':=by
 unfold gG;have hB0:Below w.heap.size w ((w.alloc (.cells #[.int .u64 (ga:Int),.slice a n capa] 42)).alloc (.cells #[.int .u64 (gb:Int),.slice b m capb] 42)):=((Below.refl _ _).alloc (Nat.le_refl _) _).alloc (by simp) _;have HA:=Lib.hid hra;have HB:=Lib.hid hrb;have HN:=Lib.hid hn;have HM:=Lib.hid hm;obtain ⟨t0,t1⟩:=rZ w #[.int .u64 (ga:Int),.slice a n capa] #[.int .u64 (gb:Int),.slice b m capb] 42;have T0:=Lib.hid t0;have T1:=Lib.hid t1;rw [hn] at hx;rw [hm] at hy;by_cases hg:ga=gb
 ·subst hg;have HR:Hid ((xs == ys)=r):=by show _=_;rw [← hr,oN];simp
  clear hra hrb hr hn hm t0 t1;by_cases hnm:n=m
  ·subst hnm;go_enter func59,ntmps59;go_wp2_with fail;go_loopw [5] (fun i wr=>∃ k:Nat,k≤n∧i = .int .i64 k∧Hid (∀ i x y,i < k→xs[i]?=some x→ys[i]?=some y→x=y)∧Hid (wr.heap[w.heap.size]?=some (.cells #[.int .u64 (ga:Int),.slice a n capa] 42 (0,0)))∧Hid (wr.heap[w.heap.size+1]?=some (.cells #[.int .u64 (ga:Int),.slice b n capb] 42 (0,0)))∧Below w.heap.size w wr) (fun i _=>n - (intOf i).toNat)
   case atStart=>exact ⟨0,Nat.zero_le _,rfl,fun i x y h=>by omega,T0,T1,hB0⟩
   case round =>
    obtain ⟨k,hk,rfl,HK,B0,B1,hb⟩:=hrel;obtain ⟨c0,c1,_⟩:=cF B0.out;obtain ⟨d0,d1,_⟩:=cF B1.out;by_cases hlt:k < n
    ·obtain ⟨ba,offa,x,rfl,hx1,hba,a0⟩:=tO.at_ (fL.below HA.out hb) (i:=k) (by rw [HN.out];exact hlt);obtain ⟨bb,offb,y,rfl,hy1,hbb,b0⟩:=tO.at_ (fL.below HB.out hb) (i:=k) (by rw [HM.out];exact hlt);have g0:(0:Int)≤(k:Int):=by omega
     have g1:(k:Int) < (n:Int):=by omega
     by_cases hxy:x=y
     ·subst hxy;have HNX:Hid (∀ i x y,i < k+1→xs[i]?=some x→ys[i]?=some y→x=y):=fun i u v hi hu hv=>by
       by_cases e:i=k
       ·subst e;rw [hx1] at hu;rw [hy1] at hv;cases hu;cases hv;rfl
       ·exact HK.out i u v (by omega) hu hv
      clear hx1 hy1;go_wp2_with fail;go_quiet (fail);go_wp2;go_roundw
      case rel=>exact ⟨k+1,by omega,by go_num,HNX,B0,B1,below_drewN hb _⟩
      case measure=>simp [intOf];omega
     ·have hne:((x:Int) != (y:Int))=true:=by simp;omega
      have HX:Hid (false=r):=by show _=_;rw [← HR.out];symm;rw [beq_eq_false_iff_ne];rintro rfl;rw [hx1] at hy1;cases hy1;exact hxy rfl
      clear hx1 hy1 hxy;go_wp2_with fail;go_quiet (fail);go_wp2;go_ret;exact ⟨bG HX.out,below_drewN hb _⟩
    ·have HX:Hid (true=r):=by
      show _=_;rw [← HR.out];symm;rw [beq_iff_eq];refine tP (by rw [HN.out,HM.out]) fun i x y hi hj=>?_
      have:=(List.getElem?_eq_some_iff.1 hi).1;rw [HN.out] at this;exact HK.out i x y (by omega) hi hj
     go_wp2;go_ret;exact ⟨bG HX.out,hb⟩
  ·have HX:Hid (false=r):=by show _=_;rw [← HR.out];symm;rw [beq_eq_false_iff_ne];rintro rfl;exact hnm (HN.out.symm.trans HM.out)
   have hne:((n:Int) != (m:Int))=true:=by simp;omega
   clear hnm;go_enter func59,ntmps59;go_wp2;go_ret;exact ⟨bG HX.out,hB0⟩
 ·have HR:Hid (false=r):=by show _=_;rw [← hr,oN,beq_eq_false_iff_ne.2 hg];rfl
  have hne:((ga:Int) != (gb:Int))=true:=by simp;omega
  clear hra hrb hr hn hm hg t0 t1;go_enter func59,ntmps59;go_wp2;go_ret;exact ⟨bG HR.out,hB0⟩
theorem Tk (a b:Option Addr) (capa capb ga gb:Nat) (xs ys:List Nat) (w:World) (hx:xs.length≤100) (hy:ys.length≤100) (hra:tO w a xs) (hrb:tO w b ys) (r:Bool) (hr:oN ga xs gb ys=r) (n m:Nat) (hn:xs.length=n) (hm:ys.length=m) :
  Calls prog 59 #[gG ga a n capa,gG gb b m capb] w fun e w'=>e = .returned (.bool r)∧Below w.heap.size w w' :=
 C3 a b capa capb ga gb xs ys w (Nat.le_trans hx (by decide)) (Nat.le_trans hy (by decide)) hra hrb r hr n m hn hm
def lC (gen:Nat) (rows:List Nat):Bool:=rows.all fun r=>r &&& gen == 0
def eO (n:Int) (gen:Nat) (rows:List Nat):Int:=if fM n=true then (if (fE n.toNat gen rows && lC gen rows)=true then 0 else 30) else 31
theorem Ff {n:Int} {gen:Nat} {rows:List Nat} {e:Int} (h:nR n gen rows=e) (he:e≠0):eO n gen rows=e:=by
 unfold nR at h;unfold eO;split at h
 ·rename_i hd;rw [if_pos hd];split at h
  ·exact absurd h.symm he
  ·rename_i hs;rw [if_neg (by intro x;rw [Bool.and_eq_true] at x;exact hs x.1)];exact h
 ·rename_i hd;rw [if_neg hd];exact h
theorem Hn {n:Int} {gen:Nat} {rows:List Nat} (h:nR n gen rows=0):eO n gen rows=if lC gen rows=true then 0 else 30:=by
 unfold nR at h;unfold eO;split at h
 ·rename_i hd;rw [if_pos hd];split at h
  ·rename_i hs;rw [hs,Bool.true_and]
  ·cases h
 ·cases h
theorem sA (n:Int) (a:Option Addr) (cap gen:Nat) (rows:List Nat) (w:World) (hf:FAt w a gen rows) (r:Int) (hr:eO n gen rows=r) (len:Nat) (hl:rows.length=len) :
  Calls prog 94 #[.int .i64 n,gG gen a len cap] w fun e w'=>e = .returned (.int .i64 r)∧Below w.heap.size w w':=by
 have HF:=Lib.hid hf;have hgen:=hf.gen;have hlen:=hf.len;have hB0:Below w.heap.size w (w.alloc (.cells #[.int .u64 (gen:Int),.slice a len cap] 42)):=(Below.refl _ _).alloc (Nat.le_refl _) _;have HF1:Hid (FAt (w.alloc (.cells #[.int .u64 (gen:Int),.slice a len cap] 42)) a gen rows):=hf.below hB0;have T0:=Lib.hid (eA w (.cells #[.int .u64 (gen:Int),.slice a len cap] 42));have HL:=Lib.hid hl;rw [hl] at hlen;obtain ⟨s,hs⟩:∃ s,nR n gen rows=s:=⟨_,rfl⟩;have HS:=Lib.hid hs;unfold gG;clear hf hl;have call:∀ W,FAt W a gen rows→Calls prog 112 #[.int .i64 n,gG gen a len cap] W fun e w'=>e = .returned (.int .i64 s)∧Below W.heap.size W w':=fun W hW=>by
  have:=Qh n a cap gen rows W hW s HS.out
  rwa [HL.out] at this
 unfold gG at call;have HCALL:=Lib.hid call;clear call;by_cases h0:s=0
 ·subst h0;have HRR:Hid ((if lC gen rows=true then (0:Int) else 30)=r):=by show _=_;rw [← hr,Hn hs]
  clear hr hs;go_enter func94,ntmps94;go_wp2_with fail;refine (HCALL.out _ HF1.out).mono ?_;rintro e w1 ⟨rfl,hb1⟩;have hB1:=hB0.trans (hb1.mono hB0.size);have T1:=Lib.hid (cP T0.out hb1);obtain ⟨c0,c1,_⟩:=cF T1.out;have HF2:=Lib.hid (HF1.out.below hb1);go_wp2_with fail;go_loopw [17] (fun i wr=>∃ k:Nat,k≤len∧i = .int .i64 k∧Hid (∀ (i:Nat) x,i < k→rows[i]?=some x→(x &&& gen == 0)=true)∧w1=wr) (fun i _=>len - (intOf i).toNat)
  case atStart=>exact ⟨0,Nat.zero_le _,rfl,fun i x h=>by omega,rfl⟩
  case round =>
   obtain ⟨k,hk,rfl,HK,rfl⟩:=hrel;by_cases hlt:k < len
   ·obtain ⟨ba,offa,x,rfl,hx,hx64,hba,a0⟩:=HF2.out.at_ (by rw [HL.out];exact hlt);have g0:(0:Int)≤(k:Int):=by omega
    have g1:(k:Int) < (len:Int):=by omega
    have hax:=u64_and_nat x gen hx64 hgen;obtain ⟨q,hq⟩:∃ q,x &&& gen=q:=⟨_,rfl⟩;rw [hq] at hax;by_cases hq0:q=0
    ·have HN:Hid (∀ (i:Nat) y,i < k+1→rows[i]?=some y→(y &&& gen == 0)=true):=fun i y hi hy=>by
      by_cases e:i=k
      ·subst e;rw [hx] at hy;cases hy;rw [hq,hq0];rfl
      ·exact HK.out i y (by omega) hy
     subst hq0;clear hx hq;go_wp2;go_roundw
     case rel=>exact ⟨k+1,by omega,by go_num,HN,by trivial⟩
     case measure=>simp [intOf];omega
    ·have HR:Hid (30=r):=by
      show _=_
      have:lC gen rows=false:=Fb (p:=fun r=>r &&& gen == 0) hx (by simp only [hq];simpa using hq0)
      rw [← HRR.out,this];rfl
     have hne:((q:Int) != 0)=true:=by simp;omega
     clear hx hq hq0;go_wp2;go_ret;exact ⟨eM HR.out,hB1⟩
   ·have HR:Hid (0=r):=by
     show _=_
     have:lC gen rows=true:=zN (p:=fun r=>r &&& gen == 0) HK.out (by rw [HL.out];omega)
     rw [← HRR.out,this];rfl
    go_wp2;go_ret;exact ⟨eM HR.out,hB1⟩
 ·have HR:Hid (s=r):=by show _=_;rw [← hr,Ff hs h0]
  have hne:(s != 0)=true:=by simpa using h0
  clear hr hs h0;go_enter func94,ntmps94;go_wp2_with fail;refine (HCALL.out _ HF1.out).mono ?_;rintro e w1 ⟨rfl,hb1⟩;go_wp2;go_ret;exact ⟨eM HR.out,hB0.trans (hb1.mono hB0.size)⟩
theorem C4 {r gen:Nat} (hr:r < 18446744073709551616) (hg:gen < 18446744073709551616):(andn r gen=r)↔(r &&& gen=0):=by
 constructor
 ·intro h;apply Nat.eq_of_testBit_eq;intro j;have:=congrArg (fun z=>Nat.testBit z j) h;simp only [qT hr hg] at this;rw [Nat.testBit_and,Nat.zero_testBit];cases h1:r.testBit j
  ·rfl
  ·rw [h1] at this;simp at this;rw [this];rfl
 ·intro h;apply Nat.eq_of_testBit_eq;intro j;rw [qT hr hg];have:=congrArg (fun z=>Nat.testBit z j) h;simp only [Nat.testBit_and,Nat.zero_testBit] at this;cases h1:r.testBit j
  ·rfl
  ·rw [h1] at this;simp at this;rw [this];rfl
theorem Ho {gen:Nat} {rows:List Nat} (hg:gen < 18446744073709551616) (ha:∀ r∈rows,r < 18446744073709551616):(eL gen rows == rows)=lC gen rows:=by
 rw [Bool.eq_iff_iff,beq_iff_eq];unfold lC eL;rw [List.all_eq_true];constructor
 ·intro h x hx;obtain ⟨i,hi⟩:=List.getElem?_of_mem hx
  have:(rows.map fun r=>andn r gen)[i]?=some x:=by rw [h];exact hi
  rw [List.getElem?_map,hi] at this;have h2:andn x gen=x:=Option.some.inj this;rw [(C4 (ha x hx) hg).1 h2];rfl
 ·intro h
  have:∀ r∈rows,andn r gen=r:=fun r hr=>(C4 (ha r hr) hg).2 (by have:=h r hr;simpa using this)
  conv=>rhs;rw [← List.map_id rows]
  exact List.map_congr_left this
theorem sB (n:Int) (a:Option Addr) (cap gen:Nat) (rows:List Nat) (w:World) (hf:FAt w a gen rows) (r:Int) (hr:eO n gen rows=r) (len:Nat) (hl:rows.length=len) :
  Calls prog 66 #[.int .i64 n,gG gen a len cap] w fun e w'=>e = .returned (.int .i64 r)∧Below w.heap.size w w':=by
 have HF:=Lib.hid hf;have hgen:=hf.gen;have hlen:=hf.len;have hB0:Below w.heap.size w (w.alloc (.cells #[.int .u64 (gen:Int),.slice a len cap] 42)):=(Below.refl _ _).alloc (Nat.le_refl _) _;have HF1:Hid (FAt (w.alloc (.cells #[.int .u64 (gen:Int),.slice a len cap] 42)) a gen rows):=hf.below hB0;have T0:=Lib.hid (eA w (.cells #[.int .u64 (gen:Int),.slice a len cap] 42));have HL:=Lib.hid hl;unfold gG;cases hd:fM n
 ·have HR:Hid (31=r):=by show _=_;rw [← hr,eO,hd];rfl
  have HD:=Lib.hid hd;clear hr hd hf hl;go_enter func66,ntmps66;go_wp2_with fail;refine (Fa n false HD.out _).mono ?_;rintro e w1 ⟨rfl,rfl⟩;go_wp2;go_ret;exact ⟨eM HR.out,hB0⟩
 ·have HD:=Lib.hid hd;obtain ⟨m,rfl,hm⟩:=rY hd;have HRR:Hid ((if (fE m gen rows && lC gen rows)=true then (0:Int) else 30)=r):=by show _=_;rw [← hr,eO,hd,if_pos rfl,Int.toNat_natCast]
  have hcs:=Ho hf.gen hf.all;have HCS:=Lib.hid hcs;have hcl:=iZ gen rows;obtain ⟨ys,hys⟩:∃ ys,eL gen rows=ys:=⟨_,rfl⟩;rw [hys] at HCS hcl;have HYS:=Lib.hid hys;have HYL:Hid (ys.length=len):=hcl.trans hl;have shp:∀ (W:World) (b:Bool),fE m gen rows=b→FAt W a gen rows→Calls prog 97 #[.int .i64 m,.agg #[.int .u64 (gen:Int),.slice a len cap]] W fun e w'=>e = .returned (.bool b)∧Below W.heap.size W w':=fun W b hb hW=>by
   have:=Tj m hm a cap gen rows W hW b hb
   rwa [hl] at this
  have can:∀ (W:World),FAt W a gen rows→Calls prog 89 #[.agg #[.int .u64 (gen:Int),.slice a len cap]] W (FOne gen ys W):=fun W hW=>by
   have:=C2 a cap gen rows W hW ys hys
   rwa [hl] at this
  have HSHP:=Lib.hid shp;have HCAN:=Lib.hid can;rw [hl] at hlen;have hylen:Hid (ys.length≤100):=by show _≤_;rw [HYL.out];exact hlen
  have hrlen:Hid (rows.length≤100):=by show _≤_;rw [HL.out];exact hlen
  clear hr hd hf hl hcs hcl hys shp can;cases hsh:fE m gen rows
  ·have HR:Hid (30=r):=by show _=_;rw [← HRR.out,hsh];rfl
   have HSH:=Lib.hid hsh;obtain ⟨c0,c1,_⟩:=cF T0.out;clear hsh;go_enter func66,ntmps66;go_wp2_with fail;refine (Fa m true HD.out _).mono ?_;rintro e w1 ⟨rfl,rfl⟩;go_wp2_with fail;go_region_with (go_at_call 97;refine (HSHP.out _ false HSH.out (HF1.out.below (by first | exact Below.refl _ _ | exact (Below.refl _ _).drew))).mono ?_;rintro e w3 ⟨rfl,hb3⟩;have hB3:Below w.heap.size w w3:=hB0.trans (Below.mono (by first | exact hb3 | exact Below.trans ((Below.refl _ _).drew) hb3) hB0.size))
   all_goals
    go_wp2;go_ret;exact ⟨eM HR.out,hB3⟩
  ·have HSH:=Lib.hid hsh;obtain ⟨b,hb⟩:∃ b,lC gen rows=b:=⟨_,rfl⟩;have HSM:Hid (oN gen ys gen rows=b):=by show _=_;rw [oN,HCS.out,hb];simp
   have HR:Hid ((if b=true then (0:Int) else 30)=r):=by show _=_;rw [← HRR.out,hsh,hb];rfl
   obtain ⟨c0,c1,_⟩:=cF T0.out;clear hsh hb;go_enter func66,ntmps66;go_wp2_with fail;refine (Fa m true HD.out _).mono ?_;rintro e w1 ⟨rfl,rfl⟩;go_wp2_with fail;go_region_with (first | (go_at_call 97;refine (HSHP.out _ true HSH.out (HF1.out.below (by first | exact Below.refl _ _ | exact (Below.refl _ _).drew))).mono ?_;rintro e w3 ⟨rfl,hb3⟩;have hB3:Below w.heap.size w w3:=hB0.trans (Below.mono (by first | exact hb3 | exact Below.trans ((Below.refl _ _).drew) hb3) hB0.size);have HF3:=Lib.hid (HF.out.below hB3);obtain ⟨d0,d1,_⟩:=cF (cP T0.out (show Below _ _ w3 from (by first | exact hb3 | exact Below.trans ((Below.refl _ _).drew) hb3)))) | (go_at_call 89;refine (HCAN.out _ HF3.out).mono ?_;rintro e w4 ⟨a4,cap4,rfl,hr4,hf4,hb4⟩;have hB4:=hB3.trans (hb4.mono hB3.size);have HF4:=Lib.hid (HF3.out.below hb4);have HR4:=Lib.hid hr4;have k0:=(hb4.cell (p:=⟨w.heap.size,0,none⟩) (jF d0)).trans d0;have k1:=(hb4.cell (p:=⟨w.heap.size,1,none⟩) (jF d1)).trans d1) | (go_at_call 59;refine (Tk a4 a cap4 cap gen gen ys rows _ hylen.out hrlen.out HR4.out HF4.out.row b HSM.out _ len rfl HL.out).mono ?_;rintro e w5 ⟨rfl,hb5⟩;have hB5:=hB4.trans (hb5.mono hB4.size)))
   all_goals
    cases b
    ·go_wp2;go_ret;exact ⟨eM HR.out,hB5⟩
    ·go_wp2;go_ret;exact ⟨eM HR.out,hB5⟩
def nO (ys xs:List Nat) (k:Nat):List Nat:=ys.take k++xs.drop k
theorem uP {ys xs:List Nat} {k x y:Nat} (hy:ys[k]?=some y) (hx:xs[k]?=some x):(nO ys xs k).set k y=nO ys xs (k+1):=by
 obtain ⟨hk,ex⟩:=List.getElem?_eq_some_iff.1 hx;obtain ⟨hk2,ey⟩:=List.getElem?_eq_some_iff.1 hy;unfold nO;have hl:(ys.take k).length=k:=by rw [List.length_take];omega
 rw [List.set_append_right _ _ (by omega),hl,Nat.sub_self,List.drop_eq_getElem_cons hk,List.set_cons_zero,List.take_succ_eq_append_getElem hk2,ey,List.append_assoc];rfl
theorem yP {ys xs:List Nat} {k x:Nat} (hl:ys.length=xs.length) (hx:xs[k]?=some x):(nO ys xs k)[k]?=some x:=by
 obtain ⟨hk,ex⟩:=List.getElem?_eq_some_iff.1 hx;unfold nO;have h2:(ys.take k).length=k:=by rw [List.length_take];omega
 rw [List.getElem?_append_right (by omega),h2,Nat.sub_self,List.getElem?_drop,Nat.add_zero,hx]
theorem sC (ys xs:List Nat):nO ys xs 0=xs:=by simp [nO]
theorem uQ {ys xs:List Nat} (hl:ys.length=xs.length):nO ys xs xs.length=ys:=by unfold nO;rw [List.take_of_length_le (by omega),List.drop_of_length_le (Nat.le_refl _),List.append_nil]
theorem uR (l:List Nat) (k y:Nat):(u64s l).set k (.int .u64 (y:Int))=u64s (l.set k y):=by unfold u64s;rw [List.map_set]
theorem uS {l:List Nat} {k x:Nat} (h:l[k]?=some x):(u64s l)[k]?=some (.int .u64 (x:Int)):=by unfold u64s;rw [List.getElem?_map,h];rfl
theorem Fg {w:World} {ad:Addr} {vs:List Value} (h:fL w (some ad) vs):∀ j u,vs[j]?=some u→w.cell? (ad.add j)=some u:=by
 intro j u hj;rcases h with h | ⟨b,off,ha,hc⟩
 ·subst h;simp at hj
 ·cases ha;have:=hc j u hj;rw [← this];simp only [Addr.add];split<;>simp_all
theorem Tl (l:List Nat):∀ u∈u64s l,u.oneCell'=true:=by intro u hu;unfold u64s at hu;rw [List.mem_map] at hu;obtain ⟨r,_,rfl⟩:=hu;rfl
theorem zO (a:Option Addr) (cap:Nat) (xs:List Nat) (w:World) (hx:xs.length≤100) (hra:tO w a xs) (n:Nat) (hn:xs.length=n) :
  Calls prog 118 #[.slice a n cap] w fun e w'=>∃ v,e = .returned v∧w'.ownsRow w.heap.size 39 1 v n (u64s xs)∧Below w.heap.size w w':=by
 obtain ⟨i0,hi,hz0,hz1,hz2⟩:=info_parts Hm;have q22:∀ (w:World) (a:Option Addr) (n c n' c':Nat),(binOp .eql 40 (.slice a n c) (.slice none n' c')).run prog w = .ok (.bool a.isNone) w:=fun w a n c n' c'=>Lib.run_eql_slice_nil w _ _ a n c n' c' underlying40
 have HN:=Lib.hid hn;rw [hn] at hx;cases a with
 | none =>
  have hcs:u64s xs=[]:=by
   rcases hra with h | ⟨b,off,e,_⟩
   ·exact h
   ·cases e
  have hx0:xs=[]:=List.length_eq_zero_iff.1 (by rw [← fV,hcs];rfl);subst hx0;obtain rfl:0=n:=HN.out;clear hra;go_enter func118,ntmps118;go_wp2;go_ret;exact ⟨_,rfl,World.ownsRow_nil _ _ _ _,Below.refl _ _⟩
 | some ad =>
  have HNW:=Lib.hid (fun (o:Obj)=>Fg (fL.below hra ((Below.refl _ w).alloc (Nat.le_refl _) o)));have hown:(w.alloc (.cells #[] 39)).ownsRow w.heap.size 39 1 (.slice (some ⟨w.heap.size,0,none⟩) 0 0) 0 []:=World.ownsRow_lit w #[] 0 (Nat.le_refl _) (by simp) rfl;have HO:=Lib.hid hown;have hul:Hid ((u64s xs).length=n * 1):=by show _=_;rw [fV,hn,Nat.mul_one]
  clear hra hown hn;go_enter func118,ntmps118;go_wp2_with (at_builtin;go_loud (refine wpList_append_own _ rfl (.tmp 5) (.tmp 6) 40 rfl w.heap.size 39 i0 _ 1 8 underlying40 hi hz0 hz1 hz2 rfl (by decide) _ _ _ rfl HO.out ad n cap (u64s xs) rfl hul.out (HNW.out _) (Tl xs) (by unfold maxLen;omega) (by omega) (by simp) ?_;intro v' w2 hown2 hgrow hnil));go_ret;refine ⟨v',rfl,by simpa using hown2,?_⟩;exact ((Below.refl _ _).alloc (Nat.le_refl _) _).grown hgrow (by simp) (fun j e=>by cases e;exact Nat.le_refl _)
structure OwnPost (w w':World) (base n:Nat) (v:Value) (xs:List Nat):Prop where
 own:w'.ownsRow base 39 1 v n (u64s xs)
 below:Below base w w'
 rest:∀ j,j < w.heap.size→some j≠v.ownBlock→w'.heap[j]?=w.heap[j]?
theorem uT (gen:Nat) (base n:Nat) (v:Value) (xs ys:List Nat) (w:World) (hgen:gen < 18446744073709551616) (hall:∀ r∈xs,r < 18446744073709551616) (hx:xs.length≤100) (hn:xs.length=n) (hb0:base≤w.heap.size) (hown:w.ownsRow base 39 1 v n (u64s xs)) (hys:eL gen xs=ys) :
  Calls prog 123 #[.int .u64 gen,v] w fun e w'=>e = .returned (.agg #[.int .u64 (gen:Int),v])∧OwnPost w w' base n v ys:=by
 have HALL:=Lib.hid hall;have HN:=Lib.hid hn;have HYL:Hid (ys.length=xs.length):=by show _=_;rw [← hys,iZ]
 have HYS:=Lib.hid hys;obtain ⟨a,cap,hv⟩:∃ a cap,v = .slice a n cap:=by
  rcases hown.2 with ⟨h,h0⟩ | ⟨g,cap,cur,h,_⟩
  ·exact ⟨none,0,by rw [h,h0]⟩
  ·exact ⟨_,_,h⟩
 subst hv;have HO0:=Lib.hid hown;rw [hn] at hx;clear hown hys hall hn;go_enter func123,ntmps123;go_wp2_with fail;go_loopw [8] (fun i wr=>∃ k:Nat,k≤n∧i = .int .i64 k∧Hid (wr.ownsRow base 39 1 (.slice a n cap) n (u64s (nO ys xs k)))∧Hid (wr.heap[w.heap.size]?=some (.cells #[.int .u64 0,.slice none 0 0] 42 (0,0)))∧Below base w wr∧Hid (∀ j,j < w.heap.size→some j≠(Value.slice a n cap).ownBlock→wr.heap[j]?=w.heap[j]?)) (fun i _=>n - (intOf i).toNat)
 case atStart =>
  refine ⟨0,Nat.zero_le _,rfl,?_,eA _ _,(Below.refl _ _).alloc hb0 _,fun j hj _=>Below.heap_alloc _ _ _ hj⟩;rw [sC];exact HO0.out.alloc _
 case round =>
  obtain ⟨k,hk,rfl,HO,HR,hb,HX⟩:=hrel;by_cases hlt:k < n
  ·obtain ⟨x,hx1⟩:∃ x,xs[k]?=some x:=⟨xs[k]'(by rw [HN.out];exact hlt),by simp [HN.out,hlt]⟩;have hx64:=HALL.out x (List.mem_of_getElem? hx1);have hag:=Np x gen hx64 hgen;obtain ⟨y,hy⟩:∃ y,andn x gen=y:=⟨_,rfl⟩;rw [hy] at hag;have hy1:ys[k]?=some y:=by rw [← HYS.out,eL,List.getElem?_map,hx1,← hy];rfl
   have HM:=Lib.hid (uP hy1 hx1);obtain ⟨g,capg,hv,hbg,hgl⟩:=HO.out.form (show 0 < n by omega);have hv2:a=some ⟨g,0,none⟩∧capg=cap:=by cases hv;exact ⟨rfl,rfl⟩
   obtain ⟨rfl,rfl⟩:=hv2;have d0:=(HO.out.cellAt k (by omega)).trans (uS (yP HYL.out hx1));have q0:=HO.out.frozenAt k;have g0:(0:Int)≤(k:Int):=by omega
   have g3:(k:Int) < (n:Int):=by omega
   have HO2:Hid ((wr.setCell ⟨g,k,none⟩ (.int .u64 (y:Int))).ownsRow base 39 1 (.slice (some ⟨g,0,none⟩) n capg) n (u64s (nO ys xs (k+1)))):=by rw [← HM.out,← uR];exact (HO.out.stored k _).1
   have hgr:g≠w.heap.size:=by intro e;have h1:=kF HR.out (by decide) HO.out;apply h1;show some _=some g;rw [e]
   have HR2:=Lib.hid (dS (j:=k) (c:=.int .u64 (y:Int)) HR.out (fun e=>hgr e.symm));have HX2:Hid (∀ j,j < w.heap.size→some j≠(Value.slice (some ⟨g,0,none⟩) n capg).ownBlock→(wr.setCell ⟨g,k,none⟩ (.int .u64 (y:Int))).heap[j]?=w.heap[j]?):=fun j h1 h2=>by rw [Below.heap_setCell _ _ _ _ (show j≠g by intro e;apply h2;rw [e];rfl)];exact HX.out j h1 h2
   have hb2:=hb.setCell (p:=⟨g,k,none⟩) hbg (.int .u64 (y:Int));clear hx1 hy hy1 hv hgr;go_wp2;go_roundw
   case rel=>exact ⟨k+1,by omega,by go_num,HO2,HR2,hb2,HX2⟩
   case measure=>simp [intOf];omega
  ·obtain rfl:k=n:=by omega
   have HO2:Hid (wr.ownsRow base 39 1 (.slice a k cap) k (u64s ys)):=by
    have:=HO.out;rw [← HN.out] at this ⊢
    rwa [uQ HYL.out] at this
   obtain ⟨r0,r1,rf⟩:=cF HR.out;have rf0:=rf 0;have rf1:=rf 1;have N1:=Lib.hid (iK (c:=.slice a k cap) (kE (c:=.int .u64 (gen:Int)) HR.out));obtain ⟨s0,s1,_⟩:=cF N1.out;have HNB:=Lib.hid (kF HR.out (by decide) HO.out);clear rf;go_wp2;refine bodyPost_ret (v:=.agg #[.int .u64 (gen:Int),.slice a k cap]) ?_ rfl ⟨rfl,?_,(hb.setCell (p:=⟨w.heap.size,0,none⟩) hb0 _).setCell (p:=⟨w.heap.size,1,none⟩) hb0 _,?_⟩
   ·simp [results,results123,go_sem,s0,s1]
   ·exact (HO2.out.kept (fG _ _ _ _) (.inr HNB.out.symm)).kept (fG _ _ _ _) (.inr HNB.out.symm)
   ·intro j h1 h2;rw [Below.heap_setCell _ _ _ _ (show j≠w.heap.size by omega),Below.heap_setCell _ _ _ _ (show j≠w.heap.size by omega)];exact HX.out j h1 h2
def Qk (gen:Nat) (rows:List Nat) (err:Int) (w:World) (e:Ending) (w':World):Prop :=
 ∃ a cap,e = .returned (.tuple #[.agg #[.int .u64 (gen:Int),.slice a rows.length cap],.int .i64 err])∧fL w' a (u64s rows)∧(∀ ad,a=some ad→w.heap.size≤ad.block∧ad.block < w'.heap.size)∧Below w.heap.size w w'
theorem zP {w w':World} (err:Int) (hb:Below w.heap.size w w'):Qk 0 [] err w (.returned (.tuple #[.agg #[.int .u64 0,.slice none 0 0],.int .i64 err])) w' :=
 ⟨none,0,rfl,.inl rfl,(fun ad e=>by cases e),hb⟩
theorem Ql {w:World} {base n:Nat} {E:TypeId} {v:Value} {xs:List Value} (h:w.ownsRow base E 1 v n xs):∃ a cap,v = .slice a n cap:=by
 rcases h.2 with ⟨h,h0⟩ | ⟨g,cap,cur,h,_⟩
 ·exact ⟨none,0,by rw [h,h0]⟩
 ·exact ⟨_,_,h⟩
theorem zQ {w w':World} {gen n:Nat} {v:Value} {rows:List Nat} {base:Nat} (hb0:w.heap.size≤base) (h:w'.ownsRow base 39 1 v n (u64s rows)) (hb:Below w.heap.size w w') (err:Int):Qk gen rows err w (.returned (.tuple #[.agg #[.int .u64 (gen:Int),v],.int .i64 err])) w':=by obtain ⟨hn,a,cap,rfl,hr,hf⟩:=fL.of_own h;exact ⟨a,cap,by rw [fV],hr,fun ad e=>⟨Nat.le_trans hb0 (hf ad e).1,(hf ad e).2⟩,hb⟩
def lA (n:Int) (ga:Nat) (xs:List Nat) (gb:Nat) (ys:List Nat):Int:=if eO n ga xs=0 then eO n gb ys else eO n ga xs
theorem uU (n:Int) (a b:Option Addr) (capa capb ga gb:Nat) (xs ys:List Nat) (w:World) (hfa:FAt w a ga xs) (hfb:FAt w b gb ys) (r:Int) (hr:lA n ga xs gb ys=r) (la lb:Nat) (hla:xs.length=la) (hlb:ys.length=lb) :
  Calls prog 122 #[.int .i64 n,gG ga a la capa,gG gb b lb capb] w fun e w'=>e = .returned (.int .i64 r)∧Below w.heap.size w w':=by
 unfold gG;have hB0:Below w.heap.size w ((w.alloc (.cells #[.int .u64 (ga:Int),.slice a la capa] 42)).alloc (.cells #[.int .u64 (gb:Int),.slice b lb capb] 42)):=((Below.refl _ _).alloc (Nat.le_refl _) _).alloc (by simp) _;have HA:=Lib.hid (hfa.below hB0);have HB:=Lib.hid (hfb.below hB0);have HLA:=Lib.hid hla;have HLB:=Lib.hid hlb;obtain ⟨t0,t1⟩:=rZ w #[.int .u64 (ga:Int),.slice a la capa] #[.int .u64 (gb:Int),.slice b lb capb] 42;have T1:=Lib.hid t1;obtain ⟨s,hs⟩:∃ s,eO n ga xs=s:=⟨_,rfl⟩;have HS:=Lib.hid hs;by_cases h0:s=0
 ·subst h0;have HR:Hid (eO n gb ys=r):=by show _=_;rw [← hr,lA,if_pos hs]
  clear hfa hfb hr hla hlb t0 t1 hs;go_enter func122,ntmps122;go_wp2_with fail;refine (sA n a capa ga xs _ HA.out 0 HS.out la HLA.out).mono ?_;rintro e w1 ⟨rfl,hb1⟩;have hB1:=hB0.trans (hb1.mono hB0.size);obtain ⟨d0,d1,_⟩:=cF (cP T1.out hb1);go_wp2_with fail;refine (sA n b capb gb ys _ (HB.out.below hb1) r HR.out lb HLB.out).mono ?_;rintro e w2 ⟨rfl,hb2⟩;go_wp2;go_ret;exact ⟨rfl,hB1.trans (hb2.mono hB1.size)⟩
 ·have HR:Hid (s=r):=by show _=_;rw [← hr,lA,hs,if_neg h0]
  have hne:(s != 0)=true:=by simpa using h0
  clear hfa hfb hr hla hlb t0 t1 hs h0;go_enter func122,ntmps122;go_wp2_with fail;refine (sA n a capa ga xs _ HA.out s HS.out la HLA.out).mono ?_;rintro e w1 ⟨rfl,hb1⟩;go_wp2;go_ret;exact ⟨eM HR.out,hB0.trans (hb1.mono hB0.size)⟩
theorem Nq (n:Int) (a b:Option Addr) (capa capb ga gb:Nat) (xs ys:List Nat) (w:World) (hfa:FAt w a ga xs) (hfb:FAt w b gb ys) (r:Int) (hr:lA n ga xs gb ys=r) (la lb:Nat) (hla:xs.length=la) (hlb:ys.length=lb) :
  Calls prog 87 #[.int .i64 n,gG ga a la capa,gG gb b lb capb] w fun e w'=>e = .returned (.int .i64 r)∧Below w.heap.size w w':=by
 unfold gG;have hB0:Below w.heap.size w ((w.alloc (.cells #[.int .u64 (ga:Int),.slice a la capa] 42)).alloc (.cells #[.int .u64 (gb:Int),.slice b lb capb] 42)):=((Below.refl _ _).alloc (Nat.le_refl _) _).alloc (by simp) _;have HA:=Lib.hid (hfa.below hB0);have HB:=Lib.hid (hfb.below hB0);have HLA:=Lib.hid hla;have HLB:=Lib.hid hlb;obtain ⟨t0,t1⟩:=rZ w #[.int .u64 (ga:Int),.slice a la capa] #[.int .u64 (gb:Int),.slice b lb capb] 42;have T1:=Lib.hid t1;obtain ⟨s,hs⟩:∃ s,eO n ga xs=s:=⟨_,rfl⟩;have HS:=Lib.hid hs;by_cases h0:s=0
 ·subst h0;have HR:Hid (eO n gb ys=r):=by show _=_;rw [← hr,lA,if_pos hs]
  clear hfa hfb hr hla hlb t0 t1 hs;go_enter func87,ntmps87;go_wp2_with fail;refine (sB n a capa ga xs _ HA.out 0 HS.out la HLA.out).mono ?_;rintro e w1 ⟨rfl,hb1⟩;have hB1:=hB0.trans (hb1.mono hB0.size);obtain ⟨d0,d1,_⟩:=cF (cP T1.out hb1);go_wp2_with fail;refine (sB n b capb gb ys _ (HB.out.below hb1) r HR.out lb HLB.out).mono ?_;rintro e w2 ⟨rfl,hb2⟩;go_wp2;go_ret;exact ⟨rfl,hB1.trans (hb2.mono hB1.size)⟩
 ·have HR:Hid (s=r):=by show _=_;rw [← hr,lA,hs,if_neg h0]
  have hne:(s != 0)=true:=by simpa using h0
  clear hfa hfb hr hla hlb t0 t1 hs h0;go_enter func87,ntmps87;go_wp2_with fail;refine (sB n a capa ga xs _ HA.out s HS.out la HLA.out).mono ?_;rintro e w1 ⟨rfl,hb1⟩;go_wp2;go_ret;exact ⟨eM HR.out,hB0.trans (hb1.mono hB0.size)⟩
structure TabC (W:World):Prop where
 ctz:Lib.TabIs prog W "math/bits.deBruijn64tab" .u8 qQ
theorem TabC.below {W W':World} (h:TabC W) (hb:Below W.heap.size W W'):TabC W':=⟨var?_below hb Ki (Tb Ki h.ctz) h.ctz⟩
theorem Kt (x:Nat) (hx0:x≠0) (hx:x < 18446744073709551616) (w:World) (ht:TabC w) :
  Calls prog 144 #[.int .u64 x] w fun e w'=>e = .returned (.int .i64 (Lib.ctz 64 x))∧w=w':=by
 obtain ⟨hlow,hk⟩:=Lib.lowest_bit 64 x hx0 hx;obtain ⟨hi,htab⟩:=Lib.deBruijn64_at _ hk;have hcell:=ht.ctz.cell Ki _ (by rw [qQ,List.length_map];exact hi);have e:qQ.getD (2 ^ Lib.ctz 64 x * 285870213051353865 % 18446744073709551616 / 288230376151711744) 0=((Lib.ctz 64 x:Nat):Int):=by
  have:qQ.getD (2 ^ Lib.ctz 64 x * 285870213051353865 % 18446744073709551616 / 288230376151711744) 0=Int.ofNat (Lib.deBruijn64tab.getD (2 ^ Lib.ctz 64 x * 285870213051353865 % 18446744073709551616 / 288230376151711744) 0):=by simp only [qQ,List.getD,List.getElem?_map];cases Lib.deBruijn64tab[2 ^ Lib.ctz 64 x * 285870213051353865 % 18446744073709551616 / 288230376151711744]?<;>rfl
  rw [this,htab];rfl
 rw [e] at hcell;exact Nl x _ _ w (by simp;omega) (Go.Proofs.tz64_key x _ hx hx0 hlow) hi hk hcell
theorem Hp (f:Nat) (i:Int) (r:Int) (b:Bool) (h:mU f i r b) (hf:f < 18446744073709551616) (w:World) (ht:TabC w) :
  Calls prog 146 #[.int .u64 f,.int .i64 i] w fun e w'=>e = .returned (.tuple #[.int .i64 r,.bool b])∧w=w':=by
 have HT:=Lib.hid ht;by_cases hi:63 < i
 ·have e:r=0∧b=false:=lO h (.inr ⟨rfl,rfl,fun j hj hij=>by omega⟩);obtain ⟨rfl,rfl⟩:=e;clear h ht;go_enter func146,ntmps146;go_wp2;go_ret2;exact ⟨rfl,rfl⟩
 ·have hc:=Lib.hid (E8 f i i.toNat (by omega) rfl hf r b h);have HA:bits BinOp.andNot IntKind.u64 (f:Int) ((2 ^ i.toNat - 1:Nat):Int)=((restN f i.toNat:Nat):Int):=u64_andNot_nat f _ hf (E6 (by omega));have hmx:(if i < 0 then (0:Int) else i)=((i.toNat:Nat):Int):=by split<;>omega
  have hmx2:max i 0=((i.toNat:Nat):Int):=by omega
  have hlt:=Hg f i.toNat hf;obtain ⟨m,hm⟩:∃ m,i.toNat=m:=⟨_,rfl⟩;rw [hm] at HA hc hmx hmx2 hlt;have hm63:m≤63:=by omega
  obtain ⟨q,hq⟩:∃ q,restN f m=q:=⟨_,rfl⟩;rw [hq] at HA hc hlt;obtain ⟨p,hp⟩:∃ p:Nat,2 ^ m - 1=p:=⟨_,rfl⟩;rw [hp] at HA;have HP:=Lib.hid hp;clear ht h hq hp hf hm;rcases hc.out with ⟨h0,rfl,rfl⟩ | ⟨h0,hr,rfl⟩
  ·subst h0;go_enter func146,ntmps146;go_wp2_with fail;refine (zL m (by omega) _).mono ?_;rintro e w1 ⟨rfl,rfl⟩;rw [HP.out];go_wp2;go_ret2;exact ⟨rfl,rfl⟩
  ·have HR:=Lib.hid hr;have hq0:((q:Int) == 0)=false:=by simp;omega
   clear hr hc;go_enter func146,ntmps146;go_wp2_with fail;refine (zL m (by omega) _).mono ?_;rintro e w1 ⟨rfl,rfl⟩;rw [HP.out];go_wp2_with fail;refine (Kt q (by omega) hlt _ HT.out).mono ?_;rintro e w1 ⟨rfl,rfl⟩;go_wp2;go_ret2;exact ⟨rib HR.out.symm rfl,rfl⟩
end
section
open Go.RowKit Go.Shelf
def Ku (rest:List Nat) (r:Int) (b:Bool):Prop:=(rest=[]∧r=0∧b=false)∨(∃ x l,rest=x::l∧r=(x:Int)∧b=true)
theorem tQ {s j:Nat} (hj:j < 64) (h:s.testBit j=true):j∈mem s:=by unfold mem;rw [List.mem_filter];exact ⟨List.mem_range.2 hj,h⟩
theorem tR (s:Nat):(mem s).Pairwise (· < ·):=List.Pairwise.filter _ List.pairwise_lt_range
theorem C5 {s:Nat} {pre rest:List Nat} {i r:Int} {b:Bool} (hm:mem s=pre++rest) (hp:∀ p∈pre,(p:Int) < i) (hr:∀ q∈rest,i≤(q:Int)) (h:mU s i r b):Ku rest r b:=by
 have hs:=tR s;rw [hm,List.pairwise_append] at hs;cases rest with
 | nil =>
  have:mU s i 0 false:=.inr ⟨rfl,rfl,fun j hj hij=>by
   cases hb:s.testBit j
   ·rfl
   ·have:=tQ hj hb;rw [hm,List.append_nil] at this;have:=hp j this;omega⟩
  obtain ⟨e1,e2⟩:=lO h this;exact .inl ⟨rfl,e1,e2⟩
 | cons y l =>
  have hy:y∈mem s:=by rw [hm];simp
  have hyl:∀ q∈l,y < q:=fun q hq=>(List.pairwise_cons.1 hs.2.1).1 q hq
  have:mU s i y true:=.inl ⟨rfl,y,rfl,E3 hy,hr y (by simp),E4 hy,fun j hj hij=>by
   cases hb:s.testBit j
   ·rfl
   ·have hj64:=E3 hy;have:=tQ (by omega) hb;rw [hm,List.mem_append,List.mem_cons] at this;rcases this with h1 | h1 | h1
    ·have:=hp j h1;omega
    ·omega
    ·have:=hyl j h1;omega⟩
  obtain ⟨e1,e2⟩:=lO h this;exact .inr ⟨y,l,rfl,e1,e2⟩
theorem Qm {s:Nat} {pre l:List Nat} {x:Nat} (hm:mem s=pre++x::l) {r:Int} {b:Bool} (h:mU s ((x:Int)+1) r b):Ku l r b:=by
 have hs:=tR s;rw [hm,List.pairwise_append] at hs;refine C5 (pre:=pre++[x]) (by rw [hm];simp) (fun p hp=>?_) (fun q hq=>?_) h
 ·rw [List.mem_append,List.mem_singleton] at hp;rcases hp with hp | rfl
  ·have:=hs.2.2 p hp x (by simp);omega
  ·omega
 ·have:=(List.pairwise_cons.1 hs.2.1).1 q hq;omega
def Kx:Value→Bool
 | .bool b=>b
 | _=>false
section iter
attribute [local go_sem] Oper.semAt_some
theorem Qn (n:Nat) (hn:1≤n) (l B s:Nat) (hs:s < 18446744073709551616) (J:List Nat→World→Prop) (hA:Abide B J) (hT:∀ pre X,J pre X→TabC X)
  (hY:∀ (pre:List Nat) (x:Nat) (rest:List Nat) X,mem s=pre++x::rest→J pre X→YieldAt Fence.wide (n - 1) prog l #[.int .i64 x] X fun e X'=>e = .returned (.bool true)∧J (pre++[x]) X'∧X'.heap[B]?=X.heap[B]?)
  (W:World) (hB:Boxed W B 39 (.int .u64 s)) (h0:J [] W) :
  CallsIn Fence.wide n prog 145 #[.func (.yield l) #[] #[],.pointer (some ⟨B,0,none⟩)] W fun e W'=>(∃ v,e = .returned v)∧J (mem s) W':=by
 have HY:=Lib.hid hY;have HJ0:=Lib.hid h0;have HB0:=Lib.hid hB;have hc0:=hB.cell;obtain ⟨r0,b0,hn0⟩:=Cz s 0;have HN0:=Lib.hid hn0;have HNR:=Lib.hid (C5 (pre:=[]) (rest:=mem s) rfl (by simp) (fun q _=>by omega) hn0);clear hY h0 hB hn0;refine callsIn_of_wp func145 rfl trivial ?_ rfl;simp only [ntmps145,List.size_toArray,List.length_cons,List.length_nil,Nat.reduceAdd,Nat.reduceSub,Array.replicate_succ,Array.replicate_zero,List.push_toArray,List.append_toArray,List.nil_append,List.cons_append]
 gi_wp2_with (refine ⟨trivial,?_⟩;gi_at_call 146;refine (callsIn_wide.2 (Hp s 0 r0 b0 HN0.out hs _ (hT _ _ HJ0.out))).mono ?_;rintro e w' ⟨rfl,rfl⟩)
 gi_loopw [3,4] (fun i ok wr=>∃ (pre rest:List Nat) (r:Int) (b:Bool),i = .int .i64 r∧ok = .bool b∧Hid (mem s=pre++rest)∧Hid (Ku rest r b)∧Hid (Boxed wr B 39 (.int .u64 s))∧Hid (J pre wr))
  (fun i ok _=>if Kx ok=true then 65 - (intOf i).toNat else 0)
 case atStart=>exact ⟨[],mem s,r0,b0,rfl,rfl,rfl,HNR.out,HB0.out,HJ0.out⟩
 case round =>
  obtain ⟨pre,rest,r,b,rfl,rfl,hm,hnx,hb,hJ⟩:=hrel;have hc:=hb.out.cell;rcases hnx.out with ⟨rfl,rfl,rfl⟩ | ⟨x,tl,rfl,rfl,rfl⟩
  ·have hall:Hid (pre=mem s):=by show _=_;rw [hm.out,List.append_nil]
   gi_wp2
   go_end0;exact ⟨⟨_,rfl⟩,by rw [← hall.out];exact hJ.out⟩
  ·have hx64:x < 64:=E3 (s:=s) (by rw [hm.out];simp);obtain ⟨r2,b2,hn2⟩:=Cz s ((x:Int)+1);have HN2:=Lib.hid hn2;have HNR2:=Lib.hid (Qm hm.out hn2);have hM3:Hid (mem s=(pre++[x])++tl):=by show _=_;rw [hm.out];simp
   obtain ⟨fn,tmps,assign,body,hy,hR⟩:=HY.out pre x tl wr hm.out hJ.out;have hmx:Hid (∀ y l2,tl=y::l2→x < y):=fun y l2 e=>by have hs:=tR s;rw [hm.out,List.pairwise_append] at hs;exact (List.pairwise_cons.1 hs.2.1).1 y (by rw [e];simp)
   clear hn2
   gi_wp2
   refine hR.mono ?_;rintro e W3 ⟨rfl,hJ3,hk3⟩;have HB3:Hid (Boxed W3 B 39 (.int .u64 s)):=hk3.trans hb.out;have HJ3:=Lib.hid hJ3;have hc3:=HB3.out.cell;clear hk3 hJ3
   gi_wp2_with (refine ⟨trivial,?_⟩;gi_at_call 146;refine (callsIn_wide.2 (Hp s ((x:Int)+1) r2 b2 HN2.out hs _ (hT _ _ HJ3.out))).mono ?_;rintro e w' ⟨rfl,rfl⟩)
   go_roundw
   case rel=>exact ⟨pre++[x],tl,r2,b2,rfl,rfl,hM3,HNR2,HB3,HJ3⟩
   case measure =>
    rcases HNR2.out with ⟨_,rfl,rfl⟩ | ⟨y,l2,e,rfl,rfl⟩
    ·simp [intOf,Kx];omega
    ·have:=hmx.out y l2 e;simp [intOf,Kx];omega
end iter
theorem Fh (s:Nat) (w:World) :
  Calls prog 143 #[.int .u64 s] w fun e w'=>e = .returned (.func (.func 145) #[] #[.pointer (some ⟨w.heap.size,0,none⟩)])∧w'=w.alloc (.cells #[.int .u64 s] 39):=by
 go_enter func143,ntmps143;go_wp2;go_ret;exact ⟨rfl,rfl⟩
theorem Fi (n:Nat) (hn:1≤n) (B s:Nat) (hs:s < 18446744073709551616) (w:World) (hB:Boxed w B 39 (.int .u64 s)) :
  Nn Fence.wide n prog 145 #[.pointer (some ⟨B,0,none⟩)] (fun x:Nat=>#[Value.int .i64 x]) (mem s) B TabC w :=
 fun l J W hW hA hT hY h0=>Qn n hn l B s hs J hA hT hY W (hW.trans hB) h0
def accF (rows:List Nat) (gen:Nat) (l:List Nat):Nat:=l.foldl (fun c i=>c ||| rows.getD i 0) gen
def madeF (gen:Nat) (rows:List Nat) (s:Nat):Nat:=accF rows gen (mem s)
theorem Qo (rows:List Nat) (gen:Nat) (l:List Nat) (x:Nat):accF rows gen (l++[x])=accF rows gen l ||| rows.getD x 0:=by unfold accF;rw [List.foldl_append];rfl
theorem Tm {a b:Nat} (ha:a < 18446744073709551616) (hb:b < 18446744073709551616):a ||| b < 18446744073709551616:=by have e:(18446744073709551616:Nat)=2 ^ 64:=rfl;rw [e] at *;exact Nat.or_lt_two_pow ha hb
theorem Fj {rows:List Nat} (hr:∀ r∈rows,r < 18446744073709551616):∀ (l:List Nat) (gen:Nat),gen < 18446744073709551616→accF rows gen l < 18446744073709551616
 | [],gen,h=>h
 | x::l,gen,h=>by
  have:rows.getD x 0 < 18446744073709551616:=by
   rw [List.getD_eq_getElem?_getD];cases hx:rows[x]? with
   | none=>simp
   | some y=>exact hr y (List.mem_of_getElem? hx)
  exact Fj hr l _ (Tm h this)
theorem uV {rows:List Nat} {gen s:Nat} (hr:∀ r∈rows,r < 18446744073709551616) (hg:gen < 18446744073709551616):madeF gen rows s < 18446744073709551616:=Fj hr _ _ hg
end
section
open Go.RowKit Go.Shelf
theorem Ky {B C D:Nat} {t:TypeId} {f:List Nat→Value} {o:Obj} {w:World} (hBC:B≠C) (hBD:B≠D) (hBn:w.heap.size≤B) {tB:TypeId} {vB:Value} :
  Abide B (fun (pre:List Nat) W=>(∃ v,Boxed W B tB v)∧W.heap[D]?=some o∧Boxed W C t (f pre)∧Below w.heap.size w W) where
 cell:=by rintro pre X u ⟨⟨v,hB⟩,hD,hC,hb⟩;exact ⟨⟨u,hB.set u⟩,(Below.heap_setCell _ _ _ _ hBD.symm).trans hD,hC.other hBC.symm _,hb.setCell (p:=⟨B,0,none⟩) hBn _⟩
 drew:=by rintro pre X m ⟨hB,hD,hC,hb⟩;exact ⟨hB,hD,hC,below_drewN hb m⟩
theorem Tn {B C D E:Nat} {t tB T:TypeId} {f:List Nat→Value} {cs:Array Value} {w:World} (hE:w.heap.size≤E) :
  OwnFrom E (fun (pre:List Nat) W=>(∃ v,Boxed W B tB v)∧W.heap[D]?=some (.cells cs T (0,0))∧Boxed W C t (f pre)∧Below w.heap.size w W):=by
 rintro s X Y row ⟨⟨vB,hB⟩,hD,hC,hb⟩ hg hrow;have ne:∀ (b:Nat) (tt:TypeId) (u:Array Value),X.heap[b]?=some (.cells u tt (0,0))→some b≠row:=fun b tt u hbx e'=>by obtain ⟨_,o,ho,hc⟩:=hrow b e'.symm;rw [hbx] at ho;cases ho;cases hc
 exact ⟨⟨vB,hB.kept hg (ne _ _ _ hB)⟩,(hg.block D (Array.getElem?_eq_some_iff.1 hD).1 (ne _ _ _ hD)).trans hD,hC.kept hg (ne _ _ _ hC),hb.grown hg hb.size fun k e'=>Nat.le_trans hE (hrow k e').1⟩
section madeA
attribute [local go_sem] Oper.semAt_some
theorem To (a:Option Addr) (cap gen:Nat) (rows:List Nat) (s:Nat) (hs:s < 18446744073709551616) (w:World) (hf:FAt w a gen rows) (hin:∀ i∈mem s,i < rows.length) (ht:TabC w) (r:Nat) (hr:madeF gen rows s=r) (len:Nat) (hl:rows.length=len) :
  CallsIn Fence.wide 5 prog 141 #[gG gen a len cap,.int .u64 s] w fun e W'=>e = .returned (.int .u64 r)∧Below w.heap.size w W':=by
 unfold gG;have HF:=Lib.hid hf;have HIN:=Lib.hid hin;have HR:=Lib.hid hr;have HL:=Lib.hid hl;have HT:=Lib.hid ht;have hgen:=hf.gen;have HALL:=Lib.hid hf.all;have hlen:len≤100:=by rw [← hl];exact hf.len
 clear hin hr hl;refine callsIn_of_wp_marks func141 rfl trivial ?_ rfl;simp only [ntmps141,List.size_toArray,List.length_cons,List.length_nil,Nat.reduceAdd,Nat.reduceSub,Array.replicate_succ,Array.replicate_zero,List.push_toArray,List.append_toArray,List.nil_append,List.cons_append]
 gi_wp2_with (refine ⟨trivial,?_⟩;gi_at_call 143;refine (callsIn_wide.2 (Fh s _)).mono ?_;rintro e w' ⟨rfl,rfl⟩)
 have b0:=eA w (.cells #[.int .u64 (gen:Int),.slice a len cap] 42);have bO:=Boxed.new (w.alloc (.cells #[.int .u64 (gen:Int),.slice a len cap] 42)) 39 (.int .u64 (gen:Int));have bN:=Boxed.new ((w.alloc (.cells #[.int .u64 (gen:Int),.slice a len cap] 42)).alloc (.cells #[.int .u64 (gen:Int)] 39)) 39 (.int .u64 s);rw [World.size_alloc] at bO;rw [World.size_alloc,World.size_alloc] at bN;have hB0:Below w.heap.size w (((w.alloc (.cells #[.int .u64 (gen:Int),.slice a len cap] 42)).alloc (.cells #[.int .u64 (gen:Int)] 39)).alloc (.cells #[.int .u64 s] 39)):=(((Below.refl _ w).alloc (Nat.le_refl _) _).alloc (by simp) _).alloc (by simp;omega) _;refine Ko (F:=Fence.wide) (n:=5) rfl (by omega) (gf:=145) (lb:=#[.pointer (some ⟨w.heap.size+1+1,0,none⟩)]) (by simp [go_sem]) trivial (enters_of func145 (by kernel_rfl) rfl)
  (B:=w.heap.size+1+1) (Kw:=TabC) (by simp) (Fi 4 (by omega) (w.heap.size+1+1) s hs _ bN) (fun _=>rfl)
  (fun pre W=>(∃ v,Boxed W (w.heap.size+1+1) 39 v)∧W.heap[w.heap.size]?=some (.cells #[.int .u64 (gen:Int),.slice a len cap] 42 (0,0))∧Boxed W (w.heap.size+1) 39 (.int .u64 (accF rows gen pre:Nat))∧Below w.heap.size w W)
  (Tn (by simp;omega)) (Ky (by omega) (by omega) (by omega) (vB:=undef)) (fun pre X h=>HT.out.below h.2.2.2) ⟨⟨_,bN⟩,dC (dC b0 _) _,bO.alloc _,hB0⟩
  (fun x=>{ tmps:=#[.agg #[.int .u64 (gen:Int),.slice a len cap],.int .u64 s,.pointer (some ⟨w.heap.size,0,none⟩),undef,.int .u64 0,.pointer (some ⟨w.heap.size+1,0,none⟩),.int .i64 x,.pointer (some ⟨w.heap.size,0,none⟩),.int .u64 (gen:Int),.int .u64 s,.func (.func 145) #[] #[.pointer (some ⟨w.heap.size+1+1,0,none⟩)],.int .i64 x,undef,undef,undef,undef,undef,undef,undef,undef],defers:=[] }) ?assign ?body ?done
 case assign =>
  intro l x W K hK
  gi_wp2
  exact hK
 case body =>
  rintro l pre x rest W hx ⟨⟨vB,hvB⟩,h0,hv,hB⟩;have hc:=hv.cell;have hfr:=hv.frozen;obtain ⟨c0,c1,_⟩:=cF h0;have hxm:x∈mem s:=by rw [hx];simp
  have hxl:x < len:=by rw [← HL.out];exact HIN.out x hxm
  obtain ⟨ba,offa,z,rfl,hz,hz64,hba,a0⟩:=(HF.out.below hB).at_ (i:=x) (by rw [HL.out];exact hxl);have g0:(0:Int)≤(x:Int):=by omega
  have g1:(x:Int) < (len:Int):=by omega
  have hacc:=Fj HALL.out pre gen hgen;have hor:=u64_or_nat (accF rows gen pre) z hacc hz64;have HS:Hid (accF rows gen (pre++[x])=accF rows gen pre ||| z):=by show _=_;rw [Qo,List.getD_eq_getElem?_getD,hz];rfl
  obtain ⟨u,hu⟩:∃ u,accF rows gen pre=u:=⟨_,rfl⟩;rw [hu] at hor hc HS hv;obtain ⟨q,hq⟩:∃ q,u ||| z=q:=⟨_,rfl⟩;rw [hq] at hor HS;have HV:=Lib.hid hv;have H0:=Lib.hid h0;have HVB:=Lib.hid hvB;clear hz hu hq hx hacc hv h0 hvB;have hmix:prog.follows .mixedOrders=true:=by kernel_rfl
  gi_wp2_with fail
  gi_region_with_o (fail)
  all_goals
   refine ⟨((KeepsOthers.setCell _ _ _).trans (KeepsOthers.drew _)).from _,Below.heap_setCell _ _ _ _ (show w.heap.size+1+1≠w.heap.size+1 by omega),⟨vB,HVB.out.other (by omega) _⟩,dS H0.out (by omega),?_,(hB.setCell (p:=⟨w.heap.size+1,0,none⟩) (by simp) _).drew⟩;rw [HS.out];exact HV.out.set _
 case done =>
  rintro D W hD ⟨⟨vB,hvB⟩,h0,hv,hB⟩ hK;have hc:=hv.cell;have HQ:Hid (accF rows gen (mem s)=r):=HR.out
  gi_wp2
  refine ⟨by simp,.inl ⟨_,_,rfl,run_takeDeferred hK,?_⟩⟩;exact ⟨_,results_tmp rfl _ _ _,by rw [← HQ.out];rfl,hB.trans (belowK_b (w:=w) (Nat.le_refl _) W D _ _ (by simp at hD;omega) hK rfl rfl)⟩
end madeA
theorem Hq (a:Option Addr) (cap gen:Nat) (rows:List Nat) (s:Nat) (hs:s < 18446744073709551616) (w:World) (hf:FAt w a gen rows) (hin:∀ i∈mem s,i < rows.length) (ht:TabC w) (r:Nat) (hr:madeF gen rows s=r) (len:Nat) (hl:rows.length=len) :
  Calls prog 141 #[gG gen a len cap,.int .u64 s] w fun e W'=>e = .returned (.int .u64 r)∧Below w.heap.size w W' :=
 callsIn_wide.1 (To a cap gen rows s hs w hf hin ht r hr len hl)
end
section
open Go.RowKit
theorem sD {n:Int} {gen:Nat} {rows:List Nat} (h:eO n gen rows=0):fM n=true∧fE n.toNat gen rows=true∧lC gen rows=true:=by
 unfold eO at h;split at h
 ·rename_i hd;split at h
  ·rename_i hs;rw [Bool.and_eq_true] at hs;exact ⟨hd,hs.1,hs.2⟩
  ·cases h
 ·cases h
theorem pJ {m gen:Nat} {rows:List Nat} (h:fE m gen rows=true):rows.length=m∧nN m gen=true∧∀ r∈rows,nN m r=true:=by unfold fE at h;simp only [Bool.and_eq_true,decide_eq_true_eq,List.all_eq_true] at h;exact h
theorem C6 {s m i:Nat} (hs:s < 2 ^ m) (hi:i∈mem s):i < m:=by
 rcases Nat.lt_or_ge i m with h | h
 ·exact h
 ·have:=E4 hi;rw [Nat.testBit_lt_two_pow (Nat.lt_of_lt_of_le hs (Nat.pow_le_pow_right (by omega) h))] at this;cases this
def orL (xs ys:List Nat):List Nat:=List.zipWith (fun a b:Nat=>a ||| b) xs ys
theorem Kz {xs ys:List Nat} {k x y:Nat} (hx:xs[k]?=some x) (hy:ys[k]?=some y):(orL xs ys)[k]?=some (x ||| y):=by simp [orL,List.getElem?_zipWith,hx,hy]
theorem yQ {xs ys:List Nat} (h:ys.length=xs.length):(orL xs ys).length=xs.length:=by simp [orL,h]
theorem K6 {xs ys:List Nat} (hx:∀ r∈xs,r < 18446744073709551616) (hy:∀ r∈ys,r < 18446744073709551616):∀ r∈orL xs ys,r < 18446744073709551616:=by
 intro r hr;obtain ⟨i,hi⟩:=List.getElem?_of_mem hr;unfold orL at hi;rw [List.getElem?_zipWith] at hi;cases h1:xs[i]? with
 | none=>rw [h1] at hi;simp at hi
 | some a =>
  cases h2:ys[i]? with
  | none=>rw [h1,h2] at hi;simp at hi
  | some b =>
   rw [h1,h2] at hi
   have:a ||| b=r:=by simpa using hi
   rw [← this];exact Tm (hx a (List.mem_of_getElem? h1)) (hy b (List.mem_of_getElem? h2))
def gD (n:Int) (ga:Nat) (xs:List Nat) (gb:Nat) (ys:List Nat):Nat:=if lA n ga xs gb ys=0 then ga ||| gb else 0
def fW (n:Int) (ga:Nat) (xs:List Nat) (gb:Nat) (ys:List Nat):List Nat:=if lA n ga xs gb ys=0 then eL (ga ||| gb) (orL xs ys) else []
theorem Hr {n:Int} {ga gb:Nat} {xs ys:List Nat} (h:lA n ga xs gb ys=0):eO n ga xs=0∧eO n gb ys=0:=by
 unfold lA at h;split at h
 ·rename_i h1;exact ⟨h1,h⟩
 ·rename_i h1;exact absurd h h1
theorem wP {n:Int} {ga gb:Nat} {xs ys:List Nat} (h:lA n ga xs gb ys=0):∃ m:Nat,n=m∧m≤64∧xs.length=m∧ys.length=m:=by obtain ⟨h1,h2⟩:=Hr h;obtain ⟨hd,s1,_⟩:=sD h1;obtain ⟨_,s2,_⟩:=sD h2;obtain ⟨m,rfl,hm⟩:=rY hd;rw [Int.toNat_natCast] at s1 s2;exact ⟨m,rfl,hm,(pJ s1).1,(pJ s2).1⟩
theorem qU (w:World) (a b c:Array Value) (T:TypeId) :
  (((w.alloc (.cells a T)).alloc (.cells b T)).alloc (.cells c T)).heap[w.heap.size]?=some (.cells a T (0,0))∧(((w.alloc (.cells a T)).alloc (.cells b T)).alloc (.cells c T)).heap[w.heap.size+1]?=some (.cells b T (0,0))∧(((w.alloc (.cells a T)).alloc (.cells b T)).alloc (.cells c T)).heap[w.heap.size+1+1]?=some (.cells c T (0,0)):=by
 obtain ⟨t0,t1⟩:=rZ w a b T;refine ⟨dC t0 _,dC t1 _,?_⟩;have:=eA ((w.alloc (.cells a T)).alloc (.cells b T)) (.cells c T)
 rwa [World.size_alloc,World.size_alloc] at this
theorem Tp (n:Int) (a b:Option Addr) (capa capb ga gb:Nat) (xs ys:List Nat) (w:World) (hfa:FAt w a ga xs) (hfb:FAt w b gb ys) (e0:Int) (he:lA n ga xs gb ys=e0) (g:Nat) (hg:gD n ga xs gb ys=g) (zs:List Nat) (hz:fW n ga xs gb ys=zs) (la lb:Nat) (hla:xs.length=la) (hlb:ys.length=lb) :
  Calls prog 104 #[.int .i64 n,gG ga a la capa,gG gb b lb capb] w (Qk g zs e0 w):=by
 unfold gG;have hB0:Below w.heap.size w (((w.alloc (.cells #[.int .u64 (ga:Int),.slice a la capa] 42)).alloc (.cells #[.int .u64 (gb:Int),.slice b lb capb] 42)).alloc (.cells #[.int .u64 0,.slice none 0 0] 42)):=(((Below.refl _ _).alloc (Nat.le_refl _) _).alloc (by simp) _).alloc (by simp;omega) _;have HA:=Lib.hid (hfa.below hB0);have HB:=Lib.hid (hfb.below hB0);have HLA:=Lib.hid hla;have HLB:=Lib.hid hlb;obtain ⟨t0,t1,t2⟩:=qU w #[.int .u64 (ga:Int),.slice a la capa] #[.int .u64 (gb:Int),.slice b lb capb] #[.int .u64 0,.slice none 0 0] 42;have T0:=Lib.hid t0;have T1:=Lib.hid t1;have T2:=Lib.hid t2;have hga:=hfa.gen;have hgb:=hfb.gen;have HXA:=Lib.hid hfa.all;have HYA:=Lib.hid hfb.all;have HXL:=Lib.hid hfa.len;have HE:=Lib.hid he;by_cases h0:e0=0
 ·subst h0;obtain ⟨m,rfl,hm,hxm,hym⟩:=wP he;obtain rfl:m=la:=by omega
  obtain rfl:m=lb:=by omega
  obtain rfl:ga ||| gb=g:=by rw [← hg,gD,if_pos he]
  have HZ:Hid (eL (ga ||| gb) (orL xs ys)=zs):=by show _=_;rw [← hz,fW,if_pos he]
  have HOL:Hid ((orL xs ys).length=xs.length):=yQ (by omega);have hgg:=Tm hga hgb;have hor:=u64_or_nat ga gb hga hgb;obtain ⟨gg,hggq⟩:∃ gg,ga ||| gb=gg:=⟨_,rfl⟩;rw [hggq] at hgg hor HZ ⊢;clear hfa hfb he hg hz hla hlb t0 t1 t2 hxm hym hggq;go_enter func104,ntmps104;go_wp2_with fail;refine (uU m a b capa capb ga gb xs ys _ HA.out HB.out 0 HE.out m m HLA.out HLB.out).mono ?_;rintro e w1 ⟨rfl,hb1⟩;have hB1:=hB0.trans (hb1.mono hB0.size);have U0:=Lib.hid (cP T0.out hb1);have U1:=Lib.hid (cP T1.out hb1);have U2:=Lib.hid (cP T2.out hb1);obtain ⟨c0,c1,_⟩:=cF U0.out;go_wp2_with fail;refine (zO a capa xs _ HXL.out (HA.out.below hb1).row m HLA.out).mono ?_;rintro e w2 ⟨v,rfl,hown,hb2⟩;obtain ⟨av,capv,hv⟩:=Ql hown;subst hv;have hB2:=hB1.trans (hb2.mono hB1.size);have V0:=Lib.hid (cP U0.out hb2);have V1:=Lib.hid (cP U1.out hb2);have V2:=Lib.hid (cP U2.out hb2);have HFB:=Lib.hid ((HB.out.below hb1).below hb2);have hw1:w.heap.size+1+1 < w1.heap.size:=(Array.getElem?_eq_some_iff.1 U2.out).1;have HO0:Hid (w2.ownsRow w1.heap.size 39 1 (.slice av m capv) m (u64s (nO (orL xs ys) xs 0))):=by rw [sC];exact hown
  obtain ⟨k0,k1,_⟩:=cF V1.out;clear hown c0 c1;go_wp2_with fail;go_loopw [26] (fun i wr=>∃ k:Nat,k≤m∧i = .int .i64 k∧Hid (wr.ownsRow w1.heap.size 39 1 (.slice av m capv) m (u64s (nO (orL xs ys) xs k)))∧Hid (wr.heap[w.heap.size]?=some (.cells #[.int .u64 (ga:Int),.slice a m capa] 42 (0,0)))∧Hid (wr.heap[w.heap.size+1]?=some (.cells #[.int .u64 (gb:Int),.slice b m capb] 42 (0,0)))∧Hid (wr.heap[w.heap.size+1+1]?=some (.cells #[.int .u64 0,.slice none 0 0] 42 (0,0)))∧Below w1.heap.size w2 wr) (fun i _=>m - (intOf i).toNat)
  case atStart=>exact ⟨0,Nat.zero_le _,rfl,HO0,V0,V1,V2,Below.refl _ _⟩
  case round =>
   obtain ⟨k,hk,rfl,HO,R0,R1,R2,hb⟩:=hrel;by_cases hlt:k < m
   ·obtain ⟨x,hx⟩:∃ x,xs[k]?=some x:=⟨xs[k]'(by rw [HLA.out];exact hlt),by simp [HLA.out,hlt]⟩;have hx64:=HXA.out x (List.mem_of_getElem? hx);obtain ⟨bb,offb,y,rfl,hy,hy64,hbb,b0⟩:=(HB.out.below hb1).at_ (i:=k) (by rw [HLB.out];exact hlt);have b0':=((hb.cell (p:=⟨bb,offb+k,none⟩) hbb).trans ((hb2.cell (p:=⟨bb,offb+k,none⟩) hbb).trans b0));have hxy:=u64_or_nat x y hx64 hy64;have HM:=Lib.hid (uP (Kz hx hy) hx);obtain ⟨q,hq⟩:∃ q,x ||| y=q:=⟨_,rfl⟩;rw [hq] at hxy HM;obtain ⟨gr,capr,hvr,hbg,hgl⟩:=HO.out.form (show 0 < m by omega);have hv2:av=some ⟨gr,0,none⟩∧capr=capv:=by cases hvr;exact ⟨rfl,rfl⟩
    obtain ⟨rfl,rfl⟩:=hv2;have d0:=(HO.out.cellAt k (by omega)).trans (uS (yP HOL.out hx));have q0:=HO.out.frozenAt k;have g0:(0:Int)≤(k:Int):=by omega
    have g3:(k:Int) < (m:Int):=by omega
    have HO2:Hid ((wr.setCell ⟨gr,k,none⟩ (.int .u64 (q:Int))).ownsRow w1.heap.size 39 1 (.slice (some ⟨gr,0,none⟩) m capr) m (u64s (nO (orL xs ys) xs (k+1)))):=by rw [← HM.out,← uR];exact (HO.out.stored k _).1
    have R0':=Lib.hid (dS (B:=gr) (j:=k) (c:=.int .u64 (q:Int)) R0.out (by omega));have R1':=Lib.hid (dS (B:=gr) (j:=k) (c:=.int .u64 (q:Int)) R1.out (by omega));have R2':=Lib.hid (dS (B:=gr) (j:=k) (c:=.int .u64 (q:Int)) R2.out (by omega));have hb':=hb.setCell (p:=⟨gr,k,none⟩) hbg (.int .u64 (q:Int));clear hx hy hq hvr b0;go_wp2;go_roundw
    case rel=>exact ⟨k+1,by omega,by go_num,HO2,R0',R1',R2',hb'⟩
    case measure=>simp [intOf];omega
   ·obtain rfl:k=m:=by omega
    have HO2:Hid (wr.ownsRow w1.heap.size 39 1 (.slice av k capv) k (u64s (orL xs ys))):=by
     have:=HO.out;rw [← HLA.out] at this ⊢
     rwa [uQ HOL.out] at this
    obtain ⟨a0,a1,_⟩:=cF R0.out;obtain ⟨b0,b1,_⟩:=cF R1.out;have hbw:w1.heap.size≤wr.heap.size:=Nat.le_trans hb2.size hb.size;have HOLT:=Lib.hid (K6 HXA.out HYA.out);have hol100:Hid ((orL xs ys).length≤100):=by show _≤_;rw [HOL.out];exact HXL.out
    have holn:Hid ((orL xs ys).length=k):=by show _=_;rw [HOL.out];exact HLA.out
    go_wp2_with fail;refine (uT gg w1.heap.size k (.slice av k capv) (orL xs ys) zs _ hgg HOLT.out hol100.out holn.out hbw HO2.out HZ.out).mono ?_;rintro e w4 ⟨rfl,post⟩;have POST:=Lib.hid post;have hB4:Below w.heap.size w w4:=((hB1.trans (hb2.mono hB1.size)).trans (hb.mono hB1.size)).trans (post.below.mono hB1.size);have W2:=Lib.hid ((post.rest (w.heap.size+1+1) ((Array.getElem?_eq_some_iff.1 R2.out).1) (fun e=>by have h9:=(HO2.out.lt _ e.symm).1;omega)).trans R2.out);obtain ⟨p0,p1,ff⟩:=cF W2.out;have f0:=ff 0;have f1:=ff 1;have N1:=Lib.hid (iK (c:=.slice av k capv) (kE (c:=.int .u64 (gg:Int)) W2.out));obtain ⟨s0,s1,_⟩:=cF N1.out;have HNB:=Lib.hid (kF W2.out (by decide) POST.out.own);have HO5:=Lib.hid ((POST.out.own.kept (fG _ _ 0 (.int .u64 (gg:Int))) (.inr HNB.out.symm)).kept (fG _ (w.heap.size+1+1) 1 (.slice av k capv)) (.inr HNB.out.symm));have HB5:=Lib.hid ((hB4.setCell (p:=⟨w.heap.size+1+1,0,none⟩) (by simp;omega) (.int .u64 (gg:Int))).setCell (p:=⟨w.heap.size+1+1,1,none⟩) (by simp;omega) (.slice av k capv));clear post ff a0 a1 b0 b1;go_wp2;refine bodyPost_ret (v:=.tuple #[.agg #[.int .u64 (gg:Int),.slice av k capv],.int .i64 0]) ?_ rfl (zQ hB1.size HO5.out HB5.out 0);simp [results,results104,go_sem,s0,s1]
 ·obtain rfl:0=g:=by rw [← hg,gD,he,if_neg h0]
  obtain rfl:[]=zs:=by rw [← hz,fW,he,if_neg h0]
  have hne:(e0 != 0)=true:=by simpa using h0
  clear hfa hfb he hg hz hla hlb t0 t1 t2 h0;go_enter func104,ntmps104;go_wp2_with fail;refine (uU n a b capa capb ga gb xs ys _ HA.out HB.out e0 HE.out la lb HLA.out HLB.out).mono ?_;rintro e w1 ⟨rfl,hb1⟩;have hB1:=hB0.trans (hb1.mono hB0.size);have U2:=Lib.hid (cP T2.out hb1);obtain ⟨d0,d1,df⟩:=cF U2.out;have f0:=df 0;have f1:=df 1;have N1:=Lib.hid (iK (c:=.slice none 0 0) (kE (c:=.int .u64 0) U2.out));obtain ⟨s0,s1,_⟩:=cF N1.out;clear df;go_wp2;refine bodyPost_ret (v:=.tuple #[.agg #[.int .u64 0,.slice none 0 0],.int .i64 e0]) ?_ rfl (zP e0 ((hB1.setCell (p:=⟨w.heap.size+1+1,0,none⟩) (by simp;omega) _).setCell (p:=⟨w.heap.size+1+1,1,none⟩) (by simp;omega) _));simp [results,results104,go_sem,s0,s1]
def nP (n:Int) (ga:Nat) (xs:List Nat) (gb:Nat) (ys:List Nat):Nat:=if lA n ga xs gb ys=0 then madeF gb ys ga else 0
def mW (n:Int) (ga:Nat) (xs:List Nat) (gb:Nat) (ys:List Nat):List Nat:=if lA n ga xs gb ys=0 then eL (madeF gb ys ga) (xs.map (madeF gb ys)) else []
theorem extA_is (n:Int) (a b:Option Addr) (capa capb ga gb:Nat) (xs ys:List Nat) (w:World) (hfa:FAt w a ga xs) (hfb:FAt w b gb ys) (ht:TabC w) (e0:Int) (he:lA n ga xs gb ys=e0) (g:Nat) (hg:nP n ga xs gb ys=g) (zs:List Nat) (hz:mW n ga xs gb ys=zs) (la lb:Nat) (hla:xs.length=la) (hlb:ys.length=lb) :
  Calls prog 137 #[.int .i64 n,gG ga a la capa,gG gb b lb capb] w (Qk g zs e0 w):=by
 unfold gG;have hB0:Below w.heap.size w (((w.alloc (.cells #[.int .u64 (ga:Int),.slice a la capa] 42)).alloc (.cells #[.int .u64 (gb:Int),.slice b lb capb] 42)).alloc (.cells #[.int .u64 0,.slice none 0 0] 42)):=(((Below.refl _ _).alloc (Nat.le_refl _) _).alloc (by simp) _).alloc (by simp;omega) _;have HA:=Lib.hid (hfa.below hB0);have HB:=Lib.hid (hfb.below hB0);have HLA:=Lib.hid hla;have HLB:=Lib.hid hlb;obtain ⟨t0,t1,t2⟩:=qU w #[.int .u64 (ga:Int),.slice a la capa] #[.int .u64 (gb:Int),.slice b lb capb] #[.int .u64 0,.slice none 0 0] 42;have T0:=Lib.hid t0;have T1:=Lib.hid t1;have T2:=Lib.hid t2;have hga:=hfa.gen;have hgb:=hfb.gen;have HXA:=Lib.hid hfa.all;have HYA:=Lib.hid hfb.all;have HXL:=Lib.hid hfa.len;have HE:=Lib.hid he;by_cases h0:e0=0
 ·subst h0;obtain ⟨m,rfl,hm,hxm,hym⟩:=wP he;obtain rfl:m=la:=by omega
  obtain rfl:m=lb:=by omega
  obtain rfl:madeF gb ys ga=g:=by rw [← hg,nP,if_pos he]
  have HZ:Hid (eL (madeF gb ys ga) (xs.map (madeF gb ys))=zs):=by show _=_;rw [← hz,mW,if_pos he]
  have HOL:Hid ((xs.map (madeF gb ys)).length=(List.replicate m 0).length):=by show _=_;simp;omega
  obtain ⟨hc1,hc2⟩:=Hr he;obtain ⟨hd,sh1,_⟩:=sD hc1;rw [Int.toNat_natCast] at sh1;obtain ⟨_,ig,ir⟩:=pJ sh1;have HINg:Hid (∀ i∈mem ga,i < ys.length):=fun i hi=>by rw [hym];exact C6 ((mV hm hga).1 ig) hi
  have HINr:Hid (∀ x∈xs,∀ i∈mem x,i < ys.length):=fun x hx i hi=>by rw [hym];exact C6 ((mV hm (hfa.all x hx)).1 (ir x hx)) hi
  have hgg:madeF gb ys ga < 18446744073709551616:=uV hfb.all hgb;have HGG:Hid (madeF gb ys ga=madeF gb ys ga):=rfl;obtain ⟨gg,hggq⟩:∃ gg,madeF gb ys ga=gg:=⟨_,rfl⟩;have HGQ:=Lib.hid hggq;rw [hggq] at hgg HZ ⊢;obtain ⟨i0,hi,hz0,hz1,hz2⟩:=info_parts Hm;have HT:=Lib.hid ht;have hm0:(0:Int)≤(m:Int):=by omega
  have hm64:(m:Int)≤64:=by omega
  clear hfa hfb he hg hz hla hlb t0 t1 t2 hxm hym hggq hc1 hc2 hd sh1 ig ir HGG ht;go_enter func137,ntmps137;go_wp2_with fail;refine (uU m a b capa capb ga gb xs ys _ HA.out HB.out 0 HE.out m m HLA.out HLB.out).mono ?_;rintro e w1 ⟨rfl,hb1⟩;have hB1:=hB0.trans (hb1.mono hB0.size);have U0:=Lib.hid (cP T0.out hb1);have U1:=Lib.hid (cP T1.out hb1);have U2:=Lib.hid (cP T2.out hb1);go_wp2_with (at_make;go_loud (refine wpList_make_full _ rfl (.tmp 20) (.tmp 20) 40 rfl w1.heap.size 39 i0 _ 1 underlying40 hi hz0 hz1 .i64 .i64 (m:Int) (m:Int) m rfl rfl rfl rfl (by rw [hz2];omega) (by unfold maxLen;omega) (Nat.le_refl _) ?_;intro w2 hown2 hgrow2;have hb2:Below w1.heap.size w1 w2:=(Below.refl _ _).grown hgrow2 (Nat.le_refl _) (fun j e=>by cases e);have V0:=Lib.hid (cP U0.out hb2);obtain ⟨c0,c1,_⟩:=cF V0.out));have hB2:=hB1.trans (hb2.mono hB1.size);have V1:=Lib.hid (cP U1.out hb2);have V2:=Lib.hid (cP U2.out hb2);have hw1:w.heap.size+1+1 < w1.heap.size:=(Array.getElem?_eq_some_iff.1 U2.out).1;have HO0:Hid (w2.ownsRow w1.heap.size 39 1 (.slice (some ⟨w1.heap.size,0,none⟩) m m) m (u64s (nO (xs.map (madeF gb ys)) (List.replicate m 0) 0))):=by
   rw [sC];have e:u64s (List.replicate m 0)=List.replicate m (.int .u64 0):=by simp [u64s]
   have e2:(madeCells (Value.int IntKind.u64 0).cells (m * 1)).toList=List.replicate m (.int .u64 0):=by
    rw [Nat.mul_one];apply List.ext_getElem
    ·simp [madeCells]
    ·intro i h1 h2;simp [madeCells,Value.cells,Nat.mod_one]
   rw [e,← e2];exact hown2
  clear hown2 c0 c1;go_wp2_with fail;go_loopw [25] (fun i wr=>∃ k:Nat,k≤m∧i = .int .i64 k∧Hid (wr.ownsRow w1.heap.size 39 1 (.slice (some ⟨w1.heap.size,0,none⟩) m m) m (u64s (nO (xs.map (madeF gb ys)) (List.replicate m 0) k)))∧Hid (wr.heap[w.heap.size]?=some (.cells #[.int .u64 (ga:Int),.slice a m capa] 42 (0,0)))∧Hid (wr.heap[w.heap.size+1]?=some (.cells #[.int .u64 (gb:Int),.slice b m capb] 42 (0,0)))∧Hid (wr.heap[w.heap.size+1+1]?=some (.cells #[.int .u64 0,.slice none 0 0] 42 (0,0)))∧Below w1.heap.size w1 wr) (fun i _=>m - (intOf i).toNat)
  case atStart=>exact ⟨0,Nat.zero_le _,rfl,HO0,V0,V1,V2,hb2⟩
  case round =>
   obtain ⟨k,hk,rfl,HO,R0,R1,R2,hb⟩:=hrel;have HFB:=Lib.hid ((HB.out.below hb1).below hb);obtain ⟨d0,d1,_⟩:=cF R1.out;by_cases hlt:k < m
   ·obtain ⟨ba,offa,x,rfl,hx,hx64,hba,a0⟩:=((HA.out.below hb1).below hb).at_ (i:=k) (by rw [HLA.out];exact hlt);have HXI:=Lib.hid (HINr.out x (List.mem_of_getElem? hx));have hxk:(List.replicate m 0)[k]?=some 0:=by simp [hlt]
    have hmx:(xs.map (madeF gb ys))[k]?=some (madeF gb ys x):=by rw [List.getElem?_map,hx];rfl
    have HM:=Lib.hid (uP hmx hxk);obtain ⟨q,hq⟩:∃ q,madeF gb ys x=q:=⟨_,rfl⟩;have HQ:=Lib.hid hq;rw [hq] at HM;have z0:=Lib.hid (uS (yP HOL.out hxk));have g0:(0:Int)≤(k:Int):=by omega
    have g3:(k:Int) < (m:Int):=by omega
    have hbw:Hid (Below w.heap.size w wr):=hB1.trans (hb.mono hB1.size);clear hx hq hmx hxk;go_wp2_with fail;refine (Hq b capb gb ys x hx64 _ HFB.out HXI.out (HT.out.below hbw.out) q HQ.out m HLB.out).mono ?_;rintro e w4 ⟨rfl,hb4⟩;have HO4:=Lib.hid (zM HO.out hb4);have dd:=(HO4.out.cellAt k (by omega)).trans z0.out;have q0:=HO4.out.frozenAt k;have HO2:Hid ((w4.setCell ⟨w1.heap.size,k,none⟩ (.int .u64 (q:Int))).ownsRow w1.heap.size 39 1 (.slice (some ⟨w1.heap.size,0,none⟩) m m) m (u64s (nO (xs.map (madeF gb ys)) (List.replicate m 0) (k+1)))):=by rw [← HM.out,← uR];exact (HO4.out.stored k _).1
    have R0':=Lib.hid (dS (B:=w1.heap.size) (j:=k) (c:=.int .u64 (q:Int)) (cP R0.out hb4) (by omega));have R1':=Lib.hid (dS (B:=w1.heap.size) (j:=k) (c:=.int .u64 (q:Int)) (cP R1.out hb4) (by omega));have R2':=Lib.hid (dS (B:=w1.heap.size) (j:=k) (c:=.int .u64 (q:Int)) (cP R2.out hb4) (by omega));have hb':=(hb.trans (hb4.mono hb.size)).setCell (p:=⟨w1.heap.size,k,none⟩) (Nat.le_refl _) (.int .u64 (q:Int));go_wp2;go_roundw
    case rel=>exact ⟨k+1,by omega,by go_num,HO2,R0',R1',R2',hb'⟩
    case measure=>simp [intOf];omega
   ·obtain rfl:k=m:=by omega
    have HO2:Hid (wr.ownsRow w1.heap.size 39 1 (.slice (some ⟨w1.heap.size,0,none⟩) k k) k (u64s (xs.map (madeF gb ys)))):=by
     have:=HO.out;have e:nO (xs.map (madeF gb ys)) (List.replicate k 0) k=xs.map (madeF gb ys):=by
      have:=uQ HOL.out
      rwa [List.length_replicate] at this
     rwa [e] at this
    obtain ⟨a0,a1,_⟩:=cF R0.out;have hol100:Hid ((xs.map (madeF gb ys)).length≤100):=by show _≤_;rw [List.length_map];exact HXL.out
    have holn:Hid ((xs.map (madeF gb ys)).length=k):=by show _=_;rw [List.length_map];exact HLA.out
    have HOLT:Hid (∀ r∈xs.map (madeF gb ys),r < 18446744073709551616):=fun r hr=>by rw [List.mem_map] at hr;obtain ⟨x,_,rfl⟩:=hr;exact uV HYA.out hgb
    have hbw:Hid (Below w.heap.size w wr):=hB1.trans (hb.mono hB1.size);go_wp2_with fail;refine (Hq b capb gb ys ga hga _ HFB.out HINg.out (HT.out.below hbw.out) gg HGQ.out k HLB.out).mono ?_;rintro e w3 ⟨rfl,hb3⟩;have hb3w:w1.heap.size≤w3.heap.size:=Nat.le_trans hb.size hb3.size;have HO3:=Lib.hid (zM HO2.out hb3);have R3:=Lib.hid (cP R2.out hb3);go_wp2_with fail;refine (uT gg w1.heap.size k _ (xs.map (madeF gb ys)) zs _ hgg HOLT.out hol100.out holn.out hb3w HO3.out HZ.out).mono ?_;rintro e w4 ⟨rfl,post⟩;have POST:=Lib.hid post;have hB4:Below w.heap.size w w4:=(hbw.out.trans (hb3.mono hbw.out.size)).trans (post.below.mono hB1.size);have W2:=Lib.hid ((post.rest (w.heap.size+1+1) ((Array.getElem?_eq_some_iff.1 R3.out).1) (fun e=>by have h9:=(HO3.out.lt _ e.symm).1;omega)).trans R3.out);obtain ⟨p0,p1,ff⟩:=cF W2.out;have f0:=ff 0;have f1:=ff 1;have N1:=Lib.hid (iK (c:=.slice (some ⟨w1.heap.size,0,none⟩) k k) (kE (c:=.int .u64 (gg:Int)) W2.out));obtain ⟨s0,s1,_⟩:=cF N1.out;have HNB:=Lib.hid (kF W2.out (by decide) POST.out.own);have HO5:=Lib.hid ((POST.out.own.kept (fG _ _ 0 (.int .u64 (gg:Int))) (.inr HNB.out.symm)).kept (fG _ (w.heap.size+1+1) 1 (.slice (some ⟨w1.heap.size,0,none⟩) k k)) (.inr HNB.out.symm));have HB5:=Lib.hid ((hB4.setCell (p:=⟨w.heap.size+1+1,0,none⟩) (by simp;omega) (.int .u64 (gg:Int))).setCell (p:=⟨w.heap.size+1+1,1,none⟩) (by simp;omega) (.slice (some ⟨w1.heap.size,0,none⟩) k k));clear post ff a0 a1 d0 d1;go_wp2;refine bodyPost_ret (v:=.tuple #[.agg #[.int .u64 (gg:Int),.slice (some ⟨w1.heap.size,0,none⟩) k k],.int .i64 0]) ?_ rfl (zQ hB1.size HO5.out HB5.out 0);simp [results,results137,go_sem,s0,s1]
 ·obtain rfl:0=g:=by rw [← hg,nP,he,if_neg h0]
  obtain rfl:[]=zs:=by rw [← hz,mW,he,if_neg h0]
  have hne:(e0 != 0)=true:=by simpa using h0
  clear hfa hfb he hg hz hla hlb t0 t1 t2 h0;go_enter func137,ntmps137;go_wp2_with fail;refine (uU n a b capa capb ga gb xs ys _ HA.out HB.out e0 HE.out la lb HLA.out HLB.out).mono ?_;rintro e w1 ⟨rfl,hb1⟩;have hB1:=hB0.trans (hb1.mono hB0.size);have U2:=Lib.hid (cP T2.out hb1);obtain ⟨d0,d1,df⟩:=cF U2.out;have f0:=df 0;have f1:=df 1;have N1:=Lib.hid (iK (c:=.slice none 0 0) (kE (c:=.int .u64 0) U2.out));obtain ⟨s0,s1,_⟩:=cF N1.out;clear df;go_wp2;refine bodyPost_ret (v:=.tuple #[.agg #[.int .u64 0,.slice none 0 0],.int .i64 e0]) ?_ rfl (zP e0 ((hB1.setCell (p:=⟨w.heap.size+1+1,0,none⟩) (by simp;omega) _).setCell (p:=⟨w.heap.size+1+1,1,none⟩) (by simp;omega) _));simp [results,results137,go_sem,s0,s1]
structure KeepK (w wr:World) (A B:Nat) (ca cb:Array Value):Prop where
 hA:wr.heap[A]?=some (.cells ca 42 (0,0))
 hB:wr.heap[B]?=some (.cells cb 42 (0,0))
 below:Below w.heap.size w wr
theorem KeepK.drew {w wr:World} {A B:Nat} {ca cb:Array Value} (h:KeepK w wr A B ca cb):KeepK w wr.drew A B ca cb:=⟨h.hA,h.hB,h.below.drew⟩
theorem KeepK.alloc {w wr:World} {A B:Nat} {ca cb:Array Value} (h:KeepK w wr A B ca cb) (o:Obj):KeepK w (wr.alloc o) A B ca cb:=⟨dC h.hA o,dC h.hB o,h.below.alloc h.below.size o⟩
theorem KeepK.set {w wr:World} {A B F j:Nat} {ca cb:Array Value} (h:KeepK w wr A B ca cb) (h1:A≠F) (h2:B≠F) (h3:w.heap.size≤F) (v:Value):KeepK w (wr.setCell ⟨F,j,none⟩ v) A B ca cb:=⟨dS h.hA h1,dS h.hB h2,h.below.setCell (p:=⟨F,j,none⟩) h3 v⟩
theorem KeepK.grown {w wr w':World} {A B base n:Nat} {ca cb:Array Value} {v:Value} {xs:List Value} (h:KeepK w wr A B ca cb) (hr:wr.ownsRow base 39 1 v n xs) (hb:w.heap.size≤base) (hg:wr.grownBy w' v.ownBlock):KeepK w w' A B ca cb :=
 ⟨jK h.hA (by decide) hr hg,jK h.hB (by decide) hr hg,h.below.grown hg h.below.size (fun j e=>Nat.le_trans hb (hr.lt j e).1)⟩
theorem KeepK.cells {w wr:World} {A B:Nat} {u1 u2 v1 v2:Value} (h:KeepK w wr A B #[u1,u2] #[v1,v2]) {p q:Addr} {x y:Value} (hp:w.cell? p=some x) (hq:w.cell? q=some y) :
  wr.cell? ⟨A,1,none⟩=some u2∧wr.cell? p=some x∧wr.cell? ⟨B,1,none⟩=some v2∧wr.cell? q=some y :=
 ⟨(cF h.hA).2.1,(h.below.cell (jF hp)).trans hp,(cF h.hB).2.1,(h.below.cell (jF hq)).trans hq⟩
theorem Tq {xs ys:List Nat} {k x y q:Nat} (hx:xs[k]?=some x) (hy:ys[k]?=some y) (hq:x ||| y=q):(orL xs ys).take (k+1)=(orL xs ys).take k++[q]:=by have h2:=Kz hx hy;rw [hq] at h2;obtain ⟨hk,e⟩:=List.getElem?_eq_some_iff.1 h2;rw [List.take_succ_eq_append_getElem hk,e]
set_option maxHeartbeats 20000000 in
theorem Ts (n:Int) (a b:Option Addr) (capa capb ga gb:Nat) (xs ys:List Nat) (w:World) (hfa:FAt w a ga xs) (hfb:FAt w b gb ys) (e0:Int) (he:lA n ga xs gb ys=e0) (g:Nat) (hg:gD n ga xs gb ys=g) (zs:List Nat) (hz:fW n ga xs gb ys=zs) (la lb:Nat) (hla:xs.length=la) (hlb:ys.length=lb) :
  Calls prog 56 #[.int .i64 n,gG ga a la capa,gG gb b lb capb] w (Qk g zs e0 w):=by
 unfold gG;have hB0:Below w.heap.size w (((w.alloc (.cells #[.int .u64 (ga:Int),.slice a la capa] 42)).alloc (.cells #[.int .u64 (gb:Int),.slice b lb capb] 42)).alloc (.cells #[.int .u64 0,.slice none 0 0] 42)):=(((Below.refl _ _).alloc (Nat.le_refl _) _).alloc (by simp) _).alloc (by simp;omega) _;have HA0:=Lib.hid hfa;have HBB0:=Lib.hid hfb;have HA:=Lib.hid (hfa.below hB0);have HB:=Lib.hid (hfb.below hB0);have HLA:=Lib.hid hla;have HLB:=Lib.hid hlb;obtain ⟨t0,t1,t2⟩:=qU w #[.int .u64 (ga:Int),.slice a la capa] #[.int .u64 (gb:Int),.slice b lb capb] #[.int .u64 0,.slice none 0 0] 42;have T0:=Lib.hid t0;have T1:=Lib.hid t1;have T2:=Lib.hid t2;have hga:=hfa.gen;have hgb:=hfb.gen;have HXA:=Lib.hid hfa.all;have HYA:=Lib.hid hfb.all;have HXL:=Lib.hid hfa.len;have HE:=Lib.hid he;by_cases h0:e0=0
 ·subst h0;obtain ⟨m,rfl,hm,hxm,hym⟩:=wP he;obtain rfl:m=la:=by omega
  obtain rfl:m=lb:=by omega
  obtain rfl:ga ||| gb=g:=by rw [← hg,gD,if_pos he]
  have HZ:Hid (eL (ga ||| gb) (orL xs ys)=zs):=by show _=_;rw [← hz,fW,if_pos he]
  have HOL:Hid ((orL xs ys).length=m):=by show _=_;rw [yQ (by omega)];exact hla
  have hgg:=Tm hga hgb;obtain ⟨gg,hggq⟩:∃ gg,ga ||| gb=gg:=⟨_,rfl⟩;have HGQ:=Lib.hid hggq;rw [hggq] at hgg HZ ⊢;obtain ⟨i0,hi,hz0,hz1,hz2⟩:=info_parts Hm;clear hfa hfb he hg hz hla hlb t0 t1 t2 hxm hym hggq;go_enter func56,ntmps56;go_wp2_with fail;refine (Nq m a b capa capb ga gb xs ys _ HA.out HB.out 0 HE.out m m HLA.out HLB.out).mono ?_;rintro e w1 ⟨rfl,hb1⟩;have hB1:=hB0.trans (hb1.mono hB0.size);have U0:=Lib.hid (cP T0.out hb1);have U1:=Lib.hid (cP T1.out hb1);have U2:=Lib.hid (cP T2.out hb1);obtain ⟨c0,c1,_⟩:=cF U0.out;obtain ⟨k0,k1,_⟩:=cF U1.out;go_wp2_with fail;refine (or_is ga gb gg hga hgb HGQ.out _).mono ?_;rintro e w2 ⟨rfl,rfl⟩;have hw1:w.heap.size+1+1 < w1.heap.size:=(Array.getElem?_eq_some_iff.1 U2.out).1;have UF:=Lib.hid (eA w1 (.cells #[.int .u64 (gg:Int),.slice none 0 0] 42));have K0:Hid (KeepK w (w1.alloc (.cells #[.int .u64 (gg:Int),.slice none 0 0] 42)) w.heap.size (w.heap.size+1) #[.int .u64 (ga:Int),.slice a m capa] #[.int .u64 (gb:Int),.slice b m capb]):=KeepK.alloc ⟨U0.out,U1.out,hB1⟩ _;have S0:=Lib.hid (dC U2.out (.cells #[.int .u64 (gg:Int),.slice none 0 0] 42));obtain ⟨F,hF⟩:∃ F,w1.heap.size=F:=⟨_,rfl⟩;have HFL:Hid ((w1.alloc (.cells #[.int .u64 (gg:Int),.slice none 0 0] 42)).heap.size=F+1):=by show _=_;rw [World.size_alloc,hF]
  rw [hF] at UF hw1;clear c0 c1 k0 k1;go_wp2_with fail;go_loopw [10] (fun i wr=>∃ (k:Nat) (v:Value),k≤m∧i = .int .i64 k∧Hid (KeepK w wr w.heap.size (w.heap.size+1) #[.int .u64 (ga:Int),.slice a m capa] #[.int .u64 (gb:Int),.slice b m capb])∧Hid (wr.heap[w.heap.size+1+1]?=some (.cells #[.int .u64 0,.slice none 0 0] 42 (0,0)))∧Hid (wr.heap[F]?=some (.cells #[.int .u64 (gg:Int),v] 42 (0,0)))∧Hid (wr.ownsRow F 39 1 v k (u64s ((orL xs ys).take k)))∧F≤wr.heap.size) (fun i _=>m - (intOf i).toNat)
  case atStart=>exact ⟨0,.slice none 0 0,Nat.zero_le _,rfl,K0,S0,UF,World.ownsRow_nil _ _ _ _,by have:=HFL.out;omega⟩
  case round =>
   obtain ⟨k,v,hk,rfl,K,R2,RF,HO,hFw⟩:=hrel;obtain ⟨f0,f1,ff⟩:=cF RF.out;have ff1:=ff 1;by_cases hlt:k < m
   ·obtain ⟨ba,offa,x,rfl,hx,hx64,hba,a0⟩:=HA0.out.at_ (i:=k) (by rw [HLA.out];exact hlt);obtain ⟨bb,offb,y,rfl,hy,hy64,hbb,b0⟩:=HBB0.out.at_ (i:=k) (by rw [HLB.out];exact hlt);obtain ⟨q,hq⟩:∃ q,x ||| y=q:=⟨_,rfl⟩;have HQ:=Lib.hid hq;have HT:=Lib.hid (Tq hx hy hq);have A0:=Lib.hid a0;have B0:=Lib.hid b0;have g0:(0:Int)≤(k:Int):=by omega
    have g1:(k:Int) < (m:Int):=by omega
    have q1:(wr.alloc (.cells #[.int .u64 (q:Int)] 39)).cell? ⟨F,1,none⟩=some v:=(cF (dC RF.out _)).2.1;have KA:=Lib.hid (K.out.drew.alloc (.cells #[.int .u64 (q:Int)] 39));obtain ⟨s1,s2,s3,s4⟩:=K.out.cells a0 b0;clear hx hy hq ff a0 b0;go_wp2_with fail;go_region_law (first | (refine step_append_lies (wr.drew.alloc (.cells #[.int .u64 (q:Int)] 39)) ?_ (.tmp 31) (.tmp 43) 40 ?_ F 39 i0 _ 1 8 underlying40 hi hz0 hz1 hz2 ?_ ?_ v k (u64s ((orL xs ys).take k)) ?_ ?_ ⟨wr.heap.size,0,none⟩ 1 1 [.int .u64 (q:Int)] ?_ ?_ ?_ ?_ ?_ ?_ ?_ ?_ (wr.heap.size+1) ?_ ?_;rfl;rfl;rfl;omega;rfl;exact (HO.out:(wr.drew).ownsRow _ _ _ _ _ _).alloc _;rfl;rfl;exact (World.news_of_block (cs:=#[.int .u64 (q:Int)]) (t:=39) (fr:=(0,0)) (eA wr.drew _));simp [Value.oneCell'];omega;(unfold maxLen;omega);omega;(simp;omega);simp;intro gg9 cp w5 hown1 hgrow hat hlt5;have HOA:=Lib.hid ((HO.out:(wr.drew).ownsRow _ _ _ _ _ _).alloc (.cells #[.int .u64 (q:Int)] 39));have K5:=Lib.hid (KA.out.grown HOA.out (by omega) hgrow);have D2:=Lib.hid (jK (dC (w:=wr.drew) R2.out (.cells #[.int .u64 (q:Int)] 39)) (by decide) HOA.out hgrow);have DF:=Lib.hid (jK (dC (w:=wr.drew) RF.out (.cells #[.int .u64 (q:Int)] 39)) (by decide) HOA.out hgrow);have hs5:=hgrow.size;obtain ⟨_,d1,df⟩:=cF DF.out;have df1:=df 1;clear df) | (go_simp;go_at_call 88;refine (or_is x y q hx64 hy64 HQ.out _).mono ?_;rintro e w3 ⟨rfl,rfl⟩) | fail)
    all_goals
     have hsl:Hid (F≤w5.heap.size):=by show _≤_;simp at hs5;omega
     have HO5:=Lib.hid (show (w5.setCell ⟨F,1,none⟩ (.slice (some ⟨gg9,0,none⟩) (k+1) cp)).ownsRow F 39 1 (.slice (some ⟨gg9,0,none⟩) (k+1) cp) (k+1) (u64s ((orL xs ys).take (k+1))) by
      rw [HT.out,C0];exact hown1.kept (fG w5 _ _ _) (.inr (kF DF.out (by decide) hown1).symm))
     have N2:=Lib.hid (dS (B:=F) (j:=1) (c:=.slice (some ⟨gg9,0,none⟩) (k+1) cp) D2.out (by omega));have NF:=Lib.hid (iK (c:=.slice (some ⟨gg9,0,none⟩) (k+1) cp) DF.out);have NK:=Lib.hid (K5.out.set (F:=F) (j:=1) (by omega) (by omega) (by omega) (.slice (some ⟨gg9,0,none⟩) (k+1) cp));clear hown1 hgrow hat d1 df1 q1 s1 s2 s3 s4 f0 f1 ff1 hs5;go_wp2;go_roundw
     case rel=>exact ⟨k+1,_,by omega,by go_num,NK,N2,NF,HO5,by have:=hsl.out;simpa [World.setCell] using this⟩
     case measure=>simp [intOf];omega
   ·obtain rfl:k=m:=by omega
    have HO2:Hid (wr.ownsRow F 39 1 v k (u64s (orL xs ys))):=by
     have:=HO.out
     rwa [List.take_of_length_le (by rw [HOL.out];exact Nat.le_refl _)] at this
    obtain ⟨hvn,a3,cap3,hv3,hr3,hf3⟩:=fL.of_own HO2.out;have hol:(u64s (orL xs ys)).length=k:=hvn.symm;rw [hol] at hv3;subst hv3;have holn:(orL xs ys).length=k:=by rw [← hol,fV]
    have hfat:FAt wr a3 gg (orL xs ys):=⟨hr3,hgg,K6 HXA.out HYA.out,by rw [holn,← HLA.out];exact HXL.out⟩;have can:∀ (W:World),FAt W a3 gg (orL xs ys)→Calls prog 89 #[.agg #[.int .u64 (gg:Int),.slice a3 k cap3]] W (FOne gg zs W):=fun W hW=>by
     have:=C2 a3 cap3 gg (orL xs ys) W hW zs HZ.out
     rwa [holn] at this
    have HCAN:=Lib.hid can;have HFAT:=Lib.hid hfat;have hrel:=K.out.below;have hsz:w.heap.size≤wr.heap.size:=hrel.size;have R3:=R2;clear hvn hr3 hf3 hol holn hfat can ff ff1;go_wp2_with fail;refine (HCAN.out _ HFAT.out).mono ?_;rintro e w4 ⟨a4,cap4,rfl,hr4,hf4,hb4⟩;unfold gG;have hB4:=hrel.trans (hb4.mono hrel.size);have U4:=Lib.hid (cP R3.out hb4);obtain ⟨k0,k1,df⟩:=cF U4.out;have y0:=df 0;have y1:=df 1;have N1:=Lib.hid (iK (c:=.slice a4 zs.length cap4) (kE (c:=.int .u64 (gg:Int)) U4.out));obtain ⟨s0,s1,_⟩:=cF N1.out;have hne:∀ ad,a4=some ad→ad.block≠w.heap.size+1+1:=fun ad e=>by have h1:=(hf4 ad e).1;omega
    have NR:=Lib.hid (uO (uO hr4 (B:=w.heap.size+1+1) (j:=0) (v:=.int .u64 (gg:Int)) hne) (B:=w.heap.size+1+1) (j:=1) (v:=.slice a4 zs.length cap4) hne);have HF4:=Lib.hid hf4;clear df hr4 hf4 hne;go_wp2;refine bodyPost_ret (v:=.tuple #[.agg #[.int .u64 (gg:Int),.slice a4 zs.length cap4],.int .i64 0]) ?_ rfl ⟨a4,cap4,rfl,NR.out,fun ad e=>⟨Nat.le_trans hsz (HF4.out ad e).1,by simpa [World.setCell] using (HF4.out ad e).2⟩,(hB4.setCell (p:=⟨w.heap.size+1+1,0,none⟩) (by simp;omega) _).setCell (p:=⟨w.heap.size+1+1,1,none⟩) (by simp;omega) _⟩;simp [results,results56,go_sem,s0,s1]
 ·obtain rfl:0=g:=by rw [← hg,gD,he,if_neg h0]
  obtain rfl:[]=zs:=by rw [← hz,fW,he,if_neg h0]
  have hne:(e0 != 0)=true:=by simpa using h0
  clear hfa hfb he hg hz hla hlb t0 t1 t2 h0;go_enter func56,ntmps56;go_wp2_with fail;refine (Nq n a b capa capb ga gb xs ys _ HA.out HB.out e0 HE.out la lb HLA.out HLB.out).mono ?_;rintro e w1 ⟨rfl,hb1⟩;have hB1:=hB0.trans (hb1.mono hB0.size);have U2:=Lib.hid (cP T2.out hb1);obtain ⟨d0,d1,df⟩:=cF U2.out;have f0:=df 0;have f1:=df 1;have N1:=Lib.hid (iK (c:=.slice none 0 0) (kE (c:=.int .u64 0) U2.out));obtain ⟨s0,s1,_⟩:=cF N1.out;clear df;go_wp2;refine bodyPost_ret (v:=.tuple #[.agg #[.int .u64 0,.slice none 0 0],.int .i64 e0]) ?_ rfl (zP e0 ((hB1.setCell (p:=⟨w.heap.size+1+1,0,none⟩) (by simp;omega) _).setCell (p:=⟨w.heap.size+1+1,1,none⟩) (by simp;omega) _));simp [results,results56,go_sem,s0,s1]
def Qp (gen:Nat) (rows:List Nat) (err:Int) (w:World) (e:Ending) (w':World):Prop :=
 ∃ v,e = .returned (.tuple #[.agg #[.int .u64 (gen:Int),v],.int .i64 err])∧w'.ownsRow w.heap.size 39 1 v rows.length (u64s rows)∧Below w.heap.size w w'
theorem Tt {w w':World} (err:Int) (hb:Below w.heap.size w w'):Qp 0 [] err w (.returned (.tuple #[.agg #[.int .u64 0,.slice none 0 0],.int .i64 err])) w' :=
 ⟨_,rfl,World.ownsRow_nil _ _ _ _,hb⟩
theorem Tu {w w':World} {gen n:Nat} {v:Value} {rows:List Nat} (h:w'.ownsRow w.heap.size 39 1 v n (u64s rows)) (hb:Below w.heap.size w w') (err:Int):Qp gen rows err w (.returned (.tuple #[.agg #[.int .u64 (gen:Int),v],.int .i64 err])) w':=by
 have hn:n=rows.length:=by have:=h.1;rw [fV] at this;omega
 subst hn;exact ⟨v,rfl,h,hb⟩
theorem Qp.ret {gen:Nat} {rows:List Nat} {err:Int} {w w':World} {e:Ending} (h:Qp gen rows err w e w'):Qk gen rows err w e w':=by obtain ⟨v,rfl,ho,hb⟩:=h;exact zQ (Nat.le_refl _) ho hb err
def gV (m:Nat):List Nat:=(List.range m).map fun i=>2 ^ i
theorem kG (m:Nat):(gV m).length=m:=by simp [gV]
theorem Hs {m k:Nat} (h:k < m):(gV m)[k]?=some (2 ^ k):=by unfold gV;rw [List.getElem?_map,List.getElem?_range h];rfl
def oneV (n:Int):List Nat:=if fM n=true then gV n.toNat else []
def Tv (n:Int):Int:=if fM n=true then 0 else 31
theorem oneA_is (n:Int) (w:World) (e0:Int) (he:Tv n=e0) (ys:List Nat) (hys:oneV n=ys) :
  Calls prog 129 #[.int .i64 n] w (Qp 0 ys e0 w):=by
 have hB0:Below w.heap.size w (w.alloc (.cells #[.int .u64 0,.slice none 0 0] 42)):=(Below.refl _ _).alloc (Nat.le_refl _) _;have T0:=Lib.hid (eA w (.cells #[.int .u64 0,.slice none 0 0] 42));obtain ⟨i0,hi,hz0,hz1,hz2⟩:=info_parts Hm;cases hd:fM n
 ·obtain rfl:31=e0:=by rw [← he,Tv,hd];rfl
  obtain rfl:[]=ys:=by rw [← hys,oneV,hd];rfl
  obtain ⟨d0,d1,df⟩:=cF T0.out;have f0:=df 0;have f1:=df 1;have hx:n < 0∨64 < n:=by
   by_cases h:n < 0
   ·exact .inl h
   ·simp [fM,show 0≤n by omega] at hd;exact .inr hd
  clear df hd he hys;rcases hx with hx | hx
  all_goals
   go_enter func129,ntmps129;go_wp2;refine bodyPost_ret (v:=.tuple #[.agg #[.int .u64 0,.slice none 0 0],.int .i64 31]) ?_ rfl (Tt 31 hB0);simp [results,results129,go_sem,d0,d1]
 ·obtain ⟨m,rfl,hm⟩:=rY hd;obtain rfl:0=e0:=by rw [← he,Tv,hd];rfl
  have HY:Hid (gV m=ys):=by show _=_;rw [← hys,oneV,hd,if_pos rfl,Int.toNat_natCast]
  have hm0:(0:Int)≤(m:Int):=by omega
  have hm64:(m:Int)≤64:=by omega
  clear hd he hys;go_enter func129,ntmps129;go_wp2_with (at_make;go_loud (refine wpList_make_full _ rfl (.tmp 13) (.tmp 13) 40 rfl w.heap.size 39 i0 _ 1 underlying40 hi hz0 hz1 .i64 .i64 (m:Int) (m:Int) m rfl rfl rfl rfl (by rw [hz2];omega) (by unfold maxLen;omega) hB0.size ?_;intro w2 hown2 hgrow2));have hbl:(w.alloc (.cells #[.int .u64 0,.slice none 0 0] 42)).heap.size=w.heap.size+1:=by simp
  have hzz:Hid (w2.ownsRow w.heap.size 39 1 (.slice (some ⟨w.heap.size+1,0,none⟩) m m) m (u64s (nO (gV m) (List.replicate m 0) 0))):=by
   rw [sC,← hbl];have e:u64s (List.replicate m 0)=List.replicate m (.int .u64 0):=by simp [u64s]
   have e2:(madeCells (Value.int IntKind.u64 0).cells (m * 1)).toList=List.replicate m (.int .u64 0):=by
    rw [Nat.mul_one];apply List.ext_getElem
    ·simp [madeCells]
    ·intro i h1 h2;simp [madeCells,Value.cells,Nat.mod_one]
   rw [e,← e2];exact hown2
  have U0:=Lib.hid ((hgrow2.block _ (Array.getElem?_eq_some_iff.1 T0.out).1 (by simp)).trans T0.out);have hB2:Below w.heap.size w w2:=hB0.grown hgrow2 hB0.size (fun j e=>by cases e);clear hown2;go_wp2_with fail;go_loopw [17] (fun i wr=>∃ k:Nat,k≤m∧i = .int .i64 k∧Hid (wr.ownsRow w.heap.size 39 1 (.slice (some ⟨w.heap.size+1,0,none⟩) m m) m (u64s (nO (gV m) (List.replicate m 0) k)))∧Hid (wr.heap[w.heap.size]?=some (.cells #[.int .u64 0,.slice none 0 0] 42 (0,0)))∧Below w.heap.size w wr) (fun i _=>m - (intOf i).toNat)
  case atStart=>exact ⟨0,Nat.zero_le _,rfl,hzz,U0,hB2⟩
  case round =>
   obtain ⟨k,hk,rfl,HO,HR,hb⟩:=hrel;by_cases hlt:k < m
   ·have hsh:IntKind.u64.wrap ((2:Int) ^ k)=((2 ^ k:Nat):Int):=by
     have hpw:2 ^ k≤9223372036854775808:=zK (by omega);rw [IntKind.wrap_u64];have e:((2:Int) ^ k)=((2 ^ k:Nat):Int):=by simp
     rw [e];generalize 2 ^ k=q at *;omega
    have hxk:(List.replicate m 0)[k]?=some 0:=by simp [hlt]
    have HM:=Lib.hid (uP (Hs hlt) hxk);obtain ⟨q,hq⟩:∃ q:Nat,2 ^ k=q:=⟨_,rfl⟩;rw [hq] at hsh HM;have q0:=HO.out.frozenAt k;have d0:=(HO.out.cellAt k (by omega)).trans (uS (yP (by rw [kG];simp) hxk));have g0:(0:Int)≤(k:Int):=by omega
    have g3:(k:Int) < (m:Int):=by omega
    have HO2:Hid ((wr.setCell ⟨w.heap.size+1,k,none⟩ (.int .u64 (q:Int))).ownsRow w.heap.size 39 1 (.slice (some ⟨w.heap.size+1,0,none⟩) m m) m (u64s (nO (gV m) (List.replicate m 0) (k+1)))):=by rw [← HM.out,← uR];exact (HO.out.stored k _).1
    have HR2:=Lib.hid (dS (B:=w.heap.size+1) (j:=k) (c:=.int .u64 (q:Int)) HR.out (by omega));have hb2:=hb.setCell (p:=⟨w.heap.size+1,k,none⟩) (by simp) (.int .u64 (q:Int));clear hxk hq;go_wp2;go_roundw
    case rel=>exact ⟨k+1,by omega,by go_num,HO2,HR2,hb2⟩
    case measure=>simp [intOf];omega
   ·obtain rfl:k=m:=by omega
    have HO2:Hid (wr.ownsRow w.heap.size 39 1 (.slice (some ⟨w.heap.size+1,0,none⟩) k k) k (u64s ys)):=by
     have:=HO.out;have e:nO (gV k) (List.replicate k 0) k=gV k:=by have:=uQ (ys:=gV k) (xs:=List.replicate k 0) (by rw [kG];simp);simpa using this
     rwa [e,HY.out] at this
    obtain ⟨r0,r1,rf⟩:=cF HR.out;have rf0:=rf 0;have rf1:=rf 1;have N1:=Lib.hid (iK (c:=.slice (some ⟨w.heap.size+1,0,none⟩) k k) (kE (c:=.int .u64 0) HR.out));obtain ⟨s0,s1,_⟩:=cF N1.out;have HO5:=Lib.hid ((HO2.out.kept (fG _ _ 0 (.int .u64 0)) (.inr (kF HR.out (by decide) HO2.out).symm)).kept (fG _ w.heap.size 1 (.slice (some ⟨w.heap.size+1,0,none⟩) k k)) (.inr (kF HR.out (by decide) HO2.out).symm));have HB5:=Lib.hid ((hb.setCell (p:=⟨w.heap.size,0,none⟩) (Nat.le_refl _) (.int .u64 0)).setCell (p:=⟨w.heap.size,1,none⟩) (Nat.le_refl _) (.slice (some ⟨w.heap.size+1,0,none⟩) k k));clear rf;go_wp2;refine bodyPost_ret (v:=.tuple #[.agg #[.int .u64 0,.slice (some ⟨w.heap.size+1,0,none⟩) k k],.int .i64 0]) ?_ rfl (Tu (gen:=0) HO5.out HB5.out 0);simp [results,results129,go_sem,s0,s1]
theorem Fk {a:Int} (h:(Lit.int .u64 a).wf=true):∃ n:Nat,a=n∧n < 18446744073709551616:=by simp only [Lit.wf,IntKind.min,IntKind.max,IntKind.signed,IntKind.bits,Bool.and_eq_true,decide_eq_true_eq] at h;simp at h;exact ⟨a.toNat,by omega,by omega⟩
theorem C7 (g:Nat) (zs:List Nat):oN g zs g zs=true:=by simp [oN]
theorem gH (f k v:Int) (w:World):Calls prog 139 #[.agg #[.int .u64 f,.int .i64 k,.int .i64 v]] w fun e w'=>e = .returned (.agg #[.int .u64 0,.int .i64 k,.int .i64 v])∧(w.alloc (.cells #[.int .u64 0,.int .i64 k,.int .i64 v] 96)).alloc (.cells #[.int .u64 0,.int .i64 k,.int .i64 v] 96)=w':=by go_enter func139,ntmps139;go_wp2;refine bodyPost_ret (v:=.agg #[.int .u64 0,.int .i64 k,.int .i64 v]) (by simp [results,results139,go_sem]) rfl ⟨rfl,rfl⟩
theorem Qq (f f2:Int) (w:World):Calls prog 132 #[.agg #[.int .u64 f,.int .i64 0,.int .i64 0],.agg #[.int .u64 f2,.int .i64 0,.int .i64 0]] w fun e w'=>e = .returned (.agg #[.int .u64 (bits .or .u64 f f2),.int .i64 0,.int .i64 0])∧Below w.heap.size w w':=by
 go_enter func132,ntmps132;go_wp2;go_region_with (go_at_call 139;refine (gH _ _ _ _).mono ?_;rintro e w' ⟨rfl,rfl⟩)
 all_goals go_wp2
 all_goals refine bodyPost_ret (v:=.agg #[.int .u64 (bits .or .u64 f f2),.int .i64 0,.int .i64 0]) (by simp [results,results132,go_sem]) rfl ⟨rfl,?_⟩
 all_goals repeat (first | exact Below.refl _ _ | refine Below.drew ?_ | (refine Below.setCell ?_ (by simp) _) | (refine Below.alloc ?_ (by simp;try omega) _))
theorem Qr (f f2:Int) (v2:Int) (w:World):Calls prog 132 #[.agg #[.int .u64 f,.int .i64 0,.int .i64 0],.agg #[.int .u64 f2,.int .i64 1,.int .i64 v2]] w fun e w'=>e = .returned (.agg #[.int .u64 (bits .or .u64 f f2),.int .i64 1,.int .i64 v2])∧Below w.heap.size w w':=by
 go_enter func132,ntmps132;go_wp2;go_region_with (go_at_call 139;refine (gH _ _ _ _).mono ?_;rintro e w' ⟨rfl,rfl⟩)
 all_goals go_wp2
 all_goals refine bodyPost_ret (v:=.agg #[.int .u64 (bits .or .u64 f f2),.int .i64 1,.int .i64 v2]) (by simp [results,results132,go_sem]) rfl ⟨rfl,?_⟩
 all_goals repeat (first | exact Below.refl _ _ | refine Below.drew ?_ | (refine Below.setCell ?_ (by simp) _) | (refine Below.alloc ?_ (by simp;try omega) _))
theorem Qs (f f2:Int) (w:World):Calls prog 132 #[.agg #[.int .u64 f,.int .i64 0,.int .i64 0],.agg #[.int .u64 f2,.int .i64 2,.int .i64 0]] w fun e w'=>e = .returned (.agg #[.int .u64 0,.int .i64 2,.int .i64 0])∧Below w.heap.size w w':=by
 go_enter func132,ntmps132;go_wp2;go_region_with (go_at_call 139;refine (gH _ _ _ _).mono ?_;rintro e w' ⟨rfl,rfl⟩)
 all_goals go_wp2
 all_goals refine bodyPost_ret (v:=.agg #[.int .u64 0,.int .i64 2,.int .i64 0]) (by simp [results,results132,go_sem]) rfl ⟨rfl,?_⟩
 all_goals repeat (first | exact Below.refl _ _ | refine Below.drew ?_ | (refine Below.setCell ?_ (by simp) _) | (refine Below.alloc ?_ (by simp;try omega) _))
theorem Qt (f f2:Int) (v:Int) (w:World):Calls prog 132 #[.agg #[.int .u64 f,.int .i64 1,.int .i64 v],.agg #[.int .u64 f2,.int .i64 0,.int .i64 0]] w fun e w'=>e = .returned (.agg #[.int .u64 (bits .or .u64 f f2),.int .i64 1,.int .i64 v])∧Below w.heap.size w w':=by
 go_enter func132,ntmps132;go_wp2;go_region_with (go_at_call 139;refine (gH _ _ _ _).mono ?_;rintro e w' ⟨rfl,rfl⟩)
 all_goals go_wp2
 all_goals refine bodyPost_ret (v:=.agg #[.int .u64 (bits .or .u64 f f2),.int .i64 1,.int .i64 v]) (by simp [results,results132,go_sem]) rfl ⟨rfl,?_⟩
 all_goals repeat (first | exact Below.refl _ _ | refine Below.drew ?_ | (refine Below.setCell ?_ (by simp) _) | (refine Below.alloc ?_ (by simp;try omega) _))
theorem Qu (f f2:Int) (v:Int) (w:World):Calls prog 132 #[.agg #[.int .u64 f,.int .i64 1,.int .i64 v],.agg #[.int .u64 f2,.int .i64 1,.int .i64 v]] w fun e w'=>e = .returned (.agg #[.int .u64 (bits .or .u64 f f2),.int .i64 1,.int .i64 v])∧Below w.heap.size w w':=by
 go_enter func132,ntmps132;go_wp2;go_region_with (go_at_call 139;refine (gH _ _ _ _).mono ?_;rintro e w' ⟨rfl,rfl⟩)
 all_goals go_wp2
 all_goals refine bodyPost_ret (v:=.agg #[.int .u64 (bits .or .u64 f f2),.int .i64 1,.int .i64 v]) (by simp [results,results132,go_sem]) rfl ⟨rfl,?_⟩
 all_goals repeat (first | exact Below.refl _ _ | refine Below.drew ?_ | (refine Below.setCell ?_ (by simp) _) | (refine Below.alloc ?_ (by simp;try omega) _))
theorem Qw (f f2:Int) (v v2:Int) (hv:(v == v2)=false) (w:World):Calls prog 132 #[.agg #[.int .u64 f,.int .i64 1,.int .i64 v],.agg #[.int .u64 f2,.int .i64 1,.int .i64 v2]] w fun e w'=>e = .returned (.agg #[.int .u64 0,.int .i64 2,.int .i64 0])∧Below w.heap.size w w':=by
 go_enter func132,ntmps132;go_wp2;go_region_with (go_at_call 139;refine (gH _ _ _ _).mono ?_;rintro e w' ⟨rfl,rfl⟩)
 all_goals go_wp2
 all_goals refine bodyPost_ret (v:=.agg #[.int .u64 0,.int .i64 2,.int .i64 0]) (by simp [results,results132,go_sem]) rfl ⟨rfl,?_⟩
 all_goals repeat (first | exact Below.refl _ _ | refine Below.drew ?_ | (refine Below.setCell ?_ (by simp) _) | (refine Below.alloc ?_ (by simp;try omega) _))
theorem Qx (f f2:Int) (v:Int) (w:World):Calls prog 132 #[.agg #[.int .u64 f,.int .i64 1,.int .i64 v],.agg #[.int .u64 f2,.int .i64 2,.int .i64 0]] w fun e w'=>e = .returned (.agg #[.int .u64 0,.int .i64 2,.int .i64 0])∧Below w.heap.size w w':=by
 go_enter func132,ntmps132;go_wp2;go_region_with (go_at_call 139;refine (gH _ _ _ _).mono ?_;rintro e w' ⟨rfl,rfl⟩)
 all_goals go_wp2
 all_goals refine bodyPost_ret (v:=.agg #[.int .u64 0,.int .i64 2,.int .i64 0]) (by simp [results,results132,go_sem]) rfl ⟨rfl,?_⟩
 all_goals repeat (first | exact Below.refl _ _ | refine Below.drew ?_ | (refine Below.setCell ?_ (by simp) _) | (refine Below.alloc ?_ (by simp;try omega) _))
theorem Qy (f f2:Int) (w:World):Calls prog 132 #[.agg #[.int .u64 f,.int .i64 2,.int .i64 0],.agg #[.int .u64 f2,.int .i64 0,.int .i64 0]] w fun e w'=>e = .returned (.agg #[.int .u64 0,.int .i64 2,.int .i64 0])∧Below w.heap.size w w':=by
 go_enter func132,ntmps132;go_wp2;go_region_with (go_at_call 139;refine (gH _ _ _ _).mono ?_;rintro e w' ⟨rfl,rfl⟩)
 all_goals go_wp2
 all_goals refine bodyPost_ret (v:=.agg #[.int .u64 0,.int .i64 2,.int .i64 0]) (by simp [results,results132,go_sem]) rfl ⟨rfl,?_⟩
 all_goals repeat (first | exact Below.refl _ _ | refine Below.drew ?_ | (refine Below.setCell ?_ (by simp) _) | (refine Below.alloc ?_ (by simp;try omega) _))
theorem Qz (f f2:Int) (v2:Int) (w:World):Calls prog 132 #[.agg #[.int .u64 f,.int .i64 2,.int .i64 0],.agg #[.int .u64 f2,.int .i64 1,.int .i64 v2]] w fun e w'=>e = .returned (.agg #[.int .u64 0,.int .i64 2,.int .i64 0])∧Below w.heap.size w w':=by
 go_enter func132,ntmps132;go_wp2;go_region_with (go_at_call 139;refine (gH _ _ _ _).mono ?_;rintro e w' ⟨rfl,rfl⟩)
 all_goals go_wp2
 all_goals refine bodyPost_ret (v:=.agg #[.int .u64 0,.int .i64 2,.int .i64 0]) (by simp [results,results132,go_sem]) rfl ⟨rfl,?_⟩
 all_goals repeat (first | exact Below.refl _ _ | refine Below.drew ?_ | (refine Below.setCell ?_ (by simp) _) | (refine Below.alloc ?_ (by simp;try omega) _))
theorem Q0 (f f2:Int) (w:World):Calls prog 132 #[.agg #[.int .u64 f,.int .i64 2,.int .i64 0],.agg #[.int .u64 f2,.int .i64 2,.int .i64 0]] w fun e w'=>e = .returned (.agg #[.int .u64 0,.int .i64 2,.int .i64 0])∧Below w.heap.size w w':=by
 go_enter func132,ntmps132;go_wp2;go_region_with (go_at_call 139;refine (gH _ _ _ _).mono ?_;rintro e w' ⟨rfl,rfl⟩)
 all_goals go_wp2
 all_goals refine bodyPost_ret (v:=.agg #[.int .u64 0,.int .i64 2,.int .i64 0]) (by simp [results,results132,go_sem]) rfl ⟨rfl,?_⟩
 all_goals repeat (first | exact Below.refl _ _ | refine Below.drew ?_ | (refine Below.setCell ?_ (by simp) _) | (refine Below.alloc ?_ (by simp;try omega) _))
def Cl.ok (c:Cl):Prop:=c.f < 18446744073709551616∧eB c.f c.k c.v=true
def joinK (k v k2 v2:Int):Int:=if k=0 then k2 else if k2=0 then k else if k=1∧k2=1∧v=v2 then 1 else 2
def dV (k v k2 v2:Int):Int:=if k=0 then v2 else if k2=0 then v else if k=1∧k2=1∧v=v2 then v else 0
def dX (a b:Cl):Cl:=⟨if joinK a.k a.v b.k b.v=2 then 0 else a.f ||| b.f,joinK a.k a.v b.k b.v,dV a.k a.v b.k b.v⟩
theorem lD {f:Nat} {k v:Int} (h:eB f k v=true):(k=0∧v=0)∨k=1∨(k=2∧v=0):=by
 unfold eB at h;split at h
 ·left;simp at h;exact ⟨by assumption,h⟩
 ·split at h
  ·right;left;assumption
  ·split at h
   ·right;right;simp at h;exact ⟨by assumption,h.1⟩
   ·cases h
theorem Nr (a b:Nat) (ha:a < 18446744073709551616) (hb:b < 18446744073709551616):bits .or .u64 (a:Int) (b:Int)=((a ||| b:Nat):Int):=bits_or_u64_nat a b ha hb
def zR (a b:Cl) (w:World) (e:Ending) (w':World):Prop:=e = .returned (dX a b).val∧Below w.heap.size w w'
theorem eY {f f2:Nat} {k v k2 v2:Int} {F K V:Int} {w:World} (hF:F=((if joinK k v k2 v2=2 then 0 else f ||| f2:Nat):Int)) (hK:K=joinK k v k2 v2) (hV:V=dV k v k2 v2) :
  ∀ e w',(e=Ending.returned (.agg #[.int .u64 F,.int .i64 K,.int .i64 V])∧Below w.heap.size w w')→zR ⟨f,k,v⟩ ⟨f2,k2,v2⟩ w e w':=by
 rintro e w' ⟨rfl,hb⟩;exact ⟨by simp only [dX,Cl.val];rw [hF,hK,hV],hb⟩
theorem K7 (a b:Cl) (ha:a.ok) (hb:b.ok) (w:World):Calls prog 132 #[a.val,b.val] w (zR a b w):=by
 obtain ⟨f,k,v⟩:=a;obtain ⟨f2,k2,v2⟩:=b;obtain ⟨hf,hk⟩:=ha;obtain ⟨hf2,hk2⟩:=hb;simp only at hf hk hf2 hk2;have ho:=Nr f f2 hf hf2;rcases lD hk with ⟨rfl,rfl⟩ | rfl | ⟨rfl,rfl⟩<;>rcases lD hk2 with ⟨rfl,rfl⟩ | rfl | ⟨rfl,rfl⟩
 ·exact (Qq f f2 w).mono (eY (by simp [joinK,ho]) (by simp [joinK]) (by simp [dV]))
 ·exact (Qr f f2 v2 w).mono (eY (by simp [joinK,ho]) (by simp [joinK]) (by simp [dV]))
 ·exact (Qs f f2 w).mono (eY (by simp [joinK]) (by simp [joinK]) (by simp [dV]))
 ·exact (Qt f f2 v w).mono (eY (by simp [joinK,ho]) (by simp [joinK]) (by simp [dV]))
 ·by_cases hv:v=v2
  ·subst hv;exact (Qu f f2 v w).mono (eY (by simp [joinK,ho]) (by simp [joinK]) (by simp [dV]))
  ·exact (Qw f f2 v v2 (by simp [hv]) w).mono (eY (by simp [joinK,hv]) (by simp [joinK,hv]) (by simp [dV,hv]))
 ·exact (Qx f f2 v w).mono (eY (by simp [joinK]) (by simp [joinK]) (by simp [dV]))
 ·exact (Qy f f2 w).mono (eY (by simp [joinK]) (by simp [joinK]) (by simp [dV]))
 ·exact (Qz f f2 v2 w).mono (eY (by simp [joinK]) (by simp [joinK]) (by simp [dV]))
 ·exact (Q0 f f2 w).mono (eY (by simp [joinK]) (by simp [joinK]) (by simp [dV]))
theorem uW (d:Int) (a:Option Addr) (len cap:Nat) (cs:List Cl) (w:World) (c:Int) (hl:cs.length=len) (hm:cs.length≤maxLen) (hrow:fA w a cs) (hbits:Bits cs) (hc:mE d cs=c) :
  Calls prog 95 #[.int .i64 d,.slice a len cap] w fun e w'=>e = .returned (.int .i64 c)∧Below w.heap.size w w':=by
 subst hl;subst hc;exact Fe d a cap cs w hm hrow hbits
def nS (d:Int) (xs ys:List Cl):Int:=if mE d xs=0 then mE d ys else mE d xs
theorem lK (d:Int) (a b:Option Addr) (capa capb:Nat) (xs ys:List Cl) (w:World) (hma:xs.length≤maxLen) (hmb:ys.length≤maxLen) (hra:fA w a xs) (hrb:fA w b ys) (hba:Bits xs) (hbb:Bits ys) (c:Int) (hc:nS d xs ys=c) :
  Calls prog 124 #[.int .i64 d,.slice a xs.length capa,.slice b ys.length capb] w fun e w'=>e = .returned (.int .i64 c)∧Below w.heap.size w w':=by
 have HMA:=Lib.hid hma;have HMB:=Lib.hid hmb;have HRA:=Lib.hid hra;have HRB:=Lib.hid hrb;have HBA:=Lib.hid hba;have HBB:=Lib.hid hbb;clear hma hmb hra hrb hba hbb;by_cases h0:mE d xs=0
 ·have H0:=Lib.hid h0;have H1:=Lib.hid (show mE d ys=c by simpa [nS,h0] using hc);clear h0 hc;go_enter func124,ntmps124;go_wp2_with fail;refine (uW _ _ _ _ xs _ 0 rfl HMA.out HRA.out HBA.out H0.out).mono ?_;rintro e w1 ⟨rfl,hb1⟩;go_wp2_with fail;refine (uW _ _ _ _ ys _ c rfl HMB.out (HRB.out.below hb1) HBB.out H1.out).mono ?_;rintro e w2 ⟨rfl,hb2⟩;go_wp2;go_ret;exact ⟨rfl,hb1.trans (hb2.mono hb1.size)⟩
 ·have H1:=Lib.hid (show mE d xs=c by simpa [nS,h0] using hc);have hne:(c != 0)=true:=by rw [← H1.out];simpa using h0
  clear h0 hc;go_enter func124,ntmps124;go_wp2_with fail;refine (uW _ _ _ _ xs _ c rfl HMA.out HRA.out HBA.out H1.out).mono ?_;rintro e w1 ⟨rfl,hb1⟩;go_wp2;go_ret;exact ⟨rfl,hb1⟩
def vals (c:Cl):List Value:=[.int .u64 (c.f:Int),.int .i64 c.k,.int .i64 c.v]
def flat (cs:List Cl):List Value:=cs.flatMap vals
theorem nT (cs:List Cl):(flat cs).length=cs.length * 3:=by
 induction cs with
 | nil=>rfl
 | cons c r ih=>simp [flat,vals] at ih ⊢;omega
theorem jP (c:Cl) (r:List Cl):flat (c::r)=vals c++flat r:=by simp [flat]
theorem Q1 (cs:List Cl) (c:Cl):flat (cs++[c])=flat cs++vals c:=by simp [flat]
theorem pK:∀ {cs:List Cl} {i:Nat} {c:Cl},cs[i]?=some c→(flat cs)[i * 3]?=some (.int .u64 (c.f:Int))∧(flat cs)[i * 3+1]?=some (.int .i64 c.k)∧(flat cs)[i * 3+2]?=some (.int .i64 c.v)
 | [],i,c,h=>by simp at h
 | x::r,0,c,h=>by
  simp at h;subst h;simp [jP,vals]
 | x::r,i+1,c,h=>by
  simp at h;have ih:=pK (cs:=r) (i:=i) h;have e0:(i+1) * 3=i * 3+3:=by omega
  have e1:(i+1) * 3+1=(i * 3+1)+3:=by omega
  have e2:(i+1) * 3+2=(i * 3+2)+3:=by omega
  rw [e1,e2,e0,jP];simp only [vals,List.cons_append,List.nil_append,List.getElem?_cons_succ];exact ih
theorem Ht:∀ (cs:List Cl) (i:Nat) (c:Cl),i < cs.length→(((flat cs).set (i * 3) (.int .u64 (c.f:Int))).set (i * 3+1) (.int .i64 c.k)).set (i * 3+2) (.int .i64 c.v)=flat (cs.set i c)
 | [],i,c,h=>by simp at h
 | x::r,0,c,h=>by simp [jP,vals]
 | x::r,i+1,c,h=>by
  have ih:=Ht r i c (by simpa using h);have e0:(i+1) * 3=i * 3+3:=by omega
  have e1:(i+1) * 3+1=(i * 3+1)+3:=by omega
  have e2:(i+1) * 3+2=(i * 3+2)+3:=by omega
  rw [e1,e2,e0,jP,List.set_cons_succ,jP,← ih];simp [vals]
theorem C8 {w w':World} {base size n:Nat} {E:Nat} {v:Value} {xs:List Value} (h:w.ownsRow base E size v n xs) (hb:Below w.heap.size w w'):w'.ownsRow base E size v n xs:=by
 refine ⟨h.1,?_⟩;rcases h.2 with h2 | ⟨g,cap,cur,hv,hg,hh,r⟩
 ·exact .inl h2
 ·exact .inr ⟨g,cap,cur,hv,hg,by rw [hb.block g (Array.getElem?_eq_some_iff.1 hh).1];exact hh,r⟩
theorem jQ {w:World} {base:Nat} {E:Nat} {v:Value} {n:Nat} {cs:List Cl} (h:w.ownsRow base E 3 v n (flat cs)) :
  n=cs.length∧∃ a cap,v = .slice a n cap∧fA w a cs∧∀ ad,a=some ad→base≤ad.block∧ad.off=0∧ad.block < w.heap.size:=by
 have hl:=h.1;rw [nT] at hl;have hn:n=cs.length:=by omega
 refine ⟨hn,?_⟩;rcases h.2 with ⟨rfl,h0⟩ | ⟨g,cap,cur,rfl,hg,hh,hnc,hcm,hcs,ht⟩
 ·subst h0
  have:cs=[]:=List.length_eq_zero_iff.1 hn.symm
  exact ⟨none,0,rfl,.inl this,fun ad e=>by cases e⟩
 ·refine ⟨some ⟨g,0,none⟩,cap,rfl,.inr ⟨g,0,rfl,fun i c hi=>?_⟩,fun ad e=>by cases e;exact ⟨hg,rfl,(Array.getElem?_eq_some_iff.1 hh).1⟩⟩;obtain ⟨f0,f1,f2⟩:=pK hi;have hi2:i < cs.length:=(List.getElem?_eq_some_iff.1 hi).1;have c0:=h.cellAt (i * 3) (by omega);have c1:=h.cellAt (i * 3+1) (by omega);have c2:=h.cellAt (i * 3+2) (by omega);rw [Nat.zero_add];exact ⟨c0.trans f0,c1.trans f1,c2.trans f2⟩
def kH (cs:List Cl) (err:Int) (w:World) (e:Ending) (w':World):Prop :=
 ∃ a cap,e = .returned (.tuple #[.slice a cs.length cap,.int .i64 err])∧fA w' a cs∧(∀ ad,a=some ad→w.heap.size≤ad.block∧ad.block < w'.heap.size)∧Below w.heap.size w w'
theorem pL (err:Int) {w w':World} (hb:Below w.heap.size w w'):kH [] err w (.returned (.tuple #[.slice none 0 0,.int .i64 err])) w' :=
 ⟨none,0,rfl,.inl rfl,(fun ad e=>by cases e),hb⟩
theorem Fl {cs:List Cl} {w w':World} {E:Nat} {v:Value} {n:Nat} (h:w'.ownsRow w.heap.size E 3 v n (flat cs)) (hb:Below w.heap.size w w') (err:Int):kH cs err w (.returned (.tuple #[v,.int .i64 err])) w':=by obtain ⟨rfl,a,cap,rfl,hr,hf⟩:=jQ h;exact ⟨a,cap,rfl,hr,fun ad e=>⟨(hf ad e).1,(hf ad e).2.2⟩,hb⟩
def wQ (cs:List Cl) (w:World) (e:Ending) (w':World):Prop :=
 ∃ v,e = .returned v∧w'.ownsRow w.heap.size 96 3 v cs.length (flat cs)∧Below w.heap.size w w'
theorem Tw:(prog.info? 96).map (fun i=>(i.zero,i.size,i.bytes))=some (some (.agg #[.int .u64 0,.int .i64 0,.int .i64 0]),3,24):=by kernel_rfl
def dA (xs ys:List Cl):List Cl:=List.zipWith dX xs ys
theorem okAt_ok {n:Nat} {c:Cl} (hf:c.f < 18446744073709551616) (h:jX n c=true):c.ok:=by unfold jX mD at h;simp only [Bool.and_eq_true] at h;exact ⟨hf,h.2⟩
theorem mR {d:Int} {cs:List Cl} (h:mE d cs=0):0≤d∧d≤64∧(cs.length:Int)=d∧cs.all (jX d.toNat)=true:=by
 unfold mE at h;split at h
 ·omega
 ·split at h
  ·omega
  ·cases hz:cs.all (jX d.toNat)<;>rw [hz] at h<;>simp at h;exact ⟨by omega,by omega,by omega,rfl⟩
theorem zS {d:Int} {xs ys:List Cl} (h:nS d xs ys=0):mE d xs=0∧mE d ys=0:=by
 unfold nS at h;split at h
 ·exact ⟨by assumption,h⟩
 ·exact absurd h (by assumption)
theorem Fm {n:Nat} {cs:List Cl} (hb:Bits cs) (h:cs.all (jX n)=true) {i:Nat} {c:Cl} (hi:cs[i]?=some c):c.ok:=by rw [List.all_eq_true] at h;exact okAt_ok (hb c (List.mem_of_getElem? hi)) (h c (List.mem_of_getElem? hi))
theorem Tx {xs ys:List Cl} {k:Nat} {x y:Cl} (hx:xs[k]?=some x) (hy:ys[k]?=some y):(dA xs ys).take (k+1)=(dA xs ys).take k++[dX x y]:=by
 have h:(dA xs ys)[k]?=some (dX x y):=by simp [dA,List.getElem?_zipWith,hx,hy]
 obtain ⟨hk,e⟩:=List.getElem?_eq_some_iff.1 h;rw [List.take_succ_eq_append_getElem hk,e]
def tG (d:Int) (xs ys:List Cl):List Cl:=if nS d xs ys=0 then dA xs ys else []
theorem C9 (x y z:Cl) (hx:x.ok) (hy:y.ok) (hz:dX x y=z) (w:World):Calls prog 132 #[x.val,y.val] w fun e w'=>e = .returned z.val∧Below w.heap.size w w':=by subst hz;exact K7 x y hx hy w
theorem La {w:World} {b off:Nat} {cs:List Cl} (h:∀ i c,cs[i]?=some c→w.cell? ⟨b,off+i * 3,none⟩=some (.int .u64 (c.f:Int))∧w.cell? ⟨b,off+i * 3+1,none⟩=some (.int .i64 c.k)∧w.cell? ⟨b,off+i * 3+2,none⟩=some (.int .i64 c.v)) :
  ∀ j u,(flat cs)[j]?=some u→w.cell? ((⟨b,off,none⟩:Addr).add j)=some u:=by
 intro j u hj;have hlt:j < cs.length * 3:=by rw [← nT];exact (List.getElem?_eq_some_iff.1 hj).1
 obtain ⟨i,r,hr,rfl⟩:∃ i r,r < 3∧j=i * 3+r:=⟨j / 3,j % 3,by omega,by omega⟩;have hi:i < cs.length:=by omega
 obtain ⟨h0,h1,h2⟩:=h i cs[i] (List.getElem?_eq_getElem hi);obtain ⟨f0,f1,f2⟩:=pK (List.getElem?_eq_getElem hi);have e:((⟨b,off,none⟩:Addr).add (i * 3+r))=⟨b,off+(i * 3+r),none⟩:=by simp only [Addr.add];split<;>simp_all
 rw [e]
 match r,hr with
 | 0,_=>rw [Nat.add_zero] at hj ⊢;rw [f0] at hj;rw [h0];exact hj
 | 1,_=>rw [f1] at hj;rw [← Nat.add_assoc,h1];exact hj
 | 2,_=>rw [f2] at hj;rw [← Nat.add_assoc,h2];exact hj
theorem Q2 {w:World} {ad:Addr} {cs:List Cl} (h:fA w (some ad) cs):∀ j u,(flat cs)[j]?=some u→w.cell? (ad.add j)=some u:=by
 rcases h with h | ⟨b,off,e,hc⟩
 ·subst h;intro j u hj;simp [flat] at hj
 ·cases e;exact La hc
theorem Ty (cs:List Cl):∀ u∈flat cs,u.oneCell'=true:=by intro u hu;simp only [flat,List.mem_flatMap,vals] at hu;obtain ⟨c,_,hu⟩:=hu;simp at hu;rcases hu with rfl | rfl | rfl<;>rfl
theorem Da (a:Option Addr) (cap:Nat) (cs:List Cl) (w:World) (hm:cs.length≤64) (hrow:fA w a cs) :
  Calls prog 119 #[.slice a cs.length cap] w (wQ cs w):=by
 obtain ⟨i0,hi,hz0,hz1,hz2⟩:=info_parts Tw;have q22:∀ (w:World) (a:Option Addr) (n c n' c':Nat),(binOp .eql 43 (.slice a n c) (.slice none n' c')).run prog w = .ok (.bool a.isNone) w:=fun w a n c n' c'=>Lib.run_eql_slice_nil w _ _ a n c n' c' underlying43
 cases a with
 | none =>
  have hcs:cs=[]:=by
   rcases hrow with h | ⟨b,off,e,_⟩
   ·exact h
   ·cases e
  subst hcs;clear hrow;go_enter func119,ntmps119;go_wp2;go_ret;exact ⟨_,rfl,World.ownsRow_nil _ _ _ _,Below.refl _ _⟩
 | some ad =>
  have HN:=Lib.hid (fun (o:Obj)=>Q2 (hrow.below ((Below.refl _ w).alloc (Nat.le_refl _) o)));have hown:(w.alloc (.cells #[] 96)).ownsRow w.heap.size 96 3 (.slice (some ⟨w.heap.size,0,none⟩) 0 0) 0 []:=World.ownsRow_lit w #[] 0 (Nat.le_refl _) (by simp) rfl;have HO:=Lib.hid hown;clear hrow hown;go_enter func119,ntmps119;go_wp2_with (at_builtin;refine wpList_append_own _ rfl (.tmp 5) (.tmp 6) 43 rfl w.heap.size 96 i0 _ 3 24 underlying43 hi hz0 hz1 hz2 rfl (by decide) _ _ _ rfl HO.out ad cs.length cap (flat cs) rfl (nT cs) (HN.out _) (Ty cs) (by unfold maxLen;omega) (by omega) (by simp) ?_;intro v' w2 hown2 hgrow hnil);go_ret;refine ⟨v',rfl,by simpa using hown2,?_⟩;exact ((Below.refl _ _).alloc (Nat.le_refl _) _).grown hgrow (by simp) (fun j e=>by cases e;exact Nat.le_refl _)
theorem zT {w:World} {base g n cap k:Nat} {E:Nat} {cs:List Cl} (h:w.ownsRow base E 3 (.slice (some ⟨g,0,none⟩) n cap) n (flat cs)) (hk:k < cs.length) (z:Cl) :
  (((w.setCell ⟨g,k * 3,none⟩ (.int .u64 (z.f:Int))).setCell ⟨g,k * 3+1,none⟩ (.int .i64 z.k)).setCell ⟨g,k * 3+2,none⟩ (.int .i64 z.v)).ownsRow base E 3 (.slice (some ⟨g,0,none⟩) n cap) n (flat (cs.set k z)):=by
 rw [← Ht cs k z hk];exact ((((h.stored (k * 3) _).1.stored (k * 3+1) _).1.stored (k * 3+2) _).1)
theorem Tz {xs ys:List Cl} {k:Nat} {x y z:Cl} (hx:xs[k]?=some x) (hy:ys[k]?=some y) (hz:dX x y=z):(((dA xs ys).take k++xs.drop k).set k z)=(dA xs ys).take (k+1)++xs.drop (k+1):=by
 obtain ⟨hk,ex⟩:=List.getElem?_eq_some_iff.1 hx;obtain ⟨hk2,ey⟩:=List.getElem?_eq_some_iff.1 hy;have hl:((dA xs ys).take k).length=k:=by simp [dA];omega
 rw [Tx hx hy,hz,List.set_append_right _ _ (by omega),hl,Nat.sub_self,List.drop_eq_getElem_cons hk,List.set_cons_zero,List.append_assoc];rfl
theorem mix_at {xs ys:List Cl} {k:Nat} {x y:Cl} (hx:xs[k]?=some x) (hy:ys[k]?=some y):((dA xs ys).take k++xs.drop k)[k]?=some x:=by
 obtain ⟨hk,ex⟩:=List.getElem?_eq_some_iff.1 hx;obtain ⟨hk2,ey⟩:=List.getElem?_eq_some_iff.1 hy;have hl:((dA xs ys).take k).length=k:=by simp [dA];omega
 rw [List.getElem?_append_right (by omega),hl,Nat.sub_self,List.getElem?_drop,Nat.add_zero,hx]
theorem mix_len {xs ys:List Cl} {k:Nat} (hl:ys.length=xs.length) (hk:k≤xs.length):((dA xs ys).take k++xs.drop k).length=xs.length:=by simp [dA];omega
theorem T3 (a b:Option Addr) (capa capb:Nat) (xs ys:List Cl) (w:World) (hm:xs.length≤64) (hl:ys.length=xs.length) (hra:fA w a xs) (hrb:fA w b ys) (hoa:∀ (i:Nat) c,xs[i]?=some c→c.ok) (hob:∀ (i:Nat) c,ys[i]?=some c→c.ok) :
  Calls prog 125 #[.slice a xs.length capa,.slice b ys.length capb] w (wQ (dA xs ys) w):=by
 have HRA:=Lib.hid hra;have HRB:=Lib.hid hrb;have HOA:=Lib.hid hoa;have HOB:=Lib.hid hob;have HL:=Lib.hid hl;have g1:ys.length≤xs.length:=by omega
 have g2:xs.length≤ys.length:=by omega
 clear hra hrb hoa hob hl;go_enter func125,ntmps125;go_wp2_with fail;refine (Da a capa xs _ hm HRA.out).mono ?_;rintro e w1 ⟨v,rfl,hown1,hb1⟩;have HO1:=Lib.hid hown1;clear hown1;go_wp2_with fail;go_loopw [12] (fun i wr=>∃ k:Nat,k≤xs.length∧i = .int .i64 k∧Hid (wr.ownsRow w.heap.size 96 3 v xs.length (flat ((dA xs ys).take k++xs.drop k)))∧Below w.heap.size w wr) (fun i _=>xs.length - (intOf i).toNat)
 case atStart=>exact ⟨0,Nat.zero_le _,rfl,HO1.out,hb1⟩
 case round =>
  obtain ⟨k,hk,rfl,HO,hb⟩:=hrel;by_cases hlt:k < xs.length
  ·obtain ⟨bb,offb,y,rfl,hy,hbb,b0,b1,b2⟩:=HRB.out.at_ (show k < ys.length by omega);obtain ⟨x,hx⟩:∃ x,xs[k]?=some x:=⟨_,List.getElem?_eq_getElem hlt⟩;have c0:=(hb.cell (p:=⟨bb,offb+k * 3,none⟩) hbb).trans b0;have c1:=(hb.cell (p:=⟨bb,offb+k * 3+1,none⟩) hbb).trans b1;have c2:=(hb.cell (p:=⟨bb,offb+k * 3+2,none⟩) hbb).trans b2;clear b0 b1 b2;obtain ⟨z,hz⟩:∃ z,dX x y=z:=⟨_,rfl⟩;have OX:=Lib.hid (HOA.out k x hx);have OY:=Lib.hid (HOB.out k y hy);have HJ:=Lib.hid hz;have HM:=Lib.hid (Tz hx hy hz);have HA:=Lib.hid (mix_at hx hy);have HLEN:=Lib.hid (mix_len HL.out hk);clear hx hy hz;obtain ⟨g,capg,hv,hbg,hgl⟩:=HO.out.form (show 0 < xs.length by omega);subst hv;obtain ⟨f0,f1,f2⟩:=pK HA.out;have d0:=(HO.out.cellAt (k * 3) (by omega)).trans f0;have d1:=(HO.out.cellAt (k * 3+1) (by omega)).trans f1;have d2:=(HO.out.cellAt (k * 3+2) (by omega)).trans f2;have F0:=Lib.hid f0;have F1:=Lib.hid f1;have F2:=Lib.hid f2;clear f0 f1 f2;have g0:(0:Int)≤(k:Int):=by omega
   have g3:(k:Int) < (xs.length:Int):=by omega
   have g4:(k:Int) < (ys.length:Int):=by omega
   go_wp2_with fail;go_region_with (go_at_call 132;refine (C9 x y z OX.out OY.out HJ.out _).mono ?_;rintro e w3 ⟨rfl,hb3⟩;have hB3:Below wr.heap.size wr w3:=Below.trans (by repeat (first | exact Below.refl _ _ | refine Below.drew ?_ | refine Below.alloc ?_ (Nat.le_refl _) _)) (hb3.mono (by simp));have o3:=C8 HO.out hB3;have e0:=(o3.cellAt (k * 3) (by omega)).trans F0.out;have e1:=(o3.cellAt (k * 3+1) (by omega)).trans F1.out;have e2:=(o3.cellAt (k * 3+2) (by omega)).trans F2.out;have q0:=o3.frozenAt (k * 3);have q1:=o3.frozenAt (k * 3+1);have q2:=o3.frozenAt (k * 3+2);have O3:=Lib.hid o3;clear o3)
   all_goals
    have HS:=Lib.hid (zT O3.out (by rw [HLEN.out];exact hlt) z);rw [HM.out] at HS;have HB:Hid (Below w.heap.size w (((w3.setCell ⟨g,k * 3,none⟩ (.int .u64 (z.f:Int))).setCell ⟨g,k * 3+1,none⟩ (.int .i64 z.k)).setCell ⟨g,k * 3+2,none⟩ (.int .i64 z.v))):=(((hb.trans (hB3.mono hb.size)).setCell (p:=⟨g,k * 3,none⟩) hbg _).setCell (p:=⟨g,k * 3+1,none⟩) hbg _).setCell (p:=⟨g,k * 3+2,none⟩) hbg _;clear e0 e1 e2 q0 q1 q2 O3;go_wp2;go_roundw
    case rel=>exact ⟨k+1,by omega,by go_num,HS,HB.out⟩
    case measure=>simp [intOf];omega
  ·obtain rfl:k=xs.length:=by omega
   have HE:Hid (wr.ownsRow w.heap.size 96 3 v (dA xs ys).length (flat (dA xs ys))):=by
    have h:=HO.out;have hlen:(dA xs ys).length=xs.length:=by simp [dA,HL.out]
    rw [List.take_of_length_le (by omega),List.drop_of_length_le (Nat.le_refl _),List.append_nil] at h;rw [hlen];exact h
   go_wp2;go_ret;exact ⟨v,rfl,HE.out,hb⟩
theorem both_ok {d:Int} {xs ys:List Cl} (h:nS d xs ys=0) (hx:Bits xs) (hy:Bits ys) :
  xs.length≤64∧ys.length=xs.length∧(∀ (i:Nat) c,xs[i]?=some c→c.ok)∧(∀ (i:Nat) c,ys[i]?=some c→c.ok):=by
 obtain ⟨k1,k2⟩:=zS h;obtain ⟨d0,d1,la,oka⟩:=mR k1;obtain ⟨_,_,lb,okb⟩:=mR k2;exact ⟨by omega,by omega,fun i c hi=>Fm hx oka hi,fun i c hi=>Fm hy okb hi⟩
theorem Q3 (d:Int) (a b:Option Addr) (capa capb:Nat) (xs ys:List Cl) (w:World) (hma:xs.length≤maxLen) (hmb:ys.length≤maxLen) (hra:fA w a xs) (hrb:fA w b ys) (hba:Bits xs) (hbb:Bits ys) (c:Int) (hc:nS d xs ys=c) :
  Calls prog 105 #[.int .i64 d,.slice a xs.length capa,.slice b ys.length capb] w (kH (tG d xs ys) c w):=by
 have HMA:=Lib.hid hma;have HMB:=Lib.hid hmb;have HRA:=Lib.hid hra;have HRB:=Lib.hid hrb;have HBA:=Lib.hid hba;have HBB:=Lib.hid hbb;have HC:=Lib.hid hc;clear hma hmb hra hrb hba hbb;by_cases h0:c=0
 ·subst h0;obtain ⟨k1,k2,k3,k4⟩:=both_ok hc HBA.out HBB.out;have K2:=Lib.hid k2;have K3:=Lib.hid k3;have K4:=Lib.hid k4;have HR:=Lib.hid (show tG d xs ys=dA xs ys by simp [tG,hc]);clear hc k2 k3 k4;go_enter func105,ntmps105;go_wp2_with fail;refine (lK _ a b capa capb xs ys _ HMA.out HMB.out HRA.out HRB.out HBA.out HBB.out 0 HC.out).mono ?_;rintro e w1 ⟨rfl,hb1⟩;go_wp2_with fail;refine (T3 a b capa capb xs ys _ k1 K2.out (HRA.out.below hb1) (HRB.out.below hb1) K3.out K4.out).mono ?_;rintro e w2 ⟨v,rfl,hown,hb2⟩;have HO:=Lib.hid hown;clear hown;go_wp2;go_ret2;rw [HR.out];obtain ⟨_,a2,cap2,rfl,hr2,hf2⟩:=jQ HO.out;exact ⟨a2,cap2,rfl,hr2,fun ad e=>⟨Nat.le_trans hb1.size (hf2 ad e).1,(hf2 ad e).2.2⟩,hb1.trans (hb2.mono hb1.size)⟩
 ·have HR:=Lib.hid (show tG d xs ys=[] by simp [tG,hc,h0]);have hne:(c != 0)=true:=by simpa using h0
  clear hc h0;go_enter func105,ntmps105;go_wp2_with fail;refine (lK _ a b capa capb xs ys _ HMA.out HMB.out HRA.out HRB.out HBA.out HBB.out c HC.out).mono ?_;rintro e w1 ⟨rfl,hb1⟩;go_wp2;go_ret2;rw [HR.out];exact pL c hb1
def lE (x y:Cl):Bool:=decide (x.f=y.f) && decide (x.k=y.k) && decide (x.v=y.v)
theorem sE {x y:Cl}:lE x y=true↔x=y:=by obtain ⟨f,k,v⟩:=x;obtain ⟨f2,k2,v2⟩:=y;simp [lE,and_assoc]
def xS (xs ys:List Cl):Bool:=if xs.length=ys.length then (List.range xs.length).all fun i=>match xs[i]?,ys[i]? with | some x,some y=>lE x y | _,_=>true else false
theorem oO {xs ys:List Cl}:xS xs ys=true↔xs=ys:=by
 unfold xS;split
 ·rename_i hl;rw [List.all_eq_true];constructor
  ·intro h;apply List.ext_getElem?;intro i;by_cases hi:i < xs.length
   ·have:=h i (List.mem_range.2 hi);rw [List.getElem?_eq_getElem hi,List.getElem?_eq_getElem (hl▸hi)] at this ⊢;simp only at this;rw [sE.1 this]
   ·rw [List.getElem?_eq_none (by omega),List.getElem?_eq_none (by omega)]
  ·rintro rfl i hi;have hi:=List.mem_range.1 hi;rw [List.getElem?_eq_getElem hi];exact sE.2 rfl
 ·rename_i hl;simp;intro e;exact hl (by rw [e])
theorem Lb {xs ys:List Cl} {k:Nat} {x y:Cl} (hl:xs.length=ys.length) (hk:k < xs.length) (hx:xs[k]?=some x) (hy:ys[k]?=some y) (h:lE x y=false):xS xs ys=false:=by
 cases hs:xS xs ys
 ·rfl
 ·rw [oO] at hs;subst hs;rw [hx] at hy;cases hy;rw [sE.2 rfl] at h;cases h
theorem Fn (f f2:Nat) (k k2 v v2:Int) (w:World) :
  (binOp .neq 96 (.agg #[.int .u64 (f:Int),.int .i64 k,.int .i64 v]) (.agg #[.int .u64 (f2:Int),.int .i64 k2,.int .i64 v2])).run prog w = .ok (.bool (!lE ⟨f,k,v⟩ ⟨f2,k2,v2⟩)) w:=by
 by_cases h1:f=f2
 ·subst h1;by_cases h2:k=k2
  ·subst h2;by_cases h3:v=v2
   ·subst h3;simp [lE,go_sem]
   ·have h3':(v == v2)=false:=by simp [h3]
    simp [lE,go_sem,h3]
  ·simp [lE,go_sem,h2]
 ·simp [lE,go_sem,h1];intro h;omega
theorem Lc (x y:Cl) (s:Bool) (h:lE x y=s) (w:World):(binOp .neq 96 x.val y.val).run prog w = .ok (.bool (!s)) w:=by subst h;exact Fn _ _ _ _ _ _ w
theorem Q4 (a b:Option Addr) (capa capb:Nat) (xs ys:List Cl) (w:World) (hm:xs.length≤maxLen) (hmb:ys.length≤maxLen) (hra:fA w a xs) (hrb:fA w b ys) (s:Bool) (hs:xS xs ys=s) :
  Calls prog 92 #[.slice a xs.length capa,.slice b ys.length capb] w fun e w'=>e = .returned (.bool s)∧Below w.heap.size w w':=by
 unfold maxLen at hm hmb;have HRA:=Lib.hid hra;have HRB:=Lib.hid hrb;have HS:=Lib.hid hs;clear hra hrb hs;by_cases hl:xs.length=ys.length
 ·have g1:xs.length≤ys.length:=by omega
  have g2:ys.length≤xs.length:=by omega
  have hne:((xs.length:Int) != (ys.length:Int))=false:=by simp;omega
  have HL:=Lib.hid hl;clear hl;go_enter func92,ntmps92;go_wp2;go_loopw [13] (fun i wr=>∃ k:Nat,k≤xs.length∧i = .int .i64 k∧Hid (∀ (j:Nat) x y,j < k→xs[j]?=some x→ys[j]?=some y→x=y)∧Below w.heap.size w wr) (fun i _=>xs.length - (intOf i).toNat)
  case atStart=>exact ⟨0,Nat.zero_le _,rfl,(fun j x y h=>by omega),Below.refl _ _⟩
  case round =>
   obtain ⟨k,hk,rfl,HE,hb⟩:=hrel;by_cases hlt:k < xs.length
   ·obtain ⟨ba,offa,x,rfl,hx,hba,a0,a1,a2⟩:=(HRA.out.below hb).at_ hlt;obtain ⟨bb,offb,y,rfl,hy,hbb,b0,b1,b2⟩:=(HRB.out.below hb).at_ (show k < ys.length by omega);have g0:(0:Int)≤(k:Int):=by omega
    have g3:(k:Int) < (xs.length:Int):=by omega
    have g4:(k:Int) < (ys.length:Int):=by omega
    cases hxy:lE x y
    ·have hq:∀ W,(binOp .neq 96 (.agg #[.int .u64 (x.f:Int),.int .i64 x.k,.int .i64 x.v]) (.agg #[.int .u64 (y.f:Int),.int .i64 y.k,.int .i64 y.v])).run prog W = .ok (.bool true) W:=fun W=>Lc x y false hxy W
     have HT:Hid (s=false):=HS.out.symm.trans (Lb HL.out hlt hx hy hxy);clear hx hy hxy;go_wp2;go_quiet (fail);go_wp2;go_ret;exact ⟨kA HT.out.symm,below_drewN hb _⟩
    ·have hq:∀ W,(binOp .neq 96 (.agg #[.int .u64 (x.f:Int),.int .i64 x.k,.int .i64 x.v]) (.agg #[.int .u64 (y.f:Int),.int .i64 y.k,.int .i64 y.v])).run prog W = .ok (.bool false) W:=fun W=>Lc x y true hxy W
     have HE2:Hid (∀ (j:Nat) x y,j < k+1→xs[j]?=some x→ys[j]?=some y→x=y):=by
      intro j x' y' hj h1 h2;by_cases e:j=k
      ·subst e;rw [hx] at h1;rw [hy] at h2;cases h1;cases h2;exact sE.1 hxy
      ·exact HE.out j x' y' (by omega) h1 h2
     clear hx hy hxy;go_wp2;go_quiet (fail);go_wp2;go_roundw
     case rel=>exact ⟨k+1,by omega,by go_num,HE2,below_drewN hb _⟩
     case measure=>simp [intOf];omega
   ·have HT:Hid (s=true):=by
     show s=true;rw [← HS.out,oO];apply List.ext_getElem?;intro i;by_cases hi:i < xs.length
     ·have h1:=List.getElem?_eq_getElem hi;have h2:=List.getElem?_eq_getElem (show i < ys.length by omega);rw [h1,h2,HE.out i _ _ (by omega) h1 h2]
     ·rw [List.getElem?_eq_none (by omega),List.getElem?_eq_none (by omega)]
    go_wp2;go_ret;exact ⟨kA HT.out.symm,hb⟩
 ·have HT:Hid (s=false):=by show s=false;rw [← HS.out];simp [xS,hl]
  have hne:((xs.length:Int) != (ys.length:Int))=true:=by simp;omega
  clear hl;go_enter func92,ntmps92;go_wp2;go_ret;exact ⟨kA HT.out.symm,Below.refl _ _⟩
def mF (row:List Cl) (c:Cl) (out:Cl) (i:Nat):Cl:=if c.f.testBit i then (match row[i]? with | some a=>dX out a | none=>out) else out
def kI (row:List Cl) (c:Cl) (n:Nat):Cl:=(List.range n).foldl (mF row c) ⟨0,c.k,c.v⟩
def ofC (row:List Cl) (c:Cl):Cl:=kI row c row.length
theorem iA (row:List Cl) (c:Cl) (n:Nat):kI row c (n+1)=mF row c (kI row c n) n:=by simp [kI,List.range_succ]
theorem Hu {row:List Cl} {c x:Cl} {n:Nat} (hb:c.f.testBit n=true) (hx:row[n]?=some x):kI row c (n+1)=dX (kI row c n) x:=by rw [iA,mF,if_pos hb,hx]
theorem Ns {row:List Cl} {c:Cl} {n:Nat} (hb:c.f.testBit n=false):kI row c (n+1)=kI row c n:=by rw [iA,mF,if_neg (by rw [hb];simp)]
theorem oP {row:List Cl} {c:Cl} {k:Nat}:∀ {n:Nat},k≤n→(∀ i,k≤i→i < n→c.f.testBit i=false)→kI row c n=kI row c k
 | 0,h,_=>by
  obtain rfl:k=0:=by omega
  rfl
 | n+1,h,hb=>by
  by_cases e:k=n+1
  ·subst e;rfl
  ·rw [Ns (hb n (by omega) (by omega))];exact oP (by omega) (fun i h1 h2=>hb i h1 (by omega))
theorem qV {f:Nat} {k v:Int} (h:eB f k v=true):eB 0 k v=true:=by
 unfold eB at *;split
 ·rw [if_pos (by assumption)] at h;exact h
 ·rw [if_neg (by assumption)] at h;split
  ·rfl
  ·rw [if_neg (by assumption)] at h;split
   ·rw [if_pos (by assumption)] at h;simp at h ⊢;exact h.1
   ·rw [if_neg (by assumption)] at h;cases h
theorem nU {a b:Cl} (ha:a.ok) (hb:b.ok):(dX a b).ok:=by
 obtain ⟨f,k,v⟩:=a;obtain ⟨f2,k2,v2⟩:=b;obtain ⟨hf,hk⟩:=ha;obtain ⟨hf2,hk2⟩:=hb;simp only at hf hk hf2 hk2;have hor:f ||| f2 < 18446744073709551616:=Nat.or_lt_two_pow (n:=64) hf hf2
 refine ⟨?_,?_⟩
 ·show (if joinK k v k2 v2=2 then 0 else f ||| f2) < _;split<;>omega
 ·show eB (if joinK k v k2 v2=2 then 0 else f ||| f2) (joinK k v k2 v2) (dV k v k2 v2)=true;rcases lD hk with ⟨rfl,rfl⟩ | rfl | ⟨rfl,rfl⟩<;>rcases lD hk2 with ⟨rfl,rfl⟩ | rfl | ⟨rfl,rfl⟩
  all_goals (try (simp [joinK,dV,eB];done))
  by_cases hv:v=v2<;>simp [joinK,dV,eB,hv]
theorem mL {row:List Cl} {c:Cl} (hc:c.ok) (hr:∀ (i:Nat) x,row[i]?=some x→x.ok):∀ n,(kI row c n).ok
 | 0=>⟨by simp [kI],qV hc.2⟩
 | n+1=>by
  rw [iA,mF];split
  ·split
   ·rename_i a h;exact nU (mL hc hr n) (hr n a h)
   ·exact mL hc hr n
  ·exact mL hc hr n
theorem qW {w:World} {B:Nat} {a b c:Value} {T:Nat} (h:w.heap[B]?=some (.cells #[a,b,c] T (0,0))) :
  w.cell? ⟨B,0,none⟩=some a∧w.cell? ⟨B,1,none⟩=some b∧w.cell? ⟨B,2,none⟩=some c∧(∀ j,w.frozen? ⟨B,j,none⟩=false):=by
 refine ⟨by simp [World.cell?,h],by simp [World.cell?,h],by simp [World.cell?,h],fun j=>by simp [World.frozen?,h]⟩
theorem Q5 {w:World} {B:Nat} {a b c a' b' c':Value} {T:Nat} (h:w.heap[B]?=some (.cells #[a,b,c] T (0,0))) :
  (((w.setCell ⟨B,0,none⟩ a').setCell ⟨B,1,none⟩ b').setCell ⟨B,2,none⟩ c').heap[B]?=some (.cells #[a',b',c'] T (0,0)):=by
 simp [World.setCell,Array.getElem?_modify,h]
theorem Hv {w:World} {B D:Nat} {o:Option Obj} {a' b' c':Value} (hne:D≠B) (h:w.heap[D]?=o) :
  (((w.setCell ⟨B,0,none⟩ a').setCell ⟨B,1,none⟩ b').setCell ⟨B,2,none⟩ c').heap[D]?=o:=by
 rw [Below.heap_setCell _ _ _ _ hne,Below.heap_setCell _ _ _ _ hne,Below.heap_setCell _ _ _ _ hne,h]
theorem T4 {w:World} {B:Nat} {o:Obj} (h:w.heap[B]?=some o):B < w.heap.size:=(Array.getElem?_eq_some_iff.1 h).1
theorem xT {w w':World} {B:Nat} {o:Obj} (h:w.heap[B]?=some o) (hb:Below w.heap.size w w'):w'.heap[B]?=some o:=(hb.block B (T4 h)).trans h
theorem T5 (a b:Nat) (ha:a < 18446744073709551616) (hb:b < 18446744073709551616):bits .and .u64 (a:Int) (b:Int)=((a &&& b:Nat):Int):=bits_and_u64_nat a b ha hb
theorem Q6 (a:Option Addr) (cap:Nat) (row:List Cl) (c:Cl) (w:World) (ht:Tabs w) (hm:row.length≤64) (hra:fA w a row) (hok:∀ (i:Nat) x,row[i]?=some x→x.ok) (hc:c.ok) (hin:∀ i,c.f.testBit i=true→i < row.length) (z:Cl) (hz:ofC row c=z) :
  Calls prog 142 #[c.val,.slice a row.length cap] w fun e w'=>e = .returned z.val∧Below w.heap.size w w':=by
 have HT:=Lib.hid ht;have HRA:=Lib.hid hra;have HOK:=Lib.hid hok;have HC:=Lib.hid hc;have HZ:=Lib.hid hz;have HIN:=Lib.hid hin;have hf:=hc.1;clear hra hok hc hz ht hin;go_enter func142,ntmps142;go_wp2_with fail;refine (gH _ _ _ _).mono ?_;rintro e w1 ⟨rfl,rfl⟩;go_wp2_with fail;go_loopw [6] (fun i wr=>∃ (k x:Nat) (o:Cl),k≤row.length∧x < 18446744073709551616∧i = .int .u64 x∧Hid (∀ i,x.testBit i=(c.f.testBit i && decide (k≤i)))∧Hid (kI row c k=o)∧Hid (wr.heap[w.heap.size+1]?=some (.cells #[.int .u64 0,.int .i64 0,.int .i64 0] 96 (0,0)))∧Hid (wr.heap[w.heap.size+1+1+1+1]?=some (.cells #[.int .u64 (o.f:Int),.int .i64 o.k,.int .i64 o.v] 96 (0,0)))∧Below w.heap.size w wr) (fun i _=>(intOf i).toNat)
 case atStart =>
  refine ⟨0,c.f,⟨0,c.k,c.v⟩,Nat.zero_le _,hf,rfl,(fun i=>by simp),rfl,?_,?_,((((((Below.refl _ _).alloc (Nat.le_refl _) _).alloc (by simp) _).alloc (by simp;omega) _).alloc (by simp;omega) _).alloc (by simp;omega) _)⟩
  ·show _=_;rw [heap_alloc_old _ _ (by simp),heap_alloc_old _ _ (by simp),heap_alloc_old _ _ (by simp),show w.heap.size+1=(w.alloc (.cells #[.int .u64 (c.f:Int),.int .i64 c.k,.int .i64 c.v] 96)).heap.size by simp,heap_alloc_new]
  ·show _=_;rw [show w.heap.size+1+1+1+1=((((w.alloc (.cells #[.int .u64 (c.f:Int),.int .i64 c.k,.int .i64 c.v] 96)).alloc (.cells #[.int .u64 0,.int .i64 0,.int .i64 0] 96)).alloc (.cells #[.int .u64 0,.int .i64 c.k,.int .i64 c.v] 96)).alloc (.cells #[.int .u64 0,.int .i64 c.k,.int .i64 c.v] 96)).heap.size by simp,heap_alloc_new];rfl
 case round =>
  obtain ⟨k,x,o,hk,hx64,rfl,HX,HO,B1,B2,hb⟩:=hrel;obtain ⟨o0,o1,o2,of⟩:=qW B2.out;have o4:=of 0;have o5:=of 1;have o6:=of 2;clear of;by_cases hx0:x=0
  ·have hall:∀ i,k≤i→i < row.length→c.f.testBit i=false:=fun i h1 _=>by have:=HX.out i;rw [hx0,Nat.zero_testBit] at this;simp [h1] at this;exact this
   have HE:Hid (o=z):=by show o=z;rw [← HO.out,← HZ.out];exact (oP hk hall).symm
   have hx00:(x:Int)=0:=by omega
   subst hx0;obtain ⟨d0,d1,d2,df⟩:=qW B1.out;have d4:=df 0;have d5:=df 1;have d6:=df 2;clear df hx00 hall;go_wp2;refine bodyPost_ret (v:=.agg #[.int .u64 (o.f:Int),.int .i64 o.k,.int .i64 o.v]) ?_ rfl ⟨by rw [HE.out],?_⟩
   ·simp [results,results142,go_sem,d0,d1,d2]
   ·exact (((hb.setCell (p:=⟨w.heap.size+1,0,none⟩) (by simp) _).setCell (p:=⟨w.heap.size+1,1,none⟩) (by simp) _).setCell (p:=⟨w.heap.size+1,2,none⟩) (by simp) _)
  ·obtain ⟨j,hj⟩:∃ j,Lib.ctz 64 x=j:=⟨_,rfl⟩;have hbx:x.testBit j=true:=by rw [← hj];exact Nm hx0 hx64
   have hbc:c.f.testBit j=true∧k≤j:=by have:=HX.out j;rw [hbx] at this;simpa using this.symm
   have hjr:j < row.length:=HIN.out j hbc.1;have hskip:kI row c j=o:=by
    rw [oP hbc.2 (fun i h1 h2=>?_)]
    ·exact HO.out
    ·have h3:=HX.out i;rw [zJ hx0 hx64 (by omega)] at h3;simp [h1] at h3;exact h3
   obtain ⟨ba,offa,y,rfl,hy,hba,a0,a1,a2⟩:=(HRA.out.below hb).at_ hjr;obtain ⟨t,htt⟩:∃ t,dX o y=t:=⟨_,rfl⟩;have HN:Hid (kI row c (j+1)=t):=(Hu hbc.1 hy).trans (by rw [hskip,htt]);have OO:Hid o.ok:=by rw [← HO.out];exact mL HC.out HOK.out k
   have OY:=Lib.hid (HOK.out j y hy);have HTT:=Lib.hid htt;have HJ:=Lib.hid hj;have HX2:Hid (∀ i,(x &&& (x - 1)).testBit i=(c.f.testBit i && decide (j+1≤i))):=by
    intro i;rw [Qe hx0 hx64,hj];by_cases h1:i < j
    ·rw [zJ hx0 hx64 (by omega)];have e9:¬ (j+1≤i):=by omega
     simp [e9]
    ·rw [HX.out i];by_cases h2:i=j
     ·subst h2;simp
     ·have e1:k≤i:=by omega
      have e2:j+1≤i:=by omega
      simp [e1,e2,h2]
   have hlt2:x &&& (x - 1) < x:=Tc hx0;have hxp:(1:Int)≤(x:Int):=by omega
   have hand:bits .and .u64 (x:Int) ((x:Int) - 1)=((x &&& (x - 1):Nat):Int):=by rw [← T5 x (x - 1) hx64 (by omega)];congr 1;omega
   obtain ⟨x',hx'⟩:∃ x',x'=x &&& (x - 1):=⟨_,rfl⟩;rw [← hx'] at HX2 hlt2 hand;have hne:((x:Int) != 0)=true:=by simp;omega
   have hx9:(x:Int)≤18446744073709551615:=by omega
   have g0:(0:Int)≤(j:Int):=by omega
   have g3:(j:Int) < (row.length:Int):=by omega
   have HX':=Lib.hid hx';have HNE:=Lib.hid hx0;have HBC:=Lib.hid hbc;clear hbx hbc hskip hy htt hj hx' hx0;go_wp2_with fail;go_region_with (first | (go_at_call 144;refine (Qd x HNE.out hx64 _ (HT.out.below (by repeat (first | exact hb | refine Below.drew ?_)))).mono ?_;rintro e w4 ⟨rfl,rfl⟩;rw [HJ.out]) | (go_at_call 132;refine (C9 o y t OO.out OY.out HTT.out _).mono ?_;rintro e w3 ⟨rfl,hb3⟩;have hB3:Below wr.heap.size wr w3:=Below.trans (by repeat (first | exact Below.refl _ _ | refine Below.drew ?_)) hb3;have D1:=Lib.hid (xT B1.out hB3);have D2:=Lib.hid (xT B2.out hB3);obtain ⟨e0,e1,e2,ef⟩:=qW D2.out;have e4:=ef 0;have e5:=ef 1;have e6:=ef 2;clear ef))
   all_goals
    have N2:=Lib.hid (Q5 (a':=.int .u64 (t.f:Int)) (b':=.int .i64 t.k) (c':=.int .i64 t.v) D2.out);have N1:=Lib.hid (Hv (B:=w.heap.size+1+1+1+1) (a':=.int .u64 (t.f:Int)) (b':=.int .i64 t.k) (c':=.int .i64 t.v) (by omega) D1.out);have NB:=Lib.hid ((((hb.trans (hB3.mono hb.size)).setCell (p:=⟨w.heap.size+1+1+1+1,0,none⟩) (by simp;omega) (.int .u64 (t.f:Int))).setCell (p:=⟨w.heap.size+1+1+1+1,1,none⟩) (by simp;omega) (.int .i64 t.k)).setCell (p:=⟨w.heap.size+1+1+1+1,2,none⟩) (by simp;omega) (.int .i64 t.v));clear e0 e1 e2 e4 e5 e6 hb3;go_wp2;go_roundw
    case rel=>exact ⟨j+1,x',t,by omega,by omega,by first | rfl | rw [hand],HX2,HN,N1,N2,NB.out⟩
    case measure=>simp [intOf];omega
def gE (xs ys:List Cl):List Cl:=ys.map (ofC xs)
def thenR (d:Int) (xs ys:List Cl):List Cl:=if nS d xs ys=0 then gE xs ys else []
theorem Hw {xs ys:List Cl} {n:Nat} (h2:ys.length=n):(gE xs ys).length=n:=by simp [gE,h2]
theorem Hx {w w':World} {B q:Nat} {o2:Nat} {u0 u1 u2:Value} (hb:Below B w w') (hq:q < B)
  (h:w.cell? ⟨q,o2,none⟩=some u0∧w.cell? ⟨q,o2+1,none⟩=some u1∧w.cell? ⟨q,o2+2,none⟩=some u2) :
  w'.cell? ⟨q,o2,none⟩=some u0∧w'.cell? ⟨q,o2+1,none⟩=some u1∧w'.cell? ⟨q,o2+2,none⟩=some u2:=by
 obtain ⟨b0,b1,b2⟩:=h;exact ⟨(hb.cell (p:=⟨q,_,none⟩) hq).trans b0,(hb.cell (p:=⟨q,_,none⟩) hq).trans b1,(hb.cell (p:=⟨q,_,none⟩) hq).trans b2⟩
def z0:Cl:=⟨0,0,0⟩
theorem Db (n:Nat):(madeCells (Value.agg #[.int .u64 0,.int .i64 0,.int .i64 0]).cells (n * 3)).toList=flat (List.replicate n z0):=by
 have hc:(Value.agg #[.int .u64 0,.int .i64 0,.int .i64 0]).cells=#[.int .u64 0,.int .i64 0,.int .i64 0]:=rfl;rw [hc];apply List.ext_getElem?;intro j;by_cases hj:j < n * 3
 ·have e:(List.replicate n z0)[j / 3]?=some z0:=by rw [List.getElem?_replicate,if_pos (by omega)]
  obtain ⟨f0,f1,f2⟩:=pK e;have hr:j % 3=0∨j % 3=1∨j % 3=2:=by omega
  have hlt:j < (madeCells #[Value.int .u64 0,.int .i64 0,.int .i64 0] (n * 3)).toList.length:=by simp [madeCells];exact hj
  rcases hr with h | h | h
  ·have ej:j=j / 3 * 3:=by omega
   rw [← ej] at f0;rw [f0,List.getElem?_eq_getElem hlt];simp [madeCells,h,z0]
  ·have ej:j=j / 3 * 3+1:=by omega
   rw [← ej] at f1;rw [f1,List.getElem?_eq_getElem hlt];simp [madeCells,h,z0]
  ·have ej:j=j / 3 * 3+2:=by omega
   rw [← ej] at f2;rw [f2,List.getElem?_eq_getElem hlt];simp [madeCells,h,z0]
 ·rw [List.getElem?_eq_none (by simp [madeCells];omega),List.getElem?_eq_none (by rw [nT];simp;omega)]
theorem Dc {full:List Cl} {n k:Nat} {z:Cl} (hl:full.length=n) (hz:full[k]?=some z):(full.take k++List.replicate (n - k) z0).set k z=full.take (k+1)++List.replicate (n - (k+1)) z0:=by
 obtain ⟨hk,ex⟩:=List.getElem?_eq_some_iff.1 hz;have hl2:(full.take k).length=k:=by simp;omega
 rw [List.set_append_right _ _ (by omega),hl2,Nat.sub_self,show n - k=(n - (k+1))+1 by omega,List.replicate_succ,List.set_cons_zero,List.take_succ_eq_append_getElem hk,List.append_assoc,ex];rfl
theorem Nt {full:List Cl} {n k:Nat} (hl:full.length=n) (hk:k < n):(full.take k++List.replicate (n - k) z0)[k]?=some z0:=by
 have hl2:(full.take k).length=k:=by simp;omega
 rw [List.getElem?_append_right (by omega),hl2,Nat.sub_self,List.getElem?_replicate,if_pos (by omega)]
theorem T6 {full:List Cl} {n k:Nat} (hl:full.length=n) (hk:k≤n):(full.take k++List.replicate (n - k) z0).length=n:=by simp;omega
theorem okAt_in {n:Nat} {c:Cl} (hf:c.f < 18446744073709551616) (h:jX n c=true) (i:Nat) (hb:c.f.testBit i=true):i < n:=by
 have h1:kB n c.f=true:=by
  unfold jX mD at h;cases hi:kB n c.f
  ·rw [hi] at h;simp at h
  ·rfl
 rcases Nat.lt_or_ge i n with hi | hi
 ·exact hi
 ·rcases Nat.lt_or_ge i 64 with h64 | h64
  ·rw [(Hj n c.f hf).1 h1 i hi h64] at hb;cases hb
  ·rw [Nat.testBit_lt_two_pow (Nat.lt_of_lt_of_le hf (Nat.le_trans (by decide:18446744073709551616≤2 ^ 64) (Nat.pow_le_pow_right (by decide) h64)))] at hb;cases hb
theorem T7 (d:Int) (a b:Option Addr) (capa capb:Nat) (xs ys:List Cl) (w:World) (ht:Tabs w) (hma:xs.length≤maxLen) (hmb:ys.length≤maxLen) (hra:fA w a xs) (hrb:fA w b ys) (hba:Bits xs) (hbb:Bits ys) (c:Int) (hc:nS d xs ys=c) :
  Calls prog 138 #[.int .i64 d,.slice a xs.length capa,.slice b ys.length capb] w (kH (thenR d xs ys) c w):=by
 have HT:=Lib.hid ht;have HMA:=Lib.hid hma;have HMB:=Lib.hid hmb;have HRA:=Lib.hid hra;have HRB:=Lib.hid hrb;have HBA:=Lib.hid hba;have HBB:=Lib.hid hbb;have HC:=Lib.hid hc;clear ht hma hmb hra hrb hba hbb;by_cases h0:c=0
 ·subst h0;obtain ⟨k1,k2⟩:=zS hc;obtain ⟨d0,d1,la,oka⟩:=mR k1;obtain ⟨_,_,lb,okb⟩:=mR k2;obtain ⟨n,rfl⟩:∃ n:Nat,d=n:=⟨d.toNat,by omega⟩;have hla:xs.length=n:=by omega
  have hlb:ys.length=n:=by omega
  have HR:=Lib.hid (show thenR n xs ys=gE xs ys by simp [thenR,hc]);have HN:=Lib.hid (Hw (xs:=xs) hlb);have OKA:=Lib.hid oka;have OKB:=Lib.hid okb;have ga1:n≤xs.length:=by omega
  have gb1:n≤ys.length:=by omega
  have ga2:xs.length≤n:=by omega
  have gb2:ys.length≤n:=by omega
  have hn:n≤64:=by omega
  obtain ⟨i0,hi,hz0,hz1,hz2⟩:=info_parts Tw;clear hc k1 k2 d0 d1 la oka lb okb hla hlb;go_enter func138,ntmps138;go_wp2_with fail;refine (lK _ a b capa capb xs ys _ HMA.out HMB.out HRA.out HRB.out HBA.out HBB.out 0 HC.out).mono ?_;rintro e w1 ⟨rfl,hb1⟩;go_wp2_with (at_make;refine wpList_make_full _ rfl (.tmp 18) (.tmp 18) 43 rfl w.heap.size 96 i0 _ 3 underlying43 hi hz0 hz1 .i64 .i64 (n:Int) (n:Int) n rfl rfl rfl rfl (by rw [hz2];omega) (by unfold maxLen;omega) hb1.size ?_;intro w2 hown2 hgrow2);have HO1:Hid (w2.ownsRow w.heap.size 96 3 (.slice (some ⟨w1.heap.size,0,none⟩) n n) n (flat ((gE xs ys).take 0++List.replicate (n - 0) z0))):=by rw [List.take_zero,List.nil_append,Nat.sub_zero,← Db];exact hown2
  have hb2:Below w.heap.size w w2:=hb1.grown hgrow2 hb1.size (fun j e=>by cases e);have hsz:=hb1.size;clear hown2;go_wp2_with fail;go_loopw [21] (fun i wr=>∃ k:Nat,k≤n∧i = .int .i64 k∧Hid (wr.ownsRow w.heap.size 96 3 (.slice (some ⟨w1.heap.size,0,none⟩) n n) n (flat ((gE xs ys).take k++List.replicate (n - k) z0)))∧Below w.heap.size w wr) (fun i _=>n - (intOf i).toNat)
  case atStart=>exact ⟨0,Nat.zero_le _,rfl,HO1,hb2⟩
  case round =>
   obtain ⟨k,hk,rfl,HO,hb⟩:=hrel;by_cases hlt:k < n
   ·obtain ⟨bb,offb,y,rfl,hy,hbb,b0,b1,b2⟩:=HRB.out.at_ (show k < ys.length by omega);have HF:Hid (_∧_∧_):=⟨b0,b1,b2⟩;clear b0 b1 b2;obtain ⟨b0,b1,b2⟩:=Hx hb hbb HF.out;have OY:=Lib.hid (Fm HBB.out OKB.out hy);have OIN:Hid (∀ i,y.f.testBit i=true→i < xs.length):=fun i h=>Nat.lt_of_lt_of_le (okAt_in OY.out.1 (List.all_eq_true.1 OKB.out y (List.mem_of_getElem? hy)) i h) (by omega)
    have OAL:Hid (∀ (i:Nat) x,xs[i]?=some x→x.ok):=fun i x hi=>Fm HBA.out OKA.out hi
    obtain ⟨z,hz⟩:∃ z,ofC xs y=z:=⟨_,rfl⟩;have HZ:=Lib.hid (Dc (full:=gE xs ys) (n:=n) (k:=k) (z:=z) HN.out (by rw [← hz];simp [gE,hy]));have HA:=Lib.hid (Nt (full:=gE xs ys) (n:=n) HN.out hlt);have HLEN:=Lib.hid (T6 (full:=gE xs ys) (n:=n) HN.out hk);have HJ:=Lib.hid hz;clear hy hz;have g0:(0:Int)≤(k:Int):=by omega
    have g2:(k:Int) < (ys.length:Int):=by omega
    have g3:(k:Int) < (n:Int):=by omega
    go_wp2_with (go_at_call 142;refine (Q6 a capa xs y _ (HT.out.below hb) (by omega) (HRA.out.below hb) OAL.out OY.out OIN.out z HJ.out).mono ?_;rintro e w3 ⟨rfl,hb3⟩;have hB3:Below wr.heap.size wr w3:=hb3;have o3:=C8 HO.out hB3;have f3:=pK HA.out;have e0:=(o3.cellAt (k * 3) (by omega)).trans f3.1;have e1:=(o3.cellAt (k * 3+1) (by omega)).trans f3.2.1;have e2:=(o3.cellAt (k * 3+2) (by omega)).trans f3.2.2;have q0:=o3.frozenAt (k * 3);have q1:=o3.frozenAt (k * 3+1);have q2:=o3.frozenAt (k * 3+2);have O3:=Lib.hid o3;clear o3 f3);have HS:=Lib.hid (zT O3.out (by rw [HLEN.out];exact hlt) z);rw [HZ.out] at HS;have HB:Hid (Below w.heap.size w (((w3.setCell ⟨w1.heap.size,k * 3,none⟩ (.int .u64 (z.f:Int))).setCell ⟨w1.heap.size,k * 3+1,none⟩ (.int .i64 z.k)).setCell ⟨w1.heap.size,k * 3+2,none⟩ (.int .i64 z.v))):=(((hb.trans (hB3.mono hb.size)).setCell (p:=⟨w1.heap.size,k * 3,none⟩) hsz _).setCell (p:=⟨w1.heap.size,k * 3+1,none⟩) hsz _).setCell (p:=⟨w1.heap.size,k * 3+2,none⟩) hsz _;clear e0 e1 e2 q0 q1 q2 O3;go_wp2;go_roundw
    case rel=>exact ⟨k+1,by omega,by go_num,HS,HB.out⟩
    case measure=>simp [intOf];omega
   ·obtain rfl:n=k:=by omega
    have HE:Hid (wr.ownsRow w.heap.size 96 3 (.slice (some ⟨w1.heap.size,0,none⟩) n n) n (flat (thenR n xs ys))):=by have:=HO.out;rw [List.take_of_length_le (by rw [HN.out];exact Nat.le_refl _),Nat.sub_self,List.replicate_zero,List.append_nil] at this;rw [HR.out];exact this
    go_wp2;go_ret2;exact Fl HE.out hb 0
 ·have HR:=Lib.hid (show thenR d xs ys=[] by simp [thenR,hc,h0]);have hne:(c != 0)=true:=by simpa using h0
  clear hc h0;go_enter func138,ntmps138;go_wp2_with fail;refine (lK _ a b capa capb xs ys _ HMA.out HMB.out HRA.out HRB.out HBA.out HBB.out c HC.out).mono ?_;rintro e w1 ⟨rfl,hb1⟩;go_wp2;go_ret2;rw [HR.out];exact pL c hb1
def oQ (k:Nat):Cl:=⟨2 ^ k,0,0⟩
def iL (n:Nat):List Cl:=(List.range n).map oQ
def zU (d:Int):List Cl:=if qM d=0 then iL d.toNat else []
theorem lQ (n:Nat):(iL n).length=n:=by simp [iL]
theorem yR {n k:Nat} (hk:k < n):(iL n)[k]?=some (oQ k):=by simp [iL,List.getElem?_range hk]
theorem pow_u64 {k:Nat} (hk:k < 64):IntKind.u64.wrap (2 ^ k:Int)=((2 ^ k:Nat):Int):=by
 have h:2 ^ k < 18446744073709551616:=Nat.lt_of_lt_of_le (Nat.pow_lt_pow_right (by decide) hk) (by decide);have e:(2 ^ k:Int)=((2 ^ k:Nat):Int):=by simp
 rw [e];generalize 2 ^ k=q at h;simp [IntKind.wrap,IntKind.signed,IntKind.bits];omega
theorem Dd:∀ (cs:List Cl) (i:Nat) (f f':Nat),cs[i]?=some ⟨f,0,0⟩→(flat cs).set (i * 3) (.int .u64 (f':Int))=flat (cs.set i ⟨f',0,0⟩)
 | [],i,f,f',h=>by simp at h
 | x::r,0,f,f',h=>by
  simp at h;subst h;simp [jP,vals]
 | x::r,i+1,f,f',h=>by
  have ih:=Dd r i f f' (by simpa using h);have e0:(i+1) * 3=i * 3+3:=by omega
  rw [e0,jP,List.set_cons_succ,jP,← ih];simp [vals]
theorem Ld {w:World} {base g n cap k:Nat} {E:Nat} {cs:List Cl} {f:Nat} (h:w.ownsRow base E 3 (.slice (some ⟨g,0,none⟩) n cap) n (flat cs)) (hk:cs[k]?=some ⟨f,0,0⟩) (f':Nat) :
  (w.setCell ⟨g,k * 3,none⟩ (.int .u64 (f':Int))).ownsRow base E 3 (.slice (some ⟨g,0,none⟩) n cap) n (flat (cs.set k ⟨f',0,0⟩)):=by
 rw [← Dd cs k f f' hk];exact (h.stored (k * 3) _).1
theorem T8 (n:Nat) (w:World) (hn:n≤64):Calls prog 135 #[.int .i64 n] w (wQ (iL n) w):=by
 obtain ⟨i0,hi,hz0,hz1,hz2⟩:=info_parts Tw;have HN:=Lib.hid (lQ n);go_enter func135,ntmps135;go_wp2_with (at_make;refine wpList_make_full _ rfl (.tmp 5) (.tmp 5) 43 rfl w.heap.size 96 i0 _ 3 underlying43 hi hz0 hz1 .i64 .i64 (n:Int) (n:Int) n rfl rfl rfl rfl (by rw [hz2];omega) (by unfold maxLen;omega) (Nat.le_refl _) ?_;intro w2 hown2 hgrow2);have HO1:Hid (w2.ownsRow w.heap.size 96 3 (.slice (some ⟨w.heap.size,0,none⟩) n n) n (flat ((iL n).take 0++List.replicate (n - 0) z0))):=by rw [List.take_zero,List.nil_append,Nat.sub_zero,← Db];exact hown2
 have hb2:Below w.heap.size w w2:=(Below.refl _ _).grown hgrow2 (Nat.le_refl _) (fun j e=>by cases e);clear hown2;go_wp2_with fail;go_loopw [8] (fun i wr=>∃ k:Nat,k≤n∧i = .int .i64 k∧Hid (wr.ownsRow w.heap.size 96 3 (.slice (some ⟨w.heap.size,0,none⟩) n n) n (flat ((iL n).take k++List.replicate (n - k) z0)))∧Below w.heap.size w wr) (fun i _=>n - (intOf i).toNat)
 case atStart=>exact ⟨0,Nat.zero_le _,rfl,HO1,hb2⟩
 case round =>
  obtain ⟨k,hk,rfl,HO,hb⟩:=hrel;by_cases hlt:k < n
  ·have HZ:=Lib.hid (Dc (full:=iL n) (n:=n) (k:=k) HN.out (yR hlt));have HA:=Lib.hid (Nt (full:=iL n) (n:=n) HN.out hlt);have HW:=Lib.hid (pow_u64 (k:=k) (by omega));have f3:=pK HA.out;have e0:=(HO.out.cellAt (k * 3) (by omega)).trans f3.1;have q0:=HO.out.frozenAt (k * 3);clear f3;have g0:(0:Int)≤(k:Int):=by omega
   have g1:k < 64:=by omega
   have g2:(k:Int) < 64:=by omega
   have g3:(k:Int) < (n:Int):=by omega
   have HS:=Lib.hid (Ld HO.out HA.out (2 ^ k));rw [show (⟨2 ^ k,0,0⟩:Cl)=oQ k from rfl,HZ.out,← HW.out] at HS;have HB:Hid (Below w.heap.size w (wr.setCell ⟨w.heap.size,k * 3,none⟩ (.int .u64 (IntKind.u64.wrap (2 ^ k))))):=hb.setCell (p:=⟨w.heap.size,k * 3,none⟩) (Nat.le_refl _) _;go_wp2;go_roundw
   case rel=>exact ⟨k+1,by omega,by go_num,HS,HB.out⟩
   case measure=>simp [intOf];omega
  ·obtain rfl:n=k:=by omega
   have HE:Hid (wr.ownsRow w.heap.size 96 3 (.slice (some ⟨w.heap.size,0,none⟩) n n) n (flat (iL n))):=by have:=HO.out;rw [List.take_of_length_le (by rw [HN.out];exact Nat.le_refl _),Nat.sub_self,List.replicate_zero,List.append_nil] at this;exact this
   go_wp2;go_ret;exact ⟨_,rfl,by rw [HN.out];exact HE.out,hb⟩
theorem Fo {cs:List Cl} {w w1 w2:World} {v:Value} (hb1:Below w.heap.size w w1) (hown:w2.ownsRow w1.heap.size 96 3 v cs.length (flat cs)) (hb2:Below w1.heap.size w1 w2) (err:Int):kH cs err w (.returned (.tuple #[v,.int .i64 err])) w2:=by obtain ⟨_,a2,cap2,rfl,hr2,hf2⟩:=jQ hown;exact ⟨a2,cap2,rfl,hr2,fun ad e=>⟨Nat.le_trans hb1.size (hf2 ad e).1,(hf2 ad e).2.2⟩,hb1.trans (hb2.mono hb1.size)⟩
theorem Le {d:Int} (h:qM d=0):∃ n:Nat,d=n∧n≤64:=by
 by_cases hd:d < 0∨64 < d
 ·simp [qM,hd] at h
 ·exact ⟨d.toNat,by omega,by omega⟩
theorem one_any (d:Int) (w:World) (c:Int) (hc:qM d=c) :
  Calls prog 130 #[.int .i64 d] w (kH (zU d) c w):=by
 have HC:=Lib.hid hc;by_cases h0:c=0
 ·subst h0;obtain ⟨n,rfl,hn⟩:=Le hc;have HR:=Lib.hid (show zU n=iL n by simp [zU,hc]);clear hc;go_enter func130,ntmps130;go_wp2_with (go_at_call 113;refine (lP _ _ 0 HC.out).mono ?_;rintro e w' ⟨rfl,rfl⟩);refine (T8 n _ hn).mono ?_;rintro e w2 ⟨v,rfl,hown,hb2⟩;have HO:=Lib.hid hown;clear hown;go_wp2;go_ret2;rw [HR.out];exact Fo (Below.refl _ _) HO.out hb2 0
 ·have HR:=Lib.hid (show zU d=[] by simp [zU,hc,h0]);have hne:(c != 0)=true:=by simpa using h0
  clear hc h0;go_enter func130,ntmps130;go_wp2_with (go_at_call 113;refine (lP _ _ c HC.out).mono ?_;rintro e w' ⟨rfl,rfl⟩);go_ret2;rw [HR.out];exact pL c (Below.refl _ _)
structure IsCells (w:World) (a:Option Addr) (len cap:Nat) (xs:List Cl):Prop where
 len:len=xs.length
 max:xs.length≤maxLen
 row:fA w a xs
 bits:Bits xs
end
section
open Go.RowKit Go.ChangeShapes Go.WideShapes Go.Deep
section
variable {H:Type} {enc:TypeId×Value→H} {w:World} {base:Nat} {spare:Nat→Bool} {held:Bool}
theorem De {cs:List Value} (h:cs.length=3):∃ a b c,cs=[a,b,c]:=by
 match cs,h with
 | [a,b,c],_=>exact ⟨a,b,c,rfl⟩
theorem Q7 {n:Nat} {cs:List Value} {x:DataW H×List MemPlace} (hl:cs.length=3) (h:DataW.trod enc prog w base spare held n 96 cs=some x) :
  ∃ c:Cl,c.f < 18446744073709551616∧cs=[.int .u64 (c.f:Int),.int .i64 c.k,.int .i64 c.v]:=by
 obtain ⟨xs,n',_,hx,_,hlen,hg⟩:=DataW.trod_struct underlying96 h;obtain ⟨a,b,c,rfl⟩:=De hl
 ·skip;have hlen3:xs.length=3:=hlen;have g0:=hg 0 _ rfl;have g1:=hg 1 _ rfl;have g2:=hg 2 _ rfl;rw [show prog.cellsOf _=1 by kernel_rfl,List.getElem?_eq_getElem (by omega)] at g0 g1 g2;obtain ⟨z0,e0,_,w0⟩:=DataW.trod_int underlying39 g0;obtain ⟨z1,e1,_,w1⟩:=DataW.trod_int (k:=.i64) (by kernel_rfl) g1;obtain ⟨z2,e2,_,w2⟩:=DataW.trod_int (k:=.i64) (by kernel_rfl) g2;simp at e0 e1 e2;subst e0 e1 e2;have hw:0≤z0∧z0≤18446744073709551615:=by simpa [Lit.wf,IntKind.signed,IntKind.bits,IntKind.min,IntKind.max] using w0
  exact ⟨⟨z0.toNat,z1,z2⟩,by show z0.toNat < _;omega,by simp;omega⟩
theorem Nu:∀ (n:Nat) (p:Nat→Cl→Prop),(∀ i,i < n→∃ c,p i c)→∃ xs:List Cl,xs.length=n∧∀ i c,xs[i]?=some c→p i c
 | 0,p,h=>⟨[],rfl,fun i c hi=>by simp at hi⟩
 | n+1,p,h=>by
  obtain ⟨xs,hl,hp⟩:=Nu n p (fun i hi=>h i (by omega));obtain ⟨c,hc⟩:=h n (by omega);refine ⟨xs++[c],by simp [hl],fun i d hi=>?_⟩;rcases Nat.lt_or_ge i n with h1 | h1
  ·rw [List.getElem?_append_left (by omega)] at hi;exact hp i d hi
  ·obtain ⟨h2,_⟩:=List.getElem?_eq_some_iff.1 hi;simp [hl] at h2;obtain rfl:i=n:=by omega
   rw [List.getElem?_append_right (by omega),hl,Nat.sub_self] at hi;simp at hi;subst hi;exact hc
theorem Lf {n:Nat} {a:Option Addr} {len cap:Nat} {x:DataW H×List MemPlace} (h:DataW.trod enc prog w base spare held n 43 [.slice a len cap]=some x) :
  ∃ xs,IsCells w a len cap xs:=by
 rcases open_slice underlying43 h with ⟨hcs,_⟩ | ⟨ad,len',cap',m,n',D,Pl,hcs,hb,hl,hm,hmm,hx,hi⟩
 ·simp at hcs;obtain ⟨rfl,rfl,rfl⟩:=hcs;exact ⟨[],rfl,by simp,.inl rfl,fun c hc=>by simp at hc⟩
 ·simp at hcs;obtain ⟨rfl,rfl,rfl⟩:=hcs;rw [show prog.cellsOf 96=3 by kernel_rfl] at hi;obtain ⟨xs,hxl,hxs⟩:=Nu len (fun i c=>c.f < 18446744073709551616∧w.cell? (ad.add (i * 3))=some (.int .u64 (c.f:Int))∧w.cell? (ad.add (i * 3+1))=some (.int .i64 c.k)∧w.cell? (ad.add (i * 3+2))=some (.int .i64 c.v)) (fun i hil=>by
   obtain ⟨cs',hc,ht⟩:=hi i (by rw [hmm];split<;>omega);obtain ⟨_,hcl,hat⟩:=World.cells?_some hc;obtain ⟨c,hf,rfl⟩:=Q7 hcl ht;have e0:=hat 0 (by omega);have e1:=hat 1 (by omega);have e2:=hat 2 (by omega);rw [add_add] at e0 e1 e2;exact ⟨c,hf,e0,e1,e2⟩)
  refine ⟨xs,hxl.symm,by omega,?_,fun c hc=>?_⟩
  ·rcases Nat.eq_zero_or_pos len with h0 | h0
   ·exact .inl (List.length_eq_zero_iff.1 (by omega))
   ·obtain ⟨b,off,spot⟩:=ad;obtain ⟨_,h1,_,_⟩:=hxs 0 (xs[0]'(by omega)) (List.getElem?_eq_getElem (by omega));have hspot:spot=none:=by simpa [Addr.add] using World.cell?_spot h1
    subst hspot;refine .inr ⟨b,off,rfl,fun i c hic=>?_⟩;have e:∀ k,({ block:=b,off:=off }:Addr).add k=⟨b,off+k,none⟩:=fun k=>by simp [Addr.add]
    have h3:=(hxs i c hic).2;rw [e,e,e,← Nat.add_assoc,← Nat.add_assoc] at h3;exact h3
  ·obtain ⟨i,hi',hic⟩:=List.mem_iff_getElem.1 hc;exact (hxs i c (by rw [← hic];exact List.getElem?_eq_getElem hi')).1
end
end
section
open Go.RowKit
def jR:Cl:=⟨0,2,0⟩
theorem iM {c:Cl} (h:c.ok):(∃ f,c=⟨f,0,0⟩)∨(∃ f v,c=⟨f,1,v⟩)∨c=jR:=by
 obtain ⟨f,k,v⟩:=c;obtain ⟨_,h⟩:=h;simp only at h;unfold eB at h;split at h
 ·rename_i h2;left;simp at h;subst h;subst h2;exact ⟨f,rfl⟩
 ·split at h
  ·rename_i h2;right;left;subst h2;exact ⟨f,v,rfl⟩
  ·split at h
   ·rename_i h2;right;right;subst h2;simp at h;obtain ⟨rfl,rfl⟩:=h;rfl
   ·cases h
theorem oR {a b:Cl} (ha:a.ok) (hb:b.ok):dX a b=dX b a:=by
 rcases iM ha with ⟨f,rfl⟩ | ⟨f,v,rfl⟩ | rfl<;>rcases iM hb with ⟨f2,rfl⟩ | ⟨f2,v2,rfl⟩ | rfl
 all_goals (try (simp [dX,joinK,dV,jR,Nat.or_comm];done))
 by_cases hv:v=v2
 ·subst hv;simp [dX,joinK,dV,Nat.or_comm]
 ·have hv2:¬ v2=v:=fun h=>hv h.symm
  simp [dX,joinK,dV,hv,hv2]
theorem wR {a:Cl} (ha:a.ok):dX a a=a:=by rcases iM ha with ⟨f,rfl⟩ | ⟨f,v,rfl⟩ | rfl<;>simp [dX,joinK,dV,jR]
theorem wS {a:Cl} (ha:a.ok):dX jR a=jR:=by rcases iM ha with ⟨f,rfl⟩ | ⟨f,v,rfl⟩ | rfl<;>simp [dX,joinK,dV,jR]
theorem fZ {a b c:Cl} (ha:a.ok) (hb:b.ok) (hc:c.ok):dX (dX a b) c=dX a (dX b c):=by
 rcases iM ha with ⟨f,rfl⟩ | ⟨f,v,rfl⟩ | rfl<;>rcases iM hb with ⟨f2,rfl⟩ | ⟨f2,v2,rfl⟩ | rfl<;>rcases iM hc with ⟨f3,rfl⟩ | ⟨f3,v3,rfl⟩ | rfl
 all_goals (try (simp [dX,joinK,dV,jR,Nat.or_assoc];done))
 all_goals (try (by_cases h1:v=v2<;>simp [dX,joinK,dV,jR,Nat.or_assoc,h1];done))
 all_goals (try (by_cases h1:v=v3<;>simp [dX,joinK,dV,jR,Nat.or_assoc,h1];done))
 all_goals (try (by_cases h1:v2=v3<;>simp [dX,joinK,dV,jR,Nat.or_assoc,h1];done))
 by_cases h1:v=v2
 ·subst h1;by_cases h2:v=v3<;>simp [dX,joinK,dV,jR,Nat.or_assoc,h2]
 ·by_cases h2:v2=v3
  ·subst h2;simp [dX,joinK,dV,h1]
  ·simp [dX,joinK,dV,h1,h2]
theorem zV {x a y b:Cl} (hx:x.ok) (ha:a.ok) (hy:y.ok) (hb:b.ok):dX (dX x a) (dX y b)=dX (dX x y) (dX a b):=by rw [fZ hx ha (nU hy hb),← fZ ha hy hb,oR ha hy,fZ hy ha hb,← fZ hx hy (nU ha hb)]
def Oks (xs:List Cl):Prop:=∀ (i:Nat) x,xs[i]?=some x→x.ok
theorem base_ok {c:Cl} (h:c.ok):(⟨0,c.k,c.v⟩:Cl).ok:=⟨by simp,qV h.2⟩
theorem Df {row:List Cl} (hr:Oks row) {x y:Cl} (hx:x.ok) (hy:y.ok):∀ n,kI row (dX x y) n=dX (kI row x n) (kI row y n)
 | 0=>by
  show (⟨0,(dX x y).k,(dX x y).v⟩:Cl)=dX ⟨0,x.k,x.v⟩ ⟨0,y.k,y.v⟩;simp [dX]
 | n+1=>by
  have ih:=Df hr hx hy n;have ox:=mL hx hr n;have oy:=mL hy hr n;have ob:=mL (nU hx hy) hr n;rcases hrow:row[n]? with _ | A
  ·simp only [iA,mF,hrow];split<;>split<;>split<;>exact ih
  ·have oA:=hr n A hrow;by_cases hm:joinK x.k x.v y.k y.v=2
   ·have hz:dX x y=jR:=by
     rcases iM (nU hx hy) with ⟨f,e⟩ | ⟨f,v,e⟩ | e
     ·have:=congrArg Cl.k e;simp [dX,hm] at this
     ·have:=congrArg Cl.k e;simp [dX,hm] at this
     ·exact e
    have hall:∀ m,kI row (dX x y) m=jR:=by intro m;rw [hz,oP (Nat.zero_le m) (fun i _ _=>by simp [jR])];rfl
    have e1:dX (kI row x n) (kI row y n)=jR:=by rw [← ih,hall n]
    rw [hall];simp only [iA,mF,hrow];split<;>split
    ·rw [zV ox oA oy oA,e1,wS (nU oA oA)]
    ·rw [oR ox oA,fZ oA ox oy,e1,oR oA (by rw [← e1];exact nU ox oy),wS oA]
    ·rw [← fZ ox oy oA,e1,wS oA]
    ·exact e1.symm
   ·have hf:(dX x y).f=x.f ||| y.f:=by simp [dX,hm]
    simp only [iA,mF,hrow,hf,Nat.testBit_or];rw [ih];cases hbx:x.f.testBit n<;>cases hby:y.f.testBit n<;>simp
    ·rw [fZ ox oy oA]
    ·rw [fZ ox oy oA,oR oy oA,← fZ ox oA oy]
    ·rw [zV ox oA oy oA,wR oA]
theorem T9 {row:List Cl} (hr:Oks row) {x y:Cl} (hx:x.ok) (hy:y.ok):ofC row (dX x y)=dX (ofC row x) (ofC row y):=Df hr hx hy _
theorem Dg {xs ys:List Cl} (hl:ys.length=xs.length) (hx:Oks xs) (hy:Oks ys) {c:Cl} (hc:c.ok):∀ n,kI (dA xs ys) c n=dX (kI xs c n) (kI ys c n)
 | 0=>(wR (base_ok hc)).symm
 | n+1=>by
  have ih:=Dg hl hx hy hc n;have o1:=mL hc hx n;have o2:=mL hc hy n;by_cases hn:n < xs.length
  ·have e1:xs[n]?=some xs[n]:=List.getElem?_eq_getElem hn;have e2:ys[n]?=some (ys[n]'(by omega)):=List.getElem?_eq_getElem (by omega);have e3:(dA xs ys)[n]?=some (dX xs[n] (ys[n]'(by omega))):=by simp [dA,List.getElem?_zipWith,e1,e2]
   simp only [iA,mF,e1,e2,e3];split
   ·rw [ih,zV o1 (hx n _ e1) o2 (hy n _ e2)]
   ·exact ih
  ·have e1:xs[n]?=none:=List.getElem?_eq_none (by omega);have e2:ys[n]?=none:=List.getElem?_eq_none (by omega);have e3:(dA xs ys)[n]?=none:=List.getElem?_eq_none (by simp [dA];omega);simp only [iA,mF,e1,e2,e3];split<;>exact ih
end
end Go.Proofs.YtbmieipifgailaaGreatDoor
