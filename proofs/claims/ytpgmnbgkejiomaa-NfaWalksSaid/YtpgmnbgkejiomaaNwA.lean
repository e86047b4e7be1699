import Derived.Orders
import Derived.Below
import Derived.Deep.RegionHeld
import Derived.WalkKit
import Derived.KernelRfl
import Derived.Laws.Rows
import Derived.Laws.AppendOwn
import Derived.Laws.Strings
import Derived.Laws.Small
import Derived.Lib.Hide
import Derived.IntWalk
import Derived.Laws.Tables
import Derived.Laws.Concat
import Derived.Laws.MakeOwn
import Derived.Lib.OwnBridge
import Derived.WideKeyEntry
import Derived.DeepKeys4
import Derived.Lib.AppendZeros
import Derived.Laws.IdiomStrings
import Derived.Lib.ItoaLen
import Derived.Lib.UnsafeStr
import Derived.Lib.AppendIntMem
import Derived.Laws.BytesArg
import Derived.Lib.SliceRun
import Derived.Test.YtpgmnbgkejiomaaProg
import Derived.Lib.TrailingZeros
import Derived.Test.YtpgmnbgkejiomaaRows
import Derived.Lib.LaidTab
import Derived.Lib.ItoaNum
import Derived.Stop.LaidErr
import Derived.WalkSmall
import Derived.LaidMore
import Derived.Shelf.Spec.TrailingZeros
import Derived.Laws.BitsAllLaws
import Derived.Laws.Bits64
import Derived.Deep.QuietTactic
import Derived.BigQuiet
import Derived.RegionTactic
import Derived.BigRegion
import Derived.Deep.RegionHeld3
import Derived.ChangeAlike
import Derived.Shelf.Strconv.Itoa0
import Derived.Shelf.Sort.Plain
import Derived.Shelf.Slices.In.SortNone
import Derived.Sort.Grow
import Derived.RangeFuncNested
import Derived.RangeFuncBound
import Derived.RangeFuncCalls
import Derived.RangeFuncLeaves
import Derived.Shelf.Abstract
import Derived.Shelf.RegionOpen
import Derived.OwnWalkIn
import Derived.TacticsInMore
import Derived.LoopNIn
import Derived.LoopIn
import Derived.Maps.AppendAt
import Derived.Deep.AppendLies
import Derived.Laws.Bits128
import Derived.Lib.OthersKept
import Derived.Laws.OwnMore
import Derived.OwnWalk
import Derived.Deep.RegionWith
import Derived.Laws.Bits64b
import Derived.WalkSpells
import Derived.Lib.Join
import Derived.StillTailTactics
import Derived.Deep.RegionLaw
import Derived.Deep.DeepCutAuto
import Derived.Deep.CutRange
import Derived.Deep.DrawnRows
set_option maxRecDepth 100000
set_option maxHeartbeats 4000000
set_option linter.unusedVariables false
set_option linter.unusedSimpArgs false
set_option linter.unusedSectionVars false
set_option linter.unnecessarySimpa false
namespace Go.Proofs.Ytpgmnbgkejiomaa
open Go.Proofs.Try
section
open Go.RowKit
def cB (ops:Array Oper) (t:Nat):Bool:=ops.all fun o=>o.dst != some t
def aN (ops:Array Oper) (i j d:Nat):Bool :=
 (match ops[i]? with | some o=>o.after.any fun e=>e.on == j && Region.binds .any e | none=>false) && (ops[j]?).bind (·.dst) == some d
def cS (ops:Array Oper) (n:Nat):Bool :=
 (List.range ops.size).all fun i=>match ops[i]? with
  | some o=>o.after.all (fun e => !Region.binds .any e || decide (e.on < i)) && (match o.dst with | some d=>decide (d < n) && (List.range ops.size).all (fun j=>j == i || (ops[j]?).bind (·.dst) != some d) | none=>true)
  | none=>true
section
variable {P:Program} {ops:Array Oper} {Q:Exit→Act→World→Prop} {t0:Array Value} {d0:List Deferred} {G:World→Prop} {I:Nat→Value→World→Prop}
structure RInv (ops:Array Oper) (t0:Array Value) (d0:List Deferred) (G:World→Prop) (I:Nat→Value→World→Prop) (L:Array Bool) (a:Act) (w:World):Prop where
 size:a.tmps.size=t0.size
 defers:a.defers=d0
 frame:∀ t,cB ops t=true→a.tmps.getD t undef=t0.getD t undef
 glob:G w
 done:∀ i d,(ops[i]?).bind (·.dst)=some d→L.getD i false=true→I i (a.tmps.getD d undef) w
def kU (P:Program) (ops:Array Oper) (Q:Exit→Act→World→Prop) (t0:Array Value) (G:World→Prop) (I:Nat→Value→World→Prop) (i:Nat):Prop :=
 ∀ (a:Act) (w:World),(∀ t,cB ops t=true→a.eval (.tmp t)=t0.getD t undef)→G w→(∀ j d,aN ops i j d=true→I j (a.eval (.tmp d)) w) →
  wpOp P ops Q i (fun a' w'=>(∃ v,a'=a.put ((ops[i]?).bind (·.dst)) v∧(∀ d,(ops[i]?).bind (·.dst)=some d→I i v w'))∧G w'∧Below w.heap.size w w') a w
def RFin (ops:Array Oper) (t0:Array Value) (d0:List Deferred) (G:World→Prop) (I:Nat→Value→World→Prop) (n:Nat) (R:Act→World→Prop):Prop :=
 ∀ (a:Act) (w:World),a.tmps.size=t0.size→a.defers=d0→(∀ t,cB ops t=true→a.tmps.getD t undef=t0.getD t undef)→G w →
  (∀ i d,i < n→(ops[i]?).bind (·.dst)=some d→I i (a.tmps.getD d undef) w)→R a w
theorem eJ:∀ (l:List Bool) (i:Nat),l[i]?=some false→(l.set i true).count false+1=l.count false
 | [],_,h=>by simp at h
 | b::l,0,h=>by simp at h;subst h;simp
 | b::l,i+1,h=>by
  have:=eJ l i (by simpa using h)
  cases b<;>simp<;>omega
theorem eZ {n i:Nat} {o:Oper} (h:cS ops n=true) (ho:ops[i]?=some o):∀ e∈o.after,Region.binds .any e=true→e.on < i:=fun e he hb=>by
 have hi:i < ops.size:=(Array.getElem?_eq_some_iff.1 ho).1
 have h1:=(List.all_eq_true.1 h) i (List.mem_range.2 hi)
 simp only [ho,Bool.and_eq_true] at h1
 have h2:=Array.all_eq_true'.1 h1.1 e he
 simp [hb] at h2
 exact h2
theorem dT {n i d:Nat} (h:cS ops n=true) (hd:(ops[i]?).bind (·.dst)=some d):d < n∧∀ j,(ops[j]?).bind (·.dst)=some d→j=i:=by
 obtain ⟨o,ho,hd⟩:=Option.bind_eq_some_iff.1 hd
 have hi:i < ops.size:=(Array.getElem?_eq_some_iff.1 ho).1
 have h1:=(List.all_eq_true.1 h) i (List.mem_range.2 hi)
 simp only [ho,hd,Bool.and_eq_true,decide_eq_true_eq] at h1
 refine ⟨h1.2.1,fun j hj=>?_⟩
 have hjs:j < ops.size:=by
  obtain ⟨o',ho',_⟩:=Option.bind_eq_some_iff.1 hj
  exact (Array.getElem?_eq_some_iff.1 ho').1
 have h2:=(List.all_eq_true.1 h1.2.2) j (List.mem_range.2 hjs)
 rw [Bool.or_eq_true] at h2
 rcases h2 with h2 | h2
 ·simpa using h2
 ·simp only [bne_iff_ne,ne_eq] at h2
  exact absurd hj h2
theorem eT {n:Nat} {L:Array Bool} (h:cS ops n=true) (hs:L.size=ops.size) (hr:Region.ready .any ops L=[]):∀ i,i < ops.size→L.getD i true=true:=by
 intro i
 induction i using Nat.strongRecOn with
 | _ i ih =>
 intro hi
 cases hL:L.getD i true with
 | true=>rfl
 | false =>
  obtain ⟨o,ho⟩:∃ o,ops[i]?=some o:=⟨ops[i],Array.getElem?_eq_getElem hi⟩
  have:i∈Region.ready .any ops L:=mem_ready.2 ⟨hL,o,ho,fun e he hb=>by
   have hlt:=eZ h ho e he hb
   have h3:=ih e.on hlt (by omega)
   rw [Array.getD_eq_getD_getElem?] at h3 ⊢
   have hes:e.on < L.size:=by omega
   rw [Array.getElem?_eq_getElem hes] at h3 ⊢
   simpa using h3⟩
  rw [hr] at this
  cases this
theorem jO {a:Act} {o:Option Nat} {v:Value} {d:Nat} (hd:o=some d) (hs:d < a.tmps.size):(a.put o v).tmps.getD d undef=v:=by
 subst hd
 simp [Act.put,hs]
theorem dD {a:Act} {o:Option Nat} {v:Value} {t:Nat} (hd:o≠some t):(a.put o v).tmps.getD t undef=a.tmps.getD t undef:=by
 cases o with
 | none=>rfl
 | some d =>
  have:d≠t:=fun e=>hd (by rw [e])
  simp only [Act.put,Array.getD_eq_getD_getElem?]
  rw [Array.getElem?_setIfInBounds_ne this]
theorem fM {a:Act} {o:Option Nat} {v:Value}:(a.put o v).tmps.size=a.tmps.size:=by cases o<;>simp [Act.put]
theorem eF {a:Act} {o:Option Nat} {v:Value}:(a.put o v).defers=a.defers:=by cases o<;>rfl
theorem RInv.next {L:Array Bool} {a:Act} {w w':World} {i:Nat} {v:Value} (h:RInv ops t0 d0 G I L a w) (ht:cS ops t0.size=true) (hi:L.getD i true=false)
  (hst:∀ i v w w',G w→I i v w→Below w.heap.size w w'→I i v w') (hI:∀ d,(ops[i]?).bind (·.dst)=some d→I i v w') (hG:G w') (hB:Below w.heap.size w w') :
  RInv ops t0 d0 G I (L.setIfInBounds i true) (a.put ((ops[i]?).bind (·.dst)) v) w' where
 size:=by rw [fM];exact h.size
 defers:=by rw [eF];exact h.defers
 frame:=fun t hf=>by
  rw [dD ?_]
  ·exact h.frame t hf
  ·intro hd
   obtain ⟨o,ho,hd⟩:=Option.bind_eq_some_iff.1 hd
   have:=Array.all_eq_true'.1 hf o (Array.mem_of_getElem? ho)
   simp [hd] at this
 glob:=hG
 done:=fun j d hd hj=>by
  by_cases hji:j=i
  ·subst hji
   rw [jO hd (by rw [h.size];exact (dT ht hd).1)]
   exact hI d hd
  ·rw [getD_set_ne false (Ne.symm hji)] at hj
   rw [dD (fun e=>hji ((dT ht e).2 j hd))]
   exact hst _ _ _ _ h.glob (h.done j d hd hj) hB
theorem RInv.deps {L:Array Bool} {a:Act} {w:World} {i:Nat} (h:RInv ops t0 d0 G I L a w) (hi:i∈Region.ready .any ops L):∀ j d,aN ops i j d=true→I j (a.eval (.tmp d)) w:=fun j d hw=>by
 obtain ⟨_,o,ho,hall⟩:=mem_ready.1 hi
 simp only [aN,ho,Bool.and_eq_true,beq_iff_eq] at hw
 obtain ⟨e,he,h1⟩:=Array.any_eq_true'.1 hw.1
 simp only [Bool.and_eq_true,beq_iff_eq] at h1
 have:=hall e he h1.2
 rw [h1.1] at this
 exact h.done j d hw.2 this
theorem RInv.frameE {L:Array Bool} {a:Act} {w:World} (h:RInv ops t0 d0 G I L a w):∀ t,cB ops t=true→a.eval (.tmp t)=t0.getD t undef:=fun t ht=>h.frame t ht
theorem nB (ht:cS ops t0.size=true) (hst:∀ i v w w',G w→I i v w→Below w.heap.size w w'→I i v w')
  (hstep:∀ i,i < ops.size→kU P ops Q t0 G I i) (hfin:RFin ops t0 d0 G I ops.size (Q .normal)) :
  ∀ (fuel:Nat) (L:Array Bool) (a:Act) (w:World),L.size=ops.size→L.toList.count false≤fuel→RInv ops t0 d0 G I L a w→wpAny P .any ops Q fuel L a w:=by
 have fin:∀ (L:Array Bool) (a:Act) (w:World),(∀ i,i < ops.size→L.getD i true=true)→L.size=ops.size→RInv ops t0 d0 G I L a w→Q .normal a w:=fun L a w hall hs h =>
  hfin a w h.size h.defers h.frame h.glob fun i d hi hd=>h.done i d hd (by
   have:=hall i hi
   rw [Array.getD_eq_getD_getElem?] at this ⊢
   rw [Array.getElem?_eq_getElem (by omega)] at this ⊢
   simpa using this)
 intro fuel
 induction fuel with
 | zero =>
  intro L a w hs hc h
  have hall:∀ i,i < ops.size→L.getD i true=true:=fun i hi=>by
   have hn:false∉L.toList:=List.count_eq_zero.1 (by omega)
   cases hL:L.getD i true with
   | true=>rfl
   | false =>
    rw [Array.getD_eq_getD_getElem?,Array.getElem?_eq_getElem (by omega)] at hL
    exact absurd (by rw [← show L[i]=false by simpa using hL];exact Array.mem_toList_iff.2 (Array.getElem_mem _)) hn
  refine ⟨?_,fin L a w hall hs h⟩
  cases hr:Region.ready .any ops L with
  | nil=>rfl
  | cons i rest =>
   have hi:i∈Region.ready .any ops L:=by rw [hr];exact List.mem_cons_self
   obtain ⟨h1,o,ho,_⟩:=mem_ready.1 hi
   rw [hall i (Array.getElem?_eq_some_iff.1 ho).1] at h1
   cases h1
 | succ fuel ih =>
  intro L a w hs hc h
  refine ⟨fun hr=>fin L a w (eT ht hs hr) hs h,fun i hi=>?_⟩
  obtain ⟨h1,o,ho,_⟩:=mem_ready.1 hi
  have his:i < ops.size:=(Array.getElem?_eq_some_iff.1 ho).1
  refine wpOp_mono ?_ (hstep i his a w h.frameE h.glob (h.deps hi))
  rintro a' w' ⟨⟨v,rfl,hI⟩,hG,hB⟩
  refine ih _ _ _ (by simpa using hs) ?_ (h.next ht h1 hst hI hG hB)
  have:L.toList[i]?=some false:=by
   rw [Array.getD_eq_getD_getElem?,Array.getElem?_eq_getElem (by omega)] at h1
   rw [Array.getElem?_toList,Array.getElem?_eq_getElem (by omega)]
   simpa using h1
  have:=eJ _ _ this
  rw [Array.toList_setIfInBounds]
  omega
theorem rH {a:Act} {w:World} (hG:G w):RInv ops a.tmps a.defers G I (Array.replicate ops.size false) a w where
 size:=rfl
 defers:=rfl
 frame:=fun _ _=>rfl
 glob:=hG
 done:=fun i d _ h=>by
  rw [Array.getD_eq_getD_getElem?,Array.getElem?_replicate] at h
  split at h<;>simp at h
theorem eU (n:Nat):(Array.replicate n false).toList.count false≤n:=by
 rw [Array.toList_replicate,List.count_replicate_self];exact Nat.le_refl _
theorem kL {id:Nat} {a:Act} {w:World} (hm:P.follows .mixedOrders=true) (G:World→Prop) (I:Nat→Value→World→Prop) (hG:G w.drew)
  (ht:cS ops a.tmps.size=true) (hst:∀ i v w w',G w→I i v w→Below w.heap.size w w'→I i v w')
  (hstep:∀ i,i < ops.size→kU P ops Q a.tmps G I i) (hfin:RFin ops a.tmps a.defers G I ops.size (Q .normal)):(Code.region id ops true).wp P Q a w :=
 wp_region_any hm (nB ht hst hstep hfin _ _ _ _ (by simp) (eU _) (rH hG))
theorem fN {o:Oper} {y:Nat→Option Bool} (h:o.guard=none):Region.wanted o y=true:=by simp [Region.wanted,h]
theorem dU {a:Act} {o:Oper} {g d:Nat} {b c:Bool} (h:o.guard=some (g,b)) (hd:(ops[g]?).bind (·.dst)=some d) (hv:a.eval (.tmp d) = .bool c):Region.wanted o (yielded ops a.tmps)=(c == b):=by
 have h1:a.tmps[d]?=some (.bool c):=by
  simp only [Act.eval,Array.getD_eq_getD_getElem?] at hv
  cases hx:a.tmps[d]? with
  | none=>rw [hx] at hv;simp [undef] at hv
  | some x=>rw [hx] at hv;simpa using hv
 simp [Region.wanted,h,yielded,hd,h1]
theorem kU.value {i:Nat} {o:Oper} (hi:ops[i]?=some o)
  (h:∀ (a:Act) (w:World),(∀ t,cB ops t=true→a.eval (.tmp t)=t0.getD t undef)→G w→(∀ j d,aN ops i j d=true→I j (a.eval (.tmp d)) w) →
   Region.wanted o (yielded ops a.tmps)=true∧∃ v w',(execOp a.eval o).run P w = .ok (.value v) w'∧I i v w'∧G w'∧Below w.heap.size w w'):kU P ops Q t0 G I i:=fun a w hF hG hD=>by
 obtain ⟨hw,v,w',hr,hI,hG',hB⟩:=h a w hF hG hD
 unfold wpOp
 simp only [hi,hw,if_true]
 refine .inl ?_
 unfold Oper.wp
 rw [hr]
 exact ⟨⟨v,by simp,fun _ _=>hI⟩,hG',hB⟩
end
abbrev Asr:=Value→World→Prop
def isV (c:Value):Asr:=fun v _=>v=c
def atI:List Asr→Nat→Asr
 | [],_=>fun _ _=>True
 | p::_,0=>p
 | _::l,n+1=>atI l n
def nC (p:Asr):Prop:=∀ v w w',p v w→Below w.heap.size w w'→p v w'
def mD:List Asr→Prop
 | []=>True
 | p::l=>nC p∧mD l
theorem dA (c:Value):nC (isV c):=fun _ _ _ h _=>h
theorem mE:∀ {L:List Asr},mD L→∀ i v w w',atI L i v w→Below w.heap.size w w'→atI L i v w'
 | [],_,_,_,_,_,_,_=>trivial
 | p::l,h,0,v,w,w',hp,hb=>h.1 v w w' hp hb
 | p::l,h,i+1,v,w,w',hp,hb=>mE h.2 i v w w' hp hb
def jG (p:Nat→Prop):Nat→Nat→Prop
 | 0,_=>True
 | n+1,k=>p k∧jG p n (k+1)
theorem jP {p:Nat→Prop}:∀ {n k:Nat},jG p n k→∀ i,i < n→p (k+i)
 | n+1,k,h,0,_=>h.1
 | n+1,k,h,i+1,hi=>by
  have:=jP h.2 i (by omega)
  rwa [show k+1+i=k+(i+1) by omega] at this
section
variable {P:Program} {ops:Array Oper} {Q:Exit→Act→World→Prop} {t0:Array Value} {d0:List Deferred} {L:List Asr} {w0:World} {i:Nat} {o:Oper} {p q r:Asr} {x y z:Operand}
abbrev RS (P:Program) (ops:Array Oper) (Q:Exit→Act→World→Prop) (t0:Array Value) (w0:World) (L:List Asr) (i:Nat):Prop:=kU P ops Q t0 (fun w=>Below w0.heap.size w0 w) (atI L) i
theorem jD {id:Nat} {a:Act} {w:World} (hm:P.follows .mixedOrders=true) (L:List Asr) (ht:cS ops a.tmps.size=true) (hst:mD L)
  (hstep:jG (RS P ops Q a.tmps w L) ops.size 0) (hfin:RFin ops a.tmps a.defers (fun w'=>Below w.heap.size w w') (atI L) ops.size (Q .normal)):(Code.region id ops true).wp P Q a w :=
 kL hm _ (atI L) ((Below.refl _ _).drew) ht (fun i v w w' _ h hb=>mE hst i v w w' h hb) (fun i hi=>by have:=jP hstep i hi;rwa [Nat.zero_add] at this) hfin
def iY (ops:Array Oper) (L:List Asr) (i:Nat) (o:Oper):Prop :=
 o.guard=none∨∃ g b d,o.guard=some (g,b)∧(ops[g]?).bind (·.dst)=some d∧aN ops i g d=true∧atI L g=isV (.bool b)
theorem iY.yes {a:Act} {w:World} (h:iY ops L i o) (hD:∀ j d,aN ops i j d=true→atI L j (a.eval (.tmp d)) w):Region.wanted o (yielded ops a.tmps)=true:=by
 rcases h with h | ⟨g,b,d,h,hd,hw,hL⟩
 ·exact fN h
 ·have:=hD g d hw
  rw [hL] at this
  rw [dU h hd this];simp
def OpI (ops:Array Oper) (t0:Array Value) (L:List Asr) (i:Nat) (x:Operand) (p:Asr):Prop :=
 ∀ (a:Act) (w:World),(∀ t,cB ops t=true→a.eval (.tmp t)=t0.getD t undef)→(∀ j d,aN ops i j d=true→atI L j (a.eval (.tmp d)) w)→p (a.eval x) w
theorem opF {t:Nat} {v:Value} (hf:cB ops t=true) (hv:t0.getD t undef=v):OpI ops t0 L i (.tmp t) (isV v):=fun a w hF _=>(hF t hf).trans hv
theorem opD (j t:Nat) (hw:aN ops i j t=true) (hL:atI L j=p):OpI ops t0 L i (.tmp t) p:=fun a w _ hD=>hL▸hD j t hw
theorem rI (hi:ops[i]?=some o) (hw:iY ops L i o)
  (h:∀ (a:Act) (w:World),(∀ t,cB ops t=true→a.eval (.tmp t)=t0.getD t undef)→Below w0.heap.size w0 w→(∀ j d,aN ops i j d=true→atI L j (a.eval (.tmp d)) w) →
   ∃ v w',(execOp a.eval o).run P w = .ok (.value v) w'∧atI L i v w'∧Below w.heap.size w w'):RS P ops Q t0 w0 L i :=
 kU.value hi fun a w hF hG hD=>by
  obtain ⟨v,w',h1,h2,h3⟩:=h a w hF hG hD
  exact ⟨hw.yes hD,v,w',h1,h2,hG.trans (h3.mono hG.size),h3⟩
def aZ (P:Program) (f:FuncId):Bool:=match P.funcs[f]? with | some fn=>fn.body.isSome && !(fn.name == "runtime.NumGoroutine") | none=>false
theorem jQ (P:Program) (ev:Operand→Value) (w:World) (f:FuncId) (args:Array Operand) (ts:Array TypeId) (o:Oper) (h:o.op = .call { callee:=.value (.func f),args:=args,argTypes:=ts }) (hf:ev (.func f) = .func (.func f) #[] #[]) (hb:aZ P f=true):(execOp ev o).run P w = .ok (.enter f (args.map ev)) w:=by
 unfold aZ at hb
 cases hx:P.funcs[f]? with
 | none=>rw [hx] at hb;cases hb
 | some fn =>
  rw [hx] at hb
  simp only [Bool.and_eq_true,Bool.not_eq_true',beq_eq_false_iff_ne,ne_eq] at hb
  obtain ⟨c,hc⟩:=Option.isSome_iff_exists.1 hb.1
  unfold execOp;simp only [h];simp [go_sem,resolve,hf,callFunc,hx,hc,hb.2]
end
abbrev Fr:=List (Nat×Value)
def look:Fr→Nat→Option Value
 | [],_=>none
 | p::l,t=>bif Nat.beq p.1 t then some p.2 else look l t
structure Has (n:Nat) (l:Fr) (a:Act):Prop where
 size:a.tmps.size=n
 defers:a.defers=[]
 at_:∀ t v,look l t=some v→a.tmps.getD t undef=v
theorem Has.put {n:Nat} {l:Fr} {a:Act} {d:Nat} {v:Value} (h:Has n l a) (hd:Nat.blt d n=true):Has n ((d,v)::l) (a.put (some d) v):=by
 have hd':d < n:=Nat.le_of_ble_eq_true hd
 refine ⟨by rw [fM];exact h.size,by rw [eF];exact h.defers,fun t u hu=>?_⟩
 unfold look at hu
 cases hb:Nat.beq d t with
 | true =>
  have:d=t:=Nat.eq_of_beq_eq_true hb
  subst this
  simp only [hb,cond_true,Option.some.injEq] at hu
  rw [jO rfl (by rw [h.size];exact hd')];exact hu
 | false =>
  simp only [hb,cond_false] at hu
  have hne:d≠t:=fun e=>by subst e;rw [Nat.beq_refl] at hb;cases hb
  rw [dD (fun e=>hne (Option.some.inj e))]
  exact h.at_ t u hu
def evL (l:Fr):Operand→Option Value
 | .tmp t=>look l t
 | .const v=>some v
 | .global g=>some (.pointer (some ⟨g,0,none⟩))
 | .func f=>some (.func (.func f) #[] #[])
theorem Has.ev {n:Nat} {l:Fr} {a:Act} (h:Has n l a):∀ x v,evL l x=some v→a.eval x=v:=by
 intro x v hx
 cases x with
 | tmp t=>exact h.at_ t v hx
 | const u=>exact Option.some.inj hx
 | global g=>exact Option.some.inj hx
 | func f=>exact Option.some.inj hx
def nD (l:Fr):Fr→Prop
 | []=>True
 | p::r=>look l p.1=some p.2∧nD l r
theorem nD.at_ {l:Fr}:∀ {r:Fr},nD l r→∀ t v,look r t=some v→look l t=some v
 | [],_,t,v,h=>by cases h
 | p::r,h,t,v,hv=>by
  unfold look at hv
  cases hb:Nat.beq p.1 t with
  | true =>
   simp only [hb,cond_true,Option.some.injEq] at hv
   rw [← Nat.eq_of_beq_eq_true hb,← hv];exact h.1
  | false =>
   simp only [hb,cond_false] at hv
   exact nD.at_ h.2 t v hv
theorem Has.sub {n:Nat} {l r:Fr} {a:Act} (h:Has n l a) (hs:nD l r):Has n r a:=⟨h.size,h.defers,fun t v hv=>h.at_ t v (hs.at_ t v hv)⟩
def mF:Nat→List Value→Fr
 | _,[]=>[]
 | i,v::r=>(i,v)::mF (i+1) r
theorem mG:∀ (r:List Value) (i t:Nat) (v:Value),look (mF i r) t=some v→i≤t∧r[t - i]?=some v
 | [],_,_,_,h=>by cases h
 | u::r,i,t,v,h=>by
  unfold mF look at h
  cases hb:Nat.beq i t with
  | true =>
   have:i=t:=Nat.eq_of_beq_eq_true hb
   subst this
   simp only [hb,cond_true,Option.some.injEq] at h
   simp [h]
  | false =>
   simp only [hb,cond_false] at h
   have hne:i≠t:=fun e=>by subst e;rw [Nat.beq_refl] at hb;cases hb
   obtain ⟨h1,h2⟩:=mG r (i+1) t v h
   exact ⟨by omega,by rw [show t - i=(t - (i+1))+1 by omega];exact h2⟩
theorem has_par {n:Nat} {args:List Value} (hn:Nat.ble args.length n=true):Has n (mF 0 args) { tmps:=args.toArray++Array.replicate (n - args.toArray.size) undef,defers:=[] }:=by
 have hn':args.length≤n:=Nat.le_of_ble_eq_true hn
 refine ⟨by simp;omega,rfl,fun t v h=>?_⟩
 obtain ⟨_,h2⟩:=mG _ _ _ _ h
 have ht:t < args.length:=(List.getElem?_eq_some_iff.1 h2).1
 simp only [Array.getD_eq_getD_getElem?]
 rw [Array.getElem?_append_left (by simpa using ht)]
 simp only [Nat.sub_zero] at h2
 simp [h2]
section
variable {P:Program} {n:Nat} {Q:Exit→Act→World→Prop} {l:Fr} {W:World} {ops:Array Oper} {os:List Oper}
def cQ (P:Program) (n:Nat) (c:Code) (Q:Exit→Act→World→Prop) (l:Fr) (W:World):Prop:=∀ a,Has n l a→c.wp P Q a W
def aT (P:Program) (n:Nat) (ops:Array Oper) (Q:Exit→Act→World→Prop) (os:List Oper) (l:Fr) (W:World):Prop:=∀ a,Has n l a→wpList P ops Q os a W
def XF (Q:Exit→Act→World→Prop) (e:Exit) (n:Nat) (l:Fr) (W:World):Prop:=∀ a,Has n l a→Q e a W
theorem bD {f:FuncId} {fn:Func} {c:Code} {args:List Value} {R:Ending→World→Prop} (hf:P.funcs[f]?=some fn) (hb:fn.body=some c) (hn:fn.ntmps=n) (hl:Nat.ble args.length n=true)
  (h:cQ P n c (bodyPost P fn R) (mF 0 args) W):Calls P f args.toArray W R :=
 calls_of_wp hf hb (by subst hn;exact h _ (has_par hl))
theorem aC {x y:Code} (h:cQ P n x (Exit.then (y.wp P Q) Q) l W):cQ P n (.seq x y) Q l W:=fun a ha=>wp_seq (h a ha)
theorem aO (h:XF Q .normal n l W):cQ P n .skip Q l W:=fun a ha=>wp_skip (h a ha)
theorem bS {i:Nat} (h:XF Q (.exit i) n l W):cQ P n (.exit i) Q l W:=fun a ha=>wp_exit (h a ha)
theorem bK (h:XF Q .ret n l W):cQ P n .ret Q l W:=fun a ha=>wp_ret (h a ha)
theorem aL {i:Nat} {c:Code} (h:cQ P n c (Exit.inBlock i Q) l W):cQ P n (.block i c) Q l W:=fun a ha=>wp_block (h a ha)
theorem bA {c:Operand} {x y:Code} {b:Bool} (hc:evL l c=some (.bool b)) (ht:b=true→cQ P n x Q l W) (hf:b=false→cQ P n y Q l W):cQ P n (.cond c x y) Q l W :=
 fun a ha=>wp_cond_split (t:=b) (ha.ev _ _ hc) (fun e=>ht e a ha) (fun e=>hf e a ha)
theorem cT {c:Operand} {x y:Code} (hc:evL l c=some (.bool true)) (h:cQ P n x Q l W):cQ P n (.cond c x y) Q l W:=fun a ha=>wp_cond_true (ha.ev _ _ hc) (h a ha)
theorem bT {c:Operand} {x y:Code} (hc:evL l c=some (.bool false)) (h:cQ P n y Q l W):cQ P n (.cond c x y) Q l W:=fun a ha=>wp_cond_false (ha.ev _ _ hc) (h a ha)
theorem aG {id:Nat} (h:aT P n os.toArray Q os l W):cQ P n (.region id os.toArray false) Q l W:=fun a ha=>wp_region_lit (h a ha)
theorem cD {c:Code} (I:Nat→Fr→World→Prop) (m0:Nat) (l0:Fr) (hs:nD l l0) (h0:I m0 l0 W)
  (round:∀ m l W,I m l W→cQ P n c (Exit.then (fun a' w'=>∃ m' l',m' < m∧I m' l' w'∧Has n l' a') Q) l W):cQ P n (.loop c) Q l W:=fun a ha=>by
 intro b k cs
 have key:∀ m l W a,I m l W→Has n l a→∃ e a' w',Q e a' w'∧Arrives P (lone (b.at a (.code c :: .inLoop c::k)) cs W) b k cs e a' w':=by
  intro m
  induction m using Nat.strongRecOn with
  | _ m ih =>
   intro l W a hI ha
   obtain ⟨e,a₁,w₁,hq,harr⟩:=round m l W hI a ha b (.inLoop c::k) cs
   cases e with
   | normal =>
    obtain ⟨m',l',hlt,hI₁,ha₁⟩:=hq
    obtain ⟨e₂,a₂,w₂,hq₂,harr₂⟩:=ih m' hlt l' w₁ a₁ hI₁ ha₁
    exact ⟨e₂,a₂,w₂,hq₂,.of_steps (Steps.trans harr (.one step_inLoop)) harr₂⟩
   | exit id=>exact ⟨_,a₁,w₁,hq,.pass (x:=.inLoop c) rfl (fun _ _=>.inl (by simp)) harr⟩
   | goto l=>exact ⟨_,a₁,w₁,hq,.pass (x:=.inLoop c) rfl (fun _ _=>.inl (by simp)) harr⟩
   | ret=>exact ⟨_,a₁,w₁,hq,.pass (x:=.inLoop c) rfl (fun _ _=>.inl (by simp)) harr⟩
   | panic ch=>exact ⟨_,a₁,w₁,hq,.pass (x:=.inLoop c) rfl (fun _ _=>.inl (by simp)) harr⟩
   | outgrown=>exact ⟨_,a₁,w₁,hq,.pass (x:=.inLoop c) rfl (fun _ _=>.inl (by simp)) harr⟩
 obtain ⟨e,a',w',hq,harr⟩:=key m0 l0 W a h0 (ha.sub hs)
 exact ⟨e,a',w',hq,.of_steps (.one step_loop) harr⟩
theorem XF.thenN {y:Code} (h:cQ P n y Q l W):XF (Exit.then (y.wp P Q) Q) .normal n l W:=fun a ha=>h a ha
theorem XF.thenX {i:Nat} {K:Act→World→Prop} (h:XF Q (.exit i) n l W):XF (Exit.then K Q) (.exit i) n l W:=fun a ha=>h a ha
theorem XF.thenR {K:Act→World→Prop} (h:XF Q .ret n l W):XF (Exit.then K Q) .ret n l W:=fun a ha=>h a ha
theorem XF.blkN {i:Nat} (h:XF Q .normal n l W):XF (Exit.inBlock i Q) .normal n l W:=fun a ha=>h a ha
theorem XF.blkR {i:Nat} (h:XF Q .ret n l W):XF (Exit.inBlock i Q) .ret n l W:=fun a ha=>h a ha
theorem XF.blkX {i:Nat} (h:XF Q .normal n l W):XF (Exit.inBlock i Q) (.exit i) n l W:=fun a ha=>by show (if i=i then Q .normal a W else Q (.exit i) a W);rw [if_pos rfl];exact h a ha
theorem XF.blkO {i j:Nat} (hne:Nat.beq j i=false) (h:XF Q (.exit j) n l W):XF (Exit.inBlock i Q) (.exit j) n l W:=fun a ha=>by
 show (if j=i then Q .normal a W else Q (.exit j) a W)
 rw [if_neg (fun e=>by subst e;rw [Nat.beq_refl] at hne;cases hne)];exact h a ha
theorem XF.round {I:Nat→Fr→World→Prop} {m:Nat} (m':Nat) (l':Fr) (hm:m' < m) (hs:nD l l') (hI:I m' l' W):XF (Exit.then (fun a' w'=>∃ m' l',m' < m∧I m' l' w'∧Has n l' a') Q) .normal n l W :=
 fun a ha=>⟨m',l',hm,hI,ha.sub hs⟩
theorem aF (h:XF Q .normal n l W):aT P n ops Q [] l W:=fun a ha=>h a ha
theorem XF.res {fn:Func} {R:Ending→World→Prop} {v:Value} (hr:∀ a,Has n l a→(results fn a.tmps).run P W = .ok v W) (hR:R (.returned v) W):XF (bodyPost P fn R) .ret n l W :=
 fun a ha=>⟨ha.defers,v,hr a ha,hR⟩
theorem XF.resN {fn:Func} {R:Ending→World→Prop} {v:Value} (hr:∀ a,Has n l a→(results fn a.tmps).run P W = .ok v W) (hR:R (.returned v) W):XF (bodyPost P fn R) .normal n l W :=
 fun a ha=>⟨ha.defers,v,hr a ha,hR⟩
theorem bY {fn:Func} {t:Nat} {v:Value} (hf:fn.results=#[.tmp t]) (hv:look l t=some v):∀ a,Has n l a→(results fn a.tmps).run P W = .ok v W :=
 fun a ha=>by rw [results_tmp hf,ha.at_ t v hv]
theorem kM {fn:Func} {t u:Nat} {v x:Value} (hf:fn.results=#[.tmp t,.tmp u]) (hv:look l t=some v) (hx:look l u=some x):∀ a,Has n l a→(results fn a.tmps).run P W = .ok (.tuple #[v,x]) W :=
 fun a ha=>by rw [results_tmp2 hf,ha.at_ t v hv,ha.at_ u x hx]
theorem lD {fn:Func} (hf:fn.results=#[]):∀ a,Has n l a→(results fn a.tmps).run P W = .ok (.tuple #[]) W :=
 fun a ha=>by rw [results_none hf]
theorem aD {dst:Option Tmp} {op:Op} {ty:TypeId} {pos:String} {aft:Array Edge} {g d:Nat} {b:Bool} (hd:(ops[g]?).bind (·.dst)=some d) (hv:look l d=some (.bool b))
  (h:aT P n ops Q (⟨dst,op,ty,pos,aft,none⟩::os) l W):aT P n ops Q (⟨dst,op,ty,pos,aft,some (g,b)⟩::os) l W:=fun a ha=>by
 have h1:=h a ha
 have hw:Region.wanted ⟨dst,op,ty,pos,aft,some (g,b)⟩ (yielded ops a.tmps)=true:=by
  rw [dU (ops:=ops) rfl hd (ha.at_ d _ hv)];simp
 unfold wpList at h1 ⊢
 rw [hw]
 rw [show Region.wanted ⟨dst,op,ty,pos,aft,none⟩ (yielded ops a.tmps)=true from rfl] at h1
 exact h1
theorem aJ {dst:Nat} {op:Op} {ty:TypeId} {pos:String} {aft:Array Edge} {g d:Nat} {b c:Bool} (hd:(ops[g]?).bind (·.dst)=some d) (hv:look l d=some (.bool c)) (hc:(c == b)=false) (hn:Nat.blt dst n=true)
  (h:aT P n ops Q os ((dst,undef)::l) W):aT P n ops Q (⟨some dst,op,ty,pos,aft,some (g,b)⟩::os) l W:=fun a ha=>by
 have hw:Region.wanted ⟨some dst,op,ty,pos,aft,some (g,b)⟩ (yielded ops a.tmps)=false:=by
  rw [dU (ops:=ops) rfl hd (ha.at_ d _ hv)];exact hc
 unfold wpList
 rw [hw]
 exact h _ (ha.put hn)
theorem bM {d:Nat} {b:Bool} (hv:look l d=some (.bool b)) (ht:b=true→aT P n ops Q os ((d,.bool true)::l) W) (hf:b=false→aT P n ops Q os ((d,.bool false)::l) W):aT P n ops Q os l W:=fun a ha=>by
 have hb:=ha.at_ d _ hv
 have key:∀ c,b=c→Has n ((d,.bool c)::l) a:=fun c hc=>⟨ha.size,ha.defers,fun t u hu=>by
  unfold look at hu
  cases hx:Nat.beq d t with
  | true =>
   simp only [hx,cond_true,Option.some.injEq] at hu
   rw [← Nat.eq_of_beq_eq_true hx,← hu,← hc];exact hb
  | false =>
   simp only [hx,cond_false] at hu
   exact ha.at_ t u hu⟩
 cases hc:b with
 | true=>exact ht hc a (key _ hc)
 | false=>exact hf hc a (key _ hc)
variable {d:Nat} {op:Op} {ty:TypeId} {pos:String} {aft:Array Edge} {v:Value}
def cE (P:Program) (l:Fr) (o:Oper) (W:World) (v:Value) (W':World):Prop:=∀ ev:Operand→Value,(∀ x u,evL l x=some u→ev x=u)→(execOp ev o).run P W = .ok (.value v) W'
theorem opV {W':World} (hr:cE P l ⟨some d,op,ty,pos,aft,none⟩ W v W') (hd:Nat.blt d n=true) (h:aT P n ops Q os ((d,v)::l) W'):aT P n ops Q (⟨some d,op,ty,pos,aft,none⟩::os) l W:=fun a ha =>
 wpList_plain rfl fun K hK=>by
  unfold Oper.wp
  rw [hr a.eval ha.ev]
  exact hK _ _ (h _ (ha.put hd))
theorem bL {x:Operand} (hx:evL l x=some v):cE P l ⟨some d,.move x,ty,pos,aft,none⟩ W (v) W:=fun ev he=>by unfold execOp;simp only [];rw [he x v hx];rfl
theorem aA {x:Operand} (hx:evL l x=some v) (hd:Nat.blt d n=true) (h:aT P n ops Q os ((d,v)::l) W):aT P n ops Q (⟨some d,.move x,ty,pos,aft,none⟩::os) l W:=opV (bL hx) hd h
theorem cH {x:Operand} (hx:evL l x=some v):cE P l ⟨some d,.assign x,ty,pos,aft,none⟩ W (v) W:=fun ev he=>by unfold execOp;simp only [];rw [he x v hx];rfl
theorem aB {x:Operand} (hx:evL l x=some v) (hd:Nat.blt d n=true) (h:aT P n ops Q os ((d,v)::l) W):aT P n ops Q (⟨some d,.assign x,ty,pos,aft,none⟩::os) l W:=opV (cH hx) hd h
theorem jR {x y z:Operand} (hx:evL l x=some (.bool true)) (hy:evL l y=some v):cE P l ⟨some d,.pick x y z,ty,pos,aft,none⟩ W (v) W:=fun ev he=>by unfold execOp;simp only [];rw [he x _ hx,he y _ hy];rfl
theorem aR {x y z:Operand} (hx:evL l x=some (.bool true)) (hy:evL l y=some v) (hd:Nat.blt d n=true) (h:aT P n ops Q os ((d,v)::l) W):aT P n ops Q (⟨some d,.pick x y z,ty,pos,aft,none⟩::os) l W:=opV (jR hx hy) hd h
theorem jS {x y z:Operand} (hx:evL l x=some (.bool false)) (hz:evL l z=some v):cE P l ⟨some d,.pick x y z,ty,pos,aft,none⟩ W (v) W:=fun ev he=>by unfold execOp;simp only [];rw [he x _ hx,he z _ hz];rfl
theorem aW {x y z:Operand} (hx:evL l x=some (.bool false)) (hz:evL l z=some v) (hd:Nat.blt d n=true) (h:aT P n ops Q os ((d,v)::l) W):aT P n ops Q (⟨some d,.pick x y z,ty,pos,aft,none⟩::os) l W:=opV (jS hx hz) hd h
theorem rJ {x:Operand} {b:Bool} {t:TypeId} (hx:evL l x=some (.bool b)):cE P l ⟨some d,.unOp .not t x,ty,pos,aft,none⟩ W (.bool (!b)) W:=fun ev he=>by unfold execOp;simp only [];rw [he x _ hx];rfl
theorem cP {x:Operand} {b:Bool} {t:TypeId} (hx:evL l x=some (.bool b)) (hd:Nat.blt d n=true) (h:aT P n ops Q os ((d,.bool (!b))::l) W):aT P n ops Q (⟨some d,.unOp .not t x,ty,pos,aft,none⟩::os) l W:=opV (rJ hx) hd h
theorem dI {x:Operand} {i:Nat} {vs:Array Value} (hx:evL l x=some (.tuple vs)) (hv:vs[i]?=some v):cE P l ⟨some d,.extract x i,ty,pos,aft,none⟩ W (v) W:=fun ev he=>by unfold execOp;simp only [];rw [he x _ hx];simp [Instr.extract,hv]
theorem bB {x:Operand} {i:Nat} {vs:Array Value} (hx:evL l x=some (.tuple vs)) (hv:vs[i]?=some v) (hd:Nat.blt d n=true) (h:aT P n ops Q os ((d,v)::l) W):aT P n ops Q (⟨some d,.extract x i,ty,pos,aft,none⟩::os) l W:=opV (dI hx hv) hd h
theorem rK {x:Operand} {t e:TypeId} {ad:Option Addr} {m c:Nat} (ht:P.underlying t=some (.slice e)) (hx:evL l x=some (.slice ad m c)):cE P l ⟨some d,.call { callee:=.builtin .len,args:=#[x],argTypes:=#[t] },ty,pos,aft,none⟩ W (.int .i64 (m:Int)) W:=fun ev he=>by unfold execOp;simp [resolve,invoke,builtin,he x _ hx,Builtin.len_,run_underlying ht,goInt]
theorem bF {x:Operand} {t e:TypeId} {ad:Option Addr} {m c:Nat} (ht:P.underlying t=some (.slice e)) (hx:evL l x=some (.slice ad m c)) (hd:Nat.blt d n=true) (h:aT P n ops Q os ((d,.int .i64 (m:Int))::l) W):aT P n ops Q (⟨some d,.call { callee:=.builtin .len,args:=#[x],argTypes:=#[t] },ty,pos,aft,none⟩::os) l W:=opV (rK ht hx) hd h
theorem rn_lenS {x:Operand} {t:TypeId} {s:ByteArray} (ht:P.underlying t=some .string) (hx:evL l x=some (.string s)):cE P l ⟨some d,.call { callee:=.builtin .len,args:=#[x],argTypes:=#[t] },ty,pos,aft,none⟩ W (.int .i64 (s.size:Int)) W:=fun ev he=>by unfold execOp;simp [resolve,invoke,builtin,he x _ hx,Builtin.len_,run_underlying ht,goInt]
theorem oM {x:Operand} {t:TypeId} {s:ByteArray} (ht:P.underlying t=some .string) (hx:evL l x=some (.string s)) (hd:Nat.blt d n=true) (h:aT P n ops Q os ((d,.int .i64 (s.size:Int))::l) W):aT P n ops Q (⟨some d,.call { callee:=.builtin .len,args:=#[x],argTypes:=#[t] },ty,pos,aft,none⟩::os) l W:=opV (rn_lenS ht hx) hd h
end
structure ArV where
 f:Int
 s:Int
 q:Int
deriving DecidableEq
def E1 (L:List ArV) (p q:Nat):Prop:=∃ t∈L,t.f=(p:Int)∧t.s = -1∧t.q=(q:Int)
inductive Hd (L:List ArV) (P:Nat→Prop):Nat→Prop
 | base {q:Nat}:P q→Hd L P q
 | arc {p q:Nat}:Hd L P p→E1 L p q→Hd L P q
def By9 (L:List ArV) (x:Int) (P:Nat→Prop) (q:Nat):Prop:=∃ p,P p∧∃ t∈L,t.f=(p:Int)∧(t.s=x∨t.s = -2)∧t.q=(q:Int)
section
variable {L:List ArV} {P R:Nat→Prop} {p q:Nat}
theorem Hd.mono (h:∀ q,P q→R q) (hq:Hd L P q):Hd L R q:=by
 induction hq with
 | base h1=>exact .base (h _ h1)
 | arc _ e ih=>exact .arc ih e
theorem Hd.idem (h:Hd L (Hd L P) q):Hd L P q:=by
 induction h with
 | base h1=>exact h1
 | arc _ e ih=>exact .arc ih e
theorem Hd.sub (h:∀ q,P q→R q) (hc:∀ p q,R p→E1 L p q→R q) (hq:Hd L P q):R q:=by
 induction hq with
 | base h1=>exact h _ h1
 | arc _ e ih=>exact hc _ _ ih e
theorem By9.mono {x:Int} (h:∀ q,P q→R q) (hq:By9 L x P q):By9 L x R q:=by
 obtain ⟨p,h1,h2⟩:=hq
 exact ⟨p,h _ h1,h2⟩
end
structure IsH (L:List ArV) (P:Nat→Prop) (l:List Nat):Prop where
 up:l.Pairwise (· < ·)
 at_:∀ q,q∈l↔Hd L P q
theorem hd_of {L:List ArV} {P:Nat→Prop} {all:List Nat} (h1:∀ q∈all,Hd L P q) (h2:∀ q,P q→q∈all) (h3:∀ p∈all,∀ q,E1 L p q→q∈all) (q:Nat):q∈all↔Hd L P q :=
 ⟨h1 q,Hd.sub (R:=fun q=>q∈all) h2 fun p q hp e=>h3 p hp q e⟩
def dV (L:List ArV) (P:Nat→Prop):List Int→Nat→Prop
 | []=>P
 | x::w=>dV L (Hd L (By9 L x P)) w
theorem runNP_snoc {L:List ArV} {x:Int}:∀ (w:List Int) {P:Nat→Prop},dV L P (w++[x])=Hd L (By9 L x (dV L P w))
 | [],_=>rfl
 | y::w,P=>runNP_snoc w
def fK (n:Nat) (k:Int) (L:List ArV):Prop:=∀ t∈L,(0≤t.f∧t.f < (n:Int))∧(0≤t.q∧t.q < (n:Int)) ∧ -2≤t.s∧t.s < k
theorem jT {n:Nat} {k:Int} {L:List ArV} {P:Nat→Prop} (ho:fK n k L) (hP:∀ q,P q→q < n) {q:Nat} (h:Hd L P q):q < n :=
 Hd.sub (R:=fun q=>q < n) hP (fun p q _ ⟨t,ht,_,_,e⟩=>by have:=(ho t ht).2.1.2;omega) h
theorem by_lt {n:Nat} {k:Int} {L:List ArV} {x:Int} {P:Nat→Prop} (ho:fK n k L) {q:Nat} (h:By9 L x P q):q < n:=by
 obtain ⟨p,_,t,ht,_,_,e⟩:=h
 have:=(ho t ht).2.1.2
 omega
def A1 (L:List ArV) (K:Int) (p q:Nat):Prop:=0 < K∧∃ t∈L,t.f=(p:Int)∧t.s ≠ -1∧t.q=(q:Int)
inductive Rz (L:List ArV) (K:Int) (E:Nat):Nat→Nat→Prop
 | end_:Rz L K E 0 E
 | eps {n p q:Nat}:Rz L K E n q→E1 L p q→Rz L K E n p
 | sym {n p q:Nat}:Rz L K E n q→A1 L K p q→Rz L K E (n+1) p
def Ds (L:List ArV) (K:Int) (E:Nat) (q m:Nat):Prop:=Rz L K E m q∧∀ k,Rz L K E k q→m≤k
section
variable {L:List ArV} {K:Int} {E:Nat} {P:Nat→Prop}
theorem Ds.one {q m k:Nat} (h:Ds L K E q m) (h2:Ds L K E q k):m=k:=Nat.le_antisymm (h.2 _ h2.1) (h2.2 _ h.1)
theorem Rz.hd {n:Nat} {q:Nat} (h:Hd L P q) (hr:Rz L K E n q):∃ p,P p∧Rz L K E n p:=by
 induction h with
 | base h1=>exact ⟨_,h1,hr⟩
 | arc _ e ih=>exact ih (.eps hr e)
theorem Rz.by {n q:Nat} {x:Int} (hK:0 < K) (hx:0≤x) (h:By9 L x P q) (hr:Rz L K E n q):∃ p,P p∧Rz L K E (n+1) p:=by
 obtain ⟨p,hp,t,ht,e1,e2,e3⟩:=h
 exact ⟨p,hp,.sym hr ⟨hK,t,ht,e1,by omega,e3⟩⟩
theorem Rz.succ {m:Nat} {q:Nat} (h:Rz L K E m q):∀ n,m=n+1→∃ p r,Hd L (fun z=>z=q) p∧A1 L K p r∧Rz L K E n r:=by
 induction h with
 | end_=>intro n h;cases h
 | eps _ e ih =>
  intro n h
  obtain ⟨p,r,h1,h2,h3⟩:=ih n h
  exact ⟨p,r,Hd.idem (Hd.mono (fun z hz=>by subst hz;exact .arc (.base rfl) e) h1),h2,h3⟩
 | sym h1 e ih =>
  intro n h
  obtain rfl:_=n:=Nat.succ.inj h
  exact ⟨_,_,.base rfl,e,h1⟩
def Nx (L:List ArV) (K:Int) (E:Nat) (P:Nat→Prop) (x:Int) (n:Nat):Prop:=∃ q,Hd L (By9 L x P) q∧Ds L K E q n
def LsW (L:List ArV) (K:Int) (E:Nat):Nat→(Nat→Prop)→List Int→Prop
 | 0,_,w=>w=[]
 | n+1,P,w=>∃ x w',w=x::w'∧(0≤x∧x < K)∧Nx L K E P x n∧(∀ y,0≤y→Nx L K E P y n→x≤y)∧LsW L K E n (Hd L (By9 L x P)) w'
theorem LsW.len:∀ {n:Nat} {P:Nat→Prop} {w:List Int},LsW L K E n P w→w.length=n
 | 0,_,_,h1=>by rw [show _=[] from h1];rfl
 | n+1,P,w,⟨x,w',e1,_,_,_,h3⟩=>by rw [e1,List.length_cons,LsW.len h3]
structure LsI (L:List ArV) (K:Int) (E:Nat) (P:Nat→Prop) (n:Nat):Prop where
 cl:∀ p q,P p→E1 L p q→P q
 lo:∀ q m,P q→Rz L K E m q→n≤m
 ex:∃ q,P q∧Ds L K E q n
theorem LsI.ds {n:Nat} (h:LsI L K E P n) {q:Nat} (hq:P q) (hr:Rz L K E n q):Ds L K E q n:=⟨hr,fun k hk=>h.lo q k hq hk⟩
theorem LsI.next {n:Nat} {x:Int} (h:LsI L K E P (n+1)) (hK:0 < K) (hx:0≤x) (hn:Nx L K E P x n):LsI L K E (Hd L (By9 L x P)) n where
 cl:=fun p q hp e=>.arc hp e
 lo:=fun q m hq hr=>by
  obtain ⟨r,h1,h2⟩:=Rz.hd hq hr
  obtain ⟨p,h3,h4⟩:=Rz.by hK hx h1 h2
  have:=h.lo p _ h3 h4
  omega
 ex:=hn
def Nrs (L:List ArV) (K:Int) (E:Nat) (P A:Nat→Prop) (n:Nat):Prop:=(∀ q,A q→P q)∧∀ q,P q→Ds L K E q n→A q
theorem pX {P:Nat→Prop} (hcl:∀ p q,P p→E1 L p q→P q) {q:Nat} (h:Hd L P q):P q:=Hd.sub (R:=P) (fun _ h=>h) hcl h
theorem LsI.any {n:Nat} (h:LsI L K E P (n+1)) {A:Nat→Prop} (hA:Nrs L K E P A (n+1)):∃ p r:Nat,A p∧0 < K∧(∃ t∈L,t.f=(p:Int)∧t.s ≠ -1∧t.q=(r:Int))∧Ds L K E r n:=by
 obtain ⟨q,h1,h2⟩:=h.ex
 obtain ⟨p,r,h3,⟨hK,t,ht,e1,e2,e3⟩,h5⟩:=h2.1.succ n rfl
 have hp:P p:=pX h.cl (Hd.mono (fun z (hz:z=q)=>by subst hz;exact h1) h3)
 refine ⟨p,r,hA.2 p hp (h.ds hp (.sym h5 ⟨hK,t,ht,e1,e2,e3⟩)),hK,⟨t,ht,e1,e2,e3⟩,h5,fun k hk=>?_⟩
 have:=h.lo p (k+1) hp (.sym hk ⟨hK,t,ht,e1,e2,e3⟩)
 omega
def ArcTo (L:List ArV) (K:Int) (E:Nat) (A:Nat→Prop) (n:Nat) (t:ArV):Prop:=t∈L∧(∃ p:Nat,A p∧t.f=(p:Int))∧t.s ≠ -1∧∃ r:Nat,t.q=(r:Int)∧Ds L K E r n
theorem nx_of {n:Nat} {A:Nat→Prop} (hA:∀ q,A q→P q) {t:ArV} (h:ArcTo L K E A n t) {x:Int} (hs:t.s=x∨t.s = -2):Nx L K E P x n:=by
 obtain ⟨h1,⟨p,h2,h3⟩,h4,r,h5,h6⟩:=h
 exact ⟨r,.base ⟨p,hA p h2,t,h1,h3,hs,h5⟩,h6⟩
theorem LsI.arc {n:Nat} {y:Int} (h:LsI L K E P (n+1)) {A:Nat→Prop} (hA:Nrs L K E P A (n+1)) (hK:0 < K) (hy:0≤y) (hn:Nx L K E P y n):∃ t,ArcTo L K E A n t∧(t.s=y∨t.s = -2):=by
 obtain ⟨q,h1,h2⟩:=hn
 obtain ⟨r,⟨p,hp,t,ht,e1,e2,e3⟩,h4⟩:=Rz.hd h1 h2.1
 have ha:A1 L K p r:=⟨hK,t,ht,e1,by omega,e3⟩
 refine ⟨t,⟨ht,⟨p,hA.2 p hp (h.ds hp (.sym h4 ha)),e1⟩,by omega,r,e3,h4,fun k hk=>?_⟩,e2⟩
 have:=h.lo p (k+1) hp (.sym hk ha)
 omega
theorem LsI.filt {n:Nat} {x:Int} (h:LsI L K E P (n+1)) {A:Nat→Prop} (hA:Nrs L K E P A (n+1)) (hK:0 < K) (hx:0≤x) {B:Nat→Prop} (hB:∀ q,B q↔Hd L (By9 L x A) q∧Ds L K E q n):Nrs L K E (Hd L (By9 L x P)) B n:=by
 refine ⟨fun q hq=>Hd.mono (fun q=>By9.mono hA.1) ((hB q).1 hq).1,fun q hq hd=>(hB q).2 ⟨?_,hd⟩⟩
 have key:∀ q,Hd L (By9 L x P) q→Rz L K E n q→Hd L (By9 L x A) q:=by
  intro q hq
  induction hq with
  | base h1 =>
   intro hr
   obtain ⟨p,hp,t,ht,e1,e2,e3⟩:=h1
   exact .base ⟨p,hA.2 p hp (h.ds hp (.sym hr ⟨hK,t,ht,e1,by omega,e3⟩)),t,ht,e1,e2,e3⟩
  | arc _ e ih=>exact fun hr=>.arc (ih (.eps hr e)) e
 exact key q hq hd.1
end
structure FarOk (L:List ArV) (K:Int) (E N:Nat) (fs:List Int):Prop where
 len:fs.length=N
 at_:∀ p,p < N→(fs.getD p 0 = -1∧∀ m,¬ Rz L K E m p)∨∃ m:Nat,fs.getD p 0=(m:Int)∧Ds L K E p m
section
variable {L:List ArV} {K:Int} {E N:Nat} {fs:List Int}
theorem FarOk.ds (h:FarOk L K E N fs) {p m:Nat} (hp:p < N):fs.getD p 0=(m:Int)↔Ds L K E p m:=by
 rcases h.at_ p hp with ⟨h1,h2⟩ | ⟨k,h1,h2⟩
 ·constructor
  ·intro h3;omega
  ·intro h3;exact absurd h3.1 (h2 m)
 ·constructor
  ·intro h3
   obtain rfl:k=m:=by omega
   exact h2
  ·intro h3
   rw [h1,h2.one h3]
theorem FarOk.neg (h:FarOk L K E N fs) {p:Nat} (hp:p < N):fs.getD p 0 < 0↔∀ m,¬ Rz L K E m p:=by
 rcases h.at_ p hp with ⟨h1,h2⟩ | ⟨k,h1,h2⟩
 ·exact ⟨fun _=>h2,fun _=>by omega⟩
 ·exact ⟨fun h3=>by omega,fun h3=>absurd h2.1 (h3 k)⟩
theorem FarOk.start (h:FarOk L K E N fs) {s m:Nat} (hs:s < N) (hm:fs.getD s 0=(m:Int)):LsI L K E (Hd L (fun q=>q=s)) m where
 cl:=fun p q hp e=>.arc hp e
 lo:=fun q k hq hr=>by
  obtain ⟨p,h1,h2⟩:=Rz.hd hq hr
  subst h1
  exact ((h.ds hs).1 hm).2 k h2
 ex:=⟨s,.base rfl,(h.ds hs).1 hm⟩
end
def ArV.flip (t:ArV):ArV:=⟨t.q,t.s,t.f⟩
theorem jH {L:List ArV} {p q:Nat}:E1 (L.map ArV.flip) p q↔E1 L q p:=by
 constructor
 ·rintro ⟨t,ht,e1,e2,e3⟩
  obtain ⟨s,hs,rfl⟩:=List.mem_map.1 ht
  exact ⟨s,hs,e3,e2,e1⟩
 ·rintro ⟨t,ht,e1,e2,e3⟩
  exact ⟨t.flip,List.mem_map_of_mem ht,e3,e2,e1⟩
theorem hd_flip {L:List ArV} {P:Nat→Prop} {p q:Nat} (h:Hd L (fun z=>z=q) p) (hp:Hd (L.map ArV.flip) P p):Hd (L.map ArV.flip) P q:=by
 induction h with
 | base h1=>subst h1;exact hp
 | arc _ e ih=>exact ih (.arc hp (jH.2 e))
def uN (fs:List Int):Nat:=(fs.filter (fun x=>decide (x = -1))).length
theorem uN_le {fs:List Int}:uN fs≤fs.length:=List.length_filter_le _ _
theorem rL:∀ {fs:List Int} {i:Nat} {x:Int},i < fs.length→fs.getD i 0 = -1→x ≠ -1→uN fs=uN (fs.set i x)+1
 | y::fs,0,x,_,h,hx=>by
  have hy:y = -1:=by simpa using h
  subst hy
  simp [uN,hx]
 | y::fs,i+1,x,hi,h,hx=>by
  have ih:=rL (fs:=fs) (i:=i) (x:=x) (by simpa using hi) (by simpa using h) hx
  unfold uN at ih ⊢
  rw [List.set_cons_succ,List.filter_cons,List.filter_cons]
  split
  ·rw [List.length_cons,List.length_cons,ih]
  ·exact ih
structure LvI (L:List ArV) (K:Int) (E N:Nat) (fs:List Int) (n:Nat) (lv:List Nat):Prop where
 len:fs.length=N
 val:∀ p,p < N→fs.getD p 0 = -1∨∃ m:Nat,m < n∧fs.getD p 0=(m:Int)∧Ds L K E p m
 all:∀ p,p < N→∀ m,m < n→Rz L K E m p→fs.getD p 0 ≠ -1
 lev:∀ p∈lv,p < N∧Rz L K E n p
 lal:∀ p,p < N→Rz L K E n p→fs.getD p 0 ≠ -1∨p∈lv
section
variable {L:List ArV} {K:Int} {E N:Nat} {fs gs:List Int} {n:Nat} {lv lw:List Nat} {az:List Int}
theorem LvI.next (h:LvI L K E N fs n lv) (hO:fK N K L) (hg:gs.length=N) (h1:∀ q,q < N→gs.getD q 0=if fs.getD q 0 = -1∧q∈lv then (n:Int) else fs.getD q 0)
  {az:List Int} (h2:∀ y∈az,∃ p:Nat,y=(p:Int)∧p < N∧∃ s∈lv,A1 L K p s) (h3:∀ s∈lv,fs.getD s 0 = -1→∀ p:Nat,A1 L K p s→(p:Int)∈az∨gs.getD p 0 ≠ -1)
  (h4:∀ q,q∈lw↔Hd (L.map ArV.flip) (fun q:Nat=>(q:Int)∈az) q):LvI L K E N gs (n+1) lw:=by
 have hall:∀ p,p < N→∀ m,m < n+1→Rz L K E m p→gs.getD p 0 ≠ -1:=by
  intro p hp m hm hr
  rw [h1 p hp]
  split
  ·omega
  ·rename_i h9
   rcases Nat.lt_or_ge m n with h5 | h5
   ·exact h.all p hp m h5 hr
   ·obtain rfl:m=n:=by omega
    intro h6
    exact (h.lal p hp hr).elim (fun h7=>h7 h6) (fun h7=>h9 ⟨h6,h7⟩)
 have hval:∀ p,p < N→gs.getD p 0 = -1∨∃ m:Nat,m < n+1∧gs.getD p 0=(m:Int)∧Ds L K E p m:=by
  intro p hp
  rw [h1 p hp]
  split
  ·rename_i h9
   refine .inr ⟨n,Nat.lt_succ_self _,rfl,(h.lev p h9.2).2,fun k hk=>?_⟩
   rcases Nat.lt_or_ge k n with h5 | h5
   ·exact absurd h9.1 (h.all p hp k h5 hk)
   ·exact h5
  ·rcases h.val p hp with h5 | ⟨m,h5,h6,h7⟩
   ·exact .inl h5
   ·exact .inr ⟨m,by omega,h6,h7⟩
 refine ⟨hg,hval,hall,fun p hp=>?_,fun p hp hr=>?_⟩
 ·have hh:=(h4 p).1 hp
  induction hh with
  | base h5 =>
   obtain ⟨p2,e,hp2,s,hs,ha⟩:=h2 _ h5
   obtain rfl:_=p2:=Int.ofNat.inj e
   exact ⟨hp2,.sym (h.lev s hs).2 ha⟩
  | arc h5 e ih =>
   obtain ⟨h6,h7⟩:=ih ((h4 _).2 h5)
   have e2:=jH.1 e
   refine ⟨?_,.eps h7 e2⟩
   obtain ⟨t,ht,e3,_,_⟩:=e2
   have:=(hO t ht).1.2
   omega
 ·obtain ⟨p2,r,h5,h6,h7⟩:=hr.succ n rfl
  have hpz:∀ m,Rz L K E m p2→Rz L K E m p:=fun m hm=>by
   obtain ⟨z,e,hz⟩:=Rz.hd h5 hm
   subst e
   exact hz
  have hrN:r < N:=by
   obtain ⟨_,t,ht,_,_,e⟩:=h6
   have:=(hO t ht).2.1.2
   omega
  have hpN:p2 < N:=by
   obtain ⟨_,t,ht,e,_,_⟩:=h6
   have:=(hO t ht).1.2
   omega
  by_cases h8:fs.getD r 0 = -1
  ·have h9:r∈lv:=(h.lal r hrN h7).elim (fun h=>absurd h8 h) id
   rcases h3 r h9 h8 p2 h6 with h10 | h10
   ·refine .inr ((h4 p).2 (hd_flip h5 (.base h10)))
   ·rcases hval p2 hpN with h11 | ⟨m,h11,h12,h13⟩
    ·exact absurd h11 h10
    ·exact .inl (hall p hp m h11 (hpz m h13.1))
  ·rcases h.val r hrN with h9 | ⟨m,h9,h10,h11⟩
   ·exact absurd h9 h8
   ·exact .inl (hall p hp (m+1) (by omega) (hpz _ (.sym h11.1 h6)))
theorem LvI.end_ (h:LvI L K E N fs n []) (hO:fK N K L):FarOk L K E N fs:=by
 have key:∀ m p,p < N→Rz L K E m p→fs.getD p 0 ≠ -1:=by
  intro m
  induction m using Nat.strongRecOn with
  | ind m ih =>
   intro p hp hr
   rcases Nat.lt_or_ge m n with h5 | h5
   ·exact h.all p hp m h5 hr
   ·rcases Nat.lt_or_ge n m with h6 | h6
    ·obtain ⟨p2,r,h7,h8,h9⟩:=hr.succ (m - 1) (by omega)
     have hrN:r < N:=by
      obtain ⟨_,t,ht,_,_,e⟩:=h8
      have:=(hO t ht).2.1.2
      omega
     have h10:=ih (m - 1) (by omega) r hrN h9
     rcases h.val r hrN with h11 | ⟨k,h11,h12,h13⟩
     ·exact absurd h11 h10
     ·obtain ⟨z,e,hz⟩:=Rz.hd h7 (.sym h13.1 h8)
      subst e
      exact ih (k+1) (by omega) _ hp hz
    ·obtain rfl:m=n:=by omega
     exact (h.lal p hp hr).elim id (fun h=>by cases h)
 refine ⟨h.len,fun p hp=>?_⟩
 rcases h.val p hp with h1 | ⟨m,_,h2,h3⟩
 ·exact .inl ⟨h1,fun m hm=>key m p hp hm h1⟩
 ·exact .inr ⟨m,h2,h3⟩
theorem pY {N p:Nat} {x y:Int} (h:p < N):(List.replicate N x).getD p y=x:=by simp [h]
theorem LvI.start (hE:E < N) (hO:fK N K L) (h4:∀ q,q∈lw↔Hd (L.map ArV.flip) (fun q:Nat=>(q:Int)=(E:Int)) q):LvI L K E N (List.replicate N (-1)) 0 lw where
 len:=List.length_replicate
 val:=fun p hp=>.inl (pY hp)
 all:=fun p hp m hm=>absurd hm (Nat.not_lt_zero _)
 lev:=fun p hp=>by
  have hh:=(h4 p).1 hp
  induction hh with
  | base h5 =>
   obtain rfl:_=E:=Int.ofNat.inj h5
   exact ⟨hE,.end_⟩
  | arc h5 e ih =>
   obtain ⟨h6,h7⟩:=ih ((h4 _).2 h5)
   have e2:=jH.1 e
   refine ⟨?_,.eps h7 e2⟩
   obtain ⟨t,ht,e3,_,_⟩:=e2
   have:=(hO t ht).1.2
   omega
 lal:=fun p hp hr=>.inr ((h4 p).2 (by
  have:∀ m,Rz L K E m p→m=0→Hd (L.map ArV.flip) (fun q:Nat=>(q:Int)=(E:Int)) p:=by
   intro m hm
   induction hm with
   | end_=>exact fun _=>.base rfl
   | eps h1 e ih =>
    intro h0
    subst h0
    refine .arc (ih ?_ ?_ rfl) (jH.2 e)
    ·obtain ⟨t,ht,_,_,e3⟩:=e
     have:=(hO t ht).2.1.2
     omega
    ·exact h1
   | sym _ _ _=>exact fun h0=>absurd h0 (by omega)
  exact this 0 hr rfl))
structure MdI (L:List ArV) (K:Int) (N:Nat) (fs gs:List Int) (n:Nat) (lv:List Nat) (i:Nat) (az:List Int):Prop where
 len:gs.length=N
 val:∀ q,q < N→gs.getD q 0=if fs.getD q 0 = -1∧q∈lv.take i then (n:Int) else fs.getD q 0
 inn:∀ y∈az,∃ p:Nat,y=(p:Int)∧p < N∧∃ s∈lv,A1 L K p s
 all:∀ s∈lv.take i,fs.getD s 0 = -1→∀ p:Nat,A1 L K p s→(p:Int)∈az∨gs.getD p 0 ≠ -1
 cnt:uN gs≤uN fs∧(az≠[]→uN gs < uN fs)
 neg:∀ q,q < N→gs.getD q 0 < 0→gs.getD q 0 = -1
theorem LvI.neg (h:LvI L K E N fs n lv):∀ q,q < N→fs.getD q 0 < 0→fs.getD q 0 = -1:=fun q hq h1=>(h.val q hq).elim id fun ⟨m,_,h2,_⟩=>by omega
theorem MdI.start (hl:fs.length=N) (hn:∀ q,q < N→fs.getD q 0 < 0→fs.getD q 0 = -1):MdI L K N fs fs n lv 0 [] where
 neg:=hn
 len:=hl
 val:=fun q hq=>by rw [if_neg (by simp)]
 inn:=fun y hy=>by cases hy
 all:=fun s hs=>by cases hs
 cnt:=⟨Nat.le_refl _,fun h=>absurd rfl h⟩
theorem MdI.old {i s:Nat} {az:List Int} (h:MdI L K N fs gs n lv i az) (hs:lv[i]?=some s) (hN:s < N) (h0:0≤gs.getD s 0):MdI L K N fs gs n lv (i+1) az where
 neg:=h.neg
 len:=h.len
 val:=fun q hq=>by
  rw [h.val q hq,List.take_add_one,hs]
  by_cases hqs:q=s
  ·subst hqs
   have h2:=h.val q hN
   by_cases h3:fs.getD q 0 = -1
   ·have h4:q∈lv.take i:=Decidable.byContradiction fun h5=>by rw [if_neg (fun h6=>h5 h6.2),h3] at h2;omega
    rw [if_pos ⟨h3,h4⟩,if_pos ⟨h3,List.mem_append_left _ h4⟩]
   ·rw [if_neg (fun h4=>h3 h4.1),if_neg (fun h4=>h3 h4.1)]
  ·have:q∈lv.take i++(some s).toList↔q∈lv.take i:=by simp [hqs]
   simp only [this]
 inn:=h.inn
 all:=fun s2 hs2 h3 p hp=>by
  rw [List.take_add_one,hs] at hs2
  rcases List.mem_append.1 hs2 with h4 | h4
  ·exact h.all s2 h4 h3 p hp
  ·obtain rfl:s2=s:=by simpa using h4
   have h2:=h.val s2 hN
   by_cases h5:s2∈lv.take i
   ·exact h.all s2 h5 h3 p hp
   ·rw [if_neg (fun h6=>h5 h6.2),h3] at h2;omega
 cnt:=h.cnt
theorem MdI.new {i s:Nat} {az bs:List Int} (h:MdI L K N fs gs n lv i az) (hO:fK N K L) (hs:lv[i]?=some s) (hN:s < N) (h0:gs.getD s 0 < 0)
  (h1:∀ y∈bs,y∈az∨∃ t∈L,t.q=(s:Int)∧t.s ≠ -1∧0 < K∧y=t.f) (h2:∀ y∈az,y∈bs)
  (h3:∀ t∈L,t.q=(s:Int)→t.s ≠ -1→0 < K→t.f∈bs∨0≤(gs.set s (n:Int)).getD t.f.toNat 0):MdI L K N fs (gs.set s (n:Int)) n lv (i+1) bs where
 len:=by rw [List.length_set,h.len]
 val:=fun q hq=>by
  have h9:=h.val s hN
  have hv:=h.val q hq
  rw [List.take_add_one,hs]
  by_cases hqs:q=s
  ·subst hqs
   rw [List.getD_eq_getElem?_getD,List.getElem?_set_self (by rw [h.len];exact hN)]
   have h4:fs.getD q 0 = -1:=by
    have h8:=h.neg q hN h0
    split at h9
    ·omega
    ·rw [← h9];exact h8
   rw [if_pos ⟨h4,by simp⟩];rfl
  ·rw [List.getD_eq_getElem?_getD,List.getElem?_set_ne (fun e=>hqs e.symm),← List.getD_eq_getElem?_getD,hv]
   have:q∈lv.take i++(some s).toList↔q∈lv.take i:=by simp [hqs]
   simp only [this]
 inn:=fun y hy=>by
  rcases h1 y hy with h4 | ⟨t,ht,e1,e2,hK,rfl⟩
  ·exact h.inn y h4
  ·have h5:=(hO t ht).1
   exact ⟨t.f.toNat,by omega,by omega,s,List.mem_of_getElem? hs,hK,t,ht,by omega,e2,e1⟩
 all:=fun s2 hs2 h4 p hp=>by
  rw [List.take_add_one,hs] at hs2
  have hmono:gs.getD p 0 ≠ -1→(gs.set s (n:Int)).getD p 0 ≠ -1:=by
   intro h5
   by_cases hqs:p=s
   ·subst hqs
    rw [List.getD_eq_getElem?_getD,List.getElem?_set_self (by rw [h.len];exact hN)]
    show (n:Int) ≠ -1
    omega
   ·rw [List.getD_eq_getElem?_getD,List.getElem?_set_ne (fun e=>hqs e.symm),← List.getD_eq_getElem?_getD];exact h5
  rcases List.mem_append.1 hs2 with h5 | h5
  ·rcases h.all s2 h5 h4 p hp with h6 | h6
   ·exact .inl (h2 _ h6)
   ·exact .inr (hmono h6)
  ·obtain rfl:s2=s:=by simpa using h5
   obtain ⟨hK,t,ht,e1,e2,e3⟩:=hp
   rcases h3 t ht e3 e2 hK with h6 | h6
   ·rw [e1] at h6;exact .inl h6
   ·rw [e1] at h6;right;intro h7;rw [Int.toNat_natCast] at h6;omega
 cnt:=by
  have h4:gs.getD s 0 = -1:=h.neg s hN h0
  have h5:=rL (x:=(n:Int)) (by rw [h.len];exact hN) h4 (by omega)
  have:=h.cnt.1
  exact ⟨by omega,fun _=>by omega⟩
 neg:=fun q hq h4=>by
  by_cases hqs:q=s
  ·subst hqs
   rw [List.getD_eq_getElem?_getD,List.getElem?_set_self (by rw [h.len];exact hN)] at h4
   have:((n:Nat):Int) < 0:=h4
   omega
  ·rw [List.getD_eq_getElem?_getD,List.getElem?_set_ne (fun e=>hqs e.symm),← List.getD_eq_getElem?_getD] at h4 ⊢
   exact h.neg q hq h4
theorem MdI.done (h:MdI L K N fs gs n lv lv.length az) (hf:LvI L K E N fs n lv) (hO:fK N K L) (h4:∀ q,q∈lw↔Hd (L.map ArV.flip) (fun q:Nat=>(q:Int)∈az) q):LvI L K E N gs (n+1) lw :=
 hf.next hO h.len (fun q hq=>by rw [h.val q hq,List.take_of_length_le (Nat.le_refl _)]) h.inn (fun s hs=>h.all s (by rw [List.take_of_length_le (Nat.le_refl _)];exact hs)) h4
def lvM (fs:List Int) (lv:List Nat):Nat:=2 * uN fs+(if lv=[] then 0 else 1)
theorem MdI.less (h:MdI L K N fs gs n lv lv.length az) (hv:lv≠[]) (h4:∀ q,q∈lw↔Hd (L.map ArV.flip) (fun q:Nat=>(q:Int)∈az) q):lvM gs lw < lvM fs lv:=by
 unfold lvM
 rw [if_neg hv]
 have h1:=h.cnt
 by_cases ha:az=[]
 ·subst ha
  have:lw=[]:=List.eq_nil_iff_forall_not_mem.2 fun q hq=>by
   have h5:=(h4 q).1 hq
   have:False:=Hd.sub (R:=fun _=>False) (fun q h=>by cases h) (fun _ _ h _=>h) h5
   exact this
  rw [if_pos this]
  omega
 ·have:=h1.2 ha
  split<;>omega
end
def cU (lo:Nat) (A W:World):Prop:=A.heap.size≤W.heap.size∧∀ b,lo≤b→b < A.heap.size→W.heap[b]?=A.heap[b]?
theorem cU.refl (lo:Nat) (A:World):cU lo A A:=⟨Nat.le_refl _,fun _ _ _=>rfl⟩
theorem cU.cell {lo:Nat} {A W:World} (h:cU lo A W) {p:Addr} {v:Value} (hp:lo≤p.block) (hc:A.cell? p=some v):W.cell? p=some v :=
 (World.cell?_of_block (h.2 p.block hp (World.block_lt_of_cell? A p hc))).trans hc
theorem cU.mono {lo lo':Nat} {A W:World} (h:cU lo A W) (hl:lo≤lo'):cU lo' A W:=⟨h.1,fun b h1 h2=>h.2 b (Nat.le_trans hl h1) h2⟩
theorem cU.trans {lo:Nat} {A B C:World} (h:cU lo A B) (k:cU lo B C):cU lo A C :=
 ⟨Nat.le_trans h.1 k.1,fun b h1 h2=>(k.2 b h1 (Nat.lt_of_lt_of_le h2 h.1)).trans (h.2 b h1 h2)⟩
theorem aX {A W:World} (h:Below A.heap.size A W) (lo:Nat):cU lo A W:=⟨h.size,fun b _ hb=>h.block b hb⟩
abbrev Own:=List (Nat×List Value×TypeId)
structure GR where
 v:Value
 n:Nat
 xs:List Value
 e:TypeId
 size:Nat
abbrev aQ:=List GR
def Value.apart (v u:Value):Prop:=∀ b,v.ownBlock=some b→u.ownBlock≠some b
structure St (w0:World) (O:Own) (G:aQ) (K:List (Nat×World)) (W:World):Prop where
 below:Below w0.heap.size w0 W
 own:∀ p∈O,w0.heap.size≤p.1∧W.heap[p.1]?=some (.cells p.2.1.toArray p.2.2 (0,0))
 dist:O.Pairwise (fun p q=>p.1≠q.1)
 kept:∀ q∈K,cU q.1 q.2 W∧∀ p∈O,p.1 < q.1∨q.2.heap.size≤p.1
 rows:∀ g∈G,W.ownsRow w0.heap.size g.e g.size g.v g.n g.xs∧∀ b,g.v.ownBlock=some b→(∀ p∈O,p.1≠b)∧∀ q∈K,b < q.1∨q.2.heap.size≤b
 gdist:G.Pairwise (fun g h=>Value.apart g.v h.v)
section
variable {w0 W:World} {O:Own} {G:aQ} {K:List (Nat×World)}
theorem cC {w:World} {b:Nat} {o:Obj} (h:w.heap[b]?=some o):b < w.heap.size:=(Array.getElem?_eq_some_iff.1 h).1
theorem St.start (w:World):St w [] [] [] w:=⟨Below.refl _ _,(fun p h=>by cases h),List.Pairwise.nil,(fun q h=>by cases h),(fun q h=>by cases h),List.Pairwise.nil⟩
theorem St.glt (h:St w0 O G K W) {g:GR} (hg:g∈G) {b:Nat} (hb:g.v.ownBlock=some b):w0.heap.size≤b∧b < W.heap.size:=(h.rows g hg).1.lt b hb
theorem dK {w w':World} {base:Nat} {e:TypeId} {size:Nat} {v:Value} {n:Nat} {xs:List Value} (h:w.ownsRow base e size v n xs) (hb:∀ b,v.ownBlock=some b→w'.heap[b]?=w.heap[b]?):w'.ownsRow base e size v n xs:=by
 refine ⟨h.1,?_⟩
 rcases h.2 with h2 | ⟨g,cap,cur,rfl,h3,h4,h5⟩
 ·exact .inl h2
 ·exact .inr ⟨g,cap,cur,rfl,h3,by rw [hb g rfl];exact h4,h5⟩
theorem St.alloc (h:St w0 O G K W) (cs:List Value) (T:TypeId):St w0 ((W.heap.size,cs,T)::O) G K (W.alloc (.cells cs.toArray T)) where
 below:=h.below.alloc h.below.size _
 own:=fun p hp=>by
  rcases List.mem_cons.1 hp with rfl | hp
  ·exact ⟨h.below.size,heap_alloc_new W _⟩
  ·obtain ⟨h1,h2⟩:=h.own p hp
   exact ⟨h1,(Below.heap_alloc W _ _ (cC h2)).trans h2⟩
 dist:=List.Pairwise.cons (fun q hq e=>by have:=cC (h.own q hq).2;simp only at e;omega) h.dist
 kept:=fun q hq=>by
  obtain ⟨h1,h2⟩:=h.kept q hq
  refine ⟨⟨by have:=h1.1;simp;omega,fun b hb hb2=>(Below.heap_alloc W _ _ (by have:=h1.1;omega)).trans (h1.2 b hb hb2)⟩,fun p hp=>?_⟩
  rcases List.mem_cons.1 hp with rfl | hp
  ·exact .inr h1.1
  ·exact h2 p hp
 rows:=fun g hg=>by
  obtain ⟨h1,h2⟩:=h.rows g hg
  refine ⟨dK h1 fun b hb=>Below.heap_alloc W _ _ (h.glt hg hb).2,fun b hb=>⟨fun p hp=>?_,(h2 b hb).2⟩⟩
  rcases List.mem_cons.1 hp with rfl | hp
  ·have:=(h.glt hg hb).2;simp only;omega
  ·exact (h2 b hb).1 p hp
 gdist:=h.gdist
theorem St.grow {W':World} (h:St w0 O G K W) (hb:Below W.heap.size W W'):St w0 O G K W' where
 below:=h.below.trans (hb.mono h.below.size)
 own:=fun p hp=>by
  obtain ⟨h1,h2⟩:=h.own p hp
  exact ⟨h1,(hb.block _ (cC h2)).trans h2⟩
 dist:=h.dist
 kept:=fun q hq=>by
  obtain ⟨h1,h2⟩:=h.kept q hq
  exact ⟨⟨Nat.le_trans h1.1 hb.size,fun b hb1 hb2=>(hb.block b (Nat.lt_of_lt_of_le hb2 h1.1)).trans (h1.2 b hb1 hb2)⟩,h2⟩
 rows:=fun g hg=>⟨dK (h.rows g hg).1 fun b h1=>hb.block b (h.glt hg h1).2,(h.rows g hg).2⟩
 gdist:=h.gdist
theorem St.call {W':World} (h:St w0 O G K W) (hb:Below W.heap.size W W'):St w0 O G ((W.heap.size,W')::K) W' :=
 let g:=h.grow hb
 ⟨g.below,g.own,g.dist,fun q hq=>by
  rcases List.mem_cons.1 hq with rfl | hq
  ·exact ⟨cU.refl _ _,fun p hp=>.inl (cC (h.own p hp).2)⟩
  ·exact g.kept q hq,(fun r hr=>⟨(g.rows r hr).1,fun b hb=>⟨((g.rows r hr).2 b hb).1,fun q hq=>by
   rcases List.mem_cons.1 hq with rfl | hq
   ·exact .inl (h.glt hr hb).2
   ·exact ((g.rows r hr).2 b hb).2 q hq⟩⟩),g.gdist⟩
theorem St.drew (h:St w0 O G K W):St w0 O G K W.drew:=h.grow (Below.refl _ _).drew
theorem St.at_ (h:St w0 O G K W) (i:Nat) {B:Nat} {cs:List Value} {T:TypeId} (hi:O[i]?=some (B,cs,T)):W.heap[B]?=some (.cells cs.toArray T (0,0)):=(h.own _ (List.mem_of_getElem? hi)).2
theorem St.ge (h:St w0 O G K W) (i:Nat) {B:Nat} {cs:List Value} {T:TypeId} (hi:O[i]?=some (B,cs,T)):w0.heap.size≤B:=(h.own _ (List.mem_of_getElem? hi)).1
theorem St.since (h:St w0 O G K W) (i:Nat) {lo:Nat} {A:World} (hi:K[i]?=some (lo,A)):cU lo A W:=(h.kept _ (List.mem_of_getElem? hi)).1
theorem St.old (h:St w0 O G K W) {p:Addr} {v:Value} (hc:w0.cell? p=some v):W.cell? p=some v:=(h.below.cell (World.block_lt_of_cell? _ _ hc)).trans hc
theorem St.agree (h:St w0 O G K W):cU 0 w0 W:=aX h.below 0
theorem aE {B j:Nat} {cs:List Value} {T:TypeId} {v:Value} (h:W.heap[B]?=some (.cells cs.toArray T (0,0))) (hv:cs[j]?=some v):W.cell? ⟨B,j,none⟩=some v:=by
 unfold World.cell?;simp [h,hv]
theorem jU {B j:Nat} {cs:List Value} {T:TypeId} (h:W.heap[B]?=some (.cells cs.toArray T (0,0))):W.frozen? ⟨B,j,none⟩=false:=by
 unfold World.frozen?;simp [h]
theorem mH {B j:Nat} {cs:List Value} {T:TypeId} (v:Value) (h:W.heap[B]?=some (.cells cs.toArray T (0,0))):(W.setCell ⟨B,j,none⟩ v).heap[B]?=some (.cells (cs.set j v).toArray T (0,0)):=by
 simp only [World.setCell,Array.getElem?_modify,if_true,h,Option.map_some]
 simp
theorem rM {x y:Nat×List Value×TypeId} (hx:x.1=y.1):∀ {O:Own} {i:Nat},O[i]?=some x→O.Pairwise (fun p q=>p.1≠q.1)→(O.set i y).Pairwise (fun p q=>p.1≠q.1)
 | [],_,h,_=>by simp at h
 | p::O,0,h,hp=>by
  simp at h;subst h
  cases hp with
  | cons a b=>exact List.Pairwise.cons (fun q hq=>by rw [← hx];exact a q hq) b
 | p::O,i+1,h,hp=>by
  cases hp with
  | cons a b =>
   refine List.Pairwise.cons (fun q hq=>?_) (rM hx (by simpa using h) b)
   rcases List.mem_or_eq_of_mem_set hq with hq | rfl
   ·exact a q hq
   ·rw [← hx];exact a x (List.mem_of_getElem? (by simpa using h))
theorem fA:∀ {O:Own} {i:Nat} {x y q:Nat×List Value×TypeId},O[i]?=some x→O.Pairwise (fun p q=>p.1≠q.1)→q∈O.set i y→q=y∨(q∈O∧q.1≠x.1)
 | [],_,_,_,_,h,_,_=>by simp at h
 | p::O,0,x,y,q,h,hp,hq=>by
  simp at h;subst h
  cases hp with
  | cons a b =>
   rcases List.mem_cons.1 hq with rfl | hq
   ·exact .inl rfl
   ·exact .inr ⟨List.mem_cons_of_mem _ hq,fun e=>a q hq e.symm⟩
 | p::O,i+1,x,y,q,h,hp,hq=>by
  cases hp with
  | cons a b =>
   rcases List.mem_cons.1 hq with rfl | hq
   ·exact .inr ⟨List.mem_cons_self,a x (List.mem_of_getElem? (by simpa using h))⟩
   ·rcases fA (by simpa using h) b hq with h1 | ⟨h1,h2⟩
    ·exact .inl h1
    ·exact .inr ⟨List.mem_cons_of_mem _ h1,h2⟩
theorem St.set (h:St w0 O G K W) (i:Nat) {B:Nat} {cs:List Value} {T:TypeId} (hi:O[i]?=some (B,cs,T)) (j:Nat) (v:Value):St w0 (O.set i (B,cs.set j v,T)) G K (W.setCell ⟨B,j,none⟩ v) where
 below:=h.below.setCell (p:=⟨B,j,none⟩) (h.ge i hi) v
 own:=fun p hp=>by
  rcases fA hi h.dist hp with rfl | ⟨h1,h2⟩
  ·exact ⟨h.ge i hi,mH v (h.at_ i hi)⟩
  ·obtain ⟨h3,h4⟩:=h.own p h1
   exact ⟨h3,(Below.heap_setCell _ _ _ _ h2).trans h4⟩
 dist:=rM (x:=(B,cs,T)) (y:=(B,cs.set j v,T)) rfl hi h.dist
 kept:=fun q hq=>by
  obtain ⟨h1,h2⟩:=h.kept q hq
  have hB:=h2 _ (List.mem_of_getElem? hi)
  refine ⟨⟨by have:=h1.1;simpa using this,fun b hb hb2=>(Below.heap_setCell _ _ _ _ (by show b≠B;simp only at hB;omega)).trans (h1.2 b hb hb2)⟩,fun p hp=>?_⟩
  rcases fA hi h.dist hp with rfl | ⟨h3,_⟩
  ·exact hB
  ·exact h2 p h3
 rows:=fun g hg=>by
  obtain ⟨h1,h2⟩:=h.rows g hg
  refine ⟨dK h1 fun b hb=>Below.heap_setCell _ _ _ _ (fun e=>(h2 b hb).1 _ (List.mem_of_getElem? hi) (by simpa using e.symm)),fun b hb=>⟨fun p hp=>?_,(h2 b hb).2⟩⟩
  rcases fA hi h.dist hp with rfl | ⟨h3,_⟩
  ·exact (h2 b hb).1 (B,cs,T) (List.mem_of_getElem? hi)
  ·exact (h2 b hb).1 p h3
 gdist:=h.gdist
theorem St.tail {p:Nat×List Value×TypeId} (h:St w0 (p::O) G K W):St w0 O G K W where
 below:=h.below
 own:=fun q hq=>h.own q (List.mem_cons_of_mem _ hq)
 dist:=by cases h.dist with | cons a b=>exact b
 kept:=fun q hq=>⟨(h.kept q hq).1,fun r hr=>(h.kept q hq).2 r (List.mem_cons_of_mem _ hr)⟩
 rows:=fun g hg=>⟨(h.rows g hg).1,fun b hb=>⟨fun r hr=>((h.rows g hg).2 b hb).1 r (List.mem_cons_of_mem _ hr),((h.rows g hg).2 b hb).2⟩⟩
 gdist:=h.gdist
theorem St.keep (K':List (Nat×World)) (h:St w0 O G K W) (hk:∀ q∈K',q∈K):St w0 O G K' W where
 below:=h.below
 own:=h.own
 dist:=h.dist
 kept:=fun q hq=>h.kept q (hk q hq)
 rows:=fun g hg=>⟨(h.rows g hg).1,fun b hb=>⟨((h.rows g hg).2 b hb).1,fun q hq=>((h.rows g hg).2 b hb).2 q (hk q hq)⟩⟩
 gdist:=h.gdist
theorem St.clear (h:St w0 O G K W):St w0 O G [] W:=h.keep [] (fun q hq=>by cases hq)
theorem St.newG (h:St w0 O G K W) (e:TypeId) (size:Nat):St w0 O (⟨.slice none 0 0,0,[],e,size⟩::G) K W where
 below:=h.below
 own:=h.own
 dist:=h.dist
 kept:=h.kept
 rows:=fun g hg=>by
  rcases List.mem_cons.1 hg with rfl | hg
  ·exact ⟨World.ownsRow_nil _ _ _ _,fun b hb=>by simp [Value.ownBlock] at hb⟩
  ·exact h.rows g hg
 gdist:=List.Pairwise.cons (fun g hg b hb=>by simp [Value.ownBlock] at hb) h.gdist
theorem St.tailG {g:GR} (h:St w0 O (g::G) K W):St w0 O G K W where
 below:=h.below
 own:=h.own
 dist:=h.dist
 kept:=h.kept
 rows:=fun r hr=>h.rows r (List.mem_cons_of_mem _ hr)
 gdist:=by cases h.gdist with | cons a b=>exact b
theorem St.row (h:St w0 O G K W) (i:Nat) {g:GR} (hi:G[i]?=some g):W.ownsRow w0.heap.size g.e g.size g.v g.n g.xs:=(h.rows g (List.mem_of_getElem? hi)).1
theorem fO {P:Program} {w:World} (base:Nat) (t ty e:TypeId) (i:TypeInfo) (z:Value) (ht:P.underlying t=some (.slice e)) (hi:P.info? e=some i) (hz:i.zero=some z) (hzs:z.cells.size=i.size) (hsz:0 < i.size)
  (v:Value) (n:Nat) (xs:List Value) (hown:w.ownsRow base e i.size v n xs) (a:Addr) (m c:Nat) (news:List Value) (hl:news.length=m * i.size) (hnews:∀ j u,news[j]?=some u→w.cell? (a.add j)=some u) (h1:∀ u∈news,u.oneCell'=true)
  (h63:n+m≤maxLen) (hbytes:(n+m) * i.bytes≤140737488355328) (hbase:base≤w.heap.size) :
  ∃ v' w',(Builtin.append_ #[t,t] ty #[v,.slice (some a) m c]).run P w = .ok v' w'∧w'.ownsRow base e i.size v' (n+m) (xs++news)∧w.grownBy w' v.ownBlock∧(v'.ownBlock=v.ownBlock∨v'.ownBlock=some w.heap.size):=by
 obtain ⟨v',w',hr,h2,h3,h4⟩:=run_append_own (P:=P) w base t ty e i z i.size i.bytes ht hi hz rfl rfl hzs hsz v n xs hown a m c news hl hnews h1 h63 hbytes hbase
 refine ⟨v',w',hr,h2,h3,?_⟩
 cases hv:v'.ownBlock with
 | none =>
  rcases h2.2 with ⟨rfl,hn⟩ | ⟨g,cap,cur,rfl,_⟩
  ·rw [(h4.1 rfl).1];exact .inl rfl
  ·simp [Value.ownBlock] at hv
 | some b =>
  by_cases hvb:v.ownBlock=some b
  ·exact .inl hvb.symm
  ·refine .inr ?_
   -- the block is no old one: append would have had to lie there before
   have hbig:=run_append_own (P:=P) w base t ty e i z i.size i.bytes ht hi hz rfl rfl hzs hsz v n xs hown a m c news hl hnews h1 h63 hbytes hbase
   rcases hown.2 with ⟨rfl,rfl⟩ | ⟨g,cap,cur,rfl,hbg,hg,hnc,hcm,hcs,htake⟩
   ·have hx:xs=[]:=List.eq_nil_of_length_eq_zero (by simpa using hown.1)
    subst hx
    by_cases hm:m=0
    ·subst hm
     have:=h4.2 ⟨rfl,rfl⟩
     subst this;simp [Value.ownBlock] at hv
    ·have hr2:=run_append_nil (P:=P) w t ty e i z ht hi hz a m c news hl hnews (by omega) (by simp only [maxLen] at h63;omega) (by have hb:=hbytes;simp only [Nat.zero_add] at hb;omega)
     rw [hr2] at hr
     simp only [Result.ok.injEq] at hr
     rw [← hr.1] at hv
     simpa [Value.ownBlock] using hv.symm
   ·by_cases hroom:n+m≤cap
    ·have hfit:n * i.size+news.length≤cur.size:=by rw [hl,hcs,← Nat.add_mul];exact Nat.mul_le_mul_right _ hroom
     have hr2:=run_append_room (P:=P) w t ty e i ht hi g n cap cur hg a m c news hl hnews h1 hroom hfit
     rw [hr2] at hr
     simp only [Result.ok.injEq] at hr
     rw [← hr.1] at hv
     exact absurd hv hvb
    ·have holds:∀ j u,xs[j]?=some u→w.cell? ((⟨g,0,none⟩:Addr).add j)=some u:=hown.cells (g:=g) rfl
     have hr2:=run_append_grow (P:=P) w t ty e i z ht hi hz ⟨g,0,none⟩ n cap xs hown.1 holds a m c news hl hnews (by omega) (by simp only [maxLen] at h63;omega) (growslice_fits (by omega) hbytes)
     rw [hr2] at hr
     simp only [Result.ok.injEq] at hr
     rw [← hr.1] at hv
     simpa [Value.ownBlock] using hv.symm
theorem mI:∀ {G:aQ} {i:Nat} {x y q:GR},G[i]?=some x→q∈G.set i y→G.Pairwise (fun g h=>Value.apart g.v h.v)→q=y∨(q∈G∧(Value.apart q.v x.v∨Value.apart x.v q.v))
 | [],_,_,_,_,h,_,_=>by simp at h
 | p::G,0,x,y,q,h,hq,hp=>by
  simp at h;subst h
  cases hp with
  | cons a b =>
   rcases List.mem_cons.1 hq with rfl | hq
   ·exact .inl rfl
   ·exact .inr ⟨List.mem_cons_of_mem _ hq,.inr (a q hq)⟩
 | p::G,i+1,x,y,q,h,hq,hp=>by
  cases hp with
  | cons a b =>
   rcases List.mem_cons.1 hq with rfl | hq
   ·exact .inr ⟨List.mem_cons_self,.inl (a x (List.mem_of_getElem? (by simpa using h)))⟩
   ·rcases mI (by simpa using h) hq b with h1 | ⟨h1,h2⟩
    ·exact .inl h1
    ·exact .inr ⟨List.mem_cons_of_mem _ h1,h2⟩
theorem oN:∀ {G:aQ} {i:Nat} {x y:GR},G[i]?=some x→(∀ q∈G,Value.apart q.v x.v→Value.apart q.v y.v)→(∀ q∈G,Value.apart x.v q.v→Value.apart y.v q.v)→G.Pairwise (fun g h=>Value.apart g.v h.v)→(G.set i y).Pairwise (fun g h=>Value.apart g.v h.v)
 | [],_,_,_,h,_,_,_=>by simp at h
 | p::G,0,x,y,h,k1,k2,hp=>by
  simp at h;subst h
  cases hp with
  | cons a b=>exact List.Pairwise.cons (fun q hq=>k2 q (List.mem_cons_of_mem _ hq) (a q hq)) b
 | p::G,i+1,x,y,h,k1,k2,hp=>by
  cases hp with
  | cons a b =>
   have hx:=a x (List.mem_of_getElem? (by simpa using h))
   refine List.Pairwise.cons (fun q hq=>?_) (oN (by simpa using h) (fun q hq=>k1 q (List.mem_cons_of_mem _ hq)) (fun q hq=>k2 q (List.mem_cons_of_mem _ hq)) b)
   rcases List.mem_or_eq_of_mem_set hq with hq | rfl
   ·exact a q hq
   ·exact k1 p List.mem_cons_self hx
theorem St.setG {W':World} (h:St w0 O G K W) (i:Nat) {g:GR} (hi:G[i]?=some g) {v':Value} {n':Nat} {xs':List Value} (hown:W'.ownsRow w0.heap.size g.e g.size v' n' xs') (hgr:W.grownBy W' g.v.ownBlock) (hv:v'.ownBlock=g.v.ownBlock∨v'.ownBlock=some W.heap.size) :
  St w0 O (G.set i ⟨v',n',xs',g.e,g.size⟩) K W' where
 below:=h.below.grown hgr h.below.size (fun k hk=>(h.glt (List.mem_of_getElem? hi) hk).1)
 own:=fun p hp=>by
  obtain ⟨h1,h2⟩:=h.own p hp
  refine ⟨h1,(hgr.block _ (cC h2) (fun e=>?_)).trans h2⟩
  exact ((h.rows g (List.mem_of_getElem? hi)).2 p.1 e.symm).1 p hp rfl
 dist:=h.dist
 kept:=fun q hq=>by
  obtain ⟨h1,h2⟩:=h.kept q hq
  refine ⟨⟨Nat.le_trans h1.1 hgr.size,fun b hb hb2=>(hgr.block b (Nat.lt_of_lt_of_le hb2 h1.1) (fun e=>?_)).trans (h1.2 b hb hb2)⟩,h2⟩
  have:=((h.rows g (List.mem_of_getElem? hi)).2 b e.symm).2 q hq
  omega
 rows:=fun r hr=>by
  rcases mI hi hr h.gdist with rfl | ⟨hr',hap⟩
  ·refine ⟨hown,fun b hb=>?_⟩
   rcases hv with e | e
   ·have hb':g.v.ownBlock=some b:=e▸hb
    exact (h.rows g (List.mem_of_getElem? hi)).2 b hb'
   ·have hb':W.heap.size=b:=by rw [show v'.ownBlock=some b from hb] at e;exact (Option.some.inj e).symm
    subst hb'
    exact ⟨fun p hp e=>by have:=cC (h.own p hp).2;omega,fun q hq=>.inr (h.kept q hq).1.1⟩
  ·refine ⟨dK (h.rows r hr').1 fun b hb=>hgr.block b (h.glt hr' hb).2 (fun e=>?_),(h.rows r hr').2⟩
   rcases hap with h1 | h1
   ·exact h1 b hb e.symm
   ·exact h1 b e.symm hb
 gdist:=oN hi (fun q hq hap b hb e=>by
   rcases hv with e' | e'
   ·exact hap b hb (e'▸e)
   ·rw [show v'.ownBlock=some b from e] at e'
    have:=(h.glt hq hb).2
    have:=Option.some.inj e';omega) (fun q hq hap b hb e=>by
   rcases hv with e' | e'
   ·exact hap b (e'▸hb) e
   ·rw [show v'.ownBlock=some b from hb] at e'
    have:=(h.glt hq e).2
    have:=Option.some.inj e';omega) h.gdist
def setMany (W:World) (B:Nat):Nat→List Value→World
 | _,[]=>W
 | j,v::r=>setMany (W.setCell ⟨B,j,none⟩ v) B (j+1) r
def bP (cs:List Value):Nat→List Value→List Value
 | _,[]=>cs
 | j,v::r=>bP (cs.set j v) (j+1) r
theorem St.setMany {T:TypeId} {B:Nat} (i:Nat):∀ (vs:List Value) (j:Nat) {O:Own} {W:World} {cs:List Value},St w0 O G K W→O[i]?=some (B,cs,T)→St w0 (O.set i (B,bP cs j vs,T)) G K (Go.Proofs.Ytpgmnbgkejiomaa.setMany W B j vs)
 | [],j,O,W,cs,h,hi=>by
  have:O.set i (B,cs,T)=O:=by
   apply List.ext_getElem?
   intro k
   rw [List.getElem?_set]
   by_cases hk:i=k
   ·subst hk;rw [if_pos rfl];rw [hi];simp [(List.getElem?_eq_some_iff.1 hi).1]
   ·rw [if_neg hk]
  unfold bP Go.Proofs.Ytpgmnbgkejiomaa.setMany
  rw [this];exact h
 | v::r,j,O,W,cs,h,hi=>by
  have h1:=h.set i hi j v
  have hi2:(O.set i (B,cs.set j v,T))[i]?=some (B,cs.set j v,T):=by
   rw [List.getElem?_set];rw [if_pos rfl];simp [(List.getElem?_eq_some_iff.1 hi).1]
  have h2:=St.setMany i r (j+1) h1 hi2
  rw [List.set_set] at h2
  exact h2
end
def aK (W:World) (b o:Nat):List Value→Prop
 | []=>True
 | v::r=>W.cell? ⟨b,o,none⟩=some v∧aK W b (o+1) r
theorem aK.get {W:World} {b:Nat}:∀ {vs:List Value} {o:Nat},aK W b o vs→∀ j v,vs[j]?=some v→W.cell? ⟨b,o+j,none⟩=some v
 | [],_,_,j,v,h=>by simp at h
 | u::r,o,hc,0,v,h=>by simp at h;subst h;exact hc.1
 | u::r,o,hc,j+1,v,h=>by rw [show o+(j+1)=o+1+j by omega];exact aK.get hc.2 j v (by simpa using h)
theorem aK.of {W:World} {b:Nat}:∀ {vs:List Value} {o:Nat},(∀ j v,vs[j]?=some v→W.cell? ⟨b,o+j,none⟩=some v)→aK W b o vs
 | [],_,_=>trivial
 | u::r,o,h=>⟨h 0 u rfl,aK.of fun j v hv=>by rw [show o+1+j=o+(j+1) by omega];exact h (j+1) v (by simpa using hv)⟩
theorem aK.agree {A W:World} {lo b:Nat} (hw:cU lo A W) (hb:lo≤b):∀ {vs:List Value} {o:Nat},aK A b o vs→aK W b o vs
 | [],_,_=>trivial
 | _::_,_,h=>⟨hw.cell hb h.1,aK.agree hw hb h.2⟩
theorem aK.own {W:World} {B:Nat} {cs:List Value} {T:TypeId} (h:W.heap[B]?=some (.cells cs.toArray T (0,0))) {j m:Nat} {vs:List Value} (hv:(cs.drop j).take m=vs):aK W B j vs:=by
 subst hv
 refine aK.of fun i v hi=>aE h ?_
 rw [List.getElem?_take] at hi
 split at hi
 ·rwa [List.getElem?_drop] at hi
 ·cases hi
section
variable {P:Program} {n:Nat} {Q:Exit→Act→World→Prop} {l:Fr} {w0 W:World} {ops:Array Oper} {os:List Oper} {O:Own} {G:aQ} {K:List (Nat×World)}
variable {d:Nat} {ty:TypeId} {pos:String} {aft:Array Edge} {v:Value}
theorem bE {x:Operand} {T:TypeId} {p:Addr} (hT:∀ w,(isAgg T).run P w = .ok false w) (hx:evL l x=some (.pointer (some p))) (hc:W.cell? p=some v):cE P l ⟨some d,.load T x,ty,pos,aft,none⟩ W (v) W:=fun ev he=>by unfold execOp;simp only [];rw [he x _ hx];simp [Instr.loadAt,Instr.sureAddr,loadVar,hT,run_load,hc]
theorem aI {x:Operand} {T:TypeId} {p:Addr} (hT:∀ w,(isAgg T).run P w = .ok false w) (hx:evL l x=some (.pointer (some p))) (hc:W.cell? p=some v) (hd:Nat.blt d n=true) (h:aT P n ops Q os ((d,v)::l) W):aT P n ops Q (⟨some d,.load T x,ty,pos,aft,none⟩::os) l W:=opV (bE hT hx hc) hd h
theorem fP {x:Operand} {T:TypeId} {b o:Nat} {vs:List Value} (hT:∀ w,(isAgg T).run P w = .ok true w) (hS:∀ w,(sizeOf T).run P w = .ok vs.length w) (hx:evL l x=some (.pointer (some ⟨b,o,none⟩))) (hc:aK W b o vs):cE P l ⟨some d,.load T x,ty,pos,aft,none⟩ W (.agg vs.toArray) W:=fun ev he=>by
  unfold execOp;simp only [];rw [he x _ hx]
  have:=run_loadCells_list (P:=P) W ⟨b,o,none⟩ vs (fun j u hj=>by rw [Addr.add_lit];exact hc.get j u hj)
  simp [Instr.loadAt,Instr.sureAddr,loadVar,hT,hS,this]
theorem aM {x:Operand} {T:TypeId} {b o:Nat} {vs:List Value} (hT:∀ w,(isAgg T).run P w = .ok true w) (hS:∀ w,(sizeOf T).run P w = .ok vs.length w) (hx:evL l x=some (.pointer (some ⟨b,o,none⟩))) (hc:aK W b o vs) (hd:Nat.blt d n=true) (h:aT P n ops Q os ((d,.agg vs.toArray)::l) W):aT P n ops Q (⟨some d,.load T x,ty,pos,aft,none⟩::os) l W:=opV (fP hT hS hx hc) hd h
theorem bZ {x:Operand} {T:TypeId} {cs:List Value} (hS:St w0 O G K W) (hx:evL l x=some v) (hcs:v.cells=cs.toArray) (hd:Nat.blt d n=true)
  (h:∀ B W',St w0 ((B,cs,T)::O) G K W'→aT P n ops Q os ((d,.pointer (some ⟨B,0,none⟩))::l) W'):aT P n ops Q (⟨some d,.box T x,ty,pos,aft,none⟩::os) l W :=
 opV (W':=W.alloc (.cells cs.toArray T)) (v:=.pointer (some ⟨W.heap.size,0,none⟩)) (fun ev he=>by unfold execOp;simp only [];rw [he x _ hx];simp [Instr.box,newVar,newRow,hcs]) hd (h _ _ (hS.alloc cs T))
theorem bH {T:TypeId} {z:Value} {cs:List Value} (hS:St w0 O G K W) (hz:∀ w,(zeroValue T).run P w = .ok z w) (hcs:z.cells=cs.toArray) (hd:Nat.blt d n=true)
  (h:∀ B W',St w0 ((B,cs,T)::O) G K W'→aT P n ops Q os ((d,.pointer (some ⟨B,0,none⟩))::l) W'):aT P n ops Q (⟨some d,.alloc T,ty,pos,aft,none⟩::os) l W :=
 opV (W':=W.alloc (.cells cs.toArray T)) (v:=.pointer (some ⟨W.heap.size,0,none⟩)) (fun ev he=>by unfold execOp;simp only [];simp [Instr.alloc,newVar,newRow,hz,hcs]) hd (h _ _ (hS.alloc cs T))
theorem kN {P:Program} {W:World} {p:Addr} {c v:Value} (hc:W.cell? p=some c) (hf:W.frozen? p=false) (hv:v.oneCell'=true):(store p v).run P W = .ok () (W.setCell p v):=by
 rw [run_store P W p v .plain hv,hc];simp [hf]
theorem dG {P:Program} {B:Nat} {U:TypeId}:∀ (vs:List Value) (j k:Nat) (W:World) (cs:List Value),W.heap[B]?=some (.cells cs.toArray U (0,0))→k+j+vs.length≤cs.length→(∀ u∈vs,u.oneCell'=true) →
  (storeCells ⟨B,k,none⟩ vs j).run P W = .ok () (setMany W B (k+j) vs)
 | [],j,k,W,cs,_,_,_=>by simp [storeCells,setMany]
 | v::r,j,k,W,cs,h,hl,h1=>by
  have hj':k+j < cs.length:=by simp at hl;omega
  have hc:W.cell? ⟨B,k+j,none⟩=some cs[k+j]:=aE h (by simp [hj'])
  have hfz:=jU (j:=k+j) h
  have ih:=dG (P:=P) r (j+1) k (W.setCell ⟨B,k+j,none⟩ v) (cs.set (k+j) v) (mH v h) (by simp at hl ⊢;omega) (fun u hu=>h1 u (List.mem_cons_of_mem _ hu))
  have hv:=h1 v List.mem_cons_self
  unfold setMany
  rw [show k+j+1=k+(j+1) by omega]
  rw [← ih]
  have hst:=kN (P:=P) hc hfz hv
  simp only [storeCells,Addr.add_lit,Sem.run_bind,hst,Result.andThen_ok]
theorem bO {T U:TypeId} {x y:Operand} {B j i:Nat} {cs cs':List Value} {O':Own} (hS:St w0 O G K W) (hsz:∀ w,(sizeOf T).run P w = .ok 1 w) (hx:evL l x=some (.pointer (some ⟨B,j,none⟩))) (hy:evL l y=some v) (hv:v.oneCell'=true) (hi:O[i]?=some (B,cs,U)) (hj:Nat.blt j cs.length=true)
  (hcs:cs.set j v=cs') (hO:O.set i (B,cs',U)=O') (h:∀ W',St w0 O' G K W'→aT P n ops Q os l W'):aT P n ops Q (⟨none,.store T x y,ty,pos,aft,none⟩::os) l W:=fun a ha=>by
 refine wpList_plain rfl fun K' hK=>?_
 unfold Oper.wp execOp
 simp only []
 rw [ha.ev x _ hx,ha.ev y _ hy]
 subst hcs;subst hO
 have hj':j < cs.length:=Nat.le_of_ble_eq_true hj
 have hc:W.cell? ⟨B,j,none⟩=some cs[j]:=aE (hS.at_ i hi) (by simp [hj'])
 have hfz:=jU (j:=j) (hS.at_ i hi)
 have h2:=h _ (hS.set i hi j v)
 have hcells:v.cells=#[v]:=by cases v<;>first | rfl | cases hv
 have hst:=dG (P:=P) [v] 0 j W cs (hS.at_ i hi) (by simp;omega) (fun u hu=>by simp at hu;subst hu;exact hv)
 simp only [Nat.add_zero,Go.Proofs.Ytpgmnbgkejiomaa.setMany] at hst
 have:(Instr.storeAt T (.pointer (some ⟨B,j,none⟩)) v).run P W = .ok () (W.setCell ⟨B,j,none⟩ v):=by
  simp [Instr.storeAt,Instr.sureAddr,storeVar,hsz,hcells,hst]
 simp only [Sem.run_bind,this,Result.andThen_ok,Sem.run_pure,Oper.upon_skip]
 exact hK _ _ (h2 _ ha)
theorem bI {T U:TypeId} {x y:Operand} {B j i:Nat} {cs cs' vs:List Value} {O':Own} (hS:St w0 O G K W) (hsz:∀ w,(sizeOf T).run P w = .ok vs.length w) (hx:evL l x=some (.pointer (some ⟨B,j,none⟩))) (hy:evL l y=some (.agg vs.toArray)) (hv:vs.all Value.oneCell'=true) (hi:O[i]?=some (B,cs,U)) (hj:Nat.ble (j+vs.length) cs.length=true)
  (hcs:bP cs j vs=cs') (hO:O.set i (B,cs',U)=O') (h:∀ W',St w0 O' G K W'→aT P n ops Q os l W'):aT P n ops Q (⟨none,.store T x y,ty,pos,aft,none⟩::os) l W:=fun a ha=>by
 refine wpList_plain rfl fun K' hK=>?_
 unfold Oper.wp execOp
 simp only []
 rw [ha.ev x _ hx,ha.ev y _ hy]
 subst hcs;subst hO
 have hj':j+vs.length≤cs.length:=Nat.le_of_ble_eq_true hj
 have h2:=h _ (hS.setMany i vs j hi)
 have hst:=dG (P:=P) vs 0 j W cs (hS.at_ i hi) (by omega) (fun u hu=>List.all_eq_true.1 hv u hu)
 rw [Nat.add_zero] at hst
 have:(Instr.storeAt T (.pointer (some ⟨B,j,none⟩)) (.agg vs.toArray)).run P W = .ok () (Go.Proofs.Ytpgmnbgkejiomaa.setMany W B j vs):=by
  simp [Instr.storeAt,Instr.sureAddr,storeVar,hsz,Value.cells,hst]
 simp only [Sem.run_bind,this,Result.andThen_ok,Sem.run_pure,Oper.upon_skip]
 exact hK _ _ (h2 _ ha)
theorem cA {T:TypeId} {x:Operand} {b o f k:Nat} (hF:∀ w b o,(Instr.fieldAt T (.pointer (some ⟨b,o,none⟩)) f).run P w = .ok (.pointer (some ⟨b,o+k,none⟩)) w) (hx:evL l x=some (.pointer (some ⟨b,o,none⟩))) {o':Nat} (ho:o+k=o'):cE P l ⟨some d,.fieldAddr T x f,ty,pos,aft,none⟩ W (.pointer (some ⟨b,o',none⟩)) W:=fun ev he=>by subst ho;unfold execOp;simp only [];rw [he x _ hx];simp [hF]
theorem aH {T:TypeId} {x:Operand} {b o f k:Nat} (hF:∀ w b o,(Instr.fieldAt T (.pointer (some ⟨b,o,none⟩)) f).run P w = .ok (.pointer (some ⟨b,o+k,none⟩)) w) (hx:evL l x=some (.pointer (some ⟨b,o,none⟩))) {o':Nat} (ho:o+k=o') (hd:Nat.blt d n=true) (h:aT P n ops Q os ((d,.pointer (some ⟨b,o',none⟩))::l) W):aT P n ops Q (⟨some d,.fieldAddr T x f,ty,pos,aft,none⟩::os) l W:=opV (cA hF hx ho) hd h
theorem cI {T e:TypeId} {x y:Operand} {b o m c j k:Nat} {ki:IntKind} {i:Int} (hU:P.underlying T=some (.slice e)) (hS:∀ w,(sizeOf e).run P w = .ok k w) (hx:evL l x=some (.slice (some ⟨b,o,none⟩) m c)) (hy:evL l y=some (.int ki i)) (hi:i=(j:Int)) (hj:j < m) {o':Nat} (ho:o+j * k=o'):cE P l ⟨some d,.indexAddr T x y,ty,pos,aft,none⟩ W (.pointer (some ⟨b,o',none⟩)) W:=fun ev he=>by
  subst ho;subst hi
  unfold execOp;simp only [];rw [he x _ hx,he y _ hy]
  have h0:(0:Int)≤(j:Int):=by omega
  have h1:(j:Int) < (m:Int):=by omega
  simp [Instr.indexAt,asIntOf,run_underlying hU,h0,h1,hS,hj,Addr.add_lit]
theorem aS {T e:TypeId} {x y:Operand} {b o m c j k:Nat} {ki:IntKind} {i:Int} (hU:P.underlying T=some (.slice e)) (hS:∀ w,(sizeOf e).run P w = .ok k w) (hx:evL l x=some (.slice (some ⟨b,o,none⟩) m c)) (hy:evL l y=some (.int ki i)) (hi:i=(j:Int)) (hj:j < m) {o':Nat} (ho:o+j * k=o') (hd:Nat.blt d n=true) (h:aT P n ops Q os ((d,.pointer (some ⟨b,o',none⟩))::l) W):aT P n ops Q (⟨some d,.indexAddr T x y,ty,pos,aft,none⟩::os) l W:=opV (cI hU hS hx hy hi hj ho) hd h
theorem eK {f:FuncId} {args:Array Operand} {ts:Array TypeId} {vs:List Value} {R:Ending→World→Prop} (hS:St w0 O G K W) (hgo:aZ P f=true) (ha:args.toList.map (evL l)=vs.map some) (hc:Calls P f vs.toArray W R)
  (hd:Nat.blt d n=true)
  (h:∀ e W',R e W'→∃ v,e = .returned v∧Below W.heap.size W W'∧(St w0 O G ((W.heap.size,W')::K) W'→aT P n ops Q os ((d,v)::l) W')):aT P n ops Q (⟨some d,.call { callee:=.value (.func f),args:=args,argTypes:=ts },ty,pos,aft,none⟩::os) l W:=fun a hl=>by
 refine wpList_plain rfl fun K' hK=>?_
 unfold Oper.wp
 rw [jQ P a.eval W f args ts _ rfl rfl hgo,Oper.upon_enter]
 have hargs:args.map a.eval=vs.toArray:=by
  have key:∀ (xs:List Operand) (us:List Value),xs.map (evL l)=us.map some→xs.map a.eval=us:=by
   intro xs
   induction xs with
   | nil=>intro us h;cases us<;>simp at h ⊢
   | cons x xs ih =>
    intro us h
    cases us with
    | nil=>simp at h
    | cons u us =>
     simp only [List.map_cons,List.cons.injEq] at h
     simp only [List.map_cons,hl.ev x u h.1,ih us h.2]
  apply Array.ext'
  rw [Array.toList_map,key _ _ ha]
 rw [hargs]
 refine hc.mono ?_
 intro e W' hRe
 obtain ⟨v,rfl,hb,hn⟩:=h e W' hRe
 exact hK _ _ (hn (hS.call hb) _ (hl.put hd))
theorem bV {f:FuncId} {args:Array Operand} {ts:Array TypeId} {vs:List Value} {u:Value} (hS:St w0 O G K W) (hgo:aZ P f=true) (ha:args.toList.map (evL l)=vs.map some) (hc:Calls P f vs.toArray W fun e w'=>e = .returned u∧Below W.heap.size W w')
  (hd:Nat.blt d n=true) (h:∀ W',St w0 O G ((W.heap.size,W')::K) W'→aT P n ops Q os ((d,u)::l) W'):aT P n ops Q (⟨some d,.call { callee:=.value (.func f),args:=args,argTypes:=ts },ty,pos,aft,none⟩::os) l W :=
 eK hS hgo ha hc hd fun _ W' hR=>⟨u,hR.1,hR.2,h W'⟩
theorem eD {t e:TypeId} {x y:Operand} {i:Nat} {g:GR} {b o m c:Nat} {news:List Value} {inf:TypeInfo} {z:Value} (hS:St w0 O G K W) (hU:P.underlying t=some (.slice e)) (hinf:P.info? e=some inf) (hz:inf.zero=some z) (hzs:z.cells.size=inf.size) (hsz:0 < inf.size)
  (hi:G[i]?=some g) (he:g.e=e) (hgs:g.size=inf.size) (hx:evL l x=some g.v) (hy:evL l y=some (.slice (some ⟨b,o,none⟩) m c)) (hc:aK W b o news) (hl:news.length=m * inf.size) (h1:news.all Value.oneCell'=true)
  (h63:g.n+m≤maxLen) (hbytes:(g.n+m) * inf.bytes≤140737488355328) (hd:Nat.blt d n=true)
  (h:∀ v' W',St w0 O (G.set i ⟨v',g.n+m,g.xs++news,e,g.size⟩) K W'→aT P n ops Q os ((d,v')::l) W') :
  aT P n ops Q (⟨some d,.call { callee:=.builtin .append,args:=#[x,y],argTypes:=#[t,t] },ty,pos,aft,none⟩::os) l W:=by
 subst he
 have hrow:=hS.row i hi
 rw [hgs] at hrow
 obtain ⟨v',W',hr,h2,h3,h4⟩:=fO (P:=P) (w:=W) w0.heap.size t ty g.e inf z hU hinf hz hzs hsz g.v g.n g.xs hrow ⟨b,o,none⟩ m c news hl (fun j u hj=>by rw [Addr.add_lit];exact hc.get j u hj) (fun u hu=>List.all_eq_true.1 h1 u hu) h63 hbytes hS.below.size
 rw [← hgs] at h2
 refine opV (W':=W') (v:=v') (fun ev hev=>?_) hd (h v' W' (hS.setG i hi h2 h3 h4))
 unfold execOp
 simp only [resolve,invoke,builtin,Sem.run_bind,Sem.run_pure,Result.andThen_ok,List.map_toArray,List.map_cons,List.map_nil,hev x _ hx,hev y _ hy,hr]
end
section
variable {P:Program} {n:Nat} {Q:Exit→Act→World→Prop} {l:Fr} {w0 W:World} {ops:Array Oper} {os:List Oper} {O:Own} {G:aQ} {K:List (Nat×World)}
variable {d:Nat} {ty:TypeId} {pos:String} {aft:Array Edge} {v:Value} {t u:TypeId} {x y:Operand} {k:IntKind} {a b:Int}
theorem cJ {op:BinOp} {ev:Operand→Value} {r:Value} {p q:Value} (hx:ev x=p) (hy:ev y=q) (hg:(eqGuard op t x y p q).run P W = .ok () W) (h:(binOp op t p q).run P W = .ok r W) :
  (execOp ev ⟨some d,.binOp op t x y u,ty,pos,aft,none⟩).run P W = .ok (.value r) W:=by
 unfold execOp;simp only [hx,hy,Sem.run_bind,hg,Result.andThen_ok,h,Sem.run_pure]
theorem dJ {op:BinOp}:(eqGuard op t x y (.int k a) (.int k b)).run P W = .ok () W:=by
 cases op<;>rfl
theorem rn_lss (hx:evL l x=some (.int k a)) (hy:evL l y=some (.int k b)):cE P l ⟨some d,.binOp .lss t x y u,ty,pos,aft,none⟩ W (.bool (decide (a < b))) W:=fun ev he=>cJ (he x _ hx) (he y _ hy) dJ (by simp [binOp,Op.intCmp])
theorem bG (hx:evL l x=some (.int k a)) (hy:evL l y=some (.int k b)) (hd:Nat.blt d n=true) (h:aT P n ops Q os ((d,.bool (decide (a < b)))::l) W):aT P n ops Q (⟨some d,.binOp .lss t x y u,ty,pos,aft,none⟩::os) l W:=opV (rn_lss hx hy) hd h
theorem rn_leq (hx:evL l x=some (.int k a)) (hy:evL l y=some (.int k b)):cE P l ⟨some d,.binOp .leq t x y u,ty,pos,aft,none⟩ W (.bool (decide (a≤b))) W:=fun ev he=>cJ (he x _ hx) (he y _ hy) dJ (by simp [binOp,Op.intCmp])
theorem nE (hx:evL l x=some (.int k a)) (hy:evL l y=some (.int k b)) (hd:Nat.blt d n=true) (h:aT P n ops Q os ((d,.bool (decide (a≤b)))::l) W):aT P n ops Q (⟨some d,.binOp .leq t x y u,ty,pos,aft,none⟩::os) l W:=opV (rn_leq hx hy) hd h
theorem rn_gtr (hx:evL l x=some (.int k a)) (hy:evL l y=some (.int k b)):cE P l ⟨some d,.binOp .gtr t x y u,ty,pos,aft,none⟩ W (.bool (decide (b < a))) W:=fun ev he=>cJ (he x _ hx) (he y _ hy) dJ (by simp [binOp,Op.intCmp])
theorem eG (hx:evL l x=some (.int k a)) (hy:evL l y=some (.int k b)) (hd:Nat.blt d n=true) (h:aT P n ops Q os ((d,.bool (decide (b < a)))::l) W):aT P n ops Q (⟨some d,.binOp .gtr t x y u,ty,pos,aft,none⟩::os) l W:=opV (rn_gtr hx hy) hd h
theorem rn_geq (hx:evL l x=some (.int k a)) (hy:evL l y=some (.int k b)):cE P l ⟨some d,.binOp .geq t x y u,ty,pos,aft,none⟩ W (.bool (decide (b≤a))) W:=fun ev he=>cJ (he x _ hx) (he y _ hy) dJ (by simp [binOp,Op.intCmp])
theorem eQ (hx:evL l x=some (.int k a)) (hy:evL l y=some (.int k b)) (hd:Nat.blt d n=true) (h:aT P n ops Q os ((d,.bool (decide (b≤a)))::l) W):aT P n ops Q (⟨some d,.binOp .geq t x y u,ty,pos,aft,none⟩::os) l W:=opV (rn_geq hx hy) hd h
theorem lE (hx:evL l x=some (.int k a)) (hy:evL l y=some (.int k b)):cE P l ⟨some d,.binOp .eql t x y u,ty,pos,aft,none⟩ W (.bool (decide (a=b))) W:=fun ev he=>cJ (he x _ hx) (he y _ hy) dJ (by simp [binOp,Op.intCmp];rfl)
theorem dZ (hx:evL l x=some (.int k a)) (hy:evL l y=some (.int k b)) (hd:Nat.blt d n=true) (h:aT P n ops Q os ((d,.bool (decide (a=b)))::l) W):aT P n ops Q (⟨some d,.binOp .eql t x y u,ty,pos,aft,none⟩::os) l W:=opV (lE hx hy) hd h
theorem lF (hx:evL l x=some (.int k a)) (hy:evL l y=some (.int k b)):cE P l ⟨some d,.binOp .neq t x y u,ty,pos,aft,none⟩ W (.bool (decide (a≠b))) W:=fun ev he=>cJ (he x _ hx) (he y _ hy) dJ (by simp [binOp,Op.intCmp];by_cases h:a=b<;>simp [h])
theorem fB (hx:evL l x=some (.int k a)) (hy:evL l y=some (.int k b)) (hd:Nat.blt d n=true) (h:aT P n ops Q os ((d,.bool (decide (a≠b)))::l) W):aT P n ops Q (⟨some d,.binOp .neq t x y u,ty,pos,aft,none⟩::os) l W:=opV (lF hx hy) hd h
theorem rn_eqlB {p q:Bool} (hB:P.underlying t=some .bool) (hx:evL l x=some (.bool p)) (hy:evL l y=some (.bool q)):cE P l ⟨some d,.binOp .eql t x y u,ty,pos,aft,none⟩ W (.bool (p == q)) W:=fun ev he=>cJ (he x _ hx) (he y _ hy) rfl (run_eql_bool W t p q hB)
theorem oO {p q:Bool} (hB:P.underlying t=some .bool) (hx:evL l x=some (.bool p)) (hy:evL l y=some (.bool q)) (hd:Nat.blt d n=true) (h:aT P n ops Q os ((d,.bool (p == q))::l) W):aT P n ops Q (⟨some d,.binOp .eql t x y u,ty,pos,aft,none⟩::os) l W:=opV (rn_eqlB hB hx hy) hd h
theorem rn_add {c:Int} (hx:evL l x=some (.int k a)) (hy:evL l y=some (.int k b)) (hw:k.wrap (a+b)=c):cE P l ⟨some d,.binOp .add t x y u,ty,pos,aft,none⟩ W (.int k c) W:=fun ev he=>by subst hw;exact cJ (he x _ hx) (he y _ hy) dJ (by simp [binOp,Op.intArith])
theorem aV {c:Int} (hx:evL l x=some (.int k a)) (hy:evL l y=some (.int k b)) (hw:k.wrap (a+b)=c) (hd:Nat.blt d n=true) (h:aT P n ops Q os ((d,.int k c)::l) W):aT P n ops Q (⟨some d,.binOp .add t x y u,ty,pos,aft,none⟩::os) l W:=opV (rn_add hx hy hw) hd h
theorem rN {c:Int} (hx:evL l x=some (.int k a)) (hy:evL l y=some (.int k b)) (hw:k.wrap (a - b)=c):cE P l ⟨some d,.binOp .sub t x y u,ty,pos,aft,none⟩ W (.int k c) W:=fun ev he=>by subst hw;exact cJ (he x _ hx) (he y _ hy) dJ (by simp [binOp,Op.intArith])
theorem lG {c:Int} (hx:evL l x=some (.int k a)) (hy:evL l y=some (.int k b)) (hw:k.wrap (a - b)=c) (hd:Nat.blt d n=true) (h:aT P n ops Q os ((d,.int k c)::l) W):aT P n ops Q (⟨some d,.binOp .sub t x y u,ty,pos,aft,none⟩::os) l W:=opV (rN hx hy hw) hd h
theorem gR {ev:Operand→Value} (he:∀ x u,evL l x=some u→ev x=u):∀ (xs:List (Nat×Operand)) (us:List (Nat×Value)),xs.map (fun p=>(p.1,evL l p.2))=us.map (fun p=>(p.1,some p.2))→xs.map (fun p=>(p.1,ev p.2))=us
 | [],us,h=>by cases us<;>simp at h ⊢
 | x::xs,us,h=>by
  cases us with
  | nil=>simp at h
  | cons u us =>
   simp only [List.map_cons,List.cons.injEq,Prod.mk.injEq] at h
   obtain ⟨⟨h1,h2⟩,h3⟩:=h
   simp only [List.map_cons,he _ _ h2,h1,gR he xs us h3]
theorem rO {T:TypeId} {xs:List (Nat×Operand)} {us:List (Nat×Value)} {cs:Array Value} (hp:xs.map (fun p=>(p.1,evL l p.2))=us.map (fun p=>(p.1,some p.2))) (hb:P.built T us=some cs):cE P l ⟨some d,.build T xs.toArray,ty,pos,aft,none⟩ W (.agg cs) W:=fun ev he=>by
  have h1:=gR he xs us hp
  have h2:(Array.map (fun p=>(p.1,ev p.2)) xs.toArray)=us.toArray:=by simp [h1]
  have h3:=run_build W T us.toArray cs (P:=P) (by simpa using hb)
  unfold execOp
  simp only []
  rw [h2]
  simp [h3]
theorem dB {T:TypeId} {xs:List (Nat×Operand)} {us:List (Nat×Value)} {cs:Array Value} (hp:xs.map (fun p=>(p.1,evL l p.2))=us.map (fun p=>(p.1,some p.2))) (hb:P.built T us=some cs) (hd:Nat.blt d n=true) (h:aT P n ops Q os ((d,.agg cs)::l) W):aT P n ops Q (⟨some d,.build T xs.toArray,ty,pos,aft,none⟩::os) l W:=opV (rO hp hb) hd h
theorem bC {T e:TypeId} {m s:Nat} {xs:List (Nat×Operand)} {us:List (Nat×Value)} {z:Value} {cs:List Value} (hS:St w0 O G K W) (hU:P.underlying T=some (.slice e)) (hs:∀ w,(sizeOf e).run P w = .ok s w) (hz:∀ w,(zeroValue e).run P w = .ok z w)
  (hm:Nat.ble (m * s) 16777216=true) (hm0:Nat.beq (m * s) 0=false) (hp:xs.map (fun p=>(p.1,evL l p.2))=us.map (fun p=>(p.1,some p.2)))
  (hf:Instr.fill (fun i=>some (i * s,s)) ((Array.range (m * s)).map (z.cells[· % z.cells.size]!)) us=some cs.toArray) (hd:Nat.blt d n=true)
  (h:∀ B W',St w0 ((B,cs,e)::O) G K W'→aT P n ops Q os ((d,.slice (some ⟨B,0,none⟩) m m)::l) W'):aT P n ops Q (⟨some d,.buildSlice T m xs.toArray,ty,pos,aft,none⟩::os) l W :=
 opV (W':=W.alloc (.cells cs.toArray e)) (v:=.slice (some ⟨W.heap.size,0,none⟩) m m) (fun ev he=>by
  have h1:=gR he xs us hp
  have h2:(Array.map (fun p=>(p.1,ev p.2)) xs.toArray)=us.toArray:=by simp [h1]
  have h4:m * s≤16777216:=Nat.le_of_ble_eq_true hm
  have h5:m * s≠0:=fun e=>by rw [e] at hm0;cases hm0
  have h6:¬ (m * s > 2 ^ 24):=by omega
  unfold execOp
  simp only []
  rw [h2]
  simp only [Instr.buildSlice,Sem.run_bind,run_underlying hU,Result.andThen_ok,hs,if_neg h6,if_neg h5,hz,Sem.run_pure,hf,newRow,run_newObj_alloc]) hd (h _ _ (hS.alloc cs e))
theorem lH {T e:TypeId} {ad:Option Addr} {m c j s:Nat} {i:Int} (hU:P.underlying T=some (.slice e)) (hs:∀ w,(sizeOf e).run P w = .ok s w) (hx:evL l x=some (.slice ad m c)) (hy:evL l y=some (.int k i)) (hi:i=(j:Int)) (hj:j≤m) :
  cE P l ⟨some d,.slice T x (some y) none none,ty,pos,aft,none⟩ W (.slice (if c=j then ad else ad.map (·.add (j * s))) (m - j) (c - j)) W:=fun ev he=>by
 subst hi
 unfold execOp;simp only [Option.map_some,Option.map_none];rw [he x _ hx,he y _ hy]
 have h0:(0:Int)≤(j:Int):=by omega
 have h1:(j:Int)≤(m:Int):=by omega
 simp [Instr.sliceAt,Instr.slice,Instr.sliceBounds,Instr.sliceBound,run_underlying hU,asIntOf,hj,hs]
theorem op_make {T e:TypeId} {inf:TypeInfo} {z:Value} {m:Nat} {i1 i2:Int} {k2:IntKind} {cs:List Value} (hS:St w0 O G K W) (hU:P.underlying T=some (.slice e)) (hinf:P.info? e=some inf) (hz:inf.zero=some z) (hx:evL l x=some (.int k i1)) (hy:evL l y=some (.int k2 i2)) (h1:i1=(m:Int)) (h2:i2=(m:Int))
  (hcs:madeCells z.cells (m * inf.size)=cs.toArray) (hb:(inf.bytes:Int) * m≤281474976710656) (h63:(m:Int)≤9223372036854775807) (hd:Nat.blt d n=true)
  (h:∀ B W',St w0 ((B,cs,e)::O) G K W'→aT P n ops Q os ((d,.slice (some ⟨B,0,none⟩) m m)::l) W'):aT P n ops Q (⟨some d,.makeSlice T x y,ty,pos,aft,none⟩::os) l W :=
 opV (W':=W.alloc (.cells cs.toArray e)) (v:=.slice (some ⟨W.heap.size,0,none⟩) m m) (fun ev he=>by
  subst h1;subst h2
  have hr:=run_make (P:=P) W T e inf z hU hinf hz k k2 m m (by omega) (by omega) hb h63
  rw [Int.toNat_natCast,hcs] at hr
  unfold execOp;simp only [];rw [he x _ hx,he y _ hy]
  simp only [Sem.run_bind,hr,Result.andThen_ok,Sem.run_pure]) hd (h _ _ (hS.alloc cs e))
theorem resC1 {fn:Func} {r:Nat} {T:TypeId} {B o:Nat} {vs:List Value} (hf:fn.results=#[.cell r T]) (hT:∀ w,(isAgg T).run P w = .ok true w) (hS:∀ w,(sizeOf T).run P w = .ok vs.length w) (hl:look l r=some (.pointer (some ⟨B,o,none⟩))) (hc:aK W B o vs) :
  ∀ a,Has n l a→(results fn a.tmps).run P W = .ok (.agg vs.toArray) W:=fun a ha=>by
 have h1:=run_loadCells_list (P:=P) W ⟨B,o,none⟩ vs (fun j u hj=>by rw [Addr.add_lit];exact hc.get j u hj)
 have h2:=ha.at_ r _ hl
 rw [Array.getD_eq_getD_getElem?] at h2
 simp [results,hf,h2,asAddr,loadVar,hT,hS,h1]
theorem rP {fn:Func} {r t:Nat} {T:TypeId} {B o:Nat} {vs:List Value} {x:Value} (hf:fn.results=#[.cell r T,.tmp t]) (hT:∀ w,(isAgg T).run P w = .ok true w) (hS:∀ w,(sizeOf T).run P w = .ok vs.length w) (hl:look l r=some (.pointer (some ⟨B,o,none⟩))) (hc:aK W B o vs) (hx:look l t=some x) :
  ∀ a,Has n l a→(results fn a.tmps).run P W = .ok (.tuple #[.agg vs.toArray,x]) W:=fun a ha=>by
 have h1:=run_loadCells_list (P:=P) W ⟨B,o,none⟩ vs (fun j u hj=>by rw [Addr.add_lit];exact hc.get j u hj)
 have h2:=ha.at_ r _ hl
 have h3:=ha.at_ t _ hx
 rw [Array.getD_eq_getD_getElem?] at h2 h3
 simp [results,hf,h2,h3,asAddr,loadVar,hT,hS,h1]
end
section
variable {P:Program} {n:Nat} {Q:Exit→Act→World→Prop} {l:Fr} {w0 W:World} {ops:Array Oper} {os:List Oper} {O:Own} {G:aQ} {K:List (Nat×World)} {L:List Asr} {i:Nat}
def RG (P:Program) (n:Nat) (ops:Array Oper) (Q:Exit→Act→World→Prop) (l:Fr) (W:World) (L:List Asr) (i:Nat):Prop:=∀ a,Has n l a→RS P ops Q a.tmps W L i
def AllG (P:Program) (n:Nat) (ops:Array Oper) (Q:Exit→Act→World→Prop) (l:Fr) (W:World) (L:List Asr):Nat→Nat→Prop
 | 0,_=>True
 | m+1,k=>RG P n ops Q l W L k∧AllG P n ops Q l W L m (k+1)
theorem kV {a:Act} (ha:Has n l a):∀ {m k:Nat},AllG P n ops Q l W L m k→jG (RS P ops Q a.tmps W L) m k
 | 0,_,_=>trivial
 | m+1,k,h=>⟨h.1 a ha,kV ha h.2⟩
def OpG (n:Nat) (ops:Array Oper) (l:Fr) (L:List Asr) (i t:Nat) (p:Asr):Prop:=∀ a,Has n l a→OpI ops a.tmps L i (.tmp t) p
theorem g_fr {t:Nat} {v:Value} (hf:cB ops t=true) (hv:look l t=some v):OpG n ops l L i t (isV v):=fun a ha=>opF hf (ha.at_ t v hv)
theorem iZ {t:Nat} {v:Value} (hv:look l t=some v) (hf:cB ops t=true:=by kernel_rfl):OpG n ops l L i t (isV v):=g_fr hf hv
theorem g_dep (j:Nat) {t:Nat} {p:Asr} (hw:aN ops i j t=true) (hL:atI L j=p):OpG n ops l L i t p:=fun a ha=>opD j t hw hL
theorem bW (j:Nat) {t:Nat} {p:Asr} (hL:atI L j=p) (hw:aN ops i j t=true:=by kernel_rfl):OpG n ops l L i t p:=g_dep j hw hL
def lI (n:Nat) (ops:Array Oper) (l:Fr) (L:List Asr) (i:Nat):Fr→Prop
 | []=>True
 | p::r=>OpG n ops l L i p.1 (isV p.2)∧lI n ops l L i r
theorem eV {t0:Act} (h0:Has n l t0) {a:Act} {w:World} (hF:∀ t,cB ops t=true→a.eval (.tmp t)=t0.tmps.getD t undef) (hD:∀ j d,aN ops i j d=true→atI L j (a.eval (.tmp d)) w) :
  ∀ {li:Fr},lI n ops l L i li→∀ x u,evL li x=some u→a.eval x=u:=by
 have key:∀ {li:Fr},lI n ops l L i li→∀ t v,look li t=some v→a.eval (.tmp t)=v:=by
  intro li
  induction li with
  | nil=>intro _ t v h;cases h
  | cons p r ih =>
   intro h t v hv
   unfold look at hv
   cases hb:Nat.beq p.1 t with
   | true =>
    simp only [hb,cond_true,Option.some.injEq] at hv
    rw [← Nat.eq_of_beq_eq_true hb,← hv]
    exact h.1 t0 h0 a w hF hD
   | false =>
    simp only [hb,cond_false] at hv
    exact ih h.2 t v hv
 intro li hli x u hx
 cases x with
 | tmp t=>exact key hli t u hx
 | const c=>exact Option.some.inj hx
 | global g=>exact Option.some.inj hx
 | func f=>exact Option.some.inj hx
theorem fC (ev:Operand→Value) (dst:Option Tmp) (op:Op) (ty:TypeId) (pos pos':String) (aft aft':Array Edge) (g g':Option (Nat×Bool)):execOp ev ⟨dst,op,ty,pos,aft,g⟩=execOp ev ⟨dst,op,ty,pos',aft',g'⟩:=by unfold execOp;rfl
variable {d:Nat} {op:Op} {ty:TypeId} {pos:String} {aft:Array Edge} {v:Value} {gd:Option (Nat×Bool)}
theorem rgV (li:Fr) (hi:ops[i]?=some ⟨some d,op,ty,pos,aft,gd⟩) (hw:iY ops L i ⟨some d,op,ty,pos,aft,gd⟩) (hli:lI n ops l L i li) (hr:∀ w,Below W.heap.size W w→cE P li ⟨some d,op,ty,pos,#[],none⟩ w v w) (hI:atI L i=isV v):RG P n ops Q l W L i :=
 fun a ha=>rI hi hw fun b w hF hG hD=>⟨v,w,by rw [fC b.eval _ _ _ _ pos _ #[] _ none];exact hr w hG b.eval (eV ha hF hD hli),by rw [hI];rfl,Below.refl _ _⟩
theorem rgVe (li:Fr) {v':Value} (hi:ops[i]?=some ⟨some d,op,ty,pos,aft,gd⟩) (hw:iY ops L i ⟨some d,op,ty,pos,aft,gd⟩) (hli:lI n ops l L i li) (hr:∀ w,Below W.heap.size W w→cE P li ⟨some d,op,ty,pos,#[],none⟩ w v w) (he:v=v') (hI:atI L i=isV v'):RG P n ops Q l W L i:=by
 subst he;exact rgV li hi hw hli hr hI
theorem bX {o:Oper} (h:o.guard=none):iY ops L i o:=.inl h
def AllP (n:Nat) (ops:Array Oper) (l:Fr) (L:List Asr) (i:Nat):List Operand→List Asr→Prop
 | [],[]=>True
 | x::xs,p::ps=>(∀ a,Has n l a→OpI ops a.tmps L i x p)∧AllP n ops l L i xs ps
 | _,_=>False
def Holds:List Asr→List Value→World→Prop
 | [],[],_=>True
 | p::ps,v::vs,w=>p v w∧Holds ps vs w
 | _,_,_=>False
def fD:List Oper→List Asr→Fr→(Fr→World→Prop)→World→Prop
 | [],_,l,K,W=>K l W
 | o::os,L,l,K,W=>∀ v,atI L 0 v W→fD os L.tail ((match o.dst with | some d=>[(d,v)] | none=>[])++l) K W
theorem bU {c:Value} {K:Fr→World→Prop} {dst:Nat} {op:Op} {ty:TypeId} {pos:String} {aft:Array Edge} {g:Option (Nat×Bool)} (h:fD os L ((dst,c)::l) K W):fD (⟨some dst,op,ty,pos,aft,g⟩::os) (isV c::L) l K W:=fun v hv=>by
 have:v=c:=hv
 subst this;exact h
theorem rQ {p:Asr} {K:Fr→World→Prop} {dst:Nat} {op:Op} {ty:TypeId} {pos:String} {aft:Array Edge} {g:Option (Nat×Bool)} (h:∀ v,p v W→fD os L ((dst,v)::l) K W):fD (⟨some dst,op,ty,pos,aft,g⟩::os) (p::L) l K W:=fun v hv=>h v hv
theorem fE {K:Fr→World→Prop} (h:K l W):fD [] L l K W:=h
theorem fQ (L:List Asr) (i:Nat):atI L.tail i=atI L (i+1):=by cases L<;>rfl
theorem oP {a:Act} {K:Fr→World→Prop} {G:Prop}:∀ (os:List Oper) (L:List Asr) (l:Fr),(∀ i d,i < os.length→(os[i]?).bind (·.dst)=some d→atI L i (a.tmps.getD d undef) W)→a.tmps.size=n→a.defers=[] →
  (∀ t v,look l t=some v→(∀ o∈os,o.dst≠some t)→a.tmps.getD t undef=v)→(∀ o∈os,∃ d,o.dst=some d)→(hK:∀ l',K l' W→Has n l' a→G)→fD os L l K W→G
 | [],L,l,hI,hs,hd,hl,_,hK,h=>hK l h ⟨hs,hd,fun t v hv=>hl t v hv (fun o ho=>by cases ho)⟩
 | o::os,L,l,hI,hs,hd,hl,hdst,hK,h=>by
  obtain ⟨d,hod⟩:=hdst o List.mem_cons_self
  have h0:=hI 0 d (by simp) (by simp [hod])
  have h1:=h _ h0
  refine oP os L.tail _ (fun i e hi he=>by rw [fQ];exact hI (i+1) e (by simpa using hi) (by simpa using he)) hs hd ?_ (fun o ho=>hdst o (List.mem_cons_of_mem _ ho)) hK h1
  intro t v hv hno
  rw [hod] at hv
  simp only [List.cons_append,List.nil_append] at hv
  unfold look at hv
  cases hb:Nat.beq d t with
  | true =>
   simp only [hb,cond_true,Option.some.injEq] at hv
   rw [← Nat.eq_of_beq_eq_true hb];exact hv
  | false =>
   simp only [hb,cond_false] at hv
   refine hl t v hv (fun o' ho'=>?_)
   rcases List.mem_cons.1 ho' with rfl | ho'
   ·rw [hod];intro e;rw [Option.some.inj e,Nat.beq_refl] at hb;cases hb
   ·exact hno o' ho'
theorem regD {id:Nat} (hm:P.follows .mixedOrders=true) (L:List Asr) (hS:St w0 O G K W) (ht:cS os.toArray n=true) (hdst:os.all (fun o=>o.dst.isSome)=true) {m:Nat} (hlen:os.length=m)
  (hstep:AllG P n os.toArray Q l W L m 0) (hst:mD L)
  (hfin:∀ W',Below W.heap.size W W'→St w0 O G ((W.heap.size,W')::K) W'→fD os L l (fun l' W'=>XF Q .normal n l' W') W'):cQ P n (.region id os.toArray true) Q l W:=fun a ha=>by
 subst hlen
 refine jD hm L (by rw [ha.size];exact ht) hst (by have:=kV ha hstep;simpa using this) ?_
 intro a' W' hs hd hf hG hI
 refine oP os L l (fun i d hi hd'=>hI i d (by simpa using hi) (by simpa using hd')) (hs.trans ha.size) (hd.trans ha.defers) ?_ (fun o ho=>?_) (fun l' h ha'=>h a' ha') (hfin W' hG (hS.call hG))
 ·intro t v hv hno
  rw [hf t (by unfold cB;rw [Array.all_eq_true'];intro o ho;simpa using hno o (by simpa using ho))]
  exact ha.at_ t v hv
 ·have:=List.all_eq_true.1 hdst o ho
  exact Option.isSome_iff_exists.1 this
theorem gC:∀ (L:List Asr) (i:Nat),i < L.length→some (atI L i)=L[i]?
 | [],i,h=>by simp at h
 | p::L,0,_=>rfl
 | p::L,i+1,h=>by rw [List.getElem?_cons_succ];exact gC L i (by simpa using h)
theorem bQ {p:Asr} {Lr:List Asr} (h:Lr.length=i):atI (p::Lr).reverse i=p:=by
 have:=gC (p::Lr).reverse i (by simp;omega)
 rw [List.getElem?_reverse (by simp;omega)] at this
 simp only [List.length_cons,h,show i+1 - 1 - i=0 by omega,List.getElem?_cons_zero,Option.some.injEq] at this
 exact this
theorem bR {Lr:List Asr} {j:Nat} {p:Asr} (h:Lr.length=i+1) (hj:Nat.ble j i=true) (hL:atI Lr (i - j)=p):atI Lr.reverse j=p:=by
 have hj':j≤i:=Nat.le_of_ble_eq_true hj
 have h1:=gC Lr.reverse j (by simp;omega)
 rw [List.getElem?_reverse (by omega)] at h1
 have h2:=gC Lr (i - j) (by omega)
 rw [show Lr.length - 1 - j=i - j by omega,← h2,hL] at h1
 exact Option.some.inj h1
theorem RG.ext {L1 L2:List Asr} (ht:cS ops n=true) (hag:∀ j,j≤i→atI L1 j=atI L2 j) (h:RG P n ops Q l W L1 i):RG P n ops Q l W L2 i:=fun a ha=>by
 have h1:=h a ha
 intro b w hF hG hD
 have hlt:∀ j d,aN ops i j d=true→j < i:=fun j d hw=>by
  cases ho:ops[i]? with
  | none=>simp [aN,ho] at hw
  | some o =>
   simp only [aN,ho,Bool.and_eq_true,beq_iff_eq] at hw
   obtain ⟨e,he,h2⟩:=Array.any_eq_true'.1 hw.1
   simp only [Bool.and_eq_true,beq_iff_eq] at h2
   rw [← h2.1];exact eZ ht ho e he h2.2
 have h2:=h1 b w hF hG (fun j d hw=>by rw [hag j (Nat.le_of_lt (hlt j d hw))];exact hD j d hw)
 rw [hag i (Nat.le_refl _)] at h2
 exact h2
def BL (P:Program) (n:Nat) (ops:Array Oper) (Q:Exit→Act→World→Prop) (l:Fr) (W:World) (Goal:List Asr→Prop):Nat→List Asr→Nat→Prop
 | 0,Lr,_=>Goal Lr
 | m+1,Lr,k=>∃ p,nC p∧RG P n ops Q l W (p::Lr).reverse k∧BL P n ops Q l W Goal m (p::Lr) (k+1)
variable {Goal:List Asr→Prop}
theorem lJ {Lr:List Asr} {k:Nat} (h:Goal Lr):BL P n ops Q l W Goal 0 Lr k:=h
theorem dL {m k:Nat} {Lr:List Asr} (k':Nat) (hk:k+1=k') (p:Asr) (hs:nC p) (h:RG P n ops Q l W (p::Lr).reverse k) (hr:BL P n ops Q l W Goal m (p::Lr) k'):BL P n ops Q l W Goal (m+1) Lr k:=by
 subst hk;exact ⟨p,hs,h,hr⟩
theorem bl_f {m k:Nat} {Lr:List Asr} {x u:Value} (k':Nat) (hk:k+1=k') (t:Nat) (hi:ops[k]?=some ⟨some d,op,ty,pos,aft,none⟩) (hf:cB ops t=true) (hv:look l t=some u) (hr:∀ w,Below W.heap.size W w→cE P [(t,u)] ⟨some d,op,ty,pos,#[],none⟩ w x w) (hl:Lr.length=k) (h:BL P n ops Q l W Goal m (isV x::Lr) k'):BL P n ops Q l W Goal (m+1) Lr k :=
 dL k' hk (isV x) (dA x) (rgV [(t,u)] hi (bX rfl) ⟨g_fr hf hv,trivial⟩ hr (bQ hl)) h
theorem fR {m k:Nat} {Lr:List Asr} {x u:Value} (k':Nat) (hk:k+1=k') (t:Nat) (hi:ops[k]?=some ⟨some d,op,ty,pos,aft,none⟩) (hv:look l t=some u) (hr:∀ w,Below W.heap.size W w→cE P [(t,u)] ⟨some d,op,ty,pos,#[],none⟩ w x w) (hl:Lr.length=k) (h:BL P n ops Q l W Goal m (isV x::Lr) k') (hf:cB ops t=true:=by kernel_rfl):BL P n ops Q l W Goal (m+1) Lr k:=bl_f k' hk t hi hf hv hr hl h
theorem bl_d {m k:Nat} {Lr:List Asr} {x u:Value} (k':Nat) (hk:k+1=k') (t j:Nat) (hi:ops[k]?=some ⟨some d,op,ty,pos,aft,none⟩) (hw:aN ops k j t=true) (hj:Nat.ble j k=true) (hL:atI (isV x::Lr) (k - j)=isV u) (hr:∀ w,Below W.heap.size W w→cE P [(t,u)] ⟨some d,op,ty,pos,#[],none⟩ w x w) (hl:Lr.length=k) (h:BL P n ops Q l W Goal m (isV x::Lr) k'):BL P n ops Q l W Goal (m+1) Lr k :=
 dL k' hk (isV x) (dA x) (rgV [(t,u)] hi (bX rfl) ⟨g_dep j hw (bR (by rw [List.length_cons,hl]) hj hL),trivial⟩ hr (bQ hl)) h
theorem cW {m k:Nat} {Lr:List Asr} {x u:Value} (k':Nat) (hk:k+1=k') (t j:Nat) (hi:ops[k]?=some ⟨some d,op,ty,pos,aft,none⟩) (hj:Nat.ble j k=true) (hL:atI (isV x::Lr) (k - j)=isV u) (hr:∀ w,Below W.heap.size W w→cE P [(t,u)] ⟨some d,op,ty,pos,#[],none⟩ w x w) (hl:Lr.length=k) (h:BL P n ops Q l W Goal m (isV x::Lr) k') (hw:aN ops k j t=true:=by kernel_rfl):BL P n ops Q l W Goal (m+1) Lr k:=bl_d k' hk t j hi hw hj hL hr hl h
theorem mJ:∀ {L:List Asr},(∀ p∈L,nC p)→mD L
 | [],_=>trivial
 | p::L,h=>⟨h p List.mem_cons_self,mJ fun q hq=>h q (List.mem_cons_of_mem _ hq)⟩
theorem gS {A B:List Asr} {j:Nat} (h:j < A.length):atI (A++B) j=atI A j:=by
 have h1:=gC (A++B) j (by simp;omega)
 have h2:=gC A j h
 rw [List.getElem?_append_left h,← h2] at h1
 exact Option.some.inj h1
theorem rR (ht:cS ops n=true):∀ (m k:Nat) (Lr:List Asr),Lr.length=k→(∀ p∈Lr,nC p)→(∀ i,i < k→RG P n ops Q l W Lr.reverse i)→BL P n ops Q l W Goal m Lr k →
  ∃ Lr',Lr'.length=k+m∧(∀ p∈Lr',nC p)∧(∀ i,i < k+m→RG P n ops Q l W Lr'.reverse i)∧Goal Lr'
 | 0,k,Lr,hl,hs,hg,h=>⟨Lr,hl,hs,hg,h⟩
 | m+1,k,Lr,hl,hs,hg,⟨p,hp,hr,hn⟩=>by
  obtain ⟨L',h1,h2,h3,h4⟩:=rR ht m (k+1) (p::Lr) (by simp [hl]) (fun q hq=>by
   rcases List.mem_cons.1 hq with rfl | hq
   ·exact hp
   ·exact hs q hq) (fun i hi=>by
   by_cases hik:i=k
   ·subst hik;exact hr
   ·refine RG.ext ht (fun j hj=>?_) (hg i (by omega))
    rw [List.reverse_cons,gS (by simp;omega)]) hn
  exact ⟨L',by omega,h2,fun i hi=>h3 i (by omega),h4⟩
theorem oQ {L:List Asr}:∀ (m k:Nat),(∀ i,i < k+m→RG P n ops Q l W L i)→AllG P n ops Q l W L m k
 | 0,_,_=>trivial
 | m+1,k,h=>⟨h k (by omega),oQ m (k+1) fun i hi=>h i (by omega)⟩
theorem regB {id:Nat} {m:Nat} (hm:P.follows .mixedOrders=true) (hS:St w0 O G K W) (ht:cS os.toArray n=true) (hdst:os.all (fun o=>o.dst.isSome)=true) (hlen:os.length=m)
  (h:BL P n os.toArray Q l W (fun Lr=>∀ W',Below W.heap.size W W'→St w0 O G ((W.heap.size,W')::K) W'→fD os Lr.reverse l (fun l' W'=>XF Q .normal n l' W') W') m [] 0):cQ P n (.region id os.toArray true) Q l W:=by
 obtain ⟨Lr,h1,h2,h3,h4⟩:=rR ht m 0 [] rfl (fun p hp=>by cases hp) (fun i hi=>by omega) h
 exact regD hm Lr.reverse hS ht hdst hlen (oQ m 0 (by simpa using h3)) (mJ fun p hp=>h2 p (List.mem_reverse.1 hp)) h4
end
section
variable {β:Option Nat} {w w' w'' W:World} {p:Asr} {v c:Value}
def GB (W:World) (β:Option Nat) (w:World):Prop:=Below W.heap.size W w∧∀ B,β=some B→W.heap.size≤B∧B < w.heap.size
end
section
variable {P:Program} {n:Nat} {Q:Exit→Act→World→Prop} {l:Fr} {w0 W:World} {ops:Array Oper} {os:List Oper} {O:Own} {G:aQ} {K:List (Nat×World)} {L:List Asr} {i:Nat}
variable {d:Nat} {op:Op} {ty:TypeId} {pos:String} {aft:Array Edge} {v:Value} {gd:Option (Nat×Bool)}
def G2 (W:World) (B:Nat) (cs:List Value) (T:TypeId) (w:World):Prop:=GB W (some B) w∧w.heap[B]?=some (.cells cs.toArray T (0,0))
theorem pZ (W':World) {B lo:Nat} (hB:B≤W'.heap.size):∃ A1:World,A1.heap.size=B∧cU lo A1 W':=by
 refine ⟨{ W' with heap:=W'.heap.extract 0 B },by simp;omega,by simp;omega,fun b _ hb=>?_⟩
 have hb':b < (W'.heap.extract 0 B).size:=hb
 simp at hb'
 show W'.heap[b]?=(W'.heap.extract 0 B)[b]?
 rw [Array.getElem?_extract,if_pos (by omega),Nat.zero_add]
def anyA:Asr:=fun _ _=>True
variable {Goal:List Asr→Prop}
theorem St.mark (h:St w0 O G K W) (lo:Nat) (hO:∀ p∈O,p.1 < lo) (hG:G=[]):St w0 O G ((lo,W)::K) W:=by
 subst hG
 exact ⟨h.below,h.own,h.dist,fun q hq=>by
  rcases List.mem_cons.1 hq with rfl | hq
  ·exact ⟨cU.refl _ _,fun p hp=>.inl (hO p hp)⟩
  ·exact h.kept q hq,fun g hg=>absurd hg List.not_mem_nil,h.gdist⟩
theorem St.own_lt (h:St w0 O G K W):∀ p∈O,p.1 < W.heap.size:=fun p hp=>cC (h.own p hp).2
end
section
variable {P:Program} {n:Nat} {Q:Exit→Act→World→Prop} {l:Fr} {w0 W:World} {ops:Array Oper} {os:List Oper} {O:Own} {G:aQ} {K:List (Nat×World)} {L L2:List Asr} {i:Nat}
def aft (ops:Array Oper) (j:Nat):List Nat:=match ops[j]? with | some o=>(o.after.toList.filter fun e=>Region.binds .any e).map (·.on) | none=>[]
def earlyL (ops:Array Oper) (p:Nat):List Nat:=(List.range p).reverse.foldl (fun S j=>bif S.contains j then aft ops j++S else S) (aft ops p)
theorem gT {p:Nat} {D:Nat→Prop} (h0:∀ x∈aft ops p,D x) (hc:∀ j,D j→∀ x∈aft ops j,D x):∀ x∈earlyL ops p,D x:=by
 have key:∀ (js S:List Nat),(∀ x∈S,D x)→∀ x∈js.foldl (fun S j=>bif S.contains j then aft ops j++S else S) S,D x:=by
  intro js
  induction js with
  | nil=>intro S h;exact h
  | cons j js ih =>
   intro S h
   refine ih _ ?_
   show ∀ x∈(bif S.contains j then aft ops j++S else S),D x
   cases hj:S.contains j with
   | false=>exact h
   | true =>
    intro x hx
    rw [cond_true] at hx
    rcases List.mem_append.1 hx with hx | hx
    ·exact hc j (h j (List.contains_iff_mem.1 hj)) x hx
    ·exact h x hx
 exact key _ _ h0
theorem aft_mem {j:Nat} {o:Oper} (ho:ops[j]?=some o) {x:Nat} (hx:x∈aft ops j):∃ e∈o.after,e.on=x∧Region.binds .any e=true:=by
 unfold aft at hx
 rw [ho] at hx
 obtain ⟨e,he,rfl⟩:=List.mem_map.1 hx
 obtain ⟨h1,h2⟩:=List.mem_filter.1 he
 exact ⟨e,Array.mem_toList_iff.1 h1,rfl,h2⟩
variable {d:Nat} {op:Op} {ty:TypeId} {pos:String} {aft:Array Edge} {v:Value} {gd:Option (Nat×Bool)}
variable {Goal:List Asr→List Asr→Prop}
end
section
variable {P:Program} {ops:Array Oper} {Q:Exit→Act→World→Prop} {σ:Type}
structure RInvG (ops:Array Oper) (t0:Array Value) (d0:List Deferred) (G:σ→World→Prop) (I:σ→Nat→Value→World→Prop) (V:σ→Array Bool→Prop) (s:σ) (L:Array Bool) (a:Act) (w:World):Prop where
 size:a.tmps.size=t0.size
 defers:a.defers=d0
 frame:∀ t,cB ops t=true→a.tmps.getD t undef=t0.getD t undef
 glob:G s w
 cons:V s L
 done:∀ i d,(ops[i]?).bind (·.dst)=some d→L.getD i false=true→I s i (a.tmps.getD d undef) w
def cX (ops:Array Oper) (L:Array Bool):Prop:=∀ j,L.getD j false=true→∀ x∈aft ops j,L.getD x false=true
def fS (ops:Array Oper) (L:Array Bool) (i:Nat):Prop:=L.getD i false=false∧∀ x∈aft ops i,L.getD x false=true
def rS (P:Program) (ops:Array Oper) (Q:Exit→Act→World→Prop) (t0:Array Value) (G:σ→World→Prop) (I:σ→Nat→Value→World→Prop) (V:σ→Array Bool→Prop) (i:Nat):Prop :=
 ∀ s L (a:Act) w,(∀ t,cB ops t=true→a.eval (.tmp t)=t0.getD t undef)→G s w→V s L→L.size=ops.size→cX ops L→fS ops L i→(∀ j d,aN ops i j d=true→I s j (a.eval (.tmp d)) w) →
  wpOp P ops Q i (fun a' w'=>∃ s' v,a'=a.put ((ops[i]?).bind (·.dst)) v∧V s' (L.setIfInBounds i true)∧G s' w'∧(∀ d,(ops[i]?).bind (·.dst)=some d→I s' i v w')∧(∀ j d,(ops[j]?).bind (·.dst)=some d→I s j (a.tmps.getD d undef) w→I s' j (a.tmps.getD d undef) w')) a w
def jA (ops:Array Oper) (k:Nat):Bool:=(List.range ops.size).all fun j=>decide (j < k) || (List.range j).all fun i=>(earlyL ops j).contains i
theorem gU {k j i:Nat} (h:jA ops k=true) (hj:j < ops.size) (hk:k≤j) (hi:i < j):i∈earlyL ops j:=by
 have h1:=List.all_eq_true.1 h j (List.mem_range.2 hj)
 rw [Bool.or_eq_true,decide_eq_true_eq] at h1
 rcases h1 with h1 | h1
 ·omega
 ·exact List.contains_iff_mem.1 (List.all_eq_true.1 h1 i (List.mem_range.2 hi))
theorem gD {L:Array Bool} {i:Nat} (h:i∈Region.ready .any ops L) (hs:L.size=ops.size):i < ops.size∧fS ops L i:=by
 obtain ⟨h1,o,ho,hdep⟩:=mem_ready.1 h
 have his:i < ops.size:=(Array.getElem?_eq_some_iff.1 ho).1
 refine ⟨his,?_,fun x hx=>?_⟩
 ·rw [Array.getD_eq_getD_getElem?,Array.getElem?_eq_getElem (by omega)] at h1 ⊢
  simpa using h1
 ·obtain ⟨e,he,h5,h6⟩:=aft_mem ho hx
  have h7:=hdep e he h6
  rw [h5] at h7
  exact h7
theorem dW {L:Array Bool} {i:Nat} (hi:i < L.size) (h:L.getD i false=false):L.toList[i]?=some false:=by
 rw [Array.getD_eq_getD_getElem?,Array.getElem?_eq_getElem hi] at h
 rw [Array.getElem?_toList,Array.getElem?_eq_getElem hi]
 simpa using h
theorem cX.next {L:Array Bool} {i:Nat} (h:cX ops L) (hr:fS ops L i) (hi:i < L.size):cX ops (L.setIfInBounds i true):=fun j hj x hx=>by
 have hx2:L.getD x false=true:=by
  by_cases hji:j=i
  ·subst hji;exact hr.2 x hx
  ·rw [getD_set_ne false (Ne.symm hji)] at hj
   exact h j hj x hx
 by_cases hxi:x=i
 ·subst hxi
  rw [Array.getD_eq_getD_getElem?,Array.getElem?_setIfInBounds_self_of_lt hi];rfl
 ·rw [getD_set_ne false (Ne.symm hxi)];exact hx2
theorem eL {L:Array Bool} {i:Nat} (h:cX ops L) (hr:fS ops L i):∀ x∈earlyL ops i,L.getD x false=true :=
 gT (D:=fun x=>L.getD x false=true) hr.2 (fun j hj x hx=>h j hj x hx)
theorem fT (ht:∀ n,cS ops n=true→True) {k:Nat} (hl:jA ops k=true) {n0:Nat} (htd:cS ops n0=true):∀ (m j fuel:Nat) (L:Array Bool) (a:Act) (w:World),ops.size=j+m→k≤j→m≤fuel→L.size=ops.size→cX ops L→(∀ i,i < j→L.getD i false=true)→(∀ i,j≤i→L.getD i false=false) →
  wpList P ops Q (ops.toList.drop j) a w→wpAny P .any ops Q fuel L a w
 | 0,j,fuel,L,a,w,hm,hk,hf,hs,hc,hd,hn,h=>by
  have hnil:Region.ready .any ops L=[]:=by
   cases hr:Region.ready .any ops L with
   | nil=>rfl
   | cons i rest =>
    obtain ⟨h1,h2⟩:=gD (by rw [hr];exact List.mem_cons_self) hs
    have h3:=h2.1
    rw [hd i (by omega)] at h3
    cases h3
  rw [List.drop_of_length_le (by simp;omega)] at h
  cases fuel with
  | zero=>exact ⟨hnil,h⟩
  | succ fuel=>exact ⟨fun _=>h,by rw [hnil];simp⟩
 | m+1,j,0,L,a,w,hm,hk,hf,hs,hc,hd,hn,h=>by omega
 | m+1,j,fuel+1,L,a,w,hm,hk,hf,hs,hc,hd,hn,h=>by
  have hj:j < ops.size:=by omega
  have only:∀ i∈Region.ready .any ops L,i=j:=fun i hi=>by
   obtain ⟨h1,h2⟩:=gD hi hs
   rcases Nat.lt_trichotomy i j with h3 | h3 | h3
   ·have h4:=h2.1
    rw [hd i h3] at h4;cases h4
   ·exact h3
   ·have:=eL hc h2 j (gU hl h1 (by omega) h3)
    rw [hn j (Nat.le_refl _)] at this;cases this
  refine ⟨fun hr=>?_,fun i hi=>?_⟩
  ·have:=eT htd hs hr j hj
   have h2:=hn j (Nat.le_refl _)
   rw [Array.getD_eq_getD_getElem?,Array.getElem?_eq_getElem (by omega)] at this h2
   simp at this h2
   rw [this] at h2;cases h2
  ·obtain ⟨h1,h2⟩:=gD hi hs
   obtain rfl:=only i hi
   have e:ops.toList.drop i=ops[i]::ops.toList.drop (i+1):=by
    rw [List.drop_eq_getElem_cons (by simpa using hj)];simp
   rw [e] at h
   have key:wpOp P ops Q i (fun a' w'=>wpList P ops Q (ops.toList.drop (i+1)) a' w') a w:=by
    unfold wpOp
    rw [Array.getElem?_eq_getElem hj]
    exact h
   refine wpOp_mono ?_ key
   intro a' w' hq
   refine fT ht hl htd m (i+1) fuel _ a' w' (by omega) (by omega) (by omega) (by simpa using hs) (hc.next h2 (by omega)) (fun x hx=>?_) (fun x hx=>?_) hq
   ·by_cases hxi:x=i
    ·subst hxi
     rw [Array.getD_eq_getD_getElem?,Array.getElem?_setIfInBounds_self_of_lt (by omega)];rfl
    ·rw [getD_set_ne false (Ne.symm hxi)];exact hd x (by omega)
   ·rw [getD_set_ne false (by omega)];exact hn x (by omega)
theorem gZ {t0:Array Value} {d0:List Deferred} {G:σ→World→Prop} {I:σ→Nat→Value→World→Prop} {V:σ→Array Bool→Prop} {k:Nat} (hk:k < ops.size) (hl:jA ops k=true) (ht:cS ops t0.size=true)
  (hstep:∀ i,i < k→rS P ops Q t0 G I V i)
  (hfin:∀ s L a w,RInvG ops t0 d0 G I V s L a w→(∀ i,i < k→L.getD i false=true)→(∀ i,k≤i→L.getD i false=false)→wpList P ops Q (ops.toList.drop k) a w) :
  ∀ (fuel:Nat) (s:σ) (L:Array Bool) (a:Act) (w:World),L.size=ops.size→L.toList.count false≤fuel→cX ops L→(∀ i,k≤i→L.getD i false=false)→RInvG ops t0 d0 G I V s L a w→wpAny P .any ops Q fuel L a w:=by
 intro fuel
 induction fuel with
 | zero =>
  intro s L a w hs hc hcl hn h
  have:=eJ _ _ (dW (by omega) (hn k (Nat.le_refl _)))
  omega
 | succ fuel ih =>
  intro s L a w hs hc hcl hn h
  by_cases hall:∀ i,i < k→L.getD i false=true
  ·have hcnt:ops.size - k≤L.toList.count false:=by
    have key:∀ (l:List Bool) (k:Nat),(∀ i,k≤i→i < l.length→l[i]?=some false)→l.length - k≤l.count false:=by
     intro l
     induction l with
     | nil=>intro k _;simp
     | cons b l ihl =>
      intro k hk
      cases k with
      | zero =>
       have h0:=hk 0 (Nat.le_refl _) (by simp)
       simp at h0;subst h0
       have:=ihl 0 (fun i _ hi=>by have:=hk (i+1) (by omega) (by simpa using hi);simpa using this)
       simp at this ⊢;omega
      | succ k =>
       have:=ihl k (fun i hi hi2=>by have:=hk (i+1) (by omega) (by simpa using hi2);simpa using this)
       rw [List.count_cons];simp;omega
    have:=key L.toList k (fun i h1 h2=>dW (by simpa using h2) (hn i h1))
    simpa [hs] using this
   exact fT (fun _ _=>trivial) hl ht (ops.size - k) k (fuel+1) L a w (by omega) (Nat.le_refl _) (by omega) hs hcl hall hn (hfin s L a w h hall hn)
  ·refine ⟨fun hr=>?_,fun i hi=>?_⟩
   ·exfalso;apply hall
    intro i hi
    have h1:=eT ht hs hr i (by omega)
    rw [Array.getD_eq_getD_getElem?,Array.getElem?_eq_getElem (by omega)] at h1 ⊢
    simpa using h1
   ·obtain ⟨his,hr⟩:=gD hi hs
    have hik:i < k:=by
     rcases Nat.lt_or_ge i k with h1 | h1
     ·exact h1
     ·exfalso;apply hall
      intro x hx
      exact eL hcl hr x (gU hl his h1 (by omega))
    have hc1:=eJ _ _ (dW (by omega) hr.1)
    refine wpOp_mono ?_ (hstep i hik s L a w (fun t ht=>h.frame t ht) h.glob h.cons hs hcl hr (fun j d hw=>?_))
    ·rintro a' w' ⟨s',v,rfl,hV,hG,hI,hst⟩
     refine ih s' _ _ _ (by simpa using hs) ?_ (hcl.next hr (by omega)) (fun x hx=>by rw [getD_set_ne false (by omega)];exact hn x hx) ⟨by rw [fM];exact h.size,by rw [eF];exact h.defers,fun t hf=>?_,hG,hV,fun j d hd hj=>?_⟩
     ·rw [Array.toList_setIfInBounds];omega
     ·rw [dD ?_]
      ·exact h.frame t hf
      ·intro hd
       obtain ⟨o,ho,hd⟩:=Option.bind_eq_some_iff.1 hd
       have:=Array.all_eq_true'.1 hf o (Array.mem_of_getElem? ho)
       simp [hd] at this
     ·by_cases hji:j=i
      ·subst hji
       rw [jO hd (by rw [h.size];exact (dT ht hd).1)]
       exact hI d hd
      ·rw [getD_set_ne false (Ne.symm hji)] at hj
       rw [dD (fun e=>hji ((dT ht e).2 j hd))]
       exact hst j d hd (h.done j d hd hj)
    ·have:j∈aft ops i:=by
      unfold aN at hw
      unfold aft
      cases ho:ops[i]? with
      | none=>simp [ho] at hw
      | some o =>
       simp only [ho,Bool.and_eq_true,beq_iff_eq] at hw
       obtain ⟨e,he,h2⟩:=Array.any_eq_true'.1 hw.1
       simp only [Bool.and_eq_true,beq_iff_eq] at h2
       exact List.mem_map.2 ⟨e,List.mem_filter.2 ⟨Array.mem_toList_iff.2 he,h2.2⟩,h2.1⟩
     have hd:(ops[j]?).bind (·.dst)=some d:=by
      unfold aN at hw
      simp only [Bool.and_eq_true,beq_iff_eq] at hw
      exact hw.2
     exact h.done j d hd (hr.2 j this)
end
structure Sg where
 ev:Option Value
 bs:List (Nat×Nat)
def OE (ca:Nat→Option Value→List Value) (ta:Nat→TypeId) (Os:Option Value→Own) (s:Sg):Own:=s.bs.map (fun q=>(q.2,ca q.1 s.ev,ta q.1))++Os s.ev
def XB (O:Own) (G:aQ) (b:Nat):Prop:=(∃ p∈O,p.1=b)∨(∃ g∈G,g.v.ownBlock=some b)
def cY (lo:Nat) (X:Nat→Prop) (w w':World):Prop:=(w'.os=w.os∧w'.tape=w.tape∧w'.output=w.output)∧w.heap.size≤w'.heap.size∧∀ b,lo≤b→b < w.heap.size→¬ X b→w'.heap[b]?=w.heap[b]?
def AwS (lo:Nat) (X:Nat→Prop) (p:Asr):Asr:=fun v w=>∀ w',cY lo X w w'→p v w'
section
variable {lo:Nat} {X X':Nat→Prop} {w w' w'':World} {p:Asr} {v c:Value}
theorem cY.refl (lo:Nat) (X:Nat→Prop) (w:World):cY lo X w w:=⟨⟨rfl,rfl,rfl⟩,Nat.le_refl _,fun _ _ _ _=>rfl⟩
theorem jV (h:Below w.heap.size w w'):cY lo X w w':=⟨⟨h.os,h.tape,h.output⟩,h.size,fun b _ hb _=>h.block b hb⟩
theorem cY.trans (h:cY lo X w w') (k:cY lo X' w' w'') (hx:∀ b,X' b→X b∨w.heap.size≤b):cY lo X w w'' :=
 ⟨⟨k.1.1.trans h.1.1,k.1.2.1.trans h.1.2.1,k.1.2.2.trans h.1.2.2⟩,Nat.le_trans h.2.1 k.2.1,fun b h1 h2 h3=>(k.2.2 b h1 (Nat.lt_of_lt_of_le h2 h.2.1) (fun hb=>(hx b hb).elim h3 (fun h4=>by omega))).trans (h.2.2 b h1 h2 h3)⟩
theorem cY.mono (h:cY 0 X w w'):cY lo X w w':=⟨h.1,h.2.1,fun b _ hb hx=>h.2.2 b (Nat.zero_le _) hb hx⟩
theorem AwS.here (h:AwS lo X p v w):p v w:=h w (cY.refl _ _ _)
theorem AwS.next (h:AwS lo X p v w) (hs:cY 0 X w w') (hx:∀ b,X' b→X b∨w.heap.size≤b):AwS lo X' p v w':=fun w2 h2=>h w2 (hs.mono.trans h2 hx)
theorem oR:AwS lo X (isV c) c w:=fun _ _=>rfl
end
section
variable {P:Program} {n:Nat} {Q:Exit→Act→World→Prop} {l:Fr} {w0 W:World} {ops:Array Oper} {os:List Oper} {K:List (Nat×World)} {L:List Asr} {i:Nat}
variable {al:List Nat} {ca:Nat→Option Value→List Value} {ta:Nat→TypeId} {Os:Option Value→Own} {Gs:Option Value→aQ} {lo ef jy:Nat} {s:Sg}
theorem St.drops {O:Own} {G:aQ} {w:World}:∀ (A:Own),St w0 (A++O) G K w→St w0 O G K w
 | [],h=>h
 | _::A,h=>St.drops A h.tail
def GG (w0:World) (K:List (Nat×World)) (lo:Nat) (ca:Nat→Option Value→List Value) (ta:Nat→TypeId) (Os:Option Value→Own) (Gs:Option Value→aQ) (s:Sg) (w:World):Prop:=St w0 (OE ca ta Os s) (Gs s.ev) K w∧lo≤w.heap.size∧∀ q∈s.bs,lo≤q.2
def VG (al:List Nat) (ef:Nat) (s:Sg) (L:Array Bool):Prop:=(∀ a∈al,L.getD a false=true↔∃ B,(a,B)∈s.bs)∧(∀ q∈s.bs,q.1∈al)∧s.bs.Pairwise (fun p q=>p.1≠q.1)∧(L.getD ef false=true↔s.ev.isSome=true)
def IG (al:List Nat) (ef jy lo:Nat) (ca:Nat→Option Value→List Value) (ta:Nat→TypeId) (Os:Option Value→Own) (Gs:Option Value→aQ) (L:List Asr) (s:Sg) (i:Nat) (v:Value) (w:World):Prop :=
 (i∈al→∃ B,(i,B)∈s.bs∧v = .pointer (some ⟨B,0,none⟩))∧(i=ef→s.ev=some v)∧(i=jy→∀ y,s.ev=some y→v=y)∧(i∉al→i≠ef→AwS lo (XB (OE ca ta Os s) (Gs s.ev)) (atI L i) v w)
def Tr (ops:Array Oper) (jy:Nat) (ca:Nat→Option Value→List Value) (ta:Nat→TypeId) (Os:Option Value→Own) (Gs:Option Value→aQ) (s s':Sg) (a:Act) (w w':World):Prop :=
 cY 0 (XB (OE ca ta Os s) (Gs s.ev)) w w'∧(∀ b,XB (OE ca ta Os s') (Gs s'.ev) b→XB (OE ca ta Os s) (Gs s.ev) b∨w.heap.size≤b)∧(∀ q∈s.bs,q∈s'.bs)∧(s'.ev=s.ev∨(s.ev=none∧∃ y,s'.ev=some y∧∀ d,(ops[jy]?).bind (·.dst)=some d→a.eval (.tmp d)=y))
theorem Tr.refl {a:Act} {w w':World} (h:Below w.heap.size w w'):Tr ops jy ca ta Os Gs s s a w w':=⟨jV h,fun b hb=>.inl hb,fun q hq=>hq,.inl rfl⟩
def SG (P:Program) (n:Nat) (ops:Array Oper) (Q:Exit→Act→World→Prop) (l:Fr) (w0:World) (K:List (Nat×World)) (lo:Nat) (al:List Nat) (ef jy:Nat) (ca:Nat→Option Value→List Value) (ta:Nat→TypeId) (Os:Option Value→Own) (Gs:Option Value→aQ) (L:List Asr) (i:Nat):Prop :=
 ∀ t0,Has n l t0→∀ s LB (a:Act) w,(∀ t,cB ops t=true→a.eval (.tmp t)=t0.tmps.getD t undef)→GG w0 K lo ca ta Os Gs s w→VG al ef s LB→LB.size=ops.size→cX ops LB→fS ops LB i→(∀ j d,aN ops i j d=true→IG al ef jy lo ca ta Os Gs L s j (a.eval (.tmp d)) w) →
  wpOp P ops Q i (fun a' w'=>∃ s' v,a'=a.put ((ops[i]?).bind (·.dst)) v∧VG al ef s' (LB.setIfInBounds i true)∧GG w0 K lo ca ta Os Gs s' w'∧Tr ops jy ca ta Os Gs s s' a w w'∧(∀ d,(ops[i]?).bind (·.dst)=some d→IG al ef jy lo ca ta Os Gs L s' i v w')) a w
theorem SG.step (h:SG P n ops Q l w0 K lo al ef jy ca ta Os Gs L i):∀ a,Has n l a→rS P ops Q a.tmps (GG w0 K lo ca ta Os Gs) (IG al ef jy lo ca ta Os Gs L) (VG al ef) i:=fun t0 h0 s LB a w hF hG hV hs hc hr hD=>by
 refine wpOp_mono ?_ (h t0 h0 s LB a w hF hG hV hs hc hr hD)
 rintro a' w' ⟨s',v,h1,h2,h3,⟨t1,t2,t3,t4⟩,h5⟩
 refine ⟨s',v,h1,h2,h3,h5,fun j d hd hj=>⟨fun hj1=>?_,fun hj1=>?_,fun hj1 y hy=>?_,fun h6 h7=>(hj.2.2.2 h6 h7).next t1 t2⟩⟩
 ·obtain ⟨B,hB,e⟩:=hj.1 hj1
  exact ⟨B,t3 _ hB,e⟩
 ·rcases t4 with t4 | ⟨t4,_⟩
  ·rw [t4];exact hj.2.1 hj1
  ·have:=hj.2.1 hj1;rw [t4] at this;cases this
 ·rcases t4 with t4 | ⟨t4,y',t5,t6⟩
  ·rw [t4] at hy;exact hj.2.2.1 hj1 y hy
  ·rw [t5] at hy;cases hy
   subst hj1
   exact t6 d hd
theorem SG.ext {L1 L2:List Asr} (ht:cS ops n=true) (hag:∀ j,j≤i→atI L1 j=atI L2 j) (h:SG P n ops Q l w0 K lo al ef jy ca ta Os Gs L1 i):SG P n ops Q l w0 K lo al ef jy ca ta Os Gs L2 i:=fun t0 h0 s LB a w hF hG hV hs hc hr hD=>by
 have hlt:∀ j d,aN ops i j d=true→j < i:=fun j d hw=>by
  cases ho:ops[i]? with
  | none=>simp [aN,ho] at hw
  | some o =>
   simp only [aN,ho,Bool.and_eq_true,beq_iff_eq] at hw
   obtain ⟨e,he,h2⟩:=Array.any_eq_true'.1 hw.1
   simp only [Bool.and_eq_true,beq_iff_eq] at h2
   rw [← h2.1];exact eZ ht ho e he h2.2
 have h2:=h t0 h0 s LB a w hF hG hV hs hc hr (fun j d hw=>by unfold IG;rw [hag j (Nat.le_of_lt (hlt j d hw))];exact hD j d hw)
 unfold IG at h2
 rw [hag i (Nat.le_refl _)] at h2
 exact h2
def gV (ops:Array Oper) (ef i:Nat):Bool:=Nat.ble ops.size ef || (earlyL ops ef).contains i
def nF (ops:Array Oper) (ef jy i:Nat):Bool := !Nat.beq i jy || gV ops ef i
theorem qA (h:nF ops ef jy i=true):i=jy→gV ops ef i=true:=fun e=>by
 unfold nF at h
 rw [e,Nat.beq_refl] at h
 rw [e];exact h
theorem oS {L:Array Bool} (hV:VG al ef s L) (hs:L.size=ops.size) (hc:cX ops L) (hi:L.getD i false=false) (he:gV ops ef i=true):s.ev=none:=by
 cases hev:s.ev with
 | none=>rfl
 | some v =>
  have hd:L.getD ef false=true:=hV.2.2.2.2 (by rw [hev];rfl)
  unfold gV at he
  rw [Bool.or_eq_true] at he
  rcases he with he | he
  ·have h1:ops.size≤ef:=Nat.le_of_ble_eq_true he
   rw [Array.getD_eq_getD_getElem?,Array.getElem?_eq_none (by omega)] at hd
   cases hd
  ·have:=gT (D:=fun x=>L.getD x false=true) (hc ef hd) (fun j hj x hx=>hc j hj x hx) i (List.contains_iff_mem.1 he)
   rw [hi] at this;cases this
theorem jW {t0:Act} (h0:Has n l t0) {a:Act} {w:World} (hF:∀ t,cB ops t=true→a.eval (.tmp t)=t0.tmps.getD t undef) (hD:∀ j d,aN ops i j d=true→IG al ef jy lo ca ta Os Gs L s j (a.eval (.tmp d)) w)
  (hn:∀ j d,aN ops i j d=true→j∈al∨j=ef→atI L j=anyA):∀ j d,aN ops i j d=true→atI L j (a.eval (.tmp d)) w:=fun j d hw=>by
 by_cases h1:j∈al∨j=ef
 ·rw [hn j d hw h1];trivial
 ·rw [not_or] at h1
  exact ((hD j d hw).2.2.2 h1.1 h1.2).here
def jB (al:List Nat) (ef:Nat) (L:List Asr):Prop:=∀ j,j∈al∨j=ef→atI L j=anyA
theorem rT {L:Array Bool} (hV:VG al ef s L) (hi:i∉al) (he:i≠ef):VG al ef s (L.setIfInBounds i true) :=
 ⟨fun a ha=>by rw [getD_set_ne false (fun e=>hi (by rw [e];exact ha))];exact hV.1 a ha,hV.2.1,hV.2.2.1,by rw [getD_set_ne false he];exact hV.2.2.2⟩
variable {d:Nat} {op:Op} {ty:TypeId} {pos:String} {aft_:Array Edge} {v:Value} {gd:Option (Nat×Bool)}
theorem sg_base (hal:i∉al) (hie:i≠ef) (hij:i=jy→gV ops ef i=true) (hi:ops[i]?=some ⟨some d,op,ty,pos,aft_,gd⟩) (hNo:jB al ef L)
  (h:∀ (t0 a:Act) s w,Has n l t0→(∀ t,cB ops t=true→a.eval (.tmp t)=t0.tmps.getD t undef)→GG w0 K lo ca ta Os Gs s w→(gV ops ef i=true→s.ev=none)→(∀ j d,aN ops i j d=true→IG al ef jy lo ca ta Os Gs L s j (a.eval (.tmp d)) w)→(∀ j d,aN ops i j d=true→atI L j (a.eval (.tmp d)) w) →
   wpOp P ops Q i (fun a' w'=>∃ v,a'=a.put (some d) v∧AwS lo (XB (OE ca ta Os s) (Gs s.ev)) (atI L i) v w'∧Below w.heap.size w w') a w):SG P n ops Q l w0 K lo al ef jy ca ta Os Gs L i:=fun t0 h0 s LB a w hF hG hV hs hc hr hD=>by
 refine wpOp_mono ?_ (h t0 a s w h0 hF hG (fun he=>oS hV hs hc hr.1 he) hD (jW h0 hF hD fun j d _ hj=>hNo j hj))
 rintro a' w' ⟨v,rfl,hA,hb⟩
 refine ⟨s,v,by rw [hi];rfl,rT hV hal hie,⟨hG.1.grow hb,Nat.le_trans hG.2.1 hb.size,hG.2.2⟩,Tr.refl hb,fun _ _=>⟨fun h=>absurd h hal,fun h=>absurd h hie,(fun h y hy=>by rw [oS hV hs hc hr.1 (hij h)] at hy;cases hy),fun _ _=>hA⟩⟩
theorem jX {o:Oper} {a:Act} {w w':World} {K':Act→World→Prop} (hi:ops[i]?=some o) (hw:Region.wanted o (yielded ops a.tmps)=true) (hr:(execOp a.eval o).run P w = .ok (.value v) w') (hK:K' (a.put o.dst v) w'):wpOp P ops Q i K' a w:=by
 unfold wpOp
 simp only [hi,hw,if_true]
 refine .inl ?_
 unfold Oper.wp
 rw [hr]
 exact hK
theorem sgV (li:Fr) (hal:al.contains i=false) (hie:Nat.beq i ef=false) (hij:nF ops ef jy i=true) (hi:ops[i]?=some ⟨some d,op,ty,pos,aft_,gd⟩) (hNo:jB al ef L) (hw:iY ops L i ⟨some d,op,ty,pos,aft_,gd⟩) (hli:lI n ops l L i li)
  (hr:∀ ev w,(gV ops ef i=true→ev=none)→St w0 (Os ev) (Gs ev) K w→cE P li ⟨some d,op,ty,pos,#[],none⟩ w v w) (hI:atI L i=isV v):SG P n ops Q l w0 K lo al ef jy ca ta Os Gs L i :=
 sg_base (fun h=>by rw [List.contains_iff_mem.2 h] at hal;cases hal) (fun e=>by rw [e,Nat.beq_refl] at hie;cases hie) (qA hij) hi hNo fun t0 a s w h0 hF hG he hD hD'=>by
  have hS:St w0 (Os s.ev) (Gs s.ev) K w:=St.drops _ hG.1
  exact jX hi (hw.yes hD') (by rw [fC a.eval _ _ _ _ pos _ #[] _ none];exact hr s.ev w he hS a.eval (eV h0 hF hD' hli)) ⟨v,rfl,by rw [hI];exact oR,Below.refl _ _⟩
theorem rU {o:Oper} (hal:al.contains ef=false) (hij:Nat.beq ef jy=false) (hi:ops[ef]?=some o)
  (h:∀ (t0 a:Act) bs w,Has n l t0→(∀ t,cB ops t=true→a.eval (.tmp t)=t0.tmps.getD t undef)→GG w0 K lo ca ta Os Gs ⟨none,bs⟩ w→bs.Pairwise (fun p q=>p.1≠q.1)→(∀ j d,aN ops ef j d=true→IG al ef jy lo ca ta Os Gs L ⟨none,bs⟩ j (a.eval (.tmp d)) w) →
   wpOp P ops Q ef (fun a' w'=>∃ v y,a'=a.put o.dst v∧(∀ d,o.dst=some d→v=y)∧St w0 (OE ca ta Os ⟨some y,bs⟩) (Gs (some y)) K w'∧cY 0 (XB (OE ca ta Os ⟨none,bs⟩) (Gs none)) w w'∧(∀ b,XB (OE ca ta Os ⟨some y,bs⟩) (Gs (some y)) b→XB (OE ca ta Os ⟨none,bs⟩) (Gs none) b∨w.heap.size≤b)∧(∀ d,(ops[jy]?).bind (·.dst)=some d→a.eval (.tmp d)=y)) a w):SG P n ops Q l w0 K lo al ef jy ca ta Os Gs L ef:=fun t0 h0 s LB a w hF hG hV hs hc hr hD=>by
 have hal':ef∉al:=fun h=>by rw [List.contains_iff_mem.2 h] at hal;cases hal
 obtain ⟨ev,bs⟩:=s
 have hev:ev=none:=by
  cases ev with
  | none=>rfl
  | some v=>have:=hV.2.2.2.2 rfl;rw [hr.1] at this;cases this
 subst hev
 refine wpOp_mono ?_ (h t0 a bs w h0 hF hG hV.2.2.1 hD)
 rintro a' w' ⟨v,y,rfl,hvy,hSt,hsame,hX,hy⟩
 refine ⟨⟨some y,bs⟩,v,by rw [hi];rfl,⟨fun a ha=>by rw [getD_set_ne false (fun e=>hal' (by rw [e];exact ha))];exact hV.1 a ha,hV.2.1,hV.2.2.1,?_⟩,⟨hSt,Nat.le_trans hG.2.1 hsame.2.1,hG.2.2⟩,⟨hsame,hX,fun q hq=>hq,.inr ⟨rfl,y,rfl,hy⟩⟩,fun d hd=>⟨fun h=>absurd h hal',fun _=>?_,fun h=>absurd hij (by rw [h,Nat.beq_refl];decide),fun _ h=>absurd rfl h⟩⟩
 ·rw [Array.getD_eq_getD_getElem?,Array.getElem?_setIfInBounds_self_of_lt (by rw [hs];exact (Array.getElem?_eq_some_iff.1 hi).1)]
  exact ⟨fun _=>rfl,fun _=>rfl⟩
 ·rw [hi] at hd
  rw [hvy d hd]
theorem St.perm {O O':Own} {G:aQ} {w:World} (h:St w0 O G K w) (hp:O.Perm O'):St w0 O' G K w where
 below:=h.below
 own:=fun p hp'=>h.own p (hp.mem_iff.2 hp')
 dist:=h.dist.perm hp (fun h=>Ne.symm h)
 kept:=fun q hq=>⟨(h.kept q hq).1,fun p hp'=>(h.kept q hq).2 p (hp.mem_iff.2 hp')⟩
 rows:=fun g hg=>⟨(h.rows g hg).1,fun b hb=>⟨fun p hp'=>((h.rows g hg).2 b hb).1 p (hp.mem_iff.2 hp'),((h.rows g hg).2 b hb).2⟩⟩
 gdist:=h.gdist
def fI (ds:List Nat):Fr→Fr
 | []=>[]
 | p::l=>bif ds.contains p.1 then fI ds l else p::fI ds l
theorem eH {ds:List Nat} {t:Nat} {v:Value}:∀ {l:Fr},look (fI ds l) t=some v→t∉ds→look l t=some v
 | [],h,_=>by cases h
 | p::l,h,ht=>by
  unfold fI at h
  unfold look
  cases hc:ds.contains p.1 with
  | true =>
   rw [hc,cond_true] at h
   cases hb:Nat.beq p.1 t with
   | true =>
    rw [Nat.eq_of_beq_eq_true hb] at hc
    exact absurd (List.contains_iff_mem.1 hc) ht
   | false=>rw [cond_false];exact eH h ht
  | false =>
   rw [hc,cond_false] at h
   unfold look at h
   cases hb:Nat.beq p.1 t with
   | true=>rw [hb,cond_true] at h;rw [cond_true];exact h
   | false=>rw [hb,cond_false] at h;rw [cond_false];exact eH h ht
theorem cF {ds:List Nat} {t:Nat} {v:Value}:∀ {l:Fr},look (fI ds l) t=some v→t∉ds
 | [],h=>by cases h
 | p::l,h=>by
  unfold fI at h
  cases hc:ds.contains p.1 with
  | true=>rw [hc,cond_true] at h;exact cF h
  | false =>
   rw [hc,cond_false] at h
   unfold look at h
   cases hb:Nat.beq p.1 t with
   | true =>
    intro hm
    rw [← Nat.eq_of_beq_eq_true hb] at hm
    rw [List.contains_iff_mem.2 hm] at hc;cases hc
   | false=>rw [hb,cond_false] at h;exact cF h
def nG (al:List Nat) (ef jy lo:Nat) (X:Nat→Prop) (Bf:Nat→Nat) (y:Value):Nat→List Asr→List Asr
 | _,[]=>[]
 | j,q::L=>(bif al.contains j then isV (.pointer (some ⟨Bf j,0,none⟩)) else bif Nat.beq j ef then isV y else bif Nat.beq j jy then (fun v w=>v=y∧AwS lo X q v w) else AwS lo X q)::nG al ef jy lo X Bf y (j+1) L
theorem fU {X:Nat→Prop} {Bf:Nat→Nat} {y:Value}:∀ (L:List Asr) (j i:Nat),i < L.length→atI (nG al ef jy lo X Bf y j L) i=(bif al.contains (i+j) then isV (.pointer (some ⟨Bf (i+j),0,none⟩)) else bif Nat.beq (i+j) ef then isV y else bif Nat.beq (i+j) jy then (fun v w=>v=y∧AwS lo X (atI L i) v w) else AwS lo X (atI L i))
 | [],j,i,h=>by simp at h
 | q::L,j,0,h=>by rw [Nat.zero_add];rfl
 | q::L,j,i+1,h=>by
  show atI (nG al ef jy lo X Bf y (j+1) L) i=_
  rw [fU L (j+1) i (by simpa using h),show i+1+j=i+(j+1) by omega]
  rfl
theorem qB:∀ (Bs:List Nat) (lo:Nat) (w:World),∃ Ks:List (Nat×World),(∀ q∈Ks,lo≤q.1∧cU q.1 q.2 w∧∀ B∈Bs,B < q.1∨q.2.heap.size≤B)∧(∃ q∈Ks,q.2=w)∧∀ b,lo≤b→b < w.heap.size→b∉Bs→∃ q∈Ks,q.1≤b∧b < q.2.heap.size
 | [],lo,w=>⟨[(lo,w)],fun q hq=>by
   simp only [List.mem_cons,List.not_mem_nil,or_false] at hq
   subst hq
   exact ⟨Nat.le_refl _,cU.refl _ _,fun B hB=>by cases hB⟩,⟨(lo,w),List.mem_cons_self,rfl⟩,fun b h1 h2 _=>⟨(lo,w),List.mem_cons_self,h1,h2⟩⟩
 | B::Bs,lo,w=>by
  by_cases hB:B < w.heap.size
  ·obtain ⟨A,hA,hA1⟩:=pZ w (B:=B) (lo:=lo) (Nat.le_of_lt hB)
   obtain ⟨K1,k1,_,k2⟩:=qB Bs lo A
   obtain ⟨K2,k3,⟨q0,k5,k6⟩,k4⟩:=qB Bs (max lo (B+1)) w
   refine ⟨K1++K2,fun q hq=>?_,⟨q0,List.mem_append_right _ k5,k6⟩,fun b h1 h2 h3=>?_⟩
   ·rcases List.mem_append.1 hq with hq | hq
    ·obtain ⟨e1,e2,e3⟩:=k1 q hq
     refine ⟨e1,e2.trans (hA1.mono e1),fun B' hB'=>?_⟩
     rcases List.mem_cons.1 hB' with rfl | hB'
     ·right;rw [← hA];exact e2.1
     ·exact e3 B' hB'
    ·obtain ⟨e1,e2,e3⟩:=k3 q hq
     refine ⟨by omega,e2,fun B' hB'=>?_⟩
     rcases List.mem_cons.1 hB' with rfl | hB'
     ·left;omega
     ·exact e3 B' hB'
   ·have h4:b≠B:=fun e=>h3 (by rw [e];exact List.mem_cons_self)
    have h5:b∉Bs:=fun e=>h3 (List.mem_cons_of_mem _ e)
    rcases Nat.lt_or_ge b B with h6 | h6
    ·obtain ⟨q,hq,h7⟩:=k2 b h1 (by omega) h5
     exact ⟨q,List.mem_append_left _ hq,h7⟩
    ·obtain ⟨q,hq,h7⟩:=k4 b (by omega) h2 h5
     exact ⟨q,List.mem_append_right _ hq,h7⟩
  ·obtain ⟨K1,k1,k5,k2⟩:=qB Bs lo w
   refine ⟨K1,fun q hq=>?_,k5,fun b h1 h2 h3=>k2 b h1 h2 (fun e=>h3 (List.mem_cons_of_mem _ e))⟩
   obtain ⟨e1,e2,e3⟩:=k1 q hq
   refine ⟨e1,e2,fun B' hB'=>?_⟩
   rcases List.mem_cons.1 hB' with rfl | hB'
   ·right;have:=e2.1;omega
   ·exact e3 B' hB'
theorem St.more {O:Own} {G:aQ} {w:World} (h:St w0 O G K w) (Ks:List (Nat×World)) (hk:∀ q∈Ks,cU q.1 q.2 w∧(∀ p∈O,p.1 < q.1∨q.2.heap.size≤p.1)∧∀ g∈G,∀ b,g.v.ownBlock=some b→b < q.1∨q.2.heap.size≤b):St w0 O G (Ks++K) w where
 below:=h.below
 own:=h.own
 dist:=h.dist
 kept:=fun q hq=>by
  rcases List.mem_append.1 hq with hq | hq
  ·exact ⟨(hk q hq).1,(hk q hq).2.1⟩
  ·exact h.kept q hq
 rows:=fun g hg=>⟨(h.rows g hg).1,fun b hb=>⟨((h.rows g hg).2 b hb).1,fun q hq=>by
  rcases List.mem_append.1 hq with hq | hq
  ·exact (hk q hq).2.2 g hg b hb
  ·exact ((h.rows g hg).2 b hb).2 q hq⟩⟩
 gdist:=h.gdist
theorem lK:∀ {L:List Asr} {j:Nat},L.length≤j→atI L j=anyA
 | [],_,_=>rfl
 | _::L,0,h=>by simp at h
 | _::L,j+1,h=>lK (L:=L) (by simpa using h)
def BLS (P:Program) (n:Nat) (ops:Array Oper) (Q:Exit→Act→World→Prop) (l:Fr) (w0:World) (K:List (Nat×World)) (lo:Nat) (al:List Nat) (ef jy:Nat) (ca:Nat→Option Value→List Value) (ta:Nat→TypeId) (Os:Option Value→Own) (Gs:Option Value→aQ) (Goal:List Asr→Prop):Nat→List Asr→Nat→Prop
 | 0,Lr,_=>Goal Lr
 | m+1,Lr,k=>∃ q,((k∈al∨k=ef)→q=anyA)∧(jB al ef (q::Lr).reverse→SG P n ops Q l w0 K lo al ef jy ca ta Os Gs (q::Lr).reverse k)∧BLS P n ops Q l w0 K lo al ef jy ca ta Os Gs Goal m (q::Lr) (k+1)
variable {Goal:List Asr→Prop}
theorem oT {Lr:List Asr} {k:Nat} (h:Goal Lr):BLS P n ops Q l w0 K lo al ef jy ca ta Os Gs Goal 0 Lr k:=h
theorem cG {m k:Nat} {Lr:List Asr} (k':Nat) (hk:k+1=k') (hne:(al.contains k || Nat.beq k ef)=false) (q:Asr) (h:jB al ef (q::Lr).reverse→SG P n ops Q l w0 K lo al ef jy ca ta Os Gs (q::Lr).reverse k) (hr:BLS P n ops Q l w0 K lo al ef jy ca ta Os Gs Goal m (q::Lr) k'):BLS P n ops Q l w0 K lo al ef jy ca ta Os Gs Goal (m+1) Lr k:=by
 subst hk
 refine ⟨q,fun hc=>?_,h,hr⟩
 rw [Bool.or_eq_false_iff] at hne
 rcases hc with hc | hc
 ·rw [List.contains_iff_mem.2 hc] at hne;cases hne.1
 ·rw [hc,Nat.beq_refl] at hne;cases hne.2
theorem oU {m k:Nat} {Lr:List Asr} (k':Nat) (hk:k+1=k') (h:SG P n ops Q l w0 K lo al ef jy ca ta Os Gs (anyA::Lr).reverse k) (hr:BLS P n ops Q l w0 K lo al ef jy ca ta Os Gs Goal m (anyA::Lr) k'):BLS P n ops Q l w0 K lo al ef jy ca ta Os Gs Goal (m+1) Lr k:=by
 subst hk;exact ⟨anyA,fun _=>rfl,fun _=>h,hr⟩
theorem lL (ht:cS ops n=true):∀ (m k:Nat) (Lr:List Asr),Lr.length=k→jB al ef Lr.reverse→(∀ i,i < k→SG P n ops Q l w0 K lo al ef jy ca ta Os Gs Lr.reverse i)→BLS P n ops Q l w0 K lo al ef jy ca ta Os Gs Goal m Lr k →
  ∃ Lr',Lr'.length=k+m∧(∀ i,i < k+m→SG P n ops Q l w0 K lo al ef jy ca ta Os Gs Lr'.reverse i)∧Goal Lr'
 | 0,k,Lr,hl,hs,hg,h=>⟨Lr,hl,hg,h⟩
 | m+1,k,Lr,hl,hs,hg,⟨q,hq,hr,hn⟩=>by
  have hap:∀ j,j < k→atI Lr.reverse j=atI (q::Lr).reverse j:=fun j hj=>by rw [List.reverse_cons,gS (by simp;omega)]
  have hs':jB al ef (q::Lr).reverse:=fun j hj=>by
   rcases Nat.lt_trichotomy j k with h1 | h1 | h1
   ·rw [← hap j h1];exact hs j hj
   ·subst h1;rw [bQ hl];exact hq hj
   ·exact lK (by simp;omega)
  obtain ⟨L',h1,h3,h4⟩:=lL ht m (k+1) (q::Lr) (by simp [hl]) hs' (fun i hi=>by
   by_cases hik:i=k
   ·subst hik;exact hr hs'
   ·exact SG.ext ht (fun j hj=>hap j (by omega)) (hg i (by omega))) hn
  exact ⟨L',by omega,fun i hi=>h3 i (by omega),h4⟩
theorem fV {a:Act} {Kk:Fr→World→Prop} {G:Prop}:∀ (os:List Oper) (L:List Asr) (l:Fr),(∀ i d,i < os.length→(os[i]?).bind (·.dst)=some d→atI L i (a.tmps.getD d undef) W)→(∀ i,i < os.length→(os[i]?).bind (·.dst)=none→∃ v,atI L i v W)→a.tmps.size=n→a.defers=[] →
  (∀ t v,look l t=some v→(∀ o∈os,o.dst≠some t)→a.tmps.getD t undef=v)→(hK:∀ l',Kk l' W→Has n l' a→G)→fD os L l Kk W→G
 | [],L,l,hI,_,hs,hd,hl,hK,h=>hK l h ⟨hs,hd,fun t v hv=>hl t v hv (fun o ho=>by cases ho)⟩
 | o::os,L,l,hI,hN,hs,hd,hl,hK,h=>by
  cases hod:o.dst with
  | none =>
   obtain ⟨v,hv⟩:=hN 0 (by simp) (by simp [hod])
   have h1:=h v hv
   rw [hod] at h1
   refine fV os L.tail _ (fun i e hi he=>by rw [fQ];exact hI (i+1) e (by simpa using hi) (by simpa using he)) (fun i hi he=>by rw [fQ];exact hN (i+1) (by simpa using hi) (by simpa using he)) hs hd ?_ hK h1
   intro t v hv hno
   refine hl t v hv (fun o' ho'=>?_)
   rcases List.mem_cons.1 ho' with rfl | ho'
   ·rw [hod];simp
   ·exact hno o' ho'
  | some d =>
   have h0:=hI 0 d (by simp) (by simp [hod])
   have h1:=h _ h0
   refine fV os L.tail _ (fun i e hi he=>by rw [fQ];exact hI (i+1) e (by simpa using hi) (by simpa using he)) (fun i hi he=>by rw [fQ];exact hN (i+1) (by simpa using hi) (by simpa using he)) hs hd ?_ hK h1
   intro t v hv hno
   rw [hod] at hv
   simp only [List.cons_append,List.nil_append] at hv
   unfold look at hv
   cases hb:Nat.beq d t with
   | true =>
    simp only [hb,cond_true,Option.some.injEq] at hv
    rw [← Nat.eq_of_beq_eq_true hb];exact hv
   | false =>
    simp only [hb,cond_false] at hv
    refine hl t v hv (fun o' ho'=>?_)
    rcases List.mem_cons.1 ho' with rfl | ho'
    ·rw [hod];intro e;rw [Option.some.inj e,Nat.beq_refl] at hb;cases hb
    ·exact hno o' ho'
def bAt (bs:List (Nat×Nat)) (a:Nat):Nat:=((bs.find? (fun q=>Nat.beq q.1 a)).map (·.2)).getD 0
theorem lM:∀ {bs:List (Nat×Nat)} {a:Nat},(∃ B,(a,B)∈bs)→(a,bAt bs a)∈bs
 | [],_,⟨B,h⟩=>by cases h
 | q::bs,a,⟨B,h⟩=>by
  unfold bAt
  rw [List.find?_cons]
  cases hb:Nat.beq q.1 a with
  | true =>
   have:=Nat.eq_of_beq_eq_true hb
   subst this
   exact List.mem_cons_self
  | false =>
   rcases List.mem_cons.1 h with h | h
   ·rw [← h,Nat.beq_refl] at hb;cases hb
   ·exact List.mem_cons_of_mem _ (lM ⟨B,h⟩)
theorem hC {bs:List (Nat×Nat)} (hp:bs.Pairwise (fun p q=>p.1≠q.1)) {p q:Nat×Nat} (h1:p∈bs) (h2:q∈bs) (he:p.1=q.1):p=q:=by
 induction hp with
 | nil=>cases h1
 | cons ha hb ih =>
  rcases List.mem_cons.1 h1 with h3 | h3<;>rcases List.mem_cons.1 h2 with h4 | h4
  ·rw [h3,h4]
  ·subst h3;exact absurd he (ha _ h4)
  ·subst h4;exact absurd he.symm (ha _ h3)
  ·exact ih h3 h4
theorem regS {id k:Nat} {ds:List Nat} (hm:P.follows .mixedOrders=true) (hlo:lo=W.heap.size) (hS:St w0 (Os none) (Gs none) K W) (hk:Nat.blt k os.length=true) (htl:jA os.toArray k=true) (ht:cS os.toArray n=true) (hal:al.all (fun a=>Nat.blt a k)=true) (hnd:al.Nodup) (hea:al.contains ef=false)
  (evE:Value→Option Value) (hev:(Nat.blt ef k=true∧evE=some)∨(Nat.ble os.length ef=true∧Nat.ble os.length jy=true∧evE=fun _=>none)) (hdst:(List.range k).all (fun j=>Nat.beq j ef || ((os.toArray[j]?).bind (·.dst)).isSome)=true) (hds:(os.drop k).all (fun o=>match o.dst with | some d=>ds.contains d | none=>true)=true)
  (h:BLS P n os.toArray Q l w0 K lo al ef jy ca ta Os Gs (fun Lr=>∀ (Bf:Nat→Nat) (y:Value) (W':World) (Ks:List (Nat×World)),W.heap.size≤W'.heap.size→(∀ q∈Ks,lo≤q.1)→St w0 (al.map (fun a=>(Bf a,ca a (evE y),ta a))++Os (evE y)) (Gs (evE y)) (Ks++K) W' →
   (∀ {O2 G2 K2 W2},St w0 O2 G2 K2 W2→(∀ q∈Ks,q∈K2)→cY lo (XB (al.map (fun a=>(Bf a,ca a (evE y),ta a))++Os (evE y)) (Gs (evE y))) W' W2) →
   fD (os.take k) (nG al ef jy lo (XB (al.map (fun a=>(Bf a,ca a (evE y),ta a))++Os (evE y)) (Gs (evE y))) Bf y 0 Lr.reverse) (fI ds l) (fun l' W'=>aT P n os.toArray Q (os.drop k) l' W') W') k [] 0):cQ P n (.region id os.toArray true) Q l W:=by
 obtain ⟨Lr,h1,h2,hfin⟩:=lL ht k 0 [] rfl (fun j _=>by rfl) (fun i hi=>by omega) h
 rw [Nat.zero_add] at h1 h2
 have hk':k < os.length:=Nat.lt_of_lt_of_le (Nat.lt_succ_self _) (Nat.le_of_ble_eq_true hk)
 have hal':∀ a∈al,a < k:=fun a ha=>Nat.lt_of_lt_of_le (Nat.lt_succ_self _) (Nat.le_of_ble_eq_true (List.all_eq_true.1 hal a ha))
 have hea':ef∉al:=fun h=>by rw [List.contains_iff_mem.2 h] at hea;cases hea
 intro a ha
 refine wp_region_any hm (gZ (t0:=a.tmps) (d0:=a.defers) (V:=VG al ef) (I:=IG al ef jy lo ca ta Os Gs Lr.reverse) (G:=GG w0 K lo ca ta Os Gs) (k:=k) (by simpa using hk') htl (by rw [ha.size];exact ht) (fun i hi=>(h2 i hi).step a ha) ?_ _ ⟨none,[]⟩ _ _ _ (by simp) (eU _) (fun j hj=>by rw [Array.getD_eq_getD_getElem?,Array.getElem?_replicate] at hj;split at hj<;>simp at hj) (fun i _=>by rw [Array.getD_eq_getD_getElem?,Array.getElem?_replicate];split<;>rfl) ⟨rfl,rfl,fun _ _=>rfl,⟨by unfold OE;exact hS.drew,by rw [hlo];exact Nat.le_refl _,(fun q hq=>by cases hq)⟩,⟨fun a _=>?_,(fun q hq=>by cases hq),List.Pairwise.nil,?_⟩,fun i d _ hj=>?_⟩)
 ·intro s LB a' W' hR hdone hnot
  obtain ⟨hG,hG2,hG3⟩:=hR.glob
  obtain ⟨v1,v2,v3,v4⟩:=hR.cons
  obtain ⟨ev,bs⟩:=s
  have hall:∀ x∈al,(x,bAt bs x)∈bs:=fun x hx=>lM ((v1 x hx).1 (hdone x (hal' x hx)))
  obtain ⟨y,hy⟩:∃ y,ev=evE y:=by
   rcases hev with ⟨e1,e2⟩ | ⟨e1,e3,e2⟩
   ·have h3:ev.isSome=true:=v4.1 (hdone ef (Nat.lt_of_lt_of_le (Nat.lt_succ_self _) (Nat.le_of_ble_eq_true e1)))
    obtain ⟨y,hy⟩:=Option.isSome_iff_exists.1 h3
    exact ⟨y,by rw [hy,e2]⟩
   ·refine ⟨undef,?_⟩
    rw [e2]
    have h3:=hnot ef (by have:=Nat.le_of_ble_eq_true e1;omega)
    cases ev with
    | none=>rfl
    | some v=>have:=v4.2 rfl;rw [h3] at this;cases this
  subst hy
  have hperm:bs.Perm (al.map (fun x=>(x,bAt bs x))):=by
   refine (List.perm_ext_iff_of_nodup (v3.imp (fun h e=>h (by rw [e]))) ?_).2 fun q=>?_
   ·refine List.Pairwise.map _ (fun x y (hxy:x≠y)=>?_) hnd
    intro e;exact hxy (congrArg Prod.fst e)
   ·constructor
    ·intro hq
     have h3:=hall q.1 (v2 q hq)
     have h4:=hC v3 hq h3 rfl
     rw [h4]
     exact List.mem_map.2 ⟨q.1,v2 q hq,rfl⟩
    ·intro hq
     obtain ⟨x,hx,rfl⟩:=List.mem_map.1 hq
     exact hall x hx
  have hO:(OE ca ta Os ⟨evE y,bs⟩).Perm (al.map (fun a=>(bAt bs a,ca a (evE y),ta a))++Os (evE y)):=by
   unfold OE
   refine List.Perm.append_right _ ?_
   have:=hperm.map (fun q:Nat×Nat=>(q.2,ca q.1 (evE y),ta q.1))
   rw [List.map_map] at this
   exact this
  have hG':=hG.perm hO
  have hX:∀ b,XB (OE ca ta Os ⟨evE y,bs⟩) (Gs (evE y)) b↔XB (al.map (fun a=>(bAt bs a,ca a (evE y),ta a))++Os (evE y)) (Gs (evE y)) b:=fun b=>by
   unfold XB
   constructor
   ·rintro (⟨p,hp,e⟩ | h);exact .inl ⟨p,hO.mem_iff.1 hp,e⟩;exact .inr h
   ·rintro (⟨p,hp,e⟩ | h);exact .inl ⟨p,hO.mem_iff.2 hp,e⟩;exact .inr h
  obtain ⟨Ks,c1,⟨qw,c2,c3⟩,c4⟩:=qB (((al.map (fun a=>(bAt bs a,ca a (evE y),ta a))++Os (evE y)).map (·.1))++(Gs (evE y)).filterMap (fun g=>g.v.ownBlock)) lo W'
  have hG4:=hG'.more Ks (fun q hq=>⟨(c1 q hq).2.1,fun p hp=>(c1 q hq).2.2 p.1 (List.mem_append_left _ (List.mem_map.2 ⟨p,hp,rfl⟩)),fun g hg b hb=>(c1 q hq).2.2 b (List.mem_append_right _ (List.mem_filterMap.2 ⟨g,hg,hb⟩))⟩)
  have hcov:∀ {O2 G2 K2 W2},St w0 O2 G2 K2 W2→(∀ q∈Ks,q∈K2)→cY lo (XB (al.map (fun a=>(bAt bs a,ca a (evE y),ta a))++Os (evE y)) (Gs (evE y))) W' W2:=fun {O2 G2 K2 W2} h2 hq=>by
   refine ⟨⟨h2.below.os.trans hG.below.os.symm,h2.below.tape.trans hG.below.tape.symm,h2.below.output.trans hG.below.output.symm⟩,?_,fun b b1 b2 b3=>?_⟩
   ·have:=(h2.kept qw (hq qw c2)).1.1;rw [c3] at this;exact this
   ·obtain ⟨q,q1,q2,q3⟩:=c4 b b1 b2 (fun hb=>b3 (by
     rcases List.mem_append.1 hb with hb | hb
     ·obtain ⟨p,hp,rfl⟩:=List.mem_map.1 hb
      exact .inl ⟨p,hp,rfl⟩
     ·obtain ⟨g,hg,e⟩:=List.mem_filterMap.1 hb
      exact .inr ⟨g,hg,e⟩))
    exact ((h2.kept q (hq q q1)).1.2 b q2 q3).trans ((c1 q q1).2.1.2 b q2 q3).symm
  have htk:(os.take k).length=k:=by simp;omega
  refine fV (os.take k) (nG al ef jy lo (XB (al.map (fun a=>(bAt bs a,ca a (evE y),ta a))++Os (evE y)) (Gs (evE y))) (bAt bs) y 0 Lr.reverse) (fI ds l) (fun i d hi hd'=>?_) (fun i hi hd'=>?_) (hR.size.trans ha.size) (hR.defers.trans ha.defers) ?_ (fun l' h ha'=>?_) (hfin (bAt bs) y W' Ks (by rw [← hlo];exact hG2) (fun q hq=>(c1 q hq).1) hG4 hcov)
  ·have hik:i < k:=by omega
   have hd2:(os.toArray[i]?).bind (·.dst)=some d:=by rw [List.getElem?_take,if_pos hik] at hd';simpa using hd'
   obtain ⟨i1,i2,i3,i4⟩:=hR.done i d hd2 (hdone i hik)
   rw [fU Lr.reverse 0 i (by simp;omega),Nat.add_zero]
   cases hc1:al.contains i with
   | true =>
    rw [cond_true]
    obtain ⟨B,hB,e⟩:=i1 (List.contains_iff_mem.1 hc1)
    have:=hC v3 hB (hall i (List.contains_iff_mem.1 hc1)) rfl
    show _=_
    rw [e,show B=bAt bs i from congrArg Prod.snd this]
   | false =>
    rw [cond_false]
    have hni:i∉al:=fun hm'=>by rw [List.contains_iff_mem.2 hm'] at hc1;cases hc1
    cases hc2:Nat.beq i ef with
    | true =>
     rw [cond_true]
     have h5:=i2 (Nat.eq_of_beq_eq_true hc2)
     rcases hev with ⟨e1,e2⟩ | ⟨e1,e3,e2⟩
     ·rw [e2] at h5
      exact (Option.some.inj h5).symm
     ·rw [e2] at h5;cases h5
    | false =>
     rw [cond_false]
     have hne:i≠ef:=fun e=>by rw [e,Nat.beq_refl] at hc2;cases hc2
     have h6:AwS lo (XB (al.map (fun a=>(bAt bs a,ca a (evE y),ta a))++Os (evE y)) (Gs (evE y))) (atI Lr.reverse i) (a'.tmps.getD d undef) W':=fun w2 hw2=>i4 hni hne w2 ⟨hw2.1,hw2.2.1,fun b b1 b2 b3=>hw2.2.2 b b1 b2 (fun hb=>b3 ((hX b).2 hb))⟩
     cases hc3:Nat.beq i jy with
     | true =>
      rw [cond_true]
      refine ⟨?_,h6⟩
      rcases hev with ⟨e1,e2⟩ | ⟨e1,e3,e2⟩
      ·exact i3 (Nat.eq_of_beq_eq_true hc3) y (by rw [e2])
      ·have:=Nat.le_of_ble_eq_true e3
       have:=Nat.eq_of_beq_eq_true hc3
       omega
     | false=>rw [cond_false];exact h6
  ·have hik:i < k:=by omega
   have h3:=List.all_eq_true.1 hdst i (List.mem_range.2 hik)
   rw [Bool.or_eq_true] at h3
   have hd2:(os.toArray[i]?).bind (·.dst)=none:=by rw [List.getElem?_take,if_pos hik] at hd';simpa using hd'
   rcases h3 with h3 | h3
   ·rw [fU Lr.reverse 0 i (by simp;omega),Nat.add_zero]
    have hc1:al.contains i=false:=by rw [Nat.eq_of_beq_eq_true h3];exact hea
    rw [hc1,cond_false,h3,cond_true]
    exact ⟨y,rfl⟩
   ·rw [hd2] at h3;cases h3
  ·intro t v hv hno
   have hl:=eH hv (cF hv)
   have hnt:=cF hv
   rw [hR.frame t ?_]
   ·exact ha.at_ t v hl
   ·unfold cB;rw [Array.all_eq_true'];intro o' ho'
    have ho2:o'∈os:=by simpa using ho'
    rw [← List.take_append_drop k os] at ho2
    rcases List.mem_append.1 ho2 with ho2 | ho2
    ·simpa using hno o' ho2
    ·have h5:=List.all_eq_true.1 hds o' ho2
     cases hx:o'.dst with
     | none=>simp
     | some d =>
      rw [hx] at h5
      simp
      intro e;subst e
      exact hnt (List.contains_iff_mem.1 h5)
  ·have:=h a' ha'
   simpa using this
 ·rw [Array.getD_eq_getD_getElem?,Array.getElem?_replicate]
  constructor
  ·intro h3;split at h3<;>simp at h3
  ·rintro ⟨B,hB⟩;cases hB
 ·rw [Array.getD_eq_getD_getElem?,Array.getElem?_replicate]
  constructor
  ·intro h3;split at h3<;>simp at h3
  ·intro h3;cases h3
 ·rw [Array.getD_eq_getD_getElem?,Array.getElem?_replicate] at hj
  split at hj<;>simp at hj
end
section
variable {P:Program} {n:Nat} {Q:Exit→Act→World→Prop} {l:Fr} {w0 W:World} {ops:Array Oper} {os:List Oper} {K:List (Nat×World)} {L:List Asr} {i:Nat} {O:Own} {G:aQ}
variable {al:List Nat} {zc:Nat→List Value} {ta:Nat→TypeId} {lo ef jy:Nat} {d:Nat} {ty:TypeId} {pos:String} {aft_:Array Edge} {v:Value}
def jE (zc:Nat→List Value) (a:Nat):Option Value→List Value:=fun _=>zc a
def qC (G:aQ):Option Value→aQ:=fun _=>G
def lN (O:Own) (j jx B:Nat) (cs vs:List Value) (U:TypeId):Option Value→Own
 | none=>O
 | some _=>O.set j (B,bP cs jx vs,U)
theorem gM {B b:Nat} (hb:b≠B):∀ (vs:List Value) (j:Nat) (w:World),(setMany w B j vs).heap[b]?=w.heap[b]?
 | [],_,_=>rfl
 | v::vs,j,w=>by unfold setMany;rw [gM hb vs (j+1)];exact Below.heap_setCell _ _ _ _ hb
theorem fF:∀ (vs:List Value) (B j:Nat) (w:World),((setMany w B j vs).os=w.os∧(setMany w B j vs).tape=w.tape∧(setMany w B j vs).output=w.output)∧(setMany w B j vs).heap.size=w.heap.size
 | [],_,_,_=>⟨⟨rfl,rfl,rfl⟩,rfl⟩
 | v::vs,B,j,w=>by
  unfold setMany
  obtain ⟨⟨h1,h2,h3⟩,h4⟩:=fF vs B (j+1) (w.setCell ⟨B,j,none⟩ v)
  exact ⟨⟨h1,h2,h3⟩,h4.trans (by simp [World.setCell])⟩
theorem gO {B j:Nat} {vs:List Value} {w:World} {X:Nat→Prop} (hX:X B):cY 0 X w (setMany w B j vs) :=
 ⟨(fF vs B j w).1,Nat.le_of_eq (fF vs B j w).2.symm,fun b _ _ hb=>gM (fun e=>hb (by rw [e];exact hX)) vs j w⟩
theorem hJ {T:TypeId} {B j m:Nat} {vs cs:List Value} {U:TypeId} {w:World} {y:Value} (hsz:∀ w,(sizeOf T).run P w = .ok m w) (hc:y.cells=vs.toArray) (hl:vs.length=m) (h1:vs.all Value.oneCell'=true) (hB:w.heap[B]?=some (.cells cs.toArray U (0,0))) (hj:j+m≤cs.length) :
  (Instr.storeAt T (.pointer (some ⟨B,j,none⟩)) y).run P w = .ok () (setMany w B j vs):=by
 subst hl
 have hst:=dG (P:=P) vs 0 j w cs hB (by omega) (fun u hu=>List.all_eq_true.1 h1 u hu)
 rw [Nat.add_zero] at hst
 simp [Instr.storeAt,Instr.sureAddr,storeVar,hsz,hc,hst]
theorem mK {o:Oper} {a:Act} {w w':World} {T:TypeId} {x y:Operand} {K':Act→World→Prop} (hi:ops[i]?=some o) (ho:o.op = .store T x y) (hod:o.dst=none) (hog:o.guard=none) (hr:(Instr.storeAt T (a.eval x) (a.eval y)).run P w = .ok () w') (hK:K' a w'):wpOp P ops Q i K' a w:=by
 unfold wpOp
 simp only [hi,fN hog,if_true]
 refine .inl ?_
 obtain ⟨dst,op,ty,pos,aft,gd⟩:=o
 simp only at ho hod
 subst ho;subst hod
 unfold Oper.wp execOp
 simp only [Sem.run_bind,hr,Result.andThen_ok,Sem.run_pure,Oper.upon_skip]
 exact hK
theorem eff_stO {T U:TypeId} {x y:Operand} {B m:Nat} {cs vs:List Value} (j jx:Nat) (li:Fr) (hal:al.contains ef=false) (hij:Nat.beq ef jy=false) (hi:ops[ef]?=some ⟨none,.store T x y,ty,pos,aft_,none⟩) (hjn:(ops[jy]?).isNone=true) (hNo:jB al ef L) (hli:lI n ops l L ef li) (hx:evL li x=some (.pointer (some ⟨B,jx,none⟩))) (hy:evL li y=some v)
  (hO:O[j]?=some (B,cs,U)) (hsz:∀ w,(sizeOf T).run P w = .ok m w) (hc:v.cells=vs.toArray) (hl:vs.length=m) (h1:vs.all Value.oneCell'=true) (hjm:Nat.ble (jx+m) cs.length=true):SG P n ops Q l w0 K lo al ef jy (jE zc) ta (lN O j jx B cs vs U) (qC G) L ef :=
 rU hal hij hi fun t0 a bs w h0 hF hG hbs hD=>by
  have hD':=jW h0 hF hD (fun j d _ hj=>hNo j hj)
  have ex:=eV h0 hF hD' hli x _ hx
  have ey:=eV h0 hF hD' hli y _ hy
  have hOk:(OE (jE zc) ta (lN O j jx B cs vs U) ⟨none,bs⟩)[bs.length+j]?=some (B,cs,U):=by
   unfold OE
   rw [List.getElem?_append_right (by simp)]
   simpa [lN] using hO
  have hXB:XB (OE (jE zc) ta (lN O j jx B cs vs U) ⟨none,bs⟩) (qC G none) B:=.inl ⟨_,List.mem_of_getElem? hOk,rfl⟩
  have hrun:=hJ (P:=P) hsz hc hl h1 (hG.1.at_ _ hOk) (j:=jx) (Nat.le_of_ble_eq_true hjm)
  have hO':OE (jE zc) ta (lN O j jx B cs vs U) ⟨some undef,bs⟩=(OE (jE zc) ta (lN O j jx B cs vs U) ⟨none,bs⟩).set (bs.length+j) (B,bP cs jx vs,U):=by
   unfold OE
   rw [List.set_append_right _ _ (by simp)]
   congr 1
   simp [lN]
  refine mK hi rfl rfl rfl (by rw [ex,ey];exact hrun) ⟨undef,undef,rfl,(fun d hd=>by cases hd),?_,gO hXB,?_,fun d hd=>?_⟩
  ·rw [hO']
   exact hG.1.setMany _ vs jx hOk
  ·rintro b (⟨p,hp,rfl⟩ | h)
   ·rw [hO'] at hp
    rcases List.mem_or_eq_of_mem_set hp with hp | rfl
    ·exact .inl (.inl ⟨p,hp,rfl⟩)
    ·exact .inl hXB
   ·exact .inl (.inr h)
  ·cases hjy:ops[jy]? with
   | none=>rw [hjy] at hd;cases hd
   | some o=>rw [hjy] at hjn;cases hjn
end
theorem cN {w:World} {base size n:Nat} {e:TypeId} {v:Value} {xs:List Value} (h:w.ownsRow base e size v n xs):∃ a c,v = .slice a n c∧n≤c:=by
 rcases h.2 with ⟨rfl,rfl⟩ | ⟨g,cap,cur,rfl,_,_,hn,_⟩
 ·exact ⟨none,0,rfl,Nat.le_refl _⟩
 ·exact ⟨_,cap,rfl,hn⟩
theorem lO {w:World} {base base' size n:Nat} {e:TypeId} {v:Value} {xs:List Value} (h:w.ownsRow base e size v n xs) (hb:base'≤base):w.ownsRow base' e size v n xs :=
 ⟨h.1,h.2.imp id fun ⟨g,cap,cur,e,hg,k⟩=>⟨g,cap,cur,e,Nat.le_trans hb hg,k⟩⟩
theorem gP {w W:World} {lo size n:Nat} {e:TypeId} {v:Value} {xs:List Value} (h:w.ownsRow lo e size v n xs) (hg:cU lo w W):W.ownsRow lo e size v n xs:=by
 refine ⟨h.1,?_⟩
 rcases h.2 with h2 | ⟨g,cap,cur,rfl,hb,hh,k⟩
 ·exact .inl h2
 ·exact .inr ⟨g,cap,cur,rfl,hb,(hg.2 g hb (cC hh)).trans hh,k⟩
theorem eR {w:World} {base size n:Nat} {e:TypeId} {a:Option Addr} {c:Nat} {xs:List Value} (h:w.ownsRow base e size (.slice a n c) n xs):(a=none∧n=0)∨∃ b,a=some ⟨b,0,none⟩∧base≤b∧∀ (j:Nat) u,xs[j]?=some u→w.cell? ⟨b,j,none⟩=some u:=by
 rcases h.2 with ⟨e1,e2⟩ | ⟨g,cap,cur,e1,hb,hh,hn,hm,hs,ht⟩
 ·cases e1;exact .inl ⟨rfl,e2⟩
 ·cases e1
  refine .inr ⟨g,rfl,hb,fun j u hj=>?_⟩
  rw [← ht,List.getElem?_take] at hj
  split at hj
  ·simp only [World.cell?,hh]
   simpa using hj
  ·cases hj
theorem rV {os:List Oper} {L L':List Asr} {l:Fr} {K:Fr→World→Prop} {W:World} (h:L=L') (k:fD os L' l K W):fD os L l K W:=h▸k
theorem cV {os:List Oper} {L:List Asr} {l:Fr} {W:World} {lo:Nat} {X:Nat→Prop} {c:Value} {K:Fr→World→Prop} {dst:Nat} {op:Op} {ty:TypeId} {pos:String} {aft:Array Edge} {g:Option (Nat×Bool)} (h:fD os L ((dst,c)::l) K W):fD (⟨some dst,op,ty,pos,aft,g⟩::os) (AwS lo X (isV c)::L) l K W:=fun v hv=>by
 have:v=c:=hv.here
 subst this;exact h
theorem fin_0 {os:List Oper} {L:List Asr} {l:Fr} {W:World} {p:Asr} {K:Fr→World→Prop} {op:Op} {ty:TypeId} {pos:String} {aft:Array Edge} {g:Option (Nat×Bool)} (h:fD os L l K W):fD (⟨none,op,ty,pos,aft,g⟩::os) (p::L) l K W:=fun _ _=>h
theorem oV {O:Own} {i j jx B:Nat} {cs vs:List Value} {U:TypeId} {ev:Option Value} {q:Nat×List Value×TypeId} (h:O[i]?=some q) (hij:Nat.beq i j=false):(lN O j jx B cs vs U ev)[i]?=some q:=by
 cases ev with
 | none=>exact h
 | some y =>
  have:j≠i:=fun e=>by rw [e,Nat.beq_refl] at hij;cases hij
  show (O.set j _)[i]?=_
  rw [List.getElem?_set,if_neg this];exact h
section
variable {w0 W:World} {O:Own} {G:aQ} {K:List (Nat×World)}
theorem St.castO {O':Own} (h:St w0 O G K W) (e:O=O'):St w0 O' G K W:=e▸h
theorem St.castG {G':aQ} (h:St w0 O G K W) (e:G=G'):St w0 O G' K W:=e▸h
def bJ (w0:World) (Kk:List (Nat×World)) (p:World→Prop):Prop:=∀ {O2:Own} {G2:aQ} {K2:List (Nat×World)} {W2:World},St w0 O2 G2 K2 W2→(∀ q∈Kk,q∈K2)→p W2
theorem St.adopt {W':World} {e:TypeId} {size n:Nat} {v:Value} {xs:List Value} (h:St w0 O G K W) (hb:Below W.heap.size W W') (hr:W'.ownsRow W.heap.size e size v n xs):St w0 O (⟨v,n,xs,e,size⟩::G) K W':=by
 have h':=h.grow hb
 have hge:∀ b,v.ownBlock=some b→W.heap.size≤b:=fun b e1=>by
  rcases hr.2 with ⟨rfl,_⟩ | ⟨g,cap,cur,rfl,h3,_⟩
  ·cases e1
  ·cases e1;exact h3
 refine ⟨h'.below,h'.own,h'.dist,h'.kept,fun g hg=>?_,List.Pairwise.cons (fun q hq b e1 e2=>?_) h'.gdist⟩
 ·rcases List.mem_cons.1 hg with rfl | hg
  ·refine ⟨lO hr h.below.size,fun b e1=>⟨fun p hp e2=>?_,fun q hq=>.inr ?_⟩⟩
   ·have:=cC (h.own p hp).2;have:=hge b e1;omega
   ·have:=(h.kept q hq).1.1;have:=hge b e1;omega
  ·exact h'.rows g hg
 ·have h3:=(h.glt hq e2).2
  have:=hge b e1;omega
theorem St.cut (h:St w0 O G K W) (i:Nat) {b c nn k:Nat} {xs:List Value} {e:TypeId} {size:Nat} (hi:G[i]?=some ⟨.slice (some ⟨b,0,none⟩) nn c,nn,xs,e,size⟩) (hk:k≤nn):St w0 O (G.set i ⟨.slice (some ⟨b,0,none⟩) k c,k,xs.take (k * size),e,size⟩) K W:=by
 have hg:=List.mem_of_getElem? hi
 have hrow:=(h.rows _ hg).1
 refine h.setG i hi (v':=.slice (some ⟨b,0,none⟩) k c) ?_ ⟨rfl,rfl,rfl,Nat.le_refl _,fun _ _ _=>rfl⟩ (.inl rfl)
 refine ⟨?_,?_⟩
 ·have h2:k * size≤nn * size:=Nat.mul_le_mul_right _ hk
  have:=hrow.1
  dsimp only at this ⊢;rw [List.length_take,this,Nat.min_eq_left h2]
 ·rcases hrow.2 with ⟨e1,_⟩ | ⟨g,cap,cur,e1,hg,hh,hn,hm,hs,ht⟩
  ·cases e1
  ·cases e1
   refine .inr ⟨b,c,cur,rfl,hg,hh,by dsimp only at hn;omega,hm,hs,?_⟩
   have h2:k * size≤nn * size:=Nat.mul_le_mul_right _ hk
   dsimp only at ht ⊢
   rw [← ht,List.take_take,Nat.min_eq_left h2]
end
section
variable {P:Program} {n:Nat} {ops:Array Oper} {Q:Exit→Act→World→Prop} {l:Fr} {w0 W:World} {O:Own} {G:aQ} {K:List (Nat×World)} {os:List Oper} {d:Nat} {ty:TypeId} {pos:String} {aft:Array Edge}
theorem aP {f:FuncId} {args:Array Operand} {ts:Array TypeId} {vs:List Value} {R:Ending→World→Prop} (hgo:aZ P f=true) (ha:args.toList.map (evL l)=vs.map some) (hc:Calls P f vs.toArray W R)
  (hd:Nat.blt d n=true)
  (h:∀ e W',R e W'→∃ v,e = .returned v∧aT P n ops Q os ((d,v)::l) W'):aT P n ops Q (⟨some d,.call { callee:=.value (.func f),args:=args,argTypes:=ts },ty,pos,aft,none⟩::os) l W:=fun a hl=>by
 refine wpList_plain rfl fun K' hK=>?_
 unfold Oper.wp
 rw [jQ P a.eval W f args ts _ rfl rfl hgo,Oper.upon_enter]
 have hargs:args.map a.eval=vs.toArray:=by
  have key:∀ (xs:List Operand) (us:List Value),xs.map (evL l)=us.map some→xs.map a.eval=us:=by
   intro xs
   induction xs with
   | nil=>intro us h;cases us<;>simp at h ⊢
   | cons x xs ih =>
    intro us h
    cases us with
    | nil=>simp at h
    | cons u us =>
     simp only [List.map_cons,List.cons.injEq] at h
     simp only [List.map_cons,hl.ev x u h.1,ih us h.2]
  apply Array.ext'
  rw [Array.toList_map,key _ _ ha]
 rw [hargs]
 refine hc.mono ?_
 intro e W' hRe
 obtain ⟨v,rfl,hn⟩:=h e W' hRe
 exact hK _ _ (hn _ (hl.put hd))
theorem qD {T e:TypeId} {s:Nat} (hS:St w0 O G K W) (hU:P.underlying T=some (.slice e)) (hs:∀ w,(sizeOf e).run P w = .ok s w) (hd:Nat.blt d n=true)
  (h:∀ v W',St w0 O (⟨v,0,[],e,s⟩::G) K W'→aT P n ops Q os ((d,v)::l) W'):aT P n ops Q (⟨some d,.buildSlice T 0 #[],ty,pos,aft,none⟩::os) l W :=
 opV (W':=W.alloc (.cells #[] e)) (v:=.slice (some ⟨W.heap.size,0,none⟩) 0 0) (fun ev he=>by
  unfold execOp
  have h0:Array.range 0=#[]:=by simp
  simp only [List.map_toArray,List.map_nil,Instr.buildSlice,Sem.run_bind,run_underlying hU,Result.andThen_ok,hs,Nat.zero_mul,Sem.run_pure,h0]
  simp [Instr.fill,newRow]) hd (h _ _ (hS.adopt ((Below.refl _ _).alloc (Nat.le_refl _) _) (by
   have:=World.ownsRow_made (base:=W.heap.size) (e:=e) (size:=s) W #[] 0 (Nat.le_refl _) (Nat.zero_le _) (by simp)
   simpa using this)))
theorem op_cut {T e:TypeId} {x y:Operand} {kk:IntKind} {k:Nat} {j:Int} {b c nn s:Nat} {xs:List Value} (hS:St w0 O G K W) (i:Nat) (hU:P.underlying T=some (.slice e)) (hs:∀ w,(sizeOf e).run P w = .ok s w) (hi:G[i]?=some ⟨.slice (some ⟨b,0,none⟩) nn c,nn,xs,e,s⟩) (hx:evL l x=some (.slice (some ⟨b,0,none⟩) nn c)) (hy:evL l y=some (.int kk j)) (hj:j=(k:Int)) (hk:k≤nn) (hd:Nat.blt d n=true)
  (h:St w0 O (G.set i ⟨.slice (some ⟨b,0,none⟩) k c,k,xs.take (k * s),e,s⟩) K W→aT P n ops Q os ((d,.slice (some ⟨b,0,none⟩) k c)::l) W):aT P n ops Q (⟨some d,.slice T x none (some y) none,ty,pos,aft,none⟩::os) l W :=
 opV (v:=.slice (some ⟨b,0,none⟩) k c) (fun ev he=>by
  subst hj
  have hc:nn≤c:=by
   rcases (hS.row i hi).2 with ⟨e1,_⟩ | ⟨g,cap,cur,e1,_,_,hn,_⟩
   ·cases e1
   ·cases e1;exact hn
  have h1:(0:Int)≤(k:Int):=by omega
  have h2:(k:Int)≤(c:Int):=by omega
  have h3:k≤c:=by omega
  unfold execOp;simp only [Option.map_some,Option.map_none];rw [he x _ hx,he y _ hy]
  simp [Instr.sliceAt,Instr.slice,Instr.sliceBounds,Instr.sliceBound,run_underlying hU,asIntOf,h3,hs]
  intro _;rfl) hd (h (hS.cut i hi hk))
theorem iR {w:World} (base:Nat) (t ty e:TypeId) (i:TypeInfo) (size:Nat) (ht:P.underlying t=some (.slice e)) (hi:P.info? e=some i)
  (v:Value) (n:Nat) (xs:List Value) (c:Nat) (hown:w.ownsRow base e size v n xs) :
  (Builtin.append_ #[t,t] ty #[v,.slice none 0 c]).run P w = .ok v w:=by
 rcases hown.2 with ⟨rfl,rfl⟩ | ⟨g,cap,cur,rfl,_,_,hnc,_⟩
 ·simp [Builtin.append_,run_underlying ht,sizeOf,typeInfo,hi,Builtin.lenOf,Builtin.firstCells]
 ·simp [Builtin.append_,run_underlying ht,sizeOf,typeInfo,hi,Builtin.lenOf,Builtin.firstCells,hnc,storeCells]
theorem nH {t e:TypeId} {x y:Operand} {i:Nat} {g:GR} {a:Option Addr} {m c:Nat} {news:List Value} {inf:TypeInfo} {z:Value} (hS:St w0 O G K W) (hU:P.underlying t=some (.slice e)) (hinf:P.info? e=some inf) (hz:inf.zero=some z) (hzs:z.cells.size=inf.size) (hsz:0 < inf.size)
  (hi:G[i]?=some g) (he:g.e=e) (hgs:g.size=inf.size) (hx:evL l x=some g.v) (hy:evL l y=some (.slice a m c)) (hc:(a=none∧m=0)∨∃ p,a=some p∧∀ (j:Nat) u,news[j]?=some u→W.cell? (p.add j)=some u) (hl:news.length=m * inf.size) (h1:∀ u∈news,u.oneCell'=true)
  (h63:g.n+m≤maxLen) (hbytes:(g.n+m) * inf.bytes≤140737488355328) (hd:Nat.blt d n=true)
  (h:∀ v' W',St w0 O (G.set i ⟨v',g.n+m,g.xs++news,e,g.size⟩) K W'→aT P n ops Q os ((d,v')::l) W') :
  aT P n ops Q (⟨some d,.call { callee:=.builtin .append,args:=#[x,y],argTypes:=#[t,t] },ty,pos,aft,none⟩::os) l W:=by
 subst he
 have hrow:=hS.row i hi
 rcases hc with ⟨rfl,rfl⟩ | ⟨p,rfl,hc⟩
 ·have hr:=iR (P:=P) w0.heap.size t ty g.e inf g.size hU hinf g.v g.n g.xs c hrow
  have hn:news=[]:=List.eq_nil_of_length_eq_zero (by simpa using hl)
  subst hn
  refine opV (W':=W) (v:=g.v) (fun ev hev=>?_) hd (h g.v W ?_)
  ·unfold execOp
   simp only [resolve,invoke,builtin,Sem.run_bind,Sem.run_pure,Result.andThen_ok,List.map_toArray,List.map_cons,List.map_nil,hev x _ hx,hev y _ hy,hr]
  ·rw [List.append_nil,Nat.add_zero]
   exact hS.setG i hi hrow ⟨rfl,rfl,rfl,Nat.le_refl _,fun _ _ _=>rfl⟩ (.inl rfl)
 ·rw [hgs] at hrow
  obtain ⟨v',W',hr,h2,h3,h4⟩:=fO (P:=P) (w:=W) w0.heap.size t ty g.e inf z hU hinf hz hzs hsz g.v g.n g.xs hrow p m c news hl hc h1 h63 hbytes hS.below.size
  rw [← hgs] at h2
  refine opV (W':=W') (v:=v') (fun ev hev=>?_) hd (h v' W' (hS.setG i hi h2 h3 h4))
  unfold execOp
  simp only [resolve,invoke,builtin,Sem.run_bind,Sem.run_pure,Result.andThen_ok,List.map_toArray,List.map_cons,List.map_nil,hev x _ hx,hev y _ hy,hr]
end
section
variable {P:Program} {n:Nat} {Q:Exit→Act→World→Prop} {l:Fr} {w0 W:World} {ops:Array Oper} {os:List Oper} {K:List (Nat×World)} {L:List Asr} {i:Nat}
variable {O:Own} {Gs:List Value→aQ} {efs:List Nat} {lo:Nat} {s:List Value}
variable {d:Nat} {op:Op} {ty:TypeId} {pos:String} {aft_:Array Edge} {v:Value} {gd:Option (Nat×Bool)}
variable {Goal:List Asr→Prop}
theorem res3 {P:Program} {n:Nat} {l:Fr} {W:World} {fn:Func} {t u v:Nat} {x y z:Value} (hf:fn.results=#[.tmp t,.tmp u,.tmp v]) (hx:look l t=some x) (hy:look l u=some y) (hz:look l v=some z):∀ a,Has n l a→(results fn a.tmps).run P W = .ok (.tuple #[x,y,z]) W:=fun a ha=>by
 have h1:=ha.at_ t _ hx
 have h2:=ha.at_ u _ hy
 have h3:=ha.at_ v _ hz
 rw [Array.getD_eq_getD_getElem?] at h1 h2 h3
 simp [results,hf,h1,h2,h3]
end
section
variable {P:Program} {ops:Array Oper} {Q:Exit→Act→World→Prop} {σ:Type}
structure RInvF (fr:Nat→Bool) (ops:Array Oper) (t0:Array Value) (d0:List Deferred) (G:σ→World→Prop) (I:σ→Nat→Value→World→Prop) (V:σ→Array Bool→Prop) (s:σ) (L:Array Bool) (a:Act) (w:World):Prop where
 size:a.tmps.size=t0.size
 defers:a.defers=d0
 frame:∀ t,fr t=true→a.tmps.getD t undef=t0.getD t undef
 glob:G s w
 cons:V s L
 done:∀ i d,(ops[i]?).bind (·.dst)=some d→L.getD i false=true→I s i (a.tmps.getD d undef) w
def rW (P:Program) (fr:Nat→Bool) (ops:Array Oper) (Q:Exit→Act→World→Prop) (t0:Array Value) (G:σ→World→Prop) (I:σ→Nat→Value→World→Prop) (V:σ→Array Bool→Prop) (i:Nat):Prop :=
 ∀ s L (a:Act) w,(∀ t,fr t=true→a.eval (.tmp t)=t0.getD t undef)→G s w→V s L→L.size=ops.size→cX ops L→fS ops L i→(∀ j d,aN ops i j d=true→I s j (a.eval (.tmp d)) w) →
  wpOp P ops Q i (fun a' w'=>∃ s' v,a'=a.put ((ops[i]?).bind (·.dst)) v∧V s' (L.setIfInBounds i true)∧G s' w'∧(∀ d,(ops[i]?).bind (·.dst)=some d→I s' i v w')∧(∀ j d,j≠i→(ops[j]?).bind (·.dst)=some d→I s j (a.tmps.getD d undef) w→I s' j (a.tmps.getD d undef) w')) a w
theorem kO {fr:Nat→Bool} {t0:Array Value} {d0:List Deferred} {G:σ→World→Prop} {I:σ→Nat→Value→World→Prop} {V:σ→Array Bool→Prop} {k:Nat} (hfr:∀ i d,i < k→(ops[i]?).bind (·.dst)=some d→fr d=false) (hk:k < ops.size) (hl:jA ops k=true) (ht:cS ops t0.size=true)
  (hstep:∀ i,i < k→rW P fr ops Q t0 G I V i)
  (hfin:∀ s L a w,RInvF fr ops t0 d0 G I V s L a w→(∀ i,i < k→L.getD i false=true)→(∀ i,k≤i→L.getD i false=false)→wpList P ops Q (ops.toList.drop k) a w) :
  ∀ (fuel:Nat) (s:σ) (L:Array Bool) (a:Act) (w:World),L.size=ops.size→L.toList.count false≤fuel→cX ops L→(∀ i,k≤i→L.getD i false=false)→RInvF fr ops t0 d0 G I V s L a w→wpAny P .any ops Q fuel L a w:=by
 intro fuel
 induction fuel with
 | zero =>
  intro s L a w hs hc hcl hn h
  have:=eJ _ _ (dW (by omega) (hn k (Nat.le_refl _)))
  omega
 | succ fuel ih =>
  intro s L a w hs hc hcl hn h
  by_cases hall:∀ i,i < k→L.getD i false=true
  ·have hcnt:ops.size - k≤L.toList.count false:=by
    have key:∀ (l:List Bool) (k:Nat),(∀ i,k≤i→i < l.length→l[i]?=some false)→l.length - k≤l.count false:=by
     intro l
     induction l with
     | nil=>intro k _;simp
     | cons b l ihl =>
      intro k hk
      cases k with
      | zero =>
       have h0:=hk 0 (Nat.le_refl _) (by simp)
       simp at h0;subst h0
       have:=ihl 0 (fun i _ hi=>by have:=hk (i+1) (by omega) (by simpa using hi);simpa using this)
       simp at this ⊢;omega
      | succ k =>
       have:=ihl k (fun i hi hi2=>by have:=hk (i+1) (by omega) (by simpa using hi2);simpa using this)
       rw [List.count_cons];simp;omega
    have:=key L.toList k (fun i h1 h2=>dW (by simpa using h2) (hn i h1))
    simpa [hs] using this
   exact fT (fun _ _=>trivial) hl ht (ops.size - k) k (fuel+1) L a w (by omega) (Nat.le_refl _) (by omega) hs hcl hall hn (hfin s L a w h hall hn)
  ·refine ⟨fun hr=>?_,fun i hi=>?_⟩
   ·exfalso;apply hall
    intro i hi
    have h1:=eT ht hs hr i (by omega)
    rw [Array.getD_eq_getD_getElem?,Array.getElem?_eq_getElem (by omega)] at h1 ⊢
    simpa using h1
   ·obtain ⟨his,hr⟩:=gD hi hs
    have hik:i < k:=by
     rcases Nat.lt_or_ge i k with h1 | h1
     ·exact h1
     ·exfalso;apply hall
      intro x hx
      exact eL hcl hr x (gU hl his h1 (by omega))
    have hc1:=eJ _ _ (dW (by omega) hr.1)
    refine wpOp_mono ?_ (hstep i hik s L a w (fun t ht=>h.frame t ht) h.glob h.cons hs hcl hr (fun j d hw=>?_))
    ·rintro a' w' ⟨s',v,rfl,hV,hG,hI,hst⟩
     refine ih s' _ _ _ (by simpa using hs) ?_ (hcl.next hr (by omega)) (fun x hx=>by rw [getD_set_ne false (by omega)];exact hn x hx) ⟨by rw [fM];exact h.size,by rw [eF];exact h.defers,fun t hf=>?_,hG,hV,fun j d hd hj=>?_⟩
     ·rw [Array.toList_setIfInBounds];omega
     ·rw [dD ?_]
      ·exact h.frame t hf
      ·intro hd
       rw [hfr i t hik hd] at hf;cases hf
     ·by_cases hji:j=i
      ·subst hji
       rw [jO hd (by rw [h.size];exact (dT ht hd).1)]
       exact hI d hd
      ·rw [getD_set_ne false (Ne.symm hji)] at hj
       rw [dD (fun e=>hji ((dT ht e).2 j hd))]
       exact hst j d hji hd (h.done j d hd hj)
    ·have hj:j∈aft ops i:=by
      unfold aN at hw
      unfold aft
      cases ho:ops[i]? with
      | none=>simp [ho] at hw
      | some o =>
       simp only [ho,Bool.and_eq_true,beq_iff_eq] at hw
       obtain ⟨e,he,h2⟩:=Array.any_eq_true'.1 hw.1
       simp only [Bool.and_eq_true,beq_iff_eq] at h2
       exact List.mem_map.2 ⟨e,List.mem_filter.2 ⟨Array.mem_toList_iff.2 he,h2.2⟩,h2.1⟩
     have hd:(ops[j]?).bind (·.dst)=some d:=by
      unfold aN at hw
      rw [Bool.and_eq_true,beq_iff_eq] at hw
      exact hw.2
     exact h.done j d hd (hr.2 j hj)
end
abbrev Sy:=Nat→Option Value
def upd (s:Sy) (i:Nat) (v:Value):Sy:=fun j=>bif Nat.beq j i then some v else s j
theorem lP (s:Sy) (i:Nat) (v:Value):upd s i v i=some v:=by unfold upd;rw [Nat.beq_refl];rfl
theorem iS (s:Sy) {i j:Nat} (v:Value) (h:j≠i):upd s i v j=s j:=by
 unfold upd
 cases hb:Nat.beq j i with
 | true=>exact absurd (Nat.eq_of_beq_eq_true hb) h
 | false=>rfl
def isE (s:Sy) (e:Nat):Asr:=fun v _=>s e=some v
def LS (E:List Nat) (s:Sy):Nat→List Asr→List Asr
 | _,[]=>[]
 | j,q::L=>(bif E.contains j then isE s j else q)::LS E s (j+1) L
theorem nJ {E:List Nat} {s:Sy}:∀ (L:List Asr) (j i:Nat),i < L.length→atI (LS E s j L) i=(bif E.contains (i+j) then isE s (i+j) else atI L i)
 | [],j,i,h=>by simp at h
 | q::L,j,0,h=>by rw [Nat.zero_add];rfl
 | q::L,j,i+1,h=>by
  show atI (LS E s (j+1) L) i=_
  rw [nJ L (j+1) i (by simpa using h),show i+1+j=i+(j+1) by omega]
  rfl
theorem kW {E:List Nat} {s:Sy}:∀ (L:List Asr) (j:Nat),(LS E s j L).length=L.length
 | [],_=>rfl
 | q::L,j=>by show (LS E s (j+1) L).length+1=_;rw [kW L (j+1)];rfl
theorem at_n {E:List Nat} {s:Sy} {L:List Asr} {j:Nat} {p:Asr} (hl:Nat.blt j L.length=true) (he:E.contains j=false) (h:atI L j=p):atI (LS E s 0 L) j=p:=by
 rw [nJ L 0 j (Nat.lt_of_lt_of_le (Nat.lt_succ_self _) (Nat.le_of_ble_eq_true hl)),Nat.add_zero,he,cond_false,h]
structure AB where
 a:Nat
 T:TypeId
 zs:List Value
 st:Nat
def rX:Value→Nat
 | .pointer (some p)=>p.block
 | .slice (some p) _ _=>p.block
 | _=>0
def AB.cs (q:AB) (s:Sy):List Value:=match s q.st with | none=>q.zs | some y=>bP q.zs 0 y.cells.toList
def AS (al:List AB) (s:Sy):Own:=al.flatMap fun q=>match s q.a with | some v=>[(rX v,q.cs s,q.T)] | none=>[]
theorem AS_none (al:List AB):AS al (fun _=>none)=[]:=by
 unfold AS
 induction al with
 | nil=>rfl
 | cons q al ih=>rw [List.flatMap_cons,ih];rfl
theorem hY (q:AB) (al:List AB) (s:Sy):AS (q::al) s=(match s q.a with | some v=>[(rX v,q.cs s,q.T)] | none=>[])++AS al s:=rfl
theorem AB.cs_upd {q:AB} {s:Sy} {i:Nat} {v:Value} (h:q.st≠i):q.cs (upd s i v)=q.cs s:=by unfold AB.cs;rw [iS _ _ h]
theorem mL {s:Sy} {i:Nat} {v:Value}:∀ {al:List AB},(∀ q∈al,q.a≠i)→(∀ q∈al,q.st≠i)→AS al (upd s i v)=AS al s
 | [],_,_=>rfl
 | q::al,h1,h2=>by
  rw [hY,hY,mL (fun x hx=>h1 x (List.mem_cons_of_mem _ hx)) (fun x hx=>h2 x (List.mem_cons_of_mem _ hx)),iS _ _ (h1 q List.mem_cons_self),AB.cs_upd (h2 q List.mem_cons_self)]
theorem mM {s:Sy} {i:Nat} {v:Value} (hs:s i=none):∀ {al:List AB} {q:AB},q∈al→q.a=i→(al.map (·.a)).Nodup→(∀ q∈al,q.st≠i)→((rX v,q.cs s,q.T)::AS al s).Perm (AS al (upd s i v))
 | [],_,h,_,_,_=>by cases h
 | x::al,q,h,hq,hn,hst=>by
  rw [List.map_cons,List.nodup_cons] at hn
  rw [hY,hY,AB.cs_upd (hst x List.mem_cons_self)]
  by_cases hx:x.a=i
  ·have hxq:q=x:=by
    rcases List.mem_cons.1 h with h | h
    ·exact h
    ·exact absurd (List.mem_map.2 ⟨q,h,by rw [hq,hx]⟩) hn.1
   subst hxq
   rw [mL (al:=al) (fun y hy e=>hn.1 (List.mem_map.2 ⟨y,hy,by rw [e,hx]⟩)) (fun y hy=>hst y (List.mem_cons_of_mem _ hy)),hx,lP,hs]
   exact List.Perm.refl _
  ·have hm:q∈al:=by
    rcases List.mem_cons.1 h with h | h
    ·subst h;exact absurd hq hx
    ·exact h
   rw [iS _ _ hx]
   refine List.Perm.trans ?_ (List.Perm.append_left _ (mM hs hm hq hn.2 (fun y hy=>hst y (List.mem_cons_of_mem _ hy))))
   exact List.perm_middle.symm
section
variable {P:Program} {n:Nat} {Q:Exit→Act→World→Prop} {l:Fr} {w0 W:World} {ops opf:Array Oper} {os:List Oper} {K:List (Nat×World)} {L:List Asr} {i:Nat}
variable {Ob:Own} {al:List AB} {G:Sy→aQ} {E:List Nat} {lo:Nat} {s:Sy}
theorem nK {a b:Nat} (h:(!Nat.beq a b)=true):a≠b:=fun e=>by rw [e,Nat.beq_refl] at h;cases h
theorem st_ne (h:al.all (fun q => !Nat.beq q.st i)=true):∀ q∈al,q.st≠i:=fun q hq=>nK (List.all_eq_true.1 h q hq)
abbrev OY (al:List AB) (Ob:Own) (s:Sy):Own:=AS al s++Ob
def GY0 (w0:World) (K:List (Nat×World)) (lo:Nat) (al:List AB) (Ob:Own) (G:Sy→aQ) (s:Sy) (w:World):Prop:=St w0 (OY al Ob s) (G s) K w∧lo≤w.heap.size
def GY (w0:World) (K:List (Nat×World)) (lo:Nat) (al:List AB) (Ob:Own) (G:Sy→aQ) (E:List Nat) (L:List Asr) (s:Sy) (w:World):Prop:=GY0 w0 K lo al Ob G s w∧∀ e∈E,∀ v,s e=some v→AwS lo (XB (OY al Ob s) (G s)) (atI L e) v w
def VY (E:List Nat) (s:Sy) (L:Array Bool):Prop:=(∀ e∈E,(L.getD e false=true↔(s e).isSome=true))∧∀ e,e∉E→s e=none
def IY (lo:Nat) (al:List AB) (Ob:Own) (G:Sy→aQ) (E:List Nat) (L:List Asr) (s:Sy) (i:Nat) (v:Value) (w:World):Prop:=(i∈E→s i=some v)∧AwS lo (XB (OY al Ob s) (G s)) (atI L i) v w
structure Kn (ops:Array Oper) (E:List Nat) (i:Nat) (s:Sy):Prop where
 yes:∀ e,E.contains e=true→(earlyL ops i).contains e=true→∃ v,s e=some v
 no:∀ e,(earlyL ops e).contains i=true→s e=none
 out:∀ e,E.contains e=false→s e=none
 self:s i=none
def TrY (al:List AB) (Ob:Own) (G:Sy→aQ) (i:Nat) (s s':Sy) (w w':World):Prop:=cY 0 (XB (OY al Ob s) (G s)) w w'∧(∀ b,XB (OY al Ob s') (G s') b→XB (OY al Ob s) (G s) b∨w.heap.size≤b)∧∀ j,j≠i→s' j=s j
def SY (P:Program) (n:Nat) (ops opf:Array Oper) (Q:Exit→Act→World→Prop) (l:Fr) (w0:World) (K:List (Nat×World)) (lo:Nat) (al:List AB) (Ob:Own) (G:Sy→aQ) (E:List Nat) (L:List Asr) (i:Nat):Prop :=
 ∀ t0,Has n l t0→∀ s LB (a:Act) w,(∀ t,cB opf t=true→a.eval (.tmp t)=t0.tmps.getD t undef)→GY0 w0 K lo al Ob G s w→VY E s LB→LB.size=ops.size→cX ops LB→fS ops LB i→(∀ j d,aN ops i j d=true→IY lo al Ob G E L s j (a.eval (.tmp d)) w) →
  wpOp P ops Q i (fun a' w'=>∃ s' v,a'=a.put ((ops[i]?).bind (·.dst)) v∧VY E s' (LB.setIfInBounds i true)∧GY0 w0 K lo al Ob G s' w'∧TrY al Ob G i s s' w w'∧(∀ d,(ops[i]?).bind (·.dst)=some d→IY lo al Ob G E L s' i v w')∧(i∈E→∀ y,s' i=some y→AwS lo (XB (OY al Ob s') (G s')) (atI L i) y w')) a w
theorem SY.step (h:SY P n ops opf Q l w0 K lo al Ob G E L i):∀ a,Has n l a→rW P (cB opf) ops Q a.tmps (GY w0 K lo al Ob G E L) (IY lo al Ob G E L) (VY E) i:=fun t0 h0 s LB a w hF hG hV hs hc hr hD=>by
 refine wpOp_mono ?_ (h t0 h0 s LB a w hF hG.1 hV hs hc hr hD)
 rintro a' w' ⟨s',v,h1,h2,h3,⟨t1,t2,t3⟩,h5,h6⟩
 refine ⟨s',v,h1,h2,⟨h3,fun e he y hy=>?_⟩,h5,fun j d hji hd hj=>⟨fun hjE=>?_,hj.2.next t1 t2⟩⟩
 ·by_cases hei:e=i
  ·subst hei;exact h6 he y hy
  ·rw [t3 e hei] at hy
   exact (hG.2 e he y hy).next t1 t2
 ·rw [t3 j hji];exact hj.1 hjE
theorem rY (ht:cS ops n=true) {j d:Nat} (hw:aN ops i j d=true):j < i:=by
 cases ho:ops[i]? with
 | none=>simp [aN,ho] at hw
 | some o =>
  simp only [aN,ho,Bool.and_eq_true,beq_iff_eq] at hw
  obtain ⟨e,he,h2⟩:=Array.any_eq_true'.1 hw.1
  simp only [Bool.and_eq_true,beq_iff_eq] at h2
  rw [← h2.1];exact eZ ht ho e he h2.2
theorem SY.ext {L1 L2:List Asr} (ht:cS ops n=true) (hag:∀ j,j≤i→atI L1 j=atI L2 j) (h:SY P n ops opf Q l w0 K lo al Ob G E L1 i):SY P n ops opf Q l w0 K lo al Ob G E L2 i:=fun t0 h0 s LB a w hF hG hV hs hc hr hD=>by
 have h2:=h t0 h0 s LB a w hF hG hV hs hc hr (fun j d hw=>by unfold IY;rw [hag j (Nat.le_of_lt (rY ht hw))];exact hD j d hw)
 unfold IY at h2
 rw [hag i (Nat.le_refl _)] at h2
 exact h2
theorem kn_of {LB:Array Bool} (hV:VY E s LB) (hs:LB.size=ops.size) (hc:cX ops LB) (hr:fS ops LB i):Kn ops E i s where
 yes e he h:=Option.isSome_iff_exists.1 ((hV.1 e (List.contains_iff_mem.1 he)).1 (eL hc hr e (List.contains_iff_mem.1 h)))
 no e h:=by
  cases hse:s e with
  | none=>rfl
  | some v =>
   have hE:e∈E:=Decidable.byContradiction fun hn=>by rw [hV.2 e hn] at hse;cases hse
   have hd:LB.getD e false=true:=(hV.1 e hE).2 (by rw [hse];rfl)
   have:=gT (D:=fun x=>LB.getD x false=true) (hc e hd) (fun j hj x hx=>hc j hj x hx) i (List.contains_iff_mem.1 h)
   rw [hr.1] at this;cases this
 out e h:=hV.2 e (fun hm=>by rw [List.contains_iff_mem.2 hm] at h;cases h)
 self:=by
  cases hse:s i with
  | none=>rfl
  | some v =>
   have hE:i∈E:=Decidable.byContradiction fun hn=>by rw [hV.2 i hn] at hse;cases hse
   have:=(hV.1 i hE).2 (by rw [hse];rfl)
   rw [hr.1] at this;cases this
theorem oW {a:Act} {w:World} (hD:∀ j d,aN ops i j d=true→IY lo al Ob G E L s j (a.eval (.tmp d)) w):∀ j d,aN ops i j d=true→atI (LS E s 0 L) j (a.eval (.tmp d)) w:=fun j d hw=>by
 rcases Nat.lt_or_ge j L.length with hj | hj
 ·rw [nJ L 0 j hj,Nat.add_zero]
  cases hc:E.contains j with
  | true=>rw [cond_true];exact (hD j d hw).1 (List.contains_iff_mem.1 hc)
  | false=>rw [cond_false];exact (hD j d hw).2.here
 ·rw [lK (by rw [kW];exact hj)];trivial
structure Fst (ops opf:Array Oper):Prop where
 same:∀ (i:Nat) (o:Oper),opf[i]?=some o→ops[i]?=some o
theorem hZ {os:List Oper} {k:Nat}:Fst os.toArray (os.take k).toArray:=⟨fun i o h=>by
 have h1:(os.take k)[i]?=some o:=by simpa using h
 rw [List.getElem?_take] at h1
 split at h1
 ·simpa using h1
 ·cases h1⟩
theorem Fst.waits (h:Fst ops opf) {i j d:Nat} (hw:aN opf i j d=true):aN ops i j d=true:=by
 unfold aN at hw ⊢
 rw [Bool.and_eq_true] at hw ⊢
 cases ho:opf[i]? with
 | none=>simp [ho] at hw
 | some o =>
  rw [ho] at hw
  rw [h.same i o ho]
  refine ⟨hw.1,?_⟩
  cases hj:opf[j]? with
  | none=>simp [hj] at hw
  | some o2=>rw [hj] at hw;rw [h.same j o2 hj];exact hw.2
variable {d:Nat} {op:Op} {ty:TypeId} {pos:String} {aft_:Array Edge} {v:Value} {gd:Option (Nat×Bool)}
theorem rZ {LB:Array Bool} (hV:VY E s LB) (hi:i∉E):VY E s (LB.setIfInBounds i true) :=
 ⟨fun e he=>by rw [getD_set_ne false (fun h=>hi (by rw [h];exact he))];exact hV.1 e he,hV.2⟩
theorem vy_eff {LB:Array Bool} (hV:VY E s LB) (hs:LB.size=ops.size) (hi:i∈E) (hlt:i < ops.size) (v:Value):VY E (upd s i v) (LB.setIfInBounds i true):=by
 refine ⟨fun e he=>?_,fun e he=>?_⟩
 ·by_cases hei:e=i
  ·subst hei
   rw [lP,Array.getD_eq_getD_getElem?,Array.getElem?_setIfInBounds_self_of_lt (by omega)]
   exact ⟨fun _=>rfl,fun _=>rfl⟩
  ·rw [iS _ _ hei,getD_set_ne false (Ne.symm hei)];exact hV.1 e he
 ·rw [iS _ _ (fun h=>he (by rw [h];exact hi))];exact hV.2 e he
theorem sy_base (hie:E.contains i=false) (hi:ops[i]?=some ⟨some d,op,ty,pos,aft_,gd⟩)
  (h:∀ (t0 a:Act) s w,Has n l t0→(∀ t,cB opf t=true→a.eval (.tmp t)=t0.tmps.getD t undef)→GY0 w0 K lo al Ob G s w→Kn ops E i s→(∀ j d,aN ops i j d=true→IY lo al Ob G E L s j (a.eval (.tmp d)) w)→(∀ j d,aN ops i j d=true→atI (LS E s 0 L) j (a.eval (.tmp d)) w) →
   wpOp P ops Q i (fun a' w'=>∃ v,a'=a.put (some d) v∧AwS lo (XB (OY al Ob s) (G s)) (atI L i) v w'∧Below w.heap.size w w') a w):SY P n ops opf Q l w0 K lo al Ob G E L i:=fun t0 h0 s LB a w hF hG hV hs hc hr hD=>by
 have hie':i∉E:=fun h=>by rw [List.contains_iff_mem.2 h] at hie;cases hie
 refine wpOp_mono ?_ (h t0 a s w h0 hF hG (kn_of hV hs hc hr) hD (oW hD))
 rintro a' w' ⟨v,rfl,hA,hb⟩
 exact ⟨s,v,by rw [hi];rfl,rZ hV hie',⟨hG.1.grow hb,Nat.le_trans hG.2 hb.size⟩,⟨jV hb,fun b hb=>.inl hb,fun _ _=>rfl⟩,fun _ _=>⟨fun h=>absurd h hie',hA⟩,fun h=>absurd h hie'⟩
theorem syV (hf:Fst ops opf) (li:Fr) (hie:E.contains i=false) (hi:ops[i]?=some ⟨some d,op,ty,pos,aft_,gd⟩) (hw:∀ s,iY ops (LS E s 0 L) i ⟨some d,op,ty,pos,aft_,gd⟩) (hli:∀ s,lI n opf l (LS E s 0 L) i li)
  (hr:∀ s w,St w0 Ob (G s) K w→cE P li ⟨some d,op,ty,pos,#[],none⟩ w v w) (hI:atI L i=isV v):SY P n ops opf Q l w0 K lo al Ob G E L i :=
 sy_base hie hi fun t0 a s w h0 hF hG hk hD hD'=>by
  exact jX hi ((hw s).yes hD') (by rw [fC a.eval _ _ _ _ pos _ #[] _ none];exact hr s w (St.drops _ hG.1) a.eval (eV h0 hF (fun j d h=>hD' j d (hf.waits h)) (hli s))) ⟨v,rfl,by rw [hI];exact oR,Below.refl _ _⟩
theorem sy_eff {o:Oper} (hie:E.contains i=true) (hi:ops[i]?=some o)
  (h:∀ (t0 a:Act) s w,Has n l t0→(∀ t,cB opf t=true→a.eval (.tmp t)=t0.tmps.getD t undef)→GY0 w0 K lo al Ob G s w→Kn ops E i s→(∀ j d,aN ops i j d=true→IY lo al Ob G E L s j (a.eval (.tmp d)) w)→(∀ j d,aN ops i j d=true→atI (LS E s 0 L) j (a.eval (.tmp d)) w) →
   wpOp P ops Q i (fun a' w'=>∃ v y,a'=a.put o.dst v∧(∀ d,o.dst=some d→v=y)∧St w0 (OY al Ob (upd s i y)) (G (upd s i y)) K w'∧cY 0 (XB (OY al Ob s) (G s)) w w'∧(∀ b,XB (OY al Ob (upd s i y)) (G (upd s i y)) b→XB (OY al Ob s) (G s) b∨w.heap.size≤b)∧AwS lo (XB (OY al Ob (upd s i y)) (G (upd s i y))) (atI L i) y w') a w):SY P n ops opf Q l w0 K lo al Ob G E L i:=fun t0 h0 s LB a w hF hG hV hs hc hr hD=>by
 have hie':i∈E:=List.contains_iff_mem.1 hie
 refine wpOp_mono ?_ (h t0 a s w h0 hF hG (kn_of hV hs hc hr) hD (oW hD))
 rintro a' w' ⟨v,y,rfl,hvy,hSt,hsame,hX,hA⟩
 refine ⟨upd s i y,v,by rw [hi];rfl,vy_eff hV hs hie' (Array.getElem?_eq_some_iff.1 hi).1 y,⟨hSt,Nat.le_trans hG.2 hsame.2.1⟩,⟨hsame,hX,fun j hj=>iS _ _ hj⟩,fun d hd=>?_,fun _ y2 h2=>?_⟩
 ·rw [hi] at hd
  have e:=hvy d hd
  subst e
  exact ⟨fun _=>lP _ _ _,hA⟩
 ·rw [lP] at h2;cases h2;exact hA
def BLY (P:Program) (n:Nat) (ops opf:Array Oper) (Q:Exit→Act→World→Prop) (l:Fr) (w0:World) (K:List (Nat×World)) (lo:Nat) (al:List AB) (Ob:Own) (G:Sy→aQ) (E:List Nat) (Goal:List Asr→Prop):Nat→List Asr→Nat→Prop
 | 0,Lr,_=>Goal Lr
 | m+1,Lr,k=>∃ q,SY P n ops opf Q l w0 K lo al Ob G E (q::Lr).reverse k∧BLY P n ops opf Q l w0 K lo al Ob G E Goal m (q::Lr) (k+1)
variable {Goal:List Asr→Prop}
theorem bly_nil {Lr:List Asr} {k:Nat} (h:Goal Lr):BLY P n ops opf Q l w0 K lo al Ob G E Goal 0 Lr k:=h
theorem eW {m k:Nat} {Lr:List Asr} (k':Nat) (hk:k+1=k') (q:Asr) (h:SY P n ops opf Q l w0 K lo al Ob G E (q::Lr).reverse k) (hr:BLY P n ops opf Q l w0 K lo al Ob G E Goal m (q::Lr) k'):BLY P n ops opf Q l w0 K lo al Ob G E Goal (m+1) Lr k:=by
 subst hk;exact ⟨q,h,hr⟩
theorem oX (ht:cS ops n=true):∀ (m k:Nat) (Lr:List Asr),Lr.length=k→(∀ i,i < k→SY P n ops opf Q l w0 K lo al Ob G E Lr.reverse i)→BLY P n ops opf Q l w0 K lo al Ob G E Goal m Lr k →
  ∃ Lr',Lr'.length=k+m∧(∀ i,i < k+m→SY P n ops opf Q l w0 K lo al Ob G E Lr'.reverse i)∧Goal Lr'
 | 0,k,Lr,hl,hg,h=>⟨Lr,hl,hg,h⟩
 | m+1,k,Lr,hl,hg,⟨q,hr,hn⟩=>by
  have hap:∀ j,j < k→atI Lr.reverse j=atI (q::Lr).reverse j:=fun j hj=>by rw [List.reverse_cons,gS (by simp;omega)]
  obtain ⟨L',h1,h3,h4⟩:=oX ht m (k+1) (q::Lr) (by simp [hl]) (fun i hi=>by
   by_cases hik:i=k
   ·subst hik;exact hr
   ·exact SY.ext ht (fun j hj=>hap j (by omega)) (hg i (by omega))) hn
  exact ⟨L',by omega,fun i hi=>h3 i (by omega),h4⟩
def sA (E:List Nat) (lo:Nat) (X:Nat→Prop) (s:Sy):Nat→List Asr→List Asr
 | _,[]=>[]
 | j,q::L=>(bif E.contains j then isE s j else AwS lo X q)::sA E lo X s (j+1) L
theorem jY {X:Nat→Prop}:∀ (L:List Asr) (j i:Nat),i < L.length→atI (sA E lo X s j L) i=(bif E.contains (i+j) then isE s (i+j) else AwS lo X (atI L i))
 | [],j,i,h=>by simp at h
 | q::L,j,0,h=>by rw [Nat.zero_add];rfl
 | q::L,j,i+1,h=>by
  show atI (sA E lo X s (j+1) L) i=_
  rw [jY L (j+1) i (by simpa using h),show i+1+j=i+(j+1) by omega]
  rfl
theorem regY {id k:Nat} {ds:List Nat} {G0:aQ} (hm:P.follows .mixedOrders=true) (hlo:lo=W.heap.size) (hS:St w0 Ob G0 K W) (hG0:G (fun _=>none)=G0) (hk:Nat.blt k os.length=true) (htl:jA os.toArray k=true) (ht:cS os.toArray n=true) (hE:E.all (fun a=>Nat.blt a k)=true)
  (hdst:(List.range k).all (fun j=>E.contains j || ((os.toArray[j]?).bind (·.dst)).isSome)=true) (hds:(os.drop k).all (fun o=>match o.dst with | some d=>ds.contains d | none=>true)=true)
  (h:BLY P n os.toArray (os.take k).toArray Q l w0 K lo al Ob G E (fun Lr=>∀ (s:Sy) (W':World) (Ks:List (Nat×World)),(∀ e,E.contains e=true→∃ v,s e=some v)→W.heap.size≤W'.heap.size→(∀ q∈Ks,lo≤q.1)→St w0 (OY al Ob s) (G s) (Ks++K) W' →
   (∀ {O2 G2 K2 W2},St w0 O2 G2 K2 W2→(∀ q∈Ks,q∈K2)→cY lo (XB (OY al Ob s) (G s)) W' W2)→(∀ e,E.contains e=true→∀ v,s e=some v→AwS lo (XB (OY al Ob s) (G s)) (atI Lr.reverse e) v W')→(∀ e,E.contains e=false→s e=none) →
   fD (os.take k) (sA E lo (XB (OY al Ob s) (G s)) s 0 Lr.reverse) (fI ds l) (fun l' W'=>aT P n os.toArray Q (os.drop k) l' W') W') k [] 0):cQ P n (.region id os.toArray true) Q l W:=by
 obtain ⟨Lr,h1,h2,hfin⟩:=oX ht k 0 [] rfl (fun i hi=>by omega) h
 rw [Nat.zero_add] at h1 h2
 have hk':k < os.length:=Nat.lt_of_lt_of_le (Nat.lt_succ_self _) (Nat.le_of_ble_eq_true hk)
 have hE':∀ a∈E,a < k:=fun a ha=>Nat.lt_of_lt_of_le (Nat.lt_succ_self _) (Nat.le_of_ble_eq_true (List.all_eq_true.1 hE a ha))
 intro a ha
 have hrep:∀ (m j:Nat),(Array.replicate m false).getD j false=false:=fun m j=>by
  rw [Array.getD_eq_getD_getElem?,Array.getElem?_replicate];split<;>rfl
 refine wp_region_any hm (kO (fr:=cB (os.take k).toArray) (t0:=a.tmps) (d0:=a.defers) (V:=VY E) (I:=IY lo al Ob G E Lr.reverse) (G:=GY w0 K lo al Ob G E Lr.reverse) (k:=k) (fun i d hik hd=>?_) (by simpa using hk') htl (by rw [ha.size];exact ht) (fun i hi=>(h2 i hi).step a ha) ?_ _ (fun _=>none) _ _ _ (by simp) (eU _) (fun j hj=>by rw [hrep] at hj;cases hj) (fun i _=>hrep _ _) ⟨rfl,rfl,fun _ _=>rfl,⟨⟨by unfold OY;rw [AS_none,hG0];exact hS.drew,by rw [hlo];exact Nat.le_refl _⟩,fun _ _ _ h=>(by cases h)⟩,⟨fun e he=>⟨fun h3=>(by rw [hrep] at h3;cases h3),fun h3=>(by cases h3)⟩,fun _ _=>rfl⟩,fun i d _ hj=>(by rw [hrep] at hj;cases hj)⟩)
 ·have hd2:(os[i]?).bind (·.dst)=some d:=by simpa using hd
  obtain ⟨o,ho,hod⟩:=Option.bind_eq_some_iff.1 hd2
  have hm2:o∈os.take k:=List.mem_of_getElem? (i:=i) (by rw [List.getElem?_take,if_pos hik];exact ho)
  cases hf:cB (os.take k).toArray d with
  | false=>rfl
  | true =>
   unfold cB at hf
   have:=Array.all_eq_true'.1 hf o (by simpa using hm2)
   rw [hod] at this
   simp at this
 intro s LB a' W' hR hdone hnot
 obtain ⟨⟨hG,hG2⟩,hG3⟩:=hR.glob
 obtain ⟨v1,v2⟩:=hR.cons
 have hall:∀ e,E.contains e=true→∃ v,s e=some v:=fun e he=>Option.isSome_iff_exists.1 ((v1 e (List.contains_iff_mem.1 he)).1 (hdone e (hE' e (List.contains_iff_mem.1 he))))
 obtain ⟨Ks,c1,⟨qw,c2,c3⟩,c4⟩:=qB (((OY al Ob s).map (·.1))++(G s).filterMap (fun g=>g.v.ownBlock)) lo W'
 have hG4:=hG.more Ks (fun q hq=>⟨(c1 q hq).2.1,fun p hp=>(c1 q hq).2.2 p.1 (List.mem_append_left _ (List.mem_map.2 ⟨p,hp,rfl⟩)),fun g hg b hb=>(c1 q hq).2.2 b (List.mem_append_right _ (List.mem_filterMap.2 ⟨g,hg,hb⟩))⟩)
 have hcov:∀ {O2 G2 K2 W2},St w0 O2 G2 K2 W2→(∀ q∈Ks,q∈K2)→cY lo (XB (OY al Ob s) (G s)) W' W2:=fun {O2 G2 K2 W2} h2 hq=>by
  refine ⟨⟨h2.below.os.trans hG.below.os.symm,h2.below.tape.trans hG.below.tape.symm,h2.below.output.trans hG.below.output.symm⟩,?_,fun b b1 b2 b3=>?_⟩
  ·have:=(h2.kept qw (hq qw c2)).1.1;rw [c3] at this;exact this
  ·obtain ⟨q,q1,q2,q3⟩:=c4 b b1 b2 (fun hb=>b3 (by
    rcases List.mem_append.1 hb with hb | hb
    ·obtain ⟨p,hp,rfl⟩:=List.mem_map.1 hb
     exact .inl ⟨p,hp,rfl⟩
    ·obtain ⟨g,hg,e⟩:=List.mem_filterMap.1 hb
     exact .inr ⟨g,hg,e⟩))
   exact ((h2.kept q (hq q q1)).1.2 b q2 q3).trans ((c1 q q1).2.1.2 b q2 q3).symm
 have htk:(os.take k).length=k:=by simp;omega
 refine fV (os.take k) (sA E lo (XB (OY al Ob s) (G s)) s 0 Lr.reverse) (fI ds l) (fun i d hi hd'=>?_) (fun i hi hd'=>?_) (hR.size.trans ha.size) (hR.defers.trans ha.defers) ?_ (fun l' h ha'=>?_) (hfin s W' Ks hall (by rw [← hlo];exact hG2) (fun q hq=>(c1 q hq).1) hG4 hcov (fun e he v hv=>hG3 e (List.contains_iff_mem.1 he) v hv) (fun e he=>v2 e (fun hm=>by rw [List.contains_iff_mem.2 hm] at he;cases he)))
 ·have hik:i < k:=by omega
  have hd2:(os.toArray[i]?).bind (·.dst)=some d:=by rw [List.getElem?_take,if_pos hik] at hd';simpa using hd'
  obtain ⟨i1,i2⟩:=hR.done i d hd2 (hdone i hik)
  rw [jY Lr.reverse 0 i (by simp;omega),Nat.add_zero]
  cases hc1:E.contains i with
  | true=>rw [cond_true];exact i1 (List.contains_iff_mem.1 hc1)
  | false=>rw [cond_false];exact i2
 ·have hik:i < k:=by omega
  have h3:=List.all_eq_true.1 hdst i (List.mem_range.2 hik)
  have hd2:(os.toArray[i]?).bind (·.dst)=none:=by rw [List.getElem?_take,if_pos hik] at hd';simpa using hd'
  rw [hd2] at h3
  have hc:E.contains i=true:=by simpa using h3
  rw [jY Lr.reverse 0 i (by simp;omega),Nat.add_zero,hc,cond_true]
  exact hall i hc
 ·intro t v hv hno
  have hl:=eH hv (cF hv)
  rw [hR.frame t ?_]
  ·exact ha.at_ t v hl
  ·unfold cB;rw [Array.all_eq_true'];intro o' ho'
   have ho2:o'∈os.take k:=by simpa using ho'
   simpa using hno o' ho2
 ·have:=h a' ha'
  simpa using this
end
section
variable {P:Program} {n:Nat} {ops:Array Oper} {Q:Exit→Act→World→Prop} {l:Fr} {w0 W:World} {os:List Oper} {d:Nat} {ty:TypeId} {pos:String} {aft:Array Edge}
theorem cK {x:Operand} {p:Addr} (hx:evL l x=some (.pointer (some p))):cE P l ⟨some d,.nilCheck x,ty,pos,aft,none⟩ W (.pointer (some p)) W:=fun ev he=>by
 unfold execOp;simp only [];rw [he x _ hx];rfl
theorem aY {x:Operand} {p:Addr} (hx:evL l x=some (.pointer (some p))) (hd:Nat.blt d n=true) (h:aT P n ops Q os ((d,.pointer (some p))::l) W):aT P n ops Q (⟨some d,.nilCheck x,ty,pos,aft,none⟩::os) l W:=opV (cK hx) hd h
end
section
variable {P:Program} {n:Nat} {Q:Exit→Act→World→Prop} {l:Fr} {W:World} {ops:Array Oper} {os:List Oper} {d:Nat} {ty:TypeId} {pos:String} {aft:Array Edge} {x y:Operand} {k:IntKind} {a b:Int} {ts:Array TypeId}
theorem rn_max (hx:evL l x=some (.int k a)) (hy:evL l y=some (.int k b)):cE P l ⟨some d,.call { callee:=.builtin .max,args:=#[x,y],argTypes:=ts },ty,pos,aft,none⟩ W (.int k (max a b)) W:=fun ev he=>by
 have e:(if b > a then b else a)=max a b:=by omega
 unfold execOp
 simp only [resolve,invoke,builtin,Sem.run_bind,Sem.run_pure,Result.andThen_ok,List.map_toArray,List.map_cons,List.map_nil,he x _ hx,he y _ hy,run_max_int2,e]
theorem op_max (hx:evL l x=some (.int k a)) (hy:evL l y=some (.int k b)) (hd:Nat.blt d n=true) (h:aT P n ops Q os ((d,.int k (max a b))::l) W):aT P n ops Q (⟨some d,.call { callee:=.builtin .max,args:=#[x,y],argTypes:=ts },ty,pos,aft,none⟩::os) l W:=opV (rn_max hx hy) hd h
end
section
variable {P:Program} {ops opf:Array Oper} {Q:Exit→Act→World→Prop} {n:Nat} {l:Fr} {w0 W:World} {K:List (Nat×World)} {lo:Nat} {al:List AB} {Ob:Own} {G:Sy→aQ} {E:List Nat} {L:List Asr} {i:Nat}
variable {d:Nat} {op:Op} {ty:TypeId} {pos:String} {aft_:Array Edge}
end
end
section
open Go.RowKit
open Go.WideMaps (KeyLaw)
open Go.ChangeMaps (setBlock)
section
variable {α:Type} {P:Program} {K E S T:TypeId} {κ:α→Value} {W:World} {lo b:Nat} {f:α→List Value}
theorem mN {w:World} {base n p:Nat} {e:TypeId} {size:Nat} {v:Value} {xs:List Value} (h:w.ownsRow base e size v n xs) {es:Array MapEntry} {clock:Nat} (hb:w.heap[b]?=some (.map es clock)) (hp:v.ownBlock=some p):p≠b:=by
 rcases h.2 with ⟨rfl,_⟩ | ⟨g,cap,cur,rfl,_,h4,_⟩
 ·cases hp
 ·intro e1
  have:g=p:=Option.some.inj hp
  rw [this,e1,hb] at h4;cases h4
variable {n:Nat} {ops:Array Oper} {Q:Exit→Act→World→Prop} {os:List Oper} {l:Fr} {w0:World} {O:Own} {G:aQ} {Kk:List (Nat×World)} {d:Nat} {ty:TypeId} {pos:String} {aft:Array Edge}
theorem nL (hS:St w0 O G Kk W) (hd:Nat.blt d n=true) (h:∀ B W',W'.heap[B]?=some (.map #[] 0)→W.heap.size≤B→St w0 O G ((W.heap.size,W')::Kk) W'→aT P n ops Q os ((d,.map (some B))::l) W'):aT P n ops Q (⟨some d,.makeMap T none,ty,pos,aft,none⟩::os) l W :=
 opV (W':=W.alloc (.map #[] 0)) (v:=.map (some W.heap.size)) (fun ev he=>by
  unfold execOp
  simp [Instr.makeMap,Result.andThen]) hd (h _ _ (heap_alloc_new W _) (Nat.le_refl _) (hS.call ((Below.refl _ _).alloc (Nat.le_refl _) _)))
def kP (W:World) (b:Nat):World:={ W with heap:=W.heap.extract 0 (b+1) }
theorem eX (h:b < W.heap.size):(kP W b).heap.size=b+1:=by simp [kP];omega
theorem oY (h:b < W.heap.size):b < (kP W b).heap.size:=by rw [eX h];exact Nat.lt_succ_self _
theorem oZ (h:b < W.heap.size):(kP W b).heap[b]?=W.heap[b]?:=by
 rw [Array.getElem?_eq_getElem (oY h),Array.getElem?_eq_getElem h]
 simp [kP]
end
end
section
open Go.RowKit
section
variable {w0 W:World} {O:Own} {G:aQ} {K:List (Nat×World)}
theorem eM {w:World} {base n b k:Nat} {e:TypeId} {size:Nat} {c:Nat} {xs:List Value} {x:Value} (h:w.ownsRow base e size (.slice (some ⟨b,0,none⟩) n c) n xs) (hk:xs[k]?=some x):w.cell? ⟨b,k,none⟩=some x:=by
 rcases eR h with ⟨h1,_⟩ | ⟨b2,h1,_,h3⟩
 ·cases h1
 ·cases h1;exact h3 k x hk
variable {P:Program} {n:Nat} {ops:Array Oper} {Q:Exit→Act→World→Prop} {l:Fr} {os:List Oper} {d:Nat} {ty:TypeId} {pos:String} {aft:Array Edge}
theorem St.markBlk {b:Nat} (h:St w0 O G K W) (hb:b < W.heap.size) (hO:∀ p∈O,p.1≠b) (hG:∀ g∈G,∀ k,g.v.ownBlock=some k→k≠b):St w0 O G ((b,kP W b)::K) W where
 below:=h.below
 own:=h.own
 dist:=h.dist
 kept:=fun q hq=>by
  rcases List.mem_cons.1 hq with rfl | hq
  ·refine ⟨⟨by show (kP W b).heap.size≤_;rw [eX hb];exact hb,fun x h1 h2=>?_⟩,fun p hp=>?_⟩
   ·have h3:x < b+1:=by rw [← eX hb];exact h2
    have h4:b≤x:=h1
    obtain rfl:x=b:=by omega
    exact (oZ hb).symm
   ·have:=hO p hp
    show p.1 < b∨(kP W b).heap.size≤p.1
    rw [eX hb];omega
  ·exact h.kept q hq
 rows:=fun g hg=>by
  obtain ⟨h1,h2⟩:=h.rows g hg
  refine ⟨h1,fun k hk=>⟨(h2 k hk).1,fun q hq=>?_⟩⟩
  rcases List.mem_cons.1 hq with rfl | hq
  ·have:=hG g hg k hk
   show k < b∨(kP W b).heap.size≤k
   rw [eX hb];omega
  ·exact (h2 k hk).2 q hq
 gdist:=h.gdist
end
section
variable {P:Program} {ops opf:Array Oper} {Q:Exit→Act→World→Prop} {n:Nat} {l:Fr} {w0 W:World} {K:List (Nat×World)} {lo:Nat} {al:List AB} {Ob:Own} {G:Sy→aQ} {E:List Nat} {L:List Asr} {i:Nat}
variable {d:Nat} {op:Op} {ty:TypeId} {pos:String} {aft_:Array Edge}
end
section
variable {P:Program} {n:Nat} {ops:Array Oper} {Q:Exit→Act→World→Prop} {l:Fr} {w0 W:World} {O:Own} {G:aQ} {K:List (Nat×World)} {os:List Oper} {d:Nat} {ty:TypeId} {pos:String} {aft:Array Edge}
theorem nM {T e:TypeId} {x y:Operand} {kk:IntKind} {a:Option Addr} {m c k s:Nat} {j:Int} (hU:P.underlying T=some (.slice e)) (hs:∀ w,(sizeOf e).run P w = .ok s w) (hx:evL l x=some (.slice a m c)) (hy:evL l y=some (.int kk j)) (hj:j=(k:Int)) (hk:k≤c) (h0:c≠0) (ha:∀ p,a=some p→∃ b o,p=⟨b,o,none⟩) :
  cE P l ⟨some d,.slice T x none (some y) none,ty,pos,aft,none⟩ W (.slice a k c) W:=fun ev he=>by
 subst hj
 have h1:(0:Int)≤(k:Int):=by omega
 have h2:(k:Int)≤(c:Int):=by omega
 have hm:a.map (·.add 0)=a:=by
  cases a with
  | none=>rfl
  | some p=>obtain ⟨b,o,rfl⟩:=ha p rfl;rfl
 unfold execOp;simp only [Option.map_some,Option.map_none];rw [he x _ hx,he y _ hy]
 simp [Instr.sliceAt,Instr.slice,Instr.sliceBounds,Instr.sliceBound,run_underlying hU,asIntOf,hk,hs,h0]
 exact hm
theorem jZ {T e:TypeId} {x y:Operand} {kk:IntKind} {a:Option Addr} {m c k s:Nat} {j:Int} (hU:P.underlying T=some (.slice e)) (hs:∀ w,(sizeOf e).run P w = .ok s w) (hx:evL l x=some (.slice a m c)) (hy:evL l y=some (.int kk j)) (hj:j=(k:Int)) (hk:k≤c) (h0:c≠0) (ha:∀ p,a=some p→∃ b o,p=⟨b,o,none⟩) (hd:Nat.blt d n=true)
  (h:aT P n ops Q os ((d,.slice a k c)::l) W):aT P n ops Q (⟨some d,.slice T x none (some y) none,ty,pos,aft,none⟩::os) l W:=opV (nM hU hs hx hy hj hk h0 ha) hd h
end
end
section
abbrev gN (l:List Nat) (i:Nat):Nat:=l.getD i 0
structure PT where
 al:List Nat
 pl:List Nat
 bk:List Nat
 fs:List Nat
 sz:List Nat
 mr:List Nat
def PM (P:PT) (s:Nat):Prop:=gN P.pl s < gN P.fs (gN P.bk s)+gN P.mr (gN P.bk s)
instance (P:PT) (s:Nat):Decidable (PM P s):=by unfold PM;exact inferInstance
section
variable {n:Nat} {P:PT} {s b:Nat}
end
end
section
open Go.RowKit
theorem St.ownRowE {w0 W:World} {O:Own} {G:aQ} {K:List (Nat×World)} {b n c sz:Nat} {xs cs:List Value} {T:TypeId} (h:St w0 ((b,xs++cs,T)::O) G K W) (hx:xs.length=n * sz) (hl:(xs++cs).length=c * sz) (hn:n≤c) (hm:c≤maxLen):St w0 O (⟨.slice (some ⟨b,0,none⟩) n c,n,xs,T,sz⟩::G) K W where
 below:=h.below
 own:=fun p hp=>h.own p (List.mem_cons_of_mem _ hp)
 dist:=(List.pairwise_cons.1 h.dist).2
 kept:=fun q hq=>⟨(h.kept q hq).1,fun p hp=>(h.kept q hq).2 p (List.mem_cons_of_mem _ hp)⟩
 rows:=fun g hg=>by
  rcases List.mem_cons.1 hg with rfl | hg
  ·obtain ⟨h1,h2⟩:=h.own _ List.mem_cons_self
   refine ⟨⟨hx,.inr ⟨b,c,(xs++cs).toArray,rfl,h1,h2,hn,hm,by simpa using hl,?_⟩⟩,fun b2 hb2=>?_⟩
   ·show (xs++cs).take (n * sz)=xs
    rw [← hx,List.take_left]
   ·cases hb2
    exact ⟨fun p hp e=>(List.pairwise_cons.1 h.dist).1 p hp e.symm,fun q hq=>(h.kept q hq).2 _ List.mem_cons_self⟩
  ·obtain ⟨h1,h2⟩:=h.rows g hg
   exact ⟨h1,fun b2 hb2=>⟨fun p hp=>(h2 b2 hb2).1 p (List.mem_cons_of_mem _ hp),(h2 b2 hb2).2⟩⟩
 gdist:=List.Pairwise.cons (fun g hg b2 hb2 e=>by
  cases hb2
  exact ((h.rows g hg).2 b e).1 _ List.mem_cons_self rfl) h.gdist
theorem St.rowOwnE {w0 W:World} {O:Own} {G:aQ} {K:List (Nat×World)} {a:Option Addr} {n c:Nat} {xs:List Value} {T:TypeId} {sz:Nat} (h:St w0 O (⟨.slice a n c,n,xs,T,sz⟩::G) K W) (hn:0 < n):∃ (b:Nat) (cs:List Value),a=some ⟨b,0,none⟩∧(xs++cs).length=c * sz∧n≤c∧c≤maxLen∧St w0 ((b,xs++cs,T)::O) G K W:=by
 obtain ⟨hrow,hap⟩:=h.rows _ List.mem_cons_self
 dsimp only at hrow hap
 rcases hrow.2 with ⟨_,e2⟩ | ⟨g,cap,cur,e1,hg,hh,hn2,hm,hs,ht⟩
 ·omega
 ·injection e1 with e1 _ e3
  subst e1
  subst e3
  obtain ⟨ho,hq⟩:=hap g rfl
  have e9:xs++cur.toList.drop (n * sz)=cur.toList:=by rw [← ht,List.take_append_drop]
  refine ⟨g,cur.toList.drop (n * sz),rfl,by rw [e9];simpa using hs,hn2,hm,h.below,fun p hp=>?_,List.Pairwise.cons (fun p hp e=>ho p hp e.symm) h.dist,fun q hq'=>⟨(h.kept q hq').1,fun p hp=>?_⟩,fun g2 hg2=>?_,(List.pairwise_cons.1 h.gdist).2⟩
  ·rcases List.mem_cons.1 hp with rfl | hp
   ·refine ⟨hg,?_⟩
    dsimp only
    rw [e9,Array.toArray_toList]
    exact hh
   ·exact h.own p hp
  ·rcases List.mem_cons.1 hp with rfl | hp
   ·exact hq q hq'
   ·exact (h.kept q hq').2 p hp
  ·obtain ⟨h1,h2⟩:=h.rows g2 (List.mem_cons_of_mem _ hg2)
   refine ⟨h1,fun b2 hb2=>⟨fun p hp=>?_,(h2 b2 hb2).2⟩⟩
   rcases List.mem_cons.1 hp with rfl | hp
   ·intro e
    dsimp only at e
    subst e
    exact (List.pairwise_cons.1 h.gdist).1 g2 hg2 g rfl hb2
   ·exact (h2 b2 hb2).1 p hp
section
variable {P:Program} {n:Nat} {Q:Exit→Act→World→Prop} {l:Fr} {w0 W w:World} {ops:Array Oper} {os:List Oper} {K:List (Nat×World)} {Ob:Own}
def mO (lo m:Nat):Asr:=fun v _=>∃ B,v = .slice (some ⟨B,0,none⟩) m m∧lo≤B
variable {opf:Array Oper} {L:List Asr} {i lo d:Nat} {al:List AB} {Gs:Sy→aQ} {E:List Nat} {ty:TypeId} {pos:String} {aft_:Array Edge}
theorem pA {T e:TypeId} {inf:TypeInfo} {z:Value} {m tx jx:Nat} {cs:List Value} (q:AB) (hie:E.contains i=true) (hi:ops[i]?=some ⟨some d,.makeSlice T (.tmp tx) (.tmp tx),ty,pos,aft_,none⟩) (hU:P.underlying T=some (.slice e)) (hinf:P.info? e=some inf) (hz:inf.zero=some z) (hcs:madeCells z.cells (m * inf.size)=cs.toArray) (hb:(inf.bytes:Int) * m≤281474976710656) (h63:(m:Int)≤9223372036854775807)
  (hwx:aN ops i jx tx=true) (hLx:atI L jx=isV (.int .i64 (m:Int))) (hq:q∈al) (hqa:q.a=i) (hqT:q.T=e) (hqz:q.zs=cs) (hqs:(earlyL ops q.st).contains i=true∨E.contains q.st=false)
  (hn:(al.map (·.a)).Nodup) (hst_:al.all (fun q => !Nat.beq q.st i)=true) (hG:∀ s v,Gs (upd s i v)=Gs s) (hL:atI L i=mO lo m):SY P n ops opf Q l w0 K lo al Ob Gs E L i :=
 sy_eff hie hi fun t0 a s w h0 hF hg hk hD hD'=>by
  have hst:=st_ne hst_
  subst hqz
  have hc:q.cs s=q.zs:=by
   unfold AB.cs
   rw [show s q.st=none from hqs.elim (fun h=>hk.no _ h) (fun h=>hk.out _ h)]
  have hx1:=(hD jx tx hwx).2
  rw [hLx] at hx1
  have ex:a.eval (.tmp tx) = .int .i64 (m:Int):=hx1.here
  have hB:Below w.heap.size w (w.alloc (.cells q.zs.toArray e)):=(Below.refl _ _).alloc (Nat.le_refl _) _
  have hperm:=mM (v:=.slice (some ⟨w.heap.size,0,none⟩) m m) hk.self hq hqa hn hst
  rw [hc,hqT] at hperm
  have h1:=hg.1.alloc q.zs e
  have hSt:=h1.perm (O':=OY al Ob (upd s i (.slice (some ⟨w.heap.size,0,none⟩) m m))) (List.Perm.append_right Ob hperm)
  refine jX hi rfl (v:=.slice (some ⟨w.heap.size,0,none⟩) m m) (w':=w.alloc (.cells q.zs.toArray e)) ?_ ⟨_,_,rfl,fun _ _=>rfl,by rw [hG];exact hSt,jV hB,fun b hb=>?_,by rw [hL];exact fun _ _=>⟨_,rfl,hg.2⟩⟩
  ·have hr:=run_make (P:=P) w T e inf z hU hinf hz .i64 .i64 m m (by omega) (by omega) hb h63
   rw [Int.toNat_natCast,hcs] at hr
   unfold execOp;simp only [];rw [ex]
   simp only [Sem.run_bind,hr,Result.andThen_ok,Sem.run_pure]
  ·rw [hG] at hb
   rcases hb with ⟨p,hp,rfl⟩ | h
   ·have hp2:=(List.Perm.append_right Ob hperm).mem_iff.2 hp
    rw [List.cons_append] at hp2
    rcases List.mem_cons.1 hp2 with rfl | hp2
    ·exact .inr (Nat.le_refl _)
    ·exact .inl (.inl ⟨p,hp2,rfl⟩)
   ·exact .inl (.inr h)
theorem sB (v:Value) (n:Nat):madeCells #[v] n=(List.replicate n v).toArray:=by
 unfold madeCells
 apply Array.ext
 ·simp
 ·intro i h1 h2
  simp [Nat.mod_one]
variable {base:aQ} {pb:Nat} {T e:TypeId} {a0 a1 a2 v1 v2 v3:Value} {m:Nat} {x1 x2 x3:List Value} {u1 u2 u3:Value} {i1 i2 i3 j1 j2:Nat} {s:Sy}
end
theorem jC:∀ (A old new B:List Value),old.length=new.length→bP (A++old++B) A.length new=A++new++B
 | A,[],[],B,_=>by simp [bP]
 | A,[],_::_,B,h=>by simp at h
 | A,_::_,[],B,h=>by simp at h
 | A,o::old,v::new,B,h=>by
  have h9:=jC (A++[v]) old new B (by simpa using h)
  simp only [bP]
  have e:(A++o::old++B).set A.length v=(A++[v])++old++B:=by simp [List.set_append]
  rw [e]
  simpa using h9
theorem fW:∀ (new cs B:List Value) (j:Nat),j+new.length≤cs.length→bP (cs++B) j new=bP cs j new++B
 | [],cs,B,j,_=>rfl
 | v::new,cs,B,j,h=>by
  simp only [bP]
  rw [List.set_append_left _ _ (by simp at h;omega)]
  exact fW new (cs.set j v) B (j+1) (by simp at h ⊢;omega)
theorem dX:∀ (new cs:List Value) (j:Nat),(bP cs j new).length=cs.length
 | [],cs,j=>rfl
 | v::new,cs,j=>by simp only [bP];rw [dX new];simp
section
variable {P:Program} {n:Nat} {Q:Exit→Act→World→Prop} {l:Fr} {W w0:World} {ops:Array Oper} {os:List Oper} {d:Nat} {ty:TypeId} {pos:String} {aft:Array Edge} {x y:Operand} {k:IntKind} {a b:Int} {ts:Array TypeId} {O:Own} {G:aQ} {K:List (Nat×World)} {v:Value}
theorem qE {t u e:TypeId} {p:Option Addr} {nn c m cc:Nat} (hU:P.underlying t=some (.slice e)) (hx:evL l x=some (.slice p nn c)):cE P l ⟨some d,.binOp .eql t x (.const (.slice none m cc)) u,ty,pos,aft,none⟩ W (.bool p.isNone) W:=fun ev he=>cJ (he x _ hx) (he _ _ rfl) rfl (Go.Lib.run_eql_slice_nil W t e p nn c m cc hU)
theorem nN {T U:TypeId} {B m c j sz:Nat} {xs xs':List Value} (hS:St w0 O (⟨.slice (some ⟨B,0,none⟩) m c,m,xs,U,sz⟩::G) K W) (hsz:∀ w,(sizeOf T).run P w = .ok 1 w) (hx:evL l x=some (.pointer (some ⟨B,j,none⟩))) (hy:evL l y=some v) (hv:v.oneCell'=true) (hm:0 < m) (hj:j < xs.length)
  (hcs:xs.set j v=xs') (h:∀ W',St w0 O (⟨.slice (some ⟨B,0,none⟩) m c,m,xs',U,sz⟩::G) K W'→aT P n ops Q os l W'):aT P n ops Q (⟨none,.store T x y,ty,pos,aft,none⟩::os) l W:=by
 obtain ⟨b,cs,e,hl,hmc,hcm,hS1⟩:=hS.rowOwnE hm
 obtain rfl:B=b:=by injection e with e;injection e
 have hxs:=(hS.row 0 rfl).1
 subst hcs
 refine bO (i:=0) (cs':=xs.set j v++cs) (O':=(B,xs.set j v++cs,U)::O) hS1 hsz hx hy hv rfl (Nat.ble_eq_true_of_le (by rw [List.length_append];omega)) (List.set_append_left _ _ hj) rfl fun W' hS2=>h W' ?_
 exact hS2.ownRowE (by rw [List.length_set];exact hxs) (by rw [← hl];simp) hmc hcm
theorem mP {T U:TypeId} {B m c j sz:Nat} {xs xs' vs:List Value} (hS:St w0 O (⟨.slice (some ⟨B,0,none⟩) m c,m,xs,U,sz⟩::G) K W) (hsz:∀ w,(sizeOf T).run P w = .ok vs.length w) (hx:evL l x=some (.pointer (some ⟨B,j,none⟩))) (hy:evL l y=some (.agg vs.toArray)) (hv:vs.all Value.oneCell'=true) (hm:0 < m) (hj:j+vs.length≤xs.length)
  (hcs:bP xs j vs=xs') (h:∀ W',St w0 O (⟨.slice (some ⟨B,0,none⟩) m c,m,xs',U,sz⟩::G) K W'→aT P n ops Q os l W'):aT P n ops Q (⟨none,.store T x y,ty,pos,aft,none⟩::os) l W:=by
 obtain ⟨b,cs,e,hl,hmc,hcm,hS1⟩:=hS.rowOwnE hm
 obtain rfl:B=b:=by injection e with e;injection e
 have hxs:=(hS.row 0 rfl).1
 subst hcs
 refine bI (i:=0) (cs':=bP xs j vs++cs) (O':=(B,bP xs j vs++cs,U)::O) hS1 hsz hx hy hv rfl (Nat.ble_eq_true_of_le (by rw [List.length_append];omega)) (fW _ _ _ _ hj) rfl fun W' hS2=>h W' ?_
 exact hS2.ownRowE (by rw [dX];exact hxs) (by rw [← hl,List.length_append,List.length_append,dX]) hmc hcm
theorem nO {T e U:TypeId} {z:Value} {B m c j nn cc:Nat} {xs xs':List Value} (hS:St w0 O (⟨.slice (some ⟨B,0,none⟩) m c,m,xs,U,1⟩::G) K W) (hU:P.underlying T=some (.slice e)) (hz:∀ w,(zeroValue e).run P w = .ok z w) (hzc:z.cells=#[z]) (hz1:z.oneCell'=true) (hx:evL l x=some (.slice (some ⟨B,j,none⟩) nn cc)) (hn:0 < nn) (hj:j+nn=m)
  (hcs:bP xs j (List.replicate nn z)=xs') (h:∀ W',St w0 O (⟨.slice (some ⟨B,0,none⟩) m c,m,xs',U,1⟩::G) K W'→aT P n ops Q os l W'):aT P n ops Q (⟨none,.call { callee:=.builtin .clear,args:=#[x],argTypes:=#[T] },ty,pos,aft,none⟩::os) l W:=fun a ha=>by
 refine wpList_plain rfl fun K' hK=>?_
 obtain ⟨b,cs,e9,hl,hmc,hcm,hS1⟩:=hS.rowOwnE (by omega)
 obtain rfl:B=b:=by injection e9 with e9;injection e9
 have hxs:=(hS.row 0 rfl).1
 dsimp only at hxs
 subst hcs
 have hzs:(Builtin.zeroCells z.cells nn).toList=List.replicate nn z:=by
  rw [hzc]
  simp [Builtin.zeroCells]
  apply List.ext_getElem
  ·simp
  ·intro i h1 h2
   simp [Nat.mod_one]
 have hst:=dG (P:=P) (List.replicate nn z) 0 j W (xs++cs) (hS1.at_ 0 rfl) (by simp;omega) (fun u hu=>by rw [List.eq_of_mem_replicate hu];exact hz1)
 rw [Nat.add_zero] at hst
 have hrun:(Builtin.clear_ #[T] ty #[.slice (some ⟨B,j,none⟩) nn cc]).run P W = .ok (.tuple #[]) (Go.Proofs.Ytpgmnbgkejiomaa.setMany W B j (List.replicate nn z)):=by
  obtain ⟨q,rfl⟩:∃ q,nn=q+1:=⟨nn - 1,by omega⟩
  simp [Builtin.clear_,run_underlying hU,hz,hzs,hst]
 unfold Oper.wp execOp
 simp only [resolve,invoke,builtin,Sem.run_bind,Sem.run_pure,Result.andThen_ok,List.map_toArray,List.map_cons,List.map_nil,ha.ev x _ hx,hrun,Oper.upon_skip]
 have hS2:=hS1.setMany 0 (List.replicate nn z) j rfl
 have h2:=h _ (St.ownRowE (b:=B) (cs:=cs) (xs:=bP xs j (List.replicate nn z)) (n:=m) (c:=c) (sz:=1) (T:=U) (O:=O) (G:=G) (K:=K) (w0:=w0) (by
  have e:bP (xs++cs) j (List.replicate nn z)=bP xs j (List.replicate nn z)++cs:=fW _ _ _ _ (by simp;omega)
  rw [← e];exact hS2) (by rw [dX];exact hxs) (by rw [← hl,List.length_append,List.length_append,dX]) hmc hcm)
 exact hK _ _ (h2 _ ha)
end
theorem cL:prog.follows .mixedOrders=true:=by kernel_rfl
theorem bs_25_2 (v0:Int) (v1:Int):Instr.fill (fun i=>some (i * 1,1)) ((Array.range (2 * 1)).map ((Value.cells (.int .i64 0))[· % (Value.cells (.int .i64 0)).size]!)) [(0,.int .i64 v0),(1,.int .i64 v1)]=some (List.toArray [.int .i64 v0,.int .i64 v1]):=by kernel_rfl
theorem dM (v0:Int):Instr.fill (fun i=>some (i * 1,1)) ((Array.range (1 * 1)).map ((Value.cells (.int .i64 0))[· % (Value.cells (.int .i64 0)).size]!)) [(0,.int .i64 v0)]=some (List.toArray [.int .i64 v0]):=by kernel_rfl
theorem kA:prog.info? 3=some Try.t3:=by kernel_rfl
end
section
def sC (c:Nat):Nat→Nat
 | 0=>0
 | m+1=>256 * sC c m+c
def py (m x:Nat):Nat:=(x / 2 &&& sC 85 m)+(x &&& sC 85 m)
def y1 (b:Nat):Nat:=((b / 2) &&& 85)+(b &&& 85)
def z1 (b:Nat):Nat:=(y1 b / 4 &&& 51)+(y1 b &&& 51)
def v1 (b:Nat):Nat:=(z1 b / 16+z1 b) &&& 15
end
section
open Go.RowKit
theorem gW {k:IntKind} {a b:Int} (h:a=b):Ending.returned (.int k a) = .returned (.int k b):=by rw [h]
theorem eN {a b:Bool} (h:a=b):Ending.returned (.bool a) = .returned (.bool b):=by rw [h]
end
end Go.Proofs.Ytpgmnbgkejiomaa
namespace Go.Proofs
open Go.Shelf
def Try.lays189_ren:Go.Shelf.Ren:=⟨fun | 189=>45 | 125=>54 | 257=>53 | 128=>68 | 129=>69 | 294=>59 | 295=>60 | 296=>61 | 297=>62 | 298=>63 | 299=>64 | 216=>65 | 300=>66 | 301=>67 | 328=>75 | 329=>76 | 330=>77 | 331=>78 | 332=>79 | 215=>80 | 343=>83 | n=>n,fun | 28=>25 | 3=>3 | 46=>89 | 0=>0 | 51=>107 | 53=>109 | 4=>4 | 183=>99 | 182=>98 | 131=>104 | 5=>5 | 9=>9 | 218=>115 | 222=>91 | 228=>126 | 229=>113 | n=>n,fun | n=>n⟩
theorem Try.lays189:Go.Proofs.Lays.n189 prog Try.lays189_ren:={
 mixed:=by kernel_rfl
 f125:=func54.trans (congrArg some (by kernel_rfl))
 f128:=func68.trans (congrArg some (by kernel_rfl))
 f129:=func69.trans (congrArg some (by kernel_rfl))
 f189:=func45.trans (congrArg some (by kernel_rfl))
 f215:=func80.trans (congrArg some (by kernel_rfl))
 f216:=func65.trans (congrArg some (by kernel_rfl))
 f257:=func53.trans (congrArg some (by kernel_rfl))
 f294:=func59.trans (congrArg some (by kernel_rfl))
 f295:=func60.trans (congrArg some (by kernel_rfl))
 f296:=func61.trans (congrArg some (by kernel_rfl))
 f297:=func62.trans (congrArg some (by kernel_rfl))
 f298:=func63.trans (congrArg some (by kernel_rfl))
 f299:=func64.trans (congrArg some (by kernel_rfl))
 f300:=func66.trans (congrArg some (by kernel_rfl))
 f301:=func67.trans (congrArg some (by kernel_rfl))
 f328:=func75.trans (congrArg some (by kernel_rfl))
 f329:=func76.trans (congrArg some (by kernel_rfl))
 f330:=func77.trans (congrArg some (by kernel_rfl))
 f331:=func78.trans (congrArg some (by kernel_rfl))
 f332:=func79.trans (congrArg some (by kernel_rfl))
 f343:=func83.trans (congrArg some (by kernel_rfl))
 t0:=underlying0
 a0:=isAgg0
 z0:=sizeOf0
 v0:=zeroValue0
 t3:=underlying3
 a3:=isAgg3
 z3:=sizeOf3
 v3:=zeroValue3
 t4:=underlying4
 a4:=isAgg4
 z4:=sizeOf4
 v4:=zeroValue4
 t5:=underlying5
 a5:=isAgg5
 z5:=sizeOf5
 v5:=zeroValue5
 t9:=underlying9
 a9:=isAgg9
 z9:=sizeOf9
 v9:=zeroValue9
 t28:=underlying25
 a28:=isAgg25
 z28:=sizeOf25
 v28:=zeroValue25
 t46:=underlying89
 a46:=isAgg89
 z46:=sizeOf89
 v46:=zeroValue89
 t51:=underlying107
 a51:=isAgg107
 z51:=sizeOf107
 v51:=zeroValue107
 t53:=underlying109
 a53:=isAgg109
 z53:=sizeOf109
 v53:=zeroValue109
 t131:=underlying104
 a131:=isAgg104
 z131:=sizeOf104
 v131:=zeroValue104
 t182:=underlying98
 a182:=isAgg98
 z182:=sizeOf98
 v182:=zeroValue98
 t183:=underlying99
 a183:=isAgg99
 z183:=sizeOf99
 v183:=zeroValue99
 t218:=underlying115
 a218:=isAgg115
 z218:=sizeOf115
 v218:=zeroValue115
 t222:=underlying91
 a222:=isAgg91
 z222:=sizeOf91
 v222:=zeroValue91
 t228:=underlying126
 a228:=isAgg126
 z228:=sizeOf126
 v228:=zeroValue126
 t229:=underlying113
 a229:=isAgg113
 z229:=sizeOf113
 v229:=zeroValue113 }
open Go.Sort Go.RowKit in
theorem Try.slices_Sort_int (blk off cap:Nat) (zs:List Int) (w:World) (hH:Holds (Value.int .i64) w blk off zs.toArray) (hblk:blk < w.heap.size) (hsz:zs.length < 4611686018427387904) :
  Calls prog 45 #[.slice (some ⟨blk,off,none⟩) zs.length cap] w fun e w' =>
   e = .returned (.tuple #[])∧∃ n os,w'=grow (putRow (Value.int .i64) (Sort.ahead w n) blk off (zs.mergeSort fun x y=>decide (x≤y)).toArray) os:=Any.slices_Sort_int Try.lays189 blk off cap zs w hH hblk hsz
open Go.RowKit Go.Sort in
theorem Try.slices_Sort_int_none (p:Option Addr) (cap:Nat) (w:World) :
  Calls prog 45 #[.slice p 0 cap] w fun e w'=>e = .returned (.tuple #[])∧w'=w:=Any.slices_Sort_int_none Try.lays189 p cap w
end Go.Proofs
namespace Go.Proofs.Ytpgmnbgkejiomaa
open Go.Proofs.Try
section
open Go.Proofs.Try
open Go.RowKit
structure Cl where
 f:Nat
 k:Int
 v:Int
def dimC (d:Int):Int:=if d < 0∨64 < d then 41 else 0
structure WF where
 z:Bool
 c:Int
 g:Nat
 ra:Option Addr
 rl:Nat
 rc:Nat
 rows:List Nat
 ca:Option Addr
 cl:Nat
 cc:Nat
 cells:List Cl
 pa:Option Addr
 pl:Nat
 pc:Nat
def W6 (w:World) (b o:Nat) (f:WF):Prop:=w.cell? ⟨b,o,none⟩=some (.bool f.z)∧w.cell? ⟨b,o+1,none⟩=some (.int .i64 f.c)∧w.cell? ⟨b,o+2,none⟩=some (.int .u64 (f.g:Int))∧w.cell? ⟨b,o+3,none⟩=some (.slice f.ra f.rl f.rc)∧w.cell? ⟨b,o+4,none⟩=some (.slice f.ca f.cl f.cc)∧w.cell? ⟨b,o+5,none⟩=some (.slice f.pa f.pl f.pc)
def vals (c:Cl):List Value:=[.int .u64 (c.f:Int),.int .i64 c.k,.int .i64 c.v]
def z0:Cl:=⟨0,0,0⟩
def oneAt (k:Nat):Cl:=⟨2 ^ k,0,0⟩
def unitC (n:Nat):List Cl:=(List.range n).map oneAt
def putE (d i:Int):Int:=if dimC d≠0 then dimC d else if i < 0∨d≤i then 5 else 0
def putR (d i:Int) (c:Cl):List Cl:=if putE d i=0 then (unitC d.toNat).set i.toNat c else []
def copyE (d i from_:Int):Int:=if dimC d≠0 then dimC d else if from_ < 0∨d≤from_ then 5 else putE d i
def copyR (d i from_:Int):List Cl:=if copyE d i from_=0 then putR d i (oneAt from_.toNat) else []
def rB:List Cl:=[⟨1,0,0⟩,⟨1,0,0⟩]
theorem eB:copyR 2 1 0=rB:=by rfl
def Row (w:World) (a:Option Addr) (zs:List Int):Prop :=
 zs=[]∨∃ b off,a=some ⟨b,off,none⟩∧∀ i,i < zs.length→w.cell? ⟨b,off+i,none⟩=some (.int .i64 (zs.getD i 0))
theorem nP {w:World} {a:Addr} {v:Value} (h:w.cell? a=some v):a.block < w.heap.size:=by
 rcases Nat.lt_or_ge a.block w.heap.size with h' | h'
 ·exact h'
 ·simp [World.cell?,Array.getElem?_eq_none h'] at h
theorem Row.below {w w':World} {a:Option Addr} {zs:List Int} (h:Row w a zs) (hb:Below w.heap.size w w'):Row w' a zs:=by
 rcases h with h | ⟨b,off,rfl,hc⟩
 ·exact .inl h
 ·refine .inr ⟨b,off,rfl,fun i hi=>?_⟩
  have h1:=hc i hi
  rw [hb.cell]
  ·exact h1
  ·exact nP h1
theorem dE {α:Type} {l:List α} {q:α→Bool} {i:Nat} {x:α} (h:l[i]?=some x) (hq:q x=false):l.all q=false:=by
 rw [List.all_eq_false];exact ⟨x,List.mem_of_getElem? h,by rw [hq];decide⟩
theorem fX {α:Type} {l:List α} {q:α→Bool} {i:Nat} {x:α} (h:l[i]?=some x) (ha:(l.take i).all q=true) (hq:q x=true):(l.take (i+1)).all q=true:=by
 rw [List.take_add_one,h];simp [ha,hq]
set_option linter.unusedSimpArgs false
def pc:Nat→Nat→Nat
 | 0,_=>0
 | n+1,f=>pc n f+(if f.testBit n then 1 else 0)
theorem Row.at1 {w:World} {a:Option Addr} {zs:List Int} (h:Row w a zs) {i:Nat} (hi:i < zs.length):∃ b off y,a=some ⟨b,off,none⟩∧zs[i]?=some y∧w.cell? ⟨b,off+i * 1,none⟩=some (.int .i64 y):=by
 rcases h with rfl | ⟨b,off,ha,hc⟩
 ·simp at hi
 ·refine ⟨b,off,zs[i],ha,by simp [hi],?_⟩
  rw [Nat.mul_one]
  have:=hc i hi
  rw [this];simp [List.getD,List.getElem?_eq_getElem hi]
def inQ (x n:Int):Bool:=decide (0≤x) && decide (x < n)
section
variable {P:Program} {n:Nat} {ops:Array Oper} {Q:Exit→Act→World→Prop} {l:Fr} {W:World} {os:List Oper}
theorem sD {dst:Nat} {op:Op} {ty:TypeId} {pos:String} {aft:Array Edge} {g d:Nat} {b:Bool} (hd:(ops[g]?).bind (·.dst)=some d) (hv:look l d=some undef) (hn:Nat.blt dst n=true)
  (h:aT P n ops Q os ((dst,undef)::l) W):aT P n ops Q (⟨some dst,op,ty,pos,aft,some (g,b)⟩::os) l W:=fun a ha=>by
 have h2:=ha.at_ d _ hv
 have hw:Region.wanted ⟨some dst,op,ty,pos,aft,some (g,b)⟩ (yielded ops a.tmps)=false:=by
  cases hx:a.tmps[d]? with
  | none=>simp [Region.wanted,yielded,hd,hx]
  | some x =>
   simp only [Act.eval,Array.getD_eq_getD_getElem?,hx] at h2
   simp at h2
   subst h2
   simp [Region.wanted,yielded,hd,hx,undef]
 unfold wpList
 rw [hw]
 exact h _ (ha.put hn)
end
def cnt (f:Nat→Nat) (t:Nat):Nat→Nat
 | 0=>0
 | m+1=>cnt f t m+(if f m=t then 1 else 0)
section
variable {f:Nat→Nat} {n m t u:Nat}
end
section
variable {f:Nat→Nat} {n m t:Nat} {L U F:List Nat}
end
section
variable {P:Program} {n:Nat} {Q:Exit→Act→World→Prop} {l:Fr} {w0 W w:World} {ops:Array Oper} {os:List Oper} {K:List (Nat×World)} {O:Own} {G:aQ}
theorem iA {lo m c s:Nat} {e:TypeId} {a:Option Addr} {xs:List Value} (h:w.ownsRow lo e s (.slice a m c) m xs) (hm:0 < m):∃ b,a=some ⟨b,0,none⟩:=by
 rcases eR h with ⟨h1,h0⟩ | ⟨b,h1,_,h3⟩
 ·have h4:=h.2
  rcases h4 with ⟨e1,_⟩ | ⟨g,cap,cur,e1,_⟩
  ·injection e1 with _ e3 _;omega
  ·injection e1 with e1 _ _;exact ⟨g,e1⟩
 ·exact ⟨b,h1⟩
end
end
section
open Go.RowKit
open Go.WideMaps (KeyLaw)
open Go.ChangeMaps (setBlock)
section
variable {P:Program} {ops:Array Oper} {Q:Exit→Act→World→Prop} {t0:Array Value} {d0:List Deferred} {GL:Array Bool→World→Prop} {R:Nat→World→World→Prop} {I:Nat→Value→World→Prop}
end
section
variable {α:Type} {P:Program} {K E S T:TypeId} {κ:α→Value} {W:World} {lo b:Nat} {f:α→List Value}
theorem iB {a:Act} {t:Nat} {v:Value} (h:a.eval (.tmp t)=v):∀ x u,evL [(t,v)] x=some u→a.eval x=u:=by
 intro x u hx
 cases x with
 | tmp s =>
  unfold evL look at hx
  cases hb:Nat.beq t s with
  | true=>simp only [hb,cond_true,Option.some.injEq] at hx;rw [← Nat.eq_of_beq_eq_true hb,← hx];exact h
  | false=>simp only [hb,cond_false] at hx;cases hx
 | const c=>exact Option.some.inj hx
 | global g=>exact Option.some.inj hx
 | func f=>exact Option.some.inj hx
theorem sE {L:Array Bool} {i:Nat} (h:i < L.size):(L.setIfInBounds i true).getD i false=true:=by
 rw [Array.getD_eq_getD_getElem?,Array.getElem?_setIfInBounds_self_of_lt h];rfl
theorem mQ {L:Array Bool} {i j:Nat} (h:i≠j):(L.setIfInBounds i true).getD j false=L.getD j false:=getD_set_ne false h
end
end
section
open Go.RowKit
section
variable {P:Program} {n:Nat} {Q:Exit→Act→World→Prop} {l:Fr} {w0 W:World} {O:Own} {G:aQ} {K:List (Nat×World)}
abbrev Mks:=List (Nat×Own)
def MkI (mk:List Nat) (vals:Nat→Value) (Pm:Nat→Value→Own→Prop) (s:Mks) (i:Nat) (v:Value) (w:World):Prop :=
 (i∉mk→v=vals i)∧(i∈mk→∃ ON,(i,ON)∈s∧Pm i v ON)
def MkV (mk:List Nat) (s:Mks) (L:Array Bool):Prop:=(∀ i∈mk,L.getD i false=true↔∃ ON,(i,ON)∈s)∧(∀ q∈s,q.1∈mk)∧s.Pairwise (fun p q=>p.1≠q.1)
theorem regMk {id k:Nat} {ops:Array Oper} {mk:List Nat} {vals:Nat→Value} {Pm:Nat→Value→Own→Prop} (Gp:Mks→World→Prop) (hm:P.follows .mixedOrders=true) (hS:Gp [] W.drew) (hk:k < ops.size) (hl:jA ops k=true) (ht:cS ops n=true)
  (hpure:∀ i,i < k→i∉mk→∀ (s:Mks) (a0 a:Act) (w:World),Has n l a0→(∀ t,cB ops t=true→a.eval (.tmp t)=a0.tmps.getD t undef)→Gp s w→(∀ j d,aN ops i j d=true→MkI mk vals Pm s j (a.eval (.tmp d)) w)→∃ o,ops[i]?=some o∧o.guard=none∧(execOp a.eval o).run P w = .ok (.value (vals i)) w)
  (hmake:∀ i,i∈mk→∀ (s:Mks) (a0 a:Act) (w:World),Has n l a0→(∀ t,cB ops t=true→a.eval (.tmp t)=a0.tmps.getD t undef)→Gp s w→(∀ ON,(i,ON)∉s)→(∀ j d,aN ops i j d=true→MkI mk vals Pm s j (a.eval (.tmp d)) w)→wpOp P ops Q i (fun a' w'=>∃ v ON,a'=a.put ((ops[i]?).bind (·.dst)) v∧Pm i v ON∧Gp ((i,ON)::s) w') a w)
  (hmk:∀ i∈mk,i < k)
  (h:∀ (s:Mks) (a:Act) (w:World),Gp s w→a.tmps.size=n→a.defers=[]→(∀ t v,cB ops t=true→look l t=some v→a.tmps.getD t undef=v)→(∀ i d,i < k→i∉mk→(ops[i]?).bind (·.dst)=some d→a.tmps.getD d undef=vals i)→(∀ i∈mk,∃ ON,(i,ON)∈s)→(∀ i d,i∈mk→(ops[i]?).bind (·.dst)=some d→∃ ON,(i,ON)∈s∧Pm i (a.tmps.getD d undef) ON)→(∀ q∈s,q.1∈mk)→s.Pairwise (fun p q=>p.1≠q.1)→wpList P ops Q (ops.toList.drop k) a w):cQ P n (.region id ops true) Q l W:=fun a0 ha0=>by
 refine wp_region_any hm (gZ (G:=fun s w=>Gp s w) (I:=MkI mk vals Pm) (V:=MkV mk) (t0:=a0.tmps) (d0:=a0.defers) hk hl (by rw [ha0.size];exact ht) (fun i hi=>?_) (fun s L a w hR hall hnot=>?_) _ [] _ _ _ (by simp) (eU _) ?_ ?_ ⟨rfl,rfl,fun _ _=>rfl,?_,?_,?_⟩)
 ·intro s L a w hF hG hV hs hcl hr hD
  by_cases him:i∈mk
  ·have hnew:∀ ON',(i,ON')∉s:=fun ON' h9=>by
    have:=(hV.1 i him).2 ⟨ON',h9⟩
    rw [hr.1] at this;cases this
   refine wpOp_mono ?_ (hmake i him s a0 a w ha0 hF hG hnew hD)
   rintro a' w' ⟨v,ON,rfl,hP,hS'⟩
   have hsz:i < ops.size:=Nat.lt_trans (hmk i him) hk
   refine ⟨(i,ON)::s,v,rfl,⟨fun j hj=>?_,fun q hq=>?_,List.Pairwise.cons (fun q hq e=>hnew q.2 (by rw [show i=q.1 from e];exact hq)) hV.2.2⟩,hS',fun d hd=>⟨fun h9=>absurd him h9,fun _=>⟨ON,List.mem_cons_self,hP⟩⟩,fun j d hd hj=>⟨hj.1,fun hjm=>?_⟩⟩
   ·by_cases hji:j=i
    ·subst hji
     rw [sE (by rw [hs];exact hsz)]
     exact ⟨fun _=>⟨ON,List.mem_cons_self⟩,fun _=>rfl⟩
    ·rw [mQ (Ne.symm hji),hV.1 j hj]
     exact ⟨fun ⟨N',h9⟩=>⟨N',List.mem_cons_of_mem _ h9⟩,fun ⟨N',h9⟩=>by
      rcases List.mem_cons.1 h9 with h9 | h9
      ·exact absurd (congrArg Prod.fst h9) hji
      ·exact ⟨N',h9⟩⟩
   ·rcases List.mem_cons.1 hq with rfl | hq
    ·exact him
    ·exact hV.2.1 q hq
   ·obtain ⟨N',h1,h2⟩:=hj.2 hjm
    exact ⟨N',List.mem_cons_of_mem _ h1,h2⟩
  ·obtain ⟨o,ho,hgd,hrun⟩:=hpure i hi him s a0 a w ha0 hF hG hD
   unfold wpOp
   simp only [ho,fN hgd,if_true]
   refine .inl ?_
   unfold Oper.wp
   rw [hrun]
   refine ⟨s,_,rfl,⟨fun j hj=>?_,hV.2⟩,hG,fun d hd=>⟨fun _=>rfl,fun h9=>absurd h9 him⟩,fun j d hd hj=>hj⟩
   rw [mQ (fun e=>him (by rw [e];exact hj))]
   exact hV.1 j hj
 ·have hd:∀ i d,i < k→(ops[i]?).bind (·.dst)=some d→MkI mk vals Pm s i (a.tmps.getD d undef) w:=fun i d hi hd=>hR.done i d hd (hall i hi)
  exact h s a w hR.glob (by rw [hR.size,ha0.size]) (by rw [hR.defers,ha0.defers]) (fun t v ht' hv=>by rw [hR.frame t ht'];exact ha0.at_ t v hv) (fun i d hi him hd'=>(hd i d hi hd').1 him) (fun i him=>(hR.cons.1 i him).1 (hall i (hmk i him))) (fun i d him hd'=>(hd i d (hmk i him) hd').2 him) hR.cons.2.1 hR.cons.2.2
 ·intro j hj
  rw [Array.getD_eq_getD_getElem?,Array.getElem?_replicate] at hj
  split at hj<;>simp at hj
 ·intro i _
  rw [Array.getD_eq_getD_getElem?,Array.getElem?_replicate]
  split<;>rfl
 ·exact hS
 ·refine ⟨fun i _=>?_,fun q hq=>(by cases hq),List.Pairwise.nil⟩
  rw [Array.getD_eq_getD_getElem?,Array.getElem?_replicate]
  constructor
  ·intro h9;split at h9<;>simp at h9
  ·rintro ⟨_,h9⟩;cases h9
 ·intro i d hd h9
  rw [Array.getD_eq_getD_getElem?,Array.getElem?_replicate] at h9
  split at h9<;>simp at h9
def HasL (a:Act):Fr→Prop
 | []=>True
 | p::r=>a.tmps.getD p.1 undef=p.2∧HasL a r
theorem HasL.has {a:Act} (hs:a.tmps.size=n) (hd:a.defers=[]):∀ {l:Fr},HasL a l→Has n l a
 | l,h=>⟨hs,hd,by
  induction l with
  | nil=>intro t v hv;cases hv
  | cons p r ih =>
   intro t v hv
   unfold look at hv
   cases hb:Nat.beq p.1 t with
   | true =>
    simp only [hb,cond_true,Option.some.injEq] at hv
    rw [← Nat.eq_of_beq_eq_true hb,← hv];exact h.1
   | false =>
    simp only [hb,cond_false] at hv
    exact ih h.2 t v hv⟩
end
theorem qF (P:Program) (ev:Operand→Value) (w:World) (x:Operand) (f:FuncId) (args:Array Operand) (ts:Array TypeId) (caps:Array Value) (o:Oper) (h:o.op = .call { callee:=.value x,args:=args,argTypes:=ts }) (hf:ev x = .func (.func f) #[] caps) (hb:aZ P f=true):(execOp ev o).run P w = .ok (.enter f (args.map ev++caps)) w:=by
 unfold aZ at hb
 cases hx:P.funcs[f]? with
 | none=>rw [hx] at hb;cases hb
 | some fn =>
  rw [hx] at hb
  simp only [Bool.and_eq_true,Bool.not_eq_true',beq_eq_false_iff_ne,ne_eq] at hb
  obtain ⟨c,hc⟩:=Option.isSome_iff_exists.1 hb.1
  unfold execOp;simp only [h];simp [go_sem,resolve,hf,callFunc,hx,hc,hb.2]
section
variable {P:Program} {n:Nat} {Q:Exit→Act→World→Prop} {l:Fr} {w0 W w:World} {ops:Array Oper} {os:List Oper} {K:List (Nat×World)} {O:Own} {G:aQ} {d i:Nat} {ty:TypeId} {pos:String} {aft:Array Edge}
theorem map_evs {a:Act} {args:Array Operand} {vs:List Value} (hl:Has n l a) (ha:args.toList.map (evL l)=vs.map some):args.map a.eval=vs.toArray:=by
 have key:∀ (xs:List Operand) (us:List Value),xs.map (evL l)=us.map some→xs.map a.eval=us:=by
  intro xs
  induction xs with
  | nil=>intro us h;cases us<;>simp at h ⊢
  | cons x xs ih =>
   intro us h
   cases us with
   | nil=>simp at h
   | cons u us =>
    simp only [List.map_cons,List.cons.injEq] at h ⊢
    exact ⟨hl.ev x u h.1,ih us h.2⟩
 apply Array.ext'
 rw [Array.toList_map]
 exact key _ _ ha
theorem iC {x:Operand} {f:FuncId} {args:Array Operand} {ts:Array TypeId} {vs caps:List Value} {R:Ending→World→Prop} (hx:evL l x=some (.func (.func f) #[] caps.toArray)) (hgo:aZ P f=true) (ha:args.toList.map (evL l)=vs.map some) (hc:Calls P f (vs++caps).toArray W R) (hd:Nat.blt d n=true)
  (h:∀ e W',R e W'→∃ v,e = .returned v∧aT P n ops Q os ((d,v)::l) W'):aT P n ops Q (⟨some d,.call { callee:=.value x,args:=args,argTypes:=ts },ty,pos,aft,none⟩::os) l W:=fun a hl=>by
 refine wpList_plain rfl fun K' hK=>?_
 unfold Oper.wp
 rw [qF P a.eval W x f args ts _ _ rfl (hl.ev x _ hx) hgo,Oper.upon_enter,map_evs hl ha,List.append_toArray]
 refine hc.mono ?_
 rintro e W' h9
 obtain ⟨v,rfl,hh⟩:=h e W' h9
 exact hK _ _ (hh _ (hl.put hd))
end
end
end Go.Proofs.Ytpgmnbgkejiomaa
