import Derived.Orders
import Derived.Below
import Derived.Deep.RegionHeld
import Derived.WalkKit
import Derived.KernelRfl
import Derived.Laws.Rows
import Derived.Laws.AppendOwn
import Derived.Laws.Strings
import Derived.Laws.Small
import Derived.Lib.Hide
import Derived.IntWalk
import Derived.Laws.Tables
import Derived.Laws.Concat
import Derived.Laws.MakeOwn
import Derived.Lib.OwnBridge
import Derived.WideKeyEntry
import Derived.DeepKeys4
import Derived.Lib.AppendZeros
import Derived.StringKeys
import Derived.Maps.OwnSet
set_option maxRecDepth 100000
set_option maxHeartbeats 4000000
set_option linter.unusedVariables false
set_option linter.unusedSimpArgs false
set_option linter.unusedSectionVars false
set_option linter.unnecessarySimpa false
namespace Go.Proofs.Ytghmbejblbnjjaa
section
open Go.RowKit
def freeT (ops:Array Oper) (t:Nat):Bool:=ops.all fun o=>o.dst != some t
def bG (ops:Array Oper) (i j d:Nat):Bool :=
 (match ops[i]? with | some o=>o.after.any fun e=>e.on == j && Region.binds .any e | none=>false) && (ops[j]?).bind (·.dst) == some d
def dG (ops:Array Oper) (n:Nat):Bool :=
 (List.range ops.size).all fun i=>match ops[i]? with
  | some o=>o.after.all (fun e => !Region.binds .any e || decide (e.on < i)) && (match o.dst with | some d=>decide (d < n) && (List.range ops.size).all (fun j=>j == i || (ops[j]?).bind (·.dst) != some d) | none=>true)
  | none=>true
def jN (ops:Array Oper) (k:Nat):Bool :=
 decide (k+1=ops.size) && (match ops[k]? with | some o=>(List.range k).all fun j=>o.after.any fun e=>e.on == j && Region.binds .any e | none=>false)
section
variable {P:Program} {ops:Array Oper} {Q:Exit→Act→World→Prop} {t0:Array Value} {d0:List Deferred} {G:World→Prop} {I:Nat→Value→World→Prop}
structure RInv (ops:Array Oper) (t0:Array Value) (d0:List Deferred) (G:World→Prop) (I:Nat→Value→World→Prop) (L:Array Bool) (a:Act) (w:World):Prop where
 size:a.tmps.size=t0.size
 defers:a.defers=d0
 frame:∀ t,freeT ops t=true→a.tmps.getD t undef=t0.getD t undef
 glob:G w
 done:∀ i d,(ops[i]?).bind (·.dst)=some d→L.getD i false=true→I i (a.tmps.getD d undef) w
def fH (P:Program) (ops:Array Oper) (Q:Exit→Act→World→Prop) (t0:Array Value) (G:World→Prop) (I:Nat→Value→World→Prop) (i:Nat):Prop :=
 ∀ (a:Act) (w:World),(∀ t,freeT ops t=true→a.eval (.tmp t)=t0.getD t undef)→G w→(∀ j d,bG ops i j d=true→I j (a.eval (.tmp d)) w) →
  wpOp P ops Q i (fun a' w'=>(∃ v,a'=a.put ((ops[i]?).bind (·.dst)) v∧(∀ d,(ops[i]?).bind (·.dst)=some d→I i v w'))∧G w'∧Below w.heap.size w w') a w
def qV (ops:Array Oper) (t0:Array Value) (d0:List Deferred) (G:World→Prop) (I:Nat→Value→World→Prop) (n:Nat) (R:Act→World→Prop):Prop :=
 ∀ (a:Act) (w:World),a.tmps.size=t0.size→a.defers=d0→(∀ t,freeT ops t=true→a.tmps.getD t undef=t0.getD t undef)→G w →
  (∀ i d,i < n→(ops[i]?).bind (·.dst)=some d→I i (a.tmps.getD d undef) w)→R a w
theorem eI:∀ (l:List Bool) (i:Nat),l[i]?=some false→(l.set i true).count false+1=l.count false
 | [],_,h=>by simp at h
 | b::l,0,h=>by simp at h;subst h;simp
 | b::l,i+1,h=>by
  have:=eI l i (by simpa using h)
  cases b<;>simp<;>omega
theorem iQ {n i:Nat} {o:Oper} (h:dG ops n=true) (ho:ops[i]?=some o):∀ e∈o.after,Region.binds .any e=true→e.on < i:=fun e he hb=>by
 have hi:i < ops.size:=(Array.getElem?_eq_some_iff.1 ho).1
 have h1:=(List.all_eq_true.1 h) i (List.mem_range.2 hi)
 simp only [ho,Bool.and_eq_true] at h1
 have h2:=Array.all_eq_true'.1 h1.1 e he
 simp [hb] at h2
 exact h2
theorem fS {n i d:Nat} (h:dG ops n=true) (hd:(ops[i]?).bind (·.dst)=some d):d < n∧∀ j,(ops[j]?).bind (·.dst)=some d→j=i:=by
 obtain ⟨o,ho,hd⟩:=Option.bind_eq_some_iff.1 hd
 have hi:i < ops.size:=(Array.getElem?_eq_some_iff.1 ho).1
 have h1:=(List.all_eq_true.1 h) i (List.mem_range.2 hi)
 simp only [ho,hd,Bool.and_eq_true,decide_eq_true_eq] at h1
 refine ⟨h1.2.1,fun j hj=>?_⟩
 have hjs:j < ops.size:=by
  obtain ⟨o',ho',_⟩:=Option.bind_eq_some_iff.1 hj
  exact (Array.getElem?_eq_some_iff.1 ho').1
 have h2:=(List.all_eq_true.1 h1.2.2) j (List.mem_range.2 hjs)
 rw [Bool.or_eq_true] at h2
 rcases h2 with h2 | h2
 ·simpa using h2
 ·simp only [bne_iff_ne,ne_eq] at h2
  exact absurd hj h2
theorem fL {n:Nat} {L:Array Bool} (h:dG ops n=true) (hs:L.size=ops.size) (hr:Region.ready .any ops L=[]):∀ i,i < ops.size→L.getD i true=true:=by
 intro i
 induction i using Nat.strongRecOn with
 | _ i ih =>
 intro hi
 cases hL:L.getD i true with
 | true=>rfl
 | false =>
  obtain ⟨o,ho⟩:∃ o,ops[i]?=some o:=⟨ops[i],Array.getElem?_eq_getElem hi⟩
  have:i∈Region.ready .any ops L:=mem_ready.2 ⟨hL,o,ho,fun e he hb=>by
   have hlt:=iQ h ho e he hb
   have h3:=ih e.on hlt (by omega)
   rw [Array.getD_eq_getD_getElem?] at h3 ⊢
   have hes:e.on < L.size:=by omega
   rw [Array.getElem?_eq_getElem hes] at h3 ⊢
   simpa using h3⟩
  rw [hr] at this
  cases this
theorem nU {a:Act} {o:Option Nat} {v:Value} {d:Nat} (hd:o=some d) (hs:d < a.tmps.size):(a.put o v).tmps.getD d undef=v:=by
 subst hd
 simp [Act.put,hs]
theorem eJ {a:Act} {o:Option Nat} {v:Value} {t:Nat} (hd:o≠some t):(a.put o v).tmps.getD t undef=a.tmps.getD t undef:=by
 cases o with
 | none=>rfl
 | some d =>
  have:d≠t:=fun e=>hd (by rw [e])
  simp only [Act.put,Array.getD_eq_getD_getElem?]
  rw [Array.getElem?_setIfInBounds_ne this]
theorem jO {a:Act} {o:Option Nat} {v:Value}:(a.put o v).tmps.size=a.tmps.size:=by cases o<;>simp [Act.put]
theorem gQ {a:Act} {o:Option Nat} {v:Value}:(a.put o v).defers=a.defers:=by cases o<;>rfl
theorem RInv.next {L:Array Bool} {a:Act} {w w':World} {i:Nat} {v:Value} (h:RInv ops t0 d0 G I L a w) (ht:dG ops t0.size=true) (hi:L.getD i true=false)
  (hst:∀ i v w w',G w→I i v w→Below w.heap.size w w'→I i v w') (hI:∀ d,(ops[i]?).bind (·.dst)=some d→I i v w') (hG:G w') (hB:Below w.heap.size w w') :
  RInv ops t0 d0 G I (L.setIfInBounds i true) (a.put ((ops[i]?).bind (·.dst)) v) w' where
 size:=by rw [jO];exact h.size
 defers:=by rw [gQ];exact h.defers
 frame:=fun t hf=>by
  rw [eJ ?_]
  ·exact h.frame t hf
  ·intro hd
   obtain ⟨o,ho,hd⟩:=Option.bind_eq_some_iff.1 hd
   have:=Array.all_eq_true'.1 hf o (Array.mem_of_getElem? ho)
   simp [hd] at this
 glob:=hG
 done:=fun j d hd hj=>by
  by_cases hji:j=i
  ·subst hji
   rw [nU hd (by rw [h.size];exact (fS ht hd).1)]
   exact hI d hd
  ·rw [getD_set_ne false (Ne.symm hji)] at hj
   rw [eJ (fun e=>hji ((fS ht e).2 j hd))]
   exact hst _ _ _ _ h.glob (h.done j d hd hj) hB
theorem RInv.deps {L:Array Bool} {a:Act} {w:World} {i:Nat} (h:RInv ops t0 d0 G I L a w) (hi:i∈Region.ready .any ops L):∀ j d,bG ops i j d=true→I j (a.eval (.tmp d)) w:=fun j d hw=>by
 obtain ⟨_,o,ho,hall⟩:=mem_ready.1 hi
 simp only [bG,ho,Bool.and_eq_true,beq_iff_eq] at hw
 obtain ⟨e,he,h1⟩:=Array.any_eq_true'.1 hw.1
 simp only [Bool.and_eq_true,beq_iff_eq] at h1
 have:=hall e he h1.2
 rw [h1.1] at this
 exact h.done j d hw.2 this
theorem RInv.frameE {L:Array Bool} {a:Act} {w:World} (h:RInv ops t0 d0 G I L a w):∀ t,freeT ops t=true→a.eval (.tmp t)=t0.getD t undef:=fun t ht=>h.frame t ht
theorem wD (ht:dG ops t0.size=true) (hst:∀ i v w w',G w→I i v w→Below w.heap.size w w'→I i v w')
  (hstep:∀ i,i < ops.size→fH P ops Q t0 G I i) (hfin:qV ops t0 d0 G I ops.size (Q .normal)) :
  ∀ (fuel:Nat) (L:Array Bool) (a:Act) (w:World),L.size=ops.size→L.toList.count false≤fuel→RInv ops t0 d0 G I L a w→wpAny P .any ops Q fuel L a w:=by
 have fin:∀ (L:Array Bool) (a:Act) (w:World),(∀ i,i < ops.size→L.getD i true=true)→L.size=ops.size→RInv ops t0 d0 G I L a w→Q .normal a w:=fun L a w hall hs h =>
  hfin a w h.size h.defers h.frame h.glob fun i d hi hd=>h.done i d hd (by
   have:=hall i hi
   rw [Array.getD_eq_getD_getElem?] at this ⊢
   rw [Array.getElem?_eq_getElem (by omega)] at this ⊢
   simpa using this)
 intro fuel
 induction fuel with
 | zero =>
  intro L a w hs hc h
  have hall:∀ i,i < ops.size→L.getD i true=true:=fun i hi=>by
   have hn:false∉L.toList:=List.count_eq_zero.1 (by omega)
   cases hL:L.getD i true with
   | true=>rfl
   | false =>
    rw [Array.getD_eq_getD_getElem?,Array.getElem?_eq_getElem (by omega)] at hL
    exact absurd (by rw [← show L[i]=false by simpa using hL];exact Array.mem_toList_iff.2 (Array.getElem_mem _)) hn
  refine ⟨?_,fin L a w hall hs h⟩
  cases hr:Region.ready .any ops L with
  | nil=>rfl
  | cons i rest =>
   have hi:i∈Region.ready .any ops L:=by rw [hr];exact List.mem_cons_self
   obtain ⟨h1,o,ho,_⟩:=mem_ready.1 hi
   rw [hall i (Array.getElem?_eq_some_iff.1 ho).1] at h1
   cases h1
 | succ fuel ih =>
  intro L a w hs hc h
  refine ⟨fun hr=>fin L a w (fL ht hs hr) hs h,fun i hi=>?_⟩
  obtain ⟨h1,o,ho,_⟩:=mem_ready.1 hi
  have his:i < ops.size:=(Array.getElem?_eq_some_iff.1 ho).1
  refine wpOp_mono ?_ (hstep i his a w h.frameE h.glob (h.deps hi))
  rintro a' w' ⟨⟨v,rfl,hI⟩,hG,hB⟩
  refine ih _ _ _ (by simpa using hs) ?_ (h.next ht h1 hst hI hG hB)
  have:L.toList[i]?=some false:=by
   rw [Array.getD_eq_getD_getElem?,Array.getElem?_eq_getElem (by omega)] at h1
   rw [Array.getElem?_toList,Array.getElem?_eq_getElem (by omega)]
   simpa using h1
  have:=eI _ _ this
  rw [Array.toList_setIfInBounds]
  omega
theorem tX {k:Nat} (hl:jN ops k=true) (ht:dG ops t0.size=true) (hst:∀ i v w w',G w→I i v w→Below w.heap.size w w'→I i v w')
  (hstep:∀ i,i < k→fH P ops Q t0 G I i) (hfin:qV ops t0 d0 G I k (wpOp P ops Q k (Q .normal))) :
  ∀ (fuel:Nat) (L:Array Bool) (a:Act) (w:World),L.size=ops.size→L.getD k true=false→L.toList.count false≤fuel→RInv ops t0 d0 G I L a w→wpAny P .any ops Q fuel L a w:=by
 simp only [jN,Bool.and_eq_true,decide_eq_true_eq] at hl
 obtain ⟨hk,hl⟩:=hl
 have cnt:∀ (L:Array Bool) i,L.getD i true=false→L.toList[i]?=some false:=fun L i h1=>by
  rw [Array.getD_eq_getD_getElem?] at h1
  rw [Array.getElem?_toList]
  cases hL:L[i]? with
  | none=>rw [hL] at h1;cases h1
  | some b=>rw [hL] at h1;simpa using h1
 intro fuel
 induction fuel with
 | zero =>
  intro L a w hs hlk hc h
  have:=eI _ _ (cnt L k hlk)
  omega
 | succ fuel ih =>
  intro L a w hs hlk hc h
  refine ⟨fun hr=>?_,fun i hi=>?_⟩
  ·rw [fL ht hs hr k (by omega)] at hlk
   cases hlk
  ·obtain ⟨h1,o,ho,hdep⟩:=mem_ready.1 hi
   have his:i < ops.size:=(Array.getElem?_eq_some_iff.1 ho).1
   have hc1:=eI _ _ (cnt L i h1)
   by_cases hik:i=k
   ·subst hik
    simp only [ho] at hl
    have hall:∀ j,j < i→L.getD j false=true:=fun j hj=>by
     have:=List.all_eq_true.1 hl j (List.mem_range.2 hj)
     obtain ⟨e,he,h2⟩:=Array.any_eq_true'.1 this
     simp only [Bool.and_eq_true,beq_iff_eq] at h2
     have:=hdep e he h2.2
     rw [h2.1] at this
     exact this
    refine wpOp_mono ?_ (hfin a w h.size h.defers h.frame h.glob fun j d hj hd=>h.done j d hd (hall j hj))
    intro a' w' hq
    have hnil:Region.ready .any ops (L.setIfInBounds i true)=[]:=by
     cases hr:Region.ready .any ops (L.setIfInBounds i true) with
     | nil=>rfl
     | cons j rest =>
      have hj:j∈Region.ready .any ops (L.setIfInBounds i true):=by rw [hr];exact List.mem_cons_self
      obtain ⟨h5,o',ho',_⟩:=mem_ready.1 hj
      have hjs:j < ops.size:=(Array.getElem?_eq_some_iff.1 ho').1
      by_cases hji:j=i
      ·subst hji
       rw [Array.getD_eq_getD_getElem?,Array.getElem?_eq_getElem (by simpa using (by omega:j < L.size))] at h5
       simp at h5
      ·rw [getD_set_ne true (Ne.symm hji)] at h5
       have h6:=hall j (by omega)
       rw [Array.getD_eq_getD_getElem?] at h5 h6
       rw [Array.getElem?_eq_getElem (by omega)] at h5 h6
       simp at h5 h6
       rw [h5] at h6
       cases h6
    cases fuel with
    | zero=>exact ⟨hnil,hq⟩
    | succ fuel=>exact ⟨fun _=>hq,by rw [hnil];simp⟩
   ·refine wpOp_mono ?_ (hstep i (by omega) a w h.frameE h.glob (h.deps hi))
    rintro a' w' ⟨⟨v,rfl,hI⟩,hG,hB⟩
    refine ih _ _ _ (by simpa using hs) (by rw [getD_set_ne true hik];exact hlk) ?_ (h.next ht h1 hst hI hG hB)
    rw [Array.toList_setIfInBounds]
    omega
theorem mT {a:Act} {w:World} (hG:G w):RInv ops a.tmps a.defers G I (Array.replicate ops.size false) a w where
 size:=rfl
 defers:=rfl
 frame:=fun _ _=>rfl
 glob:=hG
 done:=fun i d _ h=>by
  rw [Array.getD_eq_getD_getElem?,Array.getElem?_replicate] at h
  split at h<;>simp at h
theorem gE (n:Nat):(Array.replicate n false).toList.count false≤n:=by
 rw [Array.toList_replicate,List.count_replicate_self];exact Nat.le_refl _
theorem qW {id:Nat} {a:Act} {w:World} (hm:P.follows .mixedOrders=true) (G:World→Prop) (I:Nat→Value→World→Prop) (hG:G w.drew)
  (ht:dG ops a.tmps.size=true) (hst:∀ i v w w',G w→I i v w→Below w.heap.size w w'→I i v w')
  (hstep:∀ i,i < ops.size→fH P ops Q a.tmps G I i) (hfin:qV ops a.tmps a.defers G I ops.size (Q .normal)):(Code.region id ops true).wp P Q a w :=
 wp_region_any hm (wD ht hst hstep hfin _ _ _ _ (by simp) (gE _) (mT hG))
theorem mG {id:Nat} {a:Act} {w:World} (hm:P.follows .mixedOrders=true) (k:Nat) (G:World→Prop) (I:Nat→Value→World→Prop) (hG:G w.drew) (hl:jN ops k=true)
  (ht:dG ops a.tmps.size=true) (hst:∀ i v w w',G w→I i v w→Below w.heap.size w w'→I i v w')
  (hstep:∀ i,i < k→fH P ops Q a.tmps G I i) (hfin:qV ops a.tmps a.defers G I k (wpOp P ops Q k (Q .normal))):(Code.region id ops true).wp P Q a w :=
 wp_region_any hm (tX hl ht hst hstep hfin _ _ _ _ (by simp) (by
  have hk:k < ops.size:=by
   simp only [jN,Bool.and_eq_true,decide_eq_true_eq] at hl;omega
  rw [Array.getD_eq_getD_getElem?,Array.getElem?_replicate,if_pos hk];rfl) (gE _) (mT hG))
theorem dV {o:Oper} {y:Nat→Option Bool} (h:o.guard=none):Region.wanted o y=true:=by simp [Region.wanted,h]
theorem jE {a:Act} {o:Oper} {g d:Nat} {b c:Bool} (h:o.guard=some (g,b)) (hd:(ops[g]?).bind (·.dst)=some d) (hv:a.eval (.tmp d) = .bool c):Region.wanted o (yielded ops a.tmps)=(c == b):=by
 have h1:a.tmps[d]?=some (.bool c):=by
  simp only [Act.eval,Array.getD_eq_getD_getElem?] at hv
  cases hx:a.tmps[d]? with
  | none=>rw [hx] at hv;simp [undef] at hv
  | some x=>rw [hx] at hv;simpa using hv
 simp [Region.wanted,h,yielded,hd,h1]
theorem fH.value {i:Nat} {o:Oper} (hi:ops[i]?=some o)
  (h:∀ (a:Act) (w:World),(∀ t,freeT ops t=true→a.eval (.tmp t)=t0.getD t undef)→G w→(∀ j d,bG ops i j d=true→I j (a.eval (.tmp d)) w) →
   Region.wanted o (yielded ops a.tmps)=true∧∃ v w',(execOp a.eval o).run P w = .ok (.value v) w'∧I i v w'∧G w'∧Below w.heap.size w w'):fH P ops Q t0 G I i:=fun a w hF hG hD=>by
 obtain ⟨hw,v,w',hr,hI,hG',hB⟩:=h a w hF hG hD
 unfold wpOp
 simp only [hi,hw,if_true]
 refine .inl ?_
 unfold Oper.wp
 rw [hr]
 exact ⟨⟨v,by simp,fun _ _=>hI⟩,hG',hB⟩
theorem fH.none {i:Nat} {o:Oper} (hi:ops[i]?=some o)
  (h:∀ (a:Act) (w:World),(∀ t,freeT ops t=true→a.eval (.tmp t)=t0.getD t undef)→G w→(∀ j d,bG ops i j d=true→I j (a.eval (.tmp d)) w) →
   Region.wanted o (yielded ops a.tmps)=false∧I i undef w):fH P ops Q t0 G I i:=fun a w hF hG hD=>by
 obtain ⟨hw,hI⟩:=h a w hF hG hD
 unfold wpOp
 simp only [hi,hw]
 exact ⟨⟨undef,by simp,fun _ _=>hI⟩,hG,Below.refl _ _⟩
theorem fH.call {i:Nat} {o:Oper} (hi:ops[i]?=some o)
  (h:∀ (a:Act) (w:World),(∀ t,freeT ops t=true→a.eval (.tmp t)=t0.getD t undef)→G w→(∀ j d,bG ops i j d=true→I j (a.eval (.tmp d)) w) →
   Region.wanted o (yielded ops a.tmps)=true∧∃ f args,(execOp a.eval o).run P w = .ok (.enter f args) w ∧
    Calls P f args w fun e w'=>∃ v,e = .returned v∧I i v w'∧G w'∧Below w.heap.size w w'):fH P ops Q t0 G I i:=fun a w hF hG hD=>by
 obtain ⟨hw,f,args,hr,hc⟩:=h a w hF hG hD
 unfold wpOp
 simp only [hi,hw,if_true]
 refine .inl ?_
 unfold Oper.wp
 rw [hr,Oper.upon_enter]
 refine hc.mono ?_
 rintro e w' ⟨v,rfl,hI,hG',hB⟩
 exact ⟨⟨v,by simp,fun _ _=>hI⟩,hG',hB⟩
end
abbrev Asr:=Value→World→Prop
def isV (c:Value):Asr:=fun v _=>v=c
def atI:List Asr→Nat→Asr
 | [],_=>fun _ _=>True
 | p::_,0=>p
 | _::l,n+1=>atI l n
def lW (p:Asr):Prop:=∀ v w w',p v w→Below w.heap.size w w'→p v w'
def kK:List Asr→Prop
 | []=>True
 | p::l=>lW p∧kK l
theorem aW (c:Value):lW (isV c):=fun _ _ _ h _=>h
theorem iR:∀ {L:List Asr},kK L→∀ i v w w',atI L i v w→Below w.heap.size w w'→atI L i v w'
 | [],_,_,_,_,_,_,_=>trivial
 | p::l,h,0,v,w,w',hp,hb=>h.1 v w w' hp hb
 | p::l,h,i+1,v,w,w',hp,hb=>iR h.2 i v w w' hp hb
def mU (p:Nat→Prop):Nat→Nat→Prop
 | 0,_=>True
 | n+1,k=>p k∧mU p n (k+1)
theorem mH {p:Nat→Prop}:∀ {n k:Nat},mU p n k→∀ i,i < n→p (k+i)
 | n+1,k,h,0,_=>h.1
 | n+1,k,h,i+1,hi=>by
  have:=mH h.2 i (by omega)
  rwa [show k+1+i=k+(i+1) by omega] at this
section
variable {P:Program} {ops:Array Oper} {Q:Exit→Act→World→Prop} {t0:Array Value} {d0:List Deferred} {L:List Asr} {w0:World} {i:Nat} {o:Oper} {p q r:Asr} {x y z:Operand}
abbrev RS (P:Program) (ops:Array Oper) (Q:Exit→Act→World→Prop) (t0:Array Value) (w0:World) (L:List Asr) (i:Nat):Prop:=fH P ops Q t0 (fun w=>Below w0.heap.size w0 w) (atI L) i
theorem oU {id:Nat} {a:Act} {w:World} (hm:P.follows .mixedOrders=true) (L:List Asr) (ht:dG ops a.tmps.size=true) (hst:kK L)
  (hstep:mU (RS P ops Q a.tmps w L) ops.size 0) (hfin:qV ops a.tmps a.defers (fun w'=>Below w.heap.size w w') (atI L) ops.size (Q .normal)):(Code.region id ops true).wp P Q a w :=
 qW hm _ (atI L) ((Below.refl _ _).drew) ht (fun i v w w' _ h hb=>iR hst i v w w' h hb) (fun i hi=>by have:=mH hstep i hi;rwa [Nat.zero_add] at this) hfin
theorem kM {id:Nat} {a:Act} {w:World} (hm:P.follows .mixedOrders=true) (k:Nat) (L:List Asr) (hl:jN ops k=true) (ht:dG ops a.tmps.size=true) (hst:kK L)
  (hstep:mU (RS P ops Q a.tmps w L) k 0) (hfin:qV ops a.tmps a.defers (fun w'=>Below w.heap.size w w') (atI L) k (wpOp P ops Q k (Q .normal))):(Code.region id ops true).wp P Q a w :=
 mG hm k _ (atI L) ((Below.refl _ _).drew) hl ht (fun i v w w' _ h hb=>iR hst i v w w' h hb) (fun i hi=>by have:=mH hstep i hi;rwa [Nat.zero_add] at this) hfin
def gP (ops:Array Oper) (L:List Asr) (i:Nat) (o:Oper):Prop :=
 o.guard=none∨∃ g b d,o.guard=some (g,b)∧(ops[g]?).bind (·.dst)=some d∧bG ops i g d=true∧atI L g=isV (.bool b)
def jP (ops:Array Oper) (L:List Asr) (i:Nat) (o:Oper):Prop :=
 (∃ g b c d,o.guard=some (g,b)∧(ops[g]?).bind (·.dst)=some d∧bG ops i g d=true∧atI L g=isV (.bool c)∧(c == b)=false) ∨
 ∃ g b d,o.guard=some (g,b)∧(ops[g]?).bind (·.dst)=some d∧bG ops i g d=true∧atI L g=isV undef
theorem sA {a:Act} {o:Oper} {g d:Nat} {b:Bool} (h:o.guard=some (g,b)) (hd:(ops[g]?).bind (·.dst)=some d) (hv:a.eval (.tmp d)=undef):Region.wanted o (yielded ops a.tmps)=false:=by
 unfold Region.wanted
 rw [h]
 show (yielded ops a.tmps g == some b)=false
 unfold yielded
 rw [hd]
 show ((match a.tmps[d]? with | some (.bool b)=>some b | _=>none) == some b)=false
 have h2:a.tmps.getD d undef=undef:=hv
 cases h3:a.tmps[d]? with
 | none=>rfl
 | some v =>
  have h4:v=undef:=by rw [Array.getD_eq_getD_getElem?,h3] at h2;exact h2
  subst h4;rfl
theorem gP.yes {a:Act} {w:World} (h:gP ops L i o) (hD:∀ j d,bG ops i j d=true→atI L j (a.eval (.tmp d)) w):Region.wanted o (yielded ops a.tmps)=true:=by
 rcases h with h | ⟨g,b,d,h,hd,hw,hL⟩
 ·exact dV h
 ·have:=hD g d hw
  rw [hL] at this
  rw [jE h hd this];simp
theorem jP.no {a:Act} {w:World} (h:jP ops L i o) (hD:∀ j d,bG ops i j d=true→atI L j (a.eval (.tmp d)) w):Region.wanted o (yielded ops a.tmps)=false:=by
 rcases h with ⟨g,b,c,d,h,hd,hw,hL,hne⟩ | ⟨g,b,d,h,hd,hw,hL⟩
 ·have:=hD g d hw
  rw [hL] at this
  rw [jE h hd this];exact hne
 ·have:=hD g d hw
  rw [hL] at this
  exact sA h hd this
def OpI (ops:Array Oper) (t0:Array Value) (L:List Asr) (i:Nat) (x:Operand) (p:Asr):Prop :=
 ∀ (a:Act) (w:World),(∀ t,freeT ops t=true→a.eval (.tmp t)=t0.getD t undef)→(∀ j d,bG ops i j d=true→atI L j (a.eval (.tmp d)) w)→p (a.eval x) w
theorem opF {t:Nat} {v:Value} (hf:freeT ops t=true) (hv:t0.getD t undef=v):OpI ops t0 L i (.tmp t) (isV v):=fun a w hF _=>(hF t hf).trans hv
theorem opD (j t:Nat) (hw:bG ops i j t=true) (hL:atI L j=p):OpI ops t0 L i (.tmp t) p:=fun a w _ hD=>hL▸hD j t hw
theorem opC {v:Value}:OpI ops t0 L i (.const v) (isV v):=fun a w _ _=>rfl
theorem tY (hi:ops[i]?=some o) (hw:gP ops L i o)
  (h:∀ (a:Act) (w:World),(∀ t,freeT ops t=true→a.eval (.tmp t)=t0.getD t undef)→Below w0.heap.size w0 w→(∀ j d,bG ops i j d=true→atI L j (a.eval (.tmp d)) w) →
   ∃ v w',(execOp a.eval o).run P w = .ok (.value v) w'∧atI L i v w'∧Below w.heap.size w w'):RS P ops Q t0 w0 L i :=
 fH.value hi fun a w hF hG hD=>by
  obtain ⟨v,w',h1,h2,h3⟩:=h a w hF hG hD
  exact ⟨hw.yes hD,v,w',h1,h2,hG.trans (h3.mono hG.size),h3⟩
theorem st_none (hi:ops[i]?=some o) (hw:jP ops L i o) (hI:atI L i=isV undef):RS P ops Q t0 w0 L i :=
 fH.none hi fun a w hF hG hD=>⟨hw.no hD,by rw [hI];rfl⟩
def cC (P:Program) (f:FuncId):Bool:=match P.funcs[f]? with | some fn=>fn.body.isSome && !(fn.name == "runtime.NumGoroutine") | none=>false
theorem mV (P:Program) (ev:Operand→Value) (w:World) (f:FuncId) (args:Array Operand) (ts:Array TypeId) (o:Oper) (h:o.op = .call { callee:=.value (.func f),args:=args,argTypes:=ts }) (hf:ev (.func f) = .func (.func f) #[] #[]) (hb:cC P f=true):(execOp ev o).run P w = .ok (.enter f (args.map ev)) w:=by
 unfold cC at hb
 cases hx:P.funcs[f]? with
 | none=>rw [hx] at hb;cases hb
 | some fn =>
  rw [hx] at hb
  simp only [Bool.and_eq_true,Bool.not_eq_true',beq_eq_false_iff_ne,ne_eq] at hb
  obtain ⟨c,hc⟩:=Option.isSome_iff_exists.1 hb.1
  unfold execOp;simp only [h];simp [go_sem,resolve,hf,callFunc,hx,hc,hb.2]
def Az (p:Asr) (w:World):Ending→World→Prop:=fun e w'=>∃ v,e = .returned v∧p v w'∧Below w.heap.size w w'
theorem st_call {f:FuncId} {args:Array Operand} {ts:Array TypeId} (hi:ops[i]?=some o) (hop:o.op = .call { callee:=.value (.func f),args:=args,argTypes:=ts }) (hgo:cC P f=true) (hw:gP ops L i o)
  (hc:∀ (a:Act) (w:World),(∀ t,freeT ops t=true→a.eval (.tmp t)=t0.getD t undef)→Below w0.heap.size w0 w→(∀ j d,bG ops i j d=true→atI L j (a.eval (.tmp d)) w)→Calls P f (args.map a.eval) w (Az (atI L i) w)):RS P ops Q t0 w0 L i :=
 fH.call hi fun a w hF hG hD=>⟨hw.yes hD,f,args.map a.eval,mV P a.eval w f args ts o hop rfl hgo,(hc a w hF hG hD).mono fun e w' ⟨v,h1,h2,h3⟩=>⟨v,h1,h2,hG.trans (h3.mono hG.size),h3⟩⟩
end
abbrev Fr:=List (Nat×Value)
def dO:Fr→Nat→Option Value
 | [],_=>none
 | p::l,t=>bif Nat.beq p.1 t then some p.2 else dO l t
structure Has (n:Nat) (l:Fr) (a:Act):Prop where
 size:a.tmps.size=n
 defers:a.defers=[]
 at_:∀ t v,dO l t=some v→a.tmps.getD t undef=v
theorem Has.put {n:Nat} {l:Fr} {a:Act} {d:Nat} {v:Value} (h:Has n l a) (hd:Nat.blt d n=true):Has n ((d,v)::l) (a.put (some d) v):=by
 have hd':d < n:=Nat.le_of_ble_eq_true hd
 refine ⟨by rw [jO];exact h.size,by rw [gQ];exact h.defers,fun t u hu=>?_⟩
 unfold dO at hu
 cases hb:Nat.beq d t with
 | true =>
  have:d=t:=Nat.eq_of_beq_eq_true hb
  subst this
  simp only [hb,cond_true,Option.some.injEq] at hu
  rw [nU rfl (by rw [h.size];exact hd')];exact hu
 | false =>
  simp only [hb,cond_false] at hu
  have hne:d≠t:=fun e=>by subst e;rw [Nat.beq_refl] at hb;cases hb
  rw [eJ (fun e=>hne (Option.some.inj e))]
  exact h.at_ t u hu
def evL (l:Fr):Operand→Option Value
 | .tmp t=>dO l t
 | .const v=>some v
 | .global g=>some (.pointer (some ⟨g,0,none⟩))
 | .func f=>some (.func (.func f) #[] #[])
theorem Has.ev {n:Nat} {l:Fr} {a:Act} (h:Has n l a):∀ x v,evL l x=some v→a.eval x=v:=by
 intro x v hx
 cases x with
 | tmp t=>exact h.at_ t v hx
 | const u=>exact Option.some.inj hx
 | global g=>exact Option.some.inj hx
 | func f=>exact Option.some.inj hx
def tZ (l:Fr):Fr→Prop
 | []=>True
 | p::r=>dO l p.1=some p.2∧tZ l r
theorem tZ.at_ {l:Fr}:∀ {r:Fr},tZ l r→∀ t v,dO r t=some v→dO l t=some v
 | [],_,t,v,h=>by cases h
 | p::r,h,t,v,hv=>by
  unfold dO at hv
  cases hb:Nat.beq p.1 t with
  | true =>
   simp only [hb,cond_true,Option.some.injEq] at hv
   rw [← Nat.eq_of_beq_eq_true hb,← hv];exact h.1
  | false =>
   simp only [hb,cond_false] at hv
   exact tZ.at_ h.2 t v hv
theorem Has.sub {n:Nat} {l r:Fr} {a:Act} (h:Has n l a) (hs:tZ l r):Has n r a:=⟨h.size,h.defers,fun t v hv=>h.at_ t v (hs.at_ t v hv)⟩
def uA:Nat→List Value→Fr
 | _,[]=>[]
 | i,v::r=>(i,v)::uA (i+1) r
theorem uB:∀ (r:List Value) (i t:Nat) (v:Value),dO (uA i r) t=some v→i≤t∧r[t - i]?=some v
 | [],_,_,_,h=>by cases h
 | u::r,i,t,v,h=>by
  unfold uA dO at h
  cases hb:Nat.beq i t with
  | true =>
   have:i=t:=Nat.eq_of_beq_eq_true hb
   subst this
   simp only [hb,cond_true,Option.some.injEq] at h
   simp [h]
  | false =>
   simp only [hb,cond_false] at h
   have hne:i≠t:=fun e=>by subst e;rw [Nat.beq_refl] at hb;cases hb
   obtain ⟨h1,h2⟩:=uB r (i+1) t v h
   exact ⟨by omega,by rw [show t - i=(t - (i+1))+1 by omega];exact h2⟩
theorem has_par {n:Nat} {args:List Value} (hn:Nat.ble args.length n=true):Has n (uA 0 args) { tmps:=args.toArray++Array.replicate (n - args.toArray.size) undef,defers:=[] }:=by
 have hn':args.length≤n:=Nat.le_of_ble_eq_true hn
 refine ⟨by simp;omega,rfl,fun t v h=>?_⟩
 obtain ⟨_,h2⟩:=uB _ _ _ _ h
 have ht:t < args.length:=(List.getElem?_eq_some_iff.1 h2).1
 simp only [Array.getD_eq_getD_getElem?]
 rw [Array.getElem?_append_left (by simpa using ht)]
 simp only [Nat.sub_zero] at h2
 simp [h2]
section
variable {P:Program} {n:Nat} {Q:Exit→Act→World→Prop} {l:Fr} {W:World} {ops:Array Oper} {os:List Oper}
def dS (P:Program) (n:Nat) (c:Code) (Q:Exit→Act→World→Prop) (l:Fr) (W:World):Prop:=∀ a,Has n l a→c.wp P Q a W
def cJ (P:Program) (n:Nat) (ops:Array Oper) (Q:Exit→Act→World→Prop) (os:List Oper) (l:Fr) (W:World):Prop:=∀ a,Has n l a→wpList P ops Q os a W
def XF (Q:Exit→Act→World→Prop) (e:Exit) (n:Nat) (l:Fr) (W:World):Prop:=∀ a,Has n l a→Q e a W
theorem cP {f:FuncId} {fn:Func} {c:Code} {args:List Value} {R:Ending→World→Prop} (hf:P.funcs[f]?=some fn) (hb:fn.body=some c) (hn:fn.ntmps=n) (hl:Nat.ble args.length n=true)
  (h:dS P n c (bodyPost P fn R) (uA 0 args) W):Calls P f args.toArray W R :=
 calls_of_wp hf hb (by subst hn;exact h _ (has_par hl))
theorem aH {x y:Code} (h:dS P n x (Exit.then (y.wp P Q) Q) l W):dS P n (.seq x y) Q l W:=fun a ha=>wp_seq (h a ha)
theorem bV (h:XF Q .normal n l W):dS P n .skip Q l W:=fun a ha=>wp_skip (h a ha)
theorem cV {i:Nat} (h:XF Q (.exit i) n l W):dS P n (.exit i) Q l W:=fun a ha=>wp_exit (h a ha)
theorem cK (h:XF Q .ret n l W):dS P n .ret Q l W:=fun a ha=>wp_ret (h a ha)
theorem bH {i:Nat} {c:Code} (h:dS P n c (Exit.inBlock i Q) l W):dS P n (.block i c) Q l W:=fun a ha=>wp_block (h a ha)
theorem bS {c:Operand} {x y:Code} {b:Bool} (hc:evL l c=some (.bool b)) (ht:b=true→dS P n x Q l W) (hf:b=false→dS P n y Q l W):dS P n (.cond c x y) Q l W :=
 fun a ha=>wp_cond_split (t:=b) (ha.ev _ _ hc) (fun e=>ht e a ha) (fun e=>hf e a ha)
theorem fT {c:Operand} {x y:Code} (hc:evL l c=some (.bool true)) (h:dS P n x Q l W):dS P n (.cond c x y) Q l W:=fun a ha=>wp_cond_true (ha.ev _ _ hc) (h a ha)
theorem xX {c:Operand} {x y:Code} (hc:evL l c=some (.bool false)) (h:dS P n y Q l W):dS P n (.cond c x y) Q l W:=fun a ha=>wp_cond_false (ha.ev _ _ hc) (h a ha)
theorem aN {id:Nat} (h:cJ P n os.toArray Q os l W):dS P n (.region id os.toArray false) Q l W:=fun a ha=>wp_region_lit (h a ha)
theorem cW {c:Code} (I:Nat→Fr→World→Prop) (m0:Nat) (l0:Fr) (hs:tZ l l0) (h0:I m0 l0 W)
  (round:∀ m l W,I m l W→dS P n c (Exit.then (fun a' w'=>∃ m' l',m' < m∧I m' l' w'∧Has n l' a') Q) l W):dS P n (.loop c) Q l W:=fun a ha=>by
 intro b k cs
 have key:∀ m l W a,I m l W→Has n l a→∃ e a' w',Q e a' w'∧Arrives P (lone (b.at a (.code c :: .inLoop c::k)) cs W) b k cs e a' w':=by
  intro m
  induction m using Nat.strongRecOn with
  | _ m ih =>
   intro l W a hI ha
   obtain ⟨e,a₁,w₁,hq,harr⟩:=round m l W hI a ha b (.inLoop c::k) cs
   cases e with
   | normal =>
    obtain ⟨m',l',hlt,hI₁,ha₁⟩:=hq
    obtain ⟨e₂,a₂,w₂,hq₂,harr₂⟩:=ih m' hlt l' w₁ a₁ hI₁ ha₁
    exact ⟨e₂,a₂,w₂,hq₂,.of_steps (Steps.trans harr (.one step_inLoop)) harr₂⟩
   | exit id=>exact ⟨_,a₁,w₁,hq,.pass (x:=.inLoop c) rfl (fun _ _=>.inl (by simp)) harr⟩
   | goto l=>exact ⟨_,a₁,w₁,hq,.pass (x:=.inLoop c) rfl (fun _ _=>.inl (by simp)) harr⟩
   | ret=>exact ⟨_,a₁,w₁,hq,.pass (x:=.inLoop c) rfl (fun _ _=>.inl (by simp)) harr⟩
   | panic ch=>exact ⟨_,a₁,w₁,hq,.pass (x:=.inLoop c) rfl (fun _ _=>.inl (by simp)) harr⟩
   | outgrown=>exact ⟨_,a₁,w₁,hq,.pass (x:=.inLoop c) rfl (fun _ _=>.inl (by simp)) harr⟩
 obtain ⟨e,a',w',hq,harr⟩:=key m0 l0 W a h0 (ha.sub hs)
 exact ⟨e,a',w',hq,.of_steps (.one step_loop) harr⟩
theorem XF.thenN {y:Code} (h:dS P n y Q l W):XF (Exit.then (y.wp P Q) Q) .normal n l W:=fun a ha=>h a ha
theorem XF.thenX {i:Nat} {K:Act→World→Prop} (h:XF Q (.exit i) n l W):XF (Exit.then K Q) (.exit i) n l W:=fun a ha=>h a ha
theorem XF.thenR {K:Act→World→Prop} (h:XF Q .ret n l W):XF (Exit.then K Q) .ret n l W:=fun a ha=>h a ha
theorem XF.blkN {i:Nat} (h:XF Q .normal n l W):XF (Exit.inBlock i Q) .normal n l W:=fun a ha=>h a ha
theorem XF.blkR {i:Nat} (h:XF Q .ret n l W):XF (Exit.inBlock i Q) .ret n l W:=fun a ha=>h a ha
theorem XF.blkX {i:Nat} (h:XF Q .normal n l W):XF (Exit.inBlock i Q) (.exit i) n l W:=fun a ha=>by show (if i=i then Q .normal a W else Q (.exit i) a W);rw [if_pos rfl];exact h a ha
theorem XF.round {I:Nat→Fr→World→Prop} {m:Nat} (m':Nat) (l':Fr) (hm:m' < m) (hs:tZ l l') (hI:I m' l' W):XF (Exit.then (fun a' w'=>∃ m' l',m' < m∧I m' l' w'∧Has n l' a') Q) .normal n l W :=
 fun a ha=>⟨m',l',hm,hI,ha.sub hs⟩
theorem aK (h:XF Q .normal n l W):cJ P n ops Q [] l W:=fun a ha=>h a ha
theorem XF.res {fn:Func} {R:Ending→World→Prop} {v:Value} (hr:∀ a,Has n l a→(results fn a.tmps).run P W = .ok v W) (hR:R (.returned v) W):XF (bodyPost P fn R) .ret n l W :=
 fun a ha=>⟨ha.defers,v,hr a ha,hR⟩
theorem cZ {fn:Func} {t:Nat} {v:Value} (hf:fn.results=#[.tmp t]) (hv:dO l t=some v):∀ a,Has n l a→(results fn a.tmps).run P W = .ok v W :=
 fun a ha=>by rw [results_tmp hf,ha.at_ t v hv]
theorem uC {fn:Func} {t u:Nat} {v x:Value} (hf:fn.results=#[.tmp t,.tmp u]) (hv:dO l t=some v) (hx:dO l u=some x):∀ a,Has n l a→(results fn a.tmps).run P W = .ok (.tuple #[v,x]) W :=
 fun a ha=>by rw [results_tmp2 hf,ha.at_ t v hv,ha.at_ u x hx]
theorem aE {dst:Option Tmp} {op:Op} {ty:TypeId} {pos:String} {aft:Array Edge} {g d:Nat} {b:Bool} (hd:(ops[g]?).bind (·.dst)=some d) (hv:dO l d=some (.bool b))
  (h:cJ P n ops Q (⟨dst,op,ty,pos,aft,none⟩::os) l W):cJ P n ops Q (⟨dst,op,ty,pos,aft,some (g,b)⟩::os) l W:=fun a ha=>by
 have h1:=h a ha
 have hw:Region.wanted ⟨dst,op,ty,pos,aft,some (g,b)⟩ (yielded ops a.tmps)=true:=by
  rw [jE (ops:=ops) rfl hd (ha.at_ d _ hv)];simp
 unfold wpList at h1 ⊢
 rw [hw]
 rw [show Region.wanted ⟨dst,op,ty,pos,aft,none⟩ (yielded ops a.tmps)=true from rfl] at h1
 exact h1
theorem aQ {dst:Nat} {op:Op} {ty:TypeId} {pos:String} {aft:Array Edge} {g d:Nat} {b c:Bool} (hd:(ops[g]?).bind (·.dst)=some d) (hv:dO l d=some (.bool c)) (hc:(c == b)=false) (hn:Nat.blt dst n=true)
  (h:cJ P n ops Q os ((dst,undef)::l) W):cJ P n ops Q (⟨some dst,op,ty,pos,aft,some (g,b)⟩::os) l W:=fun a ha=>by
 have hw:Region.wanted ⟨some dst,op,ty,pos,aft,some (g,b)⟩ (yielded ops a.tmps)=false:=by
  rw [jE (ops:=ops) rfl hd (ha.at_ d _ hv)];exact hc
 unfold wpList
 rw [hw]
 exact h _ (ha.put hn)
theorem bZ {d:Nat} {b:Bool} (hv:dO l d=some (.bool b)) (ht:b=true→cJ P n ops Q os ((d,.bool true)::l) W) (hf:b=false→cJ P n ops Q os ((d,.bool false)::l) W):cJ P n ops Q os l W:=fun a ha=>by
 have hb:=ha.at_ d _ hv
 have key:∀ c,b=c→Has n ((d,.bool c)::l) a:=fun c hc=>⟨ha.size,ha.defers,fun t u hu=>by
  unfold dO at hu
  cases hx:Nat.beq d t with
  | true =>
   simp only [hx,cond_true,Option.some.injEq] at hu
   rw [← Nat.eq_of_beq_eq_true hx,← hu,← hc];exact hb
  | false =>
   simp only [hx,cond_false] at hu
   exact ha.at_ t u hu⟩
 cases hc:b with
 | true=>exact ht hc a (key _ hc)
 | false=>exact hf hc a (key _ hc)
variable {d:Nat} {op:Op} {ty:TypeId} {pos:String} {aft:Array Edge} {v:Value}
def dT (P:Program) (l:Fr) (o:Oper) (W:World) (v:Value) (W':World):Prop:=∀ ev:Operand→Value,(∀ x u,evL l x=some u→ev x=u)→(execOp ev o).run P W = .ok (.value v) W'
theorem opV {W':World} (hr:dT P l ⟨some d,op,ty,pos,aft,none⟩ W v W') (hd:Nat.blt d n=true) (h:cJ P n ops Q os ((d,v)::l) W'):cJ P n ops Q (⟨some d,op,ty,pos,aft,none⟩::os) l W:=fun a ha =>
 wpList_plain rfl fun K hK=>by
  unfold Oper.wp
  rw [hr a.eval ha.ev]
  exact hK _ _ (h _ (ha.put hd))
theorem aV {x:Operand} (hx:evL l x=some v):dT P l ⟨some d,.move x,ty,pos,aft,none⟩ W (v) W:=fun ev he=>by unfold execOp;simp only [];rw [he x v hx];rfl
theorem aA {x:Operand} (hx:evL l x=some v) (hd:Nat.blt d n=true) (h:cJ P n ops Q os ((d,v)::l) W):cJ P n ops Q (⟨some d,.move x,ty,pos,aft,none⟩::os) l W:=opV (aV hx) hd h
theorem dI {x:Operand} (hx:evL l x=some v):dT P l ⟨some d,.assign x,ty,pos,aft,none⟩ W (v) W:=fun ev he=>by unfold execOp;simp only [];rw [he x v hx];rfl
theorem aB {x:Operand} (hx:evL l x=some v) (hd:Nat.blt d n=true) (h:cJ P n ops Q os ((d,v)::l) W):cJ P n ops Q (⟨some d,.assign x,ty,pos,aft,none⟩::os) l W:=opV (dI hx) hd h
theorem pO {x y z:Operand} (hx:evL l x=some (.bool true)) (hy:evL l y=some v):dT P l ⟨some d,.pick x y z,ty,pos,aft,none⟩ W (v) W:=fun ev he=>by unfold execOp;simp only [];rw [he x _ hx,he y _ hy];rfl
theorem bI {x y z:Operand} (hx:evL l x=some (.bool true)) (hy:evL l y=some v) (hd:Nat.blt d n=true) (h:cJ P n ops Q os ((d,v)::l) W):cJ P n ops Q (⟨some d,.pick x y z,ty,pos,aft,none⟩::os) l W:=opV (pO hx hy) hd h
theorem pP {x y z:Operand} (hx:evL l x=some (.bool false)) (hz:evL l z=some v):dT P l ⟨some d,.pick x y z,ty,pos,aft,none⟩ W (v) W:=fun ev he=>by unfold execOp;simp only [];rw [he x _ hx,he z _ hz];rfl
theorem cG {x y z:Operand} (hx:evL l x=some (.bool false)) (hz:evL l z=some v) (hd:Nat.blt d n=true) (h:cJ P n ops Q os ((d,v)::l) W):cJ P n ops Q (⟨some d,.pick x y z,ty,pos,aft,none⟩::os) l W:=opV (pP hx hz) hd h
theorem wE {x:Operand} {b:Bool} {t:TypeId} (hx:evL l x=some (.bool b)):dT P l ⟨some d,.unOp .not t x,ty,pos,aft,none⟩ W (.bool (!b)) W:=fun ev he=>by unfold execOp;simp only [];rw [he x _ hx];rfl
theorem gR {x:Operand} {b:Bool} {t:TypeId} (hx:evL l x=some (.bool b)) (hd:Nat.blt d n=true) (h:cJ P n ops Q os ((d,.bool (!b))::l) W):cJ P n ops Q (⟨some d,.unOp .not t x,ty,pos,aft,none⟩::os) l W:=opV (wE hx) hd h
theorem eW {x:Operand} {i:Nat} {vs:Array Value} (hx:evL l x=some (.tuple vs)) (hv:vs[i]?=some v):dT P l ⟨some d,.extract x i,ty,pos,aft,none⟩ W (v) W:=fun ev he=>by unfold execOp;simp only [];rw [he x _ hx];simp [Instr.extract,hv]
theorem bO {x:Operand} {i:Nat} {vs:Array Value} (hx:evL l x=some (.tuple vs)) (hv:vs[i]?=some v) (hd:Nat.blt d n=true) (h:cJ P n ops Q os ((d,v)::l) W):cJ P n ops Q (⟨some d,.extract x i,ty,pos,aft,none⟩::os) l W:=opV (eW hx hv) hd h
theorem iS {x:Operand} {t e:TypeId} {ad:Option Addr} {m c:Nat} (ht:P.underlying t=some (.slice e)) (hx:evL l x=some (.slice ad m c)):dT P l ⟨some d,.call { callee:=.builtin .len,args:=#[x],argTypes:=#[t] },ty,pos,aft,none⟩ W (.int .i64 (m:Int)) W:=fun ev he=>by unfold execOp;simp [resolve,invoke,builtin,he x _ hx,Builtin.len_,run_underlying ht,goInt]
theorem bX {x:Operand} {t e:TypeId} {ad:Option Addr} {m c:Nat} (ht:P.underlying t=some (.slice e)) (hx:evL l x=some (.slice ad m c)) (hd:Nat.blt d n=true) (h:cJ P n ops Q os ((d,.int .i64 (m:Int))::l) W):cJ P n ops Q (⟨some d,.call { callee:=.builtin .len,args:=#[x],argTypes:=#[t] },ty,pos,aft,none⟩::os) l W:=opV (iS ht hx) hd h
end
def gI (lo:Nat) (A W:World):Prop:=A.heap.size≤W.heap.size∧∀ b,lo≤b→b < A.heap.size→W.heap[b]?=A.heap[b]?
theorem gI.refl (lo:Nat) (A:World):gI lo A A:=⟨Nat.le_refl _,fun _ _ _=>rfl⟩
theorem gI.cell {lo:Nat} {A W:World} (h:gI lo A W) {p:Addr} {v:Value} (hp:lo≤p.block) (hc:A.cell? p=some v):W.cell? p=some v :=
 (World.cell?_of_block (h.2 p.block hp (World.block_lt_of_cell? A p hc))).trans hc
theorem gI.mono {lo lo':Nat} {A W:World} (h:gI lo A W) (hl:lo≤lo'):gI lo' A W:=⟨h.1,fun b h1 h2=>h.2 b (Nat.le_trans hl h1) h2⟩
theorem gI.trans {lo:Nat} {A B C:World} (h:gI lo A B) (k:gI lo B C):gI lo A C :=
 ⟨Nat.le_trans h.1 k.1,fun b h1 h2=>(k.2 b h1 (Nat.lt_of_lt_of_le h2 h.1)).trans (h.2 b h1 h2)⟩
theorem aO {A W:World} (h:Below A.heap.size A W) (lo:Nat):gI lo A W:=⟨h.size,fun b _ hb=>h.block b hb⟩
abbrev Own:=List (Nat×List Value×TypeId)
structure GR where
 v:Value
 n:Nat
 xs:List Value
 e:TypeId
 size:Nat
abbrev bN:=List GR
def Value.apart (v u:Value):Prop:=∀ b,v.ownBlock=some b→u.ownBlock≠some b
structure St (w0:World) (O:Own) (G:bN) (K:List (Nat×World)) (W:World):Prop where
 below:Below w0.heap.size w0 W
 own:∀ p∈O,w0.heap.size≤p.1∧W.heap[p.1]?=some (.cells p.2.1.toArray p.2.2 (0,0))
 dist:O.Pairwise (fun p q=>p.1≠q.1)
 kept:∀ q∈K,gI q.1 q.2 W∧∀ p∈O,p.1 < q.1∨q.2.heap.size≤p.1
 rows:∀ g∈G,W.ownsRow w0.heap.size g.e g.size g.v g.n g.xs∧∀ b,g.v.ownBlock=some b→(∀ p∈O,p.1≠b)∧∀ q∈K,b < q.1∨q.2.heap.size≤b
 gdist:G.Pairwise (fun g h=>Value.apart g.v h.v)
section
variable {w0 W:World} {O:Own} {G:bN} {K:List (Nat×World)}
theorem dF {w:World} {b:Nat} {o:Obj} (h:w.heap[b]?=some o):b < w.heap.size:=(Array.getElem?_eq_some_iff.1 h).1
theorem St.start (w:World):St w [] [] [] w:=⟨Below.refl _ _,(fun p h=>by cases h),List.Pairwise.nil,(fun q h=>by cases h),(fun q h=>by cases h),List.Pairwise.nil⟩
theorem St.glt (h:St w0 O G K W) {g:GR} (hg:g∈G) {b:Nat} (hb:g.v.ownBlock=some b):w0.heap.size≤b∧b < W.heap.size:=(h.rows g hg).1.lt b hb
theorem fM {w w':World} {base:Nat} {e:TypeId} {size:Nat} {v:Value} {n:Nat} {xs:List Value} (h:w.ownsRow base e size v n xs) (hb:∀ b,v.ownBlock=some b→w'.heap[b]?=w.heap[b]?):w'.ownsRow base e size v n xs:=by
 refine ⟨h.1,?_⟩
 rcases h.2 with h2 | ⟨g,cap,cur,rfl,h3,h4,h5⟩
 ·exact .inl h2
 ·exact .inr ⟨g,cap,cur,rfl,h3,by rw [hb g rfl];exact h4,h5⟩
theorem St.alloc (h:St w0 O G K W) (cs:List Value) (T:TypeId):St w0 ((W.heap.size,cs,T)::O) G K (W.alloc (.cells cs.toArray T)) where
 below:=h.below.alloc h.below.size _
 own:=fun p hp=>by
  rcases List.mem_cons.1 hp with rfl | hp
  ·exact ⟨h.below.size,heap_alloc_new W _⟩
  ·obtain ⟨h1,h2⟩:=h.own p hp
   exact ⟨h1,(Below.heap_alloc W _ _ (dF h2)).trans h2⟩
 dist:=List.Pairwise.cons (fun q hq e=>by have:=dF (h.own q hq).2;simp only at e;omega) h.dist
 kept:=fun q hq=>by
  obtain ⟨h1,h2⟩:=h.kept q hq
  refine ⟨⟨by have:=h1.1;simp;omega,fun b hb hb2=>(Below.heap_alloc W _ _ (by have:=h1.1;omega)).trans (h1.2 b hb hb2)⟩,fun p hp=>?_⟩
  rcases List.mem_cons.1 hp with rfl | hp
  ·exact .inr h1.1
  ·exact h2 p hp
 rows:=fun g hg=>by
  obtain ⟨h1,h2⟩:=h.rows g hg
  refine ⟨fM h1 fun b hb=>Below.heap_alloc W _ _ (h.glt hg hb).2,fun b hb=>⟨fun p hp=>?_,(h2 b hb).2⟩⟩
  rcases List.mem_cons.1 hp with rfl | hp
  ·have:=(h.glt hg hb).2;simp only;omega
  ·exact (h2 b hb).1 p hp
 gdist:=h.gdist
theorem St.grow {W':World} (h:St w0 O G K W) (hb:Below W.heap.size W W'):St w0 O G K W' where
 below:=h.below.trans (hb.mono h.below.size)
 own:=fun p hp=>by
  obtain ⟨h1,h2⟩:=h.own p hp
  exact ⟨h1,(hb.block _ (dF h2)).trans h2⟩
 dist:=h.dist
 kept:=fun q hq=>by
  obtain ⟨h1,h2⟩:=h.kept q hq
  exact ⟨⟨Nat.le_trans h1.1 hb.size,fun b hb1 hb2=>(hb.block b (Nat.lt_of_lt_of_le hb2 h1.1)).trans (h1.2 b hb1 hb2)⟩,h2⟩
 rows:=fun g hg=>⟨fM (h.rows g hg).1 fun b h1=>hb.block b (h.glt hg h1).2,(h.rows g hg).2⟩
 gdist:=h.gdist
theorem St.call {W':World} (h:St w0 O G K W) (hb:Below W.heap.size W W'):St w0 O G ((W.heap.size,W')::K) W' :=
 let g:=h.grow hb
 ⟨g.below,g.own,g.dist,fun q hq=>by
  rcases List.mem_cons.1 hq with rfl | hq
  ·exact ⟨gI.refl _ _,fun p hp=>.inl (dF (h.own p hp).2)⟩
  ·exact g.kept q hq,(fun r hr=>⟨(g.rows r hr).1,fun b hb=>⟨((g.rows r hr).2 b hb).1,fun q hq=>by
   rcases List.mem_cons.1 hq with rfl | hq
   ·exact .inl (h.glt hr hb).2
   ·exact ((g.rows r hr).2 b hb).2 q hq⟩⟩),g.gdist⟩
theorem St.drew (h:St w0 O G K W):St w0 O G K W.drew:=h.grow (Below.refl _ _).drew
theorem St.at_ (h:St w0 O G K W) (i:Nat) {B:Nat} {cs:List Value} {T:TypeId} (hi:O[i]?=some (B,cs,T)):W.heap[B]?=some (.cells cs.toArray T (0,0)):=(h.own _ (List.mem_of_getElem? hi)).2
theorem St.ge (h:St w0 O G K W) (i:Nat) {B:Nat} {cs:List Value} {T:TypeId} (hi:O[i]?=some (B,cs,T)):w0.heap.size≤B:=(h.own _ (List.mem_of_getElem? hi)).1
theorem St.old (h:St w0 O G K W) {p:Addr} {v:Value} (hc:w0.cell? p=some v):W.cell? p=some v:=(h.below.cell (World.block_lt_of_cell? _ _ hc)).trans hc
theorem aD {B j:Nat} {cs:List Value} {T:TypeId} {v:Value} (h:W.heap[B]?=some (.cells cs.toArray T (0,0))) (hv:cs[j]?=some v):W.cell? ⟨B,j,none⟩=some v:=by
 unfold World.cell?;simp [h,hv]
theorem pQ {B j:Nat} {cs:List Value} {T:TypeId} (h:W.heap[B]?=some (.cells cs.toArray T (0,0))):W.frozen? ⟨B,j,none⟩=false:=by
 unfold World.frozen?;simp [h]
theorem heap_set {B j:Nat} {cs:List Value} {T:TypeId} (v:Value) (h:W.heap[B]?=some (.cells cs.toArray T (0,0))):(W.setCell ⟨B,j,none⟩ v).heap[B]?=some (.cells (cs.set j v).toArray T (0,0)):=by
 simp only [World.setCell,Array.getElem?_modify,if_true,h,Option.map_some]
 simp
theorem A0 {x y:Nat×List Value×TypeId} (hx:x.1=y.1):∀ {O:Own} {i:Nat},O[i]?=some x→O.Pairwise (fun p q=>p.1≠q.1)→(O.set i y).Pairwise (fun p q=>p.1≠q.1)
 | [],_,h,_=>by simp at h
 | p::O,0,h,hp=>by
  simp at h;subst h
  cases hp with
  | cons a b=>exact List.Pairwise.cons (fun q hq=>by rw [← hx];exact a q hq) b
 | p::O,i+1,h,hp=>by
  cases hp with
  | cons a b =>
   refine List.Pairwise.cons (fun q hq=>?_) (A0 hx (by simpa using h) b)
   rcases List.mem_or_eq_of_mem_set hq with hq | rfl
   ·exact a q hq
   ·rw [← hx];exact a x (List.mem_of_getElem? (by simpa using h))
theorem jY:∀ {O:Own} {i:Nat} {x y q:Nat×List Value×TypeId},O[i]?=some x→O.Pairwise (fun p q=>p.1≠q.1)→q∈O.set i y→q=y∨(q∈O∧q.1≠x.1)
 | [],_,_,_,_,h,_,_=>by simp at h
 | p::O,0,x,y,q,h,hp,hq=>by
  simp at h;subst h
  cases hp with
  | cons a b =>
   rcases List.mem_cons.1 hq with rfl | hq
   ·exact .inl rfl
   ·exact .inr ⟨List.mem_cons_of_mem _ hq,fun e=>a q hq e.symm⟩
 | p::O,i+1,x,y,q,h,hp,hq=>by
  cases hp with
  | cons a b =>
   rcases List.mem_cons.1 hq with rfl | hq
   ·exact .inr ⟨List.mem_cons_self,a x (List.mem_of_getElem? (by simpa using h))⟩
   ·rcases jY (by simpa using h) b hq with h1 | ⟨h1,h2⟩
    ·exact .inl h1
    ·exact .inr ⟨List.mem_cons_of_mem _ h1,h2⟩
theorem St.set (h:St w0 O G K W) (i:Nat) {B:Nat} {cs:List Value} {T:TypeId} (hi:O[i]?=some (B,cs,T)) (j:Nat) (v:Value):St w0 (O.set i (B,cs.set j v,T)) G K (W.setCell ⟨B,j,none⟩ v) where
 below:=h.below.setCell (p:=⟨B,j,none⟩) (h.ge i hi) v
 own:=fun p hp=>by
  rcases jY hi h.dist hp with rfl | ⟨h1,h2⟩
  ·exact ⟨h.ge i hi,heap_set v (h.at_ i hi)⟩
  ·obtain ⟨h3,h4⟩:=h.own p h1
   exact ⟨h3,(Below.heap_setCell _ _ _ _ h2).trans h4⟩
 dist:=A0 (x:=(B,cs,T)) (y:=(B,cs.set j v,T)) rfl hi h.dist
 kept:=fun q hq=>by
  obtain ⟨h1,h2⟩:=h.kept q hq
  have hB:=h2 _ (List.mem_of_getElem? hi)
  refine ⟨⟨by have:=h1.1;simpa using this,fun b hb hb2=>(Below.heap_setCell _ _ _ _ (by show b≠B;simp only at hB;omega)).trans (h1.2 b hb hb2)⟩,fun p hp=>?_⟩
  rcases jY hi h.dist hp with rfl | ⟨h3,_⟩
  ·exact hB
  ·exact h2 p h3
 rows:=fun g hg=>by
  obtain ⟨h1,h2⟩:=h.rows g hg
  refine ⟨fM h1 fun b hb=>Below.heap_setCell _ _ _ _ (fun e=>(h2 b hb).1 _ (List.mem_of_getElem? hi) (by simpa using e.symm)),fun b hb=>⟨fun p hp=>?_,(h2 b hb).2⟩⟩
  rcases jY hi h.dist hp with rfl | ⟨h3,_⟩
  ·exact (h2 b hb).1 (B,cs,T) (List.mem_of_getElem? hi)
  ·exact (h2 b hb).1 p h3
 gdist:=h.gdist
theorem St.tail {p:Nat×List Value×TypeId} (h:St w0 (p::O) G K W):St w0 O G K W where
 below:=h.below
 own:=fun q hq=>h.own q (List.mem_cons_of_mem _ hq)
 dist:=by cases h.dist with | cons a b=>exact b
 kept:=fun q hq=>⟨(h.kept q hq).1,fun r hr=>(h.kept q hq).2 r (List.mem_cons_of_mem _ hr)⟩
 rows:=fun g hg=>⟨(h.rows g hg).1,fun b hb=>⟨fun r hr=>((h.rows g hg).2 b hb).1 r (List.mem_cons_of_mem _ hr),((h.rows g hg).2 b hb).2⟩⟩
 gdist:=h.gdist
theorem St.keep (K':List (Nat×World)) (h:St w0 O G K W) (hk:∀ q∈K',q∈K):St w0 O G K' W where
 below:=h.below
 own:=h.own
 dist:=h.dist
 kept:=fun q hq=>h.kept q (hk q hq)
 rows:=fun g hg=>⟨(h.rows g hg).1,fun b hb=>⟨((h.rows g hg).2 b hb).1,fun q hq=>((h.rows g hg).2 b hb).2 q (hk q hq)⟩⟩
 gdist:=h.gdist
theorem St.clear (h:St w0 O G K W):St w0 O G [] W:=h.keep [] (fun q hq=>by cases hq)
theorem St.newG (h:St w0 O G K W) (e:TypeId) (size:Nat):St w0 O (⟨.slice none 0 0,0,[],e,size⟩::G) K W where
 below:=h.below
 own:=h.own
 dist:=h.dist
 kept:=h.kept
 rows:=fun g hg=>by
  rcases List.mem_cons.1 hg with rfl | hg
  ·exact ⟨World.ownsRow_nil _ _ _ _,fun b hb=>by simp [Value.ownBlock] at hb⟩
  ·exact h.rows g hg
 gdist:=List.Pairwise.cons (fun g hg b hb=>by simp [Value.ownBlock] at hb) h.gdist
theorem St.tailG {g:GR} (h:St w0 O (g::G) K W):St w0 O G K W where
 below:=h.below
 own:=h.own
 dist:=h.dist
 kept:=h.kept
 rows:=fun r hr=>h.rows r (List.mem_cons_of_mem _ hr)
 gdist:=by cases h.gdist with | cons a b=>exact b
theorem St.row (h:St w0 O G K W) (i:Nat) {g:GR} (hi:G[i]?=some g):W.ownsRow w0.heap.size g.e g.size g.v g.n g.xs:=(h.rows g (List.mem_of_getElem? hi)).1
theorem gW {P:Program} {w:World} (base:Nat) (t ty e:TypeId) (i:TypeInfo) (z:Value) (ht:P.underlying t=some (.slice e)) (hi:P.info? e=some i) (hz:i.zero=some z) (hzs:z.cells.size=i.size) (hsz:0 < i.size)
  (v:Value) (n:Nat) (xs:List Value) (hown:w.ownsRow base e i.size v n xs) (a:Addr) (m c:Nat) (news:List Value) (hl:news.length=m * i.size) (hnews:∀ j u,news[j]?=some u→w.cell? (a.add j)=some u) (h1:∀ u∈news,u.oneCell'=true)
  (h63:n+m≤maxLen) (hbytes:(n+m) * i.bytes≤140737488355328) (hbase:base≤w.heap.size) :
  ∃ v' w',(Builtin.append_ #[t,t] ty #[v,.slice (some a) m c]).run P w = .ok v' w'∧w'.ownsRow base e i.size v' (n+m) (xs++news)∧w.grownBy w' v.ownBlock∧(v'.ownBlock=v.ownBlock∨v'.ownBlock=some w.heap.size):=by
 obtain ⟨v',w',hr,h2,h3,h4⟩:=run_append_own (P:=P) w base t ty e i z i.size i.bytes ht hi hz rfl rfl hzs hsz v n xs hown a m c news hl hnews h1 h63 hbytes hbase
 refine ⟨v',w',hr,h2,h3,?_⟩
 cases hv:v'.ownBlock with
 | none =>
  rcases h2.2 with ⟨rfl,hn⟩ | ⟨g,cap,cur,rfl,_⟩
  ·rw [(h4.1 rfl).1];exact .inl rfl
  ·simp [Value.ownBlock] at hv
 | some b =>
  by_cases hvb:v.ownBlock=some b
  ·exact .inl hvb.symm
  ·refine .inr ?_
   -- the block is no old one: append would have had to lie there before
   have hbig:=run_append_own (P:=P) w base t ty e i z i.size i.bytes ht hi hz rfl rfl hzs hsz v n xs hown a m c news hl hnews h1 h63 hbytes hbase
   rcases hown.2 with ⟨rfl,rfl⟩ | ⟨g,cap,cur,rfl,hbg,hg,hnc,hcm,hcs,htake⟩
   ·have hx:xs=[]:=List.eq_nil_of_length_eq_zero (by simpa using hown.1)
    subst hx
    by_cases hm:m=0
    ·subst hm
     have:=h4.2 ⟨rfl,rfl⟩
     subst this;simp [Value.ownBlock] at hv
    ·have hr2:=run_append_nil (P:=P) w t ty e i z ht hi hz a m c news hl hnews (by omega) (by simp only [maxLen] at h63;omega) (by have hb:=hbytes;simp only [Nat.zero_add] at hb;omega)
     rw [hr2] at hr
     simp only [Result.ok.injEq] at hr
     rw [← hr.1] at hv
     simpa [Value.ownBlock] using hv.symm
   ·by_cases hroom:n+m≤cap
    ·have hfit:n * i.size+news.length≤cur.size:=by rw [hl,hcs,← Nat.add_mul];exact Nat.mul_le_mul_right _ hroom
     have hr2:=run_append_room (P:=P) w t ty e i ht hi g n cap cur hg a m c news hl hnews h1 hroom hfit
     rw [hr2] at hr
     simp only [Result.ok.injEq] at hr
     rw [← hr.1] at hv
     exact absurd hv hvb
    ·have holds:∀ j u,xs[j]?=some u→w.cell? ((⟨g,0,none⟩:Addr).add j)=some u:=hown.cells (g:=g) rfl
     have hr2:=run_append_grow (P:=P) w t ty e i z ht hi hz ⟨g,0,none⟩ n cap xs hown.1 holds a m c news hl hnews (by omega) (by simp only [maxLen] at h63;omega) (growslice_fits (by omega) hbytes)
     rw [hr2] at hr
     simp only [Result.ok.injEq] at hr
     rw [← hr.1] at hv
     simpa [Value.ownBlock] using hv.symm
theorem pR:∀ {G:bN} {i:Nat} {x y q:GR},G[i]?=some x→q∈G.set i y→G.Pairwise (fun g h=>Value.apart g.v h.v)→q=y∨(q∈G∧(Value.apart q.v x.v∨Value.apart x.v q.v))
 | [],_,_,_,_,h,_,_=>by simp at h
 | p::G,0,x,y,q,h,hq,hp=>by
  simp at h;subst h
  cases hp with
  | cons a b =>
   rcases List.mem_cons.1 hq with rfl | hq
   ·exact .inl rfl
   ·exact .inr ⟨List.mem_cons_of_mem _ hq,.inr (a q hq)⟩
 | p::G,i+1,x,y,q,h,hq,hp=>by
  cases hp with
  | cons a b =>
   rcases List.mem_cons.1 hq with rfl | hq
   ·exact .inr ⟨List.mem_cons_self,.inl (a x (List.mem_of_getElem? (by simpa using h)))⟩
   ·rcases pR (by simpa using h) hq b with h1 | ⟨h1,h2⟩
    ·exact .inl h1
    ·exact .inr ⟨List.mem_cons_of_mem _ h1,h2⟩
theorem sB:∀ {G:bN} {i:Nat} {x y:GR},G[i]?=some x→(∀ q∈G,Value.apart q.v x.v→Value.apart q.v y.v)→(∀ q∈G,Value.apart x.v q.v→Value.apart y.v q.v)→G.Pairwise (fun g h=>Value.apart g.v h.v)→(G.set i y).Pairwise (fun g h=>Value.apart g.v h.v)
 | [],_,_,_,h,_,_,_=>by simp at h
 | p::G,0,x,y,h,k1,k2,hp=>by
  simp at h;subst h
  cases hp with
  | cons a b=>exact List.Pairwise.cons (fun q hq=>k2 q (List.mem_cons_of_mem _ hq) (a q hq)) b
 | p::G,i+1,x,y,h,k1,k2,hp=>by
  cases hp with
  | cons a b =>
   have hx:=a x (List.mem_of_getElem? (by simpa using h))
   refine List.Pairwise.cons (fun q hq=>?_) (sB (by simpa using h) (fun q hq=>k1 q (List.mem_cons_of_mem _ hq)) (fun q hq=>k2 q (List.mem_cons_of_mem _ hq)) b)
   rcases List.mem_or_eq_of_mem_set hq with hq | rfl
   ·exact a q hq
   ·exact k1 p List.mem_cons_self hx
theorem St.setG {W':World} (h:St w0 O G K W) (i:Nat) {g:GR} (hi:G[i]?=some g) {v':Value} {n':Nat} {xs':List Value} (hown:W'.ownsRow w0.heap.size g.e g.size v' n' xs') (hgr:W.grownBy W' g.v.ownBlock) (hv:v'.ownBlock=g.v.ownBlock∨v'.ownBlock=some W.heap.size) :
  St w0 O (G.set i ⟨v',n',xs',g.e,g.size⟩) K W' where
 below:=h.below.grown hgr h.below.size (fun k hk=>(h.glt (List.mem_of_getElem? hi) hk).1)
 own:=fun p hp=>by
  obtain ⟨h1,h2⟩:=h.own p hp
  refine ⟨h1,(hgr.block _ (dF h2) (fun e=>?_)).trans h2⟩
  exact ((h.rows g (List.mem_of_getElem? hi)).2 p.1 e.symm).1 p hp rfl
 dist:=h.dist
 kept:=fun q hq=>by
  obtain ⟨h1,h2⟩:=h.kept q hq
  refine ⟨⟨Nat.le_trans h1.1 hgr.size,fun b hb hb2=>(hgr.block b (Nat.lt_of_lt_of_le hb2 h1.1) (fun e=>?_)).trans (h1.2 b hb hb2)⟩,h2⟩
  have:=((h.rows g (List.mem_of_getElem? hi)).2 b e.symm).2 q hq
  omega
 rows:=fun r hr=>by
  rcases pR hi hr h.gdist with rfl | ⟨hr',hap⟩
  ·refine ⟨hown,fun b hb=>?_⟩
   rcases hv with e | e
   ·have hb':g.v.ownBlock=some b:=e▸hb
    exact (h.rows g (List.mem_of_getElem? hi)).2 b hb'
   ·have hb':W.heap.size=b:=by rw [show v'.ownBlock=some b from hb] at e;exact (Option.some.inj e).symm
    subst hb'
    exact ⟨fun p hp e=>by have:=dF (h.own p hp).2;omega,fun q hq=>.inr (h.kept q hq).1.1⟩
  ·refine ⟨fM (h.rows r hr').1 fun b hb=>hgr.block b (h.glt hr' hb).2 (fun e=>?_),(h.rows r hr').2⟩
   rcases hap with h1 | h1
   ·exact h1 b hb e.symm
   ·exact h1 b e.symm hb
 gdist:=sB hi (fun q hq hap b hb e=>by
   rcases hv with e' | e'
   ·exact hap b hb (e'▸e)
   ·rw [show v'.ownBlock=some b from e] at e'
    have:=(h.glt hq hb).2
    have:=Option.some.inj e';omega) (fun q hq hap b hb e=>by
   rcases hv with e' | e'
   ·exact hap b (e'▸hb) e
   ·rw [show v'.ownBlock=some b from hb] at e'
    have:=(h.glt hq e).2
    have:=Option.some.inj e';omega) h.gdist
def setMany (W:World) (B:Nat):Nat→List Value→World
 | _,[]=>W
 | j,v::r=>setMany (W.setCell ⟨B,j,none⟩ v) B (j+1) r
def fR (cs:List Value):Nat→List Value→List Value
 | _,[]=>cs
 | j,v::r=>fR (cs.set j v) (j+1) r
theorem St.setMany {T:TypeId} {B:Nat} (i:Nat):∀ (vs:List Value) (j:Nat) {O:Own} {W:World} {cs:List Value},St w0 O G K W→O[i]?=some (B,cs,T)→St w0 (O.set i (B,fR cs j vs,T)) G K (Go.Proofs.Ytghmbejblbnjjaa.setMany W B j vs)
 | [],j,O,W,cs,h,hi=>by
  have:O.set i (B,cs,T)=O:=by
   apply List.ext_getElem?
   intro k
   rw [List.getElem?_set]
   by_cases hk:i=k
   ·subst hk;rw [if_pos rfl];rw [hi];simp [(List.getElem?_eq_some_iff.1 hi).1]
   ·rw [if_neg hk]
  unfold fR Go.Proofs.Ytghmbejblbnjjaa.setMany
  rw [this];exact h
 | v::r,j,O,W,cs,h,hi=>by
  have h1:=h.set i hi j v
  have hi2:(O.set i (B,cs.set j v,T))[i]?=some (B,cs.set j v,T):=by
   rw [List.getElem?_set];rw [if_pos rfl];simp [(List.getElem?_eq_some_iff.1 hi).1]
  have h2:=St.setMany i r (j+1) h1 hi2
  rw [List.set_set] at h2
  exact h2
end
def aT (W:World) (b o:Nat):List Value→Prop
 | []=>True
 | v::r=>W.cell? ⟨b,o,none⟩=some v∧aT W b (o+1) r
theorem aT.get {W:World} {b:Nat}:∀ {vs:List Value} {o:Nat},aT W b o vs→∀ j v,vs[j]?=some v→W.cell? ⟨b,o+j,none⟩=some v
 | [],_,_,j,v,h=>by simp at h
 | u::r,o,hc,0,v,h=>by simp at h;subst h;exact hc.1
 | u::r,o,hc,j+1,v,h=>by rw [show o+(j+1)=o+1+j by omega];exact aT.get hc.2 j v (by simpa using h)
theorem aT.of {W:World} {b:Nat}:∀ {vs:List Value} {o:Nat},(∀ j v,vs[j]?=some v→W.cell? ⟨b,o+j,none⟩=some v)→aT W b o vs
 | [],_,_=>trivial
 | u::r,o,h=>⟨h 0 u rfl,aT.of fun j v hv=>by rw [show o+1+j=o+(j+1) by omega];exact h (j+1) v (by simpa using hv)⟩
theorem aT.agree {A W:World} {lo b:Nat} (hw:gI lo A W) (hb:lo≤b):∀ {vs:List Value} {o:Nat},aT A b o vs→aT W b o vs
 | [],_,_=>trivial
 | _::_,_,h=>⟨hw.cell hb h.1,aT.agree hw hb h.2⟩
theorem aT.own {W:World} {B:Nat} {cs:List Value} {T:TypeId} (h:W.heap[B]?=some (.cells cs.toArray T (0,0))) {j m:Nat} {vs:List Value} (hv:(cs.drop j).take m=vs):aT W B j vs:=by
 subst hv
 refine aT.of fun i v hi=>aD h ?_
 rw [List.getElem?_take] at hi
 split at hi
 ·rwa [List.getElem?_drop] at hi
 ·cases hi
section
variable {P:Program} {n:Nat} {Q:Exit→Act→World→Prop} {l:Fr} {w0 W:World} {ops:Array Oper} {os:List Oper} {O:Own} {G:bN} {K:List (Nat×World)}
variable {d:Nat} {ty:TypeId} {pos:String} {aft:Array Edge} {v:Value}
theorem aY {x:Operand} {T:TypeId} {p:Addr} (hT:∀ w,(isAgg T).run P w = .ok false w) (hx:evL l x=some (.pointer (some p))) (hc:W.cell? p=some v):dT P l ⟨some d,.load T x,ty,pos,aft,none⟩ W (v) W:=fun ev he=>by unfold execOp;simp only [];rw [he x _ hx];simp [Instr.loadAt,Instr.sureAddr,loadVar,hT,run_load,hc]
theorem aP {x:Operand} {T:TypeId} {p:Addr} (hT:∀ w,(isAgg T).run P w = .ok false w) (hx:evL l x=some (.pointer (some p))) (hc:W.cell? p=some v) (hd:Nat.blt d n=true) (h:cJ P n ops Q os ((d,v)::l) W):cJ P n ops Q (⟨some d,.load T x,ty,pos,aft,none⟩::os) l W:=opV (aY hT hx hc) hd h
theorem dL {x:Operand} {T:TypeId} {b o:Nat} {vs:List Value} (hT:∀ w,(isAgg T).run P w = .ok true w) (hS:∀ w,(sizeOf T).run P w = .ok vs.length w) (hx:evL l x=some (.pointer (some ⟨b,o,none⟩))) (hc:aT W b o vs):dT P l ⟨some d,.load T x,ty,pos,aft,none⟩ W (.agg vs.toArray) W:=fun ev he=>by
  unfold execOp;simp only [];rw [he x _ hx]
  have:=run_loadCells_list (P:=P) W ⟨b,o,none⟩ vs (fun j u hj=>by rw [Addr.add_lit];exact hc.get j u hj)
  simp [Instr.loadAt,Instr.sureAddr,loadVar,hT,hS,this]
theorem bC {x:Operand} {T:TypeId} {b o:Nat} {vs:List Value} (hT:∀ w,(isAgg T).run P w = .ok true w) (hS:∀ w,(sizeOf T).run P w = .ok vs.length w) (hx:evL l x=some (.pointer (some ⟨b,o,none⟩))) (hc:aT W b o vs) (hd:Nat.blt d n=true) (h:cJ P n ops Q os ((d,.agg vs.toArray)::l) W):cJ P n ops Q (⟨some d,.load T x,ty,pos,aft,none⟩::os) l W:=opV (dL hT hS hx hc) hd h
theorem cI {x:Operand} {T:TypeId} {cs:List Value} (hS:St w0 O G K W) (hx:evL l x=some v) (hcs:v.cells=cs.toArray) (hd:Nat.blt d n=true)
  (h:∀ B W',St w0 ((B,cs,T)::O) G K W'→cJ P n ops Q os ((d,.pointer (some ⟨B,0,none⟩))::l) W'):cJ P n ops Q (⟨some d,.box T x,ty,pos,aft,none⟩::os) l W :=
 opV (W':=W.alloc (.cells cs.toArray T)) (v:=.pointer (some ⟨W.heap.size,0,none⟩)) (fun ev he=>by unfold execOp;simp only [];rw [he x _ hx];simp [Instr.box,newVar,newRow,hcs]) hd (h _ _ (hS.alloc cs T))
theorem cE {T:TypeId} {z:Value} {cs:List Value} (hS:St w0 O G K W) (hz:∀ w,(zeroValue T).run P w = .ok z w) (hcs:z.cells=cs.toArray) (hd:Nat.blt d n=true)
  (h:∀ B W',St w0 ((B,cs,T)::O) G K W'→cJ P n ops Q os ((d,.pointer (some ⟨B,0,none⟩))::l) W'):cJ P n ops Q (⟨some d,.alloc T,ty,pos,aft,none⟩::os) l W :=
 opV (W':=W.alloc (.cells cs.toArray T)) (v:=.pointer (some ⟨W.heap.size,0,none⟩)) (fun ev he=>by unfold execOp;simp only [];simp [Instr.alloc,newVar,newRow,hz,hcs]) hd (h _ _ (hS.alloc cs T))
theorem qX {P:Program} {W:World} {p:Addr} {c v:Value} (hc:W.cell? p=some c) (hf:W.frozen? p=false) (hv:v.oneCell'=true):(store p v).run P W = .ok () (W.setCell p v):=by
 rw [run_store P W p v .plain hv,hc];simp [hf]
theorem fU {P:Program} {B:Nat} {U:TypeId}:∀ (vs:List Value) (j k:Nat) (W:World) (cs:List Value),W.heap[B]?=some (.cells cs.toArray U (0,0))→k+j+vs.length≤cs.length→(∀ u∈vs,u.oneCell'=true) →
  (storeCells ⟨B,k,none⟩ vs j).run P W = .ok () (setMany W B (k+j) vs)
 | [],j,k,W,cs,_,_,_=>by simp [storeCells,setMany]
 | v::r,j,k,W,cs,h,hl,h1=>by
  have hj':k+j < cs.length:=by simp at hl;omega
  have hc:W.cell? ⟨B,k+j,none⟩=some cs[k+j]:=aD h (by simp [hj'])
  have hfz:=pQ (j:=k+j) h
  have ih:=fU (P:=P) r (j+1) k (W.setCell ⟨B,k+j,none⟩ v) (cs.set (k+j) v) (heap_set v h) (by simp at hl ⊢;omega) (fun u hu=>h1 u (List.mem_cons_of_mem _ hu))
  have hv:=h1 v List.mem_cons_self
  unfold setMany
  rw [show k+j+1=k+(j+1) by omega]
  rw [← ih]
  have hst:=qX (P:=P) hc hfz hv
  simp only [storeCells,Addr.add_lit,Sem.run_bind,hst,Result.andThen_ok]
theorem bL {T U:TypeId} {x y:Operand} {B j i:Nat} {cs cs':List Value} {O':Own} (hS:St w0 O G K W) (hsz:∀ w,(sizeOf T).run P w = .ok 1 w) (hx:evL l x=some (.pointer (some ⟨B,j,none⟩))) (hy:evL l y=some v) (hv:v.oneCell'=true) (hi:O[i]?=some (B,cs,U)) (hj:Nat.blt j cs.length=true)
  (hcs:cs.set j v=cs') (hO:O.set i (B,cs',U)=O') (h:∀ W',St w0 O' G K W'→cJ P n ops Q os l W'):cJ P n ops Q (⟨none,.store T x y,ty,pos,aft,none⟩::os) l W:=fun a ha=>by
 refine wpList_plain rfl fun K' hK=>?_
 unfold Oper.wp execOp
 simp only []
 rw [ha.ev x _ hx,ha.ev y _ hy]
 subst hcs;subst hO
 have hj':j < cs.length:=Nat.le_of_ble_eq_true hj
 have hc:W.cell? ⟨B,j,none⟩=some cs[j]:=aD (hS.at_ i hi) (by simp [hj'])
 have hfz:=pQ (j:=j) (hS.at_ i hi)
 have h2:=h _ (hS.set i hi j v)
 have hcells:v.cells=#[v]:=by cases v<;>first | rfl | cases hv
 have hst:=fU (P:=P) [v] 0 j W cs (hS.at_ i hi) (by simp;omega) (fun u hu=>by simp at hu;subst hu;exact hv)
 simp only [Nat.add_zero,Go.Proofs.Ytghmbejblbnjjaa.setMany] at hst
 have:(Instr.storeAt T (.pointer (some ⟨B,j,none⟩)) v).run P W = .ok () (W.setCell ⟨B,j,none⟩ v):=by
  simp [Instr.storeAt,Instr.sureAddr,storeVar,hsz,hcells,hst]
 simp only [Sem.run_bind,this,Result.andThen_ok,Sem.run_pure,Oper.upon_skip]
 exact hK _ _ (h2 _ ha)
theorem bU {T U:TypeId} {x y:Operand} {B j i:Nat} {cs cs' vs:List Value} {O':Own} (hS:St w0 O G K W) (hsz:∀ w,(sizeOf T).run P w = .ok vs.length w) (hx:evL l x=some (.pointer (some ⟨B,j,none⟩))) (hy:evL l y=some (.agg vs.toArray)) (hv:vs.all Value.oneCell'=true) (hi:O[i]?=some (B,cs,U)) (hj:Nat.ble (j+vs.length) cs.length=true)
  (hcs:fR cs j vs=cs') (hO:O.set i (B,cs',U)=O') (h:∀ W',St w0 O' G K W'→cJ P n ops Q os l W'):cJ P n ops Q (⟨none,.store T x y,ty,pos,aft,none⟩::os) l W:=fun a ha=>by
 refine wpList_plain rfl fun K' hK=>?_
 unfold Oper.wp execOp
 simp only []
 rw [ha.ev x _ hx,ha.ev y _ hy]
 subst hcs;subst hO
 have hj':j+vs.length≤cs.length:=Nat.le_of_ble_eq_true hj
 have h2:=h _ (hS.setMany i vs j hi)
 have hst:=fU (P:=P) vs 0 j W cs (hS.at_ i hi) (by omega) (fun u hu=>List.all_eq_true.1 hv u hu)
 rw [Nat.add_zero] at hst
 have:(Instr.storeAt T (.pointer (some ⟨B,j,none⟩)) (.agg vs.toArray)).run P W = .ok () (Go.Proofs.Ytghmbejblbnjjaa.setMany W B j vs):=by
  simp [Instr.storeAt,Instr.sureAddr,storeVar,hsz,Value.cells,hst]
 simp only [Sem.run_bind,this,Result.andThen_ok,Sem.run_pure,Oper.upon_skip]
 exact hK _ _ (h2 _ ha)
theorem bA {T:TypeId} {x:Operand} {b o f k:Nat} (hF:∀ w b o,(Instr.fieldAt T (.pointer (some ⟨b,o,none⟩)) f).run P w = .ok (.pointer (some ⟨b,o+k,none⟩)) w) (hx:evL l x=some (.pointer (some ⟨b,o,none⟩))) {o':Nat} (ho:o+k=o'):dT P l ⟨some d,.fieldAddr T x f,ty,pos,aft,none⟩ W (.pointer (some ⟨b,o',none⟩)) W:=fun ev he=>by subst ho;unfold execOp;simp only [];rw [he x _ hx];simp [hF]
theorem aU {T:TypeId} {x:Operand} {b o f k:Nat} (hF:∀ w b o,(Instr.fieldAt T (.pointer (some ⟨b,o,none⟩)) f).run P w = .ok (.pointer (some ⟨b,o+k,none⟩)) w) (hx:evL l x=some (.pointer (some ⟨b,o,none⟩))) {o':Nat} (ho:o+k=o') (hd:Nat.blt d n=true) (h:cJ P n ops Q os ((d,.pointer (some ⟨b,o',none⟩))::l) W):cJ P n ops Q (⟨some d,.fieldAddr T x f,ty,pos,aft,none⟩::os) l W:=opV (bA hF hx ho) hd h
theorem bE {T e:TypeId} {x y:Operand} {b o m c j k:Nat} {ki:IntKind} {i:Int} (hU:P.underlying T=some (.slice e)) (hS:∀ w,(sizeOf e).run P w = .ok k w) (hx:evL l x=some (.slice (some ⟨b,o,none⟩) m c)) (hy:evL l y=some (.int ki i)) (hi:i=(j:Int)) (hj:j < m) {o':Nat} (ho:o+j * k=o'):dT P l ⟨some d,.indexAddr T x y,ty,pos,aft,none⟩ W (.pointer (some ⟨b,o',none⟩)) W:=fun ev he=>by
  subst ho;subst hi
  unfold execOp;simp only [];rw [he x _ hx,he y _ hy]
  have h0:(0:Int)≤(j:Int):=by omega
  have h1:(j:Int) < (m:Int):=by omega
  simp [Instr.indexAt,asIntOf,run_underlying hU,h0,h1,hS,hj,Addr.add_lit]
theorem aX {T e:TypeId} {x y:Operand} {b o m c j k:Nat} {ki:IntKind} {i:Int} (hU:P.underlying T=some (.slice e)) (hS:∀ w,(sizeOf e).run P w = .ok k w) (hx:evL l x=some (.slice (some ⟨b,o,none⟩) m c)) (hy:evL l y=some (.int ki i)) (hi:i=(j:Int)) (hj:j < m) {o':Nat} (ho:o+j * k=o') (hd:Nat.blt d n=true) (h:cJ P n ops Q os ((d,.pointer (some ⟨b,o',none⟩))::l) W):cJ P n ops Q (⟨some d,.indexAddr T x y,ty,pos,aft,none⟩::os) l W:=opV (bE hU hS hx hy hi hj ho) hd h
theorem op_call {f:FuncId} {args:Array Operand} {ts:Array TypeId} {vs:List Value} {R:Ending→World→Prop} (hS:St w0 O G K W) (hgo:cC P f=true) (ha:args.toList.map (evL l)=vs.map some) (hc:Calls P f vs.toArray W R)
  (hd:Nat.blt d n=true)
  (h:∀ e W',R e W'→∃ v,e = .returned v∧Below W.heap.size W W'∧(St w0 O G ((W.heap.size,W')::K) W'→cJ P n ops Q os ((d,v)::l) W')):cJ P n ops Q (⟨some d,.call { callee:=.value (.func f),args:=args,argTypes:=ts },ty,pos,aft,none⟩::os) l W:=fun a hl=>by
 refine wpList_plain rfl fun K' hK=>?_
 unfold Oper.wp
 rw [mV P a.eval W f args ts _ rfl rfl hgo,Oper.upon_enter]
 have hargs:args.map a.eval=vs.toArray:=by
  have key:∀ (xs:List Operand) (us:List Value),xs.map (evL l)=us.map some→xs.map a.eval=us:=by
   intro xs
   induction xs with
   | nil=>intro us h;cases us<;>simp at h ⊢
   | cons x xs ih =>
    intro us h
    cases us with
    | nil=>simp at h
    | cons u us =>
     simp only [List.map_cons,List.cons.injEq] at h
     simp only [List.map_cons,hl.ev x u h.1,ih us h.2]
  apply Array.ext'
  rw [Array.toList_map,key _ _ ha]
 rw [hargs]
 refine hc.mono ?_
 intro e W' hRe
 obtain ⟨v,rfl,hb,hn⟩:=h e W' hRe
 exact hK _ _ (hn (hS.call hb) _ (hl.put hd))
theorem dX {f:FuncId} {args:Array Operand} {ts:Array TypeId} {vs:List Value} {u:Value} (hS:St w0 O G K W) (hgo:cC P f=true) (ha:args.toList.map (evL l)=vs.map some) (hc:Calls P f vs.toArray W fun e w'=>e = .returned u∧Below W.heap.size W w')
  (hd:Nat.blt d n=true) (h:∀ W',St w0 O G ((W.heap.size,W')::K) W'→cJ P n ops Q os ((d,u)::l) W'):cJ P n ops Q (⟨some d,.call { callee:=.value (.func f),args:=args,argTypes:=ts },ty,pos,aft,none⟩::os) l W :=
 op_call hS hgo ha hc hd fun _ W' hR=>⟨u,hR.1,hR.2,h W'⟩
theorem cR {t e:TypeId} {x y:Operand} {i:Nat} {g:GR} {b o m c:Nat} {news:List Value} {inf:TypeInfo} {z:Value} (hS:St w0 O G K W) (hU:P.underlying t=some (.slice e)) (hinf:P.info? e=some inf) (hz:inf.zero=some z) (hzs:z.cells.size=inf.size) (hsz:0 < inf.size)
  (hi:G[i]?=some g) (he:g.e=e) (hgs:g.size=inf.size) (hx:evL l x=some g.v) (hy:evL l y=some (.slice (some ⟨b,o,none⟩) m c)) (hc:aT W b o news) (hl:news.length=m * inf.size) (h1:news.all Value.oneCell'=true)
  (h63:g.n+m≤maxLen) (hbytes:(g.n+m) * inf.bytes≤140737488355328) (hd:Nat.blt d n=true)
  (h:∀ v' W',St w0 O (G.set i ⟨v',g.n+m,g.xs++news,e,g.size⟩) K W'→cJ P n ops Q os ((d,v')::l) W') :
  cJ P n ops Q (⟨some d,.call { callee:=.builtin .append,args:=#[x,y],argTypes:=#[t,t] },ty,pos,aft,none⟩::os) l W:=by
 subst he
 have hrow:=hS.row i hi
 rw [hgs] at hrow
 obtain ⟨v',W',hr,h2,h3,h4⟩:=gW (P:=P) (w:=W) w0.heap.size t ty g.e inf z hU hinf hz hzs hsz g.v g.n g.xs hrow ⟨b,o,none⟩ m c news hl (fun j u hj=>by rw [Addr.add_lit];exact hc.get j u hj) (fun u hu=>List.all_eq_true.1 h1 u hu) h63 hbytes hS.below.size
 rw [← hgs] at h2
 refine opV (W':=W') (v:=v') (fun ev hev=>?_) hd (h v' W' (hS.setG i hi h2 h3 h4))
 unfold execOp
 simp only [resolve,invoke,builtin,Sem.run_bind,Sem.run_pure,Result.andThen_ok,List.map_toArray,List.map_cons,List.map_nil,hev x _ hx,hev y _ hy,hr]
end
section
variable {P:Program} {n:Nat} {Q:Exit→Act→World→Prop} {l:Fr} {w0 W:World} {ops:Array Oper} {os:List Oper} {O:Own} {G:bN} {K:List (Nat×World)}
variable {d:Nat} {ty:TypeId} {pos:String} {aft:Array Edge} {v:Value} {t u:TypeId} {x y:Operand} {k:IntKind} {a b:Int}
theorem dW {op:BinOp} {ev:Operand→Value} {r:Value} {p q:Value} (hx:ev x=p) (hy:ev y=q) (hg:(eqGuard op t x y p q).run P W = .ok () W) (h:(binOp op t p q).run P W = .ok r W) :
  (execOp ev ⟨some d,.binOp op t x y u,ty,pos,aft,none⟩).run P W = .ok (.value r) W:=by
 unfold execOp;simp only [hx,hy,Sem.run_bind,hg,Result.andThen_ok,h,Sem.run_pure]
theorem eK {op:BinOp}:(eqGuard op t x y (.int k a) (.int k b)).run P W = .ok () W:=by
 cases op<;>rfl
theorem wF (hx:evL l x=some (.int k a)) (hy:evL l y=some (.int k b)):dT P l ⟨some d,.binOp .lss t x y u,ty,pos,aft,none⟩ W (.bool (decide (a < b))) W:=fun ev he=>dW (he x _ hx) (he y _ hy) eK (by simp [binOp,Op.intCmp])
theorem cH (hx:evL l x=some (.int k a)) (hy:evL l y=some (.int k b)) (hd:Nat.blt d n=true) (h:cJ P n ops Q os ((d,.bool (decide (a < b)))::l) W):cJ P n ops Q (⟨some d,.binOp .lss t x y u,ty,pos,aft,none⟩::os) l W:=opV (wF hx hy) hd h
theorem rn_leq (hx:evL l x=some (.int k a)) (hy:evL l y=some (.int k b)):dT P l ⟨some d,.binOp .leq t x y u,ty,pos,aft,none⟩ W (.bool (decide (a≤b))) W:=fun ev he=>dW (he x _ hx) (he y _ hy) eK (by simp [binOp,Op.intCmp])
theorem sC (hx:evL l x=some (.int k a)) (hy:evL l y=some (.int k b)) (hd:Nat.blt d n=true) (h:cJ P n ops Q os ((d,.bool (decide (a≤b)))::l) W):cJ P n ops Q (⟨some d,.binOp .leq t x y u,ty,pos,aft,none⟩::os) l W:=opV (rn_leq hx hy) hd h
theorem rn_gtr (hx:evL l x=some (.int k a)) (hy:evL l y=some (.int k b)):dT P l ⟨some d,.binOp .gtr t x y u,ty,pos,aft,none⟩ W (.bool (decide (b < a))) W:=fun ev he=>dW (he x _ hx) (he y _ hy) eK (by simp [binOp,Op.intCmp])
theorem gS (hx:evL l x=some (.int k a)) (hy:evL l y=some (.int k b)) (hd:Nat.blt d n=true) (h:cJ P n ops Q os ((d,.bool (decide (b < a)))::l) W):cJ P n ops Q (⟨some d,.binOp .gtr t x y u,ty,pos,aft,none⟩::os) l W:=opV (rn_gtr hx hy) hd h
theorem rn_geq (hx:evL l x=some (.int k a)) (hy:evL l y=some (.int k b)):dT P l ⟨some d,.binOp .geq t x y u,ty,pos,aft,none⟩ W (.bool (decide (b≤a))) W:=fun ev he=>dW (he x _ hx) (he y _ hy) eK (by simp [binOp,Op.intCmp])
theorem sD (hx:evL l x=some (.int k a)) (hy:evL l y=some (.int k b)) (hd:Nat.blt d n=true) (h:cJ P n ops Q os ((d,.bool (decide (b≤a)))::l) W):cJ P n ops Q (⟨some d,.binOp .geq t x y u,ty,pos,aft,none⟩::os) l W:=opV (rn_geq hx hy) hd h
theorem rn_eql (hx:evL l x=some (.int k a)) (hy:evL l y=some (.int k b)):dT P l ⟨some d,.binOp .eql t x y u,ty,pos,aft,none⟩ W (.bool (decide (a=b))) W:=fun ev he=>dW (he x _ hx) (he y _ hy) eK (by simp [binOp,Op.intCmp];rfl)
theorem fD (hx:evL l x=some (.int k a)) (hy:evL l y=some (.int k b)) (hd:Nat.blt d n=true) (h:cJ P n ops Q os ((d,.bool (decide (a=b)))::l) W):cJ P n ops Q (⟨some d,.binOp .eql t x y u,ty,pos,aft,none⟩::os) l W:=opV (rn_eql hx hy) hd h
theorem kN (hx:evL l x=some (.int k a)) (hy:evL l y=some (.int k b)):dT P l ⟨some d,.binOp .neq t x y u,ty,pos,aft,none⟩ W (.bool (decide (a≠b))) W:=fun ev he=>dW (he x _ hx) (he y _ hy) eK (by simp [binOp,Op.intCmp];by_cases h:a=b<;>simp [h])
theorem dR (hx:evL l x=some (.int k a)) (hy:evL l y=some (.int k b)) (hd:Nat.blt d n=true) (h:cJ P n ops Q os ((d,.bool (decide (a≠b)))::l) W):cJ P n ops Q (⟨some d,.binOp .neq t x y u,ty,pos,aft,none⟩::os) l W:=opV (kN hx hy) hd h
theorem rn_eqlB {p q:Bool} (hB:P.underlying t=some .bool) (hx:evL l x=some (.bool p)) (hy:evL l y=some (.bool q)):dT P l ⟨some d,.binOp .eql t x y u,ty,pos,aft,none⟩ W (.bool (p == q)) W:=fun ev he=>dW (he x _ hx) (he y _ hy) rfl (run_eql_bool W t p q hB)
theorem op_eqlB {p q:Bool} (hB:P.underlying t=some .bool) (hx:evL l x=some (.bool p)) (hy:evL l y=some (.bool q)) (hd:Nat.blt d n=true) (h:cJ P n ops Q os ((d,.bool (p == q))::l) W):cJ P n ops Q (⟨some d,.binOp .eql t x y u,ty,pos,aft,none⟩::os) l W:=opV (rn_eqlB hB hx hy) hd h
theorem xY {p q:Bool} (hB:P.underlying t=some .bool) (hx:evL l x=some (.bool p)) (hy:evL l y=some (.bool q)):dT P l ⟨some d,.binOp .neq t x y u,ty,pos,aft,none⟩ W (.bool (!(p == q))) W:=fun ev he=>dW (he x _ hx) (he y _ hy) rfl (run_neq_bool W t p q hB)
theorem iB {c:Int} (hx:evL l x=some (.int k a)) (hy:evL l y=some (.int k b)) (hw:k.wrap (a+b)=c):dT P l ⟨some d,.binOp .add t x y u,ty,pos,aft,none⟩ W (.int k c) W:=fun ev he=>by subst hw;exact dW (he x _ hx) (he y _ hy) eK (by simp [binOp,Op.intArith])
theorem bY {c:Int} (hx:evL l x=some (.int k a)) (hy:evL l y=some (.int k b)) (hw:k.wrap (a+b)=c) (hd:Nat.blt d n=true) (h:cJ P n ops Q os ((d,.int k c)::l) W):cJ P n ops Q (⟨some d,.binOp .add t x y u,ty,pos,aft,none⟩::os) l W:=opV (iB hx hy hw) hd h
theorem rn_sub {c:Int} (hx:evL l x=some (.int k a)) (hy:evL l y=some (.int k b)) (hw:k.wrap (a - b)=c):dT P l ⟨some d,.binOp .sub t x y u,ty,pos,aft,none⟩ W (.int k c) W:=fun ev he=>by subst hw;exact dW (he x _ hx) (he y _ hy) eK (by simp [binOp,Op.intArith])
theorem mI {c:Int} (hx:evL l x=some (.int k a)) (hy:evL l y=some (.int k b)) (hw:k.wrap (a - b)=c) (hd:Nat.blt d n=true) (h:cJ P n ops Q os ((d,.int k c)::l) W):cJ P n ops Q (⟨some d,.binOp .sub t x y u,ty,pos,aft,none⟩::os) l W:=opV (rn_sub hx hy hw) hd h
theorem wG {c:Int} (hx:evL l x=some (.int k a)) (hy:evL l y=some (.int k b)) (hw:k.wrap (a * b)=c):dT P l ⟨some d,.binOp .mul t x y u,ty,pos,aft,none⟩ W (.int k c) W:=fun ev he=>by subst hw;exact dW (he x _ hx) (he y _ hy) eK (by simp [binOp,Op.intArith])
theorem nV {c:Int} (hx:evL l x=some (.int k a)) (hy:evL l y=some (.int k b)) (hw:k.wrap (a * b)=c) (hd:Nat.blt d n=true) (h:cJ P n ops Q os ((d,.int k c)::l) W):cJ P n ops Q (⟨some d,.binOp .mul t x y u,ty,pos,aft,none⟩::os) l W:=opV (wG hx hy hw) hd h
theorem mJ {ev:Operand→Value} (he:∀ x u,evL l x=some u→ev x=u):∀ (xs:List (Nat×Operand)) (us:List (Nat×Value)),xs.map (fun p=>(p.1,evL l p.2))=us.map (fun p=>(p.1,some p.2))→xs.map (fun p=>(p.1,ev p.2))=us
 | [],us,h=>by cases us<;>simp at h ⊢
 | x::xs,us,h=>by
  cases us with
  | nil=>simp at h
  | cons u us =>
   simp only [List.map_cons,List.cons.injEq,Prod.mk.injEq] at h
   obtain ⟨⟨h1,h2⟩,h3⟩:=h
   simp only [List.map_cons,he _ _ h2,h1,mJ he xs us h3]
theorem uD {T:TypeId} {xs:List (Nat×Operand)} {us:List (Nat×Value)} {cs:Array Value} (hp:xs.map (fun p=>(p.1,evL l p.2))=us.map (fun p=>(p.1,some p.2))) (hb:P.built T us=some cs):dT P l ⟨some d,.build T xs.toArray,ty,pos,aft,none⟩ W (.agg cs) W:=fun ev he=>by
  have h1:=mJ he xs us hp
  have h2:(Array.map (fun p=>(p.1,ev p.2)) xs.toArray)=us.toArray:=by simp [h1]
  have h3:=run_build W T us.toArray cs (P:=P) (by simpa using hb)
  unfold execOp
  simp only []
  rw [h2]
  simp [h3]
theorem dP {T:TypeId} {xs:List (Nat×Operand)} {us:List (Nat×Value)} {cs:Array Value} (hp:xs.map (fun p=>(p.1,evL l p.2))=us.map (fun p=>(p.1,some p.2))) (hb:P.built T us=some cs) (hd:Nat.blt d n=true) (h:cJ P n ops Q os ((d,.agg cs)::l) W):cJ P n ops Q (⟨some d,.build T xs.toArray,ty,pos,aft,none⟩::os) l W:=opV (uD hp hb) hd h
theorem bK {T e:TypeId} {m s:Nat} {xs:List (Nat×Operand)} {us:List (Nat×Value)} {z:Value} {cs:List Value} (hS:St w0 O G K W) (hU:P.underlying T=some (.slice e)) (hs:∀ w,(sizeOf e).run P w = .ok s w) (hz:∀ w,(zeroValue e).run P w = .ok z w)
  (hm:Nat.ble (m * s) 16777216=true) (hm0:Nat.beq (m * s) 0=false) (hp:xs.map (fun p=>(p.1,evL l p.2))=us.map (fun p=>(p.1,some p.2)))
  (hf:Instr.fill (fun i=>some (i * s,s)) ((Array.range (m * s)).map (z.cells[· % z.cells.size]!)) us=some cs.toArray) (hd:Nat.blt d n=true)
  (h:∀ B W',St w0 ((B,cs,e)::O) G K W'→cJ P n ops Q os ((d,.slice (some ⟨B,0,none⟩) m m)::l) W'):cJ P n ops Q (⟨some d,.buildSlice T m xs.toArray,ty,pos,aft,none⟩::os) l W :=
 opV (W':=W.alloc (.cells cs.toArray e)) (v:=.slice (some ⟨W.heap.size,0,none⟩) m m) (fun ev he=>by
  have h1:=mJ he xs us hp
  have h2:(Array.map (fun p=>(p.1,ev p.2)) xs.toArray)=us.toArray:=by simp [h1]
  have h4:m * s≤16777216:=Nat.le_of_ble_eq_true hm
  have h5:m * s≠0:=fun e=>by rw [e] at hm0;cases hm0
  have h6:¬ (m * s > 2 ^ 24):=by omega
  unfold execOp
  simp only []
  rw [h2]
  simp only [Instr.buildSlice,Sem.run_bind,run_underlying hU,Result.andThen_ok,hs,if_neg h6,if_neg h5,hz,Sem.run_pure,hf,newRow,run_newObj_alloc]) hd (h _ _ (hS.alloc cs e))
theorem eX {T e:TypeId} {inf:TypeInfo} {z:Value} {m:Nat} {i1 i2:Int} {k2:IntKind} {cs:List Value} (hS:St w0 O G K W) (hU:P.underlying T=some (.slice e)) (hinf:P.info? e=some inf) (hz:inf.zero=some z) (hx:evL l x=some (.int k i1)) (hy:evL l y=some (.int k2 i2)) (h1:i1=(m:Int)) (h2:i2=(m:Int))
  (hcs:madeCells z.cells (m * inf.size)=cs.toArray) (hb:(inf.bytes:Int) * m≤281474976710656) (h63:(m:Int)≤9223372036854775807) (hd:Nat.blt d n=true)
  (h:∀ B W',St w0 ((B,cs,e)::O) G K W'→cJ P n ops Q os ((d,.slice (some ⟨B,0,none⟩) m m)::l) W'):cJ P n ops Q (⟨some d,.makeSlice T x y,ty,pos,aft,none⟩::os) l W :=
 opV (W':=W.alloc (.cells cs.toArray e)) (v:=.slice (some ⟨W.heap.size,0,none⟩) m m) (fun ev he=>by
  subst h1;subst h2
  have hr:=run_make (P:=P) W T e inf z hU hinf hz k k2 m m (by omega) (by omega) hb h63
  rw [Int.toNat_natCast,hcs] at hr
  unfold execOp;simp only [];rw [he x _ hx,he y _ hy]
  simp only [Sem.run_bind,hr,Result.andThen_ok,Sem.run_pure]) hd (h _ _ (hS.alloc cs e))
theorem pS {fn:Func} {r:Nat} {T:TypeId} {B o:Nat} {vs:List Value} (hf:fn.results=#[.cell r T]) (hT:∀ w,(isAgg T).run P w = .ok true w) (hS:∀ w,(sizeOf T).run P w = .ok vs.length w) (hl:dO l r=some (.pointer (some ⟨B,o,none⟩))) (hc:aT W B o vs) :
  ∀ a,Has n l a→(results fn a.tmps).run P W = .ok (.agg vs.toArray) W:=fun a ha=>by
 have h1:=run_loadCells_list (P:=P) W ⟨B,o,none⟩ vs (fun j u hj=>by rw [Addr.add_lit];exact hc.get j u hj)
 have h2:=ha.at_ r _ hl
 rw [Array.getD_eq_getD_getElem?] at h2
 simp [results,hf,h2,asAddr,loadVar,hT,hS,h1]
theorem gX {fn:Func} {r t:Nat} {T:TypeId} {B o:Nat} {vs:List Value} {x:Value} (hf:fn.results=#[.cell r T,.tmp t]) (hT:∀ w,(isAgg T).run P w = .ok true w) (hS:∀ w,(sizeOf T).run P w = .ok vs.length w) (hl:dO l r=some (.pointer (some ⟨B,o,none⟩))) (hc:aT W B o vs) (hx:dO l t=some x) :
  ∀ a,Has n l a→(results fn a.tmps).run P W = .ok (.tuple #[.agg vs.toArray,x]) W:=fun a ha=>by
 have h1:=run_loadCells_list (P:=P) W ⟨B,o,none⟩ vs (fun j u hj=>by rw [Addr.add_lit];exact hc.get j u hj)
 have h2:=ha.at_ r _ hl
 have h3:=ha.at_ t _ hx
 rw [Array.getD_eq_getD_getElem?] at h2 h3
 simp [results,hf,h2,h3,asAddr,loadVar,hT,hS,h1]
end
section
variable {P:Program} {n:Nat} {Q:Exit→Act→World→Prop} {l:Fr} {w0 W:World} {ops:Array Oper} {os:List Oper} {O:Own} {G:bN} {K:List (Nat×World)} {L:List Asr} {i:Nat}
def RG (P:Program) (n:Nat) (ops:Array Oper) (Q:Exit→Act→World→Prop) (l:Fr) (W:World) (L:List Asr) (i:Nat):Prop:=∀ a,Has n l a→RS P ops Q a.tmps W L i
def zU (P:Program) (n:Nat) (ops:Array Oper) (Q:Exit→Act→World→Prop) (l:Fr) (W:World) (L:List Asr):Nat→Nat→Prop
 | 0,_=>True
 | m+1,k=>RG P n ops Q l W L k∧zU P n ops Q l W L m (k+1)
theorem nW {a:Act} (ha:Has n l a):∀ {m k:Nat},zU P n ops Q l W L m k→mU (RS P ops Q a.tmps W L) m k
 | 0,_,_=>trivial
 | m+1,k,h=>⟨h.1 a ha,nW ha h.2⟩
def OpG (n:Nat) (ops:Array Oper) (l:Fr) (L:List Asr) (i t:Nat) (p:Asr):Prop:=∀ a,Has n l a→OpI ops a.tmps L i (.tmp t) p
theorem g_fr {t:Nat} {v:Value} (hf:freeT ops t=true) (hv:dO l t=some v):OpG n ops l L i t (isV v):=fun a ha=>opF hf (ha.at_ t v hv)
theorem cD {t:Nat} {v:Value} (hv:dO l t=some v) (hf:freeT ops t=true:=by kernel_rfl):OpG n ops l L i t (isV v):=g_fr hf hv
theorem g_dep (j:Nat) {t:Nat} {p:Asr} (hw:bG ops i j t=true) (hL:atI L j=p):OpG n ops l L i t p:=fun a ha=>opD j t hw hL
theorem aJ (j:Nat) {t:Nat} {p:Asr} (hL:atI L j=p) (hw:bG ops i j t=true:=by kernel_rfl):OpG n ops l L i t p:=g_dep j hw hL
def qY (n:Nat) (ops:Array Oper) (l:Fr) (L:List Asr) (i:Nat):Fr→Prop
 | []=>True
 | p::r=>OpG n ops l L i p.1 (isV p.2)∧qY n ops l L i r
theorem jQ {t0:Act} (h0:Has n l t0) {a:Act} {w:World} (hF:∀ t,freeT ops t=true→a.eval (.tmp t)=t0.tmps.getD t undef) (hD:∀ j d,bG ops i j d=true→atI L j (a.eval (.tmp d)) w) :
  ∀ {li:Fr},qY n ops l L i li→∀ x u,evL li x=some u→a.eval x=u:=by
 have key:∀ {li:Fr},qY n ops l L i li→∀ t v,dO li t=some v→a.eval (.tmp t)=v:=by
  intro li
  induction li with
  | nil=>intro _ t v h;cases h
  | cons p r ih =>
   intro h t v hv
   unfold dO at hv
   cases hb:Nat.beq p.1 t with
   | true =>
    simp only [hb,cond_true,Option.some.injEq] at hv
    rw [← Nat.eq_of_beq_eq_true hb,← hv]
    exact h.1 t0 h0 a w hF hD
   | false =>
    simp only [hb,cond_false] at hv
    exact ih h.2 t v hv
 intro li hli x u hx
 cases x with
 | tmp t=>exact key hli t u hx
 | const c=>exact Option.some.inj hx
 | global g=>exact Option.some.inj hx
 | func f=>exact Option.some.inj hx
theorem gJ (ev:Operand→Value) (dst:Option Tmp) (op:Op) (ty:TypeId) (pos pos':String) (aft aft':Array Edge) (g g':Option (Nat×Bool)):execOp ev ⟨dst,op,ty,pos,aft,g⟩=execOp ev ⟨dst,op,ty,pos',aft',g'⟩:=by unfold execOp;rfl
variable {d:Nat} {op:Op} {ty:TypeId} {pos:String} {aft:Array Edge} {v:Value} {gd:Option (Nat×Bool)}
theorem rgV (li:Fr) (hi:ops[i]?=some ⟨some d,op,ty,pos,aft,gd⟩) (hw:gP ops L i ⟨some d,op,ty,pos,aft,gd⟩) (hli:qY n ops l L i li) (hr:∀ w,Below W.heap.size W w→dT P li ⟨some d,op,ty,pos,#[],none⟩ w v w) (hI:atI L i=isV v):RG P n ops Q l W L i :=
 fun a ha=>tY hi hw fun b w hF hG hD=>⟨v,w,by rw [gJ b.eval _ _ _ _ pos _ #[] _ none];exact hr w hG b.eval (jQ ha hF hD hli),by rw [hI];rfl,Below.refl _ _⟩
theorem uE (li:Fr) {v':Value} (hi:ops[i]?=some ⟨some d,op,ty,pos,aft,gd⟩) (hw:gP ops L i ⟨some d,op,ty,pos,aft,gd⟩) (hli:qY n ops l L i li) (hr:∀ w,Below W.heap.size W w→dT P li ⟨some d,op,ty,pos,#[],none⟩ w v w) (he:v=v') (hI:atI L i=isV v'):RG P n ops Q l W L i:=by
 subst he;exact rgV li hi hw hli hr hI
theorem gF (hi:ops[i]?=some ⟨some d,op,ty,pos,aft,gd⟩) (hw:jP ops L i ⟨some d,op,ty,pos,aft,gd⟩) (hI:atI L i=isV undef):RG P n ops Q l W L i:=fun a ha=>st_none hi hw hI
theorem aL {o:Oper} (h:o.guard=none):gP ops L i o:=.inl h
theorem w_yes {o:Oper} {g:Nat} {b:Bool} (d:Nat) (h:o.guard=some (g,b)) (hd:(ops[g]?).bind (·.dst)=some d) (hw:bG ops i g d=true) (hL:atI L g=isV (.bool b)):gP ops L i o:=.inr ⟨g,b,d,h,hd,hw,hL⟩
theorem eL {o:Oper} {g:Nat} {b:Bool} (d:Nat) (h:o.guard=some (g,b)) (hL:atI L g=isV (.bool b)) (hd:(ops[g]?).bind (·.dst)=some d:=by kernel_rfl) (hw:bG ops i g d=true:=by kernel_rfl):gP ops L i o:=w_yes d h hd hw hL
theorem w_no {o:Oper} {g:Nat} {b c:Bool} (d:Nat) (h:o.guard=some (g,b)) (hd:(ops[g]?).bind (·.dst)=some d) (hw:bG ops i g d=true) (hL:atI L g=isV (.bool c)) (hc:(c == b)=false):jP ops L i o:=.inl ⟨g,b,c,d,h,hd,hw,hL,hc⟩
theorem gG {o:Oper} {g:Nat} {b c:Bool} (d:Nat) (h:o.guard=some (g,b)) (hL:atI L g=isV (.bool c)) (hc:(c == b)=false) (hd:(ops[g]?).bind (·.dst)=some d:=by kernel_rfl) (hw:bG ops i g d=true:=by kernel_rfl):jP ops L i o:=w_no d h hd hw hL hc
def wH (n:Nat) (ops:Array Oper) (l:Fr) (L:List Asr) (i:Nat):List Operand→List Asr→Prop
 | [],[]=>True
 | x::xs,p::ps=>(∀ a,Has n l a→OpI ops a.tmps L i x p)∧wH n ops l L i xs ps
 | _,_=>False
def rF:List Asr→List Value→World→Prop
 | [],[],_=>True
 | p::ps,v::vs,w=>p v w∧rF ps vs w
 | _,_,_=>False
theorem eN {t:Nat} {p:Asr} (h:OpG n ops l L i t p):∀ a,Has n l a→OpI ops a.tmps L i (.tmp t) p:=h
theorem xZ {c:Value}:∀ a,Has n l a→OpI ops a.tmps L i (.const c) (isV c):=fun a ha=>opC
theorem iT {t0:Act} (h0:Has n l t0) {a:Act} {w:World} (hF:∀ t,freeT ops t=true→a.eval (.tmp t)=t0.tmps.getD t undef) (hD:∀ j d,bG ops i j d=true→atI L j (a.eval (.tmp d)) w) :
  ∀ {xs:List Operand} {ps:List Asr},wH n ops l L i xs ps→rF ps (xs.map a.eval) w
 | [],[],_=>trivial
 | x::xs,p::ps,h=>⟨h.1 t0 h0 a w hF hD,iT h0 hF hD h.2⟩
 | [],_::_,h=>h.elim
 | _::_,[],h=>h.elim
theorem lK {f:FuncId} {xs:List Operand} {ts:Array TypeId} (ps:List Asr) (hi:ops[i]?=some ⟨some d,.call { callee:=.value (.func f),args:=xs.toArray,argTypes:=ts },ty,pos,aft,gd⟩) (hgo:cC P f=true)
  (hw:gP ops L i ⟨some d,.call { callee:=.value (.func f),args:=xs.toArray,argTypes:=ts },ty,pos,aft,gd⟩) (hp:wH n ops l L i xs ps)
  {p:Asr} (hc:∀ vs w,Below W.heap.size W w→rF ps vs w→Calls P f vs.toArray w (Az p w)) (hI:atI L i=p):RG P n ops Q l W L i :=
 fun a ha=>st_call hi rfl hgo hw fun b w hF hG hD=>by
  have:=hc (xs.map b.eval) w hG (iT ha hF hD hp)
  subst hI
  rwa [show (xs.map b.eval).toArray=xs.toArray.map b.eval by simp] at this
theorem rg_row {T e:TypeId} {m s:Nat} {xs:List (Nat×Operand)} {z:Value} (ps:List Asr) (hi:ops[i]?=some ⟨some d,.buildSlice T m xs.toArray,ty,pos,aft,gd⟩) (hw:gP ops L i ⟨some d,.buildSlice T m xs.toArray,ty,pos,aft,gd⟩)
  (hU:P.underlying T=some (.slice e)) (hs:∀ w,(sizeOf e).run P w = .ok s w) (hz:∀ w,(zeroValue e).run P w = .ok z w) (hm:Nat.ble (m * s) 16777216=true) (hm0:Nat.beq (m * s) 0=false) (hp:wH n ops l L i (xs.map (·.2)) ps)
  (hf:∀ vs w,Below W.heap.size W w→rF ps vs w→∃ cs:List Value,Instr.fill (fun i=>some (i * s,s)) ((Array.range (m * s)).map (z.cells[· % z.cells.size]!)) ((xs.map (·.1)).zip vs)=some cs.toArray ∧
   ∀ B w',w.heap.size=B→w'.heap[B]?=some (.cells cs.toArray e (0,0))→Below w.heap.size w w'→atI L i (.slice (some ⟨B,0,none⟩) m m) w'):RG P n ops Q l W L i :=
 fun a ha=>tY hi hw fun b w hF hG hD=>by
  obtain ⟨cs,h1,h2⟩:=hf _ w hG (iT ha hF hD hp)
  have h4:m * s≤16777216:=Nat.le_of_ble_eq_true hm
  have h5:m * s≠0:=fun e=>by rw [e] at hm0;cases hm0
  have h6:¬ (m * s > 2 ^ 24):=by omega
  have h7:((xs.map (·.1)).zip ((xs.map (·.2)).map b.eval))=xs.map (fun p=>(p.1,b.eval p.2)):=by
   clear hi hw hp h1 hf h2
   induction xs with
   | nil=>rfl
   | cons x xs ih=>simp only [List.map_cons,List.zip_cons_cons,ih]
  rw [h7] at h1
  have hB:Below w.heap.size w (w.alloc (.cells cs.toArray e)):=(Below.refl _ _).alloc (Nat.le_refl _) _
  refine ⟨_,w.alloc (.cells cs.toArray e),?_,h2 _ _ rfl (heap_alloc_new w _) hB,hB⟩
  unfold execOp
  simp only []
  rw [show (Array.map (fun p=>(p.1,b.eval p.2)) xs.toArray)=(xs.map (fun p=>(p.1,b.eval p.2))).toArray by simp]
  simp only [Instr.buildSlice,Sem.run_bind,run_underlying hU,Result.andThen_ok,hs,if_neg h6,if_neg h5,hz,Sem.run_pure,h1,newRow,run_newObj_alloc]
def iE:List Oper→List Asr→Fr→(Fr→World→Prop)→World→Prop
 | [],_,l,K,W=>K l W
 | o::os,L,l,K,W=>∀ v,atI L 0 v W→iE os L.tail ((match o.dst with | some d=>[(d,v)] | none=>[])++l) K W
theorem aI {c:Value} {K:Fr→World→Prop} {dst:Nat} {op:Op} {ty:TypeId} {pos:String} {aft:Array Edge} {g:Option (Nat×Bool)} (h:iE os L ((dst,c)::l) K W):iE (⟨some dst,op,ty,pos,aft,g⟩::os) (isV c::L) l K W:=fun v hv=>by
 have:v=c:=hv
 subst this;exact h
theorem eO {p:Asr} {K:Fr→World→Prop} {dst:Nat} {op:Op} {ty:TypeId} {pos:String} {aft:Array Edge} {g:Option (Nat×Bool)} (h:∀ v,p v W→iE os L ((dst,v)::l) K W):iE (⟨some dst,op,ty,pos,aft,g⟩::os) (p::L) l K W:=fun v hv=>h v hv
theorem cN {K:Fr→World→Prop} (h:K l W):iE [] L l K W:=h
theorem kO (L:List Asr) (i:Nat):atI L.tail i=atI L (i+1):=by cases L<;>rfl
theorem mW {a:Act} {K:Fr→World→Prop} {G:Prop}:∀ (os:List Oper) (L:List Asr) (l:Fr),(∀ i d,i < os.length→(os[i]?).bind (·.dst)=some d→atI L i (a.tmps.getD d undef) W)→a.tmps.size=n→a.defers=[] →
  (∀ t v,dO l t=some v→(∀ o∈os,o.dst≠some t)→a.tmps.getD t undef=v)→(∀ o∈os,∃ d,o.dst=some d)→(hK:∀ l',K l' W→Has n l' a→G)→iE os L l K W→G
 | [],L,l,hI,hs,hd,hl,_,hK,h=>hK l h ⟨hs,hd,fun t v hv=>hl t v hv (fun o ho=>by cases ho)⟩
 | o::os,L,l,hI,hs,hd,hl,hdst,hK,h=>by
  obtain ⟨d,hod⟩:=hdst o List.mem_cons_self
  have h0:=hI 0 d (by simp) (by simp [hod])
  have h1:=h _ h0
  refine mW os L.tail _ (fun i e hi he=>by rw [kO];exact hI (i+1) e (by simpa using hi) (by simpa using he)) hs hd ?_ (fun o ho=>hdst o (List.mem_cons_of_mem _ ho)) hK h1
  intro t v hv hno
  rw [hod] at hv
  simp only [List.cons_append,List.nil_append] at hv
  unfold dO at hv
  cases hb:Nat.beq d t with
  | true =>
   simp only [hb,cond_true,Option.some.injEq] at hv
   rw [← Nat.eq_of_beq_eq_true hb];exact hv
  | false =>
   simp only [hb,cond_false] at hv
   refine hl t v hv (fun o' ho'=>?_)
   rcases List.mem_cons.1 ho' with rfl | ho'
   ·rw [hod];intro e;rw [Option.some.inj e,Nat.beq_refl] at hb;cases hb
   ·exact hno o' ho'
theorem regD {id:Nat} (hm:P.follows .mixedOrders=true) (L:List Asr) (hS:St w0 O G K W) (ht:dG os.toArray n=true) (hdst:os.all (fun o=>o.dst.isSome)=true) {m:Nat} (hlen:os.length=m)
  (hstep:zU P n os.toArray Q l W L m 0) (hst:kK L)
  (hfin:∀ W',Below W.heap.size W W'→St w0 O G ((W.heap.size,W')::K) W'→iE os L l (fun l' W'=>XF Q .normal n l' W') W'):dS P n (.region id os.toArray true) Q l W:=fun a ha=>by
 subst hlen
 refine oU hm L (by rw [ha.size];exact ht) hst (by have:=nW ha hstep;simpa using this) ?_
 intro a' W' hs hd hf hG hI
 refine mW os L l (fun i d hi hd'=>hI i d (by simpa using hi) (by simpa using hd')) (hs.trans ha.size) (hd.trans ha.defers) ?_ (fun o ho=>?_) (fun l' h ha'=>h a' ha') (hfin W' hG (hS.call hG))
 ·intro t v hv hno
  rw [hf t (by unfold freeT;rw [Array.all_eq_true'];intro o ho;simpa using hno o (by simpa using ho))]
  exact ha.at_ t v hv
 ·have:=List.all_eq_true.1 hdst o ho
  exact Option.isSome_iff_exists.1 this
theorem regDL {id:Nat} {o:Oper} (hm:P.follows .mixedOrders=true) (L:List Asr) (hS:St w0 O G K W) (hl:jN (os++[o]).toArray os.length=true) (ht:dG (os++[o]).toArray n=true) (hdst:os.all (fun o=>o.dst.isSome)=true) (hfree:∀ d,o.dst=some d→dO l d=none)
  (hstep:zU P n (os++[o]).toArray Q l W L os.length 0) (hst:kK L)
  (hfin:∀ W',Below W.heap.size W W'→St w0 O G ((W.heap.size,W')::K) W'→iE os L l (fun l' W'=>cJ P n (os++[o]).toArray Q [o] l' W') W'):dS P n (.region id (os++[o]).toArray true) Q l W:=fun a ha=>by
 refine kM hm os.length L hl (by rw [ha.size];exact ht) hst (nW ha hstep) ?_
 intro a' W' hs hd hf hG hI
 have hk:((os++[o]).toArray)[os.length]?=some o:=by simp
 refine mW os L l (fun i d hi hd'=>hI i d hi (by simp [List.getElem?_append_left hi];simpa using hd')) (hs.trans ha.size) (hd.trans ha.defers) ?_ (fun o ho=>?_) (fun l' h ha'=>?_) (hfin W' hG (hS.call hG))
 ·intro t v hv hno
  rw [hf t (by
   unfold freeT;rw [Array.all_eq_true'];intro o' ho'
   have:o'∈os++[o]:=by simpa using ho'
   rcases List.mem_append.1 this with h1 | h1
   ·simpa using hno o' h1
   ·simp only [List.mem_singleton] at h1
    subst h1
    cases hx:o'.dst with
    | none=>simp
    | some d=>simp;intro e;subst e;rw [hfree d hx] at hv;cases hv)]
  exact ha.at_ t v hv
 ·have:=List.all_eq_true.1 hdst o ho
  exact Option.isSome_iff_exists.1 this
 ·have h1:=h a' ha'
  unfold wpOp
  rw [hk]
  exact h1
theorem regDK {id:Nat} {o:Oper} (hm:P.follows .mixedOrders=true) (L:List Asr) (k:Nat) (hS:St w0 O G K W) (hk:os[k]?=some o) (hlen:os.length=k+1) (hl:jN os.toArray k=true) (ht:dG os.toArray n=true) (hdst:(os.take k).all (fun o=>o.dst.isSome)=true) (hfree:∀ d,o.dst=some d→dO l d=none)
  (hstep:zU P n os.toArray Q l W L k 0) (hst:kK L)
  (hfin:∀ W',Below W.heap.size W W'→St w0 O G ((W.heap.size,W')::K) W'→iE (os.take k) L l (fun l' W'=>cJ P n os.toArray Q [o] l' W') W'):dS P n (.region id os.toArray true) Q l W:=by
 have e:os=os.take k++[o]:=by
  apply List.ext_getElem?
  intro j
  by_cases hj:j < k
  ·rw [List.getElem?_append_left (by simp;omega),List.getElem?_take,if_pos hj]
  ·by_cases hj2:j=k
   ·subst hj2;rw [List.getElem?_append_right (by simp;omega),hk];simp [show min j os.length=j by omega]
   ·rw [List.getElem?_eq_none (by omega),List.getElem?_eq_none (by simp;omega)]
 have hkl:(os.take k).length=k:=by simp;omega
 generalize hg:os.take k=os1 at *
 subst hkl
 subst e
 exact regDL hm L hS hl ht hdst hfree hstep hst hfin
def fQ (lo m:Nat) (e:TypeId) (cs:List Value):Asr:=fun v w=>∃ B,v = .slice (some ⟨B,0,none⟩) m m∧lo≤B∧w.heap[B]?=some (.cells cs.toArray e (0,0))
theorem iU {lo m:Nat} {e:TypeId} {cs:List Value}:lW (fQ lo m e cs):=fun v w w' ⟨B,h1,h2,h3⟩ hb=>⟨B,h1,h2,(hb.block B (dF h3)).trans h3⟩
theorem eP:∀ {us vs:List Value} {w:World},rF (us.map isV) vs w→vs=us
 | [],[],_,_=>rfl
 | u::us,v::vs,w,h=>by rw [eP h.2];congr 1;exact h.1
 | [],_::_,_,h=>h.elim
 | _::_,[],_,h=>h.elim
theorem mX {T e:TypeId} {m s:Nat} {xs:List (Nat×Operand)} {us:List Value} {z:Value} {cs:List Value} (hi:ops[i]?=some ⟨some d,.buildSlice T m xs.toArray,ty,pos,aft,gd⟩) (hw:gP ops L i ⟨some d,.buildSlice T m xs.toArray,ty,pos,aft,gd⟩)
  (hU:P.underlying T=some (.slice e)) (hs:∀ w,(sizeOf e).run P w = .ok s w) (hz:∀ w,(zeroValue e).run P w = .ok z w) (hm:Nat.ble (m * s) 16777216=true) (hm0:Nat.beq (m * s) 0=false) (hp:wH n ops l L i (xs.map (·.2)) (us.map isV))
  (hf:Instr.fill (fun i=>some (i * s,s)) ((Array.range (m * s)).map (z.cells[· % z.cells.size]!)) ((xs.map (·.1)).zip us)=some cs.toArray) (hI:atI L i=fQ W.heap.size m e cs):RG P n ops Q l W L i :=
 rg_row (us.map isV) hi hw hU hs hz hm hm0 hp fun vs w hb hh=>by
  rw [eP hh]
  exact ⟨cs,hf,fun B w' hB h1 h2=>by rw [hI];exact ⟨B,rfl,by rw [← hB];exact hb.size,h1⟩⟩
theorem lL:∀ (L:List Asr) (i:Nat),i < L.length→some (atI L i)=L[i]?
 | [],i,h=>by simp at h
 | p::L,0,_=>rfl
 | p::L,i+1,h=>by rw [List.getElem?_cons_succ];exact lL L i (by simpa using h)
theorem aG {p:Asr} {Lr:List Asr} (h:Lr.length=i):atI (p::Lr).reverse i=p:=by
 have:=lL (p::Lr).reverse i (by simp;omega)
 rw [List.getElem?_reverse (by simp;omega)] at this
 simp only [List.length_cons,h,show i+1 - 1 - i=0 by omega,List.getElem?_cons_zero,Option.some.injEq] at this
 exact this
theorem aC {Lr:List Asr} {j:Nat} {p:Asr} (h:Lr.length=i+1) (hj:Nat.ble j i=true) (hL:atI Lr (i - j)=p):atI Lr.reverse j=p:=by
 have hj':j≤i:=Nat.le_of_ble_eq_true hj
 have h1:=lL Lr.reverse j (by simp;omega)
 rw [List.getElem?_reverse (by omega)] at h1
 have h2:=lL Lr (i - j) (by omega)
 rw [show Lr.length - 1 - j=i - j by omega,← h2,hL] at h1
 exact Option.some.inj h1
theorem RG.ext {L1 L2:List Asr} (ht:dG ops n=true) (hag:∀ j,j≤i→atI L1 j=atI L2 j) (h:RG P n ops Q l W L1 i):RG P n ops Q l W L2 i:=fun a ha=>by
 have h1:=h a ha
 intro b w hF hG hD
 have hlt:∀ j d,bG ops i j d=true→j < i:=fun j d hw=>by
  cases ho:ops[i]? with
  | none=>simp [bG,ho] at hw
  | some o =>
   simp only [bG,ho,Bool.and_eq_true,beq_iff_eq] at hw
   obtain ⟨e,he,h2⟩:=Array.any_eq_true'.1 hw.1
   simp only [Bool.and_eq_true,beq_iff_eq] at h2
   rw [← h2.1];exact iQ ht ho e he h2.2
 have h2:=h1 b w hF hG (fun j d hw=>by rw [hag j (Nat.le_of_lt (hlt j d hw))];exact hD j d hw)
 rw [hag i (Nat.le_refl _)] at h2
 exact h2
def BL (P:Program) (n:Nat) (ops:Array Oper) (Q:Exit→Act→World→Prop) (l:Fr) (W:World) (Goal:List Asr→Prop):Nat→List Asr→Nat→Prop
 | 0,Lr,_=>Goal Lr
 | m+1,Lr,k=>∃ p,lW p∧RG P n ops Q l W (p::Lr).reverse k∧BL P n ops Q l W Goal m (p::Lr) (k+1)
variable {Goal:List Asr→Prop}
theorem dJ {Lr:List Asr} {k:Nat} (h:Goal Lr):BL P n ops Q l W Goal 0 Lr k:=h
theorem aZ {m k:Nat} {Lr:List Asr} (k':Nat) (hk:k+1=k') (p:Asr) (hs:lW p) (h:RG P n ops Q l W (p::Lr).reverse k) (hr:BL P n ops Q l W Goal m (p::Lr) k'):BL P n ops Q l W Goal (m+1) Lr k:=by
 subst hk;exact ⟨p,hs,h,hr⟩
theorem bl_f {m k:Nat} {Lr:List Asr} {x u:Value} (k':Nat) (hk:k+1=k') (t:Nat) (hi:ops[k]?=some ⟨some d,op,ty,pos,aft,none⟩) (hf:freeT ops t=true) (hv:dO l t=some u) (hr:∀ w,Below W.heap.size W w→dT P [(t,u)] ⟨some d,op,ty,pos,#[],none⟩ w x w) (hl:Lr.length=k) (h:BL P n ops Q l W Goal m (isV x::Lr) k'):BL P n ops Q l W Goal (m+1) Lr k :=
 aZ k' hk (isV x) (aW x) (rgV [(t,u)] hi (aL rfl) ⟨g_fr hf hv,trivial⟩ hr (aG hl)) h
theorem bR {m k:Nat} {Lr:List Asr} {x u:Value} (k':Nat) (hk:k+1=k') (t:Nat) (hi:ops[k]?=some ⟨some d,op,ty,pos,aft,none⟩) (hv:dO l t=some u) (hr:∀ w,Below W.heap.size W w→dT P [(t,u)] ⟨some d,op,ty,pos,#[],none⟩ w x w) (hl:Lr.length=k) (h:BL P n ops Q l W Goal m (isV x::Lr) k') (hf:freeT ops t=true:=by kernel_rfl):BL P n ops Q l W Goal (m+1) Lr k:=bl_f k' hk t hi hf hv hr hl h
theorem bl_d {m k:Nat} {Lr:List Asr} {x u:Value} (k':Nat) (hk:k+1=k') (t j:Nat) (hi:ops[k]?=some ⟨some d,op,ty,pos,aft,none⟩) (hw:bG ops k j t=true) (hj:Nat.ble j k=true) (hL:atI (isV x::Lr) (k - j)=isV u) (hr:∀ w,Below W.heap.size W w→dT P [(t,u)] ⟨some d,op,ty,pos,#[],none⟩ w x w) (hl:Lr.length=k) (h:BL P n ops Q l W Goal m (isV x::Lr) k'):BL P n ops Q l W Goal (m+1) Lr k :=
 aZ k' hk (isV x) (aW x) (rgV [(t,u)] hi (aL rfl) ⟨g_dep j hw (aC (by rw [List.length_cons,hl]) hj hL),trivial⟩ hr (aG hl)) h
theorem bF {m k:Nat} {Lr:List Asr} {x u:Value} (k':Nat) (hk:k+1=k') (t j:Nat) (hi:ops[k]?=some ⟨some d,op,ty,pos,aft,none⟩) (hj:Nat.ble j k=true) (hL:atI (isV x::Lr) (k - j)=isV u) (hr:∀ w,Below W.heap.size W w→dT P [(t,u)] ⟨some d,op,ty,pos,#[],none⟩ w x w) (hl:Lr.length=k) (h:BL P n ops Q l W Goal m (isV x::Lr) k') (hw:bG ops k j t=true:=by kernel_rfl):BL P n ops Q l W Goal (m+1) Lr k:=bl_d k' hk t j hi hw hj hL hr hl h
theorem iV:∀ {L:List Asr},(∀ p∈L,lW p)→kK L
 | [],_=>trivial
 | p::L,h=>⟨h p List.mem_cons_self,iV fun q hq=>h q (List.mem_cons_of_mem _ hq)⟩
theorem iW {A B:List Asr} {j:Nat} (h:j < A.length):atI (A++B) j=atI A j:=by
 have h1:=lL (A++B) j (by simp;omega)
 have h2:=lL A j h
 rw [List.getElem?_append_left h,← h2] at h1
 exact Option.some.inj h1
theorem wJ (ht:dG ops n=true):∀ (m k:Nat) (Lr:List Asr),Lr.length=k→(∀ p∈Lr,lW p)→(∀ i,i < k→RG P n ops Q l W Lr.reverse i)→BL P n ops Q l W Goal m Lr k →
  ∃ Lr',Lr'.length=k+m∧(∀ p∈Lr',lW p)∧(∀ i,i < k+m→RG P n ops Q l W Lr'.reverse i)∧Goal Lr'
 | 0,k,Lr,hl,hs,hg,h=>⟨Lr,hl,hs,hg,h⟩
 | m+1,k,Lr,hl,hs,hg,⟨p,hp,hr,hn⟩=>by
  obtain ⟨L',h1,h2,h3,h4⟩:=wJ ht m (k+1) (p::Lr) (by simp [hl]) (fun q hq=>by
   rcases List.mem_cons.1 hq with rfl | hq
   ·exact hp
   ·exact hs q hq) (fun i hi=>by
   by_cases hik:i=k
   ·subst hik;exact hr
   ·refine RG.ext ht (fun j hj=>?_) (hg i (by omega))
    rw [List.reverse_cons,iW (by simp;omega)]) hn
  exact ⟨L',by omega,h2,fun i hi=>h3 i (by omega),h4⟩
theorem sE {L:List Asr}:∀ (m k:Nat),(∀ i,i < k+m→RG P n ops Q l W L i)→zU P n ops Q l W L m k
 | 0,_,_=>trivial
 | m+1,k,h=>⟨h k (by omega),sE m (k+1) fun i hi=>h i (by omega)⟩
theorem iF {id:Nat} {m:Nat} (hm:P.follows .mixedOrders=true) (hS:St w0 O G K W) (ht:dG os.toArray n=true) (hdst:os.all (fun o=>o.dst.isSome)=true) (hlen:os.length=m)
  (h:BL P n os.toArray Q l W (fun Lr=>∀ W',Below W.heap.size W W'→St w0 O G ((W.heap.size,W')::K) W'→iE os Lr.reverse l (fun l' W'=>XF Q .normal n l' W') W') m [] 0):dS P n (.region id os.toArray true) Q l W:=by
 obtain ⟨Lr,h1,h2,h3,h4⟩:=wJ ht m 0 [] rfl (fun p hp=>by cases hp) (fun i hi=>by omega) h
 exact regD hm Lr.reverse hS ht hdst hlen (sE m 0 (by simpa using h3)) (iV fun p hp=>h2 p (List.mem_reverse.1 hp)) h4
theorem yA {id:Nat} {o:Oper} (hm:P.follows .mixedOrders=true) (k:Nat) (hS:St w0 O G K W) (hk:os[k]?=some o) (hlen:os.length=k+1) (hl:jN os.toArray k=true) (ht:dG os.toArray n=true) (hdst:(os.take k).all (fun o=>o.dst.isSome)=true) (hfree:∀ d,o.dst=some d→dO l d=none)
  (h:BL P n os.toArray Q l W (fun Lr=>∀ W',Below W.heap.size W W'→St w0 O G ((W.heap.size,W')::K) W'→iE (os.take k) Lr.reverse l (fun l' W'=>cJ P n os.toArray Q [o] l' W') W') k [] 0):dS P n (.region id os.toArray true) Q l W:=by
 obtain ⟨Lr,h1,h2,h3,h4⟩:=wJ ht k 0 [] rfl (fun p hp=>by cases hp) (fun i hi=>by omega) h
 exact regDK hm Lr.reverse k hS hk hlen hl ht hdst hfree (sE k 0 (by simpa using h3)) (iV fun p hp=>h2 p (List.mem_reverse.1 hp)) h4
end
section
variable {β:Option Nat} {w w' w'' W:World} {p:Asr} {v c:Value}
def GB (W:World) (β:Option Nat) (w:World):Prop:=Below W.heap.size W w∧∀ B,β=some B→W.heap.size≤B∧B < w.heap.size
end
section
variable {P:Program} {n:Nat} {Q:Exit→Act→World→Prop} {l:Fr} {w0 W:World} {ops:Array Oper} {os:List Oper} {O:Own} {G:bN} {K:List (Nat×World)} {L:List Asr} {i:Nat}
variable {d:Nat} {op:Op} {ty:TypeId} {pos:String} {aft:Array Edge} {v:Value} {gd:Option (Nat×Bool)}
def G2 (W:World) (B:Nat) (cs:List Value) (T:TypeId) (w:World):Prop:=GB W (some B) w∧w.heap[B]?=some (.cells cs.toArray T (0,0))
theorem zV (W':World) {B lo:Nat} (hB:B≤W'.heap.size):∃ A1:World,A1.heap.size=B∧gI lo A1 W':=by
 refine ⟨{ W' with heap:=W'.heap.extract 0 B },by simp;omega,by simp;omega,fun b _ hb=>?_⟩
 have hb':b < (W'.heap.extract 0 B).size:=hb
 simp at hb'
 show W'.heap[b]?=(W'.heap.extract 0 B)[b]?
 rw [Array.getElem?_extract,if_pos (by omega),Nat.zero_add]
def anyA:Asr:=fun _ _=>True
theorem nX:lW anyA:=fun _ _ _ _ _=>trivial
variable {Goal:List Asr→Prop}
end
section
variable {P:Program} {n:Nat} {Q:Exit→Act→World→Prop} {l:Fr} {w0 W:World} {ops:Array Oper} {os:List Oper} {O:Own} {G:bN} {K:List (Nat×World)} {L L2:List Asr} {i:Nat}
theorem sF {k:Nat} {dn:Nat→Bool} {t0:Array Value} {d0:List Deferred} {G:World→Prop} {I:Nat→Value→World→Prop} (hl:jN ops k=true) (ht:dG ops t0.size=true) (hst:∀ i v w w',G w→I i v w→Below w.heap.size w w'→I i v w')
  (hstep:∀ i,i < k→dn i=false→fH P ops Q t0 G I i) (hfin:qV ops t0 d0 G I k (wpOp P ops Q k (Q .normal))) :
  ∀ (fuel:Nat) (L:Array Bool) (a:Act) (w:World),L.size=ops.size→L.getD k true=false→(∀ i,dn i=true→L.getD i false=true)→L.toList.count false≤fuel→RInv ops t0 d0 G I L a w→wpAny P .any ops Q fuel L a w:=by
 simp only [jN,Bool.and_eq_true,decide_eq_true_eq] at hl
 obtain ⟨hk,hl⟩:=hl
 have cnt:∀ (L:Array Bool) i,L.getD i true=false→L.toList[i]?=some false:=fun L i h1=>by
  rw [Array.getD_eq_getD_getElem?] at h1
  rw [Array.getElem?_toList]
  cases hL:L[i]? with
  | none=>rw [hL] at h1;cases h1
  | some b=>rw [hL] at h1;simpa using h1
 intro fuel
 induction fuel with
 | zero =>
  intro L a w hs hlk hlp hc h
  have:=eI _ _ (cnt L k hlk)
  omega
 | succ fuel ih =>
  intro L a w hs hlk hlp hc h
  refine ⟨fun hr=>?_,fun i hi=>?_⟩
  ·rw [fL ht hs hr k (by omega)] at hlk
   cases hlk
  ·obtain ⟨h1,o,ho,hdep⟩:=mem_ready.1 hi
   have his:i < ops.size:=(Array.getElem?_eq_some_iff.1 ho).1
   have hc1:=eI _ _ (cnt L i h1)
   have hip:dn i=false:=by
    cases hd:dn i with
    | false=>rfl
    | true =>
     have h3:=hlp i hd
     have h2:=cnt L i h1
     rw [Array.getElem?_toList] at h2
     rw [Array.getD_eq_getD_getElem?,h2] at h3
     cases h3
   by_cases hik:i=k
   ·subst hik
    simp only [ho] at hl
    have hall:∀ j,j < i→L.getD j false=true:=fun j hj=>by
     have:=List.all_eq_true.1 hl j (List.mem_range.2 hj)
     obtain ⟨e,he,h2⟩:=Array.any_eq_true'.1 this
     simp only [Bool.and_eq_true,beq_iff_eq] at h2
     have:=hdep e he h2.2
     rw [h2.1] at this
     exact this
    refine wpOp_mono ?_ (hfin a w h.size h.defers h.frame h.glob fun j d hj hd=>h.done j d hd (hall j hj))
    intro a' w' hq
    have hnil:Region.ready .any ops (L.setIfInBounds i true)=[]:=by
     cases hr:Region.ready .any ops (L.setIfInBounds i true) with
     | nil=>rfl
     | cons j rest =>
      have hj:j∈Region.ready .any ops (L.setIfInBounds i true):=by rw [hr];exact List.mem_cons_self
      obtain ⟨h5,o',ho',_⟩:=mem_ready.1 hj
      have hjs:j < ops.size:=(Array.getElem?_eq_some_iff.1 ho').1
      by_cases hji:j=i
      ·subst hji
       rw [Array.getD_eq_getD_getElem?,Array.getElem?_eq_getElem (by simpa using (by omega:j < L.size))] at h5
       simp at h5
      ·rw [getD_set_ne true (Ne.symm hji)] at h5
       have h6:=hall j (by omega)
       rw [Array.getD_eq_getD_getElem?] at h5 h6
       rw [Array.getElem?_eq_getElem (by omega)] at h5 h6
       simp at h5 h6
       rw [h5] at h6
       cases h6
    cases fuel with
    | zero=>exact ⟨hnil,hq⟩
    | succ fuel=>exact ⟨fun _=>hq,by rw [hnil];simp⟩
   ·refine wpOp_mono ?_ (hstep i (by omega) hip a w h.frameE h.glob (h.deps hi))
    rintro a' w' ⟨⟨v,rfl,hI⟩,hG,hB⟩
    refine ih _ _ _ (by simpa using hs) (by rw [getD_set_ne true hik];exact hlk) (fun j hj=>?_) ?_ (h.next ht h1 hst hI hG hB)
    ·have hij:i≠j:=fun e=>by subst e;rw [hip] at hj;cases hj
     rw [getD_set_ne false hij];exact hlp j hj
    ·rw [Array.toList_setIfInBounds]
     omega
def aft (ops:Array Oper) (j:Nat):List Nat:=match ops[j]? with | some o=>(o.after.toList.filter fun e=>Region.binds .any e).map (·.on) | none=>[]
def earlyL (ops:Array Oper) (p:Nat):List Nat:=(List.range p).reverse.foldl (fun S j=>bif S.contains j then aft ops j++S else S) (aft ops p)
theorem gT {p:Nat} {D:Nat→Prop} (h0:∀ x∈aft ops p,D x) (hc:∀ j,D j→∀ x∈aft ops j,D x):∀ x∈earlyL ops p,D x:=by
 have key:∀ (js S:List Nat),(∀ x∈S,D x)→∀ x∈js.foldl (fun S j=>bif S.contains j then aft ops j++S else S) S,D x:=by
  intro js
  induction js with
  | nil=>intro S h;exact h
  | cons j js ih =>
   intro S h
   refine ih _ ?_
   show ∀ x∈(bif S.contains j then aft ops j++S else S),D x
   cases hj:S.contains j with
   | false=>exact h
   | true =>
    intro x hx
    rw [cond_true] at hx
    rcases List.mem_append.1 hx with hx | hx
    ·exact hc j (h j (List.contains_iff_mem.1 hj)) x hx
    ·exact h x hx
 exact key _ _ h0
theorem jZ {j:Nat} {o:Oper} (ho:ops[j]?=some o) {x:Nat} (hx:x∈aft ops j):∃ e∈o.after,e.on=x∧Region.binds .any e=true:=by
 unfold aft at hx
 rw [ho] at hx
 obtain ⟨e,he,rfl⟩:=List.mem_map.1 hx
 obtain ⟨h1,h2⟩:=List.mem_filter.1 he
 exact ⟨e,Array.mem_toList_iff.1 h1,rfl,h2⟩
def IP (L2:List Asr) (p:Nat) (v':Value) (i:Nat) (v:Value) (w:World):Prop:=(i=p→v=v')∧atI L2 i v w
theorem qZ {k p dp:Nat} {t0:Array Value} {d0:List Deferred} {late:Nat→Bool} {o:Oper} {RA:World→Value→World→Prop} (hl:jN ops k=true) (ht:dG ops t0.size=true) (hst:kK L) (hst2:kK L2) (hpk:p < k) (hp:ops[p]?=some o) (hod:o.dst=some dp) (hog:o.guard=none)
  (hearly:∀ j,j < k→j≠p→late j=false→j∈earlyL ops p)
  (hstep:∀ i,i < k→i≠p→fH P ops Q t0 (fun w=>Below W.heap.size W w) (atI L) i)
  (happ:∀ (a:Act) (w:World),(∀ t,freeT ops t=true→a.eval (.tmp t)=t0.getD t undef)→Below W.heap.size W w→(∀ j d,bG ops p j d=true→atI L j (a.eval (.tmp d)) w)→∃ v w',(execOp a.eval o).run P w = .ok (.value v) w'∧RA w v w')
  (hL2p:atI L2 p=anyA) (hpure:∀ i,i < k→i≠p→∀ v w w',atI L i v w→atI L2 i v w')
  (hlate:∀ v' W2 i,i < k→i≠p→late i=true→fH P ops Q t0 (fun w=>w=W2) (IP L2 p v') i)
  (hfin:∀ A v' W2,Below W.heap.size W A→RA A v' W2→qV ops t0 d0 (fun w=>w=W2) (IP L2 p v') k (wpOp P ops Q k (Q .normal))) :
  ∀ (fuel:Nat) (LB:Array Bool) (a:Act) (w:World),LB.size=ops.size→LB.getD k true=false→LB.toList.count false≤fuel→LB.getD p true=false→(∀ j,LB.getD j false=true→∀ x∈aft ops j,LB.getD x false=true)→RInv ops t0 d0 (fun w=>Below W.heap.size W w) (atI L) LB a w→wpAny P .any ops Q fuel LB a w:=by
 have hl0:=hl
 simp only [jN,Bool.and_eq_true,decide_eq_true_eq] at hl
 obtain ⟨hk,hl⟩:=hl
 have cnt:∀ (L:Array Bool) i,L.getD i true=false→L.toList[i]?=some false:=fun L i h1=>by
  rw [Array.getD_eq_getD_getElem?] at h1
  rw [Array.getElem?_toList]
  cases hL:L[i]? with
  | none=>rw [hL] at h1;cases h1
  | some b=>rw [hL] at h1;simpa using h1
 intro fuel
 induction fuel with
 | zero =>
  intro LB a w hs hlk hc hlp hcl h
  have:=eI _ _ (cnt LB k hlk)
  omega
 | succ fuel ih =>
  intro LB a w hs hlk hc hlp hcl h
  refine ⟨fun hr=>?_,fun i hi=>?_⟩
  ·rw [fL ht hs hr k (by omega)] at hlk
   cases hlk
  ·obtain ⟨h1,o',ho,hdep⟩:=mem_ready.1 hi
   have his:i < ops.size:=(Array.getElem?_eq_some_iff.1 ho).1
   have hc1:=eI _ _ (cnt LB i h1)
   by_cases hik:i=k
   ·subst hik
    simp only [ho] at hl
    have:=List.all_eq_true.1 hl p (List.mem_range.2 hpk)
    obtain ⟨e,he,h2⟩:=Array.any_eq_true'.1 this
    simp only [Bool.and_eq_true,beq_iff_eq] at h2
    have h3:=hdep e he h2.2
    rw [h2.1] at h3
    have h4:=cnt LB p hlp
    rw [Array.getElem?_toList] at h4
    rw [Array.getD_eq_getD_getElem?,h4] at h3
    cases h3
   ·by_cases hip:i=p
    ·subst hip
     rw [hp] at ho
     have ho':=(Option.some.inj ho).symm
     subst ho'
     obtain ⟨v',w',hr,hRA⟩:=happ a w h.frameE h.glob (h.deps hi)
     have step:wpOp P ops Q i (fun a2 w2=>a2=a.put (some dp) v'∧w2=w') a w:=by
      unfold wpOp
      simp only [hp,dV hog,if_true]
      refine .inl ?_
      unfold Oper.wp
      rw [hr]
      exact ⟨by rw [hod],rfl⟩
     refine wpOp_mono ?_ step
     rintro a2 w2 ⟨rfl,rfl⟩
     have hdst:(ops[i]?).bind (·.dst)=some dp:=by rw [hp];exact hod
     refine sF (t0:=t0) (d0:=d0) (dn:=fun j=>decide (j=i) || (decide (j < k) && !late j)) (G:=fun w=>w=w2) (I:=IP L2 i v') hl0 ht ?_ ?_ (hfin _ _ _ h.glob hRA) fuel _ _ _ (by simpa using hs) (by rw [getD_set_ne true hik];exact hlk) ?_ ?_ ?_
     ·rintro j v w1 w3 _ ⟨h5,h6⟩ hb
      exact ⟨h5,iR hst2 _ _ _ _ h6 hb⟩
     ·intro j hj hd
      simp only [Bool.or_eq_false_iff,decide_eq_false_iff_not,Bool.and_eq_false_iff,Bool.not_eq_false'] at hd
      refine hlate v' w2 j hj hd.1 ?_
      rcases hd.2 with h5 | h5
      ·exact absurd hj h5
      ·exact h5
     ·intro j hd
      simp only [Bool.or_eq_true,decide_eq_true_eq,Bool.and_eq_true,Bool.not_eq_true'] at hd
      by_cases hji:j=i
      ·subst hji
       rw [Array.getD_eq_getD_getElem?,Array.getElem?_setIfInBounds_self_of_lt (by omega)];rfl
      ·rcases hd with hd | ⟨hd1,hd2⟩
       ·exact absurd hd hji
       ·rw [getD_set_ne false (Ne.symm hji)]
        refine gT (D:=fun x=>LB.getD x false=true) (fun x hx=>?_) (fun j hj x hx=>hcl j hj x hx) j (hearly j hd1 hji hd2)
        obtain ⟨e,he,h5,h6⟩:=jZ hp hx
        have h7:=hdep e he h6
        rw [h5] at h7
        exact h7
     ·rw [Array.toList_setIfInBounds];omega
     ·refine ⟨by rw [jO];exact h.size,by rw [gQ];exact h.defers,fun t hf=>?_,rfl,fun j d hd hj=>?_⟩
      ·rw [eJ ?_]
       ·exact h.frame t hf
       ·intro e
        have:=Array.all_eq_true'.1 hf _ (Array.mem_of_getElem? hp)
        simp at this
        exact this (hod.trans e)
      ·by_cases hji:j=i
       ·subst hji
        rw [hdst] at hd
        rw [nU hd (by rw [h.size];exact (fS ht (hdst.trans hd)).1)]
        exact ⟨fun _=>rfl,by rw [hL2p];trivial⟩
       ·rw [getD_set_ne false (Ne.symm hji)] at hj
        rw [eJ (fun e=>hji ((fS ht (hdst.trans e)).2 j hd))]
        have hjk:j < k:=by
         obtain ⟨o2,ho2,_⟩:=Option.bind_eq_some_iff.1 hd
         have h5:=(Array.getElem?_eq_some_iff.1 ho2).1
         have h6:j≠k:=fun e=>by
          subst e
          have h4:=cnt LB j hlk
          rw [Array.getElem?_toList] at h4
          rw [Array.getD_eq_getD_getElem?,h4] at hj
          cases hj
         omega
        exact ⟨fun e=>absurd e hji,hpure j hjk hji _ _ _ (h.done j d hd hj)⟩
    ·refine wpOp_mono ?_ (hstep i (by omega) hip a w h.frameE h.glob (h.deps hi))
     rintro a' w' ⟨⟨v,rfl,hI⟩,hG,hB⟩
     refine ih _ _ _ (by simpa using hs) (by rw [getD_set_ne true hik];exact hlk) ?_ (by rw [getD_set_ne true hip];exact hlp) (fun j hj x hx=>?_) (h.next ht h1 (fun i v w w' _ h hb=>iR hst i v w w' h hb) hI hG hB)
     ·rw [Array.toList_setIfInBounds]
      omega
     ·have hx2:LB.getD x false=true:=by
       by_cases hji:j=i
       ·subst hji
        obtain ⟨e,he,h5,h6⟩:=jZ ho hx
        have h7:=hdep e he h6
        rw [h5] at h7
        exact h7
       ·rw [getD_set_ne false (Ne.symm hji)] at hj
        exact hcl j hj x hx
      by_cases hxi:x=i
      ·subst hxi
       rw [Array.getD_eq_getD_getElem?,Array.getElem?_setIfInBounds_self_of_lt (by omega)];rfl
      ·rw [getD_set_ne false (Ne.symm hxi)];exact hx2
def pvL (v:Value) (p:Nat):Nat→List Asr→List Asr
 | _,[]=>[]
 | j,q::L=>(bif Nat.beq j p then isV v else q)::pvL v p (j+1) L
theorem sG {v:Value} {p:Nat}:∀ (L:List Asr) (j i:Nat),i < L.length→atI (pvL v p j L) i=if i+j=p then isV v else atI L i
 | [],j,i,h=>by simp at h
 | q::L,j,0,h=>by
  show (bif Nat.beq j p then isV v else q)=_
  cases hb:Nat.beq j p with
  | true=>rw [if_pos (by rw [Nat.zero_add];exact Nat.eq_of_beq_eq_true hb)];rfl
  | false=>rw [if_neg (by rw [Nat.zero_add];intro e;rw [e,Nat.beq_refl] at hb;cases hb)];rfl
 | q::L,j,i+1,h=>by
  show atI (pvL v p (j+1) L) i=_
  rw [sG L (j+1) i (by simpa using h)]
  by_cases h1:i+(j+1)=p
  ·rw [if_pos h1,if_pos (by omega)]
  ·rw [if_neg h1,if_neg (by omega)];rfl
variable {d:Nat} {op:Op} {ty:TypeId} {pos:String} {aft:Array Edge} {v:Value} {gd:Option (Nat×Bool)}
def RGL (P:Program) (n:Nat) (ops:Array Oper) (Q:Exit→Act→World→Prop) (l:Fr) (L2:List Asr) (p i:Nat):Prop:=∀ v' W2 a,Has n l a→fH P ops Q a.tmps (fun w=>w=W2) (IP L2 p v') i
theorem lgV {p:Nat} (li:Fr) (hi:ops[i]?=some ⟨some d,op,ty,pos,aft,gd⟩) (hw:gP ops L2 i ⟨some d,op,ty,pos,aft,gd⟩) (hli:qY n ops l L2 i li) (hr:∀ w,dT P li ⟨some d,op,ty,pos,#[],none⟩ w v w) (hI:atI L2 i=isV v) (hip:Nat.beq i p=false):RGL P n ops Q l L2 p i :=
 fun v' W2 a ha=>fH.value hi fun b w hF hG hD=>⟨hw.yes (fun j d h=>(hD j d h).2),v,w,by rw [gJ b.eval _ _ _ _ pos _ #[] _ none];exact hr w b.eval (jQ ha hF (fun j d h=>(hD j d h).2) hli),⟨fun e=>absurd hip (by rw [e,Nat.beq_refl];decide),by rw [hI];rfl⟩,hG,Below.refl _ _⟩
theorem RGL.ext {L1 L2:List Asr} {p:Nat} (ht:dG ops n=true) (hag:∀ j,j≤i→atI L1 j=atI L2 j) (h:RGL P n ops Q l L1 p i):RGL P n ops Q l L2 p i:=fun v' W2 a ha=>by
 have h1:=h v' W2 a ha
 intro b w hF hG hD
 have hlt:∀ j d,bG ops i j d=true→j < i:=fun j d hw=>by
  cases ho:ops[i]? with
  | none=>simp [bG,ho] at hw
  | some o =>
   simp only [bG,ho,Bool.and_eq_true,beq_iff_eq] at hw
   obtain ⟨e,he,h2⟩:=Array.any_eq_true'.1 hw.1
   simp only [Bool.and_eq_true,beq_iff_eq] at h2
   rw [← h2.1];exact iQ ht ho e he h2.2
 have h2:=h1 b w hF hG (fun j d hw=>by unfold IP;rw [hag j (Nat.le_of_lt (hlt j d hw))];exact hD j d hw)
 unfold IP at h2
 rw [hag i (Nat.le_refl _)] at h2
 exact h2
def yB (q q2:Asr):Prop:=∀ v w w',q v w→q2 v w'
theorem A2 {c:Value}:yB (isV c) (isV c):=fun _ _ _ h=>h
theorem uF {q:Asr}:yB q anyA:=fun _ _ _ _=>trivial
def nY (ops:Array Oper) (p j:Nat):Bool:=(earlyL ops p).contains j
def BLP (P:Program) (n:Nat) (ops:Array Oper) (Q:Exit→Act→World→Prop) (l:Fr) (W:World) (p:Nat) (Goal:List Asr→List Asr→Prop):Nat→List Asr→List Asr→Nat→Prop
 | 0,Lr,L2r,_=>Goal Lr L2r
 | m+1,Lr,L2r,k=>∃ q q2,lW q∧lW q2∧yB q q2∧((k=p∧q2=anyA)∨(k≠p∧RG P n ops Q l W (q::Lr).reverse k∧(nY ops p k=true∨RGL P n ops Q l (q2::L2r).reverse p k)))∧BLP P n ops Q l W p Goal m (q::Lr) (q2::L2r) (k+1)
variable {Goal:List Asr→List Asr→Prop}
theorem mY {Lr L2r:List Asr} {k p:Nat} (h:Goal Lr L2r):BLP P n ops Q l W p Goal 0 Lr L2r k:=h
theorem cY {m k p:Nat} {Lr L2r:List Asr} {c:Value} (k':Nat) (hk:k+1=k') (hne:Nat.beq k p=false) (he:nY ops p k=true) (h:RG P n ops Q l W (isV c::Lr).reverse k) (hr:BLP P n ops Q l W p Goal m (isV c::Lr) (isV c::L2r) k'):BLP P n ops Q l W p Goal (m+1) Lr L2r k:=by
 subst hk;exact ⟨isV c,isV c,aW _,aW _,A2,.inr ⟨fun e=>absurd hne (by rw [e,Nat.beq_refl];decide),h,.inl he⟩,hr⟩
theorem uG {m k p:Nat} {Lr L2r:List Asr} (k':Nat) (hk:k+1=k') (hne:Nat.beq k p=false) (he:nY ops p k=true) (q:Asr) (hs:lW q) (h:RG P n ops Q l W (q::Lr).reverse k) (hr:BLP P n ops Q l W p Goal m (q::Lr) (anyA::L2r) k'):BLP P n ops Q l W p Goal (m+1) Lr L2r k:=by
 subst hk;exact ⟨q,anyA,hs,nX,uF,.inr ⟨fun e=>absurd hne (by rw [e,Nat.beq_refl];decide),h,.inl he⟩,hr⟩
theorem iX {m k p:Nat} {Lr L2r:List Asr} {c:Value} (k':Nat) (hk:k+1=k') (hne:Nat.beq k p=false) (h:RG P n ops Q l W (isV c::Lr).reverse k) (h2:RGL P n ops Q l (isV c::L2r).reverse p k) (hr:BLP P n ops Q l W p Goal m (isV c::Lr) (isV c::L2r) k'):BLP P n ops Q l W p Goal (m+1) Lr L2r k:=by
 subst hk;exact ⟨isV c,isV c,aW _,aW _,A2,.inr ⟨fun e=>absurd hne (by rw [e,Nat.beq_refl];decide),h,.inr h2⟩,hr⟩
theorem mZ {m k p:Nat} {Lr L2r:List Asr} (k':Nat) (hk:k+1=k') (hp:k=p) (hr:BLP P n ops Q l W p Goal m (anyA::Lr) (anyA::L2r) k'):BLP P n ops Q l W p Goal (m+1) Lr L2r k:=by
 subst hk;exact ⟨anyA,anyA,nX,nX,uF,.inl ⟨hp,rfl⟩,hr⟩
def BG (P:Program) (n:Nat) (ops:Array Oper) (Q:Exit→Act→World→Prop) (l:Fr) (W:World) (p:Nat) (L L2:List Asr) (i:Nat):Prop:=yB (atI L i) (atI L2 i)∧((i=p∧atI L2 i=anyA)∨(i≠p∧RG P n ops Q l W L i∧(nY ops p i=true∨RGL P n ops Q l L2 p i)))
theorem sH (p:Nat) (ht:dG ops n=true):∀ (m k:Nat) (Lr L2r:List Asr),Lr.length=k→L2r.length=k→(∀ q∈Lr,lW q)→(∀ q∈L2r,lW q)→(∀ i,i < k→BG P n ops Q l W p Lr.reverse L2r.reverse i)→BLP P n ops Q l W p Goal m Lr L2r k →
  ∃ Lr' L2r',Lr'.length=k+m∧L2r'.length=k+m∧(∀ q∈Lr',lW q)∧(∀ q∈L2r',lW q)∧(∀ i,i < k+m→BG P n ops Q l W p Lr'.reverse L2r'.reverse i)∧Goal Lr' L2r'
 | 0,k,Lr,L2r,hl,hl2,hs,hs2,hg,h=>⟨Lr,L2r,hl,hl2,hs,hs2,hg,h⟩
 | m+1,k,Lr,L2r,hl,hl2,hs,hs2,hg,⟨q,q2,hp,hp2,hpu,hr,hn⟩=>by
  obtain ⟨L',L2',h1,h2,h3,h4,h5,h6⟩:=sH p ht m (k+1) (q::Lr) (q2::L2r) (by simp [hl]) (by simp [hl2]) (fun r hq=>by
   rcases List.mem_cons.1 hq with rfl | hq
   ·exact hp
   ·exact hs r hq) (fun r hq=>by
   rcases List.mem_cons.1 hq with rfl | hq
   ·exact hp2
   ·exact hs2 r hq) (fun i hi=>by
   by_cases hik:i=k
   ·subst hik
    refine ⟨by rw [aG hl,aG hl2];exact hpu,?_⟩
    rcases hr with ⟨e1,e2⟩ | hr
    ·exact .inl ⟨e1,by rw [aG hl2];exact e2⟩
    ·exact .inr hr
   ·have hap:∀ j,j≤i→atI Lr.reverse j=atI (q::Lr).reverse j:=fun j hj=>by rw [List.reverse_cons,iW (by simp;omega)]
    have hap2:∀ j,j≤i→atI L2r.reverse j=atI (q2::L2r).reverse j:=fun j hj=>by rw [List.reverse_cons,iW (by simp;omega)]
    obtain ⟨g1,g2⟩:=hg i (by omega)
    refine ⟨by rw [← hap i (Nat.le_refl _),← hap2 i (Nat.le_refl _)];exact g1,?_⟩
    rcases g2 with ⟨e1,e2⟩ | ⟨e1,e2,e3⟩
    ·exact .inl ⟨e1,by rw [← hap2 i (Nat.le_refl _)];exact e2⟩
    ·exact .inr ⟨e1,RG.ext ht hap e2,e3.imp id (RGL.ext ht hap2)⟩) hn
  exact ⟨L',L2',by omega,by omega,h3,h4,fun i hi=>h5 i (by omega),h6⟩
def A3 (m s:Nat) (q:List Value→World→Prop) (py:Asr):Prop:=∀ v w,py v w→∃ b o c cs,v = .slice (some ⟨b,o,none⟩) m c∧aT w b o cs∧cs.length=m * s∧cs.all Value.oneCell'=true∧q cs w
theorem gY {lo m s:Nat} {e:TypeId} {cs:List Value} (hl:Nat.beq cs.length (m * s)=true) (h1:cs.all Value.oneCell'=true):A3 m s (fun xs _=>xs=cs) (fQ lo m e cs):=fun v w ⟨B,hv,_,hc⟩ =>
 ⟨B,0,m,cs,hv,aT.own (j:=0) (m:=cs.length) hc (by simp),Nat.eq_of_beq_eq_true hl,h1,rfl⟩
theorem yC {id dp p k:Nat} {o:Oper} {t e tx tz:TypeId} {inf:TypeInfo} {z:Value} {gi m:Nat} {g:GR} {aftp:Array Edge} (hm:P.follows .mixedOrders=true) (hS:St w0 O G K W) (hk:os[k]?=some o) (hlen:os.length=k+1) (hl:jN os.toArray k=true) (ht:dG os.toArray n=true) (hdst:(os.take k).all (fun o=>o.dst.isSome)=true) (hfree:∀ d,o.dst=some d→dO l d=none)
  (hp:os[p]?=some ⟨some dp,.call { callee:=.builtin .append,args:=#[.tmp tx,.tmp tz],argTypes:=#[t,t] },ty,pos,aftp,none⟩) (hpk:Nat.blt p k=true)
  (hU:P.underlying t=some (.slice e)) (hinf:P.info? e=some inf) (hz:inf.zero=some z) (hzs:z.cells.size=inf.size) (hsz:0 < inf.size)
  (hi:G[gi]?=some g) (he:g.e=e) (hgs:g.size=inf.size) (h63:g.n+m≤maxLen) (hbytes:(g.n+m) * inf.bytes≤140737488355328)
  (h:BLP P n os.toArray Q l W p (fun Lr L2r=>∃ (py:Asr) (q:List Value→World→Prop),OpG n os.toArray l Lr.reverse p tx (isV g.v)∧OpG n os.toArray l Lr.reverse p tz py∧A3 m inf.size q py ∧
   ∀ A v' news W',Below W.heap.size W A→q news A→St w0 O (G.set gi ⟨v',g.n+m,g.xs++news,e,g.size⟩) ((W.heap.size,A)::K) W'→iE (os.take k) (pvL v' p 0 L2r.reverse) l (fun l' W'=>cJ P n os.toArray Q [o] l' W') W') k [] [] 0):dS P n (.region id os.toArray true) Q l W:=by
 obtain ⟨Lr,L2r,h1,h2,h3,h4,h5,py,q,hx,hy,hpy,hfin⟩:=sH p ht k 0 [] [] rfl rfl (fun p hp=>by cases hp) (fun p hp=>by cases hp) (fun i hi=>by omega) h
 have hpk':p < k:=Nat.lt_of_lt_of_le (Nat.lt_succ_self _) (Nat.le_of_ble_eq_true hpk)
 subst he
 rw [Nat.zero_add] at h1 h2 h5
 have hpo:os.toArray[p]?=some ⟨some dp,.call { callee:=.builtin .append,args:=#[.tmp tx,.tmp tz],argTypes:=#[t,t] },ty,pos,aftp,none⟩:=by simpa using hp
 have hko:os.toArray[k]?=some o:=by simpa using hk
 have hL2p:atI L2r.reverse p=anyA:=by
  rcases (h5 p hpk').2 with h6 | h6
  ·exact h6.2
  ·exact absurd rfl h6.1
 intro a ha
 refine wp_region_any hm (qZ (W:=W) (t0:=a.tmps) (d0:=a.defers) (L:=Lr.reverse) (L2:=L2r.reverse) (late:=fun j => !nY os.toArray p j)
  (RA:=fun A v' W'=>∃ news,q news A∧St w0 O (G.set gi ⟨v',g.n+m,g.xs++news,g.e,g.size⟩) ((W.heap.size,A)::K) W') hl (by rw [ha.size];exact ht) (iV fun q hq=>h3 q (List.mem_reverse.1 hq)) (iV fun q hq=>h4 q (List.mem_reverse.1 hq)) hpk' hpo rfl rfl ?_ ?_ ?_ hL2p ?_ ?_ ?_ _ _ _ _ (by simp) ?_ (gE _) ?_ (fun j hj=>by rw [Array.getD_eq_getD_getElem?,Array.getElem?_replicate] at hj;split at hj<;>simp at hj) (mT ((Below.refl _ _).drew)))
 ·intro j hj hjp he
  simp only [Bool.not_eq_false'] at he
  exact List.contains_iff_mem.1 he
 ·intro i hi hip
  rcases (h5 i hi).2 with h6 | h6
  ·exact absurd h6.1 hip
  ·exact h6.2.1 a ha
 ·intro b w hF hG hD
  have ex:b.eval (.tmp tx)=g.v:=hx a ha b w hF hD
  obtain ⟨bb,oo,c,cs,ey,hc,hcl,h1c,hq⟩:=hpy _ w (hy a ha b w hF hD)
  have hS2:=hS.call hG
  have hrow:=hS2.row gi hi
  rw [hgs] at hrow
  obtain ⟨v',W',hr,k2,k3,k4⟩:=gW (P:=P) (w:=w) w0.heap.size t ty g.e inf z hU hinf hz hzs hsz g.v g.n g.xs hrow ⟨bb,oo,none⟩ m c cs hcl (fun j u hj=>by rw [Addr.add_lit];exact hc.get j u hj) (fun u hu=>List.all_eq_true.1 h1c u hu) h63 hbytes hS2.below.size
  rw [← hgs] at k2
  refine ⟨v',W',?_,cs,hq,hS2.setG gi hi k2 k3 k4⟩
  unfold execOp
  simp only [resolve,invoke,builtin,Sem.run_bind,Sem.run_pure,Result.andThen_ok,List.map_toArray,List.map_cons,List.map_nil,ex,ey,hr]
 ·intro i hi hip v w w' hv
  exact (h5 i hi).1 v w w' hv
 ·intro v' W2 i hi hip hlt
  rcases (h5 i hi).2 with h6 | h6
  ·exact absurd h6.1 hip
  ·rcases h6.2.2 with h7 | h7
   ·rw [h7] at hlt;cases hlt
   ·exact h7 v' W2 a ha
 ·rintro A v' W2 hB ⟨news,hq,hS2⟩
  intro a' W' hs hd hf hG hI
  subst hG
  have hdst':∀ o∈os.take k,∃ d,o.dst=some d:=fun o ho=>Option.isSome_iff_exists.1 (List.all_eq_true.1 hdst o ho)
  have htk:(os.take k).length=k:=by simp;omega
  refine mW (os.take k) (pvL v' p 0 L2r.reverse) l (fun i d hi hd'=>?_) (hs.trans ha.size) (hd.trans ha.defers) ?_ hdst' (fun l' h ha'=>?_) (hfin A v' news W' hB hq hS2)
  ·have hik:i < k:=by omega
   have h6:=hI i d hik (by rw [List.getElem?_take,if_pos hik] at hd';simpa using hd')
   rw [sG L2r.reverse 0 i (by simp;omega)]
   by_cases hip:i+0=p
   ·rw [if_pos hip];exact h6.1 hip
   ·rw [if_neg hip];exact h6.2
  ·intro t' v hv hno
   rw [hf t' (by
    unfold freeT;rw [Array.all_eq_true'];intro o' ho'
    have ho2:o'∈os:=by simpa using ho'
    obtain ⟨j,hj⟩:=List.getElem?_of_mem ho2
    by_cases hjk:j < k
    ·have:o'∈os.take k:=List.mem_of_getElem? (by rw [List.getElem?_take,if_pos hjk];exact hj)
     simpa using hno o' this
    ·have hjl:=(List.getElem?_eq_some_iff.1 hj).1
     have:j=k:=by omega
     subst this
     rw [hk] at hj
     have e2:=Option.some.inj hj
     subst e2
     cases hx:o.dst with
     | none=>simp
     | some d=>simp;intro e;subst e;rw [hfree d hx] at hv;cases hv)]
   exact ha.at_ t' v hv
  ·have h6:=h a' ha'
   unfold wpOp
   rw [hko]
   exact h6
 ·rw [Array.getD_eq_getD_getElem?,Array.getElem?_replicate,if_pos (by simp;omega)];rfl
 ·rw [Array.getD_eq_getD_getElem?,Array.getElem?_replicate,if_pos (by simp;omega)];rfl
end
section
variable {P:Program} {ops:Array Oper} {Q:Exit→Act→World→Prop} {σ:Type}
structure RInvG (ops:Array Oper) (t0:Array Value) (d0:List Deferred) (G:σ→World→Prop) (I:σ→Nat→Value→World→Prop) (V:σ→Array Bool→Prop) (s:σ) (L:Array Bool) (a:Act) (w:World):Prop where
 size:a.tmps.size=t0.size
 defers:a.defers=d0
 frame:∀ t,freeT ops t=true→a.tmps.getD t undef=t0.getD t undef
 glob:G s w
 cons:V s L
 done:∀ i d,(ops[i]?).bind (·.dst)=some d→L.getD i false=true→I s i (a.tmps.getD d undef) w
def fN (ops:Array Oper) (L:Array Bool):Prop:=∀ j,L.getD j false=true→∀ x∈aft ops j,L.getD x false=true
def kP (ops:Array Oper) (L:Array Bool) (i:Nat):Prop:=L.getD i false=false∧∀ x∈aft ops i,L.getD x false=true
def A7 (P:Program) (ops:Array Oper) (Q:Exit→Act→World→Prop) (t0:Array Value) (G:σ→World→Prop) (I:σ→Nat→Value→World→Prop) (V:σ→Array Bool→Prop) (i:Nat):Prop :=
 ∀ s L (a:Act) w,(∀ t,freeT ops t=true→a.eval (.tmp t)=t0.getD t undef)→G s w→V s L→L.size=ops.size→fN ops L→kP ops L i→(∀ j d,bG ops i j d=true→I s j (a.eval (.tmp d)) w) →
  wpOp P ops Q i (fun a' w'=>∃ s' v,a'=a.put ((ops[i]?).bind (·.dst)) v∧V s' (L.setIfInBounds i true)∧G s' w'∧(∀ d,(ops[i]?).bind (·.dst)=some d→I s' i v w')∧(∀ j d,(ops[j]?).bind (·.dst)=some d→I s j (a.tmps.getD d undef) w→I s' j (a.tmps.getD d undef) w')) a w
def oN (ops:Array Oper) (k:Nat):Bool:=(List.range ops.size).all fun j=>decide (j < k) || (List.range j).all fun i=>(earlyL ops j).contains i
theorem mK {k j i:Nat} (h:oN ops k=true) (hj:j < ops.size) (hk:k≤j) (hi:i < j):i∈earlyL ops j:=by
 have h1:=List.all_eq_true.1 h j (List.mem_range.2 hj)
 rw [Bool.or_eq_true,decide_eq_true_eq] at h1
 rcases h1 with h1 | h1
 ·omega
 ·exact List.contains_iff_mem.1 (List.all_eq_true.1 h1 i (List.mem_range.2 hi))
theorem nA {L:Array Bool} {i:Nat} (h:i∈Region.ready .any ops L) (hs:L.size=ops.size):i < ops.size∧kP ops L i:=by
 obtain ⟨h1,o,ho,hdep⟩:=mem_ready.1 h
 have his:i < ops.size:=(Array.getElem?_eq_some_iff.1 ho).1
 refine ⟨his,?_,fun x hx=>?_⟩
 ·rw [Array.getD_eq_getD_getElem?,Array.getElem?_eq_getElem (by omega)] at h1 ⊢
  simpa using h1
 ·obtain ⟨e,he,h5,h6⟩:=jZ ho hx
  have h7:=hdep e he h6
  rw [h5] at h7
  exact h7
theorem jR {L:Array Bool} {i:Nat} (hi:i < L.size) (h:L.getD i false=false):L.toList[i]?=some false:=by
 rw [Array.getD_eq_getD_getElem?,Array.getElem?_eq_getElem hi] at h
 rw [Array.getElem?_toList,Array.getElem?_eq_getElem hi]
 simpa using h
theorem fN.next {L:Array Bool} {i:Nat} (h:fN ops L) (hr:kP ops L i) (hi:i < L.size):fN ops (L.setIfInBounds i true):=fun j hj x hx=>by
 have hx2:L.getD x false=true:=by
  by_cases hji:j=i
  ·subst hji;exact hr.2 x hx
  ·rw [getD_set_ne false (Ne.symm hji)] at hj
   exact h j hj x hx
 by_cases hxi:x=i
 ·subst hxi
  rw [Array.getD_eq_getD_getElem?,Array.getElem?_setIfInBounds_self_of_lt hi];rfl
 ·rw [getD_set_ne false (Ne.symm hxi)];exact hx2
theorem jF {L:Array Bool} {i:Nat} (h:fN ops L) (hr:kP ops L i):∀ x∈earlyL ops i,L.getD x false=true :=
 gT (D:=fun x=>L.getD x false=true) hr.2 (fun j hj x hx=>h j hj x hx)
theorem pT (ht:∀ n,dG ops n=true→True) {k:Nat} (hl:oN ops k=true) {n0:Nat} (htd:dG ops n0=true):∀ (m j fuel:Nat) (L:Array Bool) (a:Act) (w:World),ops.size=j+m→k≤j→m≤fuel→L.size=ops.size→fN ops L→(∀ i,i < j→L.getD i false=true)→(∀ i,j≤i→L.getD i false=false) →
  wpList P ops Q (ops.toList.drop j) a w→wpAny P .any ops Q fuel L a w
 | 0,j,fuel,L,a,w,hm,hk,hf,hs,hc,hd,hn,h=>by
  have hnil:Region.ready .any ops L=[]:=by
   cases hr:Region.ready .any ops L with
   | nil=>rfl
   | cons i rest =>
    obtain ⟨h1,h2⟩:=nA (by rw [hr];exact List.mem_cons_self) hs
    have h3:=h2.1
    rw [hd i (by omega)] at h3
    cases h3
  rw [List.drop_of_length_le (by simp;omega)] at h
  cases fuel with
  | zero=>exact ⟨hnil,h⟩
  | succ fuel=>exact ⟨fun _=>h,by rw [hnil];simp⟩
 | m+1,j,0,L,a,w,hm,hk,hf,hs,hc,hd,hn,h=>by omega
 | m+1,j,fuel+1,L,a,w,hm,hk,hf,hs,hc,hd,hn,h=>by
  have hj:j < ops.size:=by omega
  have only:∀ i∈Region.ready .any ops L,i=j:=fun i hi=>by
   obtain ⟨h1,h2⟩:=nA hi hs
   rcases Nat.lt_trichotomy i j with h3 | h3 | h3
   ·have h4:=h2.1
    rw [hd i h3] at h4;cases h4
   ·exact h3
   ·have:=jF hc h2 j (mK hl h1 (by omega) h3)
    rw [hn j (Nat.le_refl _)] at this;cases this
  refine ⟨fun hr=>?_,fun i hi=>?_⟩
  ·have:=fL htd hs hr j hj
   have h2:=hn j (Nat.le_refl _)
   rw [Array.getD_eq_getD_getElem?,Array.getElem?_eq_getElem (by omega)] at this h2
   simp at this h2
   rw [this] at h2;cases h2
  ·obtain ⟨h1,h2⟩:=nA hi hs
   obtain rfl:=only i hi
   have e:ops.toList.drop i=ops[i]::ops.toList.drop (i+1):=by
    rw [List.drop_eq_getElem_cons (by simpa using hj)];simp
   rw [e] at h
   have key:wpOp P ops Q i (fun a' w'=>wpList P ops Q (ops.toList.drop (i+1)) a' w') a w:=by
    unfold wpOp
    rw [Array.getElem?_eq_getElem hj]
    exact h
   refine wpOp_mono ?_ key
   intro a' w' hq
   refine pT ht hl htd m (i+1) fuel _ a' w' (by omega) (by omega) (by omega) (by simpa using hs) (hc.next h2 (by omega)) (fun x hx=>?_) (fun x hx=>?_) hq
   ·by_cases hxi:x=i
    ·subst hxi
     rw [Array.getD_eq_getD_getElem?,Array.getElem?_setIfInBounds_self_of_lt (by omega)];rfl
    ·rw [getD_set_ne false (Ne.symm hxi)];exact hd x (by omega)
   ·rw [getD_set_ne false (by omega)];exact hn x (by omega)
theorem nB {t0:Array Value} {d0:List Deferred} {G:σ→World→Prop} {I:σ→Nat→Value→World→Prop} {V:σ→Array Bool→Prop} {k:Nat} (hk:k < ops.size) (hl:oN ops k=true) (ht:dG ops t0.size=true)
  (hstep:∀ i,i < k→A7 P ops Q t0 G I V i)
  (hfin:∀ s L a w,RInvG ops t0 d0 G I V s L a w→(∀ i,i < k→L.getD i false=true)→(∀ i,k≤i→L.getD i false=false)→wpList P ops Q (ops.toList.drop k) a w) :
  ∀ (fuel:Nat) (s:σ) (L:Array Bool) (a:Act) (w:World),L.size=ops.size→L.toList.count false≤fuel→fN ops L→(∀ i,k≤i→L.getD i false=false)→RInvG ops t0 d0 G I V s L a w→wpAny P .any ops Q fuel L a w:=by
 intro fuel
 induction fuel with
 | zero =>
  intro s L a w hs hc hcl hn h
  have:=eI _ _ (jR (by omega) (hn k (Nat.le_refl _)))
  omega
 | succ fuel ih =>
  intro s L a w hs hc hcl hn h
  by_cases hall:∀ i,i < k→L.getD i false=true
  ·have hcnt:ops.size - k≤L.toList.count false:=by
    have key:∀ (l:List Bool) (k:Nat),(∀ i,k≤i→i < l.length→l[i]?=some false)→l.length - k≤l.count false:=by
     intro l
     induction l with
     | nil=>intro k _;simp
     | cons b l ihl =>
      intro k hk
      cases k with
      | zero =>
       have h0:=hk 0 (Nat.le_refl _) (by simp)
       simp at h0;subst h0
       have:=ihl 0 (fun i _ hi=>by have:=hk (i+1) (by omega) (by simpa using hi);simpa using this)
       simp at this ⊢;omega
      | succ k =>
       have:=ihl k (fun i hi hi2=>by have:=hk (i+1) (by omega) (by simpa using hi2);simpa using this)
       rw [List.count_cons];simp;omega
    have:=key L.toList k (fun i h1 h2=>jR (by simpa using h2) (hn i h1))
    simpa [hs] using this
   exact pT (fun _ _=>trivial) hl ht (ops.size - k) k (fuel+1) L a w (by omega) (Nat.le_refl _) (by omega) hs hcl hall hn (hfin s L a w h hall hn)
  ·refine ⟨fun hr=>?_,fun i hi=>?_⟩
   ·exfalso;apply hall
    intro i hi
    have h1:=fL ht hs hr i (by omega)
    rw [Array.getD_eq_getD_getElem?,Array.getElem?_eq_getElem (by omega)] at h1 ⊢
    simpa using h1
   ·obtain ⟨his,hr⟩:=nA hi hs
    have hik:i < k:=by
     rcases Nat.lt_or_ge i k with h1 | h1
     ·exact h1
     ·exfalso;apply hall
      intro x hx
      exact jF hcl hr x (mK hl his h1 (by omega))
    have hc1:=eI _ _ (jR (by omega) hr.1)
    refine wpOp_mono ?_ (hstep i hik s L a w (fun t ht=>h.frame t ht) h.glob h.cons hs hcl hr (fun j d hw=>?_))
    ·rintro a' w' ⟨s',v,rfl,hV,hG,hI,hst⟩
     refine ih s' _ _ _ (by simpa using hs) ?_ (hcl.next hr (by omega)) (fun x hx=>by rw [getD_set_ne false (by omega)];exact hn x hx) ⟨by rw [jO];exact h.size,by rw [gQ];exact h.defers,fun t hf=>?_,hG,hV,fun j d hd hj=>?_⟩
     ·rw [Array.toList_setIfInBounds];omega
     ·rw [eJ ?_]
      ·exact h.frame t hf
      ·intro hd
       obtain ⟨o,ho,hd⟩:=Option.bind_eq_some_iff.1 hd
       have:=Array.all_eq_true'.1 hf o (Array.mem_of_getElem? ho)
       simp [hd] at this
     ·by_cases hji:j=i
      ·subst hji
       rw [nU hd (by rw [h.size];exact (fS ht hd).1)]
       exact hI d hd
      ·rw [getD_set_ne false (Ne.symm hji)] at hj
       rw [eJ (fun e=>hji ((fS ht e).2 j hd))]
       exact hst j d hd (h.done j d hd hj)
    ·have:j∈aft ops i:=by
      unfold bG at hw
      unfold aft
      cases ho:ops[i]? with
      | none=>simp [ho] at hw
      | some o =>
       simp only [ho,Bool.and_eq_true,beq_iff_eq] at hw
       obtain ⟨e,he,h2⟩:=Array.any_eq_true'.1 hw.1
       simp only [Bool.and_eq_true,beq_iff_eq] at h2
       exact List.mem_map.2 ⟨e,List.mem_filter.2 ⟨Array.mem_toList_iff.2 he,h2.2⟩,h2.1⟩
     have hd:(ops[j]?).bind (·.dst)=some d:=by
      unfold bG at hw
      simp only [Bool.and_eq_true,beq_iff_eq] at hw
      exact hw.2
     exact h.done j d hd (hr.2 j this)
end
structure Sg where
 ev:Option Value
 bs:List (Nat×Nat)
def OE (ca:Nat→Option Value→List Value) (ta:Nat→TypeId) (Os:Option Value→Own) (s:Sg):Own:=s.bs.map (fun q=>(q.2,ca q.1 s.ev,ta q.1))++Os s.ev
def XB (O:Own) (G:bN) (b:Nat):Prop:=(∃ p∈O,p.1=b)∨(∃ g∈G,g.v.ownBlock=some b)
def eQ (lo:Nat) (X:Nat→Prop) (w w':World):Prop:=(w'.os=w.os∧w'.tape=w.tape∧w'.output=w.output)∧w.heap.size≤w'.heap.size∧∀ b,lo≤b→b < w.heap.size→¬ X b→w'.heap[b]?=w.heap[b]?
def AwS (lo:Nat) (X:Nat→Prop) (p:Asr):Asr:=fun v w=>∀ w',eQ lo X w w'→p v w'
section
variable {lo:Nat} {X X':Nat→Prop} {w w' w'':World} {p:Asr} {v c:Value}
theorem eQ.refl (lo:Nat) (X:Nat→Prop) (w:World):eQ lo X w w:=⟨⟨rfl,rfl,rfl⟩,Nat.le_refl _,fun _ _ _ _=>rfl⟩
theorem kQ (h:Below w.heap.size w w'):eQ lo X w w':=⟨⟨h.os,h.tape,h.output⟩,h.size,fun b _ hb _=>h.block b hb⟩
theorem eQ.trans (h:eQ lo X w w') (k:eQ lo X' w' w'') (hx:∀ b,X' b→X b∨w.heap.size≤b):eQ lo X w w'' :=
 ⟨⟨k.1.1.trans h.1.1,k.1.2.1.trans h.1.2.1,k.1.2.2.trans h.1.2.2⟩,Nat.le_trans h.2.1 k.2.1,fun b h1 h2 h3=>(k.2.2 b h1 (Nat.lt_of_lt_of_le h2 h.2.1) (fun hb=>(hx b hb).elim h3 (fun h4=>by omega))).trans (h.2.2 b h1 h2 h3)⟩
theorem eQ.mono (h:eQ 0 X w w'):eQ lo X w w':=⟨h.1,h.2.1,fun b _ hb hx=>h.2.2 b (Nat.zero_le _) hb hx⟩
theorem AwS.here (h:AwS lo X p v w):p v w:=h w (eQ.refl _ _ _)
theorem AwS.next (h:AwS lo X p v w) (hs:eQ 0 X w w') (hx:∀ b,X' b→X b∨w.heap.size≤b):AwS lo X' p v w':=fun w2 h2=>h w2 (hs.mono.trans h2 hx)
theorem sI:AwS lo X (isV c) c w:=fun _ _=>rfl
end
section
variable {P:Program} {n:Nat} {Q:Exit→Act→World→Prop} {l:Fr} {w0 W:World} {ops:Array Oper} {os:List Oper} {K:List (Nat×World)} {L:List Asr} {i:Nat}
variable {al:List Nat} {ca:Nat→Option Value→List Value} {ta:Nat→TypeId} {Os:Option Value→Own} {Gs:Option Value→bN} {lo ef jy:Nat} {s:Sg}
theorem St.drops {O:Own} {G:bN} {w:World}:∀ (A:Own),St w0 (A++O) G K w→St w0 O G K w
 | [],h=>h
 | _::A,h=>St.drops A h.tail
def GG (w0:World) (K:List (Nat×World)) (lo:Nat) (ca:Nat→Option Value→List Value) (ta:Nat→TypeId) (Os:Option Value→Own) (Gs:Option Value→bN) (s:Sg) (w:World):Prop:=St w0 (OE ca ta Os s) (Gs s.ev) K w∧lo≤w.heap.size∧∀ q∈s.bs,lo≤q.2
def VG (al:List Nat) (ef:Nat) (s:Sg) (L:Array Bool):Prop:=(∀ a∈al,L.getD a false=true↔∃ B,(a,B)∈s.bs)∧(∀ q∈s.bs,q.1∈al)∧s.bs.Pairwise (fun p q=>p.1≠q.1)∧(L.getD ef false=true↔s.ev.isSome=true)
def IG (al:List Nat) (ef jy lo:Nat) (ca:Nat→Option Value→List Value) (ta:Nat→TypeId) (Os:Option Value→Own) (Gs:Option Value→bN) (L:List Asr) (s:Sg) (i:Nat) (v:Value) (w:World):Prop :=
 (i∈al→∃ B,(i,B)∈s.bs∧v = .pointer (some ⟨B,0,none⟩))∧(i=ef→s.ev=some v)∧(i=jy→∀ y,s.ev=some y→v=y)∧(i∉al→i≠ef→AwS lo (XB (OE ca ta Os s) (Gs s.ev)) (atI L i) v w)
def Tr (ops:Array Oper) (jy:Nat) (ca:Nat→Option Value→List Value) (ta:Nat→TypeId) (Os:Option Value→Own) (Gs:Option Value→bN) (s s':Sg) (a:Act) (w w':World):Prop :=
 eQ 0 (XB (OE ca ta Os s) (Gs s.ev)) w w'∧(∀ b,XB (OE ca ta Os s') (Gs s'.ev) b→XB (OE ca ta Os s) (Gs s.ev) b∨w.heap.size≤b)∧(∀ q∈s.bs,q∈s'.bs)∧(s'.ev=s.ev∨(s.ev=none∧∃ y,s'.ev=some y∧∀ d,(ops[jy]?).bind (·.dst)=some d→a.eval (.tmp d)=y))
theorem Tr.refl {a:Act} {w w':World} (h:Below w.heap.size w w'):Tr ops jy ca ta Os Gs s s a w w':=⟨kQ h,fun b hb=>.inl hb,fun q hq=>hq,.inl rfl⟩
def SG (P:Program) (n:Nat) (ops:Array Oper) (Q:Exit→Act→World→Prop) (l:Fr) (w0:World) (K:List (Nat×World)) (lo:Nat) (al:List Nat) (ef jy:Nat) (ca:Nat→Option Value→List Value) (ta:Nat→TypeId) (Os:Option Value→Own) (Gs:Option Value→bN) (L:List Asr) (i:Nat):Prop :=
 ∀ t0,Has n l t0→∀ s LB (a:Act) w,(∀ t,freeT ops t=true→a.eval (.tmp t)=t0.tmps.getD t undef)→GG w0 K lo ca ta Os Gs s w→VG al ef s LB→LB.size=ops.size→fN ops LB→kP ops LB i→(∀ j d,bG ops i j d=true→IG al ef jy lo ca ta Os Gs L s j (a.eval (.tmp d)) w) →
  wpOp P ops Q i (fun a' w'=>∃ s' v,a'=a.put ((ops[i]?).bind (·.dst)) v∧VG al ef s' (LB.setIfInBounds i true)∧GG w0 K lo ca ta Os Gs s' w'∧Tr ops jy ca ta Os Gs s s' a w w'∧(∀ d,(ops[i]?).bind (·.dst)=some d→IG al ef jy lo ca ta Os Gs L s' i v w')) a w
theorem SG.step (h:SG P n ops Q l w0 K lo al ef jy ca ta Os Gs L i):∀ a,Has n l a→A7 P ops Q a.tmps (GG w0 K lo ca ta Os Gs) (IG al ef jy lo ca ta Os Gs L) (VG al ef) i:=fun t0 h0 s LB a w hF hG hV hs hc hr hD=>by
 refine wpOp_mono ?_ (h t0 h0 s LB a w hF hG hV hs hc hr hD)
 rintro a' w' ⟨s',v,h1,h2,h3,⟨t1,t2,t3,t4⟩,h5⟩
 refine ⟨s',v,h1,h2,h3,h5,fun j d hd hj=>⟨fun hj1=>?_,fun hj1=>?_,fun hj1 y hy=>?_,fun h6 h7=>(hj.2.2.2 h6 h7).next t1 t2⟩⟩
 ·obtain ⟨B,hB,e⟩:=hj.1 hj1
  exact ⟨B,t3 _ hB,e⟩
 ·rcases t4 with t4 | ⟨t4,_⟩
  ·rw [t4];exact hj.2.1 hj1
  ·have:=hj.2.1 hj1;rw [t4] at this;cases this
 ·rcases t4 with t4 | ⟨t4,y',t5,t6⟩
  ·rw [t4] at hy;exact hj.2.2.1 hj1 y hy
  ·rw [t5] at hy;cases hy
   subst hj1
   exact t6 d hd
theorem SG.ext {L1 L2:List Asr} (ht:dG ops n=true) (hag:∀ j,j≤i→atI L1 j=atI L2 j) (h:SG P n ops Q l w0 K lo al ef jy ca ta Os Gs L1 i):SG P n ops Q l w0 K lo al ef jy ca ta Os Gs L2 i:=fun t0 h0 s LB a w hF hG hV hs hc hr hD=>by
 have hlt:∀ j d,bG ops i j d=true→j < i:=fun j d hw=>by
  cases ho:ops[i]? with
  | none=>simp [bG,ho] at hw
  | some o =>
   simp only [bG,ho,Bool.and_eq_true,beq_iff_eq] at hw
   obtain ⟨e,he,h2⟩:=Array.any_eq_true'.1 hw.1
   simp only [Bool.and_eq_true,beq_iff_eq] at h2
   rw [← h2.1];exact iQ ht ho e he h2.2
 have h2:=h t0 h0 s LB a w hF hG hV hs hc hr (fun j d hw=>by unfold IG;rw [hag j (Nat.le_of_lt (hlt j d hw))];exact hD j d hw)
 unfold IG at h2
 rw [hag i (Nat.le_refl _)] at h2
 exact h2
def mL (ops:Array Oper) (ef i:Nat):Bool:=Nat.ble ops.size ef || (earlyL ops ef).contains i
def wK (ops:Array Oper) (ef jy i:Nat):Bool := !Nat.beq i jy || mL ops ef i
theorem zW (h:wK ops ef jy i=true):i=jy→mL ops ef i=true:=fun e=>by
 unfold wK at h
 rw [e,Nat.beq_refl] at h
 rw [e];exact h
theorem yD {L:Array Bool} (hV:VG al ef s L) (hs:L.size=ops.size) (hc:fN ops L) (hi:L.getD i false=false) (he:mL ops ef i=true):s.ev=none:=by
 cases hev:s.ev with
 | none=>rfl
 | some v =>
  have hd:L.getD ef false=true:=hV.2.2.2.2 (by rw [hev];rfl)
  unfold mL at he
  rw [Bool.or_eq_true] at he
  rcases he with he | he
  ·have h1:ops.size≤ef:=Nat.le_of_ble_eq_true he
   rw [Array.getD_eq_getD_getElem?,Array.getElem?_eq_none (by omega)] at hd
   cases hd
  ·have:=gT (D:=fun x=>L.getD x false=true) (hc ef hd) (fun j hj x hx=>hc j hj x hx) i (List.contains_iff_mem.1 he)
   rw [hi] at this;cases this
theorem uH {t0:Act} (h0:Has n l t0) {a:Act} {w:World} (hF:∀ t,freeT ops t=true→a.eval (.tmp t)=t0.tmps.getD t undef) (hD:∀ j d,bG ops i j d=true→IG al ef jy lo ca ta Os Gs L s j (a.eval (.tmp d)) w)
  (hn:∀ j d,bG ops i j d=true→j∈al∨j=ef→atI L j=anyA):∀ j d,bG ops i j d=true→atI L j (a.eval (.tmp d)) w:=fun j d hw=>by
 by_cases h1:j∈al∨j=ef
 ·rw [hn j d hw h1];trivial
 ·rw [not_or] at h1
  exact ((hD j d hw).2.2.2 h1.1 h1.2).here
def pU (al:List Nat) (ef:Nat) (L:List Asr):Prop:=∀ j,j∈al∨j=ef→atI L j=anyA
theorem A8 {L:Array Bool} (hV:VG al ef s L) (hi:i∉al) (he:i≠ef):VG al ef s (L.setIfInBounds i true) :=
 ⟨fun a ha=>by rw [getD_set_ne false (fun e=>hi (by rw [e];exact ha))];exact hV.1 a ha,hV.2.1,hV.2.2.1,by rw [getD_set_ne false he];exact hV.2.2.2⟩
variable {d:Nat} {op:Op} {ty:TypeId} {pos:String} {aft_:Array Edge} {v:Value} {gd:Option (Nat×Bool)}
theorem sg_base (hal:i∉al) (hie:i≠ef) (hij:i=jy→mL ops ef i=true) (hi:ops[i]?=some ⟨some d,op,ty,pos,aft_,gd⟩) (hNo:pU al ef L)
  (h:∀ (t0 a:Act) s w,Has n l t0→(∀ t,freeT ops t=true→a.eval (.tmp t)=t0.tmps.getD t undef)→GG w0 K lo ca ta Os Gs s w→(mL ops ef i=true→s.ev=none)→(∀ j d,bG ops i j d=true→IG al ef jy lo ca ta Os Gs L s j (a.eval (.tmp d)) w)→(∀ j d,bG ops i j d=true→atI L j (a.eval (.tmp d)) w) →
   wpOp P ops Q i (fun a' w'=>∃ v,a'=a.put (some d) v∧AwS lo (XB (OE ca ta Os s) (Gs s.ev)) (atI L i) v w'∧Below w.heap.size w w') a w):SG P n ops Q l w0 K lo al ef jy ca ta Os Gs L i:=fun t0 h0 s LB a w hF hG hV hs hc hr hD=>by
 refine wpOp_mono ?_ (h t0 a s w h0 hF hG (fun he=>yD hV hs hc hr.1 he) hD (uH h0 hF hD fun j d _ hj=>hNo j hj))
 rintro a' w' ⟨v,rfl,hA,hb⟩
 refine ⟨s,v,by rw [hi];rfl,A8 hV hal hie,⟨hG.1.grow hb,Nat.le_trans hG.2.1 hb.size,hG.2.2⟩,Tr.refl hb,fun _ _=>⟨fun h=>absurd h hal,fun h=>absurd h hie,(fun h y hy=>by rw [yD hV hs hc hr.1 (hij h)] at hy;cases hy),fun _ _=>hA⟩⟩
theorem iY {o:Oper} {a:Act} {w w':World} {K':Act→World→Prop} (hi:ops[i]?=some o) (hw:Region.wanted o (yielded ops a.tmps)=true) (hr:(execOp a.eval o).run P w = .ok (.value v) w') (hK:K' (a.put o.dst v) w'):wpOp P ops Q i K' a w:=by
 unfold wpOp
 simp only [hi,hw,if_true]
 refine .inl ?_
 unfold Oper.wp
 rw [hr]
 exact hK
theorem sgV (li:Fr) (hal:al.contains i=false) (hie:Nat.beq i ef=false) (hij:wK ops ef jy i=true) (hi:ops[i]?=some ⟨some d,op,ty,pos,aft_,gd⟩) (hNo:pU al ef L) (hw:gP ops L i ⟨some d,op,ty,pos,aft_,gd⟩) (hli:qY n ops l L i li)
  (hr:∀ ev w,(mL ops ef i=true→ev=none)→St w0 (Os ev) (Gs ev) K w→dT P li ⟨some d,op,ty,pos,#[],none⟩ w v w) (hI:atI L i=isV v):SG P n ops Q l w0 K lo al ef jy ca ta Os Gs L i :=
 sg_base (fun h=>by rw [List.contains_iff_mem.2 h] at hal;cases hal) (fun e=>by rw [e,Nat.beq_refl] at hie;cases hie) (zW hij) hi hNo fun t0 a s w h0 hF hG he hD hD'=>by
  have hS:St w0 (Os s.ev) (Gs s.ev) K w:=St.drops _ hG.1
  exact iY hi (hw.yes hD') (by rw [gJ a.eval _ _ _ _ pos _ #[] _ none];exact hr s.ev w he hS a.eval (jQ h0 hF hD' hli)) ⟨v,rfl,by rw [hI];exact sI,Below.refl _ _⟩
theorem sg_eff {o:Oper} (hal:al.contains ef=false) (hij:Nat.beq ef jy=false) (hi:ops[ef]?=some o)
  (h:∀ (t0 a:Act) bs w,Has n l t0→(∀ t,freeT ops t=true→a.eval (.tmp t)=t0.tmps.getD t undef)→GG w0 K lo ca ta Os Gs ⟨none,bs⟩ w→bs.Pairwise (fun p q=>p.1≠q.1)→(∀ j d,bG ops ef j d=true→IG al ef jy lo ca ta Os Gs L ⟨none,bs⟩ j (a.eval (.tmp d)) w) →
   wpOp P ops Q ef (fun a' w'=>∃ v y,a'=a.put o.dst v∧(∀ d,o.dst=some d→v=y)∧St w0 (OE ca ta Os ⟨some y,bs⟩) (Gs (some y)) K w'∧eQ 0 (XB (OE ca ta Os ⟨none,bs⟩) (Gs none)) w w'∧(∀ b,XB (OE ca ta Os ⟨some y,bs⟩) (Gs (some y)) b→XB (OE ca ta Os ⟨none,bs⟩) (Gs none) b∨w.heap.size≤b)∧(∀ d,(ops[jy]?).bind (·.dst)=some d→a.eval (.tmp d)=y)) a w):SG P n ops Q l w0 K lo al ef jy ca ta Os Gs L ef:=fun t0 h0 s LB a w hF hG hV hs hc hr hD=>by
 have hal':ef∉al:=fun h=>by rw [List.contains_iff_mem.2 h] at hal;cases hal
 obtain ⟨ev,bs⟩:=s
 have hev:ev=none:=by
  cases ev with
  | none=>rfl
  | some v=>have:=hV.2.2.2.2 rfl;rw [hr.1] at this;cases this
 subst hev
 refine wpOp_mono ?_ (h t0 a bs w h0 hF hG hV.2.2.1 hD)
 rintro a' w' ⟨v,y,rfl,hvy,hSt,hsame,hX,hy⟩
 refine ⟨⟨some y,bs⟩,v,by rw [hi];rfl,⟨fun a ha=>by rw [getD_set_ne false (fun e=>hal' (by rw [e];exact ha))];exact hV.1 a ha,hV.2.1,hV.2.2.1,?_⟩,⟨hSt,Nat.le_trans hG.2.1 hsame.2.1,hG.2.2⟩,⟨hsame,hX,fun q hq=>hq,.inr ⟨rfl,y,rfl,hy⟩⟩,fun d hd=>⟨fun h=>absurd h hal',fun _=>?_,fun h=>absurd hij (by rw [h,Nat.beq_refl];decide),fun _ h=>absurd rfl h⟩⟩
 ·rw [Array.getD_eq_getD_getElem?,Array.getElem?_setIfInBounds_self_of_lt (by rw [hs];exact (Array.getElem?_eq_some_iff.1 hi).1)]
  exact ⟨fun _=>rfl,fun _=>rfl⟩
 ·rw [hi] at hd
  rw [hvy d hd]
theorem St.perm {O O':Own} {G:bN} {w:World} (h:St w0 O G K w) (hp:O.Perm O'):St w0 O' G K w where
 below:=h.below
 own:=fun p hp'=>h.own p (hp.mem_iff.2 hp')
 dist:=h.dist.perm hp (fun h=>Ne.symm h)
 kept:=fun q hq=>⟨(h.kept q hq).1,fun p hp'=>(h.kept q hq).2 p (hp.mem_iff.2 hp')⟩
 rows:=fun g hg=>⟨(h.rows g hg).1,fun b hb=>⟨fun p hp'=>((h.rows g hg).2 b hb).1 p (hp.mem_iff.2 hp'),((h.rows g hg).2 b hb).2⟩⟩
 gdist:=h.gdist
def mA (ds:List Nat):Fr→Fr
 | []=>[]
 | p::l=>bif ds.contains p.1 then mA ds l else p::mA ds l
theorem kA {ds:List Nat} {t:Nat} {v:Value}:∀ {l:Fr},dO (mA ds l) t=some v→t∉ds→dO l t=some v
 | [],h,_=>by cases h
 | p::l,h,ht=>by
  unfold mA at h
  unfold dO
  cases hc:ds.contains p.1 with
  | true =>
   rw [hc,cond_true] at h
   cases hb:Nat.beq p.1 t with
   | true =>
    rw [Nat.eq_of_beq_eq_true hb] at hc
    exact absurd (List.contains_iff_mem.1 hc) ht
   | false=>rw [cond_false];exact kA h ht
  | false =>
   rw [hc,cond_false] at h
   unfold dO at h
   cases hb:Nat.beq p.1 t with
   | true=>rw [hb,cond_true] at h;rw [cond_true];exact h
   | false=>rw [hb,cond_false] at h;rw [cond_false];exact kA h ht
theorem fI {ds:List Nat} {t:Nat} {v:Value}:∀ {l:Fr},dO (mA ds l) t=some v→t∉ds
 | [],h=>by cases h
 | p::l,h=>by
  unfold mA at h
  cases hc:ds.contains p.1 with
  | true=>rw [hc,cond_true] at h;exact fI h
  | false =>
   rw [hc,cond_false] at h
   unfold dO at h
   cases hb:Nat.beq p.1 t with
   | true =>
    intro hm
    rw [← Nat.eq_of_beq_eq_true hb] at hm
    rw [List.contains_iff_mem.2 hm] at hc;cases hc
   | false=>rw [hb,cond_false] at h;exact fI h
def wL (al:List Nat) (ef jy lo:Nat) (X:Nat→Prop) (Bf:Nat→Nat) (y:Value):Nat→List Asr→List Asr
 | _,[]=>[]
 | j,q::L=>(bif al.contains j then isV (.pointer (some ⟨Bf j,0,none⟩)) else bif Nat.beq j ef then isV y else bif Nat.beq j jy then (fun v w=>v=y∧AwS lo X q v w) else AwS lo X q)::wL al ef jy lo X Bf y (j+1) L
theorem kR {X:Nat→Prop} {Bf:Nat→Nat} {y:Value}:∀ (L:List Asr) (j i:Nat),i < L.length→atI (wL al ef jy lo X Bf y j L) i=(bif al.contains (i+j) then isV (.pointer (some ⟨Bf (i+j),0,none⟩)) else bif Nat.beq (i+j) ef then isV y else bif Nat.beq (i+j) jy then (fun v w=>v=y∧AwS lo X (atI L i) v w) else AwS lo X (atI L i))
 | [],j,i,h=>by simp at h
 | q::L,j,0,h=>by rw [Nat.zero_add];rfl
 | q::L,j,i+1,h=>by
  show atI (wL al ef jy lo X Bf y (j+1) L) i=_
  rw [kR L (j+1) i (by simpa using h),show i+1+j=i+(j+1) by omega]
  rfl
theorem zX:∀ (Bs:List Nat) (lo:Nat) (w:World),∃ Ks:List (Nat×World),(∀ q∈Ks,lo≤q.1∧gI q.1 q.2 w∧∀ B∈Bs,B < q.1∨q.2.heap.size≤B)∧(∃ q∈Ks,q.2=w)∧∀ b,lo≤b→b < w.heap.size→b∉Bs→∃ q∈Ks,q.1≤b∧b < q.2.heap.size
 | [],lo,w=>⟨[(lo,w)],fun q hq=>by
   simp only [List.mem_cons,List.not_mem_nil,or_false] at hq
   subst hq
   exact ⟨Nat.le_refl _,gI.refl _ _,fun B hB=>by cases hB⟩,⟨(lo,w),List.mem_cons_self,rfl⟩,fun b h1 h2 _=>⟨(lo,w),List.mem_cons_self,h1,h2⟩⟩
 | B::Bs,lo,w=>by
  by_cases hB:B < w.heap.size
  ·obtain ⟨A,hA,hA1⟩:=zV w (B:=B) (lo:=lo) (Nat.le_of_lt hB)
   obtain ⟨K1,k1,_,k2⟩:=zX Bs lo A
   obtain ⟨K2,k3,⟨q0,k5,k6⟩,k4⟩:=zX Bs (max lo (B+1)) w
   refine ⟨K1++K2,fun q hq=>?_,⟨q0,List.mem_append_right _ k5,k6⟩,fun b h1 h2 h3=>?_⟩
   ·rcases List.mem_append.1 hq with hq | hq
    ·obtain ⟨e1,e2,e3⟩:=k1 q hq
     refine ⟨e1,e2.trans (hA1.mono e1),fun B' hB'=>?_⟩
     rcases List.mem_cons.1 hB' with rfl | hB'
     ·right;rw [← hA];exact e2.1
     ·exact e3 B' hB'
    ·obtain ⟨e1,e2,e3⟩:=k3 q hq
     refine ⟨by omega,e2,fun B' hB'=>?_⟩
     rcases List.mem_cons.1 hB' with rfl | hB'
     ·left;omega
     ·exact e3 B' hB'
   ·have h4:b≠B:=fun e=>h3 (by rw [e];exact List.mem_cons_self)
    have h5:b∉Bs:=fun e=>h3 (List.mem_cons_of_mem _ e)
    rcases Nat.lt_or_ge b B with h6 | h6
    ·obtain ⟨q,hq,h7⟩:=k2 b h1 (by omega) h5
     exact ⟨q,List.mem_append_left _ hq,h7⟩
    ·obtain ⟨q,hq,h7⟩:=k4 b (by omega) h2 h5
     exact ⟨q,List.mem_append_right _ hq,h7⟩
  ·obtain ⟨K1,k1,k5,k2⟩:=zX Bs lo w
   refine ⟨K1,fun q hq=>?_,k5,fun b h1 h2 h3=>k2 b h1 h2 (fun e=>h3 (List.mem_cons_of_mem _ e))⟩
   obtain ⟨e1,e2,e3⟩:=k1 q hq
   refine ⟨e1,e2,fun B' hB'=>?_⟩
   rcases List.mem_cons.1 hB' with rfl | hB'
   ·right;have:=e2.1;omega
   ·exact e3 B' hB'
theorem St.more {O:Own} {G:bN} {w:World} (h:St w0 O G K w) (Ks:List (Nat×World)) (hk:∀ q∈Ks,gI q.1 q.2 w∧(∀ p∈O,p.1 < q.1∨q.2.heap.size≤p.1)∧∀ g∈G,∀ b,g.v.ownBlock=some b→b < q.1∨q.2.heap.size≤b):St w0 O G (Ks++K) w where
 below:=h.below
 own:=h.own
 dist:=h.dist
 kept:=fun q hq=>by
  rcases List.mem_append.1 hq with hq | hq
  ·exact ⟨(hk q hq).1,(hk q hq).2.1⟩
  ·exact h.kept q hq
 rows:=fun g hg=>⟨(h.rows g hg).1,fun b hb=>⟨((h.rows g hg).2 b hb).1,fun q hq=>by
  rcases List.mem_append.1 hq with hq | hq
  ·exact (hk q hq).2.2 g hg b hb
  ·exact ((h.rows g hg).2 b hb).2 q hq⟩⟩
 gdist:=h.gdist
theorem sJ:∀ {L:List Asr} {j:Nat},L.length≤j→atI L j=anyA
 | [],_,_=>rfl
 | _::L,0,h=>by simp at h
 | _::L,j+1,h=>sJ (L:=L) (by simpa using h)
def BLS (P:Program) (n:Nat) (ops:Array Oper) (Q:Exit→Act→World→Prop) (l:Fr) (w0:World) (K:List (Nat×World)) (lo:Nat) (al:List Nat) (ef jy:Nat) (ca:Nat→Option Value→List Value) (ta:Nat→TypeId) (Os:Option Value→Own) (Gs:Option Value→bN) (Goal:List Asr→Prop):Nat→List Asr→Nat→Prop
 | 0,Lr,_=>Goal Lr
 | m+1,Lr,k=>∃ q,((k∈al∨k=ef)→q=anyA)∧(pU al ef (q::Lr).reverse→SG P n ops Q l w0 K lo al ef jy ca ta Os Gs (q::Lr).reverse k)∧BLS P n ops Q l w0 K lo al ef jy ca ta Os Gs Goal m (q::Lr) (k+1)
variable {Goal:List Asr→Prop}
theorem nC {Lr:List Asr} {k:Nat} (h:Goal Lr):BLS P n ops Q l w0 K lo al ef jy ca ta Os Gs Goal 0 Lr k:=h
theorem bD {m k:Nat} {Lr:List Asr} (k':Nat) (hk:k+1=k') (hne:(al.contains k || Nat.beq k ef)=false) (q:Asr) (h:pU al ef (q::Lr).reverse→SG P n ops Q l w0 K lo al ef jy ca ta Os Gs (q::Lr).reverse k) (hr:BLS P n ops Q l w0 K lo al ef jy ca ta Os Gs Goal m (q::Lr) k'):BLS P n ops Q l w0 K lo al ef jy ca ta Os Gs Goal (m+1) Lr k:=by
 subst hk
 refine ⟨q,fun hc=>?_,h,hr⟩
 rw [Bool.or_eq_false_iff] at hne
 rcases hc with hc | hc
 ·rw [List.contains_iff_mem.2 hc] at hne;cases hne.1
 ·rw [hc,Nat.beq_refl] at hne;cases hne.2
theorem sK {m k:Nat} {Lr:List Asr} (k':Nat) (hk:k+1=k') (h:SG P n ops Q l w0 K lo al ef jy ca ta Os Gs (anyA::Lr).reverse k) (hr:BLS P n ops Q l w0 K lo al ef jy ca ta Os Gs Goal m (anyA::Lr) k'):BLS P n ops Q l w0 K lo al ef jy ca ta Os Gs Goal (m+1) Lr k:=by
 subst hk;exact ⟨anyA,fun _=>rfl,fun _=>h,hr⟩
theorem sL (ht:dG ops n=true):∀ (m k:Nat) (Lr:List Asr),Lr.length=k→pU al ef Lr.reverse→(∀ i,i < k→SG P n ops Q l w0 K lo al ef jy ca ta Os Gs Lr.reverse i)→BLS P n ops Q l w0 K lo al ef jy ca ta Os Gs Goal m Lr k →
  ∃ Lr',Lr'.length=k+m∧(∀ i,i < k+m→SG P n ops Q l w0 K lo al ef jy ca ta Os Gs Lr'.reverse i)∧Goal Lr'
 | 0,k,Lr,hl,hs,hg,h=>⟨Lr,hl,hg,h⟩
 | m+1,k,Lr,hl,hs,hg,⟨q,hq,hr,hn⟩=>by
  have hap:∀ j,j < k→atI Lr.reverse j=atI (q::Lr).reverse j:=fun j hj=>by rw [List.reverse_cons,iW (by simp;omega)]
  have hs':pU al ef (q::Lr).reverse:=fun j hj=>by
   rcases Nat.lt_trichotomy j k with h1 | h1 | h1
   ·rw [← hap j h1];exact hs j hj
   ·subst h1;rw [aG hl];exact hq hj
   ·exact sJ (by simp;omega)
  obtain ⟨L',h1,h3,h4⟩:=sL ht m (k+1) (q::Lr) (by simp [hl]) hs' (fun i hi=>by
   by_cases hik:i=k
   ·subst hik;exact hr hs'
   ·exact SG.ext ht (fun j hj=>hap j (by omega)) (hg i (by omega))) hn
  exact ⟨L',by omega,fun i hi=>h3 i (by omega),h4⟩
theorem kS {a:Act} {Kk:Fr→World→Prop} {G:Prop}:∀ (os:List Oper) (L:List Asr) (l:Fr),(∀ i d,i < os.length→(os[i]?).bind (·.dst)=some d→atI L i (a.tmps.getD d undef) W)→(∀ i,i < os.length→(os[i]?).bind (·.dst)=none→∃ v,atI L i v W)→a.tmps.size=n→a.defers=[] →
  (∀ t v,dO l t=some v→(∀ o∈os,o.dst≠some t)→a.tmps.getD t undef=v)→(hK:∀ l',Kk l' W→Has n l' a→G)→iE os L l Kk W→G
 | [],L,l,hI,_,hs,hd,hl,hK,h=>hK l h ⟨hs,hd,fun t v hv=>hl t v hv (fun o ho=>by cases ho)⟩
 | o::os,L,l,hI,hN,hs,hd,hl,hK,h=>by
  cases hod:o.dst with
  | none =>
   obtain ⟨v,hv⟩:=hN 0 (by simp) (by simp [hod])
   have h1:=h v hv
   rw [hod] at h1
   refine kS os L.tail _ (fun i e hi he=>by rw [kO];exact hI (i+1) e (by simpa using hi) (by simpa using he)) (fun i hi he=>by rw [kO];exact hN (i+1) (by simpa using hi) (by simpa using he)) hs hd ?_ hK h1
   intro t v hv hno
   refine hl t v hv (fun o' ho'=>?_)
   rcases List.mem_cons.1 ho' with rfl | ho'
   ·rw [hod];simp
   ·exact hno o' ho'
  | some d =>
   have h0:=hI 0 d (by simp) (by simp [hod])
   have h1:=h _ h0
   refine kS os L.tail _ (fun i e hi he=>by rw [kO];exact hI (i+1) e (by simpa using hi) (by simpa using he)) (fun i hi he=>by rw [kO];exact hN (i+1) (by simpa using hi) (by simpa using he)) hs hd ?_ hK h1
   intro t v hv hno
   rw [hod] at hv
   simp only [List.cons_append,List.nil_append] at hv
   unfold dO at hv
   cases hb:Nat.beq d t with
   | true =>
    simp only [hb,cond_true,Option.some.injEq] at hv
    rw [← Nat.eq_of_beq_eq_true hb];exact hv
   | false =>
    simp only [hb,cond_false] at hv
    refine hl t v hv (fun o' ho'=>?_)
    rcases List.mem_cons.1 ho' with rfl | ho'
    ·rw [hod];intro e;rw [Option.some.inj e,Nat.beq_refl] at hb;cases hb
    ·exact hno o' ho'
def bAt (bs:List (Nat×Nat)) (a:Nat):Nat:=((bs.find? (fun q=>Nat.beq q.1 a)).map (·.2)).getD 0
theorem sM:∀ {bs:List (Nat×Nat)} {a:Nat},(∃ B,(a,B)∈bs)→(a,bAt bs a)∈bs
 | [],_,⟨B,h⟩=>by cases h
 | q::bs,a,⟨B,h⟩=>by
  unfold bAt
  rw [List.find?_cons]
  cases hb:Nat.beq q.1 a with
  | true =>
   have:=Nat.eq_of_beq_eq_true hb
   subst this
   exact List.mem_cons_self
  | false =>
   rcases List.mem_cons.1 h with h | h
   ·rw [← h,Nat.beq_refl] at hb;cases hb
   ·exact List.mem_cons_of_mem _ (sM ⟨B,h⟩)
theorem nD {bs:List (Nat×Nat)} (hp:bs.Pairwise (fun p q=>p.1≠q.1)) {p q:Nat×Nat} (h1:p∈bs) (h2:q∈bs) (he:p.1=q.1):p=q:=by
 induction hp with
 | nil=>cases h1
 | cons ha hb ih =>
  rcases List.mem_cons.1 h1 with h3 | h3<;>rcases List.mem_cons.1 h2 with h4 | h4
  ·rw [h3,h4]
  ·subst h3;exact absurd he (ha _ h4)
  ·subst h4;exact absurd he.symm (ha _ h3)
  ·exact ih h3 h4
theorem regS {id k:Nat} {ds:List Nat} (hm:P.follows .mixedOrders=true) (hlo:lo=W.heap.size) (hS:St w0 (Os none) (Gs none) K W) (hk:Nat.blt k os.length=true) (htl:oN os.toArray k=true) (ht:dG os.toArray n=true) (hal:al.all (fun a=>Nat.blt a k)=true) (hnd:al.Nodup) (hea:al.contains ef=false)
  (evE:Value→Option Value) (hev:(Nat.blt ef k=true∧evE=some)∨(Nat.ble os.length ef=true∧Nat.ble os.length jy=true∧evE=fun _=>none)) (hdst:(List.range k).all (fun j=>Nat.beq j ef || ((os.toArray[j]?).bind (·.dst)).isSome)=true) (hds:(os.drop k).all (fun o=>match o.dst with | some d=>ds.contains d | none=>true)=true)
  (h:BLS P n os.toArray Q l w0 K lo al ef jy ca ta Os Gs (fun Lr=>∀ (Bf:Nat→Nat) (y:Value) (W':World) (Ks:List (Nat×World)),W.heap.size≤W'.heap.size→(∀ q∈Ks,lo≤q.1)→St w0 (al.map (fun a=>(Bf a,ca a (evE y),ta a))++Os (evE y)) (Gs (evE y)) (Ks++K) W' →
   (∀ {O2 G2 K2 W2},St w0 O2 G2 K2 W2→(∀ q∈Ks,q∈K2)→eQ lo (XB (al.map (fun a=>(Bf a,ca a (evE y),ta a))++Os (evE y)) (Gs (evE y))) W' W2) →
   iE (os.take k) (wL al ef jy lo (XB (al.map (fun a=>(Bf a,ca a (evE y),ta a))++Os (evE y)) (Gs (evE y))) Bf y 0 Lr.reverse) (mA ds l) (fun l' W'=>cJ P n os.toArray Q (os.drop k) l' W') W') k [] 0):dS P n (.region id os.toArray true) Q l W:=by
 obtain ⟨Lr,h1,h2,hfin⟩:=sL ht k 0 [] rfl (fun j _=>by rfl) (fun i hi=>by omega) h
 rw [Nat.zero_add] at h1 h2
 have hk':k < os.length:=Nat.lt_of_lt_of_le (Nat.lt_succ_self _) (Nat.le_of_ble_eq_true hk)
 have hal':∀ a∈al,a < k:=fun a ha=>Nat.lt_of_lt_of_le (Nat.lt_succ_self _) (Nat.le_of_ble_eq_true (List.all_eq_true.1 hal a ha))
 have hea':ef∉al:=fun h=>by rw [List.contains_iff_mem.2 h] at hea;cases hea
 intro a ha
 refine wp_region_any hm (nB (t0:=a.tmps) (d0:=a.defers) (V:=VG al ef) (I:=IG al ef jy lo ca ta Os Gs Lr.reverse) (G:=GG w0 K lo ca ta Os Gs) (k:=k) (by simpa using hk') htl (by rw [ha.size];exact ht) (fun i hi=>(h2 i hi).step a ha) ?_ _ ⟨none,[]⟩ _ _ _ (by simp) (gE _) (fun j hj=>by rw [Array.getD_eq_getD_getElem?,Array.getElem?_replicate] at hj;split at hj<;>simp at hj) (fun i _=>by rw [Array.getD_eq_getD_getElem?,Array.getElem?_replicate];split<;>rfl) ⟨rfl,rfl,fun _ _=>rfl,⟨by unfold OE;exact hS.drew,by rw [hlo];exact Nat.le_refl _,(fun q hq=>by cases hq)⟩,⟨fun a _=>?_,(fun q hq=>by cases hq),List.Pairwise.nil,?_⟩,fun i d _ hj=>?_⟩)
 ·intro s LB a' W' hR hdone hnot
  obtain ⟨hG,hG2,hG3⟩:=hR.glob
  obtain ⟨v1,v2,v3,v4⟩:=hR.cons
  obtain ⟨ev,bs⟩:=s
  have hall:∀ x∈al,(x,bAt bs x)∈bs:=fun x hx=>sM ((v1 x hx).1 (hdone x (hal' x hx)))
  obtain ⟨y,hy⟩:∃ y,ev=evE y:=by
   rcases hev with ⟨e1,e2⟩ | ⟨e1,e3,e2⟩
   ·have h3:ev.isSome=true:=v4.1 (hdone ef (Nat.lt_of_lt_of_le (Nat.lt_succ_self _) (Nat.le_of_ble_eq_true e1)))
    obtain ⟨y,hy⟩:=Option.isSome_iff_exists.1 h3
    exact ⟨y,by rw [hy,e2]⟩
   ·refine ⟨undef,?_⟩
    rw [e2]
    have h3:=hnot ef (by have:=Nat.le_of_ble_eq_true e1;omega)
    cases ev with
    | none=>rfl
    | some v=>have:=v4.2 rfl;rw [h3] at this;cases this
  subst hy
  have hperm:bs.Perm (al.map (fun x=>(x,bAt bs x))):=by
   refine (List.perm_ext_iff_of_nodup (v3.imp (fun h e=>h (by rw [e]))) ?_).2 fun q=>?_
   ·refine List.Pairwise.map _ (fun x y (hxy:x≠y)=>?_) hnd
    intro e;exact hxy (congrArg Prod.fst e)
   ·constructor
    ·intro hq
     have h3:=hall q.1 (v2 q hq)
     have h4:=nD v3 hq h3 rfl
     rw [h4]
     exact List.mem_map.2 ⟨q.1,v2 q hq,rfl⟩
    ·intro hq
     obtain ⟨x,hx,rfl⟩:=List.mem_map.1 hq
     exact hall x hx
  have hO:(OE ca ta Os ⟨evE y,bs⟩).Perm (al.map (fun a=>(bAt bs a,ca a (evE y),ta a))++Os (evE y)):=by
   unfold OE
   refine List.Perm.append_right _ ?_
   have:=hperm.map (fun q:Nat×Nat=>(q.2,ca q.1 (evE y),ta q.1))
   rw [List.map_map] at this
   exact this
  have hG':=hG.perm hO
  have hX:∀ b,XB (OE ca ta Os ⟨evE y,bs⟩) (Gs (evE y)) b↔XB (al.map (fun a=>(bAt bs a,ca a (evE y),ta a))++Os (evE y)) (Gs (evE y)) b:=fun b=>by
   unfold XB
   constructor
   ·rintro (⟨p,hp,e⟩ | h);exact .inl ⟨p,hO.mem_iff.1 hp,e⟩;exact .inr h
   ·rintro (⟨p,hp,e⟩ | h);exact .inl ⟨p,hO.mem_iff.2 hp,e⟩;exact .inr h
  obtain ⟨Ks,c1,⟨qw,c2,c3⟩,c4⟩:=zX (((al.map (fun a=>(bAt bs a,ca a (evE y),ta a))++Os (evE y)).map (·.1))++(Gs (evE y)).filterMap (fun g=>g.v.ownBlock)) lo W'
  have hG4:=hG'.more Ks (fun q hq=>⟨(c1 q hq).2.1,fun p hp=>(c1 q hq).2.2 p.1 (List.mem_append_left _ (List.mem_map.2 ⟨p,hp,rfl⟩)),fun g hg b hb=>(c1 q hq).2.2 b (List.mem_append_right _ (List.mem_filterMap.2 ⟨g,hg,hb⟩))⟩)
  have hcov:∀ {O2 G2 K2 W2},St w0 O2 G2 K2 W2→(∀ q∈Ks,q∈K2)→eQ lo (XB (al.map (fun a=>(bAt bs a,ca a (evE y),ta a))++Os (evE y)) (Gs (evE y))) W' W2:=fun {O2 G2 K2 W2} h2 hq=>by
   refine ⟨⟨h2.below.os.trans hG.below.os.symm,h2.below.tape.trans hG.below.tape.symm,h2.below.output.trans hG.below.output.symm⟩,?_,fun b b1 b2 b3=>?_⟩
   ·have:=(h2.kept qw (hq qw c2)).1.1;rw [c3] at this;exact this
   ·obtain ⟨q,q1,q2,q3⟩:=c4 b b1 b2 (fun hb=>b3 (by
     rcases List.mem_append.1 hb with hb | hb
     ·obtain ⟨p,hp,rfl⟩:=List.mem_map.1 hb
      exact .inl ⟨p,hp,rfl⟩
     ·obtain ⟨g,hg,e⟩:=List.mem_filterMap.1 hb
      exact .inr ⟨g,hg,e⟩))
    exact ((h2.kept q (hq q q1)).1.2 b q2 q3).trans ((c1 q q1).2.1.2 b q2 q3).symm
  have htk:(os.take k).length=k:=by simp;omega
  refine kS (os.take k) (wL al ef jy lo (XB (al.map (fun a=>(bAt bs a,ca a (evE y),ta a))++Os (evE y)) (Gs (evE y))) (bAt bs) y 0 Lr.reverse) (mA ds l) (fun i d hi hd'=>?_) (fun i hi hd'=>?_) (hR.size.trans ha.size) (hR.defers.trans ha.defers) ?_ (fun l' h ha'=>?_) (hfin (bAt bs) y W' Ks (by rw [← hlo];exact hG2) (fun q hq=>(c1 q hq).1) hG4 hcov)
  ·have hik:i < k:=by omega
   have hd2:(os.toArray[i]?).bind (·.dst)=some d:=by rw [List.getElem?_take,if_pos hik] at hd';simpa using hd'
   obtain ⟨i1,i2,i3,i4⟩:=hR.done i d hd2 (hdone i hik)
   rw [kR Lr.reverse 0 i (by simp;omega),Nat.add_zero]
   cases hc1:al.contains i with
   | true =>
    rw [cond_true]
    obtain ⟨B,hB,e⟩:=i1 (List.contains_iff_mem.1 hc1)
    have:=nD v3 hB (hall i (List.contains_iff_mem.1 hc1)) rfl
    show _=_
    rw [e,show B=bAt bs i from congrArg Prod.snd this]
   | false =>
    rw [cond_false]
    have hni:i∉al:=fun hm'=>by rw [List.contains_iff_mem.2 hm'] at hc1;cases hc1
    cases hc2:Nat.beq i ef with
    | true =>
     rw [cond_true]
     have h5:=i2 (Nat.eq_of_beq_eq_true hc2)
     rcases hev with ⟨e1,e2⟩ | ⟨e1,e3,e2⟩
     ·rw [e2] at h5
      exact (Option.some.inj h5).symm
     ·rw [e2] at h5;cases h5
    | false =>
     rw [cond_false]
     have hne:i≠ef:=fun e=>by rw [e,Nat.beq_refl] at hc2;cases hc2
     have h6:AwS lo (XB (al.map (fun a=>(bAt bs a,ca a (evE y),ta a))++Os (evE y)) (Gs (evE y))) (atI Lr.reverse i) (a'.tmps.getD d undef) W':=fun w2 hw2=>i4 hni hne w2 ⟨hw2.1,hw2.2.1,fun b b1 b2 b3=>hw2.2.2 b b1 b2 (fun hb=>b3 ((hX b).2 hb))⟩
     cases hc3:Nat.beq i jy with
     | true =>
      rw [cond_true]
      refine ⟨?_,h6⟩
      rcases hev with ⟨e1,e2⟩ | ⟨e1,e3,e2⟩
      ·exact i3 (Nat.eq_of_beq_eq_true hc3) y (by rw [e2])
      ·have:=Nat.le_of_ble_eq_true e3
       have:=Nat.eq_of_beq_eq_true hc3
       omega
     | false=>rw [cond_false];exact h6
  ·have hik:i < k:=by omega
   have h3:=List.all_eq_true.1 hdst i (List.mem_range.2 hik)
   rw [Bool.or_eq_true] at h3
   have hd2:(os.toArray[i]?).bind (·.dst)=none:=by rw [List.getElem?_take,if_pos hik] at hd';simpa using hd'
   rcases h3 with h3 | h3
   ·rw [kR Lr.reverse 0 i (by simp;omega),Nat.add_zero]
    have hc1:al.contains i=false:=by rw [Nat.eq_of_beq_eq_true h3];exact hea
    rw [hc1,cond_false,h3,cond_true]
    exact ⟨y,rfl⟩
   ·rw [hd2] at h3;cases h3
  ·intro t v hv hno
   have hl:=kA hv (fI hv)
   have hnt:=fI hv
   rw [hR.frame t ?_]
   ·exact ha.at_ t v hl
   ·unfold freeT;rw [Array.all_eq_true'];intro o' ho'
    have ho2:o'∈os:=by simpa using ho'
    rw [← List.take_append_drop k os] at ho2
    rcases List.mem_append.1 ho2 with ho2 | ho2
    ·simpa using hno o' ho2
    ·have h5:=List.all_eq_true.1 hds o' ho2
     cases hx:o'.dst with
     | none=>simp
     | some d =>
      rw [hx] at h5
      simp
      intro e;subst e
      exact hnt (List.contains_iff_mem.1 h5)
  ·have:=h a' ha'
   simpa using this
 ·rw [Array.getD_eq_getD_getElem?,Array.getElem?_replicate]
  constructor
  ·intro h3;split at h3<;>simp at h3
  ·rintro ⟨B,hB⟩;cases hB
 ·rw [Array.getD_eq_getD_getElem?,Array.getElem?_replicate]
  constructor
  ·intro h3;split at h3<;>simp at h3
  ·intro h3;cases h3
 ·rw [Array.getD_eq_getD_getElem?,Array.getElem?_replicate] at hj
  split at hj<;>simp at hj
end
section
variable {P:Program} {n:Nat} {Q:Exit→Act→World→Prop} {l:Fr} {w0 W:World} {ops:Array Oper} {os:List Oper} {K:List (Nat×World)} {L:List Asr} {i:Nat} {O:Own} {G:bN}
variable {al:List Nat} {zc:Nat→List Value} {ta:Nat→TypeId} {lo ef jy:Nat} {d:Nat} {ty:TypeId} {pos:String} {aft_:Array Edge} {v:Value}
def rC (zc:Nat→List Value) (a:Nat):Option Value→List Value:=fun _=>zc a
def osNo (O:Own):Option Value→Own:=fun _=>O
def wM (G:bN):Option Value→bN:=fun _=>G
theorem mB {B b:Nat} (hb:b≠B):∀ (vs:List Value) (j:Nat) (w:World),(setMany w B j vs).heap[b]?=w.heap[b]?
 | [],_,_=>rfl
 | v::vs,j,w=>by unfold setMany;rw [mB hb vs (j+1)];exact Below.heap_setCell _ _ _ _ hb
theorem kB:∀ (vs:List Value) (B j:Nat) (w:World),((setMany w B j vs).os=w.os∧(setMany w B j vs).tape=w.tape∧(setMany w B j vs).output=w.output)∧(setMany w B j vs).heap.size=w.heap.size
 | [],_,_,_=>⟨⟨rfl,rfl,rfl⟩,rfl⟩
 | v::vs,B,j,w=>by
  unfold setMany
  obtain ⟨⟨h1,h2,h3⟩,h4⟩:=kB vs B (j+1) (w.setCell ⟨B,j,none⟩ v)
  exact ⟨⟨h1,h2,h3⟩,h4.trans (by simp [World.setCell])⟩
theorem mD {B j:Nat} {vs:List Value} {w:World} {X:Nat→Prop} (hX:X B):eQ 0 X w (setMany w B j vs) :=
 ⟨(kB vs B j w).1,Nat.le_of_eq (kB vs B j w).2.symm,fun b _ _ hb=>mB (fun e=>hb (by rw [e];exact hX)) vs j w⟩
theorem nE {T:TypeId} {B j m:Nat} {vs cs:List Value} {U:TypeId} {w:World} {y:Value} (hsz:∀ w,(sizeOf T).run P w = .ok m w) (hc:y.cells=vs.toArray) (hl:vs.length=m) (h1:vs.all Value.oneCell'=true) (hB:w.heap[B]?=some (.cells cs.toArray U (0,0))) (hj:j+m≤cs.length) :
  (Instr.storeAt T (.pointer (some ⟨B,j,none⟩)) y).run P w = .ok () (setMany w B j vs):=by
 subst hl
 have hst:=fU (P:=P) vs 0 j w cs hB (by omega) (fun u hu=>List.all_eq_true.1 h1 u hu)
 rw [Nat.add_zero] at hst
 simp [Instr.storeAt,Instr.sureAddr,storeVar,hsz,hc,hst]
theorem uI {o:Oper} {a:Act} {w w':World} {T:TypeId} {x y:Operand} {K':Act→World→Prop} (hi:ops[i]?=some o) (ho:o.op = .store T x y) (hod:o.dst=none) (hog:o.guard=none) (hr:(Instr.storeAt T (a.eval x) (a.eval y)).run P w = .ok () w') (hK:K' a w'):wpOp P ops Q i K' a w:=by
 unfold wpOp
 simp only [hi,dV hog,if_true]
 refine .inl ?_
 obtain ⟨dst,op,ty,pos,aft,gd⟩:=o
 simp only at ho hod
 subst ho;subst hod
 unfold Oper.wp execOp
 simp only [Sem.run_bind,hr,Result.andThen_ok,Sem.run_pure,Oper.upon_skip]
 exact hK
theorem oV {w:World} {base:Nat} {e:TypeId} {size b o c n jx:Nat} {xs:List Value} (h:w.ownsRow base e size (.slice (some ⟨b,o,none⟩) n c) n xs) (v:Value) (hj:jx < n * size):(w.setCell ⟨b,jx,none⟩ v).ownsRow base e size (.slice (some ⟨b,o,none⟩) n c) n (xs.set jx v):=by
 refine ⟨by rw [List.length_set];exact h.1,?_⟩
 rcases h.2 with ⟨e1,_⟩ | ⟨g,cap,cur,e1,hg,hh,hn,hc,hs,ht⟩
 ·cases e1
 ·cases e1
  refine .inr ⟨b,c,cur.setIfInBounds jx v,rfl,hg,?_,hn,hc,by simp [hs],?_⟩
  ·simp only [World.setCell,Array.getElem?_modify,if_true,hh,Option.map_some]
   simp
  ·rw [Array.toList_setIfInBounds,← ht]
   apply List.ext_getElem?
   intro k
   rw [List.getElem?_take,List.getElem?_set,List.getElem?_set,List.getElem?_take]
   by_cases hk:jx=k
   ·subst hk
    have h2:n * size≤c * size:=Nat.mul_le_mul_right _ hn
    rw [if_pos hj,if_pos rfl,if_pos rfl]
    simp only [List.length_take,Array.length_toList,hs]
    rw [if_pos (by omega),if_pos (by omega)]
   ·rw [if_neg hk,if_neg hk]
theorem St.setRow {w0 W:World} {O:Own} {G:bN} {K:List (Nat×World)} (h:St w0 O G K W) (i:Nat) {b c nn jx:Nat} {xs:List Value} {e:TypeId} {size:Nat} (hi:G[i]?=some ⟨.slice (some ⟨b,0,none⟩) nn c,nn,xs,e,size⟩) (v:Value) (hj:jx < nn * size):St w0 O (G.set i ⟨.slice (some ⟨b,0,none⟩) nn c,nn,xs.set jx v,e,size⟩) K (W.setCell ⟨b,jx,none⟩ v):=by
 have hg:=List.mem_of_getElem? hi
 have hgb:w0.heap.size≤b∧b < W.heap.size:=h.glt hg (b:=b) rfl
 have hap:=(h.rows _ hg).2 b rfl
 have other:∀ k,k≠b→(W.setCell ⟨b,jx,none⟩ v).heap[k]?=W.heap[k]?:=fun k hk=>Below.heap_setCell _ _ _ _ hk
 refine ⟨h.below.setCell (p:=⟨b,jx,none⟩) hgb.1 v,fun p hp=>⟨(h.own p hp).1,(other _ (hap.1 p hp)).trans (h.own p hp).2⟩,h.dist,fun q hq=>⟨⟨by have:=(h.kept q hq).1.1;simpa using this,fun k k1 k2=>(other k (fun e=>by rcases hap.2 q hq with h3 | h3<;>omega)).trans ((h.kept q hq).1.2 k k1 k2)⟩,(h.kept q hq).2⟩,fun r hr=>?_,sB hi (fun q hq hap=>hap) (fun q hq hap=>hap) h.gdist⟩
 rcases pR hi hr h.gdist with rfl | ⟨hr',hap'⟩
 ·exact ⟨oV (h.rows _ hg).1 v hj,(h.rows _ hg).2⟩
 ·refine ⟨fM (h.rows r hr').1 fun k hk=>other k (fun e=>?_),(h.rows r hr').2⟩
  subst e
  rcases hap' with h1 | h1
  ·exact h1 k hk rfl
  ·exact h1 k rfl hk
end
theorem bQ {w:World} {base size n:Nat} {e:TypeId} {v:Value} {xs:List Value} (h:w.ownsRow base e size v n xs):∃ a c,v = .slice a n c∧n≤c:=by
 rcases h.2 with ⟨rfl,rfl⟩ | ⟨g,cap,cur,rfl,_,_,hn,_⟩
 ·exact ⟨none,0,rfl,Nat.le_refl _⟩
 ·exact ⟨_,cap,rfl,hn⟩
theorem mE {w:World} {base size n:Nat} {e:TypeId} {a:Option Addr} {c:Nat} {xs:List Value} (h:w.ownsRow base e size (.slice a n c) n xs):(a=none∧n=0)∨∃ b,a=some ⟨b,0,none⟩∧base≤b∧∀ (j:Nat) u,xs[j]?=some u→w.cell? ⟨b,j,none⟩=some u:=by
 rcases h.2 with ⟨e1,e2⟩ | ⟨g,cap,cur,e1,hb,hh,hn,hm,hs,ht⟩
 ·cases e1;exact .inl ⟨rfl,e2⟩
 ·cases e1
  refine .inr ⟨g,rfl,hb,fun j u hj=>?_⟩
  rw [← ht,List.getElem?_take] at hj
  split at hj
  ·simp only [World.cell?,hh]
   simpa using hj
  ·cases hj
theorem nF {os:List Oper} {L L':List Asr} {l:Fr} {K:Fr→World→Prop} {W:World} (h:L=L') (k:iE os L' l K W):iE os L l K W:=h▸k
theorem bB {os:List Oper} {L:List Asr} {l:Fr} {W:World} {lo:Nat} {X:Nat→Prop} {c:Value} {K:Fr→World→Prop} {dst:Nat} {op:Op} {ty:TypeId} {pos:String} {aft:Array Edge} {g:Option (Nat×Bool)} (h:iE os L ((dst,c)::l) K W):iE (⟨some dst,op,ty,pos,aft,g⟩::os) (AwS lo X (isV c)::L) l K W:=fun v hv=>by
 have:v=c:=hv.here
 subst this;exact h
theorem pV {os:List Oper} {L:List Asr} {l:Fr} {W:World} {p:Asr} {K:Fr→World→Prop} {op:Op} {ty:TypeId} {pos:String} {aft:Array Edge} {g:Option (Nat×Bool)} (h:iE os L l K W):iE (⟨none,op,ty,pos,aft,g⟩::os) (p::L) l K W:=fun _ _=>h
section
variable {w0 W:World} {O:Own} {G:bN} {K:List (Nat×World)}
theorem St.castO {O':Own} (h:St w0 O G K W) (e:O=O'):St w0 O' G K W:=e▸h
theorem St.castG {G':bN} (h:St w0 O G K W) (e:G=G'):St w0 O G' K W:=e▸h
def cL (w0:World) (Kk:List (Nat×World)) (p:World→Prop):Prop:=∀ {O2:Own} {G2:bN} {K2:List (Nat×World)} {W2:World},St w0 O2 G2 K2 W2→(∀ q∈Kk,q∈K2)→p W2
theorem St.cut (h:St w0 O G K W) (i:Nat) {b c nn k:Nat} {xs:List Value} {e:TypeId} {size:Nat} (hi:G[i]?=some ⟨.slice (some ⟨b,0,none⟩) nn c,nn,xs,e,size⟩) (hk:k≤nn):St w0 O (G.set i ⟨.slice (some ⟨b,0,none⟩) k c,k,xs.take (k * size),e,size⟩) K W:=by
 have hg:=List.mem_of_getElem? hi
 have hrow:=(h.rows _ hg).1
 refine h.setG i hi (v':=.slice (some ⟨b,0,none⟩) k c) ?_ ⟨rfl,rfl,rfl,Nat.le_refl _,fun _ _ _=>rfl⟩ (.inl rfl)
 refine ⟨?_,?_⟩
 ·have h2:k * size≤nn * size:=Nat.mul_le_mul_right _ hk
  have:=hrow.1
  dsimp only at this ⊢;rw [List.length_take,this,Nat.min_eq_left h2]
 ·rcases hrow.2 with ⟨e1,_⟩ | ⟨g,cap,cur,e1,hg,hh,hn,hm,hs,ht⟩
  ·cases e1
  ·cases e1
   refine .inr ⟨b,c,cur,rfl,hg,hh,by dsimp only at hn;omega,hm,hs,?_⟩
   have h2:k * size≤nn * size:=Nat.mul_le_mul_right _ hk
   dsimp only at ht ⊢
   rw [← ht,List.take_take,Nat.min_eq_left h2]
end
section
variable {P:Program} {n:Nat} {ops:Array Oper} {Q:Exit→Act→World→Prop} {l:Fr} {w0 W:World} {O:Own} {G:bN} {K:List (Nat×World)} {os:List Oper} {d:Nat} {ty:TypeId} {pos:String} {aft:Array Edge}
theorem bW {f:FuncId} {args:Array Operand} {ts:Array TypeId} {vs:List Value} {R:Ending→World→Prop} (hgo:cC P f=true) (ha:args.toList.map (evL l)=vs.map some) (hc:Calls P f vs.toArray W R)
  (hd:Nat.blt d n=true)
  (h:∀ e W',R e W'→∃ v,e = .returned v∧cJ P n ops Q os ((d,v)::l) W'):cJ P n ops Q (⟨some d,.call { callee:=.value (.func f),args:=args,argTypes:=ts },ty,pos,aft,none⟩::os) l W:=fun a hl=>by
 refine wpList_plain rfl fun K' hK=>?_
 unfold Oper.wp
 rw [mV P a.eval W f args ts _ rfl rfl hgo,Oper.upon_enter]
 have hargs:args.map a.eval=vs.toArray:=by
  have key:∀ (xs:List Operand) (us:List Value),xs.map (evL l)=us.map some→xs.map a.eval=us:=by
   intro xs
   induction xs with
   | nil=>intro us h;cases us<;>simp at h ⊢
   | cons x xs ih =>
    intro us h
    cases us with
    | nil=>simp at h
    | cons u us =>
     simp only [List.map_cons,List.cons.injEq] at h
     simp only [List.map_cons,hl.ev x u h.1,ih us h.2]
  apply Array.ext'
  rw [Array.toList_map,key _ _ ha]
 rw [hargs]
 refine hc.mono ?_
 intro e W' hRe
 obtain ⟨v,rfl,hn⟩:=h e W' hRe
 exact hK _ _ (hn _ (hl.put hd))
theorem op_cut {T e:TypeId} {x y:Operand} {kk:IntKind} {k:Nat} {j:Int} {b c nn s:Nat} {xs:List Value} (hS:St w0 O G K W) (i:Nat) (hU:P.underlying T=some (.slice e)) (hs:∀ w,(sizeOf e).run P w = .ok s w) (hi:G[i]?=some ⟨.slice (some ⟨b,0,none⟩) nn c,nn,xs,e,s⟩) (hx:evL l x=some (.slice (some ⟨b,0,none⟩) nn c)) (hy:evL l y=some (.int kk j)) (hj:j=(k:Int)) (hk:k≤nn) (hd:Nat.blt d n=true)
  (h:St w0 O (G.set i ⟨.slice (some ⟨b,0,none⟩) k c,k,xs.take (k * s),e,s⟩) K W→cJ P n ops Q os ((d,.slice (some ⟨b,0,none⟩) k c)::l) W):cJ P n ops Q (⟨some d,.slice T x none (some y) none,ty,pos,aft,none⟩::os) l W :=
 opV (v:=.slice (some ⟨b,0,none⟩) k c) (fun ev he=>by
  subst hj
  have hc:nn≤c:=by
   rcases (hS.row i hi).2 with ⟨e1,_⟩ | ⟨g,cap,cur,e1,_,_,hn,_⟩
   ·cases e1
   ·cases e1;exact hn
  have h1:(0:Int)≤(k:Int):=by omega
  have h2:(k:Int)≤(c:Int):=by omega
  have h3:k≤c:=by omega
  unfold execOp;simp only [Option.map_some,Option.map_none];rw [he x _ hx,he y _ hy]
  simp [Instr.sliceAt,Instr.slice,Instr.sliceBounds,Instr.sliceBound,run_underlying hU,asIntOf,h3,hs]
  intro _;rfl) hd (h (hS.cut i hi hk))
theorem jS {w:World} (base:Nat) (t ty e:TypeId) (i:TypeInfo) (size:Nat) (ht:P.underlying t=some (.slice e)) (hi:P.info? e=some i)
  (v:Value) (n:Nat) (xs:List Value) (c:Nat) (hown:w.ownsRow base e size v n xs) :
  (Builtin.append_ #[t,t] ty #[v,.slice none 0 c]).run P w = .ok v w:=by
 rcases hown.2 with ⟨rfl,rfl⟩ | ⟨g,cap,cur,rfl,_,_,hnc,_⟩
 ·simp [Builtin.append_,run_underlying ht,sizeOf,typeInfo,hi,Builtin.lenOf,Builtin.firstCells]
 ·simp [Builtin.append_,run_underlying ht,sizeOf,typeInfo,hi,Builtin.lenOf,Builtin.firstCells,hnc,storeCells]
theorem pW {t e:TypeId} {x y:Operand} {i:Nat} {g:GR} {a:Option Addr} {m c:Nat} {news:List Value} {inf:TypeInfo} {z:Value} (hS:St w0 O G K W) (hU:P.underlying t=some (.slice e)) (hinf:P.info? e=some inf) (hz:inf.zero=some z) (hzs:z.cells.size=inf.size) (hsz:0 < inf.size)
  (hi:G[i]?=some g) (he:g.e=e) (hgs:g.size=inf.size) (hx:evL l x=some g.v) (hy:evL l y=some (.slice a m c)) (hc:(a=none∧m=0)∨∃ p,a=some p∧∀ (j:Nat) u,news[j]?=some u→W.cell? (p.add j)=some u) (hl:news.length=m * inf.size) (h1:∀ u∈news,u.oneCell'=true)
  (h63:g.n+m≤maxLen) (hbytes:(g.n+m) * inf.bytes≤140737488355328) (hd:Nat.blt d n=true)
  (h:∀ v' W',St w0 O (G.set i ⟨v',g.n+m,g.xs++news,e,g.size⟩) K W'→cJ P n ops Q os ((d,v')::l) W') :
  cJ P n ops Q (⟨some d,.call { callee:=.builtin .append,args:=#[x,y],argTypes:=#[t,t] },ty,pos,aft,none⟩::os) l W:=by
 subst he
 have hrow:=hS.row i hi
 rcases hc with ⟨rfl,rfl⟩ | ⟨p,rfl,hc⟩
 ·have hr:=jS (P:=P) w0.heap.size t ty g.e inf g.size hU hinf g.v g.n g.xs c hrow
  have hn:news=[]:=List.eq_nil_of_length_eq_zero (by simpa using hl)
  subst hn
  refine opV (W':=W) (v:=g.v) (fun ev hev=>?_) hd (h g.v W ?_)
  ·unfold execOp
   simp only [resolve,invoke,builtin,Sem.run_bind,Sem.run_pure,Result.andThen_ok,List.map_toArray,List.map_cons,List.map_nil,hev x _ hx,hev y _ hy,hr]
  ·rw [List.append_nil,Nat.add_zero]
   exact hS.setG i hi hrow ⟨rfl,rfl,rfl,Nat.le_refl _,fun _ _ _=>rfl⟩ (.inl rfl)
 ·rw [hgs] at hrow
  obtain ⟨v',W',hr,h2,h3,h4⟩:=gW (P:=P) (w:=W) w0.heap.size t ty g.e inf z hU hinf hz hzs hsz g.v g.n g.xs hrow p m c news hl hc h1 h63 hbytes hS.below.size
  rw [← hgs] at h2
  refine opV (W':=W') (v:=v') (fun ev hev=>?_) hd (h v' W' (hS.setG i hi h2 h3 h4))
  unfold execOp
  simp only [resolve,invoke,builtin,Sem.run_bind,Sem.run_pure,Result.andThen_ok,List.map_toArray,List.map_cons,List.map_nil,hev x _ hx,hev y _ hy,hr]
end
section
variable {P:Program} {n:Nat} {Q:Exit→Act→World→Prop} {l:Fr} {w0 W:World} {ops:Array Oper} {os:List Oper} {K:List (Nat×World)} {L:List Asr} {i:Nat}
variable {O:Own} {Gs:List Value→bN} {efs:List Nat} {lo:Nat} {s:List Value}
variable {d:Nat} {op:Op} {ty:TypeId} {pos:String} {aft_:Array Edge} {v:Value} {gd:Option (Nat×Bool)}
variable {Goal:List Asr→Prop}
theorem zY {P:Program} {n:Nat} {l:Fr} {W:World} {fn:Func} {t u v:Nat} {x y z:Value} (hf:fn.results=#[.tmp t,.tmp u,.tmp v]) (hx:dO l t=some x) (hy:dO l u=some y) (hz:dO l v=some z):∀ a,Has n l a→(results fn a.tmps).run P W = .ok (.tuple #[x,y,z]) W:=fun a ha=>by
 have h1:=ha.at_ t _ hx
 have h2:=ha.at_ u _ hy
 have h3:=ha.at_ v _ hz
 rw [Array.getD_eq_getD_getElem?] at h1 h2 h3
 simp [results,hf,h1,h2,h3]
end
section
variable {P:Program} {ops:Array Oper} {Q:Exit→Act→World→Prop} {σ:Type}
structure RInvF (fr:Nat→Bool) (ops:Array Oper) (t0:Array Value) (d0:List Deferred) (G:σ→World→Prop) (I:σ→Nat→Value→World→Prop) (V:σ→Array Bool→Prop) (s:σ) (L:Array Bool) (a:Act) (w:World):Prop where
 size:a.tmps.size=t0.size
 defers:a.defers=d0
 frame:∀ t,fr t=true→a.tmps.getD t undef=t0.getD t undef
 glob:G s w
 cons:V s L
 done:∀ i d,(ops[i]?).bind (·.dst)=some d→L.getD i false=true→I s i (a.tmps.getD d undef) w
def wN (P:Program) (fr:Nat→Bool) (ops:Array Oper) (Q:Exit→Act→World→Prop) (t0:Array Value) (G:σ→World→Prop) (I:σ→Nat→Value→World→Prop) (V:σ→Array Bool→Prop) (i:Nat):Prop :=
 ∀ s L (a:Act) w,(∀ t,fr t=true→a.eval (.tmp t)=t0.getD t undef)→G s w→V s L→L.size=ops.size→fN ops L→kP ops L i→(∀ j d,bG ops i j d=true→I s j (a.eval (.tmp d)) w) →
  wpOp P ops Q i (fun a' w'=>∃ s' v,a'=a.put ((ops[i]?).bind (·.dst)) v∧V s' (L.setIfInBounds i true)∧G s' w'∧(∀ d,(ops[i]?).bind (·.dst)=some d→I s' i v w')∧(∀ j d,j≠i→(ops[j]?).bind (·.dst)=some d→I s j (a.tmps.getD d undef) w→I s' j (a.tmps.getD d undef) w')) a w
theorem mF {fr:Nat→Bool} {t0:Array Value} {d0:List Deferred} {G:σ→World→Prop} {I:σ→Nat→Value→World→Prop} {V:σ→Array Bool→Prop} {k:Nat} (hfr:∀ i d,i < k→(ops[i]?).bind (·.dst)=some d→fr d=false) (hk:k < ops.size) (hl:oN ops k=true) (ht:dG ops t0.size=true)
  (hstep:∀ i,i < k→wN P fr ops Q t0 G I V i)
  (hfin:∀ s L a w,RInvF fr ops t0 d0 G I V s L a w→(∀ i,i < k→L.getD i false=true)→(∀ i,k≤i→L.getD i false=false)→wpList P ops Q (ops.toList.drop k) a w) :
  ∀ (fuel:Nat) (s:σ) (L:Array Bool) (a:Act) (w:World),L.size=ops.size→L.toList.count false≤fuel→fN ops L→(∀ i,k≤i→L.getD i false=false)→RInvF fr ops t0 d0 G I V s L a w→wpAny P .any ops Q fuel L a w:=by
 intro fuel
 induction fuel with
 | zero =>
  intro s L a w hs hc hcl hn h
  have:=eI _ _ (jR (by omega) (hn k (Nat.le_refl _)))
  omega
 | succ fuel ih =>
  intro s L a w hs hc hcl hn h
  by_cases hall:∀ i,i < k→L.getD i false=true
  ·have hcnt:ops.size - k≤L.toList.count false:=by
    have key:∀ (l:List Bool) (k:Nat),(∀ i,k≤i→i < l.length→l[i]?=some false)→l.length - k≤l.count false:=by
     intro l
     induction l with
     | nil=>intro k _;simp
     | cons b l ihl =>
      intro k hk
      cases k with
      | zero =>
       have h0:=hk 0 (Nat.le_refl _) (by simp)
       simp at h0;subst h0
       have:=ihl 0 (fun i _ hi=>by have:=hk (i+1) (by omega) (by simpa using hi);simpa using this)
       simp at this ⊢;omega
      | succ k =>
       have:=ihl k (fun i hi hi2=>by have:=hk (i+1) (by omega) (by simpa using hi2);simpa using this)
       rw [List.count_cons];simp;omega
    have:=key L.toList k (fun i h1 h2=>jR (by simpa using h2) (hn i h1))
    simpa [hs] using this
   exact pT (fun _ _=>trivial) hl ht (ops.size - k) k (fuel+1) L a w (by omega) (Nat.le_refl _) (by omega) hs hcl hall hn (hfin s L a w h hall hn)
  ·refine ⟨fun hr=>?_,fun i hi=>?_⟩
   ·exfalso;apply hall
    intro i hi
    have h1:=fL ht hs hr i (by omega)
    rw [Array.getD_eq_getD_getElem?,Array.getElem?_eq_getElem (by omega)] at h1 ⊢
    simpa using h1
   ·obtain ⟨his,hr⟩:=nA hi hs
    have hik:i < k:=by
     rcases Nat.lt_or_ge i k with h1 | h1
     ·exact h1
     ·exfalso;apply hall
      intro x hx
      exact jF hcl hr x (mK hl his h1 (by omega))
    have hc1:=eI _ _ (jR (by omega) hr.1)
    refine wpOp_mono ?_ (hstep i hik s L a w (fun t ht=>h.frame t ht) h.glob h.cons hs hcl hr (fun j d hw=>?_))
    ·rintro a' w' ⟨s',v,rfl,hV,hG,hI,hst⟩
     refine ih s' _ _ _ (by simpa using hs) ?_ (hcl.next hr (by omega)) (fun x hx=>by rw [getD_set_ne false (by omega)];exact hn x hx) ⟨by rw [jO];exact h.size,by rw [gQ];exact h.defers,fun t hf=>?_,hG,hV,fun j d hd hj=>?_⟩
     ·rw [Array.toList_setIfInBounds];omega
     ·rw [eJ ?_]
      ·exact h.frame t hf
      ·intro hd
       rw [hfr i t hik hd] at hf;cases hf
     ·by_cases hji:j=i
      ·subst hji
       rw [nU hd (by rw [h.size];exact (fS ht hd).1)]
       exact hI d hd
      ·rw [getD_set_ne false (Ne.symm hji)] at hj
       rw [eJ (fun e=>hji ((fS ht e).2 j hd))]
       exact hst j d hji hd (h.done j d hd hj)
    ·have hj:j∈aft ops i:=by
      unfold bG at hw
      unfold aft
      cases ho:ops[i]? with
      | none=>simp [ho] at hw
      | some o =>
       simp only [ho,Bool.and_eq_true,beq_iff_eq] at hw
       obtain ⟨e,he,h2⟩:=Array.any_eq_true'.1 hw.1
       simp only [Bool.and_eq_true,beq_iff_eq] at h2
       exact List.mem_map.2 ⟨e,List.mem_filter.2 ⟨Array.mem_toList_iff.2 he,h2.2⟩,h2.1⟩
     have hd:(ops[j]?).bind (·.dst)=some d:=by
      unfold bG at hw
      rw [Bool.and_eq_true,beq_iff_eq] at hw
      exact hw.2
     exact h.done j d hd (hr.2 j hj)
end
abbrev Sy:=Nat→Option Value
def upd (s:Sy) (i:Nat) (v:Value):Sy:=fun j=>bif Nat.beq j i then some v else s j
theorem jJ (s:Sy) (i:Nat) (v:Value):upd s i v i=some v:=by unfold upd;rw [Nat.beq_refl];rfl
theorem dE (s:Sy) {i j:Nat} (v:Value) (h:j≠i):upd s i v j=s j:=by
 unfold upd
 cases hb:Nat.beq j i with
 | true=>exact absurd (Nat.eq_of_beq_eq_true hb) h
 | false=>rfl
def isE (s:Sy) (e:Nat):Asr:=fun v _=>s e=some v
def LS (E:List Nat) (s:Sy):Nat→List Asr→List Asr
 | _,[]=>[]
 | j,q::L=>(bif E.contains j then isE s j else q)::LS E s (j+1) L
theorem wO {E:List Nat} {s:Sy}:∀ (L:List Asr) (j i:Nat),i < L.length→atI (LS E s j L) i=(bif E.contains (i+j) then isE s (i+j) else atI L i)
 | [],j,i,h=>by simp at h
 | q::L,j,0,h=>by rw [Nat.zero_add];rfl
 | q::L,j,i+1,h=>by
  show atI (LS E s (j+1) L) i=_
  rw [wO L (j+1) i (by simpa using h),show i+1+j=i+(j+1) by omega]
  rfl
theorem rG {E:List Nat} {s:Sy}:∀ (L:List Asr) (j:Nat),(LS E s j L).length=L.length
 | [],_=>rfl
 | q::L,j=>by show (LS E s (j+1) L).length+1=_;rw [rG L (j+1)];rfl
theorem gA {E:List Nat} {s:Sy} {L:List Asr} {j:Nat} {p:Asr} (hl:Nat.blt j L.length=true) (he:E.contains j=false) (h:atI L j=p):atI (LS E s 0 L) j=p:=by
 rw [wO L 0 j (Nat.lt_of_lt_of_le (Nat.lt_succ_self _) (Nat.le_of_ble_eq_true hl)),Nat.add_zero,he,cond_false,h]
structure AB where
 a:Nat
 T:TypeId
 zs:List Value
 st:Nat
def Ba:Value→Nat
 | .pointer (some p)=>p.block
 | .slice (some p) _ _=>p.block
 | _=>0
def AB.cs (q:AB) (s:Sy):List Value:=match s q.st with | none=>q.zs | some y=>fR q.zs 0 y.cells.toList
def AS (al:List AB) (s:Sy):Own:=al.flatMap fun q=>match s q.a with | some v=>[(Ba v,q.cs s,q.T)] | none=>[]
theorem AS_none (al:List AB):AS al (fun _=>none)=[]:=by
 unfold AS
 induction al with
 | nil=>rfl
 | cons q al ih=>rw [List.flatMap_cons,ih];rfl
theorem lM (q:AB) (al:List AB) (s:Sy):AS (q::al) s=(match s q.a with | some v=>[(Ba v,q.cs s,q.T)] | none=>[])++AS al s:=rfl
theorem AB.cs_upd {q:AB} {s:Sy} {i:Nat} {v:Value} (h:q.st≠i):q.cs (upd s i v)=q.cs s:=by unfold AB.cs;rw [dE _ _ h]
theorem kT {s:Sy} {i:Nat} {v:Value}:∀ {al:List AB},(∀ q∈al,q.a≠i)→(∀ q∈al,q.st≠i)→AS al (upd s i v)=AS al s
 | [],_,_=>rfl
 | q::al,h1,h2=>by
  rw [lM,lM,kT (fun x hx=>h1 x (List.mem_cons_of_mem _ hx)) (fun x hx=>h2 x (List.mem_cons_of_mem _ hx)),dE _ _ (h1 q List.mem_cons_self),AB.cs_upd (h2 q List.mem_cons_self)]
theorem nG {s:Sy} {i:Nat} {v:Value} (hs:s i=none):∀ {al:List AB} {q:AB},q∈al→q.a=i→(al.map (·.a)).Nodup→(∀ q∈al,q.st≠i)→((Ba v,q.cs s,q.T)::AS al s).Perm (AS al (upd s i v))
 | [],_,h,_,_,_=>by cases h
 | x::al,q,h,hq,hn,hst=>by
  rw [List.map_cons,List.nodup_cons] at hn
  rw [lM,lM,AB.cs_upd (hst x List.mem_cons_self)]
  by_cases hx:x.a=i
  ·have hxq:q=x:=by
    rcases List.mem_cons.1 h with h | h
    ·exact h
    ·exact absurd (List.mem_map.2 ⟨q,h,by rw [hq,hx]⟩) hn.1
   subst hxq
   rw [kT (al:=al) (fun y hy e=>hn.1 (List.mem_map.2 ⟨y,hy,by rw [e,hx]⟩)) (fun y hy=>hst y (List.mem_cons_of_mem _ hy)),hx,jJ,hs]
   exact List.Perm.refl _
  ·have hm:q∈al:=by
    rcases List.mem_cons.1 h with h | h
    ·subst h;exact absurd hq hx
    ·exact h
   rw [dE _ _ hx]
   refine List.Perm.trans ?_ (List.Perm.append_left _ (nG hs hm hq hn.2 (fun y hy=>hst y (List.mem_cons_of_mem _ hy))))
   exact List.perm_middle.symm
section
variable {P:Program} {n:Nat} {Q:Exit→Act→World→Prop} {l:Fr} {w0 W:World} {ops opf:Array Oper} {os:List Oper} {K:List (Nat×World)} {L:List Asr} {i:Nat}
variable {Ob:Own} {al:List AB} {G:Sy→bN} {E:List Nat} {lo:Nat} {s:Sy}
theorem pX {a b:Nat} (h:(!Nat.beq a b)=true):a≠b:=fun e=>by rw [e,Nat.beq_refl] at h;cases h
theorem rH (h:al.all (fun q => !Nat.beq q.st i)=true):∀ q∈al,q.st≠i:=fun q hq=>pX (List.all_eq_true.1 h q hq)
theorem a_ne (h:al.all (fun q => !Nat.beq q.a i)=true):∀ q∈al,q.a≠i:=fun q hq=>pX (List.all_eq_true.1 h q hq)
abbrev OY (al:List AB) (Ob:Own) (s:Sy):Own:=AS al s++Ob
def GY0 (w0:World) (K:List (Nat×World)) (lo:Nat) (al:List AB) (Ob:Own) (G:Sy→bN) (s:Sy) (w:World):Prop:=St w0 (OY al Ob s) (G s) K w∧lo≤w.heap.size
def GY (w0:World) (K:List (Nat×World)) (lo:Nat) (al:List AB) (Ob:Own) (G:Sy→bN) (E:List Nat) (L:List Asr) (s:Sy) (w:World):Prop:=GY0 w0 K lo al Ob G s w∧∀ e∈E,∀ v,s e=some v→AwS lo (XB (OY al Ob s) (G s)) (atI L e) v w
def VY (E:List Nat) (s:Sy) (L:Array Bool):Prop:=(∀ e∈E,(L.getD e false=true↔(s e).isSome=true))∧∀ e,e∉E→s e=none
def IY (lo:Nat) (al:List AB) (Ob:Own) (G:Sy→bN) (E:List Nat) (L:List Asr) (s:Sy) (i:Nat) (v:Value) (w:World):Prop:=(i∈E→s i=some v)∧AwS lo (XB (OY al Ob s) (G s)) (atI L i) v w
structure Kn (ops:Array Oper) (E:List Nat) (i:Nat) (s:Sy):Prop where
 yes:∀ e,E.contains e=true→(earlyL ops i).contains e=true→∃ v,s e=some v
 no:∀ e,(earlyL ops e).contains i=true→s e=none
 out:∀ e,E.contains e=false→s e=none
 self:s i=none
def TrY (al:List AB) (Ob:Own) (G:Sy→bN) (i:Nat) (s s':Sy) (w w':World):Prop:=eQ 0 (XB (OY al Ob s) (G s)) w w'∧(∀ b,XB (OY al Ob s') (G s') b→XB (OY al Ob s) (G s) b∨w.heap.size≤b)∧∀ j,j≠i→s' j=s j
def SY (P:Program) (n:Nat) (ops opf:Array Oper) (Q:Exit→Act→World→Prop) (l:Fr) (w0:World) (K:List (Nat×World)) (lo:Nat) (al:List AB) (Ob:Own) (G:Sy→bN) (E:List Nat) (L:List Asr) (i:Nat):Prop :=
 ∀ t0,Has n l t0→∀ s LB (a:Act) w,(∀ t,freeT opf t=true→a.eval (.tmp t)=t0.tmps.getD t undef)→GY0 w0 K lo al Ob G s w→VY E s LB→LB.size=ops.size→fN ops LB→kP ops LB i→(∀ j d,bG ops i j d=true→IY lo al Ob G E L s j (a.eval (.tmp d)) w) →
  wpOp P ops Q i (fun a' w'=>∃ s' v,a'=a.put ((ops[i]?).bind (·.dst)) v∧VY E s' (LB.setIfInBounds i true)∧GY0 w0 K lo al Ob G s' w'∧TrY al Ob G i s s' w w'∧(∀ d,(ops[i]?).bind (·.dst)=some d→IY lo al Ob G E L s' i v w')∧(i∈E→∀ y,s' i=some y→AwS lo (XB (OY al Ob s') (G s')) (atI L i) y w')) a w
theorem SY.step (h:SY P n ops opf Q l w0 K lo al Ob G E L i):∀ a,Has n l a→wN P (freeT opf) ops Q a.tmps (GY w0 K lo al Ob G E L) (IY lo al Ob G E L) (VY E) i:=fun t0 h0 s LB a w hF hG hV hs hc hr hD=>by
 refine wpOp_mono ?_ (h t0 h0 s LB a w hF hG.1 hV hs hc hr hD)
 rintro a' w' ⟨s',v,h1,h2,h3,⟨t1,t2,t3⟩,h5,h6⟩
 refine ⟨s',v,h1,h2,⟨h3,fun e he y hy=>?_⟩,h5,fun j d hji hd hj=>⟨fun hjE=>?_,hj.2.next t1 t2⟩⟩
 ·by_cases hei:e=i
  ·subst hei;exact h6 he y hy
  ·rw [t3 e hei] at hy
   exact (hG.2 e he y hy).next t1 t2
 ·rw [t3 j hji];exact hj.1 hjE
theorem Bb (ht:dG ops n=true) {j d:Nat} (hw:bG ops i j d=true):j < i:=by
 cases ho:ops[i]? with
 | none=>simp [bG,ho] at hw
 | some o =>
  simp only [bG,ho,Bool.and_eq_true,beq_iff_eq] at hw
  obtain ⟨e,he,h2⟩:=Array.any_eq_true'.1 hw.1
  simp only [Bool.and_eq_true,beq_iff_eq] at h2
  rw [← h2.1];exact iQ ht ho e he h2.2
theorem SY.ext {L1 L2:List Asr} (ht:dG ops n=true) (hag:∀ j,j≤i→atI L1 j=atI L2 j) (h:SY P n ops opf Q l w0 K lo al Ob G E L1 i):SY P n ops opf Q l w0 K lo al Ob G E L2 i:=fun t0 h0 s LB a w hF hG hV hs hc hr hD=>by
 have h2:=h t0 h0 s LB a w hF hG hV hs hc hr (fun j d hw=>by unfold IY;rw [hag j (Nat.le_of_lt (Bb ht hw))];exact hD j d hw)
 unfold IY at h2
 rw [hag i (Nat.le_refl _)] at h2
 exact h2
theorem kn_of {LB:Array Bool} (hV:VY E s LB) (hs:LB.size=ops.size) (hc:fN ops LB) (hr:kP ops LB i):Kn ops E i s where
 yes e he h:=Option.isSome_iff_exists.1 ((hV.1 e (List.contains_iff_mem.1 he)).1 (jF hc hr e (List.contains_iff_mem.1 h)))
 no e h:=by
  cases hse:s e with
  | none=>rfl
  | some v =>
   have hE:e∈E:=Decidable.byContradiction fun hn=>by rw [hV.2 e hn] at hse;cases hse
   have hd:LB.getD e false=true:=(hV.1 e hE).2 (by rw [hse];rfl)
   have:=gT (D:=fun x=>LB.getD x false=true) (hc e hd) (fun j hj x hx=>hc j hj x hx) i (List.contains_iff_mem.1 h)
   rw [hr.1] at this;cases this
 out e h:=hV.2 e (fun hm=>by rw [List.contains_iff_mem.2 hm] at h;cases h)
 self:=by
  cases hse:s i with
  | none=>rfl
  | some v =>
   have hE:i∈E:=Decidable.byContradiction fun hn=>by rw [hV.2 i hn] at hse;cases hse
   have:=(hV.1 i hE).2 (by rw [hse];rfl)
   rw [hr.1] at this;cases this
theorem yE {a:Act} {w:World} (hD:∀ j d,bG ops i j d=true→IY lo al Ob G E L s j (a.eval (.tmp d)) w):∀ j d,bG ops i j d=true→atI (LS E s 0 L) j (a.eval (.tmp d)) w:=fun j d hw=>by
 rcases Nat.lt_or_ge j L.length with hj | hj
 ·rw [wO L 0 j hj,Nat.add_zero]
  cases hc:E.contains j with
  | true=>rw [cond_true];exact (hD j d hw).1 (List.contains_iff_mem.1 hc)
  | false=>rw [cond_false];exact (hD j d hw).2.here
 ·rw [sJ (by rw [rG];exact hj)];trivial
theorem joinF {x y:Code} (R:Fr→World→Prop) (h2:∀ l W,R l W→dS P n y Q l W) (h1:dS P n x (Exit.then (fun a' w'=>∃ l',R l' w'∧Has n l' a') Q) l W):dS P n (.seq x y) Q l W :=
 aH (fun a ha=>wp_mono (h1 a ha) (fun e a' w' h=>by
  cases e with
  | normal=>obtain ⟨l',hr,hh⟩:=h;exact h2 l' w' hr a' hh
  | _=>exact h))
theorem XF.join {R:Fr→World→Prop} (l':Fr) (hs:tZ l l') (hI:R l' W):XF (Exit.then (fun a' w'=>∃ l',R l' w'∧Has n l' a') Q) .normal n l W:=fun a ha=>⟨l',hI,ha.sub hs⟩
structure Fst (ops opf:Array Oper):Prop where
 same:∀ (i:Nat) (o:Oper),opf[i]?=some o→ops[i]?=some o
theorem bT {os:List Oper} {k:Nat}:Fst os.toArray (os.take k).toArray:=⟨fun i o h=>by
 have h1:(os.take k)[i]?=some o:=by simpa using h
 rw [List.getElem?_take] at h1
 split at h1
 ·simpa using h1
 ·cases h1⟩
theorem Fst.waits (h:Fst ops opf) {i j d:Nat} (hw:bG opf i j d=true):bG ops i j d=true:=by
 unfold bG at hw ⊢
 rw [Bool.and_eq_true] at hw ⊢
 cases ho:opf[i]? with
 | none=>simp [ho] at hw
 | some o =>
  rw [ho] at hw
  rw [h.same i o ho]
  refine ⟨hw.1,?_⟩
  cases hj:opf[j]? with
  | none=>simp [hj] at hw
  | some o2=>rw [hj] at hw;rw [h.same j o2 hj];exact hw.2
variable {d:Nat} {op:Op} {ty:TypeId} {pos:String} {aft_:Array Edge} {v:Value} {gd:Option (Nat×Bool)}
theorem Bc {LB:Array Bool} (hV:VY E s LB) (hi:i∉E):VY E s (LB.setIfInBounds i true) :=
 ⟨fun e he=>by rw [getD_set_ne false (fun h=>hi (by rw [h];exact he))];exact hV.1 e he,hV.2⟩
theorem vy_eff {LB:Array Bool} (hV:VY E s LB) (hs:LB.size=ops.size) (hi:i∈E) (hlt:i < ops.size) (v:Value):VY E (upd s i v) (LB.setIfInBounds i true):=by
 refine ⟨fun e he=>?_,fun e he=>?_⟩
 ·by_cases hei:e=i
  ·subst hei
   rw [jJ,Array.getD_eq_getD_getElem?,Array.getElem?_setIfInBounds_self_of_lt (by omega)]
   exact ⟨fun _=>rfl,fun _=>rfl⟩
  ·rw [dE _ _ hei,getD_set_ne false (Ne.symm hei)];exact hV.1 e he
 ·rw [dE _ _ (fun h=>he (by rw [h];exact hi))];exact hV.2 e he
theorem sN (hie:E.contains i=false) (hi:ops[i]?=some ⟨some d,op,ty,pos,aft_,gd⟩)
  (h:∀ (t0 a:Act) s w,Has n l t0→(∀ t,freeT opf t=true→a.eval (.tmp t)=t0.tmps.getD t undef)→GY0 w0 K lo al Ob G s w→Kn ops E i s→(∀ j d,bG ops i j d=true→IY lo al Ob G E L s j (a.eval (.tmp d)) w)→(∀ j d,bG ops i j d=true→atI (LS E s 0 L) j (a.eval (.tmp d)) w) →
   wpOp P ops Q i (fun a' w'=>∃ v,a'=a.put (some d) v∧AwS lo (XB (OY al Ob s) (G s)) (atI L i) v w'∧Below w.heap.size w w') a w):SY P n ops opf Q l w0 K lo al Ob G E L i:=fun t0 h0 s LB a w hF hG hV hs hc hr hD=>by
 have hie':i∉E:=fun h=>by rw [List.contains_iff_mem.2 h] at hie;cases hie
 refine wpOp_mono ?_ (h t0 a s w h0 hF hG (kn_of hV hs hc hr) hD (yE hD))
 rintro a' w' ⟨v,rfl,hA,hb⟩
 exact ⟨s,v,by rw [hi];rfl,Bc hV hie',⟨hG.1.grow hb,Nat.le_trans hG.2 hb.size⟩,⟨kQ hb,fun b hb=>.inl hb,fun _ _=>rfl⟩,fun _ _=>⟨fun h=>absurd h hie',hA⟩,fun h=>absurd h hie'⟩
theorem syV (hf:Fst ops opf) (li:Fr) (hie:E.contains i=false) (hi:ops[i]?=some ⟨some d,op,ty,pos,aft_,gd⟩) (hw:∀ s,gP ops (LS E s 0 L) i ⟨some d,op,ty,pos,aft_,gd⟩) (hli:∀ s,qY n opf l (LS E s 0 L) i li)
  (hr:∀ s w,St w0 Ob (G s) K w→dT P li ⟨some d,op,ty,pos,#[],none⟩ w v w) (hI:atI L i=isV v):SY P n ops opf Q l w0 K lo al Ob G E L i :=
 sN hie hi fun t0 a s w h0 hF hG hk hD hD'=>by
  exact iY hi ((hw s).yes hD') (by rw [gJ a.eval _ _ _ _ pos _ #[] _ none];exact hr s w (St.drops _ hG.1) a.eval (jQ h0 hF (fun j d h=>hD' j d (hf.waits h)) (hli s))) ⟨v,rfl,by rw [hI];exact sI,Below.refl _ _⟩
theorem nZ {o:Oper} (hie:E.contains i=true) (hi:ops[i]?=some o)
  (h:∀ (t0 a:Act) s w,Has n l t0→(∀ t,freeT opf t=true→a.eval (.tmp t)=t0.tmps.getD t undef)→GY0 w0 K lo al Ob G s w→Kn ops E i s→(∀ j d,bG ops i j d=true→IY lo al Ob G E L s j (a.eval (.tmp d)) w)→(∀ j d,bG ops i j d=true→atI (LS E s 0 L) j (a.eval (.tmp d)) w) →
   wpOp P ops Q i (fun a' w'=>∃ v y,a'=a.put o.dst v∧(∀ d,o.dst=some d→v=y)∧St w0 (OY al Ob (upd s i y)) (G (upd s i y)) K w'∧eQ 0 (XB (OY al Ob s) (G s)) w w'∧(∀ b,XB (OY al Ob (upd s i y)) (G (upd s i y)) b→XB (OY al Ob s) (G s) b∨w.heap.size≤b)∧AwS lo (XB (OY al Ob (upd s i y)) (G (upd s i y))) (atI L i) y w') a w):SY P n ops opf Q l w0 K lo al Ob G E L i:=fun t0 h0 s LB a w hF hG hV hs hc hr hD=>by
 have hie':i∈E:=List.contains_iff_mem.1 hie
 refine wpOp_mono ?_ (h t0 a s w h0 hF hG (kn_of hV hs hc hr) hD (yE hD))
 rintro a' w' ⟨v,y,rfl,hvy,hSt,hsame,hX,hA⟩
 refine ⟨upd s i y,v,by rw [hi];rfl,vy_eff hV hs hie' (Array.getElem?_eq_some_iff.1 hi).1 y,⟨hSt,Nat.le_trans hG.2 hsame.2.1⟩,⟨hsame,hX,fun j hj=>dE _ _ hj⟩,fun d hd=>?_,fun _ y2 h2=>?_⟩
 ·rw [hi] at hd
  have e:=hvy d hd
  subst e
  exact ⟨fun _=>jJ _ _ _,hA⟩
 ·rw [jJ] at h2;cases h2;exact hA
def Bd (lo:Nat):Asr:=fun v _=>∃ B,v = .pointer (some ⟨B,0,none⟩)∧lo≤B
theorem Be {T:TypeId} {z:Value} (q:AB) (hie:E.contains i=true) (hi:ops[i]?=some ⟨some d,.alloc T,ty,pos,aft_,none⟩) (hz:∀ w,(zeroValue T).run P w = .ok z w) (hq:q∈al) (hqa:q.a=i) (hqT:q.T=T) (hqz:z.cells=q.zs.toArray) (hqs:(earlyL ops q.st).contains i=true∨E.contains q.st=false)
  (hn:(al.map (·.a)).Nodup) (hst_:al.all (fun q => !Nat.beq q.st i)=true) (hG:∀ s v,G (upd s i v)=G s) (hL:atI L i=Bd lo):SY P n ops opf Q l w0 K lo al Ob G E L i :=
 nZ hie hi fun t0 a s w h0 hF hg hk hD hD'=>by
  have hst:=rH hst_
  have hcs:q.cs s=q.zs:=by
   unfold AB.cs
   rw [show s q.st=none from hqs.elim (fun h=>hk.no _ h) (fun h=>hk.out _ h)]
  have hB:Below w.heap.size w (w.alloc (.cells q.zs.toArray T)):=(Below.refl _ _).alloc (Nat.le_refl _) _
  have hperm:=nG (v:=.pointer (some ⟨w.heap.size,0,none⟩)) hk.self hq hqa hn hst
  rw [hcs,hqT] at hperm
  have h1:=hg.1.alloc q.zs T
  have hSt:=h1.perm (O':=OY al Ob (upd s i (.pointer (some ⟨w.heap.size,0,none⟩)))) (List.Perm.append_right Ob hperm)
  refine iY hi rfl (v:=.pointer (some ⟨w.heap.size,0,none⟩)) (w':=w.alloc (.cells q.zs.toArray T)) (by unfold execOp;simp only [];simp [Instr.alloc,newVar,newRow,hz,hqz]) ⟨_,_,rfl,fun _ _=>rfl,by rw [hG];exact hSt,kQ hB,fun b hb=>?_,by rw [hL];exact fun _ _=>⟨_,rfl,hg.2⟩⟩
  rw [hG] at hb
  rcases hb with ⟨p,hp,rfl⟩ | h
  ·have hp2:=(List.Perm.append_right Ob hperm).mem_iff.2 hp
   rw [List.cons_append] at hp2
   rcases List.mem_cons.1 hp2 with rfl | hp2
   ·exact .inr (Nat.le_refl _)
   ·exact .inl (.inl ⟨p,hp2,rfl⟩)
  ·exact .inl (.inr h)
def BLY (P:Program) (n:Nat) (ops opf:Array Oper) (Q:Exit→Act→World→Prop) (l:Fr) (w0:World) (K:List (Nat×World)) (lo:Nat) (al:List AB) (Ob:Own) (G:Sy→bN) (E:List Nat) (Goal:List Asr→Prop):Nat→List Asr→Nat→Prop
 | 0,Lr,_=>Goal Lr
 | m+1,Lr,k=>∃ q,SY P n ops opf Q l w0 K lo al Ob G E (q::Lr).reverse k∧BLY P n ops opf Q l w0 K lo al Ob G E Goal m (q::Lr) (k+1)
variable {Goal:List Asr→Prop}
theorem oY {Lr:List Asr} {k:Nat} (h:Goal Lr):BLY P n ops opf Q l w0 K lo al Ob G E Goal 0 Lr k:=h
theorem bJ {m k:Nat} {Lr:List Asr} (k':Nat) (hk:k+1=k') (q:Asr) (h:SY P n ops opf Q l w0 K lo al Ob G E (q::Lr).reverse k) (hr:BLY P n ops opf Q l w0 K lo al Ob G E Goal m (q::Lr) k'):BLY P n ops opf Q l w0 K lo al Ob G E Goal (m+1) Lr k:=by
 subst hk;exact ⟨q,h,hr⟩
theorem yF (ht:dG ops n=true):∀ (m k:Nat) (Lr:List Asr),Lr.length=k→(∀ i,i < k→SY P n ops opf Q l w0 K lo al Ob G E Lr.reverse i)→BLY P n ops opf Q l w0 K lo al Ob G E Goal m Lr k →
  ∃ Lr',Lr'.length=k+m∧(∀ i,i < k+m→SY P n ops opf Q l w0 K lo al Ob G E Lr'.reverse i)∧Goal Lr'
 | 0,k,Lr,hl,hg,h=>⟨Lr,hl,hg,h⟩
 | m+1,k,Lr,hl,hg,⟨q,hr,hn⟩=>by
  have hap:∀ j,j < k→atI Lr.reverse j=atI (q::Lr).reverse j:=fun j hj=>by rw [List.reverse_cons,iW (by simp;omega)]
  obtain ⟨L',h1,h3,h4⟩:=yF ht m (k+1) (q::Lr) (by simp [hl]) (fun i hi=>by
   by_cases hik:i=k
   ·subst hik;exact hr
   ·exact SY.ext ht (fun j hj=>hap j (by omega)) (hg i (by omega))) hn
  exact ⟨L',by omega,fun i hi=>h3 i (by omega),h4⟩
def Bg (E:List Nat) (lo:Nat) (X:Nat→Prop) (s:Sy):Nat→List Asr→List Asr
 | _,[]=>[]
 | j,q::L=>(bif E.contains j then isE s j else AwS lo X q)::Bg E lo X s (j+1) L
theorem pY {X:Nat→Prop}:∀ (L:List Asr) (j i:Nat),i < L.length→atI (Bg E lo X s j L) i=(bif E.contains (i+j) then isE s (i+j) else AwS lo X (atI L i))
 | [],j,i,h=>by simp at h
 | q::L,j,0,h=>by rw [Nat.zero_add];rfl
 | q::L,j,i+1,h=>by
  show atI (Bg E lo X s (j+1) L) i=_
  rw [pY L (j+1) i (by simpa using h),show i+1+j=i+(j+1) by omega]
  rfl
theorem regY {id k:Nat} {ds:List Nat} {G0:bN} (hm:P.follows .mixedOrders=true) (hlo:lo=W.heap.size) (hS:St w0 Ob G0 K W) (hG0:G (fun _=>none)=G0) (hk:Nat.blt k os.length=true) (htl:oN os.toArray k=true) (ht:dG os.toArray n=true) (hE:E.all (fun a=>Nat.blt a k)=true)
  (hdst:(List.range k).all (fun j=>E.contains j || ((os.toArray[j]?).bind (·.dst)).isSome)=true) (hds:(os.drop k).all (fun o=>match o.dst with | some d=>ds.contains d | none=>true)=true)
  (h:BLY P n os.toArray (os.take k).toArray Q l w0 K lo al Ob G E (fun Lr=>∀ (s:Sy) (W':World) (Ks:List (Nat×World)),(∀ e,E.contains e=true→∃ v,s e=some v)→W.heap.size≤W'.heap.size→(∀ q∈Ks,lo≤q.1)→St w0 (OY al Ob s) (G s) (Ks++K) W' →
   (∀ {O2 G2 K2 W2},St w0 O2 G2 K2 W2→(∀ q∈Ks,q∈K2)→eQ lo (XB (OY al Ob s) (G s)) W' W2)→(∀ e,E.contains e=true→∀ v,s e=some v→AwS lo (XB (OY al Ob s) (G s)) (atI Lr.reverse e) v W')→(∀ e,E.contains e=false→s e=none) →
   iE (os.take k) (Bg E lo (XB (OY al Ob s) (G s)) s 0 Lr.reverse) (mA ds l) (fun l' W'=>cJ P n os.toArray Q (os.drop k) l' W') W') k [] 0):dS P n (.region id os.toArray true) Q l W:=by
 obtain ⟨Lr,h1,h2,hfin⟩:=yF ht k 0 [] rfl (fun i hi=>by omega) h
 rw [Nat.zero_add] at h1 h2
 have hk':k < os.length:=Nat.lt_of_lt_of_le (Nat.lt_succ_self _) (Nat.le_of_ble_eq_true hk)
 have hE':∀ a∈E,a < k:=fun a ha=>Nat.lt_of_lt_of_le (Nat.lt_succ_self _) (Nat.le_of_ble_eq_true (List.all_eq_true.1 hE a ha))
 intro a ha
 have hrep:∀ (m j:Nat),(Array.replicate m false).getD j false=false:=fun m j=>by
  rw [Array.getD_eq_getD_getElem?,Array.getElem?_replicate];split<;>rfl
 refine wp_region_any hm (mF (fr:=freeT (os.take k).toArray) (t0:=a.tmps) (d0:=a.defers) (V:=VY E) (I:=IY lo al Ob G E Lr.reverse) (G:=GY w0 K lo al Ob G E Lr.reverse) (k:=k) (fun i d hik hd=>?_) (by simpa using hk') htl (by rw [ha.size];exact ht) (fun i hi=>(h2 i hi).step a ha) ?_ _ (fun _=>none) _ _ _ (by simp) (gE _) (fun j hj=>by rw [hrep] at hj;cases hj) (fun i _=>hrep _ _) ⟨rfl,rfl,fun _ _=>rfl,⟨⟨by unfold OY;rw [AS_none,hG0];exact hS.drew,by rw [hlo];exact Nat.le_refl _⟩,fun _ _ _ h=>(by cases h)⟩,⟨fun e he=>⟨fun h3=>(by rw [hrep] at h3;cases h3),fun h3=>(by cases h3)⟩,fun _ _=>rfl⟩,fun i d _ hj=>(by rw [hrep] at hj;cases hj)⟩)
 ·have hd2:(os[i]?).bind (·.dst)=some d:=by simpa using hd
  obtain ⟨o,ho,hod⟩:=Option.bind_eq_some_iff.1 hd2
  have hm2:o∈os.take k:=List.mem_of_getElem? (i:=i) (by rw [List.getElem?_take,if_pos hik];exact ho)
  cases hf:freeT (os.take k).toArray d with
  | false=>rfl
  | true =>
   unfold freeT at hf
   have:=Array.all_eq_true'.1 hf o (by simpa using hm2)
   rw [hod] at this
   simp at this
 intro s LB a' W' hR hdone hnot
 obtain ⟨⟨hG,hG2⟩,hG3⟩:=hR.glob
 obtain ⟨v1,v2⟩:=hR.cons
 have hall:∀ e,E.contains e=true→∃ v,s e=some v:=fun e he=>Option.isSome_iff_exists.1 ((v1 e (List.contains_iff_mem.1 he)).1 (hdone e (hE' e (List.contains_iff_mem.1 he))))
 obtain ⟨Ks,c1,⟨qw,c2,c3⟩,c4⟩:=zX (((OY al Ob s).map (·.1))++(G s).filterMap (fun g=>g.v.ownBlock)) lo W'
 have hG4:=hG.more Ks (fun q hq=>⟨(c1 q hq).2.1,fun p hp=>(c1 q hq).2.2 p.1 (List.mem_append_left _ (List.mem_map.2 ⟨p,hp,rfl⟩)),fun g hg b hb=>(c1 q hq).2.2 b (List.mem_append_right _ (List.mem_filterMap.2 ⟨g,hg,hb⟩))⟩)
 have hcov:∀ {O2 G2 K2 W2},St w0 O2 G2 K2 W2→(∀ q∈Ks,q∈K2)→eQ lo (XB (OY al Ob s) (G s)) W' W2:=fun {O2 G2 K2 W2} h2 hq=>by
  refine ⟨⟨h2.below.os.trans hG.below.os.symm,h2.below.tape.trans hG.below.tape.symm,h2.below.output.trans hG.below.output.symm⟩,?_,fun b b1 b2 b3=>?_⟩
  ·have:=(h2.kept qw (hq qw c2)).1.1;rw [c3] at this;exact this
  ·obtain ⟨q,q1,q2,q3⟩:=c4 b b1 b2 (fun hb=>b3 (by
    rcases List.mem_append.1 hb with hb | hb
    ·obtain ⟨p,hp,rfl⟩:=List.mem_map.1 hb
     exact .inl ⟨p,hp,rfl⟩
    ·obtain ⟨g,hg,e⟩:=List.mem_filterMap.1 hb
     exact .inr ⟨g,hg,e⟩))
   exact ((h2.kept q (hq q q1)).1.2 b q2 q3).trans ((c1 q q1).2.1.2 b q2 q3).symm
 have htk:(os.take k).length=k:=by simp;omega
 refine kS (os.take k) (Bg E lo (XB (OY al Ob s) (G s)) s 0 Lr.reverse) (mA ds l) (fun i d hi hd'=>?_) (fun i hi hd'=>?_) (hR.size.trans ha.size) (hR.defers.trans ha.defers) ?_ (fun l' h ha'=>?_) (hfin s W' Ks hall (by rw [← hlo];exact hG2) (fun q hq=>(c1 q hq).1) hG4 hcov (fun e he v hv=>hG3 e (List.contains_iff_mem.1 he) v hv) (fun e he=>v2 e (fun hm=>by rw [List.contains_iff_mem.2 hm] at he;cases he)))
 ·have hik:i < k:=by omega
  have hd2:(os.toArray[i]?).bind (·.dst)=some d:=by rw [List.getElem?_take,if_pos hik] at hd';simpa using hd'
  obtain ⟨i1,i2⟩:=hR.done i d hd2 (hdone i hik)
  rw [pY Lr.reverse 0 i (by simp;omega),Nat.add_zero]
  cases hc1:E.contains i with
  | true=>rw [cond_true];exact i1 (List.contains_iff_mem.1 hc1)
  | false=>rw [cond_false];exact i2
 ·have hik:i < k:=by omega
  have h3:=List.all_eq_true.1 hdst i (List.mem_range.2 hik)
  have hd2:(os.toArray[i]?).bind (·.dst)=none:=by rw [List.getElem?_take,if_pos hik] at hd';simpa using hd'
  rw [hd2] at h3
  have hc:E.contains i=true:=by simpa using h3
  rw [pY Lr.reverse 0 i (by simp;omega),Nat.add_zero,hc,cond_true]
  exact hall i hc
 ·intro t v hv hno
  have hl:=kA hv (fI hv)
  rw [hR.frame t ?_]
  ·exact ha.at_ t v hl
  ·unfold freeT;rw [Array.all_eq_true'];intro o' ho'
   have ho2:o'∈os.take k:=by simpa using ho'
   simpa using hno o' ho2
 ·have:=h a' ha'
  simpa using this
end
end
section
open Go.RowKit
open Go.WideMaps (KeyLaw)
open Go.ChangeMaps (setBlock)
section
variable {α:Type} {P:Program} {K E S T:TypeId} {κ:α→Value} {W:World} {lo b:Nat} {f:α→List Value}
theorem oO {w:World} {base n p:Nat} {e:TypeId} {size:Nat} {v:Value} {xs:List Value} (h:w.ownsRow base e size v n xs) {es:Array MapEntry} {clock:Nat} (hb:w.heap[b]?=some (.map es clock)) (hp:v.ownBlock=some p):p≠b:=by
 rcases h.2 with ⟨rfl,_⟩ | ⟨g,cap,cur,rfl,_,h4,_⟩
 ·cases hp
 ·intro e1
  have:g=p:=Option.some.inj hp
  rw [this,e1,hb] at h4;cases h4
variable {n:Nat} {ops:Array Oper} {Q:Exit→Act→World→Prop} {os:List Oper} {l:Fr} {w0:World} {O:Own} {G:bN} {Kk:List (Nat×World)} {d:Nat} {ty:TypeId} {pos:String} {aft:Array Edge}
theorem wP (hS:St w0 O G Kk W) (hd:Nat.blt d n=true) (h:∀ B W',W'.heap[B]?=some (.map #[] 0)→W.heap.size≤B→St w0 O G ((W.heap.size,W')::Kk) W'→cJ P n ops Q os ((d,.map (some B))::l) W'):cJ P n ops Q (⟨some d,.makeMap T none,ty,pos,aft,none⟩::os) l W :=
 opV (W':=W.alloc (.map #[] 0)) (v:=.map (some W.heap.size)) (fun ev he=>by
  unfold execOp
  simp [Instr.makeMap,Result.andThen]) hd (h _ _ (heap_alloc_new W _) (Nat.le_refl _) (hS.call ((Below.refl _ _).alloc (Nat.le_refl _) _)))
def lX (W:World) (b:Nat):World:={ W with heap:=W.heap.extract 0 (b+1) }
theorem fO (h:b < W.heap.size):(lX W b).heap.size=b+1:=by simp [lX];omega
theorem sO (h:b < W.heap.size):b < (lX W b).heap.size:=by rw [fO h];exact Nat.lt_succ_self _
theorem oZ (h:b < W.heap.size):(lX W b).heap[b]?=W.heap[b]?:=by
 rw [Array.getElem?_eq_getElem (sO h),Array.getElem?_eq_getElem h]
 simp [lX]
end
end
section
open Go.RowKit
open Go.WideMaps (KeyLaw string_law keyOf_string_mk)
open Go.ChangeMaps (setBlock)
section
variable {m:List (ByteArray×Value)} {b:Nat} {W W':World} {P:Program} {T K S:TypeId} {k:ByteArray} {v z:Value}
end
theorem St.setMap9 {w0 W W':World} {O:Own} {G:bN} {K:List (Nat×World)} {b:Nat} (h:St w0 O G K W) (hm:W.mapTurned W' b) (hwb:w0.heap.size≤b) (hK:∀ q∈K,b < q.1∨q.2.heap.size≤b):St w0 O G K W':=by
 have hg:=hm.grown
 obtain ⟨es,clock,_,_,hb,_⟩:=hm
 have ne:∀ (k:Nat) (cs:Array Value) (T:TypeId),W.heap[k]?=some (.cells cs T (0,0))→k≠b:=fun k cs T hk e=>by
  subst e
  rw [hb] at hk;cases hk
 have blk:∀ k,k < W.heap.size→k≠b→W'.heap[k]?=W.heap[k]?:=fun k hk hne=>hg.block _ hk (fun e=>hne (Option.some.inj e))
 refine ⟨h.below.grown hg h.below.size (fun k hk=>by cases hk;exact hwb),fun p hp=>?_,h.dist,fun q hq=>⟨⟨Nat.le_trans (h.kept q hq).1.1 hg.size,fun k h1 h2=>?_⟩,(h.kept q hq).2⟩,fun g hg'=>⟨fM (h.rows g hg').1 fun k hk=>?_,(h.rows g hg').2⟩,h.gdist⟩
 ·obtain ⟨h1,h2⟩:=h.own p hp
  exact ⟨h1,(blk _ (dF h2) (ne _ _ _ h2)).trans h2⟩
 ·refine (blk k (Nat.lt_of_lt_of_le h2 (h.kept q hq).1.1) ?_).trans ((h.kept q hq).1.2 k h1 h2)
  rcases hK q hq with h3 | h3<;>omega
 ·exact blk k (((h.rows g hg').1.lt k hk).2) (oO (h.rows g hg').1 hb hk)
section
variable {P:Program} {n:Nat} {ops:Array Oper} {Q:Exit→Act→World→Prop} {l:Fr} {w0 W:World} {O:Own} {G:bN} {Kk:List (Nat×World)} {os:List Oper} {d b:Nat} {ty T K S:TypeId} {pos:String} {aft:Array Edge} {x y z:Operand} {m:List (ByteArray×Value)} {k:ByteArray} {v u:Value}
end
end
section
open Go.RowKit
open Go.WideMaps (KeyLaw)
open Go.ChangeMaps (setBlock)
structure MkE {α:Type} (P:Program) (K:TypeId) (κ:α→Value) (m:List (α×Value)) (es:Array MapEntry):Prop where
 is:es.toList.map (fun x=>(x.key,x.val))=m.map (fun q=>(κ q.1,q.2))
 dist:m.Pairwise (fun x y=>x.1≠y.1)
 ok:∀ q∈m,∃ l,keyOf P K (κ q.1)=some l
def Mk {α:Type} (P:Program) (K:TypeId) (κ:α→Value) (m:List (α×Value)) (b:Nat) (W:World):Prop:=∃ es clock,W.heap[b]?=some (.map es clock)∧MkE P K κ m es
section
variable {α:Type} {κ:α→Value} {m:List (α×Value)} {b:Nat} {W W':World} {P:Program} {T K S:TypeId} {k:α} {v z:Value}
theorem Mk.same (h:Mk P K κ m b W) (he:b < W.heap.size→W'.heap[b]?=W.heap[b]?):Mk P K κ m b W':=by
 obtain ⟨es,clock,h1,h2⟩:=h
 exact ⟨es,clock,(he (dF h1)).trans h1,h2⟩
theorem Mk.lt (h:Mk P K κ m b W):b < W.heap.size:=by
 obtain ⟨es,clock,h1,h2⟩:=h
 exact dF h1
theorem Mk.below (h:Mk P K κ m b W) (hb:Below W.heap.size W W'):Mk P K κ m b W':=h.same (fun h1=>hb.block _ h1)
theorem Mk.made (hb:W.heap[b]?=some (.map #[] 0)):Mk P K κ [] b W:=⟨#[],0,hb,⟨rfl,List.Pairwise.nil,fun q hq=>by cases hq⟩⟩
theorem MkE.mem {es:Array MapEntry} (h:MkE P K κ m es) {e:MapEntry} (he:e∈es.toList):∃ q∈m,e.key=κ q.1∧e.val=q.2:=by
 have h1:(e.key,e.val)∈es.toList.map (fun x=>(x.key,x.val)):=List.mem_map.2 ⟨e,he,rfl⟩
 rw [h.is] at h1
 obtain ⟨q,hq,e2⟩:=List.mem_map.1 h1
 exact ⟨q,hq,(congrArg Prod.fst e2).symm,(congrArg Prod.snd e2).symm⟩
theorem MkE.valid {es:Array MapEntry} (h:MkE P K κ m es):∀ e∈es.toList,∃ l,keyOf P K e.key=some l:=fun e he=>by
 obtain ⟨q,hq,e3,_⟩:=h.mem he
 rw [e3];exact h.ok q hq
theorem MkE.has {es:Array MapEntry} (h:MkE P K κ m es) {q:α×Value} (hq:q∈m):∃ e∈es.toList,e.key=κ q.1∧e.val=q.2:=by
 have h1:(κ q.1,q.2)∈m.map (fun q=>(κ q.1,q.2)):=List.mem_map.2 ⟨q,hq,rfl⟩
 rw [← h.is] at h1
 obtain ⟨e,he,e2⟩:=List.mem_map.1 h1
 exact ⟨e,he,congrArg Prod.fst e2,congrArg Prod.snd e2⟩
theorem mk_uniq {m:List (α×Value)} (h:m.Pairwise (fun x y=>x.1≠y.1)) {x y:α×Value} (hx:x∈m) (hy:y∈m) (e:x.1=y.1):x=y:=by
 induction h with
 | nil=>cases hx
 | cons a _ ih =>
  rcases List.mem_cons.1 hx with hx1 | hx1
  ·rcases List.mem_cons.1 hy with hy1 | hy1
   ·rw [hx1,hy1]
   ·subst hx1;exact absurd e (a _ hy1)
  ·rcases List.mem_cons.1 hy with hy1 | hy1
   ·subst hy1;exact absurd e.symm (a _ hx1)
   ·exact ih hx1 hy1
theorem Mk.yes (h:Mk P K κ m b W) (L:KeyLaw P K) (hinj:∀ x y,κ x=κ y→x=y) (ht:P.underlying T=some (.map K S)) (hm:(k,v)∈m):(Instr.lookup T (.map (some b)) (κ k) true).run P W = .ok (.tuple #[v,.bool true]) W:=by
 obtain ⟨es,clock,hb,hE⟩:=h
 obtain ⟨l,hl⟩:=hE.ok _ hm
 rcases L.find W hl es.toList hE.valid with ⟨_,h2⟩ | ⟨j,e0,h1,h2,h3⟩
 ·obtain ⟨e,he,hek,_⟩:=hE.has hm
  exact absurd hek (h2 e he)
 ·obtain ⟨q,hq,hqk,hqv⟩:=hE.mem (List.mem_of_getElem? h2)
  have e1:q.1=k:=hinj _ _ (hqk.symm.trans h3)
  obtain rfl:q=(k,v):=mk_uniq hE.dist hq hm e1
  simp [Instr.lookup,run_underlying ht,MapKept.run_getObj_map hb,L.check W _ hl,h1,hqv,Result.andThen]
theorem Mk.no (h:Mk P K κ m b W) (L:KeyLaw P K) (hinj:∀ x y,κ x=κ y→x=y) (ht:P.underlying T=some (.map K S)) (hz:∀ w,(zeroValue S).run P w = .ok z w) (hn:∀ q∈m,q.1≠k) (hk:∃ l,keyOf P K (κ k)=some l):(Instr.lookup T (.map (some b)) (κ k) true).run P W = .ok (.tuple #[z,.bool false]) W:=by
 obtain ⟨es,clock,hb,hE⟩:=h
 obtain ⟨l,hl⟩:=hk
 rcases L.find W hl es.toList hE.valid with ⟨h1,_⟩ | ⟨j,e0,h1,h2,h3⟩
 ·simp [Instr.lookup,run_underlying ht,MapKept.run_getObj_map hb,L.check W _ hl,h1,hz,Result.andThen]
 ·obtain ⟨q,hq,hqk,_⟩:=hE.mem (List.mem_of_getElem? h2)
  exact absurd (hinj _ _ (hqk.symm.trans h3)) (hn q hq)
theorem Mk.put (h:Mk P K κ m b W) (L:KeyLaw P K) (hinj:∀ x y,κ x=κ y→x=y) (ht:P.underlying T=some (.map K S)) (hn:∀ q∈m,q.1≠k) (hk:∃ l,keyOf P K (κ k)=some l) (v:Value):∃ W',(Instr.mapUpdate T (.map (some b)) (κ k) v).run P W = .ok () W'∧Mk P K κ (m++[(k,v)]) b W'∧W.mapTurned W' b:=by
 obtain ⟨es,clock,hb,hE⟩:=h
 obtain ⟨l,hl⟩:=hk
 rcases L.find W hl es.toList hE.valid with ⟨h1,_⟩ | ⟨j,e0,h1,h2,h3⟩
 ·refine ⟨setBlock W b (.map (es.push ⟨κ k,v,clock⟩) (clock+1)),?_,⟨_,_,(MapKept.heap_set hb).1,⟨by rw [Array.toList_push,List.map_append,hE.is,List.map_append];rfl,?_,fun q hq=>?_⟩⟩,⟨es,clock,_,_,hb,rfl⟩⟩
  ·simp [Instr.mapUpdate,run_underlying ht,MapKept.run_getObj_map hb,L.check W false hl,h1,MapKept.run_setObj_map _ hb,Result.andThen,setBlock]
  ·rw [List.pairwise_append]
   exact ⟨hE.dist,List.pairwise_singleton _ _,fun x hx y hy=>by rw [List.mem_singleton] at hy;subst hy;exact hn x hx⟩
  ·rcases List.mem_append.1 hq with hq | hq
   ·exact hE.ok q hq
   ·rw [List.mem_singleton] at hq;subst hq;exact ⟨l,hl⟩
 ·obtain ⟨q,hq,hqk,_⟩:=hE.mem (List.mem_of_getElem? h2)
  exact absurd (hinj _ _ (hqk.symm.trans h3)) (hn q hq)
end
section
variable {α:Type} {κ:α→Value} {P:Program} {n:Nat} {ops:Array Oper} {Q:Exit→Act→World→Prop} {l:Fr} {w0 W:World} {O:Own} {G:bN} {Kk:List (Nat×World)} {os:List Oper} {d b:Nat} {ty T K S:TypeId} {pos:String} {aft:Array Edge} {x y z:Operand} {m:List (α×Value)} {k:α} {v u:Value}
theorem Bh (hS:St w0 O G Kk W) (hM:Mk P K κ m b W) (L:KeyLaw P K) (hinj:∀ x y,κ x=κ y→x=y) (ht:P.underlying T=some (.map K S)) (hn:∀ q∈m,q.1≠k) (hk:∃ l,keyOf P K (κ k)=some l) (hwb:w0.heap.size≤b) (hK:∀ q∈Kk,b < q.1∨q.2.heap.size≤b) (hx:evL l x=some (.map (some b))) (hy:evL l y=some (κ k)) (hv:evL l z=some v)
  (h:∀ W',St w0 O G Kk W'→Mk P K κ (m++[(k,v)]) b W'→W.mapTurned W' b→cJ P n ops Q os l W'):cJ P n ops Q (⟨none,.mapUpdate T x y z,ty,pos,aft,none⟩::os) l W:=fun a ha=>by
 obtain ⟨W',h1,h2,h3⟩:=hM.put L hinj ht hn hk v
 refine wpList_plain rfl fun K' hK'=>?_
 unfold Oper.wp execOp
 simp only []
 rw [ha.ev x _ hx,ha.ev y _ hy,ha.ev z _ hv]
 simp only [Sem.run_bind,h1,Result.andThen_ok,Sem.run_pure,Oper.upon_skip]
 exact hK' _ _ (h W' (hS.setMap9 h3 hwb hK) h2 h3 a ha)
end
end
section
open Go.RowKit
theorem zZ (P:Program) (ev:Operand→Value) (w:World) (x:Operand) (f:FuncId) (args:Array Operand) (ts:Array TypeId) (o:Oper) (h:o.op = .call { callee:=.value x,args:=args,argTypes:=ts }) (hf:ev x = .func (.func f) #[] #[]) (hb:cC P f=true):(execOp ev o).run P w = .ok (.enter f (args.map ev)) w:=by
 unfold cC at hb
 cases hx:P.funcs[f]? with
 | none=>rw [hx] at hb;cases hb
 | some fn =>
  rw [hx] at hb
  simp only [Bool.and_eq_true,Bool.not_eq_true',beq_eq_false_iff_ne,ne_eq] at hb
  obtain ⟨c,hc⟩:=Option.isSome_iff_exists.1 hb.1
  unfold execOp;simp only [h];simp [go_sem,resolve,hf,callFunc,hx,hc,hb.2]
section
variable {P:Program} {n:Nat} {Q:Exit→Act→World→Prop} {l:Fr} {w0 W:World} {ops:Array Oper} {os:List Oper} {O:Own} {G:bN} {K:List (Nat×World)} {d:Nat} {ty:TypeId} {pos:String} {aft:Array Edge}
end
section
variable {P:Program} {ops opf:Array Oper} {Q:Exit→Act→World→Prop} {n:Nat} {l:Fr} {w0 W:World} {K:List (Nat×World)} {lo:Nat} {al:List AB} {Ob:Own} {G:Sy→bN} {E:List Nat} {L:List Asr} {i:Nat}
variable {d:Nat} {op:Op} {ty:TypeId} {pos:String} {aft_:Array Edge} {v:Value} {gd:Option (Nat×Bool)}
theorem lN {T e:TypeId} {m sz:Nat} {xs:List (Nat×Operand)} {us:List Value} {z:Value} {cs:List Value} (hf0:Fst ops opf) (hie:E.contains i=false) (hi:ops[i]?=some ⟨some d,.buildSlice T m xs.toArray,ty,pos,aft_,gd⟩) (hw:∀ s,gP ops (LS E s 0 L) i ⟨some d,.buildSlice T m xs.toArray,ty,pos,aft_,gd⟩)
  (hU:P.underlying T=some (.slice e)) (hs:∀ w,(sizeOf e).run P w = .ok sz w) (hz:∀ w,(zeroValue e).run P w = .ok z w) (hm:Nat.ble (m * sz) 16777216=true) (hm0:Nat.beq (m * sz) 0=false) (hp:∀ s,wH n opf l (LS E s 0 L) i (xs.map (·.2)) (us.map isV))
  (hf:Instr.fill (fun i=>some (i * sz,sz)) ((Array.range (m * sz)).map (z.cells[· % z.cells.size]!)) ((xs.map (·.1)).zip us)=some cs.toArray) (hI:atI L i=fQ lo m e cs):SY P n ops opf Q l w0 K lo al Ob G E L i :=
 sN hie hi fun t0 a s w h0 hF hG hk hD hD'=>by
  have hv:=eP (iT h0 hF (fun j d h=>hD' j d (hf0.waits h)) (hp s))
  have h4:m * sz≤16777216:=Nat.le_of_ble_eq_true hm
  have h5:m * sz≠0:=fun e=>by rw [e] at hm0;cases hm0
  have h6:¬ (m * sz > 2 ^ 24):=by omega
  have h7:xs.map (fun p=>(p.1,a.eval p.2))=(xs.map (·.1)).zip us:=by
   rw [← hv]
   clear hi hw hp hv hf
   induction xs with
   | nil=>rfl
   | cons x xs ih=>simp only [List.map_cons,List.zip_cons_cons,← ih]
  have hB:Below w.heap.size w (w.alloc (.cells cs.toArray e)):=(Below.refl _ _).alloc (Nat.le_refl _) _
  refine iY hi ((hw s).yes hD') (v:=.slice (some ⟨w.heap.size,0,none⟩) m m) (w':=w.alloc (.cells cs.toArray e)) ?_ ⟨_,rfl,?_,hB⟩
  ·unfold execOp
   simp only []
   rw [show (Array.map (fun p=>(p.1,a.eval p.2)) xs.toArray)=(xs.map (fun p=>(p.1,a.eval p.2))).toArray by simp,h7]
   simp only [Instr.buildSlice,Sem.run_bind,run_underlying hU,Result.andThen_ok,hs,if_neg h6,if_neg h5,hz,Sem.run_pure,hf,newRow,run_newObj_alloc]
  ·rw [hI]
   intro w2 h2
   have hnew:=heap_alloc_new w (.cells cs.toArray e)
   refine ⟨w.heap.size,rfl,hG.2,(h2.2.2 _ hG.2 (dF hnew) (fun hx=>?_)).trans hnew⟩
   rcases hx with ⟨q,hq,e1⟩ | ⟨g,hg,hgb⟩
   ·have:=dF (hG.1.own q hq).2;omega
   ·have:=(hG.1.glt hg hgb).2;omega
theorem uJ {T e:TypeId} {x y:Operand} {kk:IntKind} {a:Option Addr} {m c k s:Nat} {j:Int} {aft:Array Edge} (hU:P.underlying T=some (.slice e)) (hs:∀ w,(sizeOf e).run P w = .ok s w) (hx:evL l x=some (.slice a m c)) (hy:evL l y=some (.int kk j)) (hj:j=(k:Int)) (hk:k≤c) :
  dT P l ⟨some d,.slice T x none (some y) none,ty,pos,aft,none⟩ W (.slice (if c=0 then a else a.map (·.add (0 * s))) k c) W:=fun ev he=>by
 subst hj
 have h1:(0:Int)≤(k:Int):=by omega
 have h2:(k:Int)≤(c:Int):=by omega
 unfold execOp;simp only [Option.map_some,Option.map_none];rw [he x _ hx,he y _ hy]
 simp [Instr.sliceAt,Instr.slice,Instr.sliceBounds,Instr.sliceBound,run_underlying hU,asIntOf,hk,hs]
end
section
variable {P:Program} {n:Nat} {Q:Exit→Act→World→Prop} {l:Fr} {W:World} {ops:Array Oper} {os:List Oper} {d:Nat} {ty:TypeId} {pos:String} {aft:Array Edge} {x y:Operand} {k:IntKind} {a b:Int} {ts:Array TypeId}
theorem rn_min (hx:evL l x=some (.int k a)) (hy:evL l y=some (.int k b)):dT P l ⟨some d,.call { callee:=.builtin .min,args:=#[x,y],argTypes:=ts },ty,pos,aft,none⟩ W (.int k (min a b)) W:=fun ev he=>by
 have e:(if b < a then b else a)=min a b:=by omega
 unfold execOp
 simp only [resolve,invoke,builtin,Sem.run_bind,Sem.run_pure,Result.andThen_ok,List.map_toArray,List.map_cons,List.map_nil,he x _ hx,he y _ hy,run_min_int2,e]
theorem Bi (hx:evL l x=some (.int k a)) (hy:evL l y=some (.int k b)) (hd:Nat.blt d n=true) (h:cJ P n ops Q os ((d,.int k (min a b))::l) W):cJ P n ops Q (⟨some d,.call { callee:=.builtin .min,args:=#[x,y],argTypes:=ts },ty,pos,aft,none⟩::os) l W:=opV (rn_min hx hy) hd h
end
section
variable {P:Program} {n:Nat} {ops:Array Oper} {Q:Exit→Act→World→Prop} {l:Fr} {w0 W:World} {os:List Oper} {d:Nat} {ty:TypeId} {pos:String} {aft:Array Edge}
theorem bP {x:Operand} {p:Addr} (hx:evL l x=some (.pointer (some p))):dT P l ⟨some d,.nilCheck x,ty,pos,aft,none⟩ W (.pointer (some p)) W:=fun ev he=>by
 unfold execOp;simp only [];rw [he x _ hx];rfl
theorem bM {x:Operand} {p:Addr} (hx:evL l x=some (.pointer (some p))) (hd:Nat.blt d n=true) (h:cJ P n ops Q os ((d,.pointer (some p))::l) W):cJ P n ops Q (⟨some d,.nilCheck x,ty,pos,aft,none⟩::os) l W:=opV (bP hx) hd h
end
section
variable {P:Program} {n:Nat} {Q:Exit→Act→World→Prop} {l:Fr} {W:World} {ops:Array Oper} {os:List Oper} {d:Nat} {ty:TypeId} {pos:String} {aft:Array Edge} {x y:Operand} {k:IntKind} {a b:Int} {ts:Array TypeId}
end
section
variable {P:Program} {ops opf:Array Oper} {Q:Exit→Act→World→Prop} {n:Nat} {l:Fr} {w0 W:World} {K:List (Nat×World)} {lo:Nat} {al:List AB} {Ob:Own} {G:Sy→bN} {E:List Nat} {L:List Asr} {i:Nat}
variable {d:Nat} {op:Op} {ty:TypeId} {pos:String} {aft_:Array Edge}
end
section
variable {w0 W:World} {O:Own} {G:bN} {K:List (Nat×World)}
theorem cX {w:World} {base n b k:Nat} {e:TypeId} {size:Nat} {c:Nat} {xs:List Value} {x:Value} (h:w.ownsRow base e size (.slice (some ⟨b,0,none⟩) n c) n xs) (hk:xs[k]?=some x):w.cell? ⟨b,k,none⟩=some x:=by
 rcases mE h with ⟨h1,_⟩ | ⟨b2,h1,_,h3⟩
 ·cases h1
 ·cases h1;exact h3 k x hk
variable {P:Program} {n:Nat} {ops:Array Oper} {Q:Exit→Act→World→Prop} {l:Fr} {os:List Oper} {d:Nat} {ty:TypeId} {pos:String} {aft:Array Edge}
theorem St.markMap {b:Nat} {es:Array MapEntry} {clock:Nat} (h:St w0 O G K W) (hb:W.heap[b]?=some (.map es clock)):St w0 O G ((b,lX W b)::K) W where
 below:=h.below
 own:=h.own
 dist:=h.dist
 kept:=fun q hq=>by
  rcases List.mem_cons.1 hq with rfl | hq
  ·have hlt:=dF hb
   refine ⟨⟨by show (lX W b).heap.size≤_;rw [fO hlt];exact hlt,fun x h1 h2=>?_⟩,fun p hp=>?_⟩
   ·have h3:x < b+1:=by rw [← fO hlt];exact h2
    have h4:b≤x:=h1
    obtain rfl:x=b:=by omega
    exact (oZ hlt).symm
   ·have:p.1≠b:=fun e=>by
     have h5:=(h.own p hp).2
     rw [e,hb] at h5;cases h5
    show p.1 < b∨(lX W b).heap.size≤p.1
    rw [fO hlt];omega
  ·exact h.kept q hq
 rows:=fun g hg=>by
  obtain ⟨h1,h2⟩:=h.rows g hg
  refine ⟨h1,fun k hk=>⟨(h2 k hk).1,fun q hq=>?_⟩⟩
  rcases List.mem_cons.1 hq with rfl | hq
  ·have:k≠b:=oO h1 hb hk
   show k < b∨(lX W b).heap.size≤k
   rw [fO (dF hb)];omega
  ·exact (h2 k hk).2 q hq
 gdist:=h.gdist
theorem St.markBlk {b:Nat} (h:St w0 O G K W) (hb:b < W.heap.size) (hO:∀ p∈O,p.1≠b) (hG:∀ g∈G,∀ k,g.v.ownBlock=some k→k≠b):St w0 O G ((b,lX W b)::K) W where
 below:=h.below
 own:=h.own
 dist:=h.dist
 kept:=fun q hq=>by
  rcases List.mem_cons.1 hq with rfl | hq
  ·refine ⟨⟨by show (lX W b).heap.size≤_;rw [fO hb];exact hb,fun x h1 h2=>?_⟩,fun p hp=>?_⟩
   ·have h3:x < b+1:=by rw [← fO hb];exact h2
    have h4:b≤x:=h1
    obtain rfl:x=b:=by omega
    exact (oZ hb).symm
   ·have:=hO p hp
    show p.1 < b∨(lX W b).heap.size≤p.1
    rw [fO hb];omega
  ·exact h.kept q hq
 rows:=fun g hg=>by
  obtain ⟨h1,h2⟩:=h.rows g hg
  refine ⟨h1,fun k hk=>⟨(h2 k hk).1,fun q hq=>?_⟩⟩
  rcases List.mem_cons.1 hq with rfl | hq
  ·have:=hG g hg k hk
   show k < b∨(lX W b).heap.size≤k
   rw [fO hb];omega
  ·exact (h2 k hk).2 q hq
 gdist:=h.gdist
end
section
variable {P:Program} {ops opf:Array Oper} {Q:Exit→Act→World→Prop} {n:Nat} {l:Fr} {w0 W:World} {K:List (Nat×World)} {lo:Nat} {al:List AB} {Ob:Own} {G:Sy→bN} {E:List Nat} {L:List Asr} {i:Nat}
variable {d:Nat} {op:Op} {ty:TypeId} {pos:String} {aft_:Array Edge}
end
section
variable {P:Program} {n:Nat} {ops:Array Oper} {Q:Exit→Act→World→Prop} {l:Fr} {w0 W:World} {O:Own} {G:bN} {K:List (Nat×World)} {os:List Oper} {ty:TypeId} {pos:String} {aft:Array Edge}
theorem uK {α:Type} {G:List α} {i:Nat} {g:α} (h:G[i]?=some g):G.set i g=G:=by
 apply List.ext_getElem?
 intro k
 rw [List.getElem?_set]
 by_cases hk:i=k
 ·subst hk;rw [if_pos rfl,h];simp [(List.getElem?_eq_some_iff.1 h).1]
 ·rw [if_neg hk]
theorem St.setRowMany {b c nn size:Nat} {e:TypeId} (i:Nat):∀ (vs:List Value) (jx:Nat) {G:bN} {W:World} {xs:List Value},St w0 O G K W→G[i]?=some ⟨.slice (some ⟨b,0,none⟩) nn c,nn,xs,e,size⟩→jx+vs.length≤nn * size→St w0 O (G.set i ⟨.slice (some ⟨b,0,none⟩) nn c,nn,fR xs jx vs,e,size⟩) K (Go.Proofs.Ytghmbejblbnjjaa.setMany W b jx vs)
 | [],jx,G,W,xs,h,hi,_=>by
  rw [show fR xs jx []=xs from rfl,uK hi];exact h
 | v::vs,jx,G,W,xs,h,hi,hl=>by
  simp only [List.length_cons] at hl
  have h1:=h.setRow i hi v (show jx < nn * size by omega)
  have hlt:=(List.getElem?_eq_some_iff.1 hi).1
  have h2:=St.setRowMany i vs (jx+1) h1 (List.getElem?_set_self hlt) (by omega)
  rw [List.set_set] at h2
  exact h2
end
section
variable {P:Program} {n:Nat} {Q:Exit→Act→World→Prop} {l:Fr} {w0 W:World} {ops opf:Array Oper} {os:List Oper} {K:List (Nat×World)} {L:List Asr} {i:Nat}
variable {Ob:Own} {al:List AB} {G:Sy→bN} {E:List Nat} {lo:Nat} {s:Sy}
variable {d:Nat} {op:Op} {ty:TypeId} {pos:String} {aft_:Array Edge} {v:Value} {gd:Option (Nat×Bool)}
end
theorem St.ownBack {w0 W:World} {O:Own} {G:bN} {K:List (Nat×World)} {B n:Nat} {cs:List Value} {e:TypeId} (h:St w0 O (⟨.slice (some ⟨B,0,none⟩) n n,n,cs,e,1⟩::G) K W):St w0 ((B,cs,e)::O) G K W:=by
 obtain ⟨hrow,hap⟩:=h.rows _ List.mem_cons_self
 obtain ⟨h9,h8⟩:=List.pairwise_cons.1 h.gdist
 have hB:w0.heap.size≤B∧W.heap[B]?=some (.cells cs.toArray e (0,0)):=by
  rcases hrow.2 with ⟨e1,e2⟩ | ⟨g,cap,cur,e1,hg,hh,hn2,hm,hs,ht⟩
  ·cases e1
  ·injection e1 with e1 _ e3
   injection e1 with e1
   injection e1 with e1 _ _
   subst e1
   refine ⟨hg,?_⟩
   have hn:cur.size=n:=by dsimp only at hs e3;omega
   have:cur.toList=cs:=by
    have h5:cur.toList.take (n * 1)=cs:=ht
    rw [List.take_of_length_le (by simp;omega)] at h5
    exact h5
   rw [← this];simpa using hh
 refine ⟨h.below,fun p hp=>?_,List.Pairwise.cons (fun p hp e1=>(hap B rfl).1 p hp e1.symm) h.dist,fun q hq=>⟨(h.kept q hq).1,fun p hp=>?_⟩,fun g hg=>?_,h8⟩
 ·rcases List.mem_cons.1 hp with rfl | hp
  ·exact hB
  ·exact h.own p hp
 ·rcases List.mem_cons.1 hp with rfl | hp
  ·exact (hap B rfl).2 q hq
  ·exact (h.kept q hq).2 p hp
 ·obtain ⟨h1,h2⟩:=h.rows g (List.mem_cons_of_mem _ hg)
  refine ⟨h1,fun b hb=>⟨fun p hp=>?_,(h2 b hb).2⟩⟩
  rcases List.mem_cons.1 hp with rfl | hp
  ·intro e1
   have e2:B=b:=e1
   exact h9 g hg B rfl (by rw [e2];exact hb)
  ·exact (h2 b hb).1 p hp
end
end Go.Proofs.Ytghmbejblbnjjaa
