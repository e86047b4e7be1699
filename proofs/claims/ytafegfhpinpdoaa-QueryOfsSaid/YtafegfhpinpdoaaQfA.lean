import Derived.Orders
import Derived.Below
import Derived.Deep.RegionHeld
import Derived.WalkKit
import Derived.KernelRfl
import Derived.Laws.Rows
import Derived.Laws.AppendOwn
import Derived.Laws.Strings
import Derived.Laws.Small
import Derived.Lib.Hide
import Derived.IntWalk
import Derived.Laws.Tables
import Derived.Laws.Concat
import Derived.Laws.MakeOwn
import Derived.Test.YtafegfhpinpdoaaProg
import Derived.Lib.TrailingZeros
import Derived.Test.YtafegfhpinpdoaaRows
import Derived.Lib.LaidTab
import Derived.Lib.ItoaNum
import Derived.Stop.LaidErr
import Derived.WalkSmall
import Derived.LaidMore
import Derived.Shelf.Spec.TrailingZeros
import Derived.Laws.BitsAllLaws
import Derived.Laws.Bits64
import Derived.Deep.QuietTactic
import Derived.BigQuiet
import Derived.RegionTactic
import Derived.BigRegion
import Derived.Deep.RegionHeld3
import Derived.ChangeAlike
import Derived.RangeFuncNested
import Derived.RangeFuncBound
import Derived.RangeFuncCalls
import Derived.RangeFuncLeaves
import Derived.Shelf.Abstract
import Derived.Shelf.RegionOpen
import Derived.OwnWalkIn
import Derived.TacticsInMore
import Derived.LoopNIn
import Derived.LoopIn
import Derived.Laws.Bits128
import Derived.Deep.AppendLies
import Derived.Maps.AppendAt
import Derived.Sort.Grow
import Derived.Shelf.Lay
import Derived.Shelf.LaySoft
import Derived.Lib.OthersKept
import Derived.Laws.IdiomStrings
import Derived.StillTailTactics
import Derived.Deep.RegionLaw
import Derived.Deep.DeepCutAuto
import Derived.Deep.CutRange
import Derived.Deep.RegionWith
import Derived.Laws.Bits64b
set_option maxRecDepth 100000
set_option maxHeartbeats 4000000
set_option linter.unusedVariables false
set_option linter.unusedSimpArgs false
set_option linter.unusedSectionVars false
set_option linter.unnecessarySimpa false
namespace Go.Proofs.Ytafegfhpinpdoaa
open Go.Proofs.Try
section
open Go.RowKit
def freeT (ops:Array Oper) (t:Nat):Bool:=ops.all fun o=>o.dst != some t
def bO (ops:Array Oper) (i j d:Nat):Bool :=
 (match ops[i]? with | some o=>o.after.any fun e=>e.on == j && Region.binds .any e | none=>false) && (ops[j]?).bind (·.dst) == some d
def dQ (ops:Array Oper) (n:Nat):Bool :=
 (List.range ops.size).all fun i=>match ops[i]? with
  | some o=>o.after.all (fun e => !Region.binds .any e || decide (e.on < i)) && (match o.dst with | some d=>decide (d < n) && (List.range ops.size).all (fun j=>j == i || (ops[j]?).bind (·.dst) != some d) | none=>true)
  | none=>true
def lW (ops:Array Oper) (k:Nat):Bool :=
 decide (k+1=ops.size) && (match ops[k]? with | some o=>(List.range k).all fun j=>o.after.any fun e=>e.on == j && Region.binds .any e | none=>false)
section
variable {P:Program} {ops:Array Oper} {Q:Exit→Act→World→Prop} {t0:Array Value} {d0:List Deferred} {G:World→Prop} {I:Nat→Value→World→Prop}
structure RInv (ops:Array Oper) (t0:Array Value) (d0:List Deferred) (G:World→Prop) (I:Nat→Value→World→Prop) (L:Array Bool) (a:Act) (w:World):Prop where
 size:a.tmps.size=t0.size
 defers:a.defers=d0
 frame:∀ t,freeT ops t=true→a.tmps.getD t undef=t0.getD t undef
 glob:G w
 done:∀ i d,(ops[i]?).bind (·.dst)=some d→L.getD i false=true→I i (a.tmps.getD d undef) w
def gS (P:Program) (ops:Array Oper) (Q:Exit→Act→World→Prop) (t0:Array Value) (G:World→Prop) (I:Nat→Value→World→Prop) (i:Nat):Prop :=
 ∀ (a:Act) (w:World),(∀ t,freeT ops t=true→a.eval (.tmp t)=t0.getD t undef)→G w→(∀ j d,bO ops i j d=true→I j (a.eval (.tmp d)) w) →
  wpOp P ops Q i (fun a' w'=>(∃ v,a'=a.put ((ops[i]?).bind (·.dst)) v∧(∀ d,(ops[i]?).bind (·.dst)=some d→I i v w'))∧G w'∧Below w.heap.size w w') a w
def wU (ops:Array Oper) (t0:Array Value) (d0:List Deferred) (G:World→Prop) (I:Nat→Value→World→Prop) (n:Nat) (R:Act→World→Prop):Prop :=
 ∀ (a:Act) (w:World),a.tmps.size=t0.size→a.defers=d0→(∀ t,freeT ops t=true→a.tmps.getD t undef=t0.getD t undef)→G w →
  (∀ i d,i < n→(ops[i]?).bind (·.dst)=some d→I i (a.tmps.getD d undef) w)→R a w
theorem eR:∀ (l:List Bool) (i:Nat),l[i]?=some false→(l.set i true).count false+1=l.count false
 | [],_,h=>by simp at h
 | b::l,0,h=>by simp at h;subst h;simp
 | b::l,i+1,h=>by
  have:=eR l i (by simpa using h)
  cases b<;>simp<;>omega
theorem kJ {n i:Nat} {o:Oper} (h:dQ ops n=true) (ho:ops[i]?=some o):∀ e∈o.after,Region.binds .any e=true→e.on < i:=fun e he hb=>by
 have hi:i < ops.size:=(Array.getElem?_eq_some_iff.1 ho).1
 have h1:=(List.all_eq_true.1 h) i (List.mem_range.2 hi)
 simp only [ho,Bool.and_eq_true] at h1
 have h2:=Array.all_eq_true'.1 h1.1 e he
 simp [hb] at h2
 exact h2
theorem fU {n i d:Nat} (h:dQ ops n=true) (hd:(ops[i]?).bind (·.dst)=some d):d < n∧∀ j,(ops[j]?).bind (·.dst)=some d→j=i:=by
 obtain ⟨o,ho,hd⟩:=Option.bind_eq_some_iff.1 hd
 have hi:i < ops.size:=(Array.getElem?_eq_some_iff.1 ho).1
 have h1:=(List.all_eq_true.1 h) i (List.mem_range.2 hi)
 simp only [ho,hd,Bool.and_eq_true,decide_eq_true_eq] at h1
 refine ⟨h1.2.1,fun j hj=>?_⟩
 have hjs:j < ops.size:=by
  obtain ⟨o',ho',_⟩:=Option.bind_eq_some_iff.1 hj
  exact (Array.getElem?_eq_some_iff.1 ho').1
 have h2:=(List.all_eq_true.1 h1.2.2) j (List.mem_range.2 hjs)
 rw [Bool.or_eq_true] at h2
 rcases h2 with h2 | h2
 ·simpa using h2
 ·simp only [bne_iff_ne,ne_eq] at h2
  exact absurd hj h2
theorem fV {n:Nat} {L:Array Bool} (h:dQ ops n=true) (hs:L.size=ops.size) (hr:Region.ready .any ops L=[]):∀ i,i < ops.size→L.getD i true=true:=by
 intro i
 induction i using Nat.strongRecOn with
 | _ i ih =>
 intro hi
 cases hL:L.getD i true with
 | true=>rfl
 | false =>
  obtain ⟨o,ho⟩:∃ o,ops[i]?=some o:=⟨ops[i],Array.getElem?_eq_getElem hi⟩
  have:i∈Region.ready .any ops L:=mem_ready.2 ⟨hL,o,ho,fun e he hb=>by
   have hlt:=kJ h ho e he hb
   have h3:=ih e.on hlt (by omega)
   rw [Array.getD_eq_getD_getElem?] at h3 ⊢
   have hes:e.on < L.size:=by omega
   rw [Array.getElem?_eq_getElem hes] at h3 ⊢
   simpa using h3⟩
  rw [hr] at this
  cases this
theorem qE {a:Act} {o:Option Nat} {v:Value} {d:Nat} (hd:o=some d) (hs:d < a.tmps.size):(a.put o v).tmps.getD d undef=v:=by
 subst hd
 simp [Act.put,hs]
theorem eH {a:Act} {o:Option Nat} {v:Value} {t:Nat} (hd:o≠some t):(a.put o v).tmps.getD t undef=a.tmps.getD t undef:=by
 cases o with
 | none=>rfl
 | some d =>
  have:d≠t:=fun e=>hd (by rw [e])
  simp only [Act.put,Array.getD_eq_getD_getElem?]
  rw [Array.getElem?_setIfInBounds_ne this]
theorem kK {a:Act} {o:Option Nat} {v:Value}:(a.put o v).tmps.size=a.tmps.size:=by cases o<;>simp [Act.put]
theorem iC {a:Act} {o:Option Nat} {v:Value}:(a.put o v).defers=a.defers:=by cases o<;>rfl
theorem RInv.next {L:Array Bool} {a:Act} {w w':World} {i:Nat} {v:Value} (h:RInv ops t0 d0 G I L a w) (ht:dQ ops t0.size=true) (hi:L.getD i true=false)
  (hst:∀ i v w w',G w→I i v w→Below w.heap.size w w'→I i v w') (hI:∀ d,(ops[i]?).bind (·.dst)=some d→I i v w') (hG:G w') (hB:Below w.heap.size w w') :
  RInv ops t0 d0 G I (L.setIfInBounds i true) (a.put ((ops[i]?).bind (·.dst)) v) w' where
 size:=by rw [kK];exact h.size
 defers:=by rw [iC];exact h.defers
 frame:=fun t hf=>by
  rw [eH ?_]
  ·exact h.frame t hf
  ·intro hd
   obtain ⟨o,ho,hd⟩:=Option.bind_eq_some_iff.1 hd
   have:=Array.all_eq_true'.1 hf o (Array.mem_of_getElem? ho)
   simp [hd] at this
 glob:=hG
 done:=fun j d hd hj=>by
  by_cases hji:j=i
  ·subst hji
   rw [qE hd (by rw [h.size];exact (fU ht hd).1)]
   exact hI d hd
  ·rw [getD_set_ne false (Ne.symm hji)] at hj
   rw [eH (fun e=>hji ((fU ht e).2 j hd))]
   exact hst _ _ _ _ h.glob (h.done j d hd hj) hB
theorem RInv.deps {L:Array Bool} {a:Act} {w:World} {i:Nat} (h:RInv ops t0 d0 G I L a w) (hi:i∈Region.ready .any ops L):∀ j d,bO ops i j d=true→I j (a.eval (.tmp d)) w:=fun j d hw=>by
 obtain ⟨_,o,ho,hall⟩:=mem_ready.1 hi
 simp only [bO,ho,Bool.and_eq_true,beq_iff_eq] at hw
 obtain ⟨e,he,h1⟩:=Array.any_eq_true'.1 hw.1
 simp only [Bool.and_eq_true,beq_iff_eq] at h1
 have:=hall e he h1.2
 rw [h1.1] at this
 exact h.done j d hw.2 this
theorem RInv.frameE {L:Array Bool} {a:Act} {w:World} (h:RInv ops t0 d0 G I L a w):∀ t,freeT ops t=true→a.eval (.tmp t)=t0.getD t undef:=fun t ht=>h.frame t ht
theorem Dv (ht:dQ ops t0.size=true) (hst:∀ i v w w',G w→I i v w→Below w.heap.size w w'→I i v w')
  (hstep:∀ i,i < ops.size→gS P ops Q t0 G I i) (hfin:wU ops t0 d0 G I ops.size (Q .normal)) :
  ∀ (fuel:Nat) (L:Array Bool) (a:Act) (w:World),L.size=ops.size→L.toList.count false≤fuel→RInv ops t0 d0 G I L a w→wpAny P .any ops Q fuel L a w:=by
 have fin:∀ (L:Array Bool) (a:Act) (w:World),(∀ i,i < ops.size→L.getD i true=true)→L.size=ops.size→RInv ops t0 d0 G I L a w→Q .normal a w:=fun L a w hall hs h =>
  hfin a w h.size h.defers h.frame h.glob fun i d hi hd=>h.done i d hd (by
   have:=hall i hi
   rw [Array.getD_eq_getD_getElem?] at this ⊢
   rw [Array.getElem?_eq_getElem (by omega)] at this ⊢
   simpa using this)
 intro fuel
 induction fuel with
 | zero =>
  intro L a w hs hc h
  have hall:∀ i,i < ops.size→L.getD i true=true:=fun i hi=>by
   have hn:false∉L.toList:=List.count_eq_zero.1 (by omega)
   cases hL:L.getD i true with
   | true=>rfl
   | false =>
    rw [Array.getD_eq_getD_getElem?,Array.getElem?_eq_getElem (by omega)] at hL
    exact absurd (by rw [← show L[i]=false by simpa using hL];exact Array.mem_toList_iff.2 (Array.getElem_mem _)) hn
  refine ⟨?_,fin L a w hall hs h⟩
  cases hr:Region.ready .any ops L with
  | nil=>rfl
  | cons i rest =>
   have hi:i∈Region.ready .any ops L:=by rw [hr];exact List.mem_cons_self
   obtain ⟨h1,o,ho,_⟩:=mem_ready.1 hi
   rw [hall i (Array.getElem?_eq_some_iff.1 ho).1] at h1
   cases h1
 | succ fuel ih =>
  intro L a w hs hc h
  refine ⟨fun hr=>fin L a w (fV ht hs hr) hs h,fun i hi=>?_⟩
  obtain ⟨h1,o,ho,_⟩:=mem_ready.1 hi
  have his:i < ops.size:=(Array.getElem?_eq_some_iff.1 ho).1
  refine wpOp_mono ?_ (hstep i his a w h.frameE h.glob (h.deps hi))
  rintro a' w' ⟨⟨v,rfl,hI⟩,hG,hB⟩
  refine ih _ _ _ (by simpa using hs) ?_ (h.next ht h1 hst hI hG hB)
  have:L.toList[i]?=some false:=by
   rw [Array.getD_eq_getD_getElem?,Array.getElem?_eq_getElem (by omega)] at h1
   rw [Array.getElem?_toList,Array.getElem?_eq_getElem (by omega)]
   simpa using h1
  have:=eR _ _ this
  rw [Array.toList_setIfInBounds]
  omega
theorem Bd {k:Nat} (hl:lW ops k=true) (ht:dQ ops t0.size=true) (hst:∀ i v w w',G w→I i v w→Below w.heap.size w w'→I i v w')
  (hstep:∀ i,i < k→gS P ops Q t0 G I i) (hfin:wU ops t0 d0 G I k (wpOp P ops Q k (Q .normal))) :
  ∀ (fuel:Nat) (L:Array Bool) (a:Act) (w:World),L.size=ops.size→L.getD k true=false→L.toList.count false≤fuel→RInv ops t0 d0 G I L a w→wpAny P .any ops Q fuel L a w:=by
 simp only [lW,Bool.and_eq_true,decide_eq_true_eq] at hl
 obtain ⟨hk,hl⟩:=hl
 have cnt:∀ (L:Array Bool) i,L.getD i true=false→L.toList[i]?=some false:=fun L i h1=>by
  rw [Array.getD_eq_getD_getElem?] at h1
  rw [Array.getElem?_toList]
  cases hL:L[i]? with
  | none=>rw [hL] at h1;cases h1
  | some b=>rw [hL] at h1;simpa using h1
 intro fuel
 induction fuel with
 | zero =>
  intro L a w hs hlk hc h
  have:=eR _ _ (cnt L k hlk)
  omega
 | succ fuel ih =>
  intro L a w hs hlk hc h
  refine ⟨fun hr=>?_,fun i hi=>?_⟩
  ·rw [fV ht hs hr k (by omega)] at hlk
   cases hlk
  ·obtain ⟨h1,o,ho,hdep⟩:=mem_ready.1 hi
   have his:i < ops.size:=(Array.getElem?_eq_some_iff.1 ho).1
   have hc1:=eR _ _ (cnt L i h1)
   by_cases hik:i=k
   ·subst hik
    simp only [ho] at hl
    have hall:∀ j,j < i→L.getD j false=true:=fun j hj=>by
     have:=List.all_eq_true.1 hl j (List.mem_range.2 hj)
     obtain ⟨e,he,h2⟩:=Array.any_eq_true'.1 this
     simp only [Bool.and_eq_true,beq_iff_eq] at h2
     have:=hdep e he h2.2
     rw [h2.1] at this
     exact this
    refine wpOp_mono ?_ (hfin a w h.size h.defers h.frame h.glob fun j d hj hd=>h.done j d hd (hall j hj))
    intro a' w' hq
    have hnil:Region.ready .any ops (L.setIfInBounds i true)=[]:=by
     cases hr:Region.ready .any ops (L.setIfInBounds i true) with
     | nil=>rfl
     | cons j rest =>
      have hj:j∈Region.ready .any ops (L.setIfInBounds i true):=by rw [hr];exact List.mem_cons_self
      obtain ⟨h5,o',ho',_⟩:=mem_ready.1 hj
      have hjs:j < ops.size:=(Array.getElem?_eq_some_iff.1 ho').1
      by_cases hji:j=i
      ·subst hji
       rw [Array.getD_eq_getD_getElem?,Array.getElem?_eq_getElem (by simpa using (by omega:j < L.size))] at h5
       simp at h5
      ·rw [getD_set_ne true (Ne.symm hji)] at h5
       have h6:=hall j (by omega)
       rw [Array.getD_eq_getD_getElem?] at h5 h6
       rw [Array.getElem?_eq_getElem (by omega)] at h5 h6
       simp at h5 h6
       rw [h5] at h6
       cases h6
    cases fuel with
    | zero=>exact ⟨hnil,hq⟩
    | succ fuel=>exact ⟨fun _=>hq,by rw [hnil];simp⟩
   ·refine wpOp_mono ?_ (hstep i (by omega) a w h.frameE h.glob (h.deps hi))
    rintro a' w' ⟨⟨v,rfl,hI⟩,hG,hB⟩
    refine ih _ _ _ (by simpa using hs) (by rw [getD_set_ne true hik];exact hlk) ?_ (h.next ht h1 hst hI hG hB)
    rw [Array.toList_setIfInBounds]
    omega
theorem rB {a:Act} {w:World} (hG:G w):RInv ops a.tmps a.defers G I (Array.replicate ops.size false) a w where
 size:=rfl
 defers:=rfl
 frame:=fun _ _=>rfl
 glob:=hG
 done:=fun i d _ h=>by
  rw [Array.getD_eq_getD_getElem?,Array.getElem?_replicate] at h
  split at h<;>simp at h
theorem iD (n:Nat):(Array.replicate n false).toList.count false≤n:=by
 rw [Array.toList_replicate,List.count_replicate_self];exact Nat.le_refl _
theorem wV {id:Nat} {a:Act} {w:World} (hm:P.follows .mixedOrders=true) (G:World→Prop) (I:Nat→Value→World→Prop) (hG:G w.drew)
  (ht:dQ ops a.tmps.size=true) (hst:∀ i v w w',G w→I i v w→Below w.heap.size w w'→I i v w')
  (hstep:∀ i,i < ops.size→gS P ops Q a.tmps G I i) (hfin:wU ops a.tmps a.defers G I ops.size (Q .normal)):(Code.region id ops true).wp P Q a w :=
 wp_region_any hm (Dv ht hst hstep hfin _ _ _ _ (by simp) (iD _) (rB hG))
theorem qF {id:Nat} {a:Act} {w:World} (hm:P.follows .mixedOrders=true) (k:Nat) (G:World→Prop) (I:Nat→Value→World→Prop) (hG:G w.drew) (hl:lW ops k=true)
  (ht:dQ ops a.tmps.size=true) (hst:∀ i v w w',G w→I i v w→Below w.heap.size w w'→I i v w')
  (hstep:∀ i,i < k→gS P ops Q a.tmps G I i) (hfin:wU ops a.tmps a.defers G I k (wpOp P ops Q k (Q .normal))):(Code.region id ops true).wp P Q a w :=
 wp_region_any hm (Bd hl ht hst hstep hfin _ _ _ _ (by simp) (by
  have hk:k < ops.size:=by
   simp only [lW,Bool.and_eq_true,decide_eq_true_eq] at hl;omega
  rw [Array.getD_eq_getD_getElem?,Array.getElem?_replicate,if_pos hk];rfl) (iD _) (rB hG))
theorem lE {o:Oper} {y:Nat→Option Bool} (h:o.guard=none):Region.wanted o y=true:=by simp [Region.wanted,h]
theorem lF {a:Act} {o:Oper} {g d:Nat} {b c:Bool} (h:o.guard=some (g,b)) (hd:(ops[g]?).bind (·.dst)=some d) (hv:a.eval (.tmp d) = .bool c):Region.wanted o (yielded ops a.tmps)=(c == b):=by
 have h1:a.tmps[d]?=some (.bool c):=by
  simp only [Act.eval,Array.getD_eq_getD_getElem?] at hv
  cases hx:a.tmps[d]? with
  | none=>rw [hx] at hv;simp [undef] at hv
  | some x=>rw [hx] at hv;simpa using hv
 simp [Region.wanted,h,yielded,hd,h1]
theorem gS.value {i:Nat} {o:Oper} (hi:ops[i]?=some o)
  (h:∀ (a:Act) (w:World),(∀ t,freeT ops t=true→a.eval (.tmp t)=t0.getD t undef)→G w→(∀ j d,bO ops i j d=true→I j (a.eval (.tmp d)) w) →
   Region.wanted o (yielded ops a.tmps)=true∧∃ v w',(execOp a.eval o).run P w = .ok (.value v) w'∧I i v w'∧G w'∧Below w.heap.size w w'):gS P ops Q t0 G I i:=fun a w hF hG hD=>by
 obtain ⟨hw,v,w',hr,hI,hG',hB⟩:=h a w hF hG hD
 unfold wpOp
 simp only [hi,hw,if_true]
 refine .inl ?_
 unfold Oper.wp
 rw [hr]
 exact ⟨⟨v,by simp,fun _ _=>hI⟩,hG',hB⟩
theorem gS.none {i:Nat} {o:Oper} (hi:ops[i]?=some o)
  (h:∀ (a:Act) (w:World),(∀ t,freeT ops t=true→a.eval (.tmp t)=t0.getD t undef)→G w→(∀ j d,bO ops i j d=true→I j (a.eval (.tmp d)) w) →
   Region.wanted o (yielded ops a.tmps)=false∧I i undef w):gS P ops Q t0 G I i:=fun a w hF hG hD=>by
 obtain ⟨hw,hI⟩:=h a w hF hG hD
 unfold wpOp
 simp only [hi,hw]
 exact ⟨⟨undef,by simp,fun _ _=>hI⟩,hG,Below.refl _ _⟩
theorem gS.call {i:Nat} {o:Oper} (hi:ops[i]?=some o)
  (h:∀ (a:Act) (w:World),(∀ t,freeT ops t=true→a.eval (.tmp t)=t0.getD t undef)→G w→(∀ j d,bO ops i j d=true→I j (a.eval (.tmp d)) w) →
   Region.wanted o (yielded ops a.tmps)=true∧∃ f args,(execOp a.eval o).run P w = .ok (.enter f args) w ∧
    Calls P f args w fun e w'=>∃ v,e = .returned v∧I i v w'∧G w'∧Below w.heap.size w w'):gS P ops Q t0 G I i:=fun a w hF hG hD=>by
 obtain ⟨hw,f,args,hr,hc⟩:=h a w hF hG hD
 unfold wpOp
 simp only [hi,hw,if_true]
 refine .inl ?_
 unfold Oper.wp
 rw [hr,Oper.upon_enter]
 refine hc.mono ?_
 rintro e w' ⟨v,rfl,hI,hG',hB⟩
 exact ⟨⟨v,by simp,fun _ _=>hI⟩,hG',hB⟩
end
abbrev Asr:=Value→World→Prop
def isV (c:Value):Asr:=fun v _=>v=c
def atI:List Asr→Nat→Asr
 | [],_=>fun _ _=>True
 | p::_,0=>p
 | _::l,n+1=>atI l n
def kL (p:Asr):Prop:=∀ v w w',p v w→Below w.heap.size w w'→p v w'
def nK:List Asr→Prop
 | []=>True
 | p::l=>kL p∧nK l
theorem aH (c:Value):kL (isV c):=fun _ _ _ h _=>h
theorem kM:∀ {L:List Asr},nK L→∀ i v w w',atI L i v w→Below w.heap.size w w'→atI L i v w'
 | [],_,_,_,_,_,_,_=>trivial
 | p::l,h,0,v,w,w',hp,hb=>h.1 v w w' hp hb
 | p::l,h,i+1,v,w,w',hp,hb=>kM h.2 i v w w' hp hb
def rC (p:Nat→Prop):Nat→Nat→Prop
 | 0,_=>True
 | n+1,k=>p k∧rC p n (k+1)
theorem qG {p:Nat→Prop}:∀ {n k:Nat},rC p n k→∀ i,i < n→p (k+i)
 | n+1,k,h,0,_=>h.1
 | n+1,k,h,i+1,hi=>by
  have:=qG h.2 i (by omega)
  rwa [show k+1+i=k+(i+1) by omega] at this
section
variable {P:Program} {ops:Array Oper} {Q:Exit→Act→World→Prop} {t0:Array Value} {d0:List Deferred} {L:List Asr} {w0:World} {i:Nat} {o:Oper} {p q r:Asr} {x y z:Operand}
abbrev RS (P:Program) (ops:Array Oper) (Q:Exit→Act→World→Prop) (t0:Array Value) (w0:World) (L:List Asr) (i:Nat):Prop:=gS P ops Q t0 (fun w=>Below w0.heap.size w0 w) (atI L) i
theorem tV {id:Nat} {a:Act} {w:World} (hm:P.follows .mixedOrders=true) (L:List Asr) (ht:dQ ops a.tmps.size=true) (hst:nK L)
  (hstep:rC (RS P ops Q a.tmps w L) ops.size 0) (hfin:wU ops a.tmps a.defers (fun w'=>Below w.heap.size w w') (atI L) ops.size (Q .normal)):(Code.region id ops true).wp P Q a w :=
 wV hm _ (atI L) ((Below.refl _ _).drew) ht (fun i v w w' _ h hb=>kM hst i v w w' h hb) (fun i hi=>by have:=qG hstep i hi;rwa [Nat.zero_add] at this) hfin
theorem nV {id:Nat} {a:Act} {w:World} (hm:P.follows .mixedOrders=true) (k:Nat) (L:List Asr) (hl:lW ops k=true) (ht:dQ ops a.tmps.size=true) (hst:nK L)
  (hstep:rC (RS P ops Q a.tmps w L) k 0) (hfin:wU ops a.tmps a.defers (fun w'=>Below w.heap.size w w') (atI L) k (wpOp P ops Q k (Q .normal))):(Code.region id ops true).wp P Q a w :=
 qF hm k _ (atI L) ((Below.refl _ _).drew) hl ht (fun i v w w' _ h hb=>kM hst i v w w' h hb) (fun i hi=>by have:=qG hstep i hi;rwa [Nat.zero_add] at this) hfin
def gT (ops:Array Oper) (L:List Asr) (i:Nat) (o:Oper):Prop :=
 o.guard=none∨∃ g b d,o.guard=some (g,b)∧(ops[g]?).bind (·.dst)=some d∧bO ops i g d=true∧atI L g=isV (.bool b)
def iI (ops:Array Oper) (L:List Asr) (i:Nat) (o:Oper):Prop :=
 (∃ g b c d,o.guard=some (g,b)∧(ops[g]?).bind (·.dst)=some d∧bO ops i g d=true∧atI L g=isV (.bool c)∧(c == b)=false) ∨
 ∃ g b d,o.guard=some (g,b)∧(ops[g]?).bind (·.dst)=some d∧bO ops i g d=true∧atI L g=isV undef
theorem yZ {a:Act} {o:Oper} {g d:Nat} {b:Bool} (h:o.guard=some (g,b)) (hd:(ops[g]?).bind (·.dst)=some d) (hv:a.eval (.tmp d)=undef):Region.wanted o (yielded ops a.tmps)=false:=by
 unfold Region.wanted
 rw [h]
 show (yielded ops a.tmps g == some b)=false
 unfold yielded
 rw [hd]
 show ((match a.tmps[d]? with | some (.bool b)=>some b | _=>none) == some b)=false
 have h2:a.tmps.getD d undef=undef:=hv
 cases h3:a.tmps[d]? with
 | none=>rfl
 | some v =>
  have h4:v=undef:=by rw [Array.getD_eq_getD_getElem?,h3] at h2;exact h2
  subst h4;rfl
theorem gT.yes {a:Act} {w:World} (h:gT ops L i o) (hD:∀ j d,bO ops i j d=true→atI L j (a.eval (.tmp d)) w):Region.wanted o (yielded ops a.tmps)=true:=by
 rcases h with h | ⟨g,b,d,h,hd,hw,hL⟩
 ·exact lE h
 ·have:=hD g d hw
  rw [hL] at this
  rw [lF h hd this];simp
theorem iI.no {a:Act} {w:World} (h:iI ops L i o) (hD:∀ j d,bO ops i j d=true→atI L j (a.eval (.tmp d)) w):Region.wanted o (yielded ops a.tmps)=false:=by
 rcases h with ⟨g,b,c,d,h,hd,hw,hL,hne⟩ | ⟨g,b,d,h,hd,hw,hL⟩
 ·have:=hD g d hw
  rw [hL] at this
  rw [lF h hd this];exact hne
 ·have:=hD g d hw
  rw [hL] at this
  exact yZ h hd this
def OpI (ops:Array Oper) (t0:Array Value) (L:List Asr) (i:Nat) (x:Operand) (p:Asr):Prop :=
 ∀ (a:Act) (w:World),(∀ t,freeT ops t=true→a.eval (.tmp t)=t0.getD t undef)→(∀ j d,bO ops i j d=true→atI L j (a.eval (.tmp d)) w)→p (a.eval x) w
theorem opF {t:Nat} {v:Value} (hf:freeT ops t=true) (hv:t0.getD t undef=v):OpI ops t0 L i (.tmp t) (isV v):=fun a w hF _=>(hF t hf).trans hv
theorem opD (j t:Nat) (hw:bO ops i j t=true) (hL:atI L j=p):OpI ops t0 L i (.tmp t) p:=fun a w _ hD=>hL▸hD j t hw
theorem opC {v:Value}:OpI ops t0 L i (.const v) (isV v):=fun a w _ _=>rfl
theorem rD (hi:ops[i]?=some o) (hw:gT ops L i o)
  (h:∀ (a:Act) (w:World),(∀ t,freeT ops t=true→a.eval (.tmp t)=t0.getD t undef)→Below w0.heap.size w0 w→(∀ j d,bO ops i j d=true→atI L j (a.eval (.tmp d)) w) →
   ∃ v w',(execOp a.eval o).run P w = .ok (.value v) w'∧atI L i v w'∧Below w.heap.size w w'):RS P ops Q t0 w0 L i :=
 gS.value hi fun a w hF hG hD=>by
  obtain ⟨v,w',h1,h2,h3⟩:=h a w hF hG hD
  exact ⟨hw.yes hD,v,w',h1,h2,hG.trans (h3.mono hG.size),h3⟩
theorem st_none (hi:ops[i]?=some o) (hw:iI ops L i o) (hI:atI L i=isV undef):RS P ops Q t0 w0 L i :=
 gS.none hi fun a w hF hG hD=>⟨hw.no hD,by rw [hI];rfl⟩
def bW (P:Program) (f:FuncId):Bool:=match P.funcs[f]? with | some fn=>fn.body.isSome && !(fn.name == "runtime.NumGoroutine") | none=>false
theorem lX (P:Program) (ev:Operand→Value) (w:World) (f:FuncId) (args:Array Operand) (ts:Array TypeId) (o:Oper) (h:o.op = .call { callee:=.value (.func f),args:=args,argTypes:=ts }) (hf:ev (.func f) = .func (.func f) #[] #[]) (hb:bW P f=true):(execOp ev o).run P w = .ok (.enter f (args.map ev)) w:=by
 unfold bW at hb
 cases hx:P.funcs[f]? with
 | none=>rw [hx] at hb;cases hb
 | some fn =>
  rw [hx] at hb
  simp only [Bool.and_eq_true,Bool.not_eq_true',beq_eq_false_iff_ne,ne_eq] at hb
  obtain ⟨c,hc⟩:=Option.isSome_iff_exists.1 hb.1
  unfold execOp;simp only [h];simp [go_sem,resolve,hf,callFunc,hx,hc,hb.2]
def Be (p:Asr) (w:World):Ending→World→Prop:=fun e w'=>∃ v,e = .returned v∧p v w'∧Below w.heap.size w w'
theorem st_call {f:FuncId} {args:Array Operand} {ts:Array TypeId} (hi:ops[i]?=some o) (hop:o.op = .call { callee:=.value (.func f),args:=args,argTypes:=ts }) (hgo:bW P f=true) (hw:gT ops L i o)
  (hc:∀ (a:Act) (w:World),(∀ t,freeT ops t=true→a.eval (.tmp t)=t0.getD t undef)→Below w0.heap.size w0 w→(∀ j d,bO ops i j d=true→atI L j (a.eval (.tmp d)) w)→Calls P f (args.map a.eval) w (Be (atI L i) w)):RS P ops Q t0 w0 L i :=
 gS.call hi fun a w hF hG hD=>⟨hw.yes hD,f,args.map a.eval,lX P a.eval w f args ts o hop rfl hgo,(hc a w hF hG hD).mono fun e w' ⟨v,h1,h2,h3⟩=>⟨v,h1,h2,hG.trans (h3.mono hG.size),h3⟩⟩
end
abbrev Fr:=List (Nat×Value)
def fD:Fr→Nat→Option Value
 | [],_=>none
 | p::l,t=>bif Nat.beq p.1 t then some p.2 else fD l t
structure Has (n:Nat) (l:Fr) (a:Act):Prop where
 size:a.tmps.size=n
 defers:a.defers=[]
 at_:∀ t v,fD l t=some v→a.tmps.getD t undef=v
theorem Has.put {n:Nat} {l:Fr} {a:Act} {d:Nat} {v:Value} (h:Has n l a) (hd:Nat.blt d n=true):Has n ((d,v)::l) (a.put (some d) v):=by
 have hd':d < n:=Nat.le_of_ble_eq_true hd
 refine ⟨by rw [kK];exact h.size,by rw [iC];exact h.defers,fun t u hu=>?_⟩
 unfold fD at hu
 cases hb:Nat.beq d t with
 | true =>
  have:d=t:=Nat.eq_of_beq_eq_true hb
  subst this
  simp only [hb,cond_true,Option.some.injEq] at hu
  rw [qE rfl (by rw [h.size];exact hd')];exact hu
 | false =>
  simp only [hb,cond_false] at hu
  have hne:d≠t:=fun e=>by subst e;rw [Nat.beq_refl] at hb;cases hb
  rw [eH (fun e=>hne (Option.some.inj e))]
  exact h.at_ t u hu
def evL (l:Fr):Operand→Option Value
 | .tmp t=>fD l t
 | .const v=>some v
 | .global g=>some (.pointer (some ⟨g,0,none⟩))
 | .func f=>some (.func (.func f) #[] #[])
theorem Has.ev {n:Nat} {l:Fr} {a:Act} (h:Has n l a):∀ x v,evL l x=some v→a.eval x=v:=by
 intro x v hx
 cases x with
 | tmp t=>exact h.at_ t v hx
 | const u=>exact Option.some.inj hx
 | global g=>exact Option.some.inj hx
 | func f=>exact Option.some.inj hx
def Bg (l:Fr):Fr→Prop
 | []=>True
 | p::r=>fD l p.1=some p.2∧Bg l r
theorem Bg.at_ {l:Fr}:∀ {r:Fr},Bg l r→∀ t v,fD r t=some v→fD l t=some v
 | [],_,t,v,h=>by cases h
 | p::r,h,t,v,hv=>by
  unfold fD at hv
  cases hb:Nat.beq p.1 t with
  | true =>
   simp only [hb,cond_true,Option.some.injEq] at hv
   rw [← Nat.eq_of_beq_eq_true hb,← hv];exact h.1
  | false =>
   simp only [hb,cond_false] at hv
   exact Bg.at_ h.2 t v hv
theorem Has.sub {n:Nat} {l r:Fr} {a:Act} (h:Has n l a) (hs:Bg l r):Has n r a:=⟨h.size,h.defers,fun t v hv=>h.at_ t v (hs.at_ t v hv)⟩
def Bh:Nat→List Value→Fr
 | _,[]=>[]
 | i,v::r=>(i,v)::Bh (i+1) r
theorem Bi:∀ (r:List Value) (i t:Nat) (v:Value),fD (Bh i r) t=some v→i≤t∧r[t - i]?=some v
 | [],_,_,_,h=>by cases h
 | u::r,i,t,v,h=>by
  unfold Bh fD at h
  cases hb:Nat.beq i t with
  | true =>
   have:i=t:=Nat.eq_of_beq_eq_true hb
   subst this
   simp only [hb,cond_true,Option.some.injEq] at h
   simp [h]
  | false =>
   simp only [hb,cond_false] at h
   have hne:i≠t:=fun e=>by subst e;rw [Nat.beq_refl] at hb;cases hb
   obtain ⟨h1,h2⟩:=Bi r (i+1) t v h
   exact ⟨by omega,by rw [show t - i=(t - (i+1))+1 by omega];exact h2⟩
theorem has_par {n:Nat} {args:List Value} (hn:Nat.ble args.length n=true):Has n (Bh 0 args) { tmps:=args.toArray++Array.replicate (n - args.toArray.size) undef,defers:=[] }:=by
 have hn':args.length≤n:=Nat.le_of_ble_eq_true hn
 refine ⟨by simp;omega,rfl,fun t v h=>?_⟩
 obtain ⟨_,h2⟩:=Bi _ _ _ _ h
 have ht:t < args.length:=(List.getElem?_eq_some_iff.1 h2).1
 simp only [Array.getD_eq_getD_getElem?]
 rw [Array.getElem?_append_left (by simpa using ht)]
 simp only [Nat.sub_zero] at h2
 simp [h2]
section
variable {P:Program} {n:Nat} {Q:Exit→Act→World→Prop} {l:Fr} {W:World} {ops:Array Oper} {os:List Oper}
def eC (P:Program) (n:Nat) (c:Code) (Q:Exit→Act→World→Prop) (l:Fr) (W:World):Prop:=∀ a,Has n l a→c.wp P Q a W
def cT (P:Program) (n:Nat) (ops:Array Oper) (Q:Exit→Act→World→Prop) (os:List Oper) (l:Fr) (W:World):Prop:=∀ a,Has n l a→wpList P ops Q os a W
def XF (Q:Exit→Act→World→Prop) (e:Exit) (n:Nat) (l:Fr) (W:World):Prop:=∀ a,Has n l a→Q e a W
theorem cG {f:FuncId} {fn:Func} {c:Code} {args:List Value} {R:Ending→World→Prop} (hf:P.funcs[f]?=some fn) (hb:fn.body=some c) (hn:fn.ntmps=n) (hl:Nat.ble args.length n=true)
  (h:eC P n c (bodyPost P fn R) (Bh 0 args) W):Calls P f args.toArray W R :=
 calls_of_wp hf hb (by subst hn;exact h _ (has_par hl))
theorem aO {x y:Code} (h:eC P n x (Exit.then (y.wp P Q) Q) l W):eC P n (.seq x y) Q l W:=fun a ha=>wp_seq (h a ha)
theorem bH (h:XF Q .normal n l W):eC P n .skip Q l W:=fun a ha=>wp_skip (h a ha)
theorem cW {i:Nat} (h:XF Q (.exit i) n l W):eC P n (.exit i) Q l W:=fun a ha=>wp_exit (h a ha)
theorem bM (h:XF Q .ret n l W):eC P n .ret Q l W:=fun a ha=>wp_ret (h a ha)
theorem bI {i:Nat} {c:Code} (h:eC P n c (Exit.inBlock i Q) l W):eC P n (.block i c) Q l W:=fun a ha=>wp_block (h a ha)
theorem bC {c:Operand} {x y:Code} {b:Bool} (hc:evL l c=some (.bool b)) (ht:b=true→eC P n x Q l W) (hf:b=false→eC P n y Q l W):eC P n (.cond c x y) Q l W :=
 fun a ha=>wp_cond_split (t:=b) (ha.ev _ _ hc) (fun e=>ht e a ha) (fun e=>hf e a ha)
theorem cU {c:Operand} {x y:Code} (hc:evL l c=some (.bool true)) (h:eC P n x Q l W):eC P n (.cond c x y) Q l W:=fun a ha=>wp_cond_true (ha.ev _ _ hc) (h a ha)
theorem F3 {c:Operand} {x y:Code} (hc:evL l c=some (.bool false)) (h:eC P n y Q l W):eC P n (.cond c x y) Q l W:=fun a ha=>wp_cond_false (ha.ev _ _ hc) (h a ha)
theorem aR {id:Nat} (h:cT P n os.toArray Q os l W):eC P n (.region id os.toArray false) Q l W:=fun a ha=>wp_region_lit (h a ha)
theorem cX {c:Code} (I:Nat→Fr→World→Prop) (m0:Nat) (l0:Fr) (hs:Bg l l0) (h0:I m0 l0 W)
  (round:∀ m l W,I m l W→eC P n c (Exit.then (fun a' w'=>∃ m' l',m' < m∧I m' l' w'∧Has n l' a') Q) l W):eC P n (.loop c) Q l W:=fun a ha=>by
 intro b k cs
 have key:∀ m l W a,I m l W→Has n l a→∃ e a' w',Q e a' w'∧Arrives P (lone (b.at a (.code c :: .inLoop c::k)) cs W) b k cs e a' w':=by
  intro m
  induction m using Nat.strongRecOn with
  | _ m ih =>
   intro l W a hI ha
   obtain ⟨e,a₁,w₁,hq,harr⟩:=round m l W hI a ha b (.inLoop c::k) cs
   cases e with
   | normal =>
    obtain ⟨m',l',hlt,hI₁,ha₁⟩:=hq
    obtain ⟨e₂,a₂,w₂,hq₂,harr₂⟩:=ih m' hlt l' w₁ a₁ hI₁ ha₁
    exact ⟨e₂,a₂,w₂,hq₂,.of_steps (Steps.trans harr (.one step_inLoop)) harr₂⟩
   | exit id=>exact ⟨_,a₁,w₁,hq,.pass (x:=.inLoop c) rfl (fun _ _=>.inl (by simp)) harr⟩
   | goto l=>exact ⟨_,a₁,w₁,hq,.pass (x:=.inLoop c) rfl (fun _ _=>.inl (by simp)) harr⟩
   | ret=>exact ⟨_,a₁,w₁,hq,.pass (x:=.inLoop c) rfl (fun _ _=>.inl (by simp)) harr⟩
   | panic ch=>exact ⟨_,a₁,w₁,hq,.pass (x:=.inLoop c) rfl (fun _ _=>.inl (by simp)) harr⟩
   | outgrown=>exact ⟨_,a₁,w₁,hq,.pass (x:=.inLoop c) rfl (fun _ _=>.inl (by simp)) harr⟩
 obtain ⟨e,a',w',hq,harr⟩:=key m0 l0 W a h0 (ha.sub hs)
 exact ⟨e,a',w',hq,.of_steps (.one step_loop) harr⟩
theorem XF.thenN {y:Code} (h:eC P n y Q l W):XF (Exit.then (y.wp P Q) Q) .normal n l W:=fun a ha=>h a ha
theorem XF.thenX {i:Nat} {K:Act→World→Prop} (h:XF Q (.exit i) n l W):XF (Exit.then K Q) (.exit i) n l W:=fun a ha=>h a ha
theorem XF.thenR {K:Act→World→Prop} (h:XF Q .ret n l W):XF (Exit.then K Q) .ret n l W:=fun a ha=>h a ha
theorem XF.blkN {i:Nat} (h:XF Q .normal n l W):XF (Exit.inBlock i Q) .normal n l W:=fun a ha=>h a ha
theorem XF.blkR {i:Nat} (h:XF Q .ret n l W):XF (Exit.inBlock i Q) .ret n l W:=fun a ha=>h a ha
theorem XF.blkX {i:Nat} (h:XF Q .normal n l W):XF (Exit.inBlock i Q) (.exit i) n l W:=fun a ha=>by show (if i=i then Q .normal a W else Q (.exit i) a W);rw [if_pos rfl];exact h a ha
theorem XF.round {I:Nat→Fr→World→Prop} {m:Nat} (m':Nat) (l':Fr) (hm:m' < m) (hs:Bg l l') (hI:I m' l' W):XF (Exit.then (fun a' w'=>∃ m' l',m' < m∧I m' l' w'∧Has n l' a') Q) .normal n l W :=
 fun a ha=>⟨m',l',hm,hI,ha.sub hs⟩
theorem aQ (h:XF Q .normal n l W):cT P n ops Q [] l W:=fun a ha=>h a ha
theorem XF.res {fn:Func} {R:Ending→World→Prop} {v:Value} (hr:∀ a,Has n l a→(results fn a.tmps).run P W = .ok v W) (hR:R (.returned v) W):XF (bodyPost P fn R) .ret n l W :=
 fun a ha=>⟨ha.defers,v,hr a ha,hR⟩
theorem XF.resN {fn:Func} {R:Ending→World→Prop} {v:Value} (hr:∀ a,Has n l a→(results fn a.tmps).run P W = .ok v W) (hR:R (.returned v) W):XF (bodyPost P fn R) .normal n l W :=
 fun a ha=>⟨ha.defers,v,hr a ha,hR⟩
theorem bV {fn:Func} {t:Nat} {v:Value} (hf:fn.results=#[.tmp t]) (hv:fD l t=some v):∀ a,Has n l a→(results fn a.tmps).run P W = .ok v W :=
 fun a ha=>by rw [results_tmp hf,ha.at_ t v hv]
theorem res0 {fn:Func} (hf:fn.results=#[]):∀ a,Has n l a→(results fn a.tmps).run P W = .ok (.tuple #[]) W :=
 fun a ha=>by rw [results_none hf]
theorem aC {dst:Option Tmp} {op:Op} {ty:TypeId} {pos:String} {aft:Array Edge} {g d:Nat} {b:Bool} (hd:(ops[g]?).bind (·.dst)=some d) (hv:fD l d=some (.bool b))
  (h:cT P n ops Q (⟨dst,op,ty,pos,aft,none⟩::os) l W):cT P n ops Q (⟨dst,op,ty,pos,aft,some (g,b)⟩::os) l W:=fun a ha=>by
 have h1:=h a ha
 have hw:Region.wanted ⟨dst,op,ty,pos,aft,some (g,b)⟩ (yielded ops a.tmps)=true:=by
  rw [lF (ops:=ops) rfl hd (ha.at_ d _ hv)];simp
 unfold wpList at h1 ⊢
 rw [hw]
 rw [show Region.wanted ⟨dst,op,ty,pos,aft,none⟩ (yielded ops a.tmps)=true from rfl] at h1
 exact h1
theorem aF {dst:Nat} {op:Op} {ty:TypeId} {pos:String} {aft:Array Edge} {g d:Nat} {b c:Bool} (hd:(ops[g]?).bind (·.dst)=some d) (hv:fD l d=some (.bool c)) (hc:(c == b)=false) (hn:Nat.blt dst n=true)
  (h:cT P n ops Q os ((dst,undef)::l) W):cT P n ops Q (⟨some dst,op,ty,pos,aft,some (g,b)⟩::os) l W:=fun a ha=>by
 have hw:Region.wanted ⟨some dst,op,ty,pos,aft,some (g,b)⟩ (yielded ops a.tmps)=false:=by
  rw [lF (ops:=ops) rfl hd (ha.at_ d _ hv)];exact hc
 unfold wpList
 rw [hw]
 exact h _ (ha.put hn)
theorem bG {d:Nat} {b:Bool} (hv:fD l d=some (.bool b)) (ht:b=true→cT P n ops Q os ((d,.bool true)::l) W) (hf:b=false→cT P n ops Q os ((d,.bool false)::l) W):cT P n ops Q os l W:=fun a ha=>by
 have hb:=ha.at_ d _ hv
 have key:∀ c,b=c→Has n ((d,.bool c)::l) a:=fun c hc=>⟨ha.size,ha.defers,fun t u hu=>by
  unfold fD at hu
  cases hx:Nat.beq d t with
  | true =>
   simp only [hx,cond_true,Option.some.injEq] at hu
   rw [← Nat.eq_of_beq_eq_true hx,← hu,← hc];exact hb
  | false =>
   simp only [hx,cond_false] at hu
   exact ha.at_ t u hu⟩
 cases hc:b with
 | true=>exact ht hc a (key _ hc)
 | false=>exact hf hc a (key _ hc)
variable {d:Nat} {op:Op} {ty:TypeId} {pos:String} {aft:Array Edge} {v:Value}
def fZ (P:Program) (l:Fr) (o:Oper) (W:World) (v:Value) (W':World):Prop:=∀ ev:Operand→Value,(∀ x u,evL l x=some u→ev x=u)→(execOp ev o).run P W = .ok (.value v) W'
theorem opV {W':World} (hr:fZ P l ⟨some d,op,ty,pos,aft,none⟩ W v W') (hd:Nat.blt d n=true) (h:cT P n ops Q os ((d,v)::l) W'):cT P n ops Q (⟨some d,op,ty,pos,aft,none⟩::os) l W:=fun a ha =>
 wpList_plain rfl fun K hK=>by
  unfold Oper.wp
  rw [hr a.eval ha.ev]
  exact hK _ _ (h _ (ha.put hd))
theorem aZ {x:Operand} (hx:evL l x=some v):fZ P l ⟨some d,.move x,ty,pos,aft,none⟩ W (v) W:=fun ev he=>by unfold execOp;simp only [];rw [he x v hx];rfl
theorem aI {x:Operand} (hx:evL l x=some v) (hd:Nat.blt d n=true) (h:cT P n ops Q os ((d,v)::l) W):cT P n ops Q (⟨some d,.move x,ty,pos,aft,none⟩::os) l W:=opV (aZ hx) hd h
theorem fE {x:Operand} (hx:evL l x=some v):fZ P l ⟨some d,.assign x,ty,pos,aft,none⟩ W (v) W:=fun ev he=>by unfold execOp;simp only [];rw [he x v hx];rfl
theorem aB {x:Operand} (hx:evL l x=some v) (hd:Nat.blt d n=true) (h:cT P n ops Q os ((d,v)::l) W):cT P n ops Q (⟨some d,.assign x,ty,pos,aft,none⟩::os) l W:=opV (fE hx) hd h
theorem dG {x y z:Operand} (hx:evL l x=some (.bool true)) (hy:evL l y=some v):fZ P l ⟨some d,.pick x y z,ty,pos,aft,none⟩ W (v) W:=fun ev he=>by unfold execOp;simp only [];rw [he x _ hx,he y _ hy];rfl
theorem aY {x y z:Operand} (hx:evL l x=some (.bool true)) (hy:evL l y=some v) (hd:Nat.blt d n=true) (h:cT P n ops Q os ((d,v)::l) W):cT P n ops Q (⟨some d,.pick x y z,ty,pos,aft,none⟩::os) l W:=opV (dG hx hy) hd h
theorem dH {x y z:Operand} (hx:evL l x=some (.bool false)) (hz:evL l z=some v):fZ P l ⟨some d,.pick x y z,ty,pos,aft,none⟩ W (v) W:=fun ev he=>by unfold execOp;simp only [];rw [he x _ hx,he z _ hz];rfl
theorem bN {x y z:Operand} (hx:evL l x=some (.bool false)) (hz:evL l z=some v) (hd:Nat.blt d n=true) (h:cT P n ops Q os ((d,v)::l) W):cT P n ops Q (⟨some d,.pick x y z,ty,pos,aft,none⟩::os) l W:=opV (dH hx hz) hd h
theorem gU {x:Operand} {b:Bool} {t:TypeId} (hx:evL l x=some (.bool b)):fZ P l ⟨some d,.unOp .not t x,ty,pos,aft,none⟩ W (.bool (!b)) W:=fun ev he=>by unfold execOp;simp only [];rw [he x _ hx];rfl
theorem dV {x:Operand} {b:Bool} {t:TypeId} (hx:evL l x=some (.bool b)) (hd:Nat.blt d n=true) (h:cT P n ops Q os ((d,.bool (!b))::l) W):cT P n ops Q (⟨some d,.unOp .not t x,ty,pos,aft,none⟩::os) l W:=opV (gU hx) hd h
theorem Dw {x:Operand} {i:Nat} {vs:Array Value} (hx:evL l x=some (.tuple vs)) (hv:vs[i]?=some v):fZ P l ⟨some d,.extract x i,ty,pos,aft,none⟩ W (v) W:=fun ev he=>by unfold execOp;simp only [];rw [he x _ hx];simp [Instr.extract,hv]
theorem cI {x:Operand} {i:Nat} {vs:Array Value} (hx:evL l x=some (.tuple vs)) (hv:vs[i]?=some v) (hd:Nat.blt d n=true) (h:cT P n ops Q os ((d,v)::l) W):cT P n ops Q (⟨some d,.extract x i,ty,pos,aft,none⟩::os) l W:=opV (Dw hx hv) hd h
theorem mQ {x:Operand} {t e:TypeId} {ad:Option Addr} {m c:Nat} (ht:P.underlying t=some (.slice e)) (hx:evL l x=some (.slice ad m c)):fZ P l ⟨some d,.call { callee:=.builtin .len,args:=#[x],argTypes:=#[t] },ty,pos,aft,none⟩ W (.int .i64 (m:Int)) W:=fun ev he=>by unfold execOp;simp [resolve,invoke,builtin,he x _ hx,Builtin.len_,run_underlying ht,goInt]
theorem bX {x:Operand} {t e:TypeId} {ad:Option Addr} {m c:Nat} (ht:P.underlying t=some (.slice e)) (hx:evL l x=some (.slice ad m c)) (hd:Nat.blt d n=true) (h:cT P n ops Q os ((d,.int .i64 (m:Int))::l) W):cT P n ops Q (⟨some d,.call { callee:=.builtin .len,args:=#[x],argTypes:=#[t] },ty,pos,aft,none⟩::os) l W:=opV (mQ ht hx) hd h
end
def cZ (lo:Nat) (A W:World):Prop:=A.heap.size≤W.heap.size∧∀ b,lo≤b→b < A.heap.size→W.heap[b]?=A.heap[b]?
theorem cZ.refl (lo:Nat) (A:World):cZ lo A A:=⟨Nat.le_refl _,fun _ _ _=>rfl⟩
theorem cZ.cell {lo:Nat} {A W:World} (h:cZ lo A W) {p:Addr} {v:Value} (hp:lo≤p.block) (hc:A.cell? p=some v):W.cell? p=some v :=
 (World.cell?_of_block (h.2 p.block hp (World.block_lt_of_cell? A p hc))).trans hc
theorem cZ.mono {lo lo':Nat} {A W:World} (h:cZ lo A W) (hl:lo≤lo'):cZ lo' A W:=⟨h.1,fun b h1 h2=>h.2 b (Nat.le_trans hl h1) h2⟩
theorem cZ.trans {lo:Nat} {A B C:World} (h:cZ lo A B) (k:cZ lo B C):cZ lo A C :=
 ⟨Nat.le_trans h.1 k.1,fun b h1 h2=>(k.2 b h1 (Nat.lt_of_lt_of_le h2 h.1)).trans (h.2 b h1 h2)⟩
theorem aP {A W:World} (h:Below A.heap.size A W) (lo:Nat):cZ lo A W:=⟨h.size,fun b _ hb=>h.block b hb⟩
abbrev Own:=List (Nat×List Value×TypeId)
structure GR where
 v:Value
 n:Nat
 xs:List Value
 e:TypeId
 size:Nat
abbrev cR:=List GR
def Value.apart (v u:Value):Prop:=∀ b,v.ownBlock=some b→u.ownBlock≠some b
structure St (w0:World) (O:Own) (G:cR) (K:List (Nat×World)) (W:World):Prop where
 below:Below w0.heap.size w0 W
 own:∀ p∈O,w0.heap.size≤p.1∧W.heap[p.1]?=some (.cells p.2.1.toArray p.2.2 (0,0))
 dist:O.Pairwise (fun p q=>p.1≠q.1)
 kept:∀ q∈K,cZ q.1 q.2 W∧∀ p∈O,p.1 < q.1∨q.2.heap.size≤p.1
 rows:∀ g∈G,W.ownsRow w0.heap.size g.e g.size g.v g.n g.xs∧∀ b,g.v.ownBlock=some b→(∀ p∈O,p.1≠b)∧∀ q∈K,b < q.1∨q.2.heap.size≤b
 gdist:G.Pairwise (fun g h=>Value.apart g.v h.v)
section
variable {w0 W:World} {O:Own} {G:cR} {K:List (Nat×World)}
theorem dI {w:World} {b:Nat} {o:Obj} (h:w.heap[b]?=some o):b < w.heap.size:=(Array.getElem?_eq_some_iff.1 h).1
theorem St.start (w:World):St w [] [] [] w:=⟨Below.refl _ _,(fun p h=>by cases h),List.Pairwise.nil,(fun q h=>by cases h),(fun q h=>by cases h),List.Pairwise.nil⟩
theorem St.glt (h:St w0 O G K W) {g:GR} (hg:g∈G) {b:Nat} (hb:g.v.ownBlock=some b):w0.heap.size≤b∧b < W.heap.size:=(h.rows g hg).1.lt b hb
theorem jX {w w':World} {base:Nat} {e:TypeId} {size:Nat} {v:Value} {n:Nat} {xs:List Value} (h:w.ownsRow base e size v n xs) (hb:∀ b,v.ownBlock=some b→w'.heap[b]?=w.heap[b]?):w'.ownsRow base e size v n xs:=by
 refine ⟨h.1,?_⟩
 rcases h.2 with h2 | ⟨g,cap,cur,rfl,h3,h4,h5⟩
 ·exact .inl h2
 ·exact .inr ⟨g,cap,cur,rfl,h3,by rw [hb g rfl];exact h4,h5⟩
theorem St.alloc (h:St w0 O G K W) (cs:List Value) (T:TypeId):St w0 ((W.heap.size,cs,T)::O) G K (W.alloc (.cells cs.toArray T)) where
 below:=h.below.alloc h.below.size _
 own:=fun p hp=>by
  rcases List.mem_cons.1 hp with rfl | hp
  ·exact ⟨h.below.size,heap_alloc_new W _⟩
  ·obtain ⟨h1,h2⟩:=h.own p hp
   exact ⟨h1,(Below.heap_alloc W _ _ (dI h2)).trans h2⟩
 dist:=List.Pairwise.cons (fun q hq e=>by have:=dI (h.own q hq).2;simp only at e;omega) h.dist
 kept:=fun q hq=>by
  obtain ⟨h1,h2⟩:=h.kept q hq
  refine ⟨⟨by have:=h1.1;simp;omega,fun b hb hb2=>(Below.heap_alloc W _ _ (by have:=h1.1;omega)).trans (h1.2 b hb hb2)⟩,fun p hp=>?_⟩
  rcases List.mem_cons.1 hp with rfl | hp
  ·exact .inr h1.1
  ·exact h2 p hp
 rows:=fun g hg=>by
  obtain ⟨h1,h2⟩:=h.rows g hg
  refine ⟨jX h1 fun b hb=>Below.heap_alloc W _ _ (h.glt hg hb).2,fun b hb=>⟨fun p hp=>?_,(h2 b hb).2⟩⟩
  rcases List.mem_cons.1 hp with rfl | hp
  ·have:=(h.glt hg hb).2;simp only;omega
  ·exact (h2 b hb).1 p hp
 gdist:=h.gdist
theorem St.grow {W':World} (h:St w0 O G K W) (hb:Below W.heap.size W W'):St w0 O G K W' where
 below:=h.below.trans (hb.mono h.below.size)
 own:=fun p hp=>by
  obtain ⟨h1,h2⟩:=h.own p hp
  exact ⟨h1,(hb.block _ (dI h2)).trans h2⟩
 dist:=h.dist
 kept:=fun q hq=>by
  obtain ⟨h1,h2⟩:=h.kept q hq
  exact ⟨⟨Nat.le_trans h1.1 hb.size,fun b hb1 hb2=>(hb.block b (Nat.lt_of_lt_of_le hb2 h1.1)).trans (h1.2 b hb1 hb2)⟩,h2⟩
 rows:=fun g hg=>⟨jX (h.rows g hg).1 fun b h1=>hb.block b (h.glt hg h1).2,(h.rows g hg).2⟩
 gdist:=h.gdist
theorem St.call {W':World} (h:St w0 O G K W) (hb:Below W.heap.size W W'):St w0 O G ((W.heap.size,W')::K) W' :=
 let g:=h.grow hb
 ⟨g.below,g.own,g.dist,fun q hq=>by
  rcases List.mem_cons.1 hq with rfl | hq
  ·exact ⟨cZ.refl _ _,fun p hp=>.inl (dI (h.own p hp).2)⟩
  ·exact g.kept q hq,(fun r hr=>⟨(g.rows r hr).1,fun b hb=>⟨((g.rows r hr).2 b hb).1,fun q hq=>by
   rcases List.mem_cons.1 hq with rfl | hq
   ·exact .inl (h.glt hr hb).2
   ·exact ((g.rows r hr).2 b hb).2 q hq⟩⟩),g.gdist⟩
theorem St.drew (h:St w0 O G K W):St w0 O G K W.drew:=h.grow (Below.refl _ _).drew
theorem St.at_ (h:St w0 O G K W) (i:Nat) {B:Nat} {cs:List Value} {T:TypeId} (hi:O[i]?=some (B,cs,T)):W.heap[B]?=some (.cells cs.toArray T (0,0)):=(h.own _ (List.mem_of_getElem? hi)).2
theorem St.ge (h:St w0 O G K W) (i:Nat) {B:Nat} {cs:List Value} {T:TypeId} (hi:O[i]?=some (B,cs,T)):w0.heap.size≤B:=(h.own _ (List.mem_of_getElem? hi)).1
theorem St.since (h:St w0 O G K W) (i:Nat) {lo:Nat} {A:World} (hi:K[i]?=some (lo,A)):cZ lo A W:=(h.kept _ (List.mem_of_getElem? hi)).1
theorem St.old (h:St w0 O G K W) {p:Addr} {v:Value} (hc:w0.cell? p=some v):W.cell? p=some v:=(h.below.cell (World.block_lt_of_cell? _ _ hc)).trans hc
theorem St.agree (h:St w0 O G K W):cZ 0 w0 W:=aP h.below 0
theorem aJ {B j:Nat} {cs:List Value} {T:TypeId} {v:Value} (h:W.heap[B]?=some (.cells cs.toArray T (0,0))) (hv:cs[j]?=some v):W.cell? ⟨B,j,none⟩=some v:=by
 unfold World.cell?;simp [h,hv]
theorem uY {B j:Nat} {cs:List Value} {T:TypeId} (h:W.heap[B]?=some (.cells cs.toArray T (0,0))):W.frozen? ⟨B,j,none⟩=false:=by
 unfold World.frozen?;simp [h]
theorem Bj {B j:Nat} {cs:List Value} {T:TypeId} (v:Value) (h:W.heap[B]?=some (.cells cs.toArray T (0,0))):(W.setCell ⟨B,j,none⟩ v).heap[B]?=some (.cells (cs.set j v).toArray T (0,0)):=by
 simp only [World.setCell,Array.getElem?_modify,if_true,h,Option.map_some]
 simp
theorem Jt {x y:Nat×List Value×TypeId} (hx:x.1=y.1):∀ {O:Own} {i:Nat},O[i]?=some x→O.Pairwise (fun p q=>p.1≠q.1)→(O.set i y).Pairwise (fun p q=>p.1≠q.1)
 | [],_,h,_=>by simp at h
 | p::O,0,h,hp=>by
  simp at h;subst h
  cases hp with
  | cons a b=>exact List.Pairwise.cons (fun q hq=>by rw [← hx];exact a q hq) b
 | p::O,i+1,h,hp=>by
  cases hp with
  | cons a b =>
   refine List.Pairwise.cons (fun q hq=>?_) (Jt hx (by simpa using h) b)
   rcases List.mem_or_eq_of_mem_set hq with hq | rfl
   ·exact a q hq
   ·rw [← hx];exact a x (List.mem_of_getElem? (by simpa using h))
theorem mR:∀ {O:Own} {i:Nat} {x y q:Nat×List Value×TypeId},O[i]?=some x→O.Pairwise (fun p q=>p.1≠q.1)→q∈O.set i y→q=y∨(q∈O∧q.1≠x.1)
 | [],_,_,_,_,h,_,_=>by simp at h
 | p::O,0,x,y,q,h,hp,hq=>by
  simp at h;subst h
  cases hp with
  | cons a b =>
   rcases List.mem_cons.1 hq with rfl | hq
   ·exact .inl rfl
   ·exact .inr ⟨List.mem_cons_of_mem _ hq,fun e=>a q hq e.symm⟩
 | p::O,i+1,x,y,q,h,hp,hq=>by
  cases hp with
  | cons a b =>
   rcases List.mem_cons.1 hq with rfl | hq
   ·exact .inr ⟨List.mem_cons_self,a x (List.mem_of_getElem? (by simpa using h))⟩
   ·rcases mR (by simpa using h) b hq with h1 | ⟨h1,h2⟩
    ·exact .inl h1
    ·exact .inr ⟨List.mem_cons_of_mem _ h1,h2⟩
theorem St.set (h:St w0 O G K W) (i:Nat) {B:Nat} {cs:List Value} {T:TypeId} (hi:O[i]?=some (B,cs,T)) (j:Nat) (v:Value):St w0 (O.set i (B,cs.set j v,T)) G K (W.setCell ⟨B,j,none⟩ v) where
 below:=h.below.setCell (p:=⟨B,j,none⟩) (h.ge i hi) v
 own:=fun p hp=>by
  rcases mR hi h.dist hp with rfl | ⟨h1,h2⟩
  ·exact ⟨h.ge i hi,Bj v (h.at_ i hi)⟩
  ·obtain ⟨h3,h4⟩:=h.own p h1
   exact ⟨h3,(Below.heap_setCell _ _ _ _ h2).trans h4⟩
 dist:=Jt (x:=(B,cs,T)) (y:=(B,cs.set j v,T)) rfl hi h.dist
 kept:=fun q hq=>by
  obtain ⟨h1,h2⟩:=h.kept q hq
  have hB:=h2 _ (List.mem_of_getElem? hi)
  refine ⟨⟨by have:=h1.1;simpa using this,fun b hb hb2=>(Below.heap_setCell _ _ _ _ (by show b≠B;simp only at hB;omega)).trans (h1.2 b hb hb2)⟩,fun p hp=>?_⟩
  rcases mR hi h.dist hp with rfl | ⟨h3,_⟩
  ·exact hB
  ·exact h2 p h3
 rows:=fun g hg=>by
  obtain ⟨h1,h2⟩:=h.rows g hg
  refine ⟨jX h1 fun b hb=>Below.heap_setCell _ _ _ _ (fun e=>(h2 b hb).1 _ (List.mem_of_getElem? hi) (by simpa using e.symm)),fun b hb=>⟨fun p hp=>?_,(h2 b hb).2⟩⟩
  rcases mR hi h.dist hp with rfl | ⟨h3,_⟩
  ·exact (h2 b hb).1 (B,cs,T) (List.mem_of_getElem? hi)
  ·exact (h2 b hb).1 p h3
 gdist:=h.gdist
theorem St.tail {p:Nat×List Value×TypeId} (h:St w0 (p::O) G K W):St w0 O G K W where
 below:=h.below
 own:=fun q hq=>h.own q (List.mem_cons_of_mem _ hq)
 dist:=by cases h.dist with | cons a b=>exact b
 kept:=fun q hq=>⟨(h.kept q hq).1,fun r hr=>(h.kept q hq).2 r (List.mem_cons_of_mem _ hr)⟩
 rows:=fun g hg=>⟨(h.rows g hg).1,fun b hb=>⟨fun r hr=>((h.rows g hg).2 b hb).1 r (List.mem_cons_of_mem _ hr),((h.rows g hg).2 b hb).2⟩⟩
 gdist:=h.gdist
theorem St.keep (K':List (Nat×World)) (h:St w0 O G K W) (hk:∀ q∈K',q∈K):St w0 O G K' W where
 below:=h.below
 own:=h.own
 dist:=h.dist
 kept:=fun q hq=>h.kept q (hk q hq)
 rows:=fun g hg=>⟨(h.rows g hg).1,fun b hb=>⟨((h.rows g hg).2 b hb).1,fun q hq=>((h.rows g hg).2 b hb).2 q (hk q hq)⟩⟩
 gdist:=h.gdist
theorem St.clear (h:St w0 O G K W):St w0 O G [] W:=h.keep [] (fun q hq=>by cases hq)
theorem St.newG (h:St w0 O G K W) (e:TypeId) (size:Nat):St w0 O (⟨.slice none 0 0,0,[],e,size⟩::G) K W where
 below:=h.below
 own:=h.own
 dist:=h.dist
 kept:=h.kept
 rows:=fun g hg=>by
  rcases List.mem_cons.1 hg with rfl | hg
  ·exact ⟨World.ownsRow_nil _ _ _ _,fun b hb=>by simp [Value.ownBlock] at hb⟩
  ·exact h.rows g hg
 gdist:=List.Pairwise.cons (fun g hg b hb=>by simp [Value.ownBlock] at hb) h.gdist
theorem St.row (h:St w0 O G K W) (i:Nat) {g:GR} (hi:G[i]?=some g):W.ownsRow w0.heap.size g.e g.size g.v g.n g.xs:=(h.rows g (List.mem_of_getElem? hi)).1
theorem nW {P:Program} {w:World} (base:Nat) (t ty e:TypeId) (i:TypeInfo) (z:Value) (ht:P.underlying t=some (.slice e)) (hi:P.info? e=some i) (hz:i.zero=some z) (hzs:z.cells.size=i.size) (hsz:0 < i.size)
  (v:Value) (n:Nat) (xs:List Value) (hown:w.ownsRow base e i.size v n xs) (a:Addr) (m c:Nat) (news:List Value) (hl:news.length=m * i.size) (hnews:∀ j u,news[j]?=some u→w.cell? (a.add j)=some u) (h1:∀ u∈news,u.oneCell'=true)
  (h63:n+m≤maxLen) (hbytes:(n+m) * i.bytes≤140737488355328) (hbase:base≤w.heap.size) :
  ∃ v' w',(Builtin.append_ #[t,t] ty #[v,.slice (some a) m c]).run P w = .ok v' w'∧w'.ownsRow base e i.size v' (n+m) (xs++news)∧w.grownBy w' v.ownBlock∧(v'.ownBlock=v.ownBlock∨v'.ownBlock=some w.heap.size):=by
 obtain ⟨v',w',hr,h2,h3,h4⟩:=run_append_own (P:=P) w base t ty e i z i.size i.bytes ht hi hz rfl rfl hzs hsz v n xs hown a m c news hl hnews h1 h63 hbytes hbase
 refine ⟨v',w',hr,h2,h3,?_⟩
 cases hv:v'.ownBlock with
 | none =>
  rcases h2.2 with ⟨rfl,hn⟩ | ⟨g,cap,cur,rfl,_⟩
  ·rw [(h4.1 rfl).1];exact .inl rfl
  ·simp [Value.ownBlock] at hv
 | some b =>
  by_cases hvb:v.ownBlock=some b
  ·exact .inl hvb.symm
  ·refine .inr ?_
   -- the block is no old one: append would have had to lie there before
   have hbig:=run_append_own (P:=P) w base t ty e i z i.size i.bytes ht hi hz rfl rfl hzs hsz v n xs hown a m c news hl hnews h1 h63 hbytes hbase
   rcases hown.2 with ⟨rfl,rfl⟩ | ⟨g,cap,cur,rfl,hbg,hg,hnc,hcm,hcs,htake⟩
   ·have hx:xs=[]:=List.eq_nil_of_length_eq_zero (by simpa using hown.1)
    subst hx
    by_cases hm:m=0
    ·subst hm
     have:=h4.2 ⟨rfl,rfl⟩
     subst this;simp [Value.ownBlock] at hv
    ·have hr2:=run_append_nil (P:=P) w t ty e i z ht hi hz a m c news hl hnews (by omega) (by simp only [maxLen] at h63;omega) (by have hb:=hbytes;simp only [Nat.zero_add] at hb;omega)
     rw [hr2] at hr
     simp only [Result.ok.injEq] at hr
     rw [← hr.1] at hv
     simpa [Value.ownBlock] using hv.symm
   ·by_cases hroom:n+m≤cap
    ·have hfit:n * i.size+news.length≤cur.size:=by rw [hl,hcs,← Nat.add_mul];exact Nat.mul_le_mul_right _ hroom
     have hr2:=run_append_room (P:=P) w t ty e i ht hi g n cap cur hg a m c news hl hnews h1 hroom hfit
     rw [hr2] at hr
     simp only [Result.ok.injEq] at hr
     rw [← hr.1] at hv
     exact absurd hv hvb
    ·have holds:∀ j u,xs[j]?=some u→w.cell? ((⟨g,0,none⟩:Addr).add j)=some u:=hown.cells (g:=g) rfl
     have hr2:=run_append_grow (P:=P) w t ty e i z ht hi hz ⟨g,0,none⟩ n cap xs hown.1 holds a m c news hl hnews (by omega) (by simp only [maxLen] at h63;omega) (growslice_fits (by omega) hbytes)
     rw [hr2] at hr
     simp only [Result.ok.injEq] at hr
     rw [← hr.1] at hv
     simpa [Value.ownBlock] using hv.symm
theorem Bk:∀ {G:cR} {i:Nat} {x y q:GR},G[i]?=some x→q∈G.set i y→G.Pairwise (fun g h=>Value.apart g.v h.v)→q=y∨(q∈G∧(Value.apart q.v x.v∨Value.apart x.v q.v))
 | [],_,_,_,_,h,_,_=>by simp at h
 | p::G,0,x,y,q,h,hq,hp=>by
  simp at h;subst h
  cases hp with
  | cons a b =>
   rcases List.mem_cons.1 hq with rfl | hq
   ·exact .inl rfl
   ·exact .inr ⟨List.mem_cons_of_mem _ hq,.inr (a q hq)⟩
 | p::G,i+1,x,y,q,h,hq,hp=>by
  cases hp with
  | cons a b =>
   rcases List.mem_cons.1 hq with rfl | hq
   ·exact .inr ⟨List.mem_cons_self,.inl (a x (List.mem_of_getElem? (by simpa using h)))⟩
   ·rcases Bk (by simpa using h) hq b with h1 | ⟨h1,h2⟩
    ·exact .inl h1
    ·exact .inr ⟨List.mem_cons_of_mem _ h1,h2⟩
theorem F4:∀ {G:cR} {i:Nat} {x y:GR},G[i]?=some x→(∀ q∈G,Value.apart q.v x.v→Value.apart q.v y.v)→(∀ q∈G,Value.apart x.v q.v→Value.apart y.v q.v)→G.Pairwise (fun g h=>Value.apart g.v h.v)→(G.set i y).Pairwise (fun g h=>Value.apart g.v h.v)
 | [],_,_,_,h,_,_,_=>by simp at h
 | p::G,0,x,y,h,k1,k2,hp=>by
  simp at h;subst h
  cases hp with
  | cons a b=>exact List.Pairwise.cons (fun q hq=>k2 q (List.mem_cons_of_mem _ hq) (a q hq)) b
 | p::G,i+1,x,y,h,k1,k2,hp=>by
  cases hp with
  | cons a b =>
   have hx:=a x (List.mem_of_getElem? (by simpa using h))
   refine List.Pairwise.cons (fun q hq=>?_) (F4 (by simpa using h) (fun q hq=>k1 q (List.mem_cons_of_mem _ hq)) (fun q hq=>k2 q (List.mem_cons_of_mem _ hq)) b)
   rcases List.mem_or_eq_of_mem_set hq with hq | rfl
   ·exact a q hq
   ·exact k1 p List.mem_cons_self hx
theorem St.setG {W':World} (h:St w0 O G K W) (i:Nat) {g:GR} (hi:G[i]?=some g) {v':Value} {n':Nat} {xs':List Value} (hown:W'.ownsRow w0.heap.size g.e g.size v' n' xs') (hgr:W.grownBy W' g.v.ownBlock) (hv:v'.ownBlock=g.v.ownBlock∨v'.ownBlock=some W.heap.size) :
  St w0 O (G.set i ⟨v',n',xs',g.e,g.size⟩) K W' where
 below:=h.below.grown hgr h.below.size (fun k hk=>(h.glt (List.mem_of_getElem? hi) hk).1)
 own:=fun p hp=>by
  obtain ⟨h1,h2⟩:=h.own p hp
  refine ⟨h1,(hgr.block _ (dI h2) (fun e=>?_)).trans h2⟩
  exact ((h.rows g (List.mem_of_getElem? hi)).2 p.1 e.symm).1 p hp rfl
 dist:=h.dist
 kept:=fun q hq=>by
  obtain ⟨h1,h2⟩:=h.kept q hq
  refine ⟨⟨Nat.le_trans h1.1 hgr.size,fun b hb hb2=>(hgr.block b (Nat.lt_of_lt_of_le hb2 h1.1) (fun e=>?_)).trans (h1.2 b hb hb2)⟩,h2⟩
  have:=((h.rows g (List.mem_of_getElem? hi)).2 b e.symm).2 q hq
  omega
 rows:=fun r hr=>by
  rcases Bk hi hr h.gdist with rfl | ⟨hr',hap⟩
  ·refine ⟨hown,fun b hb=>?_⟩
   rcases hv with e | e
   ·have hb':g.v.ownBlock=some b:=e▸hb
    exact (h.rows g (List.mem_of_getElem? hi)).2 b hb'
   ·have hb':W.heap.size=b:=by rw [show v'.ownBlock=some b from hb] at e;exact (Option.some.inj e).symm
    subst hb'
    exact ⟨fun p hp e=>by have:=dI (h.own p hp).2;omega,fun q hq=>.inr (h.kept q hq).1.1⟩
  ·refine ⟨jX (h.rows r hr').1 fun b hb=>hgr.block b (h.glt hr' hb).2 (fun e=>?_),(h.rows r hr').2⟩
   rcases hap with h1 | h1
   ·exact h1 b hb e.symm
   ·exact h1 b e.symm hb
 gdist:=F4 hi (fun q hq hap b hb e=>by
   rcases hv with e' | e'
   ·exact hap b hb (e'▸e)
   ·rw [show v'.ownBlock=some b from e] at e'
    have:=(h.glt hq hb).2
    have:=Option.some.inj e';omega) (fun q hq hap b hb e=>by
   rcases hv with e' | e'
   ·exact hap b (e'▸hb) e
   ·rw [show v'.ownBlock=some b from hb] at e'
    have:=(h.glt hq e).2
    have:=Option.some.inj e';omega) h.gdist
def setMany (W:World) (B:Nat):Nat→List Value→World
 | _,[]=>W
 | j,v::r=>setMany (W.setCell ⟨B,j,none⟩ v) B (j+1) r
def eJ (cs:List Value):Nat→List Value→List Value
 | _,[]=>cs
 | j,v::r=>eJ (cs.set j v) (j+1) r
theorem St.setMany {T:TypeId} {B:Nat} (i:Nat):∀ (vs:List Value) (j:Nat) {O:Own} {W:World} {cs:List Value},St w0 O G K W→O[i]?=some (B,cs,T)→St w0 (O.set i (B,eJ cs j vs,T)) G K (Go.Proofs.Ytafegfhpinpdoaa.setMany W B j vs)
 | [],j,O,W,cs,h,hi=>by
  have:O.set i (B,cs,T)=O:=by
   apply List.ext_getElem?
   intro k
   rw [List.getElem?_set]
   by_cases hk:i=k
   ·subst hk;rw [if_pos rfl];rw [hi];simp [(List.getElem?_eq_some_iff.1 hi).1]
   ·rw [if_neg hk]
  unfold eJ Go.Proofs.Ytafegfhpinpdoaa.setMany
  rw [this];exact h
 | v::r,j,O,W,cs,h,hi=>by
  have h1:=h.set i hi j v
  have hi2:(O.set i (B,cs.set j v,T))[i]?=some (B,cs.set j v,T):=by
   rw [List.getElem?_set];rw [if_pos rfl];simp [(List.getElem?_eq_some_iff.1 hi).1]
  have h2:=St.setMany i r (j+1) h1 hi2
  rw [List.set_set] at h2
  exact h2
end
def aK (W:World) (b o:Nat):List Value→Prop
 | []=>True
 | v::r=>W.cell? ⟨b,o,none⟩=some v∧aK W b (o+1) r
theorem aK.get {W:World} {b:Nat}:∀ {vs:List Value} {o:Nat},aK W b o vs→∀ j v,vs[j]?=some v→W.cell? ⟨b,o+j,none⟩=some v
 | [],_,_,j,v,h=>by simp at h
 | u::r,o,hc,0,v,h=>by simp at h;subst h;exact hc.1
 | u::r,o,hc,j+1,v,h=>by rw [show o+(j+1)=o+1+j by omega];exact aK.get hc.2 j v (by simpa using h)
theorem aK.of {W:World} {b:Nat}:∀ {vs:List Value} {o:Nat},(∀ j v,vs[j]?=some v→W.cell? ⟨b,o+j,none⟩=some v)→aK W b o vs
 | [],_,_=>trivial
 | u::r,o,h=>⟨h 0 u rfl,aK.of fun j v hv=>by rw [show o+1+j=o+(j+1) by omega];exact h (j+1) v (by simpa using hv)⟩
theorem aK.agree {A W:World} {lo b:Nat} (hw:cZ lo A W) (hb:lo≤b):∀ {vs:List Value} {o:Nat},aK A b o vs→aK W b o vs
 | [],_,_=>trivial
 | _::_,_,h=>⟨hw.cell hb h.1,aK.agree hw hb h.2⟩
theorem aK.own {W:World} {B:Nat} {cs:List Value} {T:TypeId} (h:W.heap[B]?=some (.cells cs.toArray T (0,0))) {j m:Nat} {vs:List Value} (hv:(cs.drop j).take m=vs):aK W B j vs:=by
 subst hv
 refine aK.of fun i v hi=>aJ h ?_
 rw [List.getElem?_take] at hi
 split at hi
 ·rwa [List.getElem?_drop] at hi
 ·cases hi
section
variable {P:Program} {n:Nat} {Q:Exit→Act→World→Prop} {l:Fr} {w0 W:World} {ops:Array Oper} {os:List Oper} {O:Own} {G:cR} {K:List (Nat×World)}
variable {d:Nat} {ty:TypeId} {pos:String} {aft:Array Edge} {v:Value}
theorem aX {x:Operand} {T:TypeId} {p:Addr} (hT:∀ w,(isAgg T).run P w = .ok false w) (hx:evL l x=some (.pointer (some p))) (hc:W.cell? p=some v):fZ P l ⟨some d,.load T x,ty,pos,aft,none⟩ W (v) W:=fun ev he=>by unfold execOp;simp only [];rw [he x _ hx];simp [Instr.loadAt,Instr.sureAddr,loadVar,hT,run_load,hc]
theorem aT {x:Operand} {T:TypeId} {p:Addr} (hT:∀ w,(isAgg T).run P w = .ok false w) (hx:evL l x=some (.pointer (some p))) (hc:W.cell? p=some v) (hd:Nat.blt d n=true) (h:cT P n ops Q os ((d,v)::l) W):cT P n ops Q (⟨some d,.load T x,ty,pos,aft,none⟩::os) l W:=opV (aX hT hx hc) hd h
theorem bL {x:Operand} {T:TypeId} {b o:Nat} {vs:List Value} (hT:∀ w,(isAgg T).run P w = .ok true w) (hS:∀ w,(sizeOf T).run P w = .ok vs.length w) (hx:evL l x=some (.pointer (some ⟨b,o,none⟩))) (hc:aK W b o vs):fZ P l ⟨some d,.load T x,ty,pos,aft,none⟩ W (.agg vs.toArray) W:=fun ev he=>by
  unfold execOp;simp only [];rw [he x _ hx]
  have:=run_loadCells_list (P:=P) W ⟨b,o,none⟩ vs (fun j u hj=>by rw [Addr.add_lit];exact hc.get j u hj)
  simp [Instr.loadAt,Instr.sureAddr,loadVar,hT,hS,this]
theorem aU {x:Operand} {T:TypeId} {b o:Nat} {vs:List Value} (hT:∀ w,(isAgg T).run P w = .ok true w) (hS:∀ w,(sizeOf T).run P w = .ok vs.length w) (hx:evL l x=some (.pointer (some ⟨b,o,none⟩))) (hc:aK W b o vs) (hd:Nat.blt d n=true) (h:cT P n ops Q os ((d,.agg vs.toArray)::l) W):cT P n ops Q (⟨some d,.load T x,ty,pos,aft,none⟩::os) l W:=opV (bL hT hS hx hc) hd h
theorem bQ {x:Operand} {T:TypeId} {cs:List Value} (hS:St w0 O G K W) (hx:evL l x=some v) (hcs:v.cells=cs.toArray) (hd:Nat.blt d n=true)
  (h:∀ B W',St w0 ((B,cs,T)::O) G K W'→cT P n ops Q os ((d,.pointer (some ⟨B,0,none⟩))::l) W'):cT P n ops Q (⟨some d,.box T x,ty,pos,aft,none⟩::os) l W :=
 opV (W':=W.alloc (.cells cs.toArray T)) (v:=.pointer (some ⟨W.heap.size,0,none⟩)) (fun ev he=>by unfold execOp;simp only [];rw [he x _ hx];simp [Instr.box,newVar,newRow,hcs]) hd (h _ _ (hS.alloc cs T))
theorem bU {T:TypeId} {z:Value} {cs:List Value} (hS:St w0 O G K W) (hz:∀ w,(zeroValue T).run P w = .ok z w) (hcs:z.cells=cs.toArray) (hd:Nat.blt d n=true)
  (h:∀ B W',St w0 ((B,cs,T)::O) G K W'→cT P n ops Q os ((d,.pointer (some ⟨B,0,none⟩))::l) W'):cT P n ops Q (⟨some d,.alloc T,ty,pos,aft,none⟩::os) l W :=
 opV (W':=W.alloc (.cells cs.toArray T)) (v:=.pointer (some ⟨W.heap.size,0,none⟩)) (fun ev he=>by unfold execOp;simp only [];simp [Instr.alloc,newVar,newRow,hz,hcs]) hd (h _ _ (hS.alloc cs T))
theorem wW {P:Program} {W:World} {p:Addr} {c v:Value} (hc:W.cell? p=some c) (hf:W.frozen? p=false) (hv:v.oneCell'=true):(store p v).run P W = .ok () (W.setCell p v):=by
 rw [run_store P W p v .plain hv,hc];simp [hf]
theorem jH {P:Program} {B:Nat} {U:TypeId}:∀ (vs:List Value) (j k:Nat) (W:World) (cs:List Value),W.heap[B]?=some (.cells cs.toArray U (0,0))→k+j+vs.length≤cs.length→(∀ u∈vs,u.oneCell'=true) →
  (storeCells ⟨B,k,none⟩ vs j).run P W = .ok () (setMany W B (k+j) vs)
 | [],j,k,W,cs,_,_,_=>by simp [storeCells,setMany]
 | v::r,j,k,W,cs,h,hl,h1=>by
  have hj':k+j < cs.length:=by simp at hl;omega
  have hc:W.cell? ⟨B,k+j,none⟩=some cs[k+j]:=aJ h (by simp [hj'])
  have hfz:=uY (j:=k+j) h
  have ih:=jH (P:=P) r (j+1) k (W.setCell ⟨B,k+j,none⟩ v) (cs.set (k+j) v) (Bj v h) (by simp at hl ⊢;omega) (fun u hu=>h1 u (List.mem_cons_of_mem _ hu))
  have hv:=h1 v List.mem_cons_self
  unfold setMany
  rw [show k+j+1=k+(j+1) by omega]
  rw [← ih]
  have hst:=wW (P:=P) hc hfz hv
  simp only [storeCells,Addr.add_lit,Sem.run_bind,hst,Result.andThen_ok]
theorem dK {T U:TypeId} {x y:Operand} {B j i:Nat} {cs cs':List Value} {O':Own} (hS:St w0 O G K W) (hsz:∀ w,(sizeOf T).run P w = .ok 1 w) (hx:evL l x=some (.pointer (some ⟨B,j,none⟩))) (hy:evL l y=some v) (hv:v.oneCell'=true) (hi:O[i]?=some (B,cs,U)) (hj:Nat.blt j cs.length=true)
  (hcs:cs.set j v=cs') (hO:O.set i (B,cs',U)=O') (h:∀ W',St w0 O' G K W'→cT P n ops Q os l W'):cT P n ops Q (⟨none,.store T x y,ty,pos,aft,none⟩::os) l W:=fun a ha=>by
 refine wpList_plain rfl fun K' hK=>?_
 unfold Oper.wp execOp
 simp only []
 rw [ha.ev x _ hx,ha.ev y _ hy]
 subst hcs;subst hO
 have hj':j < cs.length:=Nat.le_of_ble_eq_true hj
 have hc:W.cell? ⟨B,j,none⟩=some cs[j]:=aJ (hS.at_ i hi) (by simp [hj'])
 have hfz:=uY (j:=j) (hS.at_ i hi)
 have h2:=h _ (hS.set i hi j v)
 have hcells:v.cells=#[v]:=by cases v<;>first | rfl | cases hv
 have hst:=jH (P:=P) [v] 0 j W cs (hS.at_ i hi) (by simp;omega) (fun u hu=>by simp at hu;subst hu;exact hv)
 simp only [Nat.add_zero,Go.Proofs.Ytafegfhpinpdoaa.setMany] at hst
 have:(Instr.storeAt T (.pointer (some ⟨B,j,none⟩)) v).run P W = .ok () (W.setCell ⟨B,j,none⟩ v):=by
  simp [Instr.storeAt,Instr.sureAddr,storeVar,hsz,hcells,hst]
 simp only [Sem.run_bind,this,Result.andThen_ok,Sem.run_pure,Oper.upon_skip]
 exact hK _ _ (h2 _ ha)
theorem bB {T U:TypeId} {x y:Operand} {B j i:Nat} {cs cs' vs:List Value} {O':Own} (hS:St w0 O G K W) (hsz:∀ w,(sizeOf T).run P w = .ok vs.length w) (hx:evL l x=some (.pointer (some ⟨B,j,none⟩))) (hy:evL l y=some (.agg vs.toArray)) (hv:vs.all Value.oneCell'=true) (hi:O[i]?=some (B,cs,U)) (hj:Nat.ble (j+vs.length) cs.length=true)
  (hcs:eJ cs j vs=cs') (hO:O.set i (B,cs',U)=O') (h:∀ W',St w0 O' G K W'→cT P n ops Q os l W'):cT P n ops Q (⟨none,.store T x y,ty,pos,aft,none⟩::os) l W:=fun a ha=>by
 refine wpList_plain rfl fun K' hK=>?_
 unfold Oper.wp execOp
 simp only []
 rw [ha.ev x _ hx,ha.ev y _ hy]
 subst hcs;subst hO
 have hj':j+vs.length≤cs.length:=Nat.le_of_ble_eq_true hj
 have h2:=h _ (hS.setMany i vs j hi)
 have hst:=jH (P:=P) vs 0 j W cs (hS.at_ i hi) (by omega) (fun u hu=>List.all_eq_true.1 hv u hu)
 rw [Nat.add_zero] at hst
 have:(Instr.storeAt T (.pointer (some ⟨B,j,none⟩)) (.agg vs.toArray)).run P W = .ok () (Go.Proofs.Ytafegfhpinpdoaa.setMany W B j vs):=by
  simp [Instr.storeAt,Instr.sureAddr,storeVar,hsz,Value.cells,hst]
 simp only [Sem.run_bind,this,Result.andThen_ok,Sem.run_pure,Oper.upon_skip]
 exact hK _ _ (h2 _ ha)
theorem aV {T:TypeId} {x:Operand} {b o f k:Nat} (hF:∀ w b o,(Instr.fieldAt T (.pointer (some ⟨b,o,none⟩)) f).run P w = .ok (.pointer (some ⟨b,o+k,none⟩)) w) (hx:evL l x=some (.pointer (some ⟨b,o,none⟩))) {o':Nat} (ho:o+k=o'):fZ P l ⟨some d,.fieldAddr T x f,ty,pos,aft,none⟩ W (.pointer (some ⟨b,o',none⟩)) W:=fun ev he=>by subst ho;unfold execOp;simp only [];rw [he x _ hx];simp [hF]
theorem aN {T:TypeId} {x:Operand} {b o f k:Nat} (hF:∀ w b o,(Instr.fieldAt T (.pointer (some ⟨b,o,none⟩)) f).run P w = .ok (.pointer (some ⟨b,o+k,none⟩)) w) (hx:evL l x=some (.pointer (some ⟨b,o,none⟩))) {o':Nat} (ho:o+k=o') (hd:Nat.blt d n=true) (h:cT P n ops Q os ((d,.pointer (some ⟨b,o',none⟩))::l) W):cT P n ops Q (⟨some d,.fieldAddr T x f,ty,pos,aft,none⟩::os) l W:=opV (aV hF hx ho) hd h
theorem bA {T e:TypeId} {x y:Operand} {b o m c j k:Nat} {ki:IntKind} {i:Int} (hU:P.underlying T=some (.slice e)) (hS:∀ w,(sizeOf e).run P w = .ok k w) (hx:evL l x=some (.slice (some ⟨b,o,none⟩) m c)) (hy:evL l y=some (.int ki i)) (hi:i=(j:Int)) (hj:j < m) {o':Nat} (ho:o+j * k=o'):fZ P l ⟨some d,.indexAddr T x y,ty,pos,aft,none⟩ W (.pointer (some ⟨b,o',none⟩)) W:=fun ev he=>by
  subst ho;subst hi
  unfold execOp;simp only [];rw [he x _ hx,he y _ hy]
  have h0:(0:Int)≤(j:Int):=by omega
  have h1:(j:Int) < (m:Int):=by omega
  simp [Instr.indexAt,asIntOf,run_underlying hU,h0,h1,hS,hj,Addr.add_lit]
theorem cJ {T e:TypeId} {x y:Operand} {b o m c j k:Nat} {ki:IntKind} {i:Int} (hU:P.underlying T=some (.slice e)) (hS:∀ w,(sizeOf e).run P w = .ok k w) (hx:evL l x=some (.slice (some ⟨b,o,none⟩) m c)) (hy:evL l y=some (.int ki i)) (hi:i=(j:Int)) (hj:j < m) {o':Nat} (ho:o+j * k=o') (hd:Nat.blt d n=true) (h:cT P n ops Q os ((d,.pointer (some ⟨b,o',none⟩))::l) W):cT P n ops Q (⟨some d,.indexAddr T x y,ty,pos,aft,none⟩::os) l W:=opV (bA hU hS hx hy hi hj ho) hd h
theorem dC {f:FuncId} {args:Array Operand} {ts:Array TypeId} {vs:List Value} {R:Ending→World→Prop} (hS:St w0 O G K W) (hgo:bW P f=true) (ha:args.toList.map (evL l)=vs.map some) (hc:Calls P f vs.toArray W R)
  (hd:Nat.blt d n=true)
  (h:∀ e W',R e W'→∃ v,e = .returned v∧Below W.heap.size W W'∧(St w0 O G ((W.heap.size,W')::K) W'→cT P n ops Q os ((d,v)::l) W')):cT P n ops Q (⟨some d,.call { callee:=.value (.func f),args:=args,argTypes:=ts },ty,pos,aft,none⟩::os) l W:=fun a hl=>by
 refine wpList_plain rfl fun K' hK=>?_
 unfold Oper.wp
 rw [lX P a.eval W f args ts _ rfl rfl hgo,Oper.upon_enter]
 have hargs:args.map a.eval=vs.toArray:=by
  have key:∀ (xs:List Operand) (us:List Value),xs.map (evL l)=us.map some→xs.map a.eval=us:=by
   intro xs
   induction xs with
   | nil=>intro us h;cases us<;>simp at h ⊢
   | cons x xs ih =>
    intro us h
    cases us with
    | nil=>simp at h
    | cons u us =>
     simp only [List.map_cons,List.cons.injEq] at h
     simp only [List.map_cons,hl.ev x u h.1,ih us h.2]
  apply Array.ext'
  rw [Array.toList_map,key _ _ ha]
 rw [hargs]
 refine hc.mono ?_
 intro e W' hRe
 obtain ⟨v,rfl,hb,hn⟩:=h e W' hRe
 exact hK _ _ (hn (hS.call hb) _ (hl.put hd))
theorem bT {f:FuncId} {args:Array Operand} {ts:Array TypeId} {vs:List Value} {u:Value} (hS:St w0 O G K W) (hgo:bW P f=true) (ha:args.toList.map (evL l)=vs.map some) (hc:Calls P f vs.toArray W fun e w'=>e = .returned u∧Below W.heap.size W w')
  (hd:Nat.blt d n=true) (h:∀ W',St w0 O G ((W.heap.size,W')::K) W'→cT P n ops Q os ((d,u)::l) W'):cT P n ops Q (⟨some d,.call { callee:=.value (.func f),args:=args,argTypes:=ts },ty,pos,aft,none⟩::os) l W :=
 dC hS hgo ha hc hd fun _ W' hR=>⟨u,hR.1,hR.2,h W'⟩
theorem iZ {t e:TypeId} {x y:Operand} {i:Nat} {g:GR} {b o m c:Nat} {news:List Value} {inf:TypeInfo} {z:Value} (hS:St w0 O G K W) (hU:P.underlying t=some (.slice e)) (hinf:P.info? e=some inf) (hz:inf.zero=some z) (hzs:z.cells.size=inf.size) (hsz:0 < inf.size)
  (hi:G[i]?=some g) (he:g.e=e) (hgs:g.size=inf.size) (hx:evL l x=some g.v) (hy:evL l y=some (.slice (some ⟨b,o,none⟩) m c)) (hc:aK W b o news) (hl:news.length=m * inf.size) (h1:news.all Value.oneCell'=true)
  (h63:g.n+m≤maxLen) (hbytes:(g.n+m) * inf.bytes≤140737488355328) (hd:Nat.blt d n=true)
  (h:∀ v' W',St w0 O (G.set i ⟨v',g.n+m,g.xs++news,e,g.size⟩) K W'→cT P n ops Q os ((d,v')::l) W') :
  cT P n ops Q (⟨some d,.call { callee:=.builtin .append,args:=#[x,y],argTypes:=#[t,t] },ty,pos,aft,none⟩::os) l W:=by
 subst he
 have hrow:=hS.row i hi
 rw [hgs] at hrow
 obtain ⟨v',W',hr,h2,h3,h4⟩:=nW (P:=P) (w:=W) w0.heap.size t ty g.e inf z hU hinf hz hzs hsz g.v g.n g.xs hrow ⟨b,o,none⟩ m c news hl (fun j u hj=>by rw [Addr.add_lit];exact hc.get j u hj) (fun u hu=>List.all_eq_true.1 h1 u hu) h63 hbytes hS.below.size
 rw [← hgs] at h2
 refine opV (W':=W') (v:=v') (fun ev hev=>?_) hd (h v' W' (hS.setG i hi h2 h3 h4))
 unfold execOp
 simp only [resolve,invoke,builtin,Sem.run_bind,Sem.run_pure,Result.andThen_ok,List.map_toArray,List.map_cons,List.map_nil,hev x _ hx,hev y _ hy,hr]
end
section
variable {P:Program} {n:Nat} {Q:Exit→Act→World→Prop} {l:Fr} {w0 W:World} {ops:Array Oper} {os:List Oper} {O:Own} {G:cR} {K:List (Nat×World)}
variable {d:Nat} {ty:TypeId} {pos:String} {aft:Array Edge} {v:Value} {t u:TypeId} {x y:Operand} {k:IntKind} {a b:Int}
theorem fF {op:BinOp} {ev:Operand→Value} {r:Value} {p q:Value} (hx:ev x=p) (hy:ev y=q) (hg:(eqGuard op t x y p q).run P W = .ok () W) (h:(binOp op t p q).run P W = .ok r W) :
  (execOp ev ⟨some d,.binOp op t x y u,ty,pos,aft,none⟩).run P W = .ok (.value r) W:=by
 unfold execOp;simp only [hx,hy,Sem.run_bind,hg,Result.andThen_ok,h,Sem.run_pure]
theorem gO {op:BinOp}:(eqGuard op t x y (.int k a) (.int k b)).run P W = .ok () W:=by
 cases op<;>rfl
theorem nX (hx:evL l x=some (.int k a)) (hy:evL l y=some (.int k b)):fZ P l ⟨some d,.binOp .lss t x y u,ty,pos,aft,none⟩ W (.bool (decide (a < b))) W:=fun ev he=>fF (he x _ hx) (he y _ hy) gO (by simp [binOp,Op.intCmp])
theorem cC (hx:evL l x=some (.int k a)) (hy:evL l y=some (.int k b)) (hd:Nat.blt d n=true) (h:cT P n ops Q os ((d,.bool (decide (a < b)))::l) W):cT P n ops Q (⟨some d,.binOp .lss t x y u,ty,pos,aft,none⟩::os) l W:=opV (nX hx hy) hd h
theorem Ju (hx:evL l x=some (.int k a)) (hy:evL l y=some (.int k b)):fZ P l ⟨some d,.binOp .leq t x y u,ty,pos,aft,none⟩ W (.bool (decide (a≤b))) W:=fun ev he=>fF (he x _ hx) (he y _ hy) gO (by simp [binOp,Op.intCmp])
theorem Jv (hx:evL l x=some (.int k a)) (hy:evL l y=some (.int k b)) (hd:Nat.blt d n=true) (h:cT P n ops Q os ((d,.bool (decide (a≤b)))::l) W):cT P n ops Q (⟨some d,.binOp .leq t x y u,ty,pos,aft,none⟩::os) l W:=opV (Ju hx hy) hd h
theorem Dx (hx:evL l x=some (.int k a)) (hy:evL l y=some (.int k b)):fZ P l ⟨some d,.binOp .gtr t x y u,ty,pos,aft,none⟩ W (.bool (decide (b < a))) W:=fun ev he=>fF (he x _ hx) (he y _ hy) gO (by simp [binOp,Op.intCmp])
theorem dS (hx:evL l x=some (.int k a)) (hy:evL l y=some (.int k b)) (hd:Nat.blt d n=true) (h:cT P n ops Q os ((d,.bool (decide (b < a)))::l) W):cT P n ops Q (⟨some d,.binOp .gtr t x y u,ty,pos,aft,none⟩::os) l W:=opV (Dx hx hy) hd h
theorem Dy (hx:evL l x=some (.int k a)) (hy:evL l y=some (.int k b)):fZ P l ⟨some d,.binOp .geq t x y u,ty,pos,aft,none⟩ W (.bool (decide (b≤a))) W:=fun ev he=>fF (he x _ hx) (he y _ hy) gO (by simp [binOp,Op.intCmp])
theorem gV (hx:evL l x=some (.int k a)) (hy:evL l y=some (.int k b)) (hd:Nat.blt d n=true) (h:cT P n ops Q os ((d,.bool (decide (b≤a)))::l) W):cT P n ops Q (⟨some d,.binOp .geq t x y u,ty,pos,aft,none⟩::os) l W:=opV (Dy hx hy) hd h
theorem mS (hx:evL l x=some (.int k a)) (hy:evL l y=some (.int k b)):fZ P l ⟨some d,.binOp .eql t x y u,ty,pos,aft,none⟩ W (.bool (decide (a=b))) W:=fun ev he=>fF (he x _ hx) (he y _ hy) gO (by simp [binOp,Op.intCmp];rfl)
theorem cM (hx:evL l x=some (.int k a)) (hy:evL l y=some (.int k b)) (hd:Nat.blt d n=true) (h:cT P n ops Q os ((d,.bool (decide (a=b)))::l) W):cT P n ops Q (⟨some d,.binOp .eql t x y u,ty,pos,aft,none⟩::os) l W:=opV (mS hx hy) hd h
theorem zA (hx:evL l x=some (.int k a)) (hy:evL l y=some (.int k b)):fZ P l ⟨some d,.binOp .neq t x y u,ty,pos,aft,none⟩ W (.bool (decide (a≠b))) W:=fun ev he=>fF (he x _ hx) (he y _ hy) gO (by simp [binOp,Op.intCmp];by_cases h:a=b<;>simp [h])
theorem cN (hx:evL l x=some (.int k a)) (hy:evL l y=some (.int k b)) (hd:Nat.blt d n=true) (h:cT P n ops Q os ((d,.bool (decide (a≠b)))::l) W):cT P n ops Q (⟨some d,.binOp .neq t x y u,ty,pos,aft,none⟩::os) l W:=opV (zA hx hy) hd h
theorem rn_neqB {p q:Bool} (hB:P.underlying t=some .bool) (hx:evL l x=some (.bool p)) (hy:evL l y=some (.bool q)):fZ P l ⟨some d,.binOp .neq t x y u,ty,pos,aft,none⟩ W (.bool (!(p == q))) W:=fun ev he=>fF (he x _ hx) (he y _ hy) rfl (run_neq_bool W t p q hB)
theorem F5 {p q:Bool} (hB:P.underlying t=some .bool) (hx:evL l x=some (.bool p)) (hy:evL l y=some (.bool q)) (hd:Nat.blt d n=true) (h:cT P n ops Q os ((d,.bool (!(p == q)))::l) W):cT P n ops Q (⟨some d,.binOp .neq t x y u,ty,pos,aft,none⟩::os) l W:=opV (rn_neqB hB hx hy) hd h
theorem uZ {c:Int} (hx:evL l x=some (.int k a)) (hy:evL l y=some (.int k b)) (hw:k.wrap (a+b)=c):fZ P l ⟨some d,.binOp .add t x y u,ty,pos,aft,none⟩ W (.int k c) W:=fun ev he=>by subst hw;exact fF (he x _ hx) (he y _ hy) gO (by simp [binOp,Op.intArith])
theorem cE {c:Int} (hx:evL l x=some (.int k a)) (hy:evL l y=some (.int k b)) (hw:k.wrap (a+b)=c) (hd:Nat.blt d n=true) (h:cT P n ops Q os ((d,.int k c)::l) W):cT P n ops Q (⟨some d,.binOp .add t x y u,ty,pos,aft,none⟩::os) l W:=opV (uZ hx hy hw) hd h
theorem Jw {c:Int} (hx:evL l x=some (.int k a)) (hy:evL l y=some (.int k b)) (hw:k.wrap (a - b)=c):fZ P l ⟨some d,.binOp .sub t x y u,ty,pos,aft,none⟩ W (.int k c) W:=fun ev he=>by subst hw;exact fF (he x _ hx) (he y _ hy) gO (by simp [binOp,Op.intArith])
theorem Jx {c:Int} (hx:evL l x=some (.int k a)) (hy:evL l y=some (.int k b)) (hw:k.wrap (a - b)=c) (hd:Nat.blt d n=true) (h:cT P n ops Q os ((d,.int k c)::l) W):cT P n ops Q (⟨some d,.binOp .sub t x y u,ty,pos,aft,none⟩::os) l W:=opV (Jw hx hy hw) hd h
theorem rn_mul {c:Int} (hx:evL l x=some (.int k a)) (hy:evL l y=some (.int k b)) (hw:k.wrap (a * b)=c):fZ P l ⟨some d,.binOp .mul t x y u,ty,pos,aft,none⟩ W (.int k c) W:=fun ev he=>by subst hw;exact fF (he x _ hx) (he y _ hy) gO (by simp [binOp,Op.intArith])
theorem zB {c:Int} (hx:evL l x=some (.int k a)) (hy:evL l y=some (.int k b)) (hw:k.wrap (a * b)=c) (hd:Nat.blt d n=true) (h:cT P n ops Q os ((d,.int k c)::l) W):cT P n ops Q (⟨some d,.binOp .mul t x y u,ty,pos,aft,none⟩::os) l W:=opV (rn_mul hx hy hw) hd h
theorem rn_binG {op:BinOp} {p q r:Value} (hx:evL l x=some p) (hy:evL l y=some q) (hg:(eqGuard op t x y p q).run P W = .ok () W) (hr:(binOp op t p q).run P W = .ok r W):fZ P l ⟨some d,.binOp op t x y u,ty,pos,aft,none⟩ W r W:=fun ev he=>fF (he x _ hx) (he y _ hy) hg hr
theorem qH {ev:Operand→Value} (he:∀ x u,evL l x=some u→ev x=u):∀ (xs:List (Nat×Operand)) (us:List (Nat×Value)),xs.map (fun p=>(p.1,evL l p.2))=us.map (fun p=>(p.1,some p.2))→xs.map (fun p=>(p.1,ev p.2))=us
 | [],us,h=>by cases us<;>simp at h ⊢
 | x::xs,us,h=>by
  cases us with
  | nil=>simp at h
  | cons u us =>
   simp only [List.map_cons,List.cons.injEq,Prod.mk.injEq] at h
   obtain ⟨⟨h1,h2⟩,h3⟩:=h
   simp only [List.map_cons,he _ _ h2,h1,qH he xs us h3]
theorem nY {T:TypeId} {xs:List (Nat×Operand)} {us:List (Nat×Value)} {cs:Array Value} (hp:xs.map (fun p=>(p.1,evL l p.2))=us.map (fun p=>(p.1,some p.2))) (hb:P.built T us=some cs):fZ P l ⟨some d,.build T xs.toArray,ty,pos,aft,none⟩ W (.agg cs) W:=fun ev he=>by
  have h1:=qH he xs us hp
  have h2:(Array.map (fun p=>(p.1,ev p.2)) xs.toArray)=us.toArray:=by simp [h1]
  have h3:=run_build W T us.toArray cs (P:=P) (by simpa using hb)
  unfold execOp
  simp only []
  rw [h2]
  simp [h3]
theorem cY {T:TypeId} {xs:List (Nat×Operand)} {us:List (Nat×Value)} {cs:Array Value} (hp:xs.map (fun p=>(p.1,evL l p.2))=us.map (fun p=>(p.1,some p.2))) (hb:P.built T us=some cs) (hd:Nat.blt d n=true) (h:cT P n ops Q os ((d,.agg cs)::l) W):cT P n ops Q (⟨some d,.build T xs.toArray,ty,pos,aft,none⟩::os) l W:=opV (nY hp hb) hd h
theorem dE {T e:TypeId} {m s:Nat} {xs:List (Nat×Operand)} {us:List (Nat×Value)} {z:Value} {cs:List Value} (hS:St w0 O G K W) (hU:P.underlying T=some (.slice e)) (hs:∀ w,(sizeOf e).run P w = .ok s w) (hz:∀ w,(zeroValue e).run P w = .ok z w)
  (hm:Nat.ble (m * s) 16777216=true) (hm0:Nat.beq (m * s) 0=false) (hp:xs.map (fun p=>(p.1,evL l p.2))=us.map (fun p=>(p.1,some p.2)))
  (hf:Instr.fill (fun i=>some (i * s,s)) ((Array.range (m * s)).map (z.cells[· % z.cells.size]!)) us=some cs.toArray) (hd:Nat.blt d n=true)
  (h:∀ B W',St w0 ((B,cs,e)::O) G K W'→cT P n ops Q os ((d,.slice (some ⟨B,0,none⟩) m m)::l) W'):cT P n ops Q (⟨some d,.buildSlice T m xs.toArray,ty,pos,aft,none⟩::os) l W :=
 opV (W':=W.alloc (.cells cs.toArray e)) (v:=.slice (some ⟨W.heap.size,0,none⟩) m m) (fun ev he=>by
  have h1:=qH he xs us hp
  have h2:(Array.map (fun p=>(p.1,ev p.2)) xs.toArray)=us.toArray:=by simp [h1]
  have h4:m * s≤16777216:=Nat.le_of_ble_eq_true hm
  have h5:m * s≠0:=fun e=>by rw [e] at hm0;cases hm0
  have h6:¬ (m * s > 2 ^ 24):=by omega
  unfold execOp
  simp only []
  rw [h2]
  simp only [Instr.buildSlice,Sem.run_bind,run_underlying hU,Result.andThen_ok,hs,if_neg h6,if_neg h5,hz,Sem.run_pure,hf,newRow,run_newObj_alloc]) hd (h _ _ (hS.alloc cs e))
theorem F6 {T e:TypeId} {inf:TypeInfo} {z:Value} {m:Nat} {i1 i2:Int} {k2:IntKind} {cs:List Value} (hS:St w0 O G K W) (hU:P.underlying T=some (.slice e)) (hinf:P.info? e=some inf) (hz:inf.zero=some z) (hx:evL l x=some (.int k i1)) (hy:evL l y=some (.int k2 i2)) (h1:i1=(m:Int)) (h2:i2=(m:Int))
  (hcs:madeCells z.cells (m * inf.size)=cs.toArray) (hb:(inf.bytes:Int) * m≤281474976710656) (h63:(m:Int)≤9223372036854775807) (hd:Nat.blt d n=true)
  (h:∀ B W',St w0 ((B,cs,e)::O) G K W'→cT P n ops Q os ((d,.slice (some ⟨B,0,none⟩) m m)::l) W'):cT P n ops Q (⟨some d,.makeSlice T x y,ty,pos,aft,none⟩::os) l W :=
 opV (W':=W.alloc (.cells cs.toArray e)) (v:=.slice (some ⟨W.heap.size,0,none⟩) m m) (fun ev he=>by
  subst h1;subst h2
  have hr:=run_make (P:=P) W T e inf z hU hinf hz k k2 m m (by omega) (by omega) hb h63
  rw [Int.toNat_natCast,hcs] at hr
  unfold execOp;simp only [];rw [he x _ hx,he y _ hy]
  simp only [Sem.run_bind,hr,Result.andThen_ok,Sem.run_pure]) hd (h _ _ (hS.alloc cs e))
theorem dY {fn:Func} {r:Nat} {T:TypeId} {B o:Nat} {vs:List Value} (hf:fn.results=#[.cell r T]) (hT:∀ w,(isAgg T).run P w = .ok true w) (hS:∀ w,(sizeOf T).run P w = .ok vs.length w) (hl:fD l r=some (.pointer (some ⟨B,o,none⟩))) (hc:aK W B o vs) :
  ∀ a,Has n l a→(results fn a.tmps).run P W = .ok (.agg vs.toArray) W:=fun a ha=>by
 have h1:=run_loadCells_list (P:=P) W ⟨B,o,none⟩ vs (fun j u hj=>by rw [Addr.add_lit];exact hc.get j u hj)
 have h2:=ha.at_ r _ hl
 rw [Array.getD_eq_getD_getElem?] at h2
 simp [results,hf,h2,asAddr,loadVar,hT,hS,h1]
theorem jV {fn:Func} {r t:Nat} {T:TypeId} {B o:Nat} {vs:List Value} {x:Value} (hf:fn.results=#[.cell r T,.tmp t]) (hT:∀ w,(isAgg T).run P w = .ok true w) (hS:∀ w,(sizeOf T).run P w = .ok vs.length w) (hl:fD l r=some (.pointer (some ⟨B,o,none⟩))) (hc:aK W B o vs) (hx:fD l t=some x) :
  ∀ a,Has n l a→(results fn a.tmps).run P W = .ok (.tuple #[.agg vs.toArray,x]) W:=fun a ha=>by
 have h1:=run_loadCells_list (P:=P) W ⟨B,o,none⟩ vs (fun j u hj=>by rw [Addr.add_lit];exact hc.get j u hj)
 have h2:=ha.at_ r _ hl
 have h3:=ha.at_ t _ hx
 rw [Array.getD_eq_getD_getElem?] at h2 h3
 simp [results,hf,h2,h3,asAddr,loadVar,hT,hS,h1]
end
section
variable {P:Program} {n:Nat} {Q:Exit→Act→World→Prop} {l:Fr} {w0 W:World} {ops:Array Oper} {os:List Oper} {O:Own} {G:cR} {K:List (Nat×World)} {L:List Asr} {i:Nat}
def RG (P:Program) (n:Nat) (ops:Array Oper) (Q:Exit→Act→World→Prop) (l:Fr) (W:World) (L:List Asr) (i:Nat):Prop:=∀ a,Has n l a→RS P ops Q a.tmps W L i
def H1 (P:Program) (n:Nat) (ops:Array Oper) (Q:Exit→Act→World→Prop) (l:Fr) (W:World) (L:List Asr):Nat→Nat→Prop
 | 0,_=>True
 | m+1,k=>RG P n ops Q l W L k∧H1 P n ops Q l W L m (k+1)
theorem sC {a:Act} (ha:Has n l a):∀ {m k:Nat},H1 P n ops Q l W L m k→rC (RS P ops Q a.tmps W L) m k
 | 0,_,_=>trivial
 | m+1,k,h=>⟨h.1 a ha,sC ha h.2⟩
def OpG (n:Nat) (ops:Array Oper) (l:Fr) (L:List Asr) (i t:Nat) (p:Asr):Prop:=∀ a,Has n l a→OpI ops a.tmps L i (.tmp t) p
theorem g_fr {t:Nat} {v:Value} (hf:freeT ops t=true) (hv:fD l t=some v):OpG n ops l L i t (isV v):=fun a ha=>opF hf (ha.at_ t v hv)
theorem bP {t:Nat} {v:Value} (hv:fD l t=some v) (hf:freeT ops t=true:=by kernel_rfl):OpG n ops l L i t (isV v):=g_fr hf hv
theorem g_dep (j:Nat) {t:Nat} {p:Asr} (hw:bO ops i j t=true) (hL:atI L j=p):OpG n ops l L i t p:=fun a ha=>opD j t hw hL
theorem aL (j:Nat) {t:Nat} {p:Asr} (hL:atI L j=p) (hw:bO ops i j t=true:=by kernel_rfl):OpG n ops l L i t p:=g_dep j hw hL
def wX (n:Nat) (ops:Array Oper) (l:Fr) (L:List Asr) (i:Nat):Fr→Prop
 | []=>True
 | p::r=>OpG n ops l L i p.1 (isV p.2)∧wX n ops l L i r
theorem nZ {t0:Act} (h0:Has n l t0) {a:Act} {w:World} (hF:∀ t,freeT ops t=true→a.eval (.tmp t)=t0.tmps.getD t undef) (hD:∀ j d,bO ops i j d=true→atI L j (a.eval (.tmp d)) w) :
  ∀ {li:Fr},wX n ops l L i li→∀ x u,evL li x=some u→a.eval x=u:=by
 have key:∀ {li:Fr},wX n ops l L i li→∀ t v,fD li t=some v→a.eval (.tmp t)=v:=by
  intro li
  induction li with
  | nil=>intro _ t v h;cases h
  | cons p r ih =>
   intro h t v hv
   unfold fD at hv
   cases hb:Nat.beq p.1 t with
   | true =>
    simp only [hb,cond_true,Option.some.injEq] at hv
    rw [← Nat.eq_of_beq_eq_true hb,← hv]
    exact h.1 t0 h0 a w hF hD
   | false =>
    simp only [hb,cond_false] at hv
    exact ih h.2 t v hv
 intro li hli x u hx
 cases x with
 | tmp t=>exact key hli t u hx
 | const c=>exact Option.some.inj hx
 | global g=>exact Option.some.inj hx
 | func f=>exact Option.some.inj hx
theorem fO (ev:Operand→Value) (dst:Option Tmp) (op:Op) (ty:TypeId) (pos pos':String) (aft aft':Array Edge) (g g':Option (Nat×Bool)):execOp ev ⟨dst,op,ty,pos,aft,g⟩=execOp ev ⟨dst,op,ty,pos',aft',g'⟩:=by unfold execOp;rfl
variable {d:Nat} {op:Op} {ty:TypeId} {pos:String} {aft:Array Edge} {v:Value} {gd:Option (Nat×Bool)}
theorem rgV (li:Fr) (hi:ops[i]?=some ⟨some d,op,ty,pos,aft,gd⟩) (hw:gT ops L i ⟨some d,op,ty,pos,aft,gd⟩) (hli:wX n ops l L i li) (hr:∀ w,Below W.heap.size W w→fZ P li ⟨some d,op,ty,pos,#[],none⟩ w v w) (hI:atI L i=isV v):RG P n ops Q l W L i :=
 fun a ha=>rD hi hw fun b w hF hG hD=>⟨v,w,by rw [fO b.eval _ _ _ _ pos _ #[] _ none];exact hr w hG b.eval (nZ ha hF hD hli),by rw [hI];rfl,Below.refl _ _⟩
theorem jR (li:Fr) {v':Value} (hi:ops[i]?=some ⟨some d,op,ty,pos,aft,gd⟩) (hw:gT ops L i ⟨some d,op,ty,pos,aft,gd⟩) (hli:wX n ops l L i li) (hr:∀ w,Below W.heap.size W w→fZ P li ⟨some d,op,ty,pos,#[],none⟩ w v w) (he:v=v') (hI:atI L i=isV v'):RG P n ops Q l W L i:=by
 subst he;exact rgV li hi hw hli hr hI
theorem bJ (hi:ops[i]?=some ⟨some d,op,ty,pos,aft,gd⟩) (hw:iI ops L i ⟨some d,op,ty,pos,aft,gd⟩) (hI:atI L i=isV undef):RG P n ops Q l W L i:=fun a ha=>st_none hi hw hI
theorem aS {o:Oper} (h:o.guard=none):gT ops L i o:=.inl h
theorem w_yes {o:Oper} {g:Nat} {b:Bool} (d:Nat) (h:o.guard=some (g,b)) (hd:(ops[g]?).bind (·.dst)=some d) (hw:bO ops i g d=true) (hL:atI L g=isV (.bool b)):gT ops L i o:=.inr ⟨g,b,d,h,hd,hw,hL⟩
theorem bE {o:Oper} {g:Nat} {b:Bool} (d:Nat) (h:o.guard=some (g,b)) (hL:atI L g=isV (.bool b)) (hd:(ops[g]?).bind (·.dst)=some d:=by kernel_rfl) (hw:bO ops i g d=true:=by kernel_rfl):gT ops L i o:=w_yes d h hd hw hL
theorem w_no {o:Oper} {g:Nat} {b c:Bool} (d:Nat) (h:o.guard=some (g,b)) (hd:(ops[g]?).bind (·.dst)=some d) (hw:bO ops i g d=true) (hL:atI L g=isV (.bool c)) (hc:(c == b)=false):iI ops L i o:=.inl ⟨g,b,c,d,h,hd,hw,hL,hc⟩
theorem bK {o:Oper} {g:Nat} {b c:Bool} (d:Nat) (h:o.guard=some (g,b)) (hL:atI L g=isV (.bool c)) (hc:(c == b)=false) (hd:(ops[g]?).bind (·.dst)=some d:=by kernel_rfl) (hw:bO ops i g d=true:=by kernel_rfl):iI ops L i o:=w_no d h hd hw hL hc
theorem w_un {o:Oper} {g:Nat} {b:Bool} (d:Nat) (h:o.guard=some (g,b)) (hd:(ops[g]?).bind (·.dst)=some d) (hw:bO ops i g d=true) (hL:atI L g=isV undef):iI ops L i o:=.inr ⟨g,b,d,h,hd,hw,hL⟩
theorem nL {o:Oper} {g:Nat} {b:Bool} (d:Nat) (h:o.guard=some (g,b)) (hL:atI L g=isV undef) (hd:(ops[g]?).bind (·.dst)=some d:=by kernel_rfl) (hw:bO ops i g d=true:=by kernel_rfl):iI ops L i o:=w_un d h hd hw hL
def wY (n:Nat) (ops:Array Oper) (l:Fr) (L:List Asr) (i:Nat):List Operand→List Asr→Prop
 | [],[]=>True
 | x::xs,p::ps=>(∀ a,Has n l a→OpI ops a.tmps L i x p)∧wY n ops l L i xs ps
 | _,_=>False
def nM:List Asr→List Value→World→Prop
 | [],[],_=>True
 | p::ps,v::vs,w=>p v w∧nM ps vs w
 | _,_,_=>False
theorem cD {t:Nat} {p:Asr} (h:OpG n ops l L i t p):∀ a,Has n l a→OpI ops a.tmps L i (.tmp t) p:=h
theorem eX {c:Value}:∀ a,Has n l a→OpI ops a.tmps L i (.const c) (isV c):=fun a ha=>opC
theorem jA {t0:Act} (h0:Has n l t0) {a:Act} {w:World} (hF:∀ t,freeT ops t=true→a.eval (.tmp t)=t0.tmps.getD t undef) (hD:∀ j d,bO ops i j d=true→atI L j (a.eval (.tmp d)) w) :
  ∀ {xs:List Operand} {ps:List Asr},wY n ops l L i xs ps→nM ps (xs.map a.eval) w
 | [],[],_=>trivial
 | x::xs,p::ps,h=>⟨h.1 t0 h0 a w hF hD,jA h0 hF hD h.2⟩
 | [],_::_,h=>h.elim
 | _::_,[],h=>h.elim
theorem cP {f:FuncId} {xs:List Operand} {ts:Array TypeId} (ps:List Asr) (hi:ops[i]?=some ⟨some d,.call { callee:=.value (.func f),args:=xs.toArray,argTypes:=ts },ty,pos,aft,gd⟩) (hgo:bW P f=true)
  (hw:gT ops L i ⟨some d,.call { callee:=.value (.func f),args:=xs.toArray,argTypes:=ts },ty,pos,aft,gd⟩) (hp:wY n ops l L i xs ps)
  {p:Asr} (hc:∀ vs w,Below W.heap.size W w→nM ps vs w→Calls P f vs.toArray w (Be p w)) (hI:atI L i=p):RG P n ops Q l W L i :=
 fun a ha=>st_call hi rfl hgo hw fun b w hF hG hD=>by
  have:=hc (xs.map b.eval) w hG (jA ha hF hD hp)
  subst hI
  rwa [show (xs.map b.eval).toArray=xs.toArray.map b.eval by simp] at this
theorem zC {T e:TypeId} {m s:Nat} {xs:List (Nat×Operand)} {z:Value} (ps:List Asr) (hi:ops[i]?=some ⟨some d,.buildSlice T m xs.toArray,ty,pos,aft,gd⟩) (hw:gT ops L i ⟨some d,.buildSlice T m xs.toArray,ty,pos,aft,gd⟩)
  (hU:P.underlying T=some (.slice e)) (hs:∀ w,(sizeOf e).run P w = .ok s w) (hz:∀ w,(zeroValue e).run P w = .ok z w) (hm:Nat.ble (m * s) 16777216=true) (hm0:Nat.beq (m * s) 0=false) (hp:wY n ops l L i (xs.map (·.2)) ps)
  (hf:∀ vs w,Below W.heap.size W w→nM ps vs w→∃ cs:List Value,Instr.fill (fun i=>some (i * s,s)) ((Array.range (m * s)).map (z.cells[· % z.cells.size]!)) ((xs.map (·.1)).zip vs)=some cs.toArray ∧
   ∀ B w',w.heap.size=B→w'.heap[B]?=some (.cells cs.toArray e (0,0))→Below w.heap.size w w'→atI L i (.slice (some ⟨B,0,none⟩) m m) w'):RG P n ops Q l W L i :=
 fun a ha=>rD hi hw fun b w hF hG hD=>by
  obtain ⟨cs,h1,h2⟩:=hf _ w hG (jA ha hF hD hp)
  have h4:m * s≤16777216:=Nat.le_of_ble_eq_true hm
  have h5:m * s≠0:=fun e=>by rw [e] at hm0;cases hm0
  have h6:¬ (m * s > 2 ^ 24):=by omega
  have h7:((xs.map (·.1)).zip ((xs.map (·.2)).map b.eval))=xs.map (fun p=>(p.1,b.eval p.2)):=by
   clear hi hw hp h1 hf h2
   induction xs with
   | nil=>rfl
   | cons x xs ih=>simp only [List.map_cons,List.zip_cons_cons,ih]
  rw [h7] at h1
  have hB:Below w.heap.size w (w.alloc (.cells cs.toArray e)):=(Below.refl _ _).alloc (Nat.le_refl _) _
  refine ⟨_,w.alloc (.cells cs.toArray e),?_,h2 _ _ rfl (heap_alloc_new w _) hB,hB⟩
  unfold execOp
  simp only []
  rw [show (Array.map (fun p=>(p.1,b.eval p.2)) xs.toArray)=(xs.map (fun p=>(p.1,b.eval p.2))).toArray by simp]
  simp only [Instr.buildSlice,Sem.run_bind,run_underlying hU,Result.andThen_ok,hs,if_neg h6,if_neg h5,hz,Sem.run_pure,h1,newRow,run_newObj_alloc]
def jS:List Oper→List Asr→Fr→(Fr→World→Prop)→World→Prop
 | [],_,l,K,W=>K l W
 | o::os,L,l,K,W=>∀ v,atI L 0 v W→jS os L.tail ((match o.dst with | some d=>[(d,v)] | none=>[])++l) K W
theorem aG {c:Value} {K:Fr→World→Prop} {dst:Nat} {op:Op} {ty:TypeId} {pos:String} {aft:Array Edge} {g:Option (Nat×Bool)} (h:jS os L ((dst,c)::l) K W):jS (⟨some dst,op,ty,pos,aft,g⟩::os) (isV c::L) l K W:=fun v hv=>by
 have:v=c:=hv
 subst this;exact h
theorem dR {p:Asr} {K:Fr→World→Prop} {dst:Nat} {op:Op} {ty:TypeId} {pos:String} {aft:Array Edge} {g:Option (Nat×Bool)} (h:∀ v,p v W→jS os L ((dst,v)::l) K W):jS (⟨some dst,op,ty,pos,aft,g⟩::os) (p::L) l K W:=fun v hv=>h v hv
theorem cH {K:Fr→World→Prop} (h:K l W):jS [] L l K W:=h
theorem oA (L:List Asr) (i:Nat):atI L.tail i=atI L (i+1):=by cases L<;>rfl
theorem rE {a:Act} {K:Fr→World→Prop} {G:Prop}:∀ (os:List Oper) (L:List Asr) (l:Fr),(∀ i d,i < os.length→(os[i]?).bind (·.dst)=some d→atI L i (a.tmps.getD d undef) W)→a.tmps.size=n→a.defers=[] →
  (∀ t v,fD l t=some v→(∀ o∈os,o.dst≠some t)→a.tmps.getD t undef=v)→(∀ o∈os,∃ d,o.dst=some d)→(hK:∀ l',K l' W→Has n l' a→G)→jS os L l K W→G
 | [],L,l,hI,hs,hd,hl,_,hK,h=>hK l h ⟨hs,hd,fun t v hv=>hl t v hv (fun o ho=>by cases ho)⟩
 | o::os,L,l,hI,hs,hd,hl,hdst,hK,h=>by
  obtain ⟨d,hod⟩:=hdst o List.mem_cons_self
  have h0:=hI 0 d (by simp) (by simp [hod])
  have h1:=h _ h0
  refine rE os L.tail _ (fun i e hi he=>by rw [oA];exact hI (i+1) e (by simpa using hi) (by simpa using he)) hs hd ?_ (fun o ho=>hdst o (List.mem_cons_of_mem _ ho)) hK h1
  intro t v hv hno
  rw [hod] at hv
  simp only [List.cons_append,List.nil_append] at hv
  unfold fD at hv
  cases hb:Nat.beq d t with
  | true =>
   simp only [hb,cond_true,Option.some.injEq] at hv
   rw [← Nat.eq_of_beq_eq_true hb];exact hv
  | false =>
   simp only [hb,cond_false] at hv
   refine hl t v hv (fun o' ho'=>?_)
   rcases List.mem_cons.1 ho' with rfl | ho'
   ·rw [hod];intro e;rw [Option.some.inj e,Nat.beq_refl] at hb;cases hb
   ·exact hno o' ho'
theorem regD {id:Nat} (hm:P.follows .mixedOrders=true) (L:List Asr) (hS:St w0 O G K W) (ht:dQ os.toArray n=true) (hdst:os.all (fun o=>o.dst.isSome)=true) {m:Nat} (hlen:os.length=m)
  (hstep:H1 P n os.toArray Q l W L m 0) (hst:nK L)
  (hfin:∀ W',Below W.heap.size W W'→St w0 O G ((W.heap.size,W')::K) W'→jS os L l (fun l' W'=>XF Q .normal n l' W') W'):eC P n (.region id os.toArray true) Q l W:=fun a ha=>by
 subst hlen
 refine tV hm L (by rw [ha.size];exact ht) hst (by have:=sC ha hstep;simpa using this) ?_
 intro a' W' hs hd hf hG hI
 refine rE os L l (fun i d hi hd'=>hI i d (by simpa using hi) (by simpa using hd')) (hs.trans ha.size) (hd.trans ha.defers) ?_ (fun o ho=>?_) (fun l' h ha'=>h a' ha') (hfin W' hG (hS.call hG))
 ·intro t v hv hno
  rw [hf t (by unfold freeT;rw [Array.all_eq_true'];intro o ho;simpa using hno o (by simpa using ho))]
  exact ha.at_ t v hv
 ·have:=List.all_eq_true.1 hdst o ho
  exact Option.isSome_iff_exists.1 this
theorem regDL {id:Nat} {o:Oper} (hm:P.follows .mixedOrders=true) (L:List Asr) (hS:St w0 O G K W) (hl:lW (os++[o]).toArray os.length=true) (ht:dQ (os++[o]).toArray n=true) (hdst:os.all (fun o=>o.dst.isSome)=true) (hfree:∀ d,o.dst=some d→fD l d=none)
  (hstep:H1 P n (os++[o]).toArray Q l W L os.length 0) (hst:nK L)
  (hfin:∀ W',Below W.heap.size W W'→St w0 O G ((W.heap.size,W')::K) W'→jS os L l (fun l' W'=>cT P n (os++[o]).toArray Q [o] l' W') W'):eC P n (.region id (os++[o]).toArray true) Q l W:=fun a ha=>by
 refine nV hm os.length L hl (by rw [ha.size];exact ht) hst (sC ha hstep) ?_
 intro a' W' hs hd hf hG hI
 have hk:((os++[o]).toArray)[os.length]?=some o:=by simp
 refine rE os L l (fun i d hi hd'=>hI i d hi (by simp [List.getElem?_append_left hi];simpa using hd')) (hs.trans ha.size) (hd.trans ha.defers) ?_ (fun o ho=>?_) (fun l' h ha'=>?_) (hfin W' hG (hS.call hG))
 ·intro t v hv hno
  rw [hf t (by
   unfold freeT;rw [Array.all_eq_true'];intro o' ho'
   have:o'∈os++[o]:=by simpa using ho'
   rcases List.mem_append.1 this with h1 | h1
   ·simpa using hno o' h1
   ·simp only [List.mem_singleton] at h1
    subst h1
    cases hx:o'.dst with
    | none=>simp
    | some d=>simp;intro e;subst e;rw [hfree d hx] at hv;cases hv)]
  exact ha.at_ t v hv
 ·have:=List.all_eq_true.1 hdst o ho
  exact Option.isSome_iff_exists.1 this
 ·have h1:=h a' ha'
  unfold wpOp
  rw [hk]
  exact h1
theorem regDK {id:Nat} {o:Oper} (hm:P.follows .mixedOrders=true) (L:List Asr) (k:Nat) (hS:St w0 O G K W) (hk:os[k]?=some o) (hlen:os.length=k+1) (hl:lW os.toArray k=true) (ht:dQ os.toArray n=true) (hdst:(os.take k).all (fun o=>o.dst.isSome)=true) (hfree:∀ d,o.dst=some d→fD l d=none)
  (hstep:H1 P n os.toArray Q l W L k 0) (hst:nK L)
  (hfin:∀ W',Below W.heap.size W W'→St w0 O G ((W.heap.size,W')::K) W'→jS (os.take k) L l (fun l' W'=>cT P n os.toArray Q [o] l' W') W'):eC P n (.region id os.toArray true) Q l W:=by
 have e:os=os.take k++[o]:=by
  apply List.ext_getElem?
  intro j
  by_cases hj:j < k
  ·rw [List.getElem?_append_left (by simp;omega),List.getElem?_take,if_pos hj]
  ·by_cases hj2:j=k
   ·subst hj2;rw [List.getElem?_append_right (by simp;omega),hk];simp [show min j os.length=j by omega]
   ·rw [List.getElem?_eq_none (by omega),List.getElem?_eq_none (by simp;omega)]
 have hkl:(os.take k).length=k:=by simp;omega
 generalize hg:os.take k=os1 at *
 subst hkl
 subst e
 exact regDL hm L hS hl ht hdst hfree hstep hst hfin
def tC (lo m:Nat) (e:TypeId) (cs:List Value):Asr:=fun v w=>∃ B,v = .slice (some ⟨B,0,none⟩) m m∧lo≤B∧w.heap[B]?=some (.cells cs.toArray e (0,0))
theorem kN {lo m:Nat} {e:TypeId} {cs:List Value}:kL (tC lo m e cs):=fun v w w' ⟨B,h1,h2,h3⟩ hb=>⟨B,h1,h2,(hb.block B (dI h3)).trans h3⟩
theorem bZ:∀ {us vs:List Value} {w:World},nM (us.map isV) vs w→vs=us
 | [],[],_,_=>rfl
 | u::us,v::vs,w,h=>by rw [bZ h.2];congr 1;exact h.1
 | [],_::_,_,h=>h.elim
 | _::_,[],_,h=>h.elim
theorem rF {T e:TypeId} {m s:Nat} {xs:List (Nat×Operand)} {us:List Value} {z:Value} {cs:List Value} (hi:ops[i]?=some ⟨some d,.buildSlice T m xs.toArray,ty,pos,aft,gd⟩) (hw:gT ops L i ⟨some d,.buildSlice T m xs.toArray,ty,pos,aft,gd⟩)
  (hU:P.underlying T=some (.slice e)) (hs:∀ w,(sizeOf e).run P w = .ok s w) (hz:∀ w,(zeroValue e).run P w = .ok z w) (hm:Nat.ble (m * s) 16777216=true) (hm0:Nat.beq (m * s) 0=false) (hp:wY n ops l L i (xs.map (·.2)) (us.map isV))
  (hf:Instr.fill (fun i=>some (i * s,s)) ((Array.range (m * s)).map (z.cells[· % z.cells.size]!)) ((xs.map (·.1)).zip us)=some cs.toArray) (hI:atI L i=tC W.heap.size m e cs):RG P n ops Q l W L i :=
 zC (us.map isV) hi hw hU hs hz hm hm0 hp fun vs w hb hh=>by
  rw [bZ hh]
  exact ⟨cs,hf,fun B w' hB h1 h2=>by rw [hI];exact ⟨B,rfl,by rw [← hB];exact hb.size,h1⟩⟩
theorem oV:∀ (L:List Asr) (i:Nat),i < L.length→some (atI L i)=L[i]?
 | [],i,h=>by simp at h
 | p::L,0,_=>rfl
 | p::L,i+1,h=>by rw [List.getElem?_cons_succ];exact oV L i (by simpa using h)
theorem aD {p:Asr} {Lr:List Asr} (h:Lr.length=i):atI (p::Lr).reverse i=p:=by
 have:=oV (p::Lr).reverse i (by simp;omega)
 rw [List.getElem?_reverse (by simp;omega)] at this
 simp only [List.length_cons,h,show i+1 - 1 - i=0 by omega,List.getElem?_cons_zero,Option.some.injEq] at this
 exact this
theorem aA {Lr:List Asr} {j:Nat} {p:Asr} (h:Lr.length=i+1) (hj:Nat.ble j i=true) (hL:atI Lr (i - j)=p):atI Lr.reverse j=p:=by
 have hj':j≤i:=Nat.le_of_ble_eq_true hj
 have h1:=oV Lr.reverse j (by simp;omega)
 rw [List.getElem?_reverse (by omega)] at h1
 have h2:=oV Lr (i - j) (by omega)
 rw [show Lr.length - 1 - j=i - j by omega,← h2,hL] at h1
 exact Option.some.inj h1
theorem RG.ext {L1 L2:List Asr} (ht:dQ ops n=true) (hag:∀ j,j≤i→atI L1 j=atI L2 j) (h:RG P n ops Q l W L1 i):RG P n ops Q l W L2 i:=fun a ha=>by
 have h1:=h a ha
 intro b w hF hG hD
 have hlt:∀ j d,bO ops i j d=true→j < i:=fun j d hw=>by
  cases ho:ops[i]? with
  | none=>simp [bO,ho] at hw
  | some o =>
   simp only [bO,ho,Bool.and_eq_true,beq_iff_eq] at hw
   obtain ⟨e,he,h2⟩:=Array.any_eq_true'.1 hw.1
   simp only [Bool.and_eq_true,beq_iff_eq] at h2
   rw [← h2.1];exact kJ ht ho e he h2.2
 have h2:=h1 b w hF hG (fun j d hw=>by rw [hag j (Nat.le_of_lt (hlt j d hw))];exact hD j d hw)
 rw [hag i (Nat.le_refl _)] at h2
 exact h2
def BL (P:Program) (n:Nat) (ops:Array Oper) (Q:Exit→Act→World→Prop) (l:Fr) (W:World) (Goal:List Asr→Prop):Nat→List Asr→Nat→Prop
 | 0,Lr,_=>Goal Lr
 | m+1,Lr,k=>∃ p,kL p∧RG P n ops Q l W (p::Lr).reverse k∧BL P n ops Q l W Goal m (p::Lr) (k+1)
variable {Goal:List Asr→Prop}
theorem dB {Lr:List Asr} {k:Nat} (h:Goal Lr):BL P n ops Q l W Goal 0 Lr k:=h
theorem aM {m k:Nat} {Lr:List Asr} (k':Nat) (hk:k+1=k') (p:Asr) (hs:kL p) (h:RG P n ops Q l W (p::Lr).reverse k) (hr:BL P n ops Q l W Goal m (p::Lr) k'):BL P n ops Q l W Goal (m+1) Lr k:=by
 subst hk;exact ⟨p,hs,h,hr⟩
theorem bl_f {m k:Nat} {Lr:List Asr} {x u:Value} (k':Nat) (hk:k+1=k') (t:Nat) (hi:ops[k]?=some ⟨some d,op,ty,pos,aft,none⟩) (hf:freeT ops t=true) (hv:fD l t=some u) (hr:∀ w,Below W.heap.size W w→fZ P [(t,u)] ⟨some d,op,ty,pos,#[],none⟩ w x w) (hl:Lr.length=k) (h:BL P n ops Q l W Goal m (isV x::Lr) k'):BL P n ops Q l W Goal (m+1) Lr k :=
 aM k' hk (isV x) (aH x) (rgV [(t,u)] hi (aS rfl) ⟨g_fr hf hv,trivial⟩ hr (aD hl)) h
theorem cB {m k:Nat} {Lr:List Asr} {x u:Value} (k':Nat) (hk:k+1=k') (t:Nat) (hi:ops[k]?=some ⟨some d,op,ty,pos,aft,none⟩) (hv:fD l t=some u) (hr:∀ w,Below W.heap.size W w→fZ P [(t,u)] ⟨some d,op,ty,pos,#[],none⟩ w x w) (hl:Lr.length=k) (h:BL P n ops Q l W Goal m (isV x::Lr) k') (hf:freeT ops t=true:=by kernel_rfl):BL P n ops Q l W Goal (m+1) Lr k:=bl_f k' hk t hi hf hv hr hl h
theorem bl_d {m k:Nat} {Lr:List Asr} {x u:Value} (k':Nat) (hk:k+1=k') (t j:Nat) (hi:ops[k]?=some ⟨some d,op,ty,pos,aft,none⟩) (hw:bO ops k j t=true) (hj:Nat.ble j k=true) (hL:atI (isV x::Lr) (k - j)=isV u) (hr:∀ w,Below W.heap.size W w→fZ P [(t,u)] ⟨some d,op,ty,pos,#[],none⟩ w x w) (hl:Lr.length=k) (h:BL P n ops Q l W Goal m (isV x::Lr) k'):BL P n ops Q l W Goal (m+1) Lr k :=
 aM k' hk (isV x) (aH x) (rgV [(t,u)] hi (aS rfl) ⟨g_dep j hw (aA (by rw [List.length_cons,hl]) hj hL),trivial⟩ hr (aD hl)) h
theorem bD {m k:Nat} {Lr:List Asr} {x u:Value} (k':Nat) (hk:k+1=k') (t j:Nat) (hi:ops[k]?=some ⟨some d,op,ty,pos,aft,none⟩) (hj:Nat.ble j k=true) (hL:atI (isV x::Lr) (k - j)=isV u) (hr:∀ w,Below W.heap.size W w→fZ P [(t,u)] ⟨some d,op,ty,pos,#[],none⟩ w x w) (hl:Lr.length=k) (h:BL P n ops Q l W Goal m (isV x::Lr) k') (hw:bO ops k j t=true:=by kernel_rfl):BL P n ops Q l W Goal (m+1) Lr k:=bl_d k' hk t j hi hw hj hL hr hl h
theorem kO:∀ {L:List Asr},(∀ p∈L,kL p)→nK L
 | [],_=>trivial
 | p::L,h=>⟨h p List.mem_cons_self,kO fun q hq=>h q (List.mem_cons_of_mem _ hq)⟩
theorem kP {A B:List Asr} {j:Nat} (h:j < A.length):atI (A++B) j=atI A j:=by
 have h1:=oV (A++B) j (by simp;omega)
 have h2:=oV A j h
 rw [List.getElem?_append_left h,← h2] at h1
 exact Option.some.inj h1
theorem Dz (ht:dQ ops n=true):∀ (m k:Nat) (Lr:List Asr),Lr.length=k→(∀ p∈Lr,kL p)→(∀ i,i < k→RG P n ops Q l W Lr.reverse i)→BL P n ops Q l W Goal m Lr k →
  ∃ Lr',Lr'.length=k+m∧(∀ p∈Lr',kL p)∧(∀ i,i < k+m→RG P n ops Q l W Lr'.reverse i)∧Goal Lr'
 | 0,k,Lr,hl,hs,hg,h=>⟨Lr,hl,hs,hg,h⟩
 | m+1,k,Lr,hl,hs,hg,⟨p,hp,hr,hn⟩=>by
  obtain ⟨L',h1,h2,h3,h4⟩:=Dz ht m (k+1) (p::Lr) (by simp [hl]) (fun q hq=>by
   rcases List.mem_cons.1 hq with rfl | hq
   ·exact hp
   ·exact hs q hq) (fun i hi=>by
   by_cases hik:i=k
   ·subst hik;exact hr
   ·refine RG.ext ht (fun j hj=>?_) (hg i (by omega))
    rw [List.reverse_cons,kP (by simp;omega)]) hn
  exact ⟨L',by omega,h2,fun i hi=>h3 i (by omega),h4⟩
theorem zD {L:List Asr}:∀ (m k:Nat),(∀ i,i < k+m→RG P n ops Q l W L i)→H1 P n ops Q l W L m k
 | 0,_,_=>trivial
 | m+1,k,h=>⟨h k (by omega),zD m (k+1) fun i hi=>h i (by omega)⟩
theorem gP {id:Nat} {m:Nat} (hm:P.follows .mixedOrders=true) (hS:St w0 O G K W) (ht:dQ os.toArray n=true) (hdst:os.all (fun o=>o.dst.isSome)=true) (hlen:os.length=m)
  (h:BL P n os.toArray Q l W (fun Lr=>∀ W',Below W.heap.size W W'→St w0 O G ((W.heap.size,W')::K) W'→jS os Lr.reverse l (fun l' W'=>XF Q .normal n l' W') W') m [] 0):eC P n (.region id os.toArray true) Q l W:=by
 obtain ⟨Lr,h1,h2,h3,h4⟩:=Dz ht m 0 [] rfl (fun p hp=>by cases hp) (fun i hi=>by omega) h
 exact regD hm Lr.reverse hS ht hdst hlen (zD m 0 (by simpa using h3)) (kO fun p hp=>h2 p (List.mem_reverse.1 hp)) h4
theorem xI {id:Nat} {o:Oper} (hm:P.follows .mixedOrders=true) (k:Nat) (hS:St w0 O G K W) (hk:os[k]?=some o) (hlen:os.length=k+1) (hl:lW os.toArray k=true) (ht:dQ os.toArray n=true) (hdst:(os.take k).all (fun o=>o.dst.isSome)=true) (hfree:∀ d,o.dst=some d→fD l d=none)
  (h:BL P n os.toArray Q l W (fun Lr=>∀ W',Below W.heap.size W W'→St w0 O G ((W.heap.size,W')::K) W'→jS (os.take k) Lr.reverse l (fun l' W'=>cT P n os.toArray Q [o] l' W') W') k [] 0):eC P n (.region id os.toArray true) Q l W:=by
 obtain ⟨Lr,h1,h2,h3,h4⟩:=Dz ht k 0 [] rfl (fun p hp=>by cases hp) (fun i hi=>by omega) h
 exact regDK hm Lr.reverse k hS hk hlen hl ht hdst hfree (zD k 0 (by simpa using h3)) (kO fun p hp=>h2 p (List.mem_reverse.1 hp)) h4
end
theorem bY:prog.follows .mixedOrders=true:=by kernel_rfl
theorem D4 (v0:Int) (v1:Int):prog.built 25 [(0,.int .i64 v0),(1,.int .i64 v1)]=some #[.int .i64 v0,.int .i64 v1,.slice none 0 0]:=by kernel_rfl
theorem qI:prog.built 56 []=some #[.bool false,.int .i64 0,.int .u64 0,.slice none 0 0,.slice none 0 0,.slice none 0 0]:=by kernel_rfl
theorem vA (v0:Bool):prog.built 56 [(0,.bool v0)]=some #[.bool v0,.int .i64 0,.int .u64 0,.slice none 0 0,.slice none 0 0,.slice none 0 0]:=by kernel_rfl
theorem Jy (v1:Int):prog.built 56 [(1,.int .i64 v1)]=some #[.bool false,.int .i64 v1,.int .u64 0,.slice none 0 0,.slice none 0 0,.slice none 0 0]:=by kernel_rfl
theorem Jz (v4a:Option Addr) (v4l:Nat) (v4c:Nat):prog.built 56 [(4,.slice v4a v4l v4c)]=some #[.bool false,.int .i64 0,.int .u64 0,.slice none 0 0,.slice none 0 0,.slice v4a v4l v4c]:=by kernel_rfl
theorem F7 (v0:Int) (v1:Int):Instr.fill (fun i=>some (i * 1,1)) ((Array.range (2 * 1)).map ((Value.cells (.int .i64 0))[· % (Value.cells (.int .i64 0)).size]!)) [(0,.int .i64 v0),(1,.int .i64 v1)]=some (List.toArray [.int .i64 v0,.int .i64 v1]):=by kernel_rfl
theorem zE (v00:Value) (v01:Value) (v02:Value):Instr.fill (fun i=>some (i * 3,3)) ((Array.range (1 * 3)).map ((Value.cells (.agg #[.int .u64 0,.int .i64 0,.int .i64 0]))[· % (Value.cells (.agg #[.int .u64 0,.int .i64 0,.int .i64 0])).size]!)) [(0,.agg #[v00,v01,v02])]=some (List.toArray [v00,v01,v02]):=by kernel_rfl
theorem uA (v00:Value) (v01:Value) (v02:Value) (v03:Value) (v04:Value) (v05:Value):Instr.fill (fun i=>some (i * 6,6)) ((Array.range (1 * 6)).map ((Value.cells (.agg #[.bool false,.int .i64 0,.int .u64 0,.slice none 0 0,.slice none 0 0,.slice none 0 0]))[· % (Value.cells (.agg #[.bool false,.int .i64 0,.int .u64 0,.slice none 0 0,.slice none 0 0,.slice none 0 0])).size]!)) [(0,.agg #[v00,v01,v02,v03,v04,v05])]=some (List.toArray [v00,v01,v02,v03,v04,v05]):=by kernel_rfl
theorem F8 (v00:Value) (v01:Value) (v02:Value) (v03:Value) (v04:Value) (v05:Value) (v10:Value) (v11:Value) (v12:Value) (v13:Value) (v14:Value) (v15:Value):Instr.fill (fun i=>some (i * 6,6)) ((Array.range (2 * 6)).map ((Value.cells (.agg #[.bool false,.int .i64 0,.int .u64 0,.slice none 0 0,.slice none 0 0,.slice none 0 0]))[· % (Value.cells (.agg #[.bool false,.int .i64 0,.int .u64 0,.slice none 0 0,.slice none 0 0,.slice none 0 0])).size]!)) [(0,.agg #[v00,v01,v02,v03,v04,v05]),(1,.agg #[v10,v11,v12,v13,v14,v15])]=some (List.toArray [v00,v01,v02,v03,v04,v05,v10,v11,v12,v13,v14,v15]):=by kernel_rfl
theorem dZ (w:World) (b o:Nat):(Instr.fieldAt 25 (.pointer (some ⟨b,o,none⟩)) 0).run prog w = .ok (.pointer (some ⟨b,o+0,none⟩)) w:=by
 simp [Instr.fieldAt,run_underlying underlying25,Instr.sureAddr,go_sem,Addr.add_lit]
theorem eS (w:World) (b o:Nat):(Instr.fieldAt 25 (.pointer (some ⟨b,o,none⟩)) 1).run prog w = .ok (.pointer (some ⟨b,o+1,none⟩)) w:=by
 simp [Instr.fieldAt,run_underlying underlying25,Instr.sureAddr,go_sem,Addr.add_lit]
theorem dM (w:World) (b o:Nat):(Instr.fieldAt 25 (.pointer (some ⟨b,o,none⟩)) 2).run prog w = .ok (.pointer (some ⟨b,o+2,none⟩)) w:=by
 simp [Instr.fieldAt,run_underlying underlying25,Instr.sureAddr,go_sem,Addr.add_lit]
theorem F9 (w:World) (b o:Nat):(Instr.fieldAt 52 (.pointer (some ⟨b,o,none⟩)) 1).run prog w = .ok (.pointer (some ⟨b,o+1,none⟩)) w:=by
 simp [Instr.fieldAt,run_underlying underlying52,Instr.sureAddr,go_sem,Addr.add_lit]
theorem eD (w:World) (b o:Nat):(Instr.fieldAt 56 (.pointer (some ⟨b,o,none⟩)) 0).run prog w = .ok (.pointer (some ⟨b,o+0,none⟩)) w:=by
 simp [Instr.fieldAt,run_underlying underlying56,Instr.sureAddr,go_sem,Addr.add_lit]
theorem gC (w:World) (b o:Nat):(Instr.fieldAt 56 (.pointer (some ⟨b,o,none⟩)) 1).run prog w = .ok (.pointer (some ⟨b,o+1,none⟩)) w:=by
 simp [Instr.fieldAt,run_underlying underlying56,Instr.sureAddr,go_sem,Addr.add_lit]
theorem gD (w:World) (b o:Nat):(Instr.fieldAt 56 (.pointer (some ⟨b,o,none⟩)) 2).run prog w = .ok (.pointer (some ⟨b,o+2,none⟩)) w:=by
 simp [Instr.fieldAt,run_underlying underlying56,Instr.sureAddr,go_sem,Addr.add_lit]
theorem dJ (w:World) (b o:Nat):(Instr.fieldAt 56 (.pointer (some ⟨b,o,none⟩)) 3).run prog w = .ok (.pointer (some ⟨b,o+4,none⟩)) w:=by
 simp [Instr.fieldAt,run_underlying underlying56,Instr.sureAddr,go_sem,Addr.add_lit]
theorem cV (w:World) (b o:Nat):(Instr.fieldAt 56 (.pointer (some ⟨b,o,none⟩)) 4).run prog w = .ok (.pointer (some ⟨b,o+5,none⟩)) w:=by
 simp [Instr.fieldAt,run_underlying underlying56,Instr.sureAddr,go_sem,Addr.add_lit]
theorem fa_89_0 (w:World) (b o:Nat):(Instr.fieldAt 89 (.pointer (some ⟨b,o,none⟩)) 0).run prog w = .ok (.pointer (some ⟨b,o+0,none⟩)) w:=by
 simp [Instr.fieldAt,run_underlying underlying89,Instr.sureAddr,go_sem,Addr.add_lit]
theorem fa_89_1 (w:World) (b o:Nat):(Instr.fieldAt 89 (.pointer (some ⟨b,o,none⟩)) 1).run prog w = .ok (.pointer (some ⟨b,o+1,none⟩)) w:=by
 simp [Instr.fieldAt,run_underlying underlying89,Instr.sureAddr,go_sem,Addr.add_lit]
theorem fa_89_2 (w:World) (b o:Nat):(Instr.fieldAt 89 (.pointer (some ⟨b,o,none⟩)) 2).run prog w = .ok (.pointer (some ⟨b,o+2,none⟩)) w:=by
 simp [Instr.fieldAt,run_underlying underlying89,Instr.sureAddr,go_sem,Addr.add_lit]
theorem goes_64:bW prog 64=true:=by kernel_rfl
theorem goes_25:bW prog 25=true:=by kernel_rfl
theorem goes_56:bW prog 56=true:=by kernel_rfl
theorem goes_24:bW prog 24=true:=by kernel_rfl
theorem uB:bW prog 34=true:=by kernel_rfl
theorem rG:bW prog 40=true:=by kernel_rfl
theorem goes_36:bW prog 36=true:=by kernel_rfl
theorem Ga:bW prog 42=true:=by kernel_rfl
theorem uC:bW prog 13=true:=by kernel_rfl
theorem zF:bW prog 23=true:=by kernel_rfl
theorem zG:bW prog 76=true:=by kernel_rfl
theorem zH:bW prog 45=true:=by kernel_rfl
theorem goes_66:bW prog 66=true:=by kernel_rfl
theorem zI:bW prog 44=true:=by kernel_rfl
theorem goes_55:bW prog 55=true:=by kernel_rfl
theorem uD:bW prog 58=true:=by kernel_rfl
theorem Gb:bW prog 30=true:=by kernel_rfl
theorem uE:bW prog 65=true:=by kernel_rfl
theorem goes_85:bW prog 85=true:=by kernel_rfl
theorem goes_86:bW prog 86=true:=by kernel_rfl
theorem goes_80:bW prog 80=true:=by kernel_rfl
theorem goes_59:bW prog 59=true:=by kernel_rfl
theorem D5:prog.info? 56=some Try.t56:=by kernel_rfl
theorem J0 (v0:Int):prog.built 89 [(0,.int .u64 v0)]=some #[.int .u64 v0,.int .i64 0,.int .i64 0]:=by kernel_rfl
theorem goes_60:bW prog 60=true:=by kernel_rfl
theorem D6:prog.info? 89=some Try.t89:=by kernel_rfl
theorem D7 (v1:Int) (v2:Int):prog.built 89 [(1,.int .i64 v1),(2,.int .i64 v2)]=some #[.int .u64 0,.int .i64 v1,.int .i64 v2]:=by kernel_rfl
theorem goes_84:bW prog 84=true:=by kernel_rfl
theorem Gc:bW prog 47=true:=by kernel_rfl
theorem uF:bW prog 63=true:=by kernel_rfl
theorem goes_61:bW prog 61=true:=by kernel_rfl
theorem Gd:bW prog 62=true:=by kernel_rfl
theorem goes_74:bW prog 74=true:=by kernel_rfl
theorem goes_75:bW prog 75=true:=by kernel_rfl
theorem goes_70:bW prog 70=true:=by kernel_rfl
theorem goes_81:bW prog 81=true:=by kernel_rfl
theorem goes_87:bW prog 87=true:=by kernel_rfl
theorem goes_92:bW prog 92=true:=by kernel_rfl
theorem vB (v00:Value) (v01:Value) (v02:Value) (v1:Int) (v2:Int) (v3a:Option Addr) (v3l:Nat) (v3c:Nat):prog.built 28 [(0,.agg #[v00,v01,v02]),(1,.int .i64 v1),(2,.int .i64 v2),(3,.slice v3a v3l v3c)]=some #[v00,v01,v02,.int .i64 v1,.int .i64 v2,.slice v3a v3l v3c]:=by kernel_rfl
theorem D8 (v0:Int) (v1a:Option Addr) (v1l:Nat) (v1c:Nat):prog.built 32 [(0,.int .i64 v0),(1,.slice v1a v1l v1c)]=some #[.int .i64 v0,.slice v1a v1l v1c]:=by kernel_rfl
theorem zJ (v1:Int) (v2:Int) (v40:Value) (v41:Value) (v42:Value) (v43:Value) (v44:Value) (v45:Value):prog.built 93 [(1,.int .i64 v1),(2,.int .i64 v2),(4,.agg #[v40,v41,v42,v43,v44,v45])]=some #[.int .i64 0,.int .i64 v1,.int .i64 v2,.slice none 0 0,v40,v41,v42,v43,v44,v45]:=by kernel_rfl
theorem zK (v1:Int) (v3a:Option Addr) (v3l:Nat) (v3c:Nat) (v40:Value) (v41:Value) (v42:Value) (v43:Value) (v44:Value) (v45:Value):prog.built 93 [(1,.int .i64 v1),(3,.slice v3a v3l v3c),(4,.agg #[v40,v41,v42,v43,v44,v45])]=some #[.int .i64 0,.int .i64 v1,.int .i64 0,.slice v3a v3l v3c,v40,v41,v42,v43,v44,v45]:=by kernel_rfl
theorem D9 (v00:Value) (v01:Value) (v02:Value) (v10:Value) (v11:Value) (v12:Value) (v13:Value) (v14:Value) (v15:Value):prog.built 74 [(0,.agg #[v00,v01,v02]),(1,.agg #[v10,v11,v12,v13,v14,v15])]=some #[v00,v01,v02,v10,v11,v12,v13,v14,v15]:=by kernel_rfl
theorem bs_26_2 (v00:Value) (v01:Value) (v02:Value) (v03:Value) (v04:Value) (v05:Value) (v06:Value) (v07:Value) (v08:Value) (v09:Value) (v10:Value) (v11:Value) (v12:Value) (v13:Value) (v14:Value) (v15:Value) (v16:Value) (v17:Value) (v18:Value) (v19:Value):Instr.fill (fun i=>some (i * 10,10)) ((Array.range (2 * 10)).map ((Value.cells (.agg #[.int .i64 0,.int .i64 0,.int .i64 0,.slice none 0 0,.bool false,.int .i64 0,.int .u64 0,.slice none 0 0,.slice none 0 0,.slice none 0 0]))[· % (Value.cells (.agg #[.int .i64 0,.int .i64 0,.int .i64 0,.slice none 0 0,.bool false,.int .i64 0,.int .u64 0,.slice none 0 0,.slice none 0 0,.slice none 0 0])).size]!)) [(0,.agg #[v00,v01,v02,v03,v04,v05,v06,v07,v08,v09]),(1,.agg #[v10,v11,v12,v13,v14,v15,v16,v17,v18,v19])]=some (List.toArray [v00,v01,v02,v03,v04,v05,v06,v07,v08,v09,v10,v11,v12,v13,v14,v15,v16,v17,v18,v19]):=by kernel_rfl
theorem uG (v0:Int):Instr.fill (fun i=>some (i * 1,1)) ((Array.range (1 * 1)).map ((Value.cells (.int .i64 0))[· % (Value.cells (.int .i64 0)).size]!)) [(0,.int .i64 v0)]=some (List.toArray [.int .i64 v0]):=by kernel_rfl
theorem iJ (w:World) (b o:Nat):(Instr.fieldAt 28 (.pointer (some ⟨b,o,none⟩)) 0).run prog w = .ok (.pointer (some ⟨b,o+0,none⟩)) w:=by
 simp [Instr.fieldAt,run_underlying underlying28,Instr.sureAddr,go_sem,Addr.add_lit]
theorem eT (w:World) (b o:Nat):(Instr.fieldAt 28 (.pointer (some ⟨b,o,none⟩)) 1).run prog w = .ok (.pointer (some ⟨b,o+3,none⟩)) w:=by
 simp [Instr.fieldAt,run_underlying underlying28,Instr.sureAddr,go_sem,Addr.add_lit]
theorem eE (w:World) (b o:Nat):(Instr.fieldAt 28 (.pointer (some ⟨b,o,none⟩)) 2).run prog w = .ok (.pointer (some ⟨b,o+4,none⟩)) w:=by
 simp [Instr.fieldAt,run_underlying underlying28,Instr.sureAddr,go_sem,Addr.add_lit]
theorem lG (w:World) (b o:Nat):(Instr.fieldAt 28 (.pointer (some ⟨b,o,none⟩)) 3).run prog w = .ok (.pointer (some ⟨b,o+5,none⟩)) w:=by
 simp [Instr.fieldAt,run_underlying underlying28,Instr.sureAddr,go_sem,Addr.add_lit]
theorem lH (w:World) (b o:Nat):(Instr.fieldAt 32 (.pointer (some ⟨b,o,none⟩)) 0).run prog w = .ok (.pointer (some ⟨b,o+0,none⟩)) w:=by
 simp [Instr.fieldAt,run_underlying underlying32,Instr.sureAddr,go_sem,Addr.add_lit]
theorem iB (w:World) (b o:Nat):(Instr.fieldAt 32 (.pointer (some ⟨b,o,none⟩)) 1).run prog w = .ok (.pointer (some ⟨b,o+1,none⟩)) w:=by
 simp [Instr.fieldAt,run_underlying underlying32,Instr.sureAddr,go_sem,Addr.add_lit]
theorem Ge (w:World) (b o:Nat):(Instr.fieldAt 93 (.pointer (some ⟨b,o,none⟩)) 0).run prog w = .ok (.pointer (some ⟨b,o+0,none⟩)) w:=by
 simp [Instr.fieldAt,run_underlying underlying93,Instr.sureAddr,go_sem,Addr.add_lit]
theorem Gf (w:World) (b o:Nat):(Instr.fieldAt 93 (.pointer (some ⟨b,o,none⟩)) 1).run prog w = .ok (.pointer (some ⟨b,o+1,none⟩)) w:=by
 simp [Instr.fieldAt,run_underlying underlying93,Instr.sureAddr,go_sem,Addr.add_lit]
theorem Gg (w:World) (b o:Nat):(Instr.fieldAt 93 (.pointer (some ⟨b,o,none⟩)) 2).run prog w = .ok (.pointer (some ⟨b,o+2,none⟩)) w:=by
 simp [Instr.fieldAt,run_underlying underlying93,Instr.sureAddr,go_sem,Addr.add_lit]
theorem rH (w:World) (b o:Nat):(Instr.fieldAt 93 (.pointer (some ⟨b,o,none⟩)) 3).run prog w = .ok (.pointer (some ⟨b,o+3,none⟩)) w:=by
 simp [Instr.fieldAt,run_underlying underlying93,Instr.sureAddr,go_sem,Addr.add_lit]
theorem Gh (w:World) (b o:Nat):(Instr.fieldAt 93 (.pointer (some ⟨b,o,none⟩)) 4).run prog w = .ok (.pointer (some ⟨b,o+4,none⟩)) w:=by
 simp [Instr.fieldAt,run_underlying underlying93,Instr.sureAddr,go_sem,Addr.add_lit]
theorem fa_74_0 (w:World) (b o:Nat):(Instr.fieldAt 74 (.pointer (some ⟨b,o,none⟩)) 0).run prog w = .ok (.pointer (some ⟨b,o+0,none⟩)) w:=by
 simp [Instr.fieldAt,run_underlying underlying74,Instr.sureAddr,go_sem,Addr.add_lit]
theorem goes_32:bW prog 32=true:=by kernel_rfl
theorem goes_8:bW prog 8=true:=by kernel_rfl
theorem Gi:bW prog 17=true:=by kernel_rfl
theorem goes_50:bW prog 50=true:=by kernel_rfl
theorem zL:bW prog 21=true:=by kernel_rfl
theorem goes_16:bW prog 16=true:=by kernel_rfl
theorem goes_38:bW prog 38=true:=by kernel_rfl
theorem goes_51:bW prog 51=true:=by kernel_rfl
theorem goes_35:bW prog 35=true:=by kernel_rfl
theorem goes_41:bW prog 41=true:=by kernel_rfl
theorem Gj:bW prog 53=true:=by kernel_rfl
theorem Gk:bW prog 54=true:=by kernel_rfl
theorem uH:bW prog 57=true:=by kernel_rfl
theorem inf_3:prog.info? 3=some Try.t3:=by kernel_rfl
section
variable {β:Option Nat} {w w' w'' W:World} {p:Asr} {v c:Value}
def GB (W:World) (β:Option Nat) (w:World):Prop:=Below W.heap.size W w∧∀ B,β=some B→W.heap.size≤B∧B < w.heap.size
def zM (p:Asr) (w:World):Ending→World→Prop:=fun e w'=>∃ v,e = .returned v∧(∀ w2,cZ w.heap.size w' w2→p v w2)∧Below w.heap.size w w'
end
section
variable {P:Program} {n:Nat} {Q:Exit→Act→World→Prop} {l:Fr} {w0 W:World} {ops:Array Oper} {os:List Oper} {O:Own} {G:cR} {K:List (Nat×World)} {L:List Asr} {i:Nat}
variable {d:Nat} {op:Op} {ty:TypeId} {pos:String} {aft:Array Edge} {v:Value} {gd:Option (Nat×Bool)}
def G2 (W:World) (B:Nat) (cs:List Value) (T:TypeId) (w:World):Prop:=GB W (some B) w∧w.heap[B]?=some (.cells cs.toArray T (0,0))
theorem H3 (W':World) {B lo:Nat} (hB:B≤W'.heap.size):∃ A1:World,A1.heap.size=B∧cZ lo A1 W':=by
 refine ⟨{ W' with heap:=W'.heap.extract 0 B },by simp;omega,by simp;omega,fun b _ hb=>?_⟩
 have hb':b < (W'.heap.extract 0 B).size:=hb
 simp at hb'
 show W'.heap[b]?=(W'.heap.extract 0 B)[b]?
 rw [Array.getElem?_extract,if_pos (by omega),Nat.zero_add]
def anyA:Asr:=fun _ _=>True
theorem sD:kL anyA:=fun _ _ _ _ _=>trivial
variable {Goal:List Asr→Prop}
theorem St.own_lt (h:St w0 O G K W):∀ p∈O,p.1 < W.heap.size:=fun p hp=>dI (h.own p hp).2
end
section
variable {P:Program} {n:Nat} {Q:Exit→Act→World→Prop} {l:Fr} {w0 W:World} {ops:Array Oper} {os:List Oper} {O:Own} {G:cR} {K:List (Nat×World)} {L L2:List Asr} {i:Nat}
theorem zO {k:Nat} {dn:Nat→Bool} {t0:Array Value} {d0:List Deferred} {G:World→Prop} {I:Nat→Value→World→Prop} (hl:lW ops k=true) (ht:dQ ops t0.size=true) (hst:∀ i v w w',G w→I i v w→Below w.heap.size w w'→I i v w')
  (hstep:∀ i,i < k→dn i=false→gS P ops Q t0 G I i) (hfin:wU ops t0 d0 G I k (wpOp P ops Q k (Q .normal))) :
  ∀ (fuel:Nat) (L:Array Bool) (a:Act) (w:World),L.size=ops.size→L.getD k true=false→(∀ i,dn i=true→L.getD i false=true)→L.toList.count false≤fuel→RInv ops t0 d0 G I L a w→wpAny P .any ops Q fuel L a w:=by
 simp only [lW,Bool.and_eq_true,decide_eq_true_eq] at hl
 obtain ⟨hk,hl⟩:=hl
 have cnt:∀ (L:Array Bool) i,L.getD i true=false→L.toList[i]?=some false:=fun L i h1=>by
  rw [Array.getD_eq_getD_getElem?] at h1
  rw [Array.getElem?_toList]
  cases hL:L[i]? with
  | none=>rw [hL] at h1;cases h1
  | some b=>rw [hL] at h1;simpa using h1
 intro fuel
 induction fuel with
 | zero =>
  intro L a w hs hlk hlp hc h
  have:=eR _ _ (cnt L k hlk)
  omega
 | succ fuel ih =>
  intro L a w hs hlk hlp hc h
  refine ⟨fun hr=>?_,fun i hi=>?_⟩
  ·rw [fV ht hs hr k (by omega)] at hlk
   cases hlk
  ·obtain ⟨h1,o,ho,hdep⟩:=mem_ready.1 hi
   have his:i < ops.size:=(Array.getElem?_eq_some_iff.1 ho).1
   have hc1:=eR _ _ (cnt L i h1)
   have hip:dn i=false:=by
    cases hd:dn i with
    | false=>rfl
    | true =>
     have h3:=hlp i hd
     have h2:=cnt L i h1
     rw [Array.getElem?_toList] at h2
     rw [Array.getD_eq_getD_getElem?,h2] at h3
     cases h3
   by_cases hik:i=k
   ·subst hik
    simp only [ho] at hl
    have hall:∀ j,j < i→L.getD j false=true:=fun j hj=>by
     have:=List.all_eq_true.1 hl j (List.mem_range.2 hj)
     obtain ⟨e,he,h2⟩:=Array.any_eq_true'.1 this
     simp only [Bool.and_eq_true,beq_iff_eq] at h2
     have:=hdep e he h2.2
     rw [h2.1] at this
     exact this
    refine wpOp_mono ?_ (hfin a w h.size h.defers h.frame h.glob fun j d hj hd=>h.done j d hd (hall j hj))
    intro a' w' hq
    have hnil:Region.ready .any ops (L.setIfInBounds i true)=[]:=by
     cases hr:Region.ready .any ops (L.setIfInBounds i true) with
     | nil=>rfl
     | cons j rest =>
      have hj:j∈Region.ready .any ops (L.setIfInBounds i true):=by rw [hr];exact List.mem_cons_self
      obtain ⟨h5,o',ho',_⟩:=mem_ready.1 hj
      have hjs:j < ops.size:=(Array.getElem?_eq_some_iff.1 ho').1
      by_cases hji:j=i
      ·subst hji
       rw [Array.getD_eq_getD_getElem?,Array.getElem?_eq_getElem (by simpa using (by omega:j < L.size))] at h5
       simp at h5
      ·rw [getD_set_ne true (Ne.symm hji)] at h5
       have h6:=hall j (by omega)
       rw [Array.getD_eq_getD_getElem?] at h5 h6
       rw [Array.getElem?_eq_getElem (by omega)] at h5 h6
       simp at h5 h6
       rw [h5] at h6
       cases h6
    cases fuel with
    | zero=>exact ⟨hnil,hq⟩
    | succ fuel=>exact ⟨fun _=>hq,by rw [hnil];simp⟩
   ·refine wpOp_mono ?_ (hstep i (by omega) hip a w h.frameE h.glob (h.deps hi))
    rintro a' w' ⟨⟨v,rfl,hI⟩,hG,hB⟩
    refine ih _ _ _ (by simpa using hs) (by rw [getD_set_ne true hik];exact hlk) (fun j hj=>?_) ?_ (h.next ht h1 hst hI hG hB)
    ·have hij:i≠j:=fun e=>by subst e;rw [hip] at hj;cases hj
     rw [getD_set_ne false hij];exact hlp j hj
    ·rw [Array.toList_setIfInBounds]
     omega
def aft (ops:Array Oper) (j:Nat):List Nat:=match ops[j]? with | some o=>(o.after.toList.filter fun e=>Region.binds .any e).map (·.on) | none=>[]
def earlyL (ops:Array Oper) (p:Nat):List Nat:=(List.range p).reverse.foldl (fun S j=>bif S.contains j then aft ops j++S else S) (aft ops p)
theorem jB {p:Nat} {D:Nat→Prop} (h0:∀ x∈aft ops p,D x) (hc:∀ j,D j→∀ x∈aft ops j,D x):∀ x∈earlyL ops p,D x:=by
 have key:∀ (js S:List Nat),(∀ x∈S,D x)→∀ x∈js.foldl (fun S j=>bif S.contains j then aft ops j++S else S) S,D x:=by
  intro js
  induction js with
  | nil=>intro S h;exact h
  | cons j js ih =>
   intro S h
   refine ih _ ?_
   show ∀ x∈(bif S.contains j then aft ops j++S else S),D x
   cases hj:S.contains j with
   | false=>exact h
   | true =>
    intro x hx
    rw [cond_true] at hx
    rcases List.mem_append.1 hx with hx | hx
    ·exact hc j (h j (List.contains_iff_mem.1 hj)) x hx
    ·exact h x hx
 exact key _ _ h0
theorem mT {j:Nat} {o:Oper} (ho:ops[j]?=some o) {x:Nat} (hx:x∈aft ops j):∃ e∈o.after,e.on=x∧Region.binds .any e=true:=by
 unfold aft at hx
 rw [ho] at hx
 obtain ⟨e,he,rfl⟩:=List.mem_map.1 hx
 obtain ⟨h1,h2⟩:=List.mem_filter.1 he
 exact ⟨e,Array.mem_toList_iff.1 h1,rfl,h2⟩
def IP (L2:List Asr) (p:Nat) (v':Value) (i:Nat) (v:Value) (w:World):Prop:=(i=p→v=v')∧atI L2 i v w
theorem wZ {k p dp:Nat} {t0:Array Value} {d0:List Deferred} {late:Nat→Bool} {o:Oper} {RA:World→Value→World→Prop} (hl:lW ops k=true) (ht:dQ ops t0.size=true) (hst:nK L) (hst2:nK L2) (hpk:p < k) (hp:ops[p]?=some o) (hod:o.dst=some dp) (hog:o.guard=none)
  (hearly:∀ j,j < k→j≠p→late j=false→j∈earlyL ops p)
  (hstep:∀ i,i < k→i≠p→gS P ops Q t0 (fun w=>Below W.heap.size W w) (atI L) i)
  (happ:∀ (a:Act) (w:World),(∀ t,freeT ops t=true→a.eval (.tmp t)=t0.getD t undef)→Below W.heap.size W w→(∀ j d,bO ops p j d=true→atI L j (a.eval (.tmp d)) w)→∃ v w',(execOp a.eval o).run P w = .ok (.value v) w'∧RA w v w')
  (hL2p:atI L2 p=anyA) (hpure:∀ i,i < k→i≠p→∀ v w w',atI L i v w→atI L2 i v w')
  (hlate:∀ v' W2 i,i < k→i≠p→late i=true→gS P ops Q t0 (fun w=>w=W2) (IP L2 p v') i)
  (hfin:∀ A v' W2,Below W.heap.size W A→RA A v' W2→wU ops t0 d0 (fun w=>w=W2) (IP L2 p v') k (wpOp P ops Q k (Q .normal))) :
  ∀ (fuel:Nat) (LB:Array Bool) (a:Act) (w:World),LB.size=ops.size→LB.getD k true=false→LB.toList.count false≤fuel→LB.getD p true=false→(∀ j,LB.getD j false=true→∀ x∈aft ops j,LB.getD x false=true)→RInv ops t0 d0 (fun w=>Below W.heap.size W w) (atI L) LB a w→wpAny P .any ops Q fuel LB a w:=by
 have hl0:=hl
 simp only [lW,Bool.and_eq_true,decide_eq_true_eq] at hl
 obtain ⟨hk,hl⟩:=hl
 have cnt:∀ (L:Array Bool) i,L.getD i true=false→L.toList[i]?=some false:=fun L i h1=>by
  rw [Array.getD_eq_getD_getElem?] at h1
  rw [Array.getElem?_toList]
  cases hL:L[i]? with
  | none=>rw [hL] at h1;cases h1
  | some b=>rw [hL] at h1;simpa using h1
 intro fuel
 induction fuel with
 | zero =>
  intro LB a w hs hlk hc hlp hcl h
  have:=eR _ _ (cnt LB k hlk)
  omega
 | succ fuel ih =>
  intro LB a w hs hlk hc hlp hcl h
  refine ⟨fun hr=>?_,fun i hi=>?_⟩
  ·rw [fV ht hs hr k (by omega)] at hlk
   cases hlk
  ·obtain ⟨h1,o',ho,hdep⟩:=mem_ready.1 hi
   have his:i < ops.size:=(Array.getElem?_eq_some_iff.1 ho).1
   have hc1:=eR _ _ (cnt LB i h1)
   by_cases hik:i=k
   ·subst hik
    simp only [ho] at hl
    have:=List.all_eq_true.1 hl p (List.mem_range.2 hpk)
    obtain ⟨e,he,h2⟩:=Array.any_eq_true'.1 this
    simp only [Bool.and_eq_true,beq_iff_eq] at h2
    have h3:=hdep e he h2.2
    rw [h2.1] at h3
    have h4:=cnt LB p hlp
    rw [Array.getElem?_toList] at h4
    rw [Array.getD_eq_getD_getElem?,h4] at h3
    cases h3
   ·by_cases hip:i=p
    ·subst hip
     rw [hp] at ho
     have ho':=(Option.some.inj ho).symm
     subst ho'
     obtain ⟨v',w',hr,hRA⟩:=happ a w h.frameE h.glob (h.deps hi)
     have step:wpOp P ops Q i (fun a2 w2=>a2=a.put (some dp) v'∧w2=w') a w:=by
      unfold wpOp
      simp only [hp,lE hog,if_true]
      refine .inl ?_
      unfold Oper.wp
      rw [hr]
      exact ⟨by rw [hod],rfl⟩
     refine wpOp_mono ?_ step
     rintro a2 w2 ⟨rfl,rfl⟩
     have hdst:(ops[i]?).bind (·.dst)=some dp:=by rw [hp];exact hod
     refine zO (t0:=t0) (d0:=d0) (dn:=fun j=>decide (j=i) || (decide (j < k) && !late j)) (G:=fun w=>w=w2) (I:=IP L2 i v') hl0 ht ?_ ?_ (hfin _ _ _ h.glob hRA) fuel _ _ _ (by simpa using hs) (by rw [getD_set_ne true hik];exact hlk) ?_ ?_ ?_
     ·rintro j v w1 w3 _ ⟨h5,h6⟩ hb
      exact ⟨h5,kM hst2 _ _ _ _ h6 hb⟩
     ·intro j hj hd
      simp only [Bool.or_eq_false_iff,decide_eq_false_iff_not,Bool.and_eq_false_iff,Bool.not_eq_false'] at hd
      refine hlate v' w2 j hj hd.1 ?_
      rcases hd.2 with h5 | h5
      ·exact absurd hj h5
      ·exact h5
     ·intro j hd
      simp only [Bool.or_eq_true,decide_eq_true_eq,Bool.and_eq_true,Bool.not_eq_true'] at hd
      by_cases hji:j=i
      ·subst hji
       rw [Array.getD_eq_getD_getElem?,Array.getElem?_setIfInBounds_self_of_lt (by omega)];rfl
      ·rcases hd with hd | ⟨hd1,hd2⟩
       ·exact absurd hd hji
       ·rw [getD_set_ne false (Ne.symm hji)]
        refine jB (D:=fun x=>LB.getD x false=true) (fun x hx=>?_) (fun j hj x hx=>hcl j hj x hx) j (hearly j hd1 hji hd2)
        obtain ⟨e,he,h5,h6⟩:=mT hp hx
        have h7:=hdep e he h6
        rw [h5] at h7
        exact h7
     ·rw [Array.toList_setIfInBounds];omega
     ·refine ⟨by rw [kK];exact h.size,by rw [iC];exact h.defers,fun t hf=>?_,rfl,fun j d hd hj=>?_⟩
      ·rw [eH ?_]
       ·exact h.frame t hf
       ·intro e
        have:=Array.all_eq_true'.1 hf _ (Array.mem_of_getElem? hp)
        simp at this
        exact this (hod.trans e)
      ·by_cases hji:j=i
       ·subst hji
        rw [hdst] at hd
        rw [qE hd (by rw [h.size];exact (fU ht (hdst.trans hd)).1)]
        exact ⟨fun _=>rfl,by rw [hL2p];trivial⟩
       ·rw [getD_set_ne false (Ne.symm hji)] at hj
        rw [eH (fun e=>hji ((fU ht (hdst.trans e)).2 j hd))]
        have hjk:j < k:=by
         obtain ⟨o2,ho2,_⟩:=Option.bind_eq_some_iff.1 hd
         have h5:=(Array.getElem?_eq_some_iff.1 ho2).1
         have h6:j≠k:=fun e=>by
          subst e
          have h4:=cnt LB j hlk
          rw [Array.getElem?_toList] at h4
          rw [Array.getD_eq_getD_getElem?,h4] at hj
          cases hj
         omega
        exact ⟨fun e=>absurd e hji,hpure j hjk hji _ _ _ (h.done j d hd hj)⟩
    ·refine wpOp_mono ?_ (hstep i (by omega) hip a w h.frameE h.glob (h.deps hi))
     rintro a' w' ⟨⟨v,rfl,hI⟩,hG,hB⟩
     refine ih _ _ _ (by simpa using hs) (by rw [getD_set_ne true hik];exact hlk) ?_ (by rw [getD_set_ne true hip];exact hlp) (fun j hj x hx=>?_) (h.next ht h1 (fun i v w w' _ h hb=>kM hst i v w w' h hb) hI hG hB)
     ·rw [Array.toList_setIfInBounds]
      omega
     ·have hx2:LB.getD x false=true:=by
       by_cases hji:j=i
       ·subst hji
        obtain ⟨e,he,h5,h6⟩:=mT ho hx
        have h7:=hdep e he h6
        rw [h5] at h7
        exact h7
       ·rw [getD_set_ne false (Ne.symm hji)] at hj
        exact hcl j hj x hx
      by_cases hxi:x=i
      ·subst hxi
       rw [Array.getD_eq_getD_getElem?,Array.getElem?_setIfInBounds_self_of_lt (by omega)];rfl
      ·rw [getD_set_ne false (Ne.symm hxi)];exact hx2
def pvL (v:Value) (p:Nat):Nat→List Asr→List Asr
 | _,[]=>[]
 | j,q::L=>(bif Nat.beq j p then isV v else q)::pvL v p (j+1) L
theorem zP {v:Value} {p:Nat}:∀ (L:List Asr) (j i:Nat),i < L.length→atI (pvL v p j L) i=if i+j=p then isV v else atI L i
 | [],j,i,h=>by simp at h
 | q::L,j,0,h=>by
  show (bif Nat.beq j p then isV v else q)=_
  cases hb:Nat.beq j p with
  | true=>rw [if_pos (by rw [Nat.zero_add];exact Nat.eq_of_beq_eq_true hb)];rfl
  | false=>rw [if_neg (by rw [Nat.zero_add];intro e;rw [e,Nat.beq_refl] at hb;cases hb)];rfl
 | q::L,j,i+1,h=>by
  show atI (pvL v p (j+1) L) i=_
  rw [zP L (j+1) i (by simpa using h)]
  by_cases h1:i+(j+1)=p
  ·rw [if_pos h1,if_pos (by omega)]
  ·rw [if_neg h1,if_neg (by omega)];rfl
variable {d:Nat} {op:Op} {ty:TypeId} {pos:String} {aft:Array Edge} {v:Value} {gd:Option (Nat×Bool)}
def RGL (P:Program) (n:Nat) (ops:Array Oper) (Q:Exit→Act→World→Prop) (l:Fr) (L2:List Asr) (p i:Nat):Prop:=∀ v' W2 a,Has n l a→gS P ops Q a.tmps (fun w=>w=W2) (IP L2 p v') i
theorem lgV {p:Nat} (li:Fr) (hi:ops[i]?=some ⟨some d,op,ty,pos,aft,gd⟩) (hw:gT ops L2 i ⟨some d,op,ty,pos,aft,gd⟩) (hli:wX n ops l L2 i li) (hr:∀ w,fZ P li ⟨some d,op,ty,pos,#[],none⟩ w v w) (hI:atI L2 i=isV v) (hip:Nat.beq i p=false):RGL P n ops Q l L2 p i :=
 fun v' W2 a ha=>gS.value hi fun b w hF hG hD=>⟨hw.yes (fun j d h=>(hD j d h).2),v,w,by rw [fO b.eval _ _ _ _ pos _ #[] _ none];exact hr w b.eval (nZ ha hF (fun j d h=>(hD j d h).2) hli),⟨fun e=>absurd hip (by rw [e,Nat.beq_refl];decide),by rw [hI];rfl⟩,hG,Below.refl _ _⟩
theorem RGL.ext {L1 L2:List Asr} {p:Nat} (ht:dQ ops n=true) (hag:∀ j,j≤i→atI L1 j=atI L2 j) (h:RGL P n ops Q l L1 p i):RGL P n ops Q l L2 p i:=fun v' W2 a ha=>by
 have h1:=h v' W2 a ha
 intro b w hF hG hD
 have hlt:∀ j d,bO ops i j d=true→j < i:=fun j d hw=>by
  cases ho:ops[i]? with
  | none=>simp [bO,ho] at hw
  | some o =>
   simp only [bO,ho,Bool.and_eq_true,beq_iff_eq] at hw
   obtain ⟨e,he,h2⟩:=Array.any_eq_true'.1 hw.1
   simp only [Bool.and_eq_true,beq_iff_eq] at h2
   rw [← h2.1];exact kJ ht ho e he h2.2
 have h2:=h1 b w hF hG (fun j d hw=>by unfold IP;rw [hag j (Nat.le_of_lt (hlt j d hw))];exact hD j d hw)
 unfold IP at h2
 rw [hag i (Nat.le_refl _)] at h2
 exact h2
def Gl (q q2:Asr):Prop:=∀ v w w',q v w→q2 v w'
theorem J1 {c:Value}:Gl (isV c) (isV c):=fun _ _ _ h=>h
theorem Bl {q:Asr}:Gl q anyA:=fun _ _ _ _=>trivial
def sE (ops:Array Oper) (p j:Nat):Bool:=(earlyL ops p).contains j
def BLP (P:Program) (n:Nat) (ops:Array Oper) (Q:Exit→Act→World→Prop) (l:Fr) (W:World) (p:Nat) (Goal:List Asr→List Asr→Prop):Nat→List Asr→List Asr→Nat→Prop
 | 0,Lr,L2r,_=>Goal Lr L2r
 | m+1,Lr,L2r,k=>∃ q q2,kL q∧kL q2∧Gl q q2∧((k=p∧q2=anyA)∨(k≠p∧RG P n ops Q l W (q::Lr).reverse k∧(sE ops p k=true∨RGL P n ops Q l (q2::L2r).reverse p k)))∧BLP P n ops Q l W p Goal m (q::Lr) (q2::L2r) (k+1)
variable {Goal:List Asr→List Asr→Prop}
theorem oW {Lr L2r:List Asr} {k p:Nat} (h:Goal Lr L2r):BLP P n ops Q l W p Goal 0 Lr L2r k:=h
theorem cK {m k p:Nat} {Lr L2r:List Asr} {c:Value} (k':Nat) (hk:k+1=k') (hne:Nat.beq k p=false) (he:sE ops p k=true) (h:RG P n ops Q l W (isV c::Lr).reverse k) (hr:BLP P n ops Q l W p Goal m (isV c::Lr) (isV c::L2r) k'):BLP P n ops Q l W p Goal (m+1) Lr L2r k:=by
 subst hk;exact ⟨isV c,isV c,aH _,aH _,J1,.inr ⟨fun e=>absurd hne (by rw [e,Nat.beq_refl];decide),h,.inl he⟩,hr⟩
theorem tD {m k p:Nat} {Lr L2r:List Asr} (k':Nat) (hk:k+1=k') (hne:Nat.beq k p=false) (he:sE ops p k=true) (q:Asr) (hs:kL q) (h:RG P n ops Q l W (q::Lr).reverse k) (hr:BLP P n ops Q l W p Goal m (q::Lr) (anyA::L2r) k'):BLP P n ops Q l W p Goal (m+1) Lr L2r k:=by
 subst hk;exact ⟨q,anyA,hs,sD,Bl,.inr ⟨fun e=>absurd hne (by rw [e,Nat.beq_refl];decide),h,.inl he⟩,hr⟩
theorem iK {m k p:Nat} {Lr L2r:List Asr} {c:Value} (k':Nat) (hk:k+1=k') (hne:Nat.beq k p=false) (h:RG P n ops Q l W (isV c::Lr).reverse k) (h2:RGL P n ops Q l (isV c::L2r).reverse p k) (hr:BLP P n ops Q l W p Goal m (isV c::Lr) (isV c::L2r) k'):BLP P n ops Q l W p Goal (m+1) Lr L2r k:=by
 subst hk;exact ⟨isV c,isV c,aH _,aH _,J1,.inr ⟨fun e=>absurd hne (by rw [e,Nat.beq_refl];decide),h,.inr h2⟩,hr⟩
theorem oX {m k p:Nat} {Lr L2r:List Asr} (k':Nat) (hk:k+1=k') (hp:k=p) (hr:BLP P n ops Q l W p Goal m (anyA::Lr) (anyA::L2r) k'):BLP P n ops Q l W p Goal (m+1) Lr L2r k:=by
 subst hk;exact ⟨anyA,anyA,sD,sD,Bl,.inl ⟨hp,rfl⟩,hr⟩
def BG (P:Program) (n:Nat) (ops:Array Oper) (Q:Exit→Act→World→Prop) (l:Fr) (W:World) (p:Nat) (L L2:List Asr) (i:Nat):Prop:=Gl (atI L i) (atI L2 i)∧((i=p∧atI L2 i=anyA)∨(i≠p∧RG P n ops Q l W L i∧(sE ops p i=true∨RGL P n ops Q l L2 p i)))
theorem zQ (p:Nat) (ht:dQ ops n=true):∀ (m k:Nat) (Lr L2r:List Asr),Lr.length=k→L2r.length=k→(∀ q∈Lr,kL q)→(∀ q∈L2r,kL q)→(∀ i,i < k→BG P n ops Q l W p Lr.reverse L2r.reverse i)→BLP P n ops Q l W p Goal m Lr L2r k →
  ∃ Lr' L2r',Lr'.length=k+m∧L2r'.length=k+m∧(∀ q∈Lr',kL q)∧(∀ q∈L2r',kL q)∧(∀ i,i < k+m→BG P n ops Q l W p Lr'.reverse L2r'.reverse i)∧Goal Lr' L2r'
 | 0,k,Lr,L2r,hl,hl2,hs,hs2,hg,h=>⟨Lr,L2r,hl,hl2,hs,hs2,hg,h⟩
 | m+1,k,Lr,L2r,hl,hl2,hs,hs2,hg,⟨q,q2,hp,hp2,hpu,hr,hn⟩=>by
  obtain ⟨L',L2',h1,h2,h3,h4,h5,h6⟩:=zQ p ht m (k+1) (q::Lr) (q2::L2r) (by simp [hl]) (by simp [hl2]) (fun r hq=>by
   rcases List.mem_cons.1 hq with rfl | hq
   ·exact hp
   ·exact hs r hq) (fun r hq=>by
   rcases List.mem_cons.1 hq with rfl | hq
   ·exact hp2
   ·exact hs2 r hq) (fun i hi=>by
   by_cases hik:i=k
   ·subst hik
    refine ⟨by rw [aD hl,aD hl2];exact hpu,?_⟩
    rcases hr with ⟨e1,e2⟩ | hr
    ·exact .inl ⟨e1,by rw [aD hl2];exact e2⟩
    ·exact .inr hr
   ·have hap:∀ j,j≤i→atI Lr.reverse j=atI (q::Lr).reverse j:=fun j hj=>by rw [List.reverse_cons,kP (by simp;omega)]
    have hap2:∀ j,j≤i→atI L2r.reverse j=atI (q2::L2r).reverse j:=fun j hj=>by rw [List.reverse_cons,kP (by simp;omega)]
    obtain ⟨g1,g2⟩:=hg i (by omega)
    refine ⟨by rw [← hap i (Nat.le_refl _),← hap2 i (Nat.le_refl _)];exact g1,?_⟩
    rcases g2 with ⟨e1,e2⟩ | ⟨e1,e2,e3⟩
    ·exact .inl ⟨e1,by rw [← hap2 i (Nat.le_refl _)];exact e2⟩
    ·exact .inr ⟨e1,RG.ext ht hap e2,e3.imp id (RGL.ext ht hap2)⟩) hn
  exact ⟨L',L2',by omega,by omega,h3,h4,fun i hi=>h5 i (by omega),h6⟩
def Gm (m s:Nat) (q:List Value→World→Prop) (py:Asr):Prop:=∀ v w,py v w→∃ b o c cs,v = .slice (some ⟨b,o,none⟩) m c∧aK w b o cs∧cs.length=m * s∧cs.all Value.oneCell'=true∧q cs w
theorem jM {lo m s:Nat} {e:TypeId} {cs:List Value} (hl:Nat.beq cs.length (m * s)=true) (h1:cs.all Value.oneCell'=true):Gm m s (fun xs _=>xs=cs) (tC lo m e cs):=fun v w ⟨B,hv,_,hc⟩ =>
 ⟨B,0,m,cs,hv,aK.own (j:=0) (m:=cs.length) hc (by simp),Nat.eq_of_beq_eq_true hl,h1,rfl⟩
theorem Bn {id dp p k:Nat} {o:Oper} {t e tx tz:TypeId} {inf:TypeInfo} {z:Value} {gi m:Nat} {g:GR} {aftp:Array Edge} (hm:P.follows .mixedOrders=true) (hS:St w0 O G K W) (hk:os[k]?=some o) (hlen:os.length=k+1) (hl:lW os.toArray k=true) (ht:dQ os.toArray n=true) (hdst:(os.take k).all (fun o=>o.dst.isSome)=true) (hfree:∀ d,o.dst=some d→fD l d=none)
  (hp:os[p]?=some ⟨some dp,.call { callee:=.builtin .append,args:=#[.tmp tx,.tmp tz],argTypes:=#[t,t] },ty,pos,aftp,none⟩) (hpk:Nat.blt p k=true)
  (hU:P.underlying t=some (.slice e)) (hinf:P.info? e=some inf) (hz:inf.zero=some z) (hzs:z.cells.size=inf.size) (hsz:0 < inf.size)
  (hi:G[gi]?=some g) (he:g.e=e) (hgs:g.size=inf.size) (h63:g.n+m≤maxLen) (hbytes:(g.n+m) * inf.bytes≤140737488355328)
  (h:BLP P n os.toArray Q l W p (fun Lr L2r=>∃ (py:Asr) (q:List Value→World→Prop),OpG n os.toArray l Lr.reverse p tx (isV g.v)∧OpG n os.toArray l Lr.reverse p tz py∧Gm m inf.size q py ∧
   ∀ A v' news W',Below W.heap.size W A→q news A→St w0 O (G.set gi ⟨v',g.n+m,g.xs++news,e,g.size⟩) ((W.heap.size,A)::K) W'→jS (os.take k) (pvL v' p 0 L2r.reverse) l (fun l' W'=>cT P n os.toArray Q [o] l' W') W') k [] [] 0):eC P n (.region id os.toArray true) Q l W:=by
 obtain ⟨Lr,L2r,h1,h2,h3,h4,h5,py,q,hx,hy,hpy,hfin⟩:=zQ p ht k 0 [] [] rfl rfl (fun p hp=>by cases hp) (fun p hp=>by cases hp) (fun i hi=>by omega) h
 have hpk':p < k:=Nat.lt_of_lt_of_le (Nat.lt_succ_self _) (Nat.le_of_ble_eq_true hpk)
 subst he
 rw [Nat.zero_add] at h1 h2 h5
 have hpo:os.toArray[p]?=some ⟨some dp,.call { callee:=.builtin .append,args:=#[.tmp tx,.tmp tz],argTypes:=#[t,t] },ty,pos,aftp,none⟩:=by simpa using hp
 have hko:os.toArray[k]?=some o:=by simpa using hk
 have hL2p:atI L2r.reverse p=anyA:=by
  rcases (h5 p hpk').2 with h6 | h6
  ·exact h6.2
  ·exact absurd rfl h6.1
 intro a ha
 refine wp_region_any hm (wZ (W:=W) (t0:=a.tmps) (d0:=a.defers) (L:=Lr.reverse) (L2:=L2r.reverse) (late:=fun j => !sE os.toArray p j)
  (RA:=fun A v' W'=>∃ news,q news A∧St w0 O (G.set gi ⟨v',g.n+m,g.xs++news,g.e,g.size⟩) ((W.heap.size,A)::K) W') hl (by rw [ha.size];exact ht) (kO fun q hq=>h3 q (List.mem_reverse.1 hq)) (kO fun q hq=>h4 q (List.mem_reverse.1 hq)) hpk' hpo rfl rfl ?_ ?_ ?_ hL2p ?_ ?_ ?_ _ _ _ _ (by simp) ?_ (iD _) ?_ (fun j hj=>by rw [Array.getD_eq_getD_getElem?,Array.getElem?_replicate] at hj;split at hj<;>simp at hj) (rB ((Below.refl _ _).drew)))
 ·intro j hj hjp he
  simp only [Bool.not_eq_false'] at he
  exact List.contains_iff_mem.1 he
 ·intro i hi hip
  rcases (h5 i hi).2 with h6 | h6
  ·exact absurd h6.1 hip
  ·exact h6.2.1 a ha
 ·intro b w hF hG hD
  have ex:b.eval (.tmp tx)=g.v:=hx a ha b w hF hD
  obtain ⟨bb,oo,c,cs,ey,hc,hcl,h1c,hq⟩:=hpy _ w (hy a ha b w hF hD)
  have hS2:=hS.call hG
  have hrow:=hS2.row gi hi
  rw [hgs] at hrow
  obtain ⟨v',W',hr,k2,k3,k4⟩:=nW (P:=P) (w:=w) w0.heap.size t ty g.e inf z hU hinf hz hzs hsz g.v g.n g.xs hrow ⟨bb,oo,none⟩ m c cs hcl (fun j u hj=>by rw [Addr.add_lit];exact hc.get j u hj) (fun u hu=>List.all_eq_true.1 h1c u hu) h63 hbytes hS2.below.size
  rw [← hgs] at k2
  refine ⟨v',W',?_,cs,hq,hS2.setG gi hi k2 k3 k4⟩
  unfold execOp
  simp only [resolve,invoke,builtin,Sem.run_bind,Sem.run_pure,Result.andThen_ok,List.map_toArray,List.map_cons,List.map_nil,ex,ey,hr]
 ·intro i hi hip v w w' hv
  exact (h5 i hi).1 v w w' hv
 ·intro v' W2 i hi hip hlt
  rcases (h5 i hi).2 with h6 | h6
  ·exact absurd h6.1 hip
  ·rcases h6.2.2 with h7 | h7
   ·rw [h7] at hlt;cases hlt
   ·exact h7 v' W2 a ha
 ·rintro A v' W2 hB ⟨news,hq,hS2⟩
  intro a' W' hs hd hf hG hI
  subst hG
  have hdst':∀ o∈os.take k,∃ d,o.dst=some d:=fun o ho=>Option.isSome_iff_exists.1 (List.all_eq_true.1 hdst o ho)
  have htk:(os.take k).length=k:=by simp;omega
  refine rE (os.take k) (pvL v' p 0 L2r.reverse) l (fun i d hi hd'=>?_) (hs.trans ha.size) (hd.trans ha.defers) ?_ hdst' (fun l' h ha'=>?_) (hfin A v' news W' hB hq hS2)
  ·have hik:i < k:=by omega
   have h6:=hI i d hik (by rw [List.getElem?_take,if_pos hik] at hd';simpa using hd')
   rw [zP L2r.reverse 0 i (by simp;omega)]
   by_cases hip:i+0=p
   ·rw [if_pos hip];exact h6.1 hip
   ·rw [if_neg hip];exact h6.2
  ·intro t' v hv hno
   rw [hf t' (by
    unfold freeT;rw [Array.all_eq_true'];intro o' ho'
    have ho2:o'∈os:=by simpa using ho'
    obtain ⟨j,hj⟩:=List.getElem?_of_mem ho2
    by_cases hjk:j < k
    ·have:o'∈os.take k:=List.mem_of_getElem? (by rw [List.getElem?_take,if_pos hjk];exact hj)
     simpa using hno o' this
    ·have hjl:=(List.getElem?_eq_some_iff.1 hj).1
     have:j=k:=by omega
     subst this
     rw [hk] at hj
     have e2:=Option.some.inj hj
     subst e2
     cases hx:o.dst with
     | none=>simp
     | some d=>simp;intro e;subst e;rw [hfree d hx] at hv;cases hv)]
   exact ha.at_ t' v hv
  ·have h6:=h a' ha'
   unfold wpOp
   rw [hko]
   exact h6
 ·rw [Array.getD_eq_getD_getElem?,Array.getElem?_replicate,if_pos (by simp;omega)];rfl
 ·rw [Array.getD_eq_getD_getElem?,Array.getElem?_replicate,if_pos (by simp;omega)];rfl
end
end
section
def J2 (c:Nat):Nat→Nat
 | 0=>0
 | m+1=>256 * J2 c m+c
def py (m x:Nat):Nat:=(x / 2 &&& J2 85 m)+(x &&& J2 85 m)
def y1 (b:Nat):Nat:=((b / 2) &&& 85)+(b &&& 85)
def z1 (b:Nat):Nat:=(y1 b / 4 &&& 51)+(y1 b &&& 51)
def v1 (b:Nat):Nat:=(z1 b / 16+z1 b) &&& 15
end
section
open Go.RowKit
theorem cL {k:IntKind} {a b:Int} (h:a=b):Ending.returned (.int k a) = .returned (.int k b):=by rw [h]
theorem bR {a b:Bool} (h:a=b):Ending.returned (.bool a) = .returned (.bool b):=by rw [h]
theorem rii {k m:IntKind} {a b c d:Int} (h:a=b) (h2:c=d):Ending.returned (.tuple #[.int k a,.int m c]) = .returned (.tuple #[.int k b,.int m d]):=by rw [h,h2]
theorem xJ (n a b:Int) (r:Bool) (hr:(decide (a≤n) && decide (n≤b))=r) (w:World):Calls prog 93 #[.int .i64 n,.int .i64 a,.int .i64 b] w fun e w'=>e = .returned (.bool r)∧w=w':=by
 subst hr
 by_cases h1:a≤n
 ·by_cases h2:n≤b
  ·have H:Hid ((decide (a≤n) && decide (n≤b))=true):=by show _=_;simp [h1,h2]
   rw [H.out]
   go_enter func93,ntmps93
   go_wp2
   go_ret
   exact ⟨rfl,rfl⟩
  ·have H:Hid ((decide (a≤n) && decide (n≤b))=false):=by show _=_;simp [h1,h2]
   rw [H.out]
   go_enter func93,ntmps93
   go_wp2
   go_ret
   exact ⟨rfl,rfl⟩
 ·have H:Hid ((decide (a≤n) && decide (n≤b))=false):=by show _=_;simp [h1]
  rw [H.out]
  go_enter func93,ntmps93
  go_wp2
  go_ret
  exact ⟨rfl,rfl⟩
theorem kQ {n:Nat} (hn:n≤64):2 ^ n≤18446744073709551616:=Nat.pow_le_pow_right (by decide:1≤2) hn
theorem rI {n:Nat} (hn:n≤63):2 ^ n≤9223372036854775808:=Nat.pow_le_pow_right (by decide:1≤2) hn
theorem J3 (n:Nat) (hn:n≤64):IntKind.u64.wrap (IntKind.u64.wrap ((2:Int) ^ n) - 1)=((2 ^ n - 1:Nat):Int):=by
 have e:((2:Int) ^ n)=((2 ^ n:Nat):Int):=by simp
 have h:=kQ hn
 have h1:1≤2 ^ n:=Nat.one_le_two_pow
 rw [e]
 generalize 2 ^ n=q at *
 rw [IntKind.wrap_u64,IntKind.wrap_u64]
 omega
theorem J4 (n:Nat) (hn:n≤64) (w:World):Calls prog 94 #[.int .i64 n] w fun e w'=>e = .returned (.int .u64 ((2 ^ n - 1:Nat):Int))∧w=w':=by
 have H:=Lib.hid (J3 n hn)
 go_enter func94,ntmps94
 go_wp2
 go_ret
 exact ⟨cL H.out,rfl⟩
theorem Ea (k:Nat) (hk:k < 63):IntKind.u64.wrap (((2 ^ k:Nat):Int) * 2)=((2 ^ (k+1):Nat):Int):=by
 have h:=rI (show k+1≤63 by omega)
 rw [Nat.pow_succ] at *
 generalize 2 ^ k=q at *
 rw [IntKind.wrap_u64];omega
theorem sF (i:Int) (hi:i≤63) (w:World):Calls prog 60 #[.int .i64 i] w fun e w'=>e = .returned (.int .u64 ((2 ^ i.toNat:Nat):Int))∧w=w':=by
 go_enter func60,ntmps60
 go_wp2_with fail
 go_loop [0,3] (fun j v=>∃ (k:Nat) (q:Int),k≤i.toNat∧q=i - (k:Int)∧j = .int .i64 q∧∃ p:Int,v = .int .u64 p∧Hid (((2 ^ k:Nat):Int)=p)) (fun j _=>(intOf j).toNat)
 case atStart=>exact ⟨0,i,Nat.zero_le _,by omega,rfl,1,rfl,rfl⟩
 case round =>
  obtain ⟨k,q,hk,hq,rfl,p,rfl,HP⟩:=hrel
  by_cases hlt:0 < q
  ·have HN:Hid (((2 ^ (k+1):Nat):Int)=IntKind.u64.wrap (p * 2)):=by show _=_;rw [← HP.out];exact (Ea k (by omega)).symm
   have g:IntKind.i64.wrap (q - 1)=q - 1:=by simp [IntKind.wrap,IntKind.signed,IntKind.bits];omega
   go_wp2
   go_round
   case rel=>exact ⟨k+1,q - 1,by omega,by omega,by congr 1;omega,_,rfl,HN⟩
   case measure=>simp [intOf];omega
  ·have HE:Hid (p=((2 ^ i.toNat:Nat):Int)):=by show _=_;rw [← HP.out,show k=i.toNat by omega]
   go_wp2
   go_ret
   exact ⟨cL HE.out,rfl⟩
def xA (f:Nat) (i:Int):Bool:=decide (0≤i) && (decide (i < 64) && f.testBit i.toNat)
theorem J5 (f k:Nat) (hf:f < 18446744073709551616):((IntKind.u64.wrap ((f:Int) / ((2 ^ k:Nat):Int))).tmod 2 == 1)=f.testBit k:=by
 have h1:f / 2 ^ k < 18446744073709551616:=Nat.lt_of_le_of_lt (Nat.div_le_self _ _) hf
 rw [← Int.natCast_ediv,Nat.testBit_eq_decide_div_mod_eq,IntKind.wrap_u64,tmod_of_emod]
 generalize f / 2 ^ k=q at *
 rw [Bool.eq_iff_iff,beq_iff_eq,decide_eq_true_iff];omega
theorem zR (f:Nat) (i:Int) (r:Bool) (hr:xA f i=r) (hf:f < 18446744073709551616) (w:World):Calls prog 84 #[.int .u64 f,.int .i64 i] w fun e w'=>e = .returned (.bool r)∧w=w':=by
 by_cases h0:0≤i
 ·by_cases h1:i < 64
  ·have hp:0 < 2 ^ i.toNat:=Nat.two_pow_pos _
   have hp2:2 ^ i.toNat≤9223372036854775808:=rI (by omega)
   have H:Hid (((IntKind.u64.wrap ((f:Int) / ((2 ^ i.toNat:Nat):Int))).tmod 2 == 1)=r):=by
    show _=_
    rw [J5 f _ hf,← hr];simp [xA,h0,h1]
   have hq:f / 2 ^ i.toNat < 18446744073709551616:=Nat.lt_of_le_of_lt (Nat.div_le_self _ _) hf
   clear hr
   revert hp hp2 H hq
   obtain ⟨p,hpp⟩:∃ p:Nat,2 ^ i.toNat=p:=⟨_,rfl⟩
   have HPP:=Lib.hid hpp
   rw [hpp]
   intro hp hp2 H hq
   clear hpp
   have hd0:((p:Int) == 0)=false:=by simp;omega
   go_enter func84,ntmps84
   go_wp2_with fail
   refine (sF i (by omega) _).mono ?_
   rintro e w1 ⟨rfl,rfl⟩
   rw [HPP.out]
   go_wp2
   go_ret
   exact ⟨bR (by first | exact H.out | (have:=H.out;simpa using this)),rfl⟩
  ·have H:Hid (false=r):=by show _=_;rw [← hr];simp [xA,h1]
   clear hr
   go_enter func84,ntmps84
   go_wp2
   go_ret
   exact ⟨bR H.out,rfl⟩
 ·have H:Hid (false=r):=by show _=_;rw [← hr];simp [xA,h0]
  clear hr
  go_enter func84,ntmps84
  go_wp2
  go_ret
  exact ⟨bR H.out,rfl⟩
end
section
open Go.RowKit Go.Shelf
attribute [local go_sem] Oper.semAt_some
def mem (s:Nat):List Nat:=(List.range 64).filter s.testBit
theorem J6:mem 0=[]:=by simp [mem]
theorem mem_lt {s x:Nat} (h:x∈mem s):x < 64:=by
 unfold mem at h
 rw [List.mem_filter] at h
 exact List.mem_range.1 h.1
theorem mem_bit {s x:Nat} (h:x∈mem s):s.testBit x=true:=by
 unfold mem at h
 rw [List.mem_filter] at h
 exact h.2
end
section
open Go.RowKit
theorem zS (b j:Nat) (hb:b < 18446744073709551616):(18446744073709551615 - b).testBit j=(decide (j < 64) && !b.testBit j):=by
 have e:18446744073709551615 - b=2 ^ 64 - (b+1):=by omega
 rw [e,Nat.testBit_two_pow_sub_succ (by simpa using hb)]
theorem J7 (n j:Nat):(2 ^ n - 1).testBit j=decide (j < n):=Nat.testBit_two_pow_sub_one n j
theorem Gn {n:Nat} (hn:n≤64):2 ^ n - 1 < 18446744073709551616:=by have:=kQ hn;have:=Nat.two_pow_pos n;omega
theorem Eb {x j:Nat} (hx:x < 18446744073709551616) (h:x.testBit j=true):j < 64:=by
 rcases Nat.lt_or_ge j 64 with h1 | h1
 ·exact h1
 ·rw [Nat.testBit_lt_two_pow (Nat.lt_of_lt_of_le hx (Nat.pow_le_pow_right (by omega:0 < 2) h1))] at h;cases h
def pU (n:Int):Int:=if 0≤n∧n≤64 then ((2 ^ n.toNat - 1:Nat):Int) else 0
def kR (n:Int):Int:=if 0≤n∧n≤64 then 0 else 10
theorem oB (n:Int) (r e0:Int) (hr:pU n=r) (he:kR n=e0) (w:World):Calls prog 92 #[.int .i64 n] w fun e w'=>e = .returned (.tuple #[.int .u64 r,.int .i64 e0])∧w=w':=by
 by_cases h:0≤n∧n≤64
 ·have HR:Hid (((2 ^ n.toNat - 1:Nat):Int)=r):=by show _=_;rw [← hr,pU,if_pos h]
  have HE:Hid (0=e0):=by show _=_;rw [← he,kR,if_pos h]
  have hw:=Lib.hid (show (decide ((0:Int)≤n) && decide (n≤64))=true by simp [h.1,h.2])
  obtain ⟨m,rfl⟩:∃ m:Nat,n=m:=⟨n.toNat,by omega⟩
  have hm:m≤64:=by omega
  clear hr he h
  go_enter func92,ntmps92
  go_wp2_with fail
  refine (xJ _ 0 64 true hw.out _).mono ?_
  rintro e w1 ⟨rfl,rfl⟩
  go_wp2_with fail
  refine (J4 m hm _).mono ?_
  rintro e w1 ⟨rfl,rfl⟩
  go_wp2
  go_ret2
  exact ⟨rii (by simpa using HR.out) HE.out,rfl⟩
 ·have HR:Hid (0=r):=by show _=_;rw [← hr,pU,if_neg h]
  have HE:Hid (10=e0):=by show _=_;rw [← he,kR,if_neg h]
  have hw:=Lib.hid (show (decide ((0:Int)≤n) && decide (n≤64))=false by simp;omega)
  clear hr he h
  go_enter func92,ntmps92
  go_wp2_with fail
  refine (xJ _ 0 64 false hw.out _).mono ?_
  rintro e w1 ⟨rfl,rfl⟩
  go_wp2
  go_ret2
  exact ⟨rii HR.out HE.out,rfl⟩
theorem H4 (k:Nat) (hk:k < 64):IntKind.u64.wrap (((2 ^ k - 1:Nat):Int)+((2 ^ k:Nat):Int))=((2 ^ (k+1) - 1:Nat):Int):=by
 have h:=rI (show k≤63 by omega)
 have hp:=Nat.two_pow_pos k
 rw [Nat.pow_succ] at *
 generalize 2 ^ k=q at *
 rw [IntKind.wrap_u64];omega
theorem Bo (n:Int) (r e0:Int) (hr:pU n=r) (he:kR n=e0) (w:World):Calls prog 90 #[.int .i64 n] w fun e w'=>e = .returned (.tuple #[.int .u64 r,.int .i64 e0])∧w=w':=by
 by_cases h:0≤n∧n≤64
 ·have HR:Hid (((2 ^ n.toNat - 1:Nat):Int)=r):=by show _=_;rw [← hr,pU,if_pos h]
  have HE:Hid (0=e0):=by show _=_;rw [← he,kR,if_pos h]
  obtain ⟨m,rfl⟩:∃ m:Nat,n=m:=⟨n.toNat,by omega⟩
  have hm:m≤64:=by omega
  clear hr he h
  go_enter func90,ntmps90
  go_wp2_with fail
  go_loop [4,5] (fun s i=>∃ (k:Nat) (p:Int),k≤m∧i = .int .i64 k∧s = .int .u64 p∧Hid (((2 ^ k - 1:Nat):Int)=p)) (fun _ i=>m - (intOf i).toNat)
  case atStart=>exact ⟨0,0,Nat.zero_le _,rfl,rfl,rfl⟩
  case round =>
   obtain ⟨k,p,hk,rfl,rfl,HP⟩:=hrel
   by_cases hlt:k < m
   ·have HN:Hid (((2 ^ (k+1) - 1:Nat):Int)=IntKind.u64.wrap (p+((2 ^ k:Nat):Int))):=by show _=_;rw [← HP.out];exact (H4 k (by omega)).symm
    obtain ⟨q,hq⟩:∃ q:Nat,2 ^ k=q:=⟨_,rfl⟩
    have HQ:=Lib.hid hq
    rw [hq] at HN
    clear hq
    go_wp2_with fail
    refine (sF k (by omega) _).mono ?_
    rintro e w1 ⟨rfl,rfl⟩
    rw [show (k:Int).toNat=k from rfl,HQ.out]
    go_wp2
    go_round
    case rel=>exact ⟨k+1,_,by omega,by go_num,rfl,HN⟩
    case measure=>simp [intOf];omega
   ·have HF:Hid (p=r):=by show _=_;rw [← HP.out,← HR.out,show k=m by omega];rfl
    go_wp2
    go_ret2
    exact ⟨rii HF.out HE.out,rfl⟩
 ·have HR:Hid (0=r):=by show _=_;rw [← hr,pU,if_neg h]
  have HE:Hid (10=e0):=by show _=_;rw [← he,kR,if_neg h]
  clear hr he
  by_cases h0:n < 0
  ·clear h
   go_enter func90,ntmps90
   go_wp2
   go_ret2
   exact ⟨rii HR.out HE.out,rfl⟩
  ·have h1:64 < n:=by omega
   clear h
   go_enter func90,ntmps90
   go_wp2
   go_ret2
   exact ⟨rii HR.out HE.out,rfl⟩
def restN (f m:Nat):Nat:=f &&& (18446744073709551615 - (2 ^ m - 1))
theorem xK (f m:Nat) (hm:m≤64) (hf:f < 18446744073709551616) (j:Nat):(restN f m).testBit j=(f.testBit j && decide (m≤j)):=by
 unfold restN
 rw [Nat.testBit_and,zS _ _ (Gn hm),J7]
 cases hb:f.testBit j
 ·rfl
 ·have:=Eb hf hb
  simp [this]
  by_cases h:m≤j
  ·simp [h]
  ·simp [h];omega
def gQ (w:World) (a:Option Addr) (vs:List Value):Prop :=
 vs=[]∨∃ b off,a=some ⟨b,off,none⟩∧∀ (i:Nat) v,vs[i]?=some v→w.cell? ⟨b,off+i,none⟩=some v
theorem iL {w:World} {p:Addr} {v:Value} (h:w.cell? p=some v):p.block < w.heap.size:=by
 unfold World.cell? at h
 rcases Nat.lt_or_ge p.block w.heap.size with h' | h'
 ·exact h'
 ·simp [Array.getElem?_eq_none h'] at h
theorem gQ.below {w w':World} {a:Option Addr} {vs:List Value} (h:gQ w a vs) (hb:Below w.heap.size w w'):gQ w' a vs:=by
 rcases h with h | ⟨b,off,ha,hc⟩
 ·exact .inl h
 ·exact .inr ⟨b,off,ha,fun i v hi=>(hb.cell (p:=⟨b,off+i,none⟩) (iL (hc i v hi))).trans (hc i v hi)⟩
theorem gQ.at_ {w:World} {a:Option Addr} {vs:List Value} (h:gQ w a vs) {i:Nat} (hi:i < vs.length) :
  ∃ b off v,a=some ⟨b,off,none⟩∧vs[i]?=some v∧b < w.heap.size∧w.cell? ⟨b,off+i,none⟩=some v:=by
 rcases h with h | ⟨b,off,ha,hc⟩
 ·subst h;simp at hi
 ·have e:vs[i]?=some vs[i]:=by simp [hi]
  exact ⟨b,off,vs[i],ha,e,iL (hc i _ e),hc i _ e⟩
theorem gQ.of_own {w:World} {base:Nat} {E:Nat} {v:Value} {n:Nat} {vs:List Value} (h:w.ownsRow base E 1 v n vs) :
  n=vs.length∧∃ a cap,v = .slice a vs.length cap∧gQ w a vs∧∀ ad,a=some ad→base≤ad.block∧ad.block < w.heap.size:=by
 have hl:=h.1
 have hn:n=vs.length:=by omega
 refine ⟨hn,?_⟩
 rcases h.2 with ⟨rfl,h0⟩ | ⟨g,cap,cur,rfl,hg,hh,hnc,hcm,hcs,ht⟩
 ·have:vs=[]:=List.length_eq_zero_iff.1 (by omega)
  subst this
  exact ⟨none,0,rfl,.inl rfl,fun ad e=>by cases e⟩
 ·subst hn
  refine ⟨some ⟨g,0,none⟩,cap,rfl,.inr ⟨g,0,rfl,fun i x hi=>?_⟩,fun ad e=>by cases e;exact ⟨hg,(Array.getElem?_eq_some_iff.1 hh).1⟩⟩
  have hi2:i < vs.length:=(List.getElem?_eq_some_iff.1 hi).1
  have c0:=h.cellAt i (by omega)
  rw [Nat.zero_add]
  exact c0.trans hi
theorem Ec {w w':World} {base size n:Nat} {E:Nat} {v:Value} {xs:List Value} (h:w.ownsRow base E size v n xs) (hb:Below w.heap.size w w'):w'.ownsRow base E size v n xs:=by
 refine ⟨h.1,?_⟩
 rcases h.2 with h2 | ⟨g,cap,cur,hv,hg,hh,r⟩
 ·exact .inl h2
 ·exact .inr ⟨g,cap,cur,hv,hg,by rw [hb.block g (Array.getElem?_eq_some_iff.1 hh).1];exact hh,r⟩
theorem dF (w:World) (o:Obj):(w.alloc o).heap[w.heap.size]?=some o:=by
 show (w.heap.push o)[w.heap.size]?=some o
 simp
def tW (s k:Nat):List Nat:=(List.range k).filter s.testBit
theorem J8 {s k:Nat} (h:s.testBit k=true):tW s (k+1)=tW s k++[k]:=by simp [tW,List.range_succ,List.filter_append,h]
theorem memK_no {s k:Nat} (h:s.testBit k=false):tW s (k+1)=tW s k:=by simp [tW,List.range_succ,List.filter_append,h]
theorem Bp (i:Int) (j v:Nat) (hj:i.toNat=j) (hv:2 ^ j=v) (hi:i≤63) (w:World):Calls prog 60 #[.int .i64 i] w fun e w'=>e = .returned (.int .u64 v)∧w=w':=by
 subst hv hj;exact sF i hi w
def dT (l:List Nat):List Value:=l.map fun r:Nat=>Value.int .u64 (r:Int)
theorem gG (l:List Nat):(dT l).length=l.length:=by simp [dT]
theorem oY (l:List Nat) (x:Nat):dT (l++[x])=dT l++[Value.int .u64 (x:Int)]:=by simp [dT]
theorem zT {l:List Nat} {i:Nat} {v:Value} (h:(dT l)[i]?=some v):∃ r,l[i]?=some r∧v = .int .u64 (r:Int):=by
 unfold dT at h
 rw [List.getElem?_map] at h
 cases hr:l[i]? with
 | none=>rw [hr] at h;cases h
 | some r=>rw [hr] at h;exact ⟨r,rfl,(Option.some.inj h).symm⟩
structure FAt (w:World) (a:Option Addr) (gen:Nat) (rows:List Nat):Prop where
 row:gQ w a (dT rows)
 gen:gen < 18446744073709551616
 all:∀ r∈rows,r < 18446744073709551616
 len:rows.length≤100
theorem FAt.below {w w':World} {a:Option Addr} {gen:Nat} {rows:List Nat} (h:FAt w a gen rows) (hb:Below w.heap.size w w'):FAt w' a gen rows:=⟨h.row.below hb,h.gen,h.all,h.len⟩
theorem FAt.at_ {w:World} {a:Option Addr} {gen:Nat} {rows:List Nat} (h:FAt w a gen rows) {i:Nat} (hi:i < rows.length) :
  ∃ b off r,a=some ⟨b,off,none⟩∧rows[i]?=some r∧r < 18446744073709551616∧b < w.heap.size∧w.cell? ⟨b,off+i,none⟩=some (.int .u64 (r:Int)):=by
 obtain ⟨b,off,v,ha,hv,hb,hc⟩:=h.row.at_ (i:=i) (by rw [gG];exact hi)
 obtain ⟨r,hr,rfl⟩:=zT hv
 exact ⟨b,off,r,ha,hr,h.all r (List.mem_of_getElem? hr),hb,hc⟩
def gY (gen:Nat) (a:Option Addr) (len cap:Nat):Value:=.agg #[.int .u64 (gen:Int),.slice a len cap]
def eI (n:Int):Bool:=decide (0≤n) && decide (n≤64)
theorem sG (n:Int) (r:Bool) (hr:eI n=r) (w:World):Calls prog 70 #[.int .i64 n] w fun e w'=>e = .returned (.bool r)∧w=w':=by
 subst hr
 by_cases h1:0≤n
 ·by_cases h2:n≤64
  ·have H:Hid (eI n=true):=by show _=_;simp [eI,h1,h2]
   rw [H.out]
   go_enter func70,ntmps70
   go_wp2
   go_ret
   exact ⟨rfl,rfl⟩
  ·have H:Hid (eI n=false):=by show _=_;simp [eI,h2]
   rw [H.out]
   go_enter func70,ntmps70
   go_wp2
   go_ret
   exact ⟨rfl,rfl⟩
 ·have H:Hid (eI n=false):=by show _=_;simp [eI,h1]
  rw [H.out]
  go_enter func70,ntmps70
  go_wp2
  go_ret
  exact ⟨rfl,rfl⟩
theorem J9 (a b r:Nat) (ha:a < 18446744073709551616) (hb:b < 18446744073709551616) (hr:a ||| b=r) (w:World):Calls prog 72 #[.int .u64 a,.int .u64 b] w fun e w'=>e = .returned (.int .u64 r)∧w=w':=by
 have H:Hid (bits .or .u64 (a:Int) (b:Int)=(r:Int)):=by show _=_;rw [u64_or_nat a b ha hb,hr]
 go_enter func72,ntmps72
 go_wp2
 go_ret
 exact ⟨cL H.out,rfl⟩
def lB (m s:Nat):Bool:=restN s m == 0
theorem kS {m s:Nat} (hm:m≤64) (hs:s < 18446744073709551616):lB m s=true↔s < 2 ^ m:=by
 unfold lB
 rw [beq_iff_eq]
 constructor
 ·intro h
  apply Nat.lt_pow_two_of_testBit
  intro i hi
  have:=xK s m hm hs i
  rw [h,Nat.zero_testBit] at this
  cases hb:s.testBit i
  ·rfl
  ·rw [hb] at this;simp at this;omega
 ·intro h
  apply Nat.eq_of_testBit_eq
  intro i
  rw [xK s m hm hs,Nat.zero_testBit]
  by_cases hi:m≤i
  ·rw [Nat.testBit_lt_two_pow (Nat.lt_of_lt_of_le h (Nat.pow_le_pow_right (by omega) hi))];rfl
  ·simp [hi]
def Ed (n:Int) (s:Nat):Bool:=if eI n=true then lB n.toNat s else s == 0
theorem Bq {n:Int} (h:eI n=true):pU n=((2 ^ n.toNat - 1:Nat):Int)∧kR n=0:=by
 simp only [eI,Bool.and_eq_true,decide_eq_true_eq] at h
 exact ⟨by rw [pU,if_pos h],by rw [kR,if_pos h]⟩
theorem tE {n:Int} (h:eI n=false):pU n=0∧kR n=10:=by
 have:¬ (0≤n∧n≤64):=by intro x;simp [eI,x.1,x.2] at h
 exact ⟨by rw [pU,if_neg this],by rw [kR,if_neg this]⟩
theorem oC (s m:Nat) (hs:s < 18446744073709551616) (hm:m≤64):bits BinOp.andNot IntKind.u64 (s:Int) ((2 ^ m - 1:Nat):Int)=((restN s m:Nat):Int):=u64_andNot_nat s _ hs (Gn hm)
theorem mU {n:Int} (h:eI n=true):∃ m:Nat,n=m∧m≤64:=by
 simp only [eI,Bool.and_eq_true,decide_eq_true_eq] at h
 exact ⟨n.toNat,by omega,by omega⟩
theorem Br (s:Nat) (hs:s < 18446744073709551616):bits BinOp.andNot IntKind.u64 (s:Int) 0=(s:Int):=by
 have h:=u64_andNot_nat s 0 hs (by decide)
 have e:s &&& (18446744073709551615 - 0)=s:=by
  apply Nat.eq_of_testBit_eq
  intro i
  rw [Nat.testBit_and,zS 0 i (by decide),Nat.zero_testBit]
  cases hb:s.testBit i
  ·rfl
  ·simp [Eb hs hb]
 rw [e] at h
 exact h
theorem fW (n:Int) (s:Nat) (hs:s < 18446744073709551616) (r:Bool) (hr:Ed n s=r) (w:World):Calls prog 82 #[.int .i64 n,.int .u64 s] w fun e w'=>e = .returned (.bool r)∧w=w':=by
 cases hd:eI n
 ·obtain ⟨f1,f2⟩:=tE hd
  have F1:=Lib.hid f1;have F2:=Lib.hid f2
  have HA:=Br s hs
  have HR:Hid (((s:Int) == 0)=r):=by
   show _=_
   rw [← hr,Ed,hd]
   simp only [Bool.false_eq_true,if_false]
   rw [Bool.eq_iff_iff];simp
  clear hd f1 f2 hr hs
  go_enter func82,ntmps82
  go_wp2_with fail
  refine (Bo n 0 10 F1.out F2.out _).mono ?_
  rintro e w1 ⟨rfl,rfl⟩
  go_wp2
  go_ret
  exact ⟨bR HR.out,rfl⟩
 ·obtain ⟨m,rfl,hm⟩:=mU hd
  obtain ⟨f1,f2⟩:=Bq hd
  have F1:=Lib.hid f1;have F2:=Lib.hid f2
  have HA:=oC s m hs hm
  have HR:Hid ((((restN s m:Nat):Int) == 0)=r):=by
   show _=_
   rw [← hr,Ed,hd,if_pos rfl]
   unfold lB
   rw [Int.toNat_natCast,Bool.eq_iff_iff];simp
  obtain ⟨q,hq⟩:∃ q,restN s m=q:=⟨_,rfl⟩
  rw [hq] at HA HR
  obtain ⟨p,hp⟩:∃ p:Nat,2 ^ m - 1=p:=⟨_,rfl⟩
  rw [Int.toNat_natCast,hp] at F1
  rw [hp] at HA
  clear hd f1 f2 hr hs hq hp
  go_enter func82,ntmps82
  go_wp2_with fail
  refine (Bo m p 0 F1.out F2.out _).mono ?_
  rintro e w1 ⟨rfl,rfl⟩
  go_wp2
  go_ret
  exact ⟨bR HR.out,rfl⟩
def eF (m gen:Nat) (rows:List Nat):Bool:=decide (rows.length=m) && (lB m gen && rows.all (lB m))
def lI (n:Int) (gen:Nat) (rows:List Nat):Int:=if eI n=true then (if eF n.toNat gen rows=true then 0 else 30) else 31
theorem vC {l:List Nat} {p:Nat→Bool} {k:Nat} (h:∀ i r,i < k→l[i]?=some r→p r=true) (hk:l.length≤k):l.all p=true:=by
 rw [List.all_eq_true]
 intro x hx
 obtain ⟨i,hi⟩:=List.getElem?_of_mem hx
 exact h i x (by have:=(List.getElem?_eq_some_iff.1 hi).1;omega) hi
theorem zU {l:List Nat} {p:Nat→Bool} {i r:Nat} (h:l[i]?=some r) (hp:p r=false):l.all p=false:=by
 rw [List.all_eq_false]
 exact ⟨r,List.mem_of_getElem? h,by rw [hp];simp⟩
set_option maxHeartbeats 1000000 in
theorem H5 (n:Int) (a:Option Addr) (cap gen:Nat) (rows:List Nat) (w:World) (hf:FAt w a gen rows) (r:Int) (hr:lI n gen rows=r) :
  Calls prog 87 #[.int .i64 n,gY gen a rows.length cap] w fun e w'=>e = .returned (.int .i64 r)∧Below w.heap.size w w':=by
 have HF:=Lib.hid hf
 have hgen:=hf.gen
 have hlen:=hf.len
 have hB0:Below w.heap.size w (w.alloc (.cells #[.int .u64 (gen:Int),.slice a rows.length cap] 52)):=(Below.refl _ _).alloc (Nat.le_refl _) _
 have HF1:Hid (FAt (w.alloc (.cells #[.int .u64 (gen:Int),.slice a rows.length cap] 52)) a gen rows):=hf.below hB0
 obtain ⟨len,hl⟩:∃ len,rows.length=len:=⟨_,rfl⟩
 have HL:=Lib.hid hl
 rw [hl] at hB0 HF1 hlen ⊢
 unfold gY
 clear hf hl
 cases hd:eI n
 ·obtain ⟨f1,f2⟩:=tE hd
  have F1:=Lib.hid f1;have F2:=Lib.hid f2
  have HR:Hid (31=r):=by show _=_;rw [← hr,lI,hd];rfl
  clear hd f1 f2 hr
  go_enter func87,ntmps87
  go_wp2_with fail
  refine (oB n 0 10 F1.out F2.out _).mono ?_
  rintro e w1 ⟨rfl,rfl⟩
  go_wp2
  go_ret
  exact ⟨cL HR.out,hB0⟩
 ·obtain ⟨m,rfl,hm⟩:=mU hd
  obtain ⟨f1,f2⟩:=Bq hd
  have F1:=Lib.hid f1;have F2:=Lib.hid f2
  have HA:=oC gen m hgen hm
  have HRR:Hid ((if eF m gen rows=true then (0:Int) else 30)=r):=by show _=_;rw [← hr,lI,hd,if_pos rfl,Int.toNat_natCast]
  have HAR:Hid (∀ r:Nat,r < 18446744073709551616→bits BinOp.andNot IntKind.u64 (r:Int) ((2 ^ m - 1:Nat):Int)=((restN r m:Nat):Int)):=fun r hr=>oC r m hr hm
  obtain ⟨p,hp⟩:∃ p:Nat,2 ^ m - 1=p:=⟨_,rfl⟩
  rw [Int.toNat_natCast,hp] at F1
  rw [hp] at HA HAR
  clear hd f1 f2 hr hp
  by_cases hlm:len=m
  ·subst hlm
   cases hig:lB len gen
   ·have HR:Hid (30=r):=by show _=_;rw [← HRR.out,eF,hig];simp
    have hq0:(((restN gen len:Nat):Int) != 0)=true:=by
     unfold lB at hig
     have:restN gen len≠0:=by simpa using hig
     simp;omega
    obtain ⟨q,hq⟩:∃ q,restN gen len=q:=⟨_,rfl⟩
    rw [hq] at HA hq0
    clear hig hq
    go_enter func87,ntmps87
    go_wp2_with fail
    refine (oB len p 0 F1.out F2.out _).mono ?_
    rintro e w1 ⟨rfl,rfl⟩
    go_wp2
    go_ret
    exact ⟨cL HR.out,hB0⟩
   ·have HIG:=Lib.hid hig
    have hq0:restN gen len=0:=by unfold lB at hig;simpa using hig
    rw [hq0] at HA
    clear hig hq0
    go_enter func87,ntmps87
    go_wp2_with fail
    refine (oB len p 0 F1.out F2.out _).mono ?_
    rintro e w1 ⟨rfl,rfl⟩
    go_wp2_with fail
    go_loopw [31] (fun i wr=>∃ k:Nat,k≤len∧i = .int .i64 k∧Hid (∀ (i:Nat) x,i < k→rows[i]?=some x→lB len x=true)∧(w.alloc (.cells #[.int .u64 (gen:Int),.slice a len cap] 52))=wr) (fun i _=>len - (intOf i).toNat)
    case atStart=>exact ⟨0,Nat.zero_le _,rfl,fun i x h=>by omega,rfl⟩
    case round =>
     obtain ⟨k,hk,rfl,HK,rfl⟩:=hrel
     by_cases hlt:k < len
     ·obtain ⟨ba,offa,x,rfl,hx,hx64,hba,a0⟩:=HF1.out.at_ (by rw [HL.out];exact hlt)
      have g0:(0:Int)≤(k:Int):=by omega
      have g1:(k:Int) < (len:Int):=by omega
      have hax:=HAR.out x hx64
      cases hin:lB len x
      ·have HR:Hid (30=r):=by show _=_;rw [← HRR.out,eF,zU hx hin];simp
       have hq0:(((restN x len:Nat):Int) != 0)=true:=by
        unfold lB at hin
        have:restN x len≠0:=by simpa using hin
        simp;omega
       obtain ⟨q,hq⟩:∃ q,restN x len=q:=⟨_,rfl⟩
       rw [hq] at hax hq0
       clear hin hq hx
       go_wp2
       go_ret
       exact ⟨cL HR.out,hB0⟩
      ·have HN:Hid (∀ (i:Nat) y,i < k+1→rows[i]?=some y→lB len y=true):=fun i y hi hy=>by
        by_cases e:i=k
        ·subst e;rw [hx] at hy;cases hy;exact hin
        ·exact HK.out i y (by omega) hy
       have hq0:restN x len=0:=by unfold lB at hin;simpa using hin
       rw [hq0] at hax
       clear hin hx hq0
       go_wp2
       go_roundw
       case rel=>exact ⟨k+1,by omega,by go_num,HN,by trivial⟩
       case measure=>simp [intOf];omega
     ·have HR:Hid (0=r):=by
       show _=_
       have e1:eF len gen rows=true:=by
        unfold eF
        rw [HIG.out,vC HK.out (by rw [HL.out];omega)]
        simp [HL.out]
       rw [← HRR.out,e1];rfl
      go_wp2
      go_ret
      exact ⟨cL HR.out,hB0⟩
  ·have HR:Hid (30=r):=by
    show _=_
    rw [← HRR.out,eF,decide_eq_false (by rw [HL.out];exact hlm)];rfl
   have hne:((len:Int) != (m:Int))=true:=by simp;omega
   clear hlm
   go_enter func87,ntmps87
   go_wp2_with fail
   refine (oB m p 0 F1.out F2.out _).mono ?_
   rintro e w1 ⟨rfl,rfl⟩
   go_wp2
   go_ret
   exact ⟨cL HR.out,hB0⟩
set_option maxHeartbeats 1000000 in
theorem Ka (m:Nat) (hm:m≤64) (a:Option Addr) (cap gen:Nat) (rows:List Nat) (w:World) (hf:FAt w a gen rows) (r:Bool) (hr:eF m gen rows=r) :
  Calls prog 81 #[.int .i64 m,gY gen a rows.length cap] w fun e w'=>e = .returned (.bool r)∧Below w.heap.size w w':=by
 have HF:=Lib.hid hf
 have hgen:=hf.gen
 have hlen:=hf.len
 have HR:=Lib.hid hr
 have hB0:Below w.heap.size w (w.alloc (.cells #[.int .u64 (gen:Int),.slice a rows.length cap] 52)):=(Below.refl _ _).alloc (Nat.le_refl _) _
 have HF1:Hid (FAt (w.alloc (.cells #[.int .u64 (gen:Int),.slice a rows.length cap] 52)) a gen rows):=hf.below hB0
 have HI:Hid (∀ s:Nat,Ed (m:Int) s=lB m s):=fun s=>by
  have:eI (m:Int)=true:=by simp [eI];omega
  rw [Ed,this];rfl
 obtain ⟨len,hl⟩:∃ len,rows.length=len:=⟨_,rfl⟩
 have HL:=Lib.hid hl
 rw [hl] at hB0 HF1 hlen ⊢
 unfold gY
 clear hf hl hr
 by_cases hlm:len=m
 ·subst hlm
  cases hig:lB len gen
  ·have HX:Hid (false=r):=by show _=_;rw [← HR.out,eF,hig];simp
   have HG:=Lib.hid hig
   clear hig
   go_enter func81,ntmps81
   go_wp2_with fail
   refine (fW len gen hgen false (by rw [HI.out];exact HG.out) _).mono ?_
   rintro e w1 ⟨rfl,rfl⟩
   go_wp2
   go_ret
   exact ⟨bR HX.out,hB0⟩
  ·have HG:=Lib.hid hig
   clear hig
   go_enter func81,ntmps81
   go_wp2_with fail
   refine (fW len gen hgen true (by rw [HI.out];exact HG.out) _).mono ?_
   rintro e w1 ⟨rfl,rfl⟩
   go_wp2_with fail
   go_loopw [5] (fun i wr=>∃ k:Nat,k≤len∧i = .int .i64 k∧Hid (∀ (i:Nat) x,i < k→rows[i]?=some x→lB len x=true)∧(w.alloc (.cells #[.int .u64 (gen:Int),.slice a len cap] 52))=wr) (fun i _=>len - (intOf i).toNat)
   case atStart=>exact ⟨0,Nat.zero_le _,rfl,fun i x h=>by omega,rfl⟩
   case round =>
    obtain ⟨k,hk,rfl,HK,rfl⟩:=hrel
    by_cases hlt:k < len
    ·obtain ⟨ba,offa,x,rfl,hx,hx64,hba,a0⟩:=HF1.out.at_ (by rw [HL.out];exact hlt)
     have g0:(0:Int)≤(k:Int):=by omega
     have g1:(k:Int) < (len:Int):=by omega
     cases hin:lB len x
     ·have HX:Hid (false=r):=by show _=_;rw [← HR.out,eF,zU hx hin];simp
      have HIN:=Lib.hid hin
      clear hin hx
      go_wp2_with fail
      refine (fW len x hx64 false (by rw [HI.out];exact HIN.out) _).mono ?_
      rintro e w1 ⟨rfl,rfl⟩
      go_wp2
      go_ret
      exact ⟨bR HX.out,hB0⟩
     ·have HN:Hid (∀ (i:Nat) y,i < k+1→rows[i]?=some y→lB len y=true):=fun i y hi hy=>by
       by_cases e:i=k
       ·subst e;rw [hx] at hy;cases hy;exact hin
       ·exact HK.out i y (by omega) hy
      have HIN:=Lib.hid hin
      clear hin hx
      go_wp2_with fail
      refine (fW len x hx64 true (by rw [HI.out];exact HIN.out) _).mono ?_
      rintro e w1 ⟨rfl,rfl⟩
      go_wp2
      go_roundw
      case rel=>exact ⟨k+1,by omega,by go_num,HN,by trivial⟩
      case measure=>simp [intOf];omega
    ·have HX:Hid (true=r):=by
      show _=_
      have e1:eF len gen rows=true:=by
       unfold eF
       rw [HG.out,vC HK.out (by rw [HL.out];omega)]
       simp [HL.out]
      rw [← HR.out,e1]
     go_wp2
     go_ret
     exact ⟨bR HX.out,hB0⟩
 ·have HX:Hid (false=r):=by
   show _=_
   rw [← HR.out,eF,decide_eq_false (by rw [HL.out];exact hlm)];rfl
  have hne:((len:Int) != (m:Int))=true:=by simp;omega
  clear hlm
  go_enter func81,ntmps81
  go_wp2
  go_ret
  exact ⟨bR HX.out,hB0⟩
def andn (a b:Nat):Nat:=a &&& (18446744073709551615 - b)
theorem rJ {a b:Nat} (ha:a < 18446744073709551616) (hb:b < 18446744073709551616) (j:Nat):(andn a b).testBit j=(a.testBit j && !b.testBit j):=by
 unfold andn
 rw [Nat.testBit_and,zS _ _ hb]
 cases h:a.testBit j
 ·rfl
 ·simp [Eb ha h]
theorem andn_go (a b:Nat) (ha:a < 18446744073709551616) (hb:b < 18446744073709551616):bits BinOp.andNot IntKind.u64 (a:Int) (b:Int)=((andn a b:Nat):Int):=u64_andNot_nat a b ha hb
def eW (gen:Nat) (rows:List Nat):List Nat:=rows.map fun r=>andn r gen
theorem lP (gen:Nat) (rows:List Nat):(eW gen rows).length=rows.length:=by simp [eW]
theorem Bt {gen:Nat} {rows:List Nat} {k x:Nat} (h:rows[k]?=some x):(eW gen rows).take (k+1)=(eW gen rows).take k++[andn x gen]:=by
 have h2:(eW gen rows)[k]?=some (andn x gen):=by simp [eW,h]
 obtain ⟨hk,e⟩:=List.getElem?_eq_some_iff.1 h2
 rw [List.take_succ_eq_append_getElem hk,e]
theorem Bu:(prog.info? 49).map (fun i=>(i.zero,i.size,i.bytes))=some (some (.int .u64 0),1,8):=by kernel_rfl
theorem cA {w:World} {B:Nat} {a b:Value} {T:TypeId} (h:w.heap[B]?=some (.cells #[a,b] T (0,0))) :
  w.cell? ⟨B,0,none⟩=some a∧w.cell? ⟨B,1,none⟩=some b∧(∀ j,w.frozen? ⟨B,j,none⟩=false) :=
 ⟨by simp [World.cell?,h],by simp [World.cell?,h],fun j=>by simp [World.frozen?,h]⟩
theorem gH {w:World} {B:Nat} {a b c:Value} {T:TypeId} (h:w.heap[B]?=some (.cells #[a,b] T (0,0))):(w.setCell ⟨B,1,none⟩ c).heap[B]?=some (.cells #[a,c] T (0,0)):=heap_setCell_same w B 1 _ _ _ h
theorem kT {w:World} {B:Nat} {a b c:Value} {T:TypeId} (h:w.heap[B]?=some (.cells #[a,b] T (0,0))):(w.setCell ⟨B,0,none⟩ c).heap[B]?=some (.cells #[c,b] T (0,0)):=heap_setCell_same w B 0 _ _ _ h
theorem gI {w:World} {B C j:Nat} {c:Value} {o:Obj} (h:w.heap[C]?=some o) (hne:C≠B):(w.setCell ⟨B,j,none⟩ c).heap[C]?=some o:=(Below.heap_setCell _ _ _ _ hne).trans h
theorem cS {w w':World} {C:Nat} {o:Obj} (h:w.heap[C]?=some o) (hb:Below w.heap.size w w'):w'.heap[C]?=some o:=(hb.block C (Array.getElem?_eq_some_iff.1 h).1).trans h
theorem cO {w:World} {C:Nat} {o:Obj} (h:w.heap[C]?=some o) (o':Obj):(w.alloc o').heap[C]?=some o:=(Below.heap_alloc _ _ _ (Array.getElem?_eq_some_iff.1 h).1).trans h
theorem iM {w:World} {B:Nat} {cs:Array Value} {T E:TypeId} (h:w.heap[B]?=some (.cells cs T (0,0))) (hTE:T≠E) {base size k:Nat} {v:Value} {xs:List Value} (hr:w.ownsRow base E size v k xs):some B≠v.ownBlock:=by
 rcases hr.2 with ⟨rfl,_⟩ | ⟨g,cap,cur,rfl,_,hgb,_⟩
 ·simp [Value.ownBlock]
 ·intro e'
  obtain rfl:B=g:=by simpa [Value.ownBlock] using e'
  have:=h.symm.trans hgb
  simp at this
  exact hTE this.2
theorem eK {w w':World} {B:Nat} {cs:Array Value} {T E:TypeId} (h:w.heap[B]?=some (.cells cs T (0,0))) (hTE:T≠E) {base size k:Nat} {v:Value} {xs:List Value} (hr:w.ownsRow base E size v k xs) (hg:w.grownBy w' v.ownBlock):w'.heap[B]?=some (.cells cs T (0,0)) :=
 (hg.block B (Array.getElem?_eq_some_iff.1 h).1 (fun e=>iM h hTE hr e)).trans h
theorem fI (W:World) (b j:Nat) (v:Value):W.grownBy (W.setCell ⟨b,j,none⟩ v) (some b) :=
 ⟨rfl,rfl,rfl,(KeepsWalks.setCell W _ v).size,fun k _ hk=>Below.heap_setCell _ _ _ k (fun e=>hk (by rw [e]))⟩
theorem lY {w:World} {a:Option Addr} {vs:List Value} (h:gQ w a vs) {B j:Nat} {v:Value} (hne:∀ ad,a=some ad→ad.block≠B):gQ (w.setCell ⟨B,j,none⟩ v) a vs:=by
 rcases h with h | ⟨b,off,ha,hc⟩
 ·exact .inl h
 ·refine .inr ⟨b,off,ha,fun i x hi=>?_⟩
  rw [← hc i x hi]
  unfold World.cell?
  rw [Below.heap_setCell _ _ _ _ (hne _ ha)]
def FOne (gen:Nat) (rows:List Nat) (w:World) (e:Ending) (w':World):Prop :=
 ∃ a cap,e = .returned (gY gen a rows.length cap)∧gQ w' a (dT rows)∧(∀ ad,a=some ad→w.heap.size≤ad.block∧ad.block < w'.heap.size)∧Below w.heap.size w w'
set_option maxHeartbeats 2000000 in
theorem sH (a:Option Addr) (cap gen:Nat) (rows:List Nat) (w:World) (hf:FAt w a gen rows) (ys:List Nat) (hys:eW gen rows=ys) :
  Calls prog 73 #[gY gen a rows.length cap] w (FOne gen ys w):=by
 have HF:=Lib.hid hf
 have hgen:=hf.gen
 have hlen:=hf.len
 have HY:=Lib.hid hys
 obtain ⟨i0,hi,hz0,hz1,hz2⟩:=info_parts Bu
 obtain ⟨len,hl⟩:∃ len,rows.length=len:=⟨_,rfl⟩
 have HL:=Lib.hid hl
 rw [hl] at hlen ⊢
 unfold gY
 clear hf hl hys
 go_enter func73,ntmps73
 go_wp2_with fail
 go_loopw [4] (fun i wr=>∃ (k:Nat) (v:Value),k≤len∧i = .int .i64 k∧Hid (wr.heap[w.heap.size]?=some (.cells #[.int .u64 (gen:Int),.slice a len cap] 52 (0,0)))∧Hid (wr.heap[w.heap.size+1]?=some (.cells #[.int .u64 0,.slice none 0 0] 52 (0,0)))∧Hid (wr.heap[w.heap.size+1+1]?=some (.cells #[.int .u64 (gen:Int),v] 52 (0,0)))∧Hid (wr.ownsRow w.heap.size 49 1 v k (dT (ys.take k)))∧Below w.heap.size w wr) (fun i _=>len - (intOf i).toNat)
 case atStart =>
  refine ⟨0,.slice none 0 0,Nat.zero_le _,rfl,?_,?_,?_,World.ownsRow_nil _ _ _ _,(((Below.refl _ _).alloc (Nat.le_refl _) _).alloc (by simp) _).alloc (by simp;omega) _⟩
  ·show _=_
   exact cO (cO (dF _ _) _) _
  ·show _=_
   have:=cO (dF (w.alloc (.cells #[.int .u64 (gen:Int),.slice a len cap] 52)) (.cells #[.int .u64 0,.slice none 0 0] 52)) (.cells #[.int .u64 (gen:Int),.slice none 0 0] 52)
   rwa [World.size_alloc] at this
  ·show _=_
   have:=dF ((w.alloc (.cells #[.int .u64 (gen:Int),.slice a len cap] 52)).alloc (.cells #[.int .u64 0,.slice none 0 0] 52)) (.cells #[.int .u64 (gen:Int),.slice none 0 0] 52)
   rwa [World.size_alloc,World.size_alloc] at this
 case round =>
  obtain ⟨k,v,hk,rfl,B0,B1,B2,HO,hb⟩:=hrel
  obtain ⟨c0,c1,cf⟩:=cA B0.out
  obtain ⟨e0,e1,ef⟩:=cA B2.out
  have ef1:=ef 1
  by_cases hlt:k < len
  ·obtain ⟨ba,offa,x,rfl,hx,hx64,hba,a0⟩:=(HF.out.below hb).at_ (by rw [HL.out];exact hlt)
   have g0:(0:Int)≤(k:Int):=by omega
   have g1:(k:Int) < (len:Int):=by omega
   have hag:=andn_go x gen hx64 hgen
   obtain ⟨y,hy⟩:∃ y,andn x gen=y:=⟨_,rfl⟩
   rw [hy] at hag
   have HT:Hid (ys.take (k+1)=ys.take k++[y]):=by show _=_;rw [← HY.out,Bt hx,hy]
   clear hx hy cf ef
   go_wp2_with fail
   have q1:(wr.alloc (.cells #[.int .u64 (y:Int)] 49)).cell? ⟨w.heap.size+1+1,1,none⟩=some v:=(cA (cO B2.out _)).2.1
   go_region_law (first | (refine step_append_lies (wr.drew.alloc (.cells #[.int .u64 (y:Int)] 49)) ?_ (.tmp 16) (.tmp 25) 50 ?_ w.heap.size 49 i0 _ 1 8 underlying50 hi hz0 hz1 hz2 ?_ ?_ v k (dT (ys.take k)) ?_ ?_ ⟨wr.heap.size,0,none⟩ 1 1 [.int .u64 (y:Int)] ?_ ?_ ?_ ?_ ?_ ?_ ?_ ?_ (wr.heap.size+1) ?_ ?_;rfl;rfl;rfl;omega;rfl;exact (HO.out:(wr.drew).ownsRow _ _ _ _ _ _).alloc _;rfl;rfl;exact (World.news_of_block (cs:=#[.int .u64 (y:Int)]) (t:=49) (fr:=(0,0)) (dF wr.drew _));simp [Value.oneCell'];omega;(unfold maxLen;omega);omega;(have:=hb.size;simp;omega);simp;intro gg cp w5 hown1 hgrow hat hlt5;have hB4:Below w.heap.size w w5:=(hb.drew.alloc hb.size _).grown hgrow (by have:=hb.size;simp;omega) (fun j e=>(HO.out.lt j e).1);have D0:=Lib.hid (eK (cO (w:=wr.drew) B0.out (.cells #[.int .u64 (y:Int)] 49)) (by decide) ((HO.out:(wr.drew).ownsRow _ _ _ _ _ _).alloc _) hgrow);have D1:=Lib.hid (eK (cO (w:=wr.drew) B1.out (.cells #[.int .u64 (y:Int)] 49)) (by decide) ((HO.out:(wr.drew).ownsRow _ _ _ _ _ _).alloc _) hgrow);have D2:=Lib.hid (eK (cO (w:=wr.drew) B2.out (.cells #[.int .u64 (y:Int)] 49)) (by decide) ((HO.out:(wr.drew).ownsRow _ _ _ _ _ _).alloc _) hgrow);obtain ⟨_,d1,df⟩:=cA D2.out;have df1:=df 1;clear df) | fail)
   all_goals
    have HO5:=Lib.hid (show (w5.setCell ⟨w.heap.size+1+1,1,none⟩ (.slice (some ⟨gg,0,none⟩) (k+1) cp)).ownsRow w.heap.size 49 1 (.slice (some ⟨gg,0,none⟩) (k+1) cp) (k+1) (dT (ys.take (k+1))) by
     rw [HT.out,oY];exact hown1.kept (fI w5 _ _ _) (.inr (iM D2.out (by decide) hown1).symm))
    have N0:=Lib.hid (gI (B:=w.heap.size+1+1) (j:=1) (c:=.slice (some ⟨gg,0,none⟩) (k+1) cp) D0.out (by omega))
    have N1:=Lib.hid (gI (B:=w.heap.size+1+1) (j:=1) (c:=.slice (some ⟨gg,0,none⟩) (k+1) cp) D1.out (by omega))
    have N2:=Lib.hid (gH (c:=.slice (some ⟨gg,0,none⟩) (k+1) cp) D2.out)
    have NB:=Lib.hid (hB4.setCell (p:=⟨w.heap.size+1+1,1,none⟩) (by simp;omega) (.slice (some ⟨gg,0,none⟩) (k+1) cp))
    clear hown1 hgrow hat d1 df1 q1 c0 c1 e0 e1 ef1
    go_wp2
    go_roundw
    case rel=>exact ⟨k+1,_,by omega,by go_num,N0,N1,N2,HO5,NB.out⟩
    case measure=>simp [intOf];omega
  ·obtain rfl:k=len:=by omega
   obtain ⟨r0,r1,rf⟩:=cA B1.out
   have rf0:=rf 0;have rf1:=rf 1
   have HYL:Hid (ys.length=k):=by show _=_;rw [← HY.out,lP,HL.out]
   have HO2:Hid (wr.ownsRow w.heap.size 49 1 v k (dT ys)):=by
    have:=HO.out
    rwa [List.take_of_length_le (by rw [HYL.out];exact Nat.le_refl _)] at this
   obtain ⟨hvn,a3,cap3,hv3,hr3,hf3⟩:=gQ.of_own HO2.out
   subst hv3
   have HR3:=Lib.hid hr3;have HF3:=Lib.hid hf3
   have N1:=Lib.hid (gH (c:=.slice a3 (dT ys).length cap3) (kT (c:=.int .u64 (gen:Int)) B1.out))
   have NR:=Lib.hid (lY (lY HR3.out (B:=w.heap.size+1) (j:=0) (v:=.int .u64 (gen:Int)) (fun ad e x=>iM B1.out (by decide) HO2.out (by rw [e];show _=some _;rw [x]))) (B:=w.heap.size+1) (j:=1) (v:=.slice a3 (dT ys).length cap3) (fun ad e x=>iM B1.out (by decide) HO2.out (by rw [e];show _=some _;rw [x])))
   have NB:=Lib.hid ((hb.setCell (p:=⟨w.heap.size+1,0,none⟩) (by simp) (.int .u64 (gen:Int))).setCell (p:=⟨w.heap.size+1,1,none⟩) (by simp) (.slice a3 (dT ys).length cap3))
   obtain ⟨s0,s1,_⟩:=cA N1.out
   clear cf ef hvn hr3 hf3
   go_wp2
   refine bodyPost_ret (v:=.agg #[.int .u64 (gen:Int),.slice a3 (dT ys).length cap3]) ?_ rfl ⟨a3,cap3,by rw [gY,gG],NR.out,fun ad e=>⟨(HF3.out ad e).1,by simpa [World.setCell] using (HF3.out ad e).2⟩,NB.out⟩
   simp [results,results73,go_sem,s0,s1]
def Bv (w:World) (a:Option Addr) (xs:List Nat):Prop:=gQ w a (dT xs)
theorem Bv.at_ {w:World} {a:Option Addr} {xs:List Nat} (h:Bv w a xs) {i:Nat} (hi:i < xs.length) :
  ∃ b off r,a=some ⟨b,off,none⟩∧xs[i]?=some r∧b < w.heap.size∧w.cell? ⟨b,off+i,none⟩=some (.int .u64 (r:Int)):=by
 obtain ⟨b,off,v,ha,hv,hb,hc⟩:=gQ.at_ h (i:=i) (by rw [gG];exact hi)
 obtain ⟨r,hr,rfl⟩:=zT hv
 exact ⟨b,off,r,ha,hr,hb,hc⟩
theorem vD {xs ys:List Nat} (hl:xs.length=ys.length) (h:∀ (i x y:Nat),xs[i]?=some x→ys[i]?=some y→x=y):xs=ys:=by
 apply List.ext_getElem hl
 intro i h1 h2
 exact h i _ _ (List.getElem?_eq_getElem h1) (List.getElem?_eq_getElem h2)
def rK (ga:Nat) (xs:List Nat) (gb:Nat) (ys:List Nat):Bool:=ga == gb && xs == ys
theorem oZ (w:World) (a b:Array Value) (T:TypeId):((w.alloc (.cells a T)).alloc (.cells b T)).heap[w.heap.size]?=some (.cells a T (0,0))∧((w.alloc (.cells a T)).alloc (.cells b T)).heap[w.heap.size+1]?=some (.cells b T (0,0)):=by
 refine ⟨cO (dF _ _) _,?_⟩
 have:=dF (w.alloc (.cells a T)) (.cells b T)
 rwa [World.size_alloc] at this
set_option maxHeartbeats 1000000 in
theorem H6 (a b:Option Addr) (capa capb ga gb:Nat) (xs ys:List Nat) (w:World) (hx:xs.length≤9223372036854775807) (hy:ys.length≤9223372036854775807) (hra:Bv w a xs) (hrb:Bv w b ys) (r:Bool) (hr:rK ga xs gb ys=r) (n m:Nat) (hn:xs.length=n) (hm:ys.length=m) :
  Calls prog 30 #[gY ga a n capa,gY gb b m capb] w fun e w'=>e = .returned (.bool r)∧Below w.heap.size w w':=by
 unfold gY
 have hB0:Below w.heap.size w ((w.alloc (.cells #[.int .u64 (ga:Int),.slice a n capa] 52)).alloc (.cells #[.int .u64 (gb:Int),.slice b m capb] 52)):=((Below.refl _ _).alloc (Nat.le_refl _) _).alloc (by simp) _
 have HA:=Lib.hid hra;have HB:=Lib.hid hrb;have HN:=Lib.hid hn;have HM:=Lib.hid hm
 obtain ⟨t0,t1⟩:=oZ w #[.int .u64 (ga:Int),.slice a n capa] #[.int .u64 (gb:Int),.slice b m capb] 52
 have T0:=Lib.hid t0;have T1:=Lib.hid t1
 rw [hn] at hx;rw [hm] at hy
 by_cases hg:ga=gb
 ·subst hg
  have HR:Hid ((xs == ys)=r):=by show _=_;rw [← hr,rK];simp
  clear hra hrb hr hn hm t0 t1
  by_cases hnm:n=m
  ·subst hnm
   go_enter func30,ntmps30
   go_wp2_with fail
   go_loopw [5] (fun i wr=>∃ k:Nat,k≤n∧i = .int .i64 k∧Hid (∀ i x y,i < k→xs[i]?=some x→ys[i]?=some y→x=y)∧Hid (wr.heap[w.heap.size]?=some (.cells #[.int .u64 (ga:Int),.slice a n capa] 52 (0,0)))∧Hid (wr.heap[w.heap.size+1]?=some (.cells #[.int .u64 (ga:Int),.slice b n capb] 52 (0,0)))∧Below w.heap.size w wr) (fun i _=>n - (intOf i).toNat)
   case atStart=>exact ⟨0,Nat.zero_le _,rfl,fun i x y h=>by omega,T0,T1,hB0⟩
   case round =>
    obtain ⟨k,hk,rfl,HK,B0,B1,hb⟩:=hrel
    obtain ⟨c0,c1,_⟩:=cA B0.out
    obtain ⟨d0,d1,_⟩:=cA B1.out
    by_cases hlt:k < n
    ·obtain ⟨ba,offa,x,rfl,hx1,hba,a0⟩:=Bv.at_ (gQ.below HA.out hb) (i:=k) (by rw [HN.out];exact hlt)
     obtain ⟨bb,offb,y,rfl,hy1,hbb,b0⟩:=Bv.at_ (gQ.below HB.out hb) (i:=k) (by rw [HM.out];exact hlt)
     have g0:(0:Int)≤(k:Int):=by omega
     have g1:(k:Int) < (n:Int):=by omega
     by_cases hxy:x=y
     ·subst hxy
      have HNX:Hid (∀ i x y,i < k+1→xs[i]?=some x→ys[i]?=some y→x=y):=fun i u v hi hu hv=>by
       by_cases e:i=k
       ·subst e;rw [hx1] at hu;rw [hy1] at hv;cases hu;cases hv;rfl
       ·exact HK.out i u v (by omega) hu hv
      clear hx1 hy1
      go_wp2_with fail
      go_quiet (fail)
      go_wp2
      go_roundw
      case rel=>exact ⟨k+1,by omega,by go_num,HNX,B0,B1,below_drewN hb _⟩
      case measure=>simp [intOf];omega
     ·have hne:((x:Int) != (y:Int))=true:=by simp;omega
      have HX:Hid (false=r):=by
       show _=_
       rw [← HR.out]
       symm
       rw [beq_eq_false_iff_ne]
       rintro rfl
       rw [hx1] at hy1;cases hy1;exact hxy rfl
      clear hx1 hy1 hxy
      go_wp2_with fail
      go_quiet (fail)
      go_wp2
      go_ret
      exact ⟨bR HX.out,below_drewN hb _⟩
    ·have HX:Hid (true=r):=by
      show _=_
      rw [← HR.out]
      symm
      rw [beq_iff_eq]
      refine vD (by rw [HN.out,HM.out]) fun i x y hi hj=>?_
      have:=(List.getElem?_eq_some_iff.1 hi).1
      rw [HN.out] at this
      exact HK.out i x y (by omega) hi hj
     go_wp2
     go_ret
     exact ⟨bR HX.out,hb⟩
  ·have HX:Hid (false=r):=by
    show _=_
    rw [← HR.out]
    symm
    rw [beq_eq_false_iff_ne]
    rintro rfl
    exact hnm (HN.out.symm.trans HM.out)
   have hne:((n:Int) != (m:Int))=true:=by simp;omega
   clear hnm
   go_enter func30,ntmps30
   go_wp2
   go_ret
   exact ⟨bR HX.out,hB0⟩
 ·have HR:Hid (false=r):=by show _=_;rw [← hr,rK,beq_eq_false_iff_ne.2 hg];rfl
  have hne:((ga:Int) != (gb:Int))=true:=by simp;omega
  clear hra hrb hr hn hm hg t0 t1
  go_enter func30,ntmps30
  go_wp2
  go_ret
  exact ⟨bR HR.out,hB0⟩
theorem vE (a b:Option Addr) (capa capb ga gb:Nat) (xs ys:List Nat) (w:World) (hx:xs.length≤100) (hy:ys.length≤100) (hra:Bv w a xs) (hrb:Bv w b ys) (r:Bool) (hr:rK ga xs gb ys=r) (n m:Nat) (hn:xs.length=n) (hm:ys.length=m) :
  Calls prog 30 #[gY ga a n capa,gY gb b m capb] w fun e w'=>e = .returned (.bool r)∧Below w.heap.size w w' :=
 H6 a b capa capb ga gb xs ys w (Nat.le_trans hx (by decide)) (Nat.le_trans hy (by decide)) hra hrb r hr n m hn hm
def jC (gen:Nat) (rows:List Nat):Bool:=rows.all fun r=>r &&& gen == 0
def dW (n:Int) (gen:Nat) (rows:List Nat):Int:=if eI n=true then (if (eF n.toNat gen rows && jC gen rows)=true then 0 else 30) else 31
theorem zV {n:Int} {gen:Nat} {rows:List Nat} {e:Int} (h:lI n gen rows=e) (he:e≠0):dW n gen rows=e:=by
 unfold lI at h
 unfold dW
 split at h
 ·rename_i hd
  rw [if_pos hd]
  split at h
  ·exact absurd h.symm he
  ·rename_i hs
   rw [if_neg (by intro x;rw [Bool.and_eq_true] at x;exact hs x.1)]
   exact h
 ·rename_i hd
  rw [if_neg hd];exact h
theorem Bw {n:Int} {gen:Nat} {rows:List Nat} (h:lI n gen rows=0):dW n gen rows=if jC gen rows=true then 0 else 30:=by
 unfold lI at h
 unfold dW
 split at h
 ·rename_i hd
  rw [if_pos hd]
  split at h
  ·rename_i hs
   rw [hs,Bool.true_and]
  ·cases h
 ·cases h
set_option maxHeartbeats 1000000 in
theorem H7 (n:Int) (a:Option Addr) (cap gen:Nat) (rows:List Nat) (w:World) (hf:FAt w a gen rows) (r:Int) (hr:dW n gen rows=r) (len:Nat) (hl:rows.length=len) :
  Calls prog 78 #[.int .i64 n,gY gen a len cap] w fun e w'=>e = .returned (.int .i64 r)∧Below w.heap.size w w':=by
 have HF:=Lib.hid hf
 have hgen:=hf.gen
 have hlen:=hf.len
 have hB0:Below w.heap.size w (w.alloc (.cells #[.int .u64 (gen:Int),.slice a len cap] 52)):=(Below.refl _ _).alloc (Nat.le_refl _) _
 have HF1:Hid (FAt (w.alloc (.cells #[.int .u64 (gen:Int),.slice a len cap] 52)) a gen rows):=hf.below hB0
 have T0:=Lib.hid (dF w (.cells #[.int .u64 (gen:Int),.slice a len cap] 52))
 have HL:=Lib.hid hl
 rw [hl] at hlen
 obtain ⟨s,hs⟩:∃ s,lI n gen rows=s:=⟨_,rfl⟩
 have HS:=Lib.hid hs
 unfold gY
 clear hf hl
 have call:∀ W,FAt W a gen rows→Calls prog 87 #[.int .i64 n,gY gen a len cap] W fun e w'=>e = .returned (.int .i64 s)∧Below W.heap.size W w':=fun W hW=>by
  have:=H5 n a cap gen rows W hW s HS.out
  rwa [HL.out] at this
 unfold gY at call
 have HCALL:=Lib.hid call
 clear call
 by_cases h0:s=0
 ·subst h0
  have HRR:Hid ((if jC gen rows=true then (0:Int) else 30)=r):=by show _=_;rw [← hr,Bw hs]
  clear hr hs
  go_enter func78,ntmps78
  go_wp2_with fail
  refine (HCALL.out _ HF1.out).mono ?_
  rintro e w1 ⟨rfl,hb1⟩
  have hB1:=hB0.trans (hb1.mono hB0.size)
  have T1:=Lib.hid (cS T0.out hb1)
  obtain ⟨c0,c1,_⟩:=cA T1.out
  have HF2:=Lib.hid (HF1.out.below hb1)
  go_wp2_with fail
  go_loopw [17] (fun i wr=>∃ k:Nat,k≤len∧i = .int .i64 k∧Hid (∀ (i:Nat) x,i < k→rows[i]?=some x→(x &&& gen == 0)=true)∧w1=wr) (fun i _=>len - (intOf i).toNat)
  case atStart=>exact ⟨0,Nat.zero_le _,rfl,fun i x h=>by omega,rfl⟩
  case round =>
   obtain ⟨k,hk,rfl,HK,rfl⟩:=hrel
   by_cases hlt:k < len
   ·obtain ⟨ba,offa,x,rfl,hx,hx64,hba,a0⟩:=HF2.out.at_ (by rw [HL.out];exact hlt)
    have g0:(0:Int)≤(k:Int):=by omega
    have g1:(k:Int) < (len:Int):=by omega
    have hax:=u64_and_nat x gen hx64 hgen
    obtain ⟨q,hq⟩:∃ q,x &&& gen=q:=⟨_,rfl⟩
    rw [hq] at hax
    by_cases hq0:q=0
    ·have HN:Hid (∀ (i:Nat) y,i < k+1→rows[i]?=some y→(y &&& gen == 0)=true):=fun i y hi hy=>by
      by_cases e:i=k
      ·subst e;rw [hx] at hy;cases hy;rw [hq,hq0];rfl
      ·exact HK.out i y (by omega) hy
     subst hq0
     clear hx hq
     go_wp2
     go_roundw
     case rel=>exact ⟨k+1,by omega,by go_num,HN,by trivial⟩
     case measure=>simp [intOf];omega
    ·have HR:Hid (30=r):=by
      show _=_
      have:jC gen rows=false:=zU (p:=fun r=>r &&& gen == 0) hx (by simp only [hq];simpa using hq0)
      rw [← HRR.out,this];rfl
     have hne:((q:Int) != 0)=true:=by simp;omega
     clear hx hq hq0
     go_wp2
     go_ret
     exact ⟨cL HR.out,hB1⟩
   ·have HR:Hid (0=r):=by
     show _=_
     have:jC gen rows=true:=vC (p:=fun r=>r &&& gen == 0) HK.out (by rw [HL.out];omega)
     rw [← HRR.out,this];rfl
    go_wp2
    go_ret
    exact ⟨cL HR.out,hB1⟩
 ·have HR:Hid (s=r):=by show _=_;rw [← hr,zV hs h0]
  have hne:(s != 0)=true:=by simpa using h0
  clear hr hs h0
  go_enter func78,ntmps78
  go_wp2_with fail
  refine (HCALL.out _ HF1.out).mono ?_
  rintro e w1 ⟨rfl,hb1⟩
  go_wp2
  go_ret
  exact ⟨cL HR.out,hB0.trans (hb1.mono hB0.size)⟩
theorem xL {r gen:Nat} (hr:r < 18446744073709551616) (hg:gen < 18446744073709551616):(andn r gen=r)↔(r &&& gen=0):=by
 constructor
 ·intro h
  apply Nat.eq_of_testBit_eq
  intro j
  have:=congrArg (fun z=>Nat.testBit z j) h
  simp only [rJ hr hg] at this
  rw [Nat.testBit_and,Nat.zero_testBit]
  cases h1:r.testBit j
  ·rfl
  ·rw [h1] at this;simp at this;rw [this];rfl
 ·intro h
  apply Nat.eq_of_testBit_eq
  intro j
  rw [rJ hr hg]
  have:=congrArg (fun z=>Nat.testBit z j) h
  simp only [Nat.testBit_and,Nat.zero_testBit] at this
  cases h1:r.testBit j
  ·rfl
  ·rw [h1] at this;simp at this;rw [this];rfl
theorem Bx {gen:Nat} {rows:List Nat} (hg:gen < 18446744073709551616) (ha:∀ r∈rows,r < 18446744073709551616):(eW gen rows == rows)=jC gen rows:=by
 rw [Bool.eq_iff_iff,beq_iff_eq]
 unfold jC eW
 rw [List.all_eq_true]
 constructor
 ·intro h x hx
  obtain ⟨i,hi⟩:=List.getElem?_of_mem hx
  have:(rows.map fun r=>andn r gen)[i]?=some x:=by rw [h];exact hi
  rw [List.getElem?_map,hi] at this
  have h2:andn x gen=x:=Option.some.inj this
  rw [(xL (ha x hx) hg).1 h2];rfl
 ·intro h
  have:∀ r∈rows,andn r gen=r:=fun r hr=>(xL (ha r hr) hg).2 (by have:=h r hr;simpa using this)
  conv=>rhs;rw [← List.map_id rows]
  exact List.map_congr_left this
set_option maxHeartbeats 2000000 in
theorem pA (n:Int) (a:Option Addr) (cap gen:Nat) (rows:List Nat) (w:World) (hf:FAt w a gen rows) (r:Int) (hr:dW n gen rows=r) (len:Nat) (hl:rows.length=len) :
  Calls prog 68 #[.int .i64 n,gY gen a len cap] w fun e w'=>e = .returned (.int .i64 r)∧Below w.heap.size w w':=by
 have HF:=Lib.hid hf
 have hgen:=hf.gen
 have hlen:=hf.len
 have hB0:Below w.heap.size w (w.alloc (.cells #[.int .u64 (gen:Int),.slice a len cap] 52)):=(Below.refl _ _).alloc (Nat.le_refl _) _
 have HF1:Hid (FAt (w.alloc (.cells #[.int .u64 (gen:Int),.slice a len cap] 52)) a gen rows):=hf.below hB0
 have T0:=Lib.hid (dF w (.cells #[.int .u64 (gen:Int),.slice a len cap] 52))
 have HL:=Lib.hid hl
 unfold gY
 cases hd:eI n
 ·have HR:Hid (31=r):=by show _=_;rw [← hr,dW,hd];rfl
  have HD:=Lib.hid hd
  clear hr hd hf hl
  go_enter func68,ntmps68
  go_wp2_with fail
  refine (sG n false HD.out _).mono ?_
  rintro e w1 ⟨rfl,rfl⟩
  go_wp2
  go_ret
  exact ⟨cL HR.out,hB0⟩
 ·have HD:=Lib.hid hd
  obtain ⟨m,rfl,hm⟩:=mU hd
  have HRR:Hid ((if (eF m gen rows && jC gen rows)=true then (0:Int) else 30)=r):=by show _=_;rw [← hr,dW,hd,if_pos rfl,Int.toNat_natCast]
  have hcs:=Bx hf.gen hf.all
  have HCS:=Lib.hid hcs
  have hcl:=lP gen rows
  obtain ⟨ys,hys⟩:∃ ys,eW gen rows=ys:=⟨_,rfl⟩
  rw [hys] at HCS hcl
  have HYS:=Lib.hid hys
  have HYL:Hid (ys.length=len):=hcl.trans hl
  have shp:∀ (W:World) (b:Bool),eF m gen rows=b→FAt W a gen rows→Calls prog 81 #[.int .i64 m,.agg #[.int .u64 (gen:Int),.slice a len cap]] W fun e w'=>e = .returned (.bool b)∧Below W.heap.size W w':=fun W b hb hW=>by
   have:=Ka m hm a cap gen rows W hW b hb
   rwa [hl] at this
  have can:∀ (W:World),FAt W a gen rows→Calls prog 73 #[.agg #[.int .u64 (gen:Int),.slice a len cap]] W (FOne gen ys W):=fun W hW=>by
   have:=sH a cap gen rows W hW ys hys
   rwa [hl] at this
  have HSHP:=Lib.hid shp;have HCAN:=Lib.hid can
  rw [hl] at hlen
  have hylen:Hid (ys.length≤100):=by show _≤_;rw [HYL.out];exact hlen
  have hrlen:Hid (rows.length≤100):=by show _≤_;rw [HL.out];exact hlen
  clear hr hd hf hl hcs hcl hys shp can
  cases hsh:eF m gen rows
  ·have HR:Hid (30=r):=by show _=_;rw [← HRR.out,hsh];rfl
   have HSH:=Lib.hid hsh
   obtain ⟨c0,c1,_⟩:=cA T0.out
   clear hsh
   go_enter func68,ntmps68
   go_wp2_with fail
   refine (sG m true HD.out _).mono ?_
   rintro e w1 ⟨rfl,rfl⟩
   go_wp2_with fail
   go_region_with (go_at_call 81;refine (HSHP.out _ false HSH.out (HF1.out.below (by first | exact Below.refl _ _ | exact (Below.refl _ _).drew))).mono ?_;rintro e w3 ⟨rfl,hb3⟩;have hB3:Below w.heap.size w w3:=hB0.trans (Below.mono (by first | exact hb3 | exact Below.trans ((Below.refl _ _).drew) hb3) hB0.size))
   all_goals
    go_wp2
    go_ret
    exact ⟨cL HR.out,hB3⟩
  ·have HSH:=Lib.hid hsh
   obtain ⟨b,hb⟩:∃ b,jC gen rows=b:=⟨_,rfl⟩
   have HSM:Hid (rK gen ys gen rows=b):=by show _=_;rw [rK,HCS.out,hb];simp
   have HR:Hid ((if b=true then (0:Int) else 30)=r):=by show _=_;rw [← HRR.out,hsh,hb];rfl
   obtain ⟨c0,c1,_⟩:=cA T0.out
   clear hsh hb
   go_enter func68,ntmps68
   go_wp2_with fail
   refine (sG m true HD.out _).mono ?_
   rintro e w1 ⟨rfl,rfl⟩
   go_wp2_with fail
   go_region_with (first | (go_at_call 81;refine (HSHP.out _ true HSH.out (HF1.out.below (by first | exact Below.refl _ _ | exact (Below.refl _ _).drew))).mono ?_;rintro e w3 ⟨rfl,hb3⟩;have hB3:Below w.heap.size w w3:=hB0.trans (Below.mono (by first | exact hb3 | exact Below.trans ((Below.refl _ _).drew) hb3) hB0.size);have HF3:=Lib.hid (HF.out.below hB3);obtain ⟨d0,d1,_⟩:=cA (cS T0.out (show Below _ _ w3 from (by first | exact hb3 | exact Below.trans ((Below.refl _ _).drew) hb3)))) | (go_at_call 73;refine (HCAN.out _ HF3.out).mono ?_;rintro e w4 ⟨a4,cap4,rfl,hr4,hf4,hb4⟩;have hB4:=hB3.trans (hb4.mono hB3.size);have HF4:=Lib.hid (HF3.out.below hb4);have HR4:=Lib.hid hr4;have k0:=(hb4.cell (p:=⟨w.heap.size,0,none⟩) (iL d0)).trans d0;have k1:=(hb4.cell (p:=⟨w.heap.size,1,none⟩) (iL d1)).trans d1) | (go_at_call 30;refine (vE a4 a cap4 cap gen gen ys rows _ hylen.out hrlen.out HR4.out HF4.out.row b HSM.out _ len rfl HL.out).mono ?_;rintro e w5 ⟨rfl,hb5⟩;have hB5:=hB4.trans (hb5.mono hB4.size)))
   all_goals
    cases b
    ·go_wp2
     go_ret
     exact ⟨cL HR.out,hB5⟩
    ·go_wp2
     go_ret
     exact ⟨cL HR.out,hB5⟩
theorem mV {k:IntKind} {a b:Int} (h:a=b):Ending.returned (.int k a) = .returned (.int k b):=by rw [h]
theorem lZ {a b:Bool} (h:a=b):Ending.returned (.bool a) = .returned (.bool b):=by rw [h]
theorem tX (f d:Nat):((f:Int) / 2 ^ d)=((f / 2 ^ d:Nat):Int):=by
 rw [Int.natCast_ediv];congr 1
def lQ (d f:Nat):Bool:=f / 2 ^ d == 0
def dL (f:Nat) (k v:Int):Bool:=if k=0 then v == 0 else if k=1 then true else if k=2 then v == 0 && f == 0 else false
def lR (d f:Nat) (k v:Int):Bool:=lQ d f && dL f k v
theorem Gp (f d:Nat):((f:Int) / 2 ^ d != 0) = !lQ d f:=by
 rw [tX];unfold lQ
 generalize f / 2 ^ d=q
 rw [Bool.eq_iff_iff,bne_iff_ne,Bool.not_eq_true',beq_eq_false_iff_ne];omega
theorem Kb {d f:Nat} (h:64≤d) (hf:f < 18446744073709551616):lQ d f=true:=by
 unfold lQ
 have e:(2:Nat) ^ 64≤2 ^ d:=Nat.pow_le_pow_right (by decide) h
 have:f < 2 ^ d:=Nat.lt_of_lt_of_le hf e
 simp [Nat.div_eq_of_lt this]
theorem xM (d f:Nat) (k v:Int) (w:World) (hf:f < 18446744073709551616) (hd:d≤64):Calls prog 89 #[.int .i64 d,.agg #[.int .u64 f,.int .i64 k,.int .i64 v]] w fun e w'=>e = .returned (.bool (lR d f k v))∧Below w.heap.size w w':=by
 cases hi:lQ d f
 ·have hlt:d < 64:=by
   rcases Nat.lt_or_ge d 64 with h | h
   ·exact h
   ·rw [Kb h hf] at hi;cases hi
  have h0:((f:Int) / 2 ^ d != 0)=true:=by rw [Gp,hi];rfl
  have H:=Lib.hid (show lR d f k v=false by simp [lR,hi])
  clear hi
  go_enter func89,ntmps89
  go_wp2
  go_ret
  exact ⟨lZ H.out.symm,(Below.refl _ _).alloc (Nat.le_refl _) _⟩
 ·have h0:((f:Int) / 2 ^ d != 0)=false:=by rw [Gp,hi];rfl
  have hc:lR d f k v=dL f k v:=by simp [lR,hi]
  rw [hc]
  clear hi hc
  by_cases hlt:d < 64
  all_goals
   by_cases k0:k=0
   ·subst k0
    have H:=Lib.hid (show dL f 0 v=(v == 0) by simp [dL])
    go_enter func89,ntmps89
    go_wp2
    go_ret
    exact ⟨lZ H.out.symm,(Below.refl _ _).alloc (Nat.le_refl _) _⟩
   by_cases k1:k=1
   ·subst k1
    have H:=Lib.hid (show dL f 1 v=true by simp [dL])
    go_enter func89,ntmps89
    go_wp2
    go_ret
    exact ⟨lZ H.out.symm,(Below.refl _ _).alloc (Nat.le_refl _) _⟩
   by_cases k2:k=2
   ·subst k2
    by_cases v0:v=0
    ·subst v0
     have H:=Lib.hid (show dL f 2 0=((f:Int) == 0) by simp [dL];rw [Bool.eq_iff_iff];simp)
     go_enter func89,ntmps89
     go_wp2
     go_ret
     exact ⟨lZ H.out.symm,(Below.refl _ _).alloc (Nat.le_refl _) _⟩
    ·have H:=Lib.hid (show dL f 2 v=false by simp [dL,v0])
     have hv:(v == 0)=false:=by simp [v0]
     clear v0
     go_enter func89,ntmps89
     go_wp2
     go_ret
     exact ⟨lZ H.out.symm,(Below.refl _ _).alloc (Nat.le_refl _) _⟩
   ·have H:=Lib.hid (show dL f k v=false by simp [dL,k0,k1,k2])
    have e0:(k == 0)=false:=by simp [k0]
    have e1:(k == 1)=false:=by simp [k1]
    have e2:(k == 2)=false:=by simp [k2]
    clear k0 k1 k2
    go_enter func89,ntmps89
    go_wp2
    go_ret
    exact ⟨lZ H.out.symm,(Below.refl _ _).alloc (Nat.le_refl _) _⟩
structure Cl where
 f:Nat
 k:Int
 v:Int
abbrev Cl.val (c:Cl):Value:=.agg #[.int .u64 (c.f:Int),.int .i64 c.k,.int .i64 c.v]
def lS (w:World) (a:Option Addr) (cs:List Cl):Prop :=
 cs=[]∨∃ b off,a=some ⟨b,off,none⟩∧∀ i c,cs[i]?=some c→w.cell? ⟨b,off+i * 3,none⟩=some (.int .u64 (c.f:Int))∧w.cell? ⟨b,off+i * 3+1,none⟩=some (.int .i64 c.k)∧w.cell? ⟨b,off+i * 3+2,none⟩=some (.int .i64 c.v)
def H8 (cs:List Cl):Prop:=∀ c,c∈cs→c.f < 18446744073709551616
theorem mW {w:World} {a:Addr} {v:Value} (h:w.cell? a=some v):a.block < w.heap.size:=by
 rcases Nat.lt_or_ge a.block w.heap.size with h' | h'
 ·exact h'
 ·simp [World.cell?,Array.getElem?_eq_none h'] at h
theorem lS.below {w w':World} {a:Option Addr} {cs:List Cl} (h:lS w a cs) (hb:Below w.heap.size w w'):lS w' a cs:=by
 rcases h with h | ⟨b,off,rfl,hc⟩
 ·exact .inl h
 ·refine .inr ⟨b,off,rfl,fun i c hi=>?_⟩
  obtain ⟨h1,h2,h3⟩:=hc i c hi
  exact ⟨(hb.cell (mW h1)).trans h1,(hb.cell (mW h2)).trans h2,(hb.cell (mW h3)).trans h3⟩
theorem lS.at_ {w:World} {a:Option Addr} {cs:List Cl} (h:lS w a cs) {k:Nat} (hk:k < cs.length) :
  ∃ b off c,a=some ⟨b,off,none⟩∧cs[k]?=some c∧b < w.heap.size∧w.cell? ⟨b,off+k * 3,none⟩=some (.int .u64 (c.f:Int))∧w.cell? ⟨b,off+k * 3+1,none⟩=some (.int .i64 c.k)∧w.cell? ⟨b,off+k * 3+2,none⟩=some (.int .i64 c.v):=by
 rcases h with h | ⟨b,off,rfl,hc⟩
 ·subst h;simp at hk
 ·have e:cs[k]?=some cs[k]:=List.getElem?_eq_getElem hk
  obtain ⟨h1,h2,h3⟩:=hc k _ e
  exact ⟨b,off,cs[k],rfl,e,mW h1,h1,h2,h3⟩
def mA (d:Nat) (c:Cl):Bool:=lR d c.f c.k c.v
def oD (d:Int) (cs:List Cl):Int:=if d < 0∨64 < d then 41 else if (cs.length:Int)≠d then 40 else if cs.all (mA d.toNat) then 0 else 40
def nU (d:Int):Int:=if d < 0∨64 < d then 41 else 0
theorem zW (d:Int) (w:World):Calls prog 88 #[.int .i64 d] w fun e w'=>e = .returned (.int .i64 (nU d))∧w=w':=by
 by_cases h0:d < 0
 ·have H:=Lib.hid (show nU d=41 by simp [nU,h0])
  go_enter func88,ntmps88
  go_wp2
  go_ret
  exact ⟨mV H.out.symm,rfl⟩
 by_cases h1:64 < d
 ·have H:=Lib.hid (show nU d=41 by simp [nU,h1])
  go_enter func88,ntmps88
  go_wp2
  go_ret
  exact ⟨mV H.out.symm,rfl⟩
 ·have H:=Lib.hid (show nU d=0 by simp [nU,h0,h1])
  go_enter func88,ntmps88
  go_wp2
  go_ret
  exact ⟨mV H.out.symm,rfl⟩
theorem jN (d:Int) (w:World) (c:Int) (hc:nU d=c):Calls prog 88 #[.int .i64 d] w fun e w'=>e = .returned (.int .i64 c)∧w=w':=by subst hc;exact zW d w
theorem mB {α:Type} {p:α→Bool} {zs:List α} {k:Nat} {z:α} (hz:zs[k]?=some z) (h:(zs.take k).all p=true) (hp:p z=true):(zs.take (k+1)).all p=true:=by
 obtain ⟨hk,e⟩:=List.getElem?_eq_some_iff.1 hz
 rw [List.take_succ_eq_append_getElem hk,List.all_append,h]
 simp [e,hp]
theorem zX {α:Type} {p:α→Bool} {zs:List α} {k:Nat} {z:α} (hz:zs[k]?=some z) (hp:p z=false):zs.all p=false:=by
 obtain ⟨hk,e⟩:=List.getElem?_eq_some_iff.1 hz
 rw [List.all_eq_false]
 exact ⟨z,by rw [← e];exact List.getElem_mem hk,by rw [hp];simp⟩
theorem By {n:Nat} {cs:List Cl} {k:Nat} {c:Cl} (hn:n≤64) (hl:cs.length=n) (hz:cs[k]?=some c) (hp:mA n c=false):oD n cs=40:=by
 unfold oD
 rw [if_neg (by omega),if_neg (by omega),Int.toNat_natCast,zX hz hp];rfl
theorem sI {n:Nat} {cs:List Cl} {k:Nat} (hn:n≤64) (hl:cs.length=n) (hk:cs.length≤k) (h:(cs.take k).all (mA n)=true):oD n cs=0:=by
 rw [List.take_of_length_le hk] at h
 unfold oD
 rw [if_neg (by omega),if_neg (by omega),Int.toNat_natCast,h];rfl
set_option maxHeartbeats 1000000 in
theorem zY (d:Int) (a:Option Addr) (cap:Nat) (cs:List Cl) (w:World) (hm:cs.length≤maxLen) (hrow:lS w a cs) (hbits:H8 cs) :
  Calls prog 79 #[.int .i64 d,.slice a cs.length cap] w fun e w'=>e = .returned (.int .i64 (oD d cs))∧Below w.heap.size w w':=by
 unfold maxLen at hm
 have HROW:=Lib.hid hrow
 have HBITS:=Lib.hid hbits
 clear hrow hbits
 by_cases hd:d < 0∨64 < d
 ·have H:=Lib.hid (show oD d cs=41 by simp [oD,hd])
  have H2:=Lib.hid (show nU d=41 by simp [nU,hd])
  clear hd
  go_enter func79,ntmps79
  go_wp2_with (go_at_call 88;refine (jN _ _ 41 H2.out).mono ?_;rintro e w' ⟨rfl,rfl⟩)
  go_ret
  exact ⟨mV H.out.symm,Below.refl _ _⟩
 obtain ⟨n,rfl⟩:∃ n:Nat,d=n:=⟨d.toNat,by omega⟩
 have hn:n≤64:=by omega
 have H2:=Lib.hid (show nU n=0 by simp [nU,hd])
 clear hd
 by_cases hl:cs.length=n
 ·have HL:=Lib.hid hl
  have hne:((cs.length:Int) != (n:Int))=false:=by simp [hl]
  have hn':cs.length≤64:=by omega
  clear hl
  go_enter func79,ntmps79
  go_wp2_with (go_at_call 88;refine (jN _ _ 0 H2.out).mono ?_;rintro e w' ⟨rfl,rfl⟩)
  go_loopw [19] (fun i wr=>∃ k:Nat,k≤cs.length∧i = .int .i64 k∧Hid ((cs.take k).all (mA n)=true)∧Below w.heap.size w wr) (fun i _=>cs.length - (intOf i).toNat)
  case atStart=>exact ⟨0,Nat.zero_le _,rfl,by simp [Hid],Below.refl _ _⟩
  case round =>
   obtain ⟨k,hk,rfl,HA,hb⟩:=hrel
   by_cases hlt:k < cs.length
   ·obtain ⟨b,off,c,rfl,hz,hblt,c0,c1,c2⟩:=(HROW.out.below hb).at_ hlt
    have hf:c.f < 18446744073709551616:=HBITS.out c (List.mem_of_getElem? hz)
    have HZ:=Lib.hid hz
    clear hz
    cases hok:mA n c
    ·have H:=Lib.hid (By hn HL.out HZ.out hok)
     have HOK:Hid (lR n c.f c.k c.v=false):=hok
     clear hok
     go_wp2_with (go_at_call 89;refine (xM n c.f c.k c.v _ hf hn).mono ?_;rintro e w3 ⟨rfl,hb3⟩;rw [HOK.out])
     go_ret
     exact ⟨mV H.out.symm,(hb.alloc hb.size _).trans (hb3.mono (by have:=hb.size;simp;omega))⟩
    ·have H:=Lib.hid (mB HZ.out HA.out hok)
     have HOK:Hid (lR n c.f c.k c.v=true):=hok
     clear hok
     go_wp2_with (go_at_call 89;refine (xM n c.f c.k c.v _ hf hn).mono ?_;rintro e w3 ⟨rfl,hb3⟩;rw [HOK.out])
     go_roundw
     case rel=>exact ⟨k+1,by omega,by go_num,H,(hb.alloc hb.size _).trans (hb3.mono (by have:=hb.size;simp;omega))⟩
     case measure=>simp [intOf];omega
   ·have H:=Lib.hid (sI hn HL.out (by omega) HA.out)
    go_wp2
    go_ret
    exact ⟨mV H.out.symm,hb⟩
 ·have H:=Lib.hid (show oD n cs=40 by simp [oD];omega)
  have hne:((cs.length:Int) != (n:Int))=true:=by simp;omega
  clear hl
  go_enter func79,ntmps79
  go_wp2_with (go_at_call 88;refine (jN _ _ 0 H2.out).mono ?_;rintro e w' ⟨rfl,rfl⟩)
  go_ret
  exact ⟨mV H.out.symm,Below.refl _ _⟩
structure SF where
 tag:Int
 dim:Int
 a:Option Addr
 len:Nat
 cap:Nat
abbrev SF.val (f:SF):Value:=.agg #[.int .i64 f.tag,.int .i64 f.dim,.slice f.a f.len f.cap]
inductive SV where
 | mk (f:SF) (ps:List SV)
def SV.f:SV→SF | .mk f _=>f
def SV.ps:SV→List SV | .mk _ ps=>ps
def S3 (w:World) (b o:Nat) (f:SF):Prop:=w.cell? ⟨b,o,none⟩=some (.int .i64 f.tag)∧w.cell? ⟨b,o+1,none⟩=some (.int .i64 f.dim)∧w.cell? ⟨b,o+2,none⟩=some (.slice f.a f.len f.cap)
def Bz (w:World) (a:Option Addr) (ps:List SV):Prop :=
 ps=[]∨∃ b off,a=some ⟨b,off,none⟩∧∀ (i:Nat) p,ps[i]?=some p→S3 w b (off+i * 3) p.f
def SIn (w:World):Nat→SV→Prop
 | 0,_=>False
 | d+1,.mk f ps=>ps.length=f.len∧Bz w f.a ps∧∀ p∈ps,SIn w d p
theorem iN {w w':World} {p:Addr} {v:Value} (h:w.cell? p=some v) (hb:Below w.heap.size w w'):w'.cell? p=some v:=(hb.cell (iL h)).trans h
theorem S3.below {w w':World} {b o:Nat} {f:SF} (h:S3 w b o f) (hb:Below w.heap.size w w'):S3 w' b o f:=⟨iN h.1 hb,iN h.2.1 hb,iN h.2.2 hb⟩
theorem Bz.below {w w':World} {a:Option Addr} {ps:List SV} (h:Bz w a ps) (hb:Below w.heap.size w w'):Bz w' a ps:=by
 rcases h with h | ⟨b,off,rfl,hc⟩
 ·exact .inl h
 ·exact .inr ⟨b,off,rfl,fun i p hi=>(hc i p hi).below hb⟩
theorem SIn.below {w w':World} (hb:Below w.heap.size w w'):∀ {d:Nat} {s:SV},SIn w d s→SIn w' d s
 | 0,_,h=>h.elim
 | d+1,.mk f ps,⟨h1,h2,h3⟩=>⟨h1,h2.below hb,fun p hp=>SIn.below hb (h3 p hp)⟩
theorem Bz.at_ {w:World} {a:Option Addr} {ps:List SV} (h:Bz w a ps) {i:Nat} {p:SV} (hi:ps[i]?=some p):∃ b off,a=some ⟨b,off,none⟩∧b < w.heap.size∧S3 w b (off+i * 3) p.f:=by
 rcases h with rfl | ⟨b,off,ha,hc⟩
 ·simp at hi
 ·exact ⟨b,off,ha,iL (hc i p hi).1,hc i p hi⟩
structure WF where
 z:Bool
 c:Int
 g:Nat
 ra:Option Addr
 rl:Nat
 rc:Nat
 rows:List Nat
 ca:Option Addr
 cl:Nat
 cc:Nat
 cells:List Cl
 pa:Option Addr
 pl:Nat
 pc:Nat
abbrev WF.val (f:WF):Value:=.agg #[.bool f.z,.int .i64 f.c,.int .u64 (f.g:Int),.slice f.ra f.rl f.rc,.slice f.ca f.cl f.cc,.slice f.pa f.pl f.pc]
abbrev WF.six (f:WF):List Value:=[.bool f.z,.int .i64 f.c,.int .u64 (f.g:Int),.slice f.ra f.rl f.rc,.slice f.ca f.cl f.cc,.slice f.pa f.pl f.pc]
structure WF.At (w:World) (f:WF):Prop where
 rows:gQ w f.ra (dT f.rows)
 rl:f.rows.length=f.rl
 g64:f.g < 18446744073709551616
 r64:∀ r∈f.rows,r < 18446744073709551616
 cells:lS w f.ca f.cells
 cl:f.cells.length=f.cl
 bits:H8 f.cells
 cmax:f.cl≤maxLen
theorem WF.At.below {w w':World} {f:WF} (h:f.At w) (hb:Below w.heap.size w w'):f.At w':=⟨h.rows.below hb,h.rl,h.g64,h.r64,h.cells.below hb,h.cl,h.bits,h.cmax⟩
inductive WV where
 | mk (f:WF) (ps:List WV)
def WV.f:WV→WF | .mk f _=>f
def WV.ps:WV→List WV | .mk _ ps=>ps
def W6 (w:World) (b o:Nat) (f:WF):Prop:=w.cell? ⟨b,o,none⟩=some (.bool f.z)∧w.cell? ⟨b,o+1,none⟩=some (.int .i64 f.c)∧w.cell? ⟨b,o+2,none⟩=some (.int .u64 (f.g:Int))∧w.cell? ⟨b,o+3,none⟩=some (.slice f.ra f.rl f.rc)∧w.cell? ⟨b,o+4,none⟩=some (.slice f.ca f.cl f.cc)∧w.cell? ⟨b,o+5,none⟩=some (.slice f.pa f.pl f.pc)
def PRow (w:World) (a:Option Addr) (ps:List WV):Prop :=
 ps=[]∨∃ b off,a=some ⟨b,off,none⟩∧∀ (i:Nat) p,ps[i]?=some p→W6 w b (off+i * 6) p.f
def WIn (w:World):Nat→WV→Prop
 | 0,_=>False
 | d+1,.mk f ps=>f.At w∧ps.length=f.pl∧PRow w f.pa ps∧∀ p∈ps,WIn w d p
theorem W6.below {w w':World} {b o:Nat} {f:WF} (h:W6 w b o f) (hb:Below w.heap.size w w'):W6 w' b o f:=⟨iN h.1 hb,iN h.2.1 hb,iN h.2.2.1 hb,iN h.2.2.2.1 hb,iN h.2.2.2.2.1 hb,iN h.2.2.2.2.2 hb⟩
theorem PRow.below {w w':World} {a:Option Addr} {ps:List WV} (h:PRow w a ps) (hb:Below w.heap.size w w'):PRow w' a ps:=by
 rcases h with h | ⟨b,off,rfl,hc⟩
 ·exact .inl h
 ·exact .inr ⟨b,off,rfl,fun i p hi=>(hc i p hi).below hb⟩
theorem WIn.below {w w':World} (hb:Below w.heap.size w w'):∀ {d:Nat} {s:WV},WIn w d s→WIn w' d s
 | 0,_,h=>h.elim
 | d+1,.mk f ps,⟨h0,h1,h2,h3⟩=>⟨h0.below hb,h1,h2.below hb,fun p hp=>WIn.below hb (h3 p hp)⟩
def bS (t n:Int) (l:Nat):Bool:=decide (l=0) && (if t=1 then decide (n=0) else if t=2 then decide (0≤n) && decide (n≤1048576) else if t=3∨t=4 then decide (0≤n) && decide (n≤64) else false)
theorem xB (w:World) (v:Array Value) (T:TypeId):Below w.heap.size w (w.alloc (.cells v T)):=(Below.refl _ _).alloc (Nat.le_refl _) _
set_option maxHeartbeats 2000000 in
theorem iO (t n:Int) (a:Option Addr) (l c:Nat) (r:Bool) (hr:bS t n l=r) (w:World) :
  Calls prog 52 #[.agg #[.int .i64 t,.int .i64 n,.slice a l c]] w fun e w'=>e = .returned (.bool r)∧Below w.heap.size w w':=by
 have hB:=Lib.hid (xB w #[.int .i64 t,.int .i64 n,.slice a l c] 25)
 by_cases ht:t=1∨t=2∨t=3∨t=4
 ·by_cases hl:l=0
  ·subst hl
   by_cases h0:0≤n
   ·rcases ht with rfl | rfl | rfl | rfl
    ·by_cases hm:n≤0
     ·obtain rfl:n=0:=by omega
      have HR:Hid (true=r):=by show _=_;rw [← hr];simp [bS]
      clear hr
      go_enter func52,ntmps52
      go_wp2
      go_ret
      exact ⟨bR HR.out,hB.out⟩
     ·have HR:Hid (false=r):=by show _=_;rw [← hr];simp [bS];omega
      clear hr
      go_enter func52,ntmps52
      go_wp2
      go_ret
      exact ⟨bR HR.out,hB.out⟩
    ·by_cases hm:n≤1048576
     ·have HR:Hid (true=r):=by show _=_;rw [← hr];simp [bS,h0,hm]
      clear hr
      go_enter func52,ntmps52
      go_wp2
      go_ret
      exact ⟨bR HR.out,hB.out⟩
     ·have HR:Hid (false=r):=by show _=_;rw [← hr];simp [bS,hm]
      clear hr
      go_enter func52,ntmps52
      go_wp2
      go_ret
      exact ⟨bR HR.out,hB.out⟩
    all_goals
     by_cases hm:n≤64
     ·have HR:Hid (true=r):=by show _=_;rw [← hr];simp [bS,h0,hm]
      clear hr
      go_enter func52,ntmps52
      go_wp2
      go_ret
      exact ⟨bR HR.out,hB.out⟩
     ·have HR:Hid (false=r):=by show _=_;rw [← hr];simp [bS,hm]
      clear hr
      go_enter func52,ntmps52
      go_wp2
      go_ret
      exact ⟨bR HR.out,hB.out⟩
   ·have HR:Hid (false=r):=by show _=_;rw [← hr];rcases ht with rfl | rfl | rfl | rfl<;>simp [bS]<;>omega
    clear hr
    rcases ht with rfl | rfl | rfl | rfl
    all_goals
     go_enter func52,ntmps52
     go_wp2
     go_ret
     exact ⟨bR HR.out,hB.out⟩
  ·have HR:Hid (false=r):=by show _=_;rw [← hr];simp [bS,hl]
   have hl2:((l:Int) == 0)=false:=by simp;omega
   clear hr
   rcases ht with rfl | rfl | rfl | rfl
   all_goals
    go_enter func52,ntmps52
    go_wp2
    go_ret
    exact ⟨bR HR.out,hB.out⟩
 ·have HR:Hid (false=r):=by show _=_;rw [← hr];simp only [not_or] at ht;simp [bS,ht]
  have e1:(t == 1)=false:=by simp;omega
  have e2:(t == 2)=false:=by simp;omega
  have e3:(t == 3)=false:=by simp;omega
  have e4:(t == 4)=false:=by simp;omega
  clear hr ht
  go_enter func52,ntmps52
  go_wp2
  go_ret
  exact ⟨bR HR.out,hB.out⟩
def SV.pl (s:SV):Bool:=bS s.f.tag s.f.dim s.f.len
def dD:SV→Int
 | .mk f ps=>if bS f.tag f.dim f.len=true then 0 else if f.tag=5∧f.dim=0∧ps.length=2∧ps.all SV.pl=true then 0 else 50
theorem gZ {w:World} {B:Nat} {cs:Array Value} {T:TypeId} (h:w.heap[B]?=some (.cells cs T (0,0))) {j:Nat} {v:Value} (hj:cs[j]?=some v):w.cell? ⟨B,j,none⟩=some v:=by
 unfold World.cell?;simp only [h];exact hj
theorem fG {w:World} {B:Nat} {a b c:Value} {T:TypeId} (h:w.heap[B]?=some (.cells #[a,b,c] T (0,0))):w.cell? ⟨B,0,none⟩=some a∧w.cell? ⟨B,1,none⟩=some b∧w.cell? ⟨B,2,none⟩=some c:=⟨gZ h rfl,gZ h rfl,gZ h rfl⟩
theorem kD {w:World} {B:Nat} {a b c d e f:Value} {T:TypeId} (h:w.heap[B]?=some (.cells #[a,b,c,d,e,f] T (0,0))):w.cell? ⟨B,0,none⟩=some a∧w.cell? ⟨B,1,none⟩=some b∧w.cell? ⟨B,2,none⟩=some c∧w.cell? ⟨B,3,none⟩=some d∧w.cell? ⟨B,4,none⟩=some e∧w.cell? ⟨B,5,none⟩=some f:=⟨gZ h rfl,gZ h rfl,gZ h rfl,gZ h rfl,gZ h rfl,gZ h rfl⟩
theorem SIn.two {w:World} {d:Nat} {f:SF} {p q:SV} (h:SIn w (d+1) (.mk f [p,q])):f.len=2∧∃ b off,f.a=some ⟨b,off,none⟩∧b < w.heap.size∧S3 w b off p.f∧S3 w b (off+3) q.f∧SIn w d p∧SIn w d q:=by
 obtain ⟨h1,h2,h3⟩:=h
 refine ⟨h1.symm,?_⟩
 rcases h2 with h2 | ⟨b,off,ha,hc⟩
 ·cases h2
 ·have c0:=hc 0 p rfl
  have c1:=hc 1 q rfl
  simp only [Nat.zero_mul,Nat.add_zero,Nat.one_mul] at c0 c1
  exact ⟨b,off,ha,iL c0.1,c0,c1,h3 p (by simp),h3 q (by simp)⟩
theorem qJ {α:Type} {l:List α} (h:l.length=2):∃ p q,l=[p,q]:=by
 match l,h with
 | [p,q],_=>exact ⟨p,q,rfl⟩
set_option maxHeartbeats 2000000 in
theorem sJ (d:Nat) (s:SV) (e0:Int) (w:World) (hs:SIn w d s) (he:dD s=e0) :
  Calls prog 34 #[s.f.val] w fun e w'=>e = .returned (.int .i64 e0)∧Below w.heap.size w w':=by
 match d,s,hs with
 | d+1,.mk ⟨t,n,a,l,c⟩ ps,hs =>
 show Calls prog 34 #[.agg #[.int .i64 t,.int .i64 n,.slice a l c]] w _
 have hl:ps.length=l:=hs.1
 have hB:=Lib.hid (xB w #[.int .i64 t,.int .i64 n,.slice a l c] 25)
 have BX:=Lib.hid (dF w (.cells #[.int .i64 t,.int .i64 n,.slice a l c] 25))
 obtain ⟨r,hr⟩:∃ r,bS t n l=r:=⟨_,rfl⟩
 have HR:=Lib.hid hr
 cases r
 ·by_cases ht:t=5
  ·subst ht
   by_cases hn:n=0
   ·subst hn
    by_cases hl2:l=2
    ·subst hl2
     obtain ⟨p,q,rfl⟩:=qJ hl
     obtain ⟨_,b,off,ha,hb,hp,hq,_,_⟩:=hs.two
     obtain rfl:a=some ⟨b,off,none⟩:=ha
     obtain ⟨⟨pt,pn,pa,pl,pc⟩,pps⟩:=p
     obtain ⟨⟨qt,qn,qa,ql,qc⟩,qps⟩:=q
     have HP:=Lib.hid hp;have HQ:=Lib.hid hq
     obtain ⟨r1,hr1⟩:∃ r,bS pt pn pl=r:=⟨_,rfl⟩
     obtain ⟨r2,hr2⟩:∃ r,bS qt qn ql=r:=⟨_,rfl⟩
     have HR1:=Lib.hid hr1;have HR2:=Lib.hid hr2
     have HE:Hid ((if r1=true∧r2=true then (0:Int) else 50)=e0):=by
      show _=_
      rw [← he];simp [dD,hr,SV.pl,SV.f,hr1,hr2]
     clear hr hs hl hp hq hr1 hr2 he
     cases r1
     ·have HE2:Hid ((50:Int)=e0):=by show _=_;rw [← HE.out];simp
      clear HE
      go_enter func34,ntmps34
      go_wp2_with fail
      refine (iO 5 0 _ 2 c false HR.out _).mono ?_
      rintro e w1 ⟨rfl,hb1⟩
      obtain ⟨x0,x1,x2⟩:=fG (cS BX.out hb1)
      obtain ⟨y0,y1,y2⟩:=(HP.out.below hB.out).below hb1
      dsimp only [SV.f] at y0 y1 y2
      go_wp2_with fail
      refine (iO pt pn _ pl pc false HR1.out _).mono ?_
      rintro e w2 ⟨rfl,hb2⟩
      go_wp2
      go_ret
      exact ⟨cL HE2.out,(hB.out.trans (hb1.mono hB.out.size)).trans (hb2.mono (hB.out.trans (hb1.mono hB.out.size)).size)⟩
     ·have HE2:Hid ((if r2=true then (0:Int) else 50)=e0):=by show _=_;rw [← HE.out];simp
      clear HE
      go_enter func34,ntmps34
      go_wp2_with fail
      refine (iO 5 0 _ 2 c false HR.out _).mono ?_
      rintro e w1 ⟨rfl,hb1⟩
      have hB1:=hB.out.trans (hb1.mono hB.out.size)
      obtain ⟨x0,x1,x2⟩:=fG (cS BX.out hb1)
      obtain ⟨y0,y1,y2⟩:=(HP.out.below hB.out).below hb1
      dsimp only [SV.f] at y0 y1 y2
      go_wp2_with fail
      refine (iO pt pn _ pl pc true HR1.out _).mono ?_
      rintro e w2 ⟨rfl,hb2⟩
      have hB2:=hB1.trans (hb2.mono hB1.size)
      clear x0 x1 x2 y0 y1 y2
      obtain ⟨x0,x1,x2⟩:=fG (cS (cS BX.out hb1) hb2)
      obtain ⟨y0,y1,y2⟩:=((HQ.out.below hB.out).below hb1).below hb2
      dsimp only [SV.f] at y0 y1 y2
      simp only [Nat.add_assoc,Nat.reduceAdd] at y1 y2
      go_wp2_with fail
      refine (iO qt qn _ ql qc r2 HR2.out _).mono ?_
      rintro e w3 ⟨rfl,hb3⟩
      have hB3:=hB2.trans (hb3.mono hB2.size)
      cases r2
      all_goals
       go_wp2
       go_ret
       exact ⟨cL HE2.out,hB3⟩
    ·have HE:Hid ((50:Int)=e0):=by
      show _=_
      rw [← he];simp [dD,hr,hl,hl2]
     have hl3:((l:Int) == 2)=false:=by simp;omega
     clear hr hs hl he hl2
     go_enter func34,ntmps34
     go_wp2_with fail
     refine (iO 5 0 a l c false HR.out _).mono ?_
     rintro e w1 ⟨rfl,hb1⟩
     obtain ⟨x0,x1,x2⟩:=fG (cS BX.out hb1)
     go_wp2
     go_ret
     exact ⟨cL HE.out,hB.out.trans (hb1.mono hB.out.size)⟩
   ·have HE:Hid ((50:Int)=e0):=by show _=_;rw [← he];simp [dD,hr,hn]
    have hn3:(n == 0)=false:=by simp [hn]
    clear hr hs hl he hn
    go_enter func34,ntmps34
    go_wp2_with fail
    refine (iO 5 n a l c false HR.out _).mono ?_
    rintro e w1 ⟨rfl,hb1⟩
    obtain ⟨x0,x1,x2⟩:=fG (cS BX.out hb1)
    go_wp2
    go_ret
    exact ⟨cL HE.out,hB.out.trans (hb1.mono hB.out.size)⟩
  ·have HE:Hid ((50:Int)=e0):=by show _=_;rw [← he];simp [dD,hr,ht]
   have hn3:(t == 5)=false:=by simp [ht]
   clear hr hs hl he ht
   go_enter func34,ntmps34
   go_wp2_with fail
   refine (iO t n a l c false HR.out _).mono ?_
   rintro e w1 ⟨rfl,hb1⟩
   obtain ⟨x0,x1,x2⟩:=fG (cS BX.out hb1)
   go_wp2
   go_ret
   exact ⟨cL HE.out,hB.out.trans (hb1.mono hB.out.size)⟩
 ·have HE:Hid ((0:Int)=e0):=by show _=_;rw [← he];simp [dD,hr]
  clear hr hs hl he
  go_enter func34,ntmps34
  go_wp2_with fail
  refine (iO t n a l c true HR.out _).mono ?_
  rintro e w1 ⟨rfl,hb1⟩
  go_wp2
  go_ret
  exact ⟨cL HE.out,hB.out.trans (hb1.mono hB.out.size)⟩
theorem Ca {f:SF} {ps:List SV} (h:f.tag≠5):dD (.mk f ps)=if bS f.tag f.dim f.len=true then 0 else 50:=by simp [dD,h]
set_option maxHeartbeats 2000000 in
theorem oE (t n:Int) (a:Option Addr) (l c:Nat) (ht:t≠5) (r:Bool) (hr:bS t n l=r) (w:World) :
  Calls prog 40 #[.agg #[.int .i64 t,.int .i64 n,.slice a l c]] w fun e w'=>e = .returned (.int .i64 (if r=true then 0 else 50))∧Below w.heap.size w w':=by
 have hB:=Lib.hid (xB w #[.int .i64 t,.int .i64 n,.slice a l c] 25)
 have e5:(t == 5)=false:=by simp [ht]
 by_cases ht2:t=1∨t=2∨t=3∨t=4
 ·by_cases hl:l=0
  ·subst hl
   by_cases h0:0≤n
   ·rcases ht2 with rfl | rfl | rfl | rfl
    ·by_cases hm:n=0
     ·subst hm
      obtain rfl:true=r:=by rw [← hr];simp [bS]
      clear hr
      go_enter func40,ntmps40
      go_wp2_with fail
      go_ret
      exact ⟨by simp,hB.out⟩
     ·obtain rfl:false=r:=by rw [← hr];simp [bS];omega
      have hm2:(n == 0)=false:=by simp [hm]
      clear hr
      go_enter func40,ntmps40
      go_wp2_with fail
      go_ret
      exact ⟨by simp,hB.out⟩
    ·by_cases hm:n≤1048576
     ·obtain rfl:true=r:=by rw [← hr];simp [bS,h0,hm]
      clear hr
      go_enter func40,ntmps40
      go_wp2_with fail
      go_ret
      exact ⟨by simp,hB.out⟩
     ·obtain rfl:false=r:=by rw [← hr];simp [bS,hm]
      clear hr
      go_enter func40,ntmps40
      go_wp2_with fail
      go_ret
      exact ⟨by simp,hB.out⟩
    all_goals
     by_cases hm:n≤64
     ·obtain rfl:true=r:=by rw [← hr];simp [bS,h0,hm]
      clear hr
      go_enter func40,ntmps40
      go_wp2_with fail
      go_ret
      exact ⟨by simp,hB.out⟩
     ·obtain rfl:false=r:=by rw [← hr];simp [bS,hm]
      clear hr
      go_enter func40,ntmps40
      go_wp2_with fail
      go_ret
      exact ⟨by simp,hB.out⟩
   ·obtain rfl:false=r:=by rw [← hr];rcases ht2 with rfl | rfl | rfl | rfl<;>simp [bS]<;>omega
    have hn0:(n == 0)=false:=by simp;omega
    clear hr
    rcases ht2 with rfl | rfl | rfl | rfl
    all_goals
     go_enter func40,ntmps40
     go_wp2_with fail
     go_ret
     exact ⟨by simp,hB.out⟩
  ·obtain rfl:false=r:=by rw [← hr];simp [bS,hl]
   have hl2:((l:Int) == 0)=false:=by simp;omega
   clear hr
   rcases ht2 with rfl | rfl | rfl | rfl
   ·by_cases hm:n=0
    ·subst hm
     go_enter func40,ntmps40
     go_wp2_with fail
     go_ret
     exact ⟨by simp,hB.out⟩
    ·have hm2:(n == 0)=false:=by simp [hm]
     go_enter func40,ntmps40
     go_wp2_with fail
     go_ret
     exact ⟨by simp,hB.out⟩
   all_goals
    by_cases h0:0≤n
    ·by_cases hm:n≤64
     ·have hm3:n≤1048576:=by omega
      go_enter func40,ntmps40
      go_wp2_with fail
      go_ret
      exact ⟨by simp,hB.out⟩
     ·by_cases hm3:n≤1048576
      all_goals
       go_enter func40,ntmps40
       go_wp2_with fail
       go_ret
       exact ⟨by simp,hB.out⟩
    ·go_enter func40,ntmps40
     go_wp2_with fail
     go_ret
     exact ⟨by simp,hB.out⟩
 ·obtain rfl:false=r:=by rw [← hr];simp only [not_or] at ht2;simp [bS,ht2]
  have e1:(t == 1)=false:=by simp;omega
  have e2:(t == 2)=false:=by simp;omega
  have e3:(t == 3)=false:=by simp;omega
  have e4:(t == 4)=false:=by simp;omega
  clear hr ht2 ht
  go_enter func40,ntmps40
  go_wp2_with fail
  go_ret
  exact ⟨by simp,hB.out⟩
def hC (cost facts cells parts:Bool) (f:WF):Bool:=(cost || decide (f.c=0)) && ((facts || (decide (f.g=0) && decide (f.rl=0))) && ((cells || decide (f.cl=0)) && (parts || decide (f.pl=0))))
def hH (t:Int) (f:WF):Bool:=hC (!f.z && decide (t=2)) (!f.z && decide (t=3)) (!f.z && decide (t=4)) (!f.z && decide (t=5)) f
theorem Kc (w:World) (a b:Array Value) (S T:TypeId):Below w.heap.size w ((w.alloc (.cells a S)).alloc (.cells b T)):=((Below.refl _ _).alloc (Nat.le_refl _) _).alloc (by simp) _
theorem mX (w:World) (a b:Array Value) (S T:TypeId):((w.alloc (.cells a S)).alloc (.cells b T)).heap[w.heap.size]?=some (.cells a S (0,0))∧((w.alloc (.cells a S)).alloc (.cells b T)).heap[w.heap.size+1]?=some (.cells b T (0,0)):=by
 refine ⟨cO (dF w _) _,?_⟩
 have:=dF (w.alloc (.cells a S)) (.cells b T)
 rwa [World.size_alloc] at this
theorem dN (n:Nat):((n:Int) == 0)=decide (n=0):=by
 rw [Bool.eq_iff_iff];simp
theorem pB (n:Int):(n == 0)=decide (n=0):=by
 rw [Bool.eq_iff_iff];simp
theorem Gq (t n:Int) (a:Option Addr) (l c0:Nat) (f:WF) (r:Bool) (hr:hH t f=r) (w:World) :
  Calls prog 77 #[.agg #[.int .i64 t,.int .i64 n,.slice a l c0],f.val] w fun e w'=>e = .returned (.bool r)∧Below w.heap.size w w':=by
 obtain ⟨z,c,g,ra,rl,rc,rows,ca,cl,cc,cells,pa,pl,pc⟩:=f
 show Calls prog 77 #[.agg #[.int .i64 t,.int .i64 n,.slice a l c0],.agg #[.bool z,.int .i64 c,.int .u64 (g:Int),.slice ra rl rc,.slice ca cl cc,.slice pa pl pc]] w _
 have hB:=Lib.hid (Kc w #[.int .i64 t,.int .i64 n,.slice a l c0] #[.bool z,.int .i64 c,.int .u64 (g:Int),.slice ra rl rc,.slice ca cl cc,.slice pa pl pc] 25 56)
 obtain ⟨t0,t1⟩:=mX w #[.int .i64 t,.int .i64 n,.slice a l c0] #[.bool z,.int .i64 c,.int .u64 (g:Int),.slice ra rl rc,.slice ca cl cc,.slice pa pl pc] 25 56
 obtain ⟨x0,x1,x2⟩:=fG t0
 obtain ⟨y0,y1,y2,y3,y4,y5⟩:=kD t1
 obtain ⟨W0,hW0⟩:∃ W,(w.alloc (.cells #[.int .i64 t,.int .i64 n,.slice a l c0] 25)).alloc (.cells #[.bool z,.int .i64 c,.int .u64 (g:Int),.slice ra rl rc,.slice ca cl cc,.slice pa pl pc] 56)=W:=⟨_,rfl⟩
 rw [hW0] at hB x0 x1 x2 y0 y1 y2 y3 y4 y5
 obtain ⟨b1,h1⟩:∃ b,(c == 0)=b:=⟨_,rfl⟩
 obtain ⟨b2,h2⟩:∃ b,(decide (g=0) && decide (rl=0))=b:=⟨_,rfl⟩
 obtain ⟨b3,h3⟩:∃ b,((cl:Int) == 0)=b:=⟨_,rfl⟩
 obtain ⟨b4,h4⟩:∃ b,((pl:Int) == 0)=b:=⟨_,rfl⟩
 have H2:=Lib.hid h2
 have HR:Hid ((((!z && decide (t=2)) || b1) && (((!z && decide (t=3)) || b2) && (((!z && decide (t=4)) || b3) && ((!z && decide (t=5)) || b4))))=r):=by
  show _=_
  rw [← hr,← h1,← h2,← h3,← h4,dN,dN,pB];rfl
 clear hr t0 t1 h2
 have hg:((g:Int) == 0)=decide (g=0):=dN g
 have hrl:((rl:Int) == 0)=decide (rl=0):=dN rl
 have HZ:∀ (b:Bool),b2=b→Hid (b2=b):=fun _ h=>h
 have h2:=H2.out
 have ht:t=2∨t=3∨t=4∨t=5∨((t == 2)=false∧(t == 3)=false∧(t == 4)=false∧(t == 5)=false∧decide (t=2)=false∧decide (t=3)=false∧decide (t=4)=false∧decide (t=5)=false):=by
  by_cases e2:t=2
  ·exact .inl e2
  by_cases e3:t=3
  ·exact .inr (.inl e3)
  by_cases e4:t=4
  ·exact .inr (.inr (.inl e4))
  by_cases e5:t=5
  ·exact .inr (.inr (.inr (.inl e5)))
  ·exact .inr (.inr (.inr (.inr ⟨by simp [e2],by simp [e3],by simp [e4],by simp [e5],by simp [e2],by simp [e3],by simp [e4],by simp [e5]⟩)))
 have HTT:=Lib.hid ht
 clear ht
 by_cases hg0:g=0
 ·have hg1:((g:Int) == 0)=true:=by simp [hg0]
  have h2':(decide (rl=0))=b2:=by simpa [hg0] using h2
  rw [h2'] at hrl
  clear h2 h2' hg HZ hg0
  cases z
  ·rcases HTT.out with rfl | rfl | rfl | rfl | ⟨e2,e3,e4,e5,d2,d3,d4,d5⟩
   case inr.inr.inr.inr =>
    have D:=Lib.hid (And.intro d2 (And.intro d3 (And.intro d4 d5)))
    clear d2 d3 d4 d5
    go_enter func77,ntmps77
    go_upto_region 15 with fail
    clear h1 h3 h4 hrl
    cases b1<;>cases b2<;>cases b3<;>cases b4<;>(go_wp2;go_ret;exact ⟨bR (by rw [← HR.out,D.out.1,D.out.2.1,D.out.2.2.1,D.out.2.2.2];rfl),hB.out⟩)
   all_goals
    go_enter func77,ntmps77
    go_upto_region 15 with fail
    clear h1 h3 h4 hrl
    cases b1<;>cases b2<;>cases b3<;>cases b4<;>(go_wp2;go_ret;exact ⟨bR (by rw [← HR.out];rfl),hB.out⟩)
  ·go_enter func77,ntmps77
   go_upto_region 15 with fail
   clear h1 h3 h4 hrl
   cases b1<;>cases b2<;>cases b3<;>cases b4<;>(go_wp2;go_ret;exact ⟨bR (by rw [← HR.out];rfl),hB.out⟩)
 ·have hg1:((g:Int) == 0)=false:=by simp [hg0]
  obtain rfl:b2=false:=by rw [← h2];simp [hg0]
  clear h2 hg HZ hrl hg0
  cases z
  ·rcases HTT.out with rfl | rfl | rfl | rfl | ⟨e2,e3,e4,e5,d2,d3,d4,d5⟩
   case inr.inr.inr.inr =>
    have D:=Lib.hid (And.intro d2 (And.intro d3 (And.intro d4 d5)))
    clear d2 d3 d4 d5
    go_enter func77,ntmps77
    go_upto_region 15 with fail
    clear h1 h3 h4 hg1
    cases b1<;>cases b3<;>cases b4<;>(go_wp2;go_ret;exact ⟨bR (by rw [← HR.out,D.out.1,D.out.2.1,D.out.2.2.1,D.out.2.2.2];rfl),hB.out⟩)
   all_goals
    go_enter func77,ntmps77
    go_upto_region 15 with fail
    clear h1 h3 h4 hg1
    cases b1<;>cases b3<;>cases b4<;>(go_wp2;go_ret;exact ⟨bR (by rw [← HR.out];rfl),hB.out⟩)
  ·go_enter func77,ntmps77
   go_upto_region 15 with fail
   clear h1 h3 h4 hg1
   cases b1<;>cases b3<;>cases b4<;>(go_wp2;go_ret;exact ⟨bR (by rw [← HR.out];rfl),hB.out⟩)
def Cl.ok (c:Cl):Prop:=c.f < 18446744073709551616∧dL c.f c.k c.v=true
def joinK (k v k2 v2:Int):Int:=if k=0 then k2 else if k2=0 then k else if k=1∧k2=1∧v=v2 then 1 else 2
def iP (k v k2 v2:Int):Int:=if k=0 then v2 else if k2=0 then v else if k=1∧k2=1∧v=v2 then v else 0
def join (a b:Cl):Cl:=⟨if joinK a.k a.v b.k b.v=2 then 0 else a.f ||| b.f,joinK a.k a.v b.k b.v,iP a.k a.v b.k b.v⟩
theorem mY {f:Nat} {k v:Int} (h:dL f k v=true):(k=0∧v=0)∨k=1∨(k=2∧v=0):=by
 unfold dL at h
 split at h
 ·left;simp at h;exact ⟨by assumption,h⟩
 ·split at h
  ·right;left;assumption
  ·split at h
   ·right;right;simp at h;exact ⟨by assumption,h.1⟩
   ·cases h
theorem or_cast (a b:Nat) (ha:a < 18446744073709551616) (hb:b < 18446744073709551616):bits .or .u64 (a:Int) (b:Int)=((a ||| b:Nat):Int):=bits_or_u64_nat a b ha hb
def Cb (a b:Cl) (w:World) (e:Ending) (w':World):Prop:=e = .returned (join a b).val∧Below w.heap.size w w'
theorem jI {f f2:Nat} {k v k2 v2:Int} {F K V:Int} {w:World} (hF:F=((if joinK k v k2 v2=2 then 0 else f ||| f2:Nat):Int)) (hK:K=joinK k v k2 v2) (hV:V=iP k v k2 v2) :
  ∀ e w',(e=Ending.returned (.agg #[.int .u64 F,.int .i64 K,.int .i64 V])∧Below w.heap.size w w')→Cb ⟨f,k,v⟩ ⟨f2,k2,v2⟩ w e w':=by
 rintro e w' ⟨rfl,hb⟩
 exact ⟨by simp only [join,Cl.val];rw [hF,hK,hV],hb⟩
theorem Kd (d:Int) (a:Option Addr) (len cap:Nat) (cs:List Cl) (w:World) (c:Int) (hl:cs.length=len) (hm:cs.length≤maxLen) (hrow:lS w a cs) (hbits:H8 cs) (hc:oD d cs=c) :
  Calls prog 79 #[.int .i64 d,.slice a len cap] w fun e w'=>e = .returned (.int .i64 c)∧Below w.heap.size w w':=by
 subst hl;subst hc;exact zY d a cap cs w hm hrow hbits
def eU (t n:Int) (f:WF):Bool:=hH t f && (f.z || (if t=2 then decide (0≤f.c) && decide (f.c≤n) else if t=3 then decide (dW n f.g f.rows=0) else if t=4 then decide (oD n f.cells=0) else true))
theorem fP {t n:Int} {l:Nat} (h:bS t n l=true):l=0∧(t=1∨t=2∨t=3∨t=4):=by
 simp only [bS,Bool.and_eq_true,decide_eq_true_eq] at h
 refine ⟨h.1,?_⟩
 rcases h with ⟨_,h⟩
 by_cases h1:t=1
 ·exact .inl h1
 by_cases h2:t=2
 ·exact .inr (.inl h2)
 by_cases h3:t=3
 ·exact .inr (.inr (.inl h3))
 by_cases h4:t=4
 ·exact .inr (.inr (.inr h4))
 ·simp [h1,h2,h3,h4] at h
theorem qK {t n:Int} {l:Nat} (h:bS t n l=true):0≤n∧n≤1048576∧(t=1→n=0)∧((t=3∨t=4)→n≤64):=by
 have ht:=(fP h).2
 simp only [bS,Bool.and_eq_true,decide_eq_true_eq] at h
 rcases h with ⟨_,h⟩
 rcases ht with rfl | rfl | rfl | rfl<;>simp at h<;>omega
theorem WF.At.fat {w:World} {f:WF} (h:f.At w) (hs:f.rl≤100):FAt w f.ra f.g f.rows:=⟨h.rows,h.g64,h.r64,by rw [h.rl];exact hs⟩
end
end Go.Proofs.Ytafegfhpinpdoaa
