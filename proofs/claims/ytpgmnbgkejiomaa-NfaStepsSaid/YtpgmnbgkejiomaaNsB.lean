import Derived.StringKeys
import Derived.Maps.OwnSet
import Derived.Test.YtpgmnbgkejiomaaNsA
set_option maxRecDepth 100000
set_option maxHeartbeats 4000000
set_option linter.unusedVariables false
set_option linter.unusedSimpArgs false
set_option linter.unusedSectionVars false
set_option linter.unnecessarySimpa false
namespace Go.Proofs.Ytpgmnbgkejiomaa
open Go.Proofs.Try
open Go.RowKit
theorem rH (P:Program) (ev:Operand→Value) (w:World) (x:Operand) (f:FuncId) (args:Array Operand) (ts:Array TypeId) (caps:Array Value) (o:Oper) (h:o.op = .call { callee:=.value x,args:=args,argTypes:=ts }) (hf:ev x = .func (.func f) #[] caps) (hb:bD P f=true):(execOp ev o).run P w = .ok (.enter f (args.map ev++caps)) w:=by
 unfold bD at hb
 cases hx:P.funcs[f]? with
 | none=>rw [hx] at hb;cases hb
 | some fn =>
  rw [hx] at hb
  simp only [Bool.and_eq_true,Bool.not_eq_true',beq_eq_false_iff_ne,ne_eq] at hb
  obtain ⟨c,hc⟩:=Option.isSome_iff_exists.1 hb.1
  unfold execOp;simp only [h];simp [go_sem,resolve,hf,callFunc,hx,hc,hb.2]
section
variable {P:Program} {n:Nat} {Q:Exit→Act→World→Prop} {l:Fr} {w0 W w:World} {ops:Array Oper} {os:List Oper} {K:List (Nat×World)} {O:Own} {G:aX} {d i:Nat} {ty:TypeId} {pos:String} {aft:Array Edge}
theorem map_evs {a:Act} {args:Array Operand} {vs:List Value} (hl:Has n l a) (ha:args.toList.map (evL l)=vs.map some):args.map a.eval=vs.toArray:=by
 have key:∀ (xs:List Operand) (us:List Value),xs.map (evL l)=us.map some→xs.map a.eval=us:=by
  intro xs
  induction xs with
  | nil=>intro us h;cases us<;>simp at h ⊢
  | cons x xs ih =>
   intro us h
   cases us with
   | nil=>simp at h
   | cons u us =>
    simp only [List.map_cons,List.cons.injEq] at h ⊢
    exact ⟨hl.ev x u h.1,ih us h.2⟩
 apply Array.ext'
 rw [Array.toList_map]
 exact key _ _ ha
theorem iL {x:Operand} {f:FuncId} {args:Array Operand} {ts:Array TypeId} {vs caps:List Value} {R:Ending→World→Prop} (hx:evL l x=some (.func (.func f) #[] caps.toArray)) (hgo:bD P f=true) (ha:args.toList.map (evL l)=vs.map some) (hc:Calls P f (vs++caps).toArray W R) (hd:Nat.blt d n=true)
  (h:∀ e W',R e W'→∃ v,e = .returned v∧bG P n ops Q os ((d,v)::l) W'):bG P n ops Q (⟨some d,.call { callee:=.value x,args:=args,argTypes:=ts },ty,pos,aft,none⟩::os) l W:=fun a hl=>by
 refine wpList_plain rfl fun K' hK=>?_
 unfold Oper.wp
 rw [rH P a.eval W x f args ts _ _ rfl (hl.ev x _ hx) hgo,Oper.upon_enter,map_evs hl ha,List.append_toArray]
 refine hc.mono ?_
 rintro e W' h9
 obtain ⟨v,rfl,hh⟩:=h e W' h9
 exact hK _ _ (hh _ (hl.put hd))
end
section
variable {P:Program} {ops:Array Oper} {Q:Exit→Act→World→Prop} {σ:Type}
theorem kZ {ops:Array Oper} {k:Nat} (hk:ops.size=k):jE ops k=true:=List.all_eq_true.2 fun j hj=>by
 rw [decide_eq_true (show j < k by have:=List.mem_range.1 hj;omega)];rfl
theorem mW {L:Array Bool} {i:Nat} (h:L.size≤i):L.getD i false=false:=by
 rw [Array.getD_eq_getD_getElem?,Array.getElem?_eq_none (by omega)];rfl
theorem kS {t0:Array Value} {d0:List Deferred} {G:σ→World→Prop} {I:σ→Nat→Value→World→Prop} {V:σ→Array Bool→Prop} {k:Nat} (hk:ops.size=k) (ht:cX ops t0.size=true)
  (hstep:∀ i,i < k→sX P ops Q t0 G I V i)
  (hfin:∀ s L a w,RInvG ops t0 d0 G I V s L a w→(∀ i,i < k→L.getD i false=true)→wpList P ops Q (ops.toList.drop k) a w) :
  ∀ (fuel:Nat) (s:σ) (L:Array Bool) (a:Act) (w:World),L.size=ops.size→L.toList.count false≤fuel→dC ops L→RInvG ops t0 d0 G I V s L a w→wpAny P .any ops Q fuel L a w:=by
 intro fuel
 induction fuel with
 | zero =>
  intro s L a w hs hc hcl h
  have hall:∀ i,i < k→L.getD i false=true:=fun i hi=>by
   cases hb:L.getD i false with
   | true=>rfl
   | false =>
    have:=eP _ _ (eC (by omega) hb)
    omega
  exact gD (fun _ _=>trivial) (kZ hk) ht 0 k 0 L a w (by omega) (Nat.le_refl _) (Nat.le_refl _) hs hcl hall (fun i hi=>mW (by omega)) (hfin s L a w h hall)
 | succ fuel ih =>
  intro s L a w hs hc hcl h
  by_cases hall:∀ i,i < k→L.getD i false=true
  ·exact gD (fun _ _=>trivial) (kZ hk) ht 0 k (fuel+1) L a w (by omega) (Nat.le_refl _) (Nat.zero_le _) hs hcl hall (fun i hi=>mW (by omega)) (hfin s L a w h hall)
  ·refine ⟨fun hr=>?_,fun i hi=>?_⟩
   ·exfalso;apply hall
    intro i hi
    have h1:=eY ht hs hr i (by omega)
    rw [Array.getD_eq_getD_getElem?,Array.getElem?_eq_getElem (by omega)] at h1 ⊢
    simpa using h1
   ·obtain ⟨his,hr⟩:=gO hi hs
    have hik:i < k:=by omega
    have hc1:=eP _ _ (eC (by omega) hr.1)
    refine wpOp_mono ?_ (hstep i hik s L a w (fun t ht=>h.frame t ht) h.glob h.cons hs hcl hr (fun j d hw=>?_))
    ·rintro a' w' ⟨s',v,rfl,hV,hG,hI,hst⟩
     refine ih s' _ _ _ (by simpa using hs) ?_ (hcl.next hr (by omega)) ⟨by rw [fY];exact h.size,by rw [eK];exact h.defers,fun t hf=>?_,hG,hV,fun j d hd hj=>?_⟩
     ·rw [Array.toList_setIfInBounds];omega
     ·rw [dG ?_]
      ·exact h.frame t hf
      ·intro hd
       obtain ⟨o,ho,hd⟩:=Option.bind_eq_some_iff.1 hd
       have:=Array.all_eq_true'.1 hf o (Array.mem_of_getElem? ho)
       simp [hd] at this
     ·by_cases hji:j=i
      ·subst hji
       rw [jU hd (by rw [h.size];exact (dY ht hd).1)]
       exact hI d hd
      ·rw [getD_set_ne false (Ne.symm hji)] at hj
       rw [dG (fun e=>hji ((dY ht e).2 j hd))]
       exact hst j d hd (h.done j d hd hj)
    ·have:j∈aft ops i:=by
      unfold aP at hw
      unfold aft
      cases ho:ops[i]? with
      | none=>simp [ho] at hw
      | some o =>
       simp only [ho,Bool.and_eq_true,beq_iff_eq] at hw
       obtain ⟨e,he,h2⟩:=Array.any_eq_true'.1 hw.1
       simp only [Bool.and_eq_true,beq_iff_eq] at h2
       exact List.mem_map.2 ⟨e,List.mem_filter.2 ⟨Array.mem_toList_iff.2 he,h2.2⟩,h2.1⟩
     have hd:(ops[j]?).bind (·.dst)=some d:=by
      unfold aP at hw
      simp only [Bool.and_eq_true,beq_iff_eq] at hw
      exact hw.2
     exact h.done j d hd (hr.2 j this)
end
section
variable {P:Program} {n:Nat} {Q:Exit→Act→World→Prop} {l:Fr} {w0 W:World} {ops:Array Oper} {os:List Oper} {K:List (Nat×World)} {L:List Asr} {i:Nat}
variable {al:List Nat} {ca:Nat→Option Value→List Value} {ta:Nat→TypeId} {Os:Option Value→Own} {Gs:Option Value→aX} {lo ef jy:Nat} {s:Sg}
variable {d:Nat} {op:Op} {ty:TypeId} {pos:String} {aft_:Array Edge} {v:Value} {gd:Option (Nat×Bool)}
theorem regSL {id k:Nat} {ds:List Nat} (hm:P.follows .mixedOrders=true) (hlo:lo=W.heap.size) (hS:St w0 (Os none) (Gs none) K W) (hk:os.length=k) (ht:cX os.toArray n=true) (hal:al.all (fun a=>Nat.blt a k)=true) (hnd:al.Nodup) (hea:al.contains ef=false)
  (hev:Nat.blt ef k=true) (hdst:(List.range k).all (fun j=>Nat.beq j ef || ((os.toArray[j]?).bind (·.dst)).isSome)=true) (hds:(os.drop k).all (fun o=>match o.dst with | some d=>ds.contains d | none=>true)=true)
  (h:BLS P n os.toArray Q l w0 K lo al ef jy ca ta Os Gs (fun Lr=>∀ (Bf:Nat→Nat) (y:Value) (W':World) (Ks:List (Nat×World)),W.heap.size≤W'.heap.size→(∀ q∈Ks,lo≤q.1)→St w0 (al.map (fun a=>(Bf a,ca a (some y),ta a))++Os (some y)) (Gs (some y)) (Ks++K) W' →
   (∀ {O2 G2 K2 W2},St w0 O2 G2 K2 W2→(∀ q∈Ks,q∈K2)→dD lo (XB (al.map (fun a=>(Bf a,ca a (some y),ta a))++Os (some y)) (Gs (some y))) W' W2) →
   fL (os.take k) (nX al ef jy lo (XB (al.map (fun a=>(Bf a,ca a (some y),ta a))++Os (some y)) (Gs (some y))) Bf y 0 Lr.reverse) (fT ds l) (fun l' W'=>bG P n os.toArray Q (os.drop k) l' W') W') k [] 0):cY P n (.region id os.toArray true) Q l W:=by
 obtain ⟨Lr,h1,h2,hfin⟩:=lN ht k 0 [] rfl (fun j _=>by rfl) (fun i hi=>by omega) h
 rw [Nat.zero_add] at h1 h2
 have hal':∀ a∈al,a < k:=fun a ha=>Nat.lt_of_lt_of_le (Nat.lt_succ_self _) (Nat.le_of_ble_eq_true (List.all_eq_true.1 hal a ha))
 have hea':ef∉al:=fun h=>by rw [List.contains_iff_mem.2 h] at hea;cases hea
 intro a ha
 refine wp_region_any hm (kS (t0:=a.tmps) (d0:=a.defers) (V:=VG al ef) (I:=IG al ef jy lo ca ta Os Gs Lr.reverse) (G:=GG w0 K lo ca ta Os Gs) (k:=k) (by simpa using hk) (by rw [ha.size];exact ht) (fun i hi=>(h2 i hi).step a ha) ?_ _ ⟨none,[]⟩ _ _ _ (by simp) (eZ _) (fun j hj=>by rw [Array.getD_eq_getD_getElem?,Array.getElem?_replicate] at hj;split at hj<;>simp at hj) ⟨rfl,rfl,fun _ _=>rfl,⟨by unfold OE;exact hS.drew,by rw [hlo];exact Nat.le_refl _,(fun q hq=>by cases hq)⟩,⟨fun a _=>?_,(fun q hq=>by cases hq),List.Pairwise.nil,?_⟩,fun i d _ hj=>?_⟩)
 ·intro s LB a' W' hR hdone
  obtain ⟨hG,hG2,hG3⟩:=hR.glob
  obtain ⟨v1,v2,v3,v4⟩:=hR.cons
  obtain ⟨ev,bs⟩:=s
  have hall:∀ x∈al,(x,bAt bs x)∈bs:=fun x hx=>lO ((v1 x hx).1 (hdone x (hal' x hx)))
  obtain ⟨y,hy⟩:∃ y,ev=some y:=by
   have h3:ev.isSome=true:=v4.1 (hdone ef (Nat.lt_of_lt_of_le (Nat.lt_succ_self _) (Nat.le_of_ble_eq_true hev)))
   exact Option.isSome_iff_exists.1 h3
  subst hy
  have hperm:bs.Perm (al.map (fun x=>(x,bAt bs x))):=by
   refine (List.perm_ext_iff_of_nodup (v3.imp (fun h e=>h (by rw [e]))) ?_).2 fun q=>?_
   ·refine List.Pairwise.map _ (fun x y (hxy:x≠y)=>?_) hnd
    intro e;exact hxy (congrArg Prod.fst e)
   ·constructor
    ·intro hq
     have h3:=hall q.1 (v2 q hq)
     have h4:=iG v3 hq h3 rfl
     rw [h4]
     exact List.mem_map.2 ⟨q.1,v2 q hq,rfl⟩
    ·intro hq
     obtain ⟨x,hx,rfl⟩:=List.mem_map.1 hq
     exact hall x hx
  have hO:(OE ca ta Os ⟨some y,bs⟩).Perm (al.map (fun a=>(bAt bs a,ca a (some y),ta a))++Os (some y)):=by
   unfold OE
   refine List.Perm.append_right _ ?_
   have:=hperm.map (fun q:Nat×Nat=>(q.2,ca q.1 (some y),ta q.1))
   rw [List.map_map] at this
   exact this
  have hG':=hG.perm hO
  have hX:∀ b,XB (OE ca ta Os ⟨some y,bs⟩) (Gs (some y)) b↔XB (al.map (fun a=>(bAt bs a,ca a (some y),ta a))++Os (some y)) (Gs (some y)) b:=fun b=>by
   unfold XB
   constructor
   ·rintro (⟨p,hp,e⟩ | h);exact .inl ⟨p,hO.mem_iff.1 hp,e⟩;exact .inr h
   ·rintro (⟨p,hp,e⟩ | h);exact .inl ⟨p,hO.mem_iff.2 hp,e⟩;exact .inr h
  obtain ⟨Ks,c1,⟨qw,c2,c3⟩,c4⟩:=rD (((al.map (fun a=>(bAt bs a,ca a (some y),ta a))++Os (some y)).map (·.1))++(Gs (some y)).filterMap (fun g=>g.v.ownBlock)) lo W'
  have hG4:=hG'.more Ks (fun q hq=>⟨(c1 q hq).2.1,fun p hp=>(c1 q hq).2.2 p.1 (List.mem_append_left _ (List.mem_map.2 ⟨p,hp,rfl⟩)),fun g hg b hb=>(c1 q hq).2.2 b (List.mem_append_right _ (List.mem_filterMap.2 ⟨g,hg,hb⟩))⟩)
  have hcov:∀ {O2 G2 K2 W2},St w0 O2 G2 K2 W2→(∀ q∈Ks,q∈K2)→dD lo (XB (al.map (fun a=>(bAt bs a,ca a (some y),ta a))++Os (some y)) (Gs (some y))) W' W2:=fun {O2 G2 K2 W2} h2 hq=>by
   refine ⟨⟨h2.below.os.trans hG.below.os.symm,h2.below.tape.trans hG.below.tape.symm,h2.below.output.trans hG.below.output.symm⟩,?_,fun b b1 b2 b3=>?_⟩
   ·have:=(h2.kept qw (hq qw c2)).1.1;rw [c3] at this;exact this
   ·obtain ⟨q,q1,q2,q3⟩:=c4 b b1 b2 (fun hb=>b3 (by
     rcases List.mem_append.1 hb with hb | hb
     ·obtain ⟨p,hp,rfl⟩:=List.mem_map.1 hb
      exact .inl ⟨p,hp,rfl⟩
     ·obtain ⟨g,hg,e⟩:=List.mem_filterMap.1 hb
      exact .inr ⟨g,hg,e⟩))
    exact ((h2.kept q (hq q q1)).1.2 b q2 q3).trans ((c1 q q1).2.1.2 b q2 q3).symm
  have htk:(os.take k).length=k:=by simp;omega
  refine gG (os.take k) (nX al ef jy lo (XB (al.map (fun a=>(bAt bs a,ca a (some y),ta a))++Os (some y)) (Gs (some y))) (bAt bs) y 0 Lr.reverse) (fT ds l) (fun i d hi hd'=>?_) (fun i hi hd'=>?_) (hR.size.trans ha.size) (hR.defers.trans ha.defers) ?_ (fun l' h ha'=>?_) (hfin (bAt bs) y W' Ks (by rw [← hlo];exact hG2) (fun q hq=>(c1 q hq).1) hG4 hcov)
  ·have hik:i < k:=by omega
   have hd2:(os.toArray[i]?).bind (·.dst)=some d:=by rw [List.getElem?_take,if_pos hik] at hd';simpa using hd'
   obtain ⟨i1,i2,i3,i4⟩:=hR.done i d hd2 (hdone i hik)
   rw [gE Lr.reverse 0 i (by simp;omega),Nat.add_zero]
   cases hc1:al.contains i with
   | true =>
    rw [cond_true]
    obtain ⟨B,hB,e⟩:=i1 (List.contains_iff_mem.1 hc1)
    have:=iG v3 hB (hall i (List.contains_iff_mem.1 hc1)) rfl
    show _=_
    rw [e,show B=bAt bs i from congrArg Prod.snd this]
   | false =>
    rw [cond_false]
    have hni:i∉al:=fun hm'=>by rw [List.contains_iff_mem.2 hm'] at hc1;cases hc1
    cases hc2:Nat.beq i ef with
    | true =>
     rw [cond_true]
     have h5:=i2 (Nat.eq_of_beq_eq_true hc2)
     exact (Option.some.inj h5).symm
    | false =>
     rw [cond_false]
     have hne:i≠ef:=fun e=>by rw [e,Nat.beq_refl] at hc2;cases hc2
     have h6:AwS lo (XB (al.map (fun a=>(bAt bs a,ca a (some y),ta a))++Os (some y)) (Gs (some y))) (atI Lr.reverse i) (a'.tmps.getD d undef) W':=fun w2 hw2=>i4 hni hne w2 ⟨hw2.1,hw2.2.1,fun b b1 b2 b3=>hw2.2.2 b b1 b2 (fun hb=>b3 ((hX b).2 hb))⟩
     cases hc3:Nat.beq i jy with
     | true =>
      rw [cond_true]
      refine ⟨?_,h6⟩
      exact i3 (Nat.eq_of_beq_eq_true hc3) y rfl
     | false=>rw [cond_false];exact h6
  ·have hik:i < k:=by omega
   have h3:=List.all_eq_true.1 hdst i (List.mem_range.2 hik)
   rw [Bool.or_eq_true] at h3
   have hd2:(os.toArray[i]?).bind (·.dst)=none:=by rw [List.getElem?_take,if_pos hik] at hd';simpa using hd'
   rcases h3 with h3 | h3
   ·rw [gE Lr.reverse 0 i (by simp;omega),Nat.add_zero]
    have hc1:al.contains i=false:=by rw [Nat.eq_of_beq_eq_true h3];exact hea
    rw [hc1,cond_false,h3,cond_true]
    exact ⟨y,rfl⟩
   ·rw [hd2] at h3;cases h3
  ·intro t v hv hno
   have hl:=eN hv (cJ hv)
   have hnt:=cJ hv
   rw [hR.frame t ?_]
   ·exact ha.at_ t v hl
   ·unfold cC;rw [Array.all_eq_true'];intro o' ho'
    have ho2:o'∈os:=by simpa using ho'
    rw [← List.take_append_drop k os] at ho2
    rcases List.mem_append.1 ho2 with ho2 | ho2
    ·simpa using hno o' ho2
    ·have h5:=List.all_eq_true.1 hds o' ho2
     cases hx:o'.dst with
     | none=>simp
     | some d =>
      rw [hx] at h5
      simp
      intro e;subst e
      exact hnt (List.contains_iff_mem.1 h5)
  ·have:=h a' ha'
   simpa using this
 ·rw [Array.getD_eq_getD_getElem?,Array.getElem?_replicate]
  constructor
  ·intro h3;split at h3<;>simp at h3
  ·rintro ⟨B,hB⟩;cases hB
 ·rw [Array.getD_eq_getD_getElem?,Array.getElem?_replicate]
  constructor
  ·intro h3;split at h3<;>simp at h3
  ·intro h3;cases h3
 ·rw [Array.getD_eq_getD_getElem?,Array.getElem?_replicate] at hj
  split at hj<;>simp at hj
end
section
variable {P:Program} {n:Nat} {Q:Exit→Act→World→Prop} {l:Fr} {w0 W:World} {ops:Array Oper} {os:List Oper} {K:List (Nat×World)} {L:List Asr} {i:Nat} {O:Own} {G:aX}
variable {al:List Nat} {zc:Nat→List Value} {ta:Nat→TypeId} {lo ef jy:Nat} {d:Nat} {ty:TypeId} {pos:String} {aft_:Array Edge} {v:Value}
def osY (O:Own) (j jx B:Nat) (cs:List Value) (U:TypeId):Option Value→Own
 | none=>O
 | some y=>O.set j (B,cA cs jx y.cells.toList,U)
theorem lT {O:Own} {j jx B i:Nat} {cs:List Value} {U:TypeId} {ev:Option Value} {p:Nat×List Value×TypeId} (h:O[i]?=some p) (hij:Nat.beq i j=false):(osY O j jx B cs U ev)[i]?=some p:=by
 cases ev with
 | none=>exact h
 | some y =>
  show (O.set j _)[i]?=_
  rw [List.getElem?_set_ne (fun e=>by rw [e,Nat.beq_refl] at hij;cases hij)];exact h
theorem eff_stP {T U:TypeId} {x:Operand} {tyy B m:Nat} {cs:List Value} {py:Asr} (j jx:Nat) (li:Fr) (hal:al.contains ef=false) (hij:Nat.beq ef jy=false) (hi:ops[ef]?=some ⟨none,.store T x (.tmp tyy),ty,pos,aft_,none⟩) (hjy:(ops[jy]?).bind (·.dst)=some tyy) (hwy:aP ops ef jy tyy=true) (hja:al.contains jy=false) (hLy:atI L jy=py) (hNo:jF al ef L) (hli:lK n ops l L ef li) (hx:evL li x=some (.pointer (some ⟨B,jx,none⟩)))
  (hO:O[j]?=some (B,cs,U)) (hsz:∀ w,(sizeOf T).run P w = .ok m w) (hpy:∀ v w,py v w→∃ vs:List Value,v.cells=vs.toArray∧vs.length=m∧vs.all Value.oneCell'=true) (hjm:Nat.ble (jx+m) cs.length=true):SG P n ops Q l w0 K lo al ef jy (jK zc) ta (osY O j jx B cs U) (rE G) L ef :=
 sZ hal hij hi fun t0 a bs w h0 hF hG hbs hD=>by
  have hD':=kD h0 hF hD (fun j d _ hj=>hNo j hj)
  have ex:=fC h0 hF hD' hli x _ hx
  have hy:=((hD jy tyy hwy).2.2.2 (fun h=>by rw [List.contains_iff_mem.2 h] at hja;cases hja) (fun e=>by rw [e,Nat.beq_refl] at hij;cases hij)).here
  rw [hLy] at hy
  obtain ⟨vs,hc,hl,h1⟩:=hpy _ _ hy
  have hcl:(a.eval (.tmp tyy)).cells.toList=vs:=by rw [hc]
  have hOk:(OE (jK zc) ta (osY O j jx B cs U) ⟨none,bs⟩)[bs.length+j]?=some (B,cs,U):=by
   unfold OE
   rw [List.getElem?_append_right (by simp)]
   simpa [osY] using hO
  have hXB:XB (OE (jK zc) ta (osY O j jx B cs U) ⟨none,bs⟩) (rE G none) B:=.inl ⟨_,List.mem_of_getElem? hOk,rfl⟩
  have hrun:=iH (P:=P) hsz hc hl h1 (hG.1.at_ _ hOk) (j:=jx) (Nat.le_of_ble_eq_true hjm)
  have hO':OE (jK zc) ta (osY O j jx B cs U) ⟨some (a.eval (.tmp tyy)),bs⟩=(OE (jK zc) ta (osY O j jx B cs U) ⟨none,bs⟩).set (bs.length+j) (B,cA cs jx vs,U):=by
   unfold OE
   rw [List.set_append_right _ _ (by simp)]
   congr 1
   simp [osY,hcl]
  refine mP hi rfl rfl rfl (by rw [ex];exact hrun) ⟨undef,a.eval (.tmp tyy),rfl,(fun d hd=>by cases hd),?_,gW hXB,?_,fun d hd=>?_⟩
  ·rw [hO']
   exact hG.1.setMany _ vs jx hOk
  ·rintro b (⟨p,hp,rfl⟩ | h)
   ·rw [hO'] at hp
    rcases List.mem_or_eq_of_mem_set hp with hp | rfl
    ·exact .inl (.inl ⟨p,hp,rfl⟩)
    ·exact .inl hXB
   ·exact .inl (.inr h)
  ·rw [hjy] at hd;cases hd;rfl
end
section
variable {P:Program} {n:Nat} {Q:Exit→Act→World→Prop} {l:Fr} {w0 W:World} {ops:Array Oper} {os:List Oper} {K:List (Nat×World)} {L:List Asr} {i:Nat}
variable {al:List Nat} {ca:Nat→Option Value→List Value} {ta:Nat→TypeId} {Os:Option Value→Own} {Gs:Option Value→aX} {lo ef jy:Nat} {s:Sg}
variable {d:Nat} {op:Op} {ty:TypeId} {pos:String} {aft_:Array Edge} {v:Value} {gd:Option (Nat×Bool)}
end
theorem cW (w:World) (b o:Nat):(Instr.fieldAt 24 (.pointer (some ⟨b,o,none⟩)) 0).run prog w = .ok (.pointer (some ⟨b,o+0,none⟩)) w:=by
 simp [Instr.fieldAt,run_underlying underlying24,Instr.sureAddr,go_sem,Addr.add_lit]
theorem dV (w:World) (b o:Nat):(Instr.fieldAt 24 (.pointer (some ⟨b,o,none⟩)) 1).run prog w = .ok (.pointer (some ⟨b,o+1,none⟩)) w:=by
 simp [Instr.fieldAt,run_underlying underlying24,Instr.sureAddr,go_sem,Addr.add_lit]
theorem dW (w:World) (b o:Nat):(Instr.fieldAt 24 (.pointer (some ⟨b,o,none⟩)) 2).run prog w = .ok (.pointer (some ⟨b,o+2,none⟩)) w:=by
 simp [Instr.fieldAt,run_underlying underlying24,Instr.sureAddr,go_sem,Addr.add_lit]
theorem eU (w:World) (b o:Nat):(Instr.fieldAt 24 (.pointer (some ⟨b,o,none⟩)) 3).run prog w = .ok (.pointer (some ⟨b,o+3,none⟩)) w:=by
 simp [Instr.fieldAt,run_underlying underlying24,Instr.sureAddr,go_sem,Addr.add_lit]
theorem cR (w:World) (b o:Nat):(Instr.fieldAt 24 (.pointer (some ⟨b,o,none⟩)) 4).run prog w = .ok (.pointer (some ⟨b,o+4,none⟩)) w:=by
 simp [Instr.fieldAt,run_underlying underlying24,Instr.sureAddr,go_sem,Addr.add_lit]
theorem eV (w:World) (b o:Nat):(Instr.fieldAt 57 (.pointer (some ⟨b,o,none⟩)) 0).run prog w = .ok (.pointer (some ⟨b,o+0,none⟩)) w:=by
 simp [Instr.fieldAt,run_underlying underlying57,Instr.sureAddr,go_sem,Addr.add_lit]
theorem dE (w:World) (b o:Nat):(Instr.fieldAt 57 (.pointer (some ⟨b,o,none⟩)) 1).run prog w = .ok (.pointer (some ⟨b,o+1,none⟩)) w:=by
 simp [Instr.fieldAt,run_underlying underlying57,Instr.sureAddr,go_sem,Addr.add_lit]
theorem dH (w:World) (b o:Nat):(Instr.fieldAt 57 (.pointer (some ⟨b,o,none⟩)) 2).run prog w = .ok (.pointer (some ⟨b,o+2,none⟩)) w:=by
 simp [Instr.fieldAt,run_underlying underlying57,Instr.sureAddr,go_sem,Addr.add_lit]
theorem jO:bD prog 13=true:=by kernel_rfl
theorem iM:bD prog 32=true:=by kernel_rfl
theorem iN:bD prog 33=true:=by kernel_rfl
structure NfV where
 st:Int
 sy:Int
 s0:Int
 e0:Int
 aa:Option Addr
 al:Nat
 ac:Nat
 ar:List ArV
abbrev NfV.cells (a:NfV):List Value:=[.int .i64 a.st,.int .i64 a.sy,.int .i64 a.s0,.int .i64 a.e0,.slice a.aa a.al a.ac]
abbrev NfV.val (a:NfV):Value:=.agg #[.int .i64 a.st,.int .i64 a.sy,.int .i64 a.s0,.int .i64 a.e0,.slice a.aa a.al a.ac]
abbrev ArV.three (t:ArV):List Value:=[.int .i64 t.f,.int .i64 t.s,.int .i64 t.q]
def jL (w:World) (a:Option Addr) (rs:List ArV):Prop:=∀ (i:Nat) r,rs[i]?=some r→∃ b off,a=some ⟨b,off,none⟩∧aK w b (off+i * 3) r.three
theorem jL.below {w w':World} {a:Option Addr} {rs:List ArV} (h:jL w a rs) (hb:Below w.heap.size w w'):jL w' a rs:=fun i r hi=>by
 obtain ⟨b,off,e,hc⟩:=h i r hi
 exact ⟨b,off,e,aK.agree (aY hb 0) (Nat.zero_le _) hc⟩
structure NIn (w:World) (a:NfV):Prop where
 arow:jL w a.aa a.ar
 alen:a.ar.length=a.al
 amax:a.al≤9223372036854775807
theorem NIn.below {w w':World} {a:NfV} (h:NIn w a) (hb:Below w.heap.size w w'):NIn w' a:=⟨h.arow.below hb,h.alen,h.amax⟩
def arB (n k:Int) (t:ArV):Bool:=inQ t.f n && (inQ t.q n && (decide (-2≤t.s) && decide (t.s < k)))
def cM (a:NfV):Int:=if 65536 < a.al then 3 else if a.st < 1∨4096 < a.st∨a.sy < 0∨4096 < a.sy then 81 else if inQ a.s0 a.st=true∧inQ a.e0 a.st=true then (if a.ar.all (arB a.st a.sy)=true then 0 else 81) else 81
theorem gP {a:NfV} (h:cM a=0):∃ n k s e:Nat,a.st=(n:Int)∧a.sy=(k:Int)∧a.s0=(s:Int)∧a.e0=(e:Int)∧1≤n∧n≤4096∧k≤4096∧s < n∧e < n∧a.al≤65536∧eX n (k:Int) a.ar:=by
 unfold cM at h
 split at h
 ·cases h
 ·split at h
  ·cases h
  ·split at h
   ·split at h
    ·rename_i h1 h2 h3 h4
     unfold inQ at h3
     simp only [Bool.and_eq_true,decide_eq_true_eq] at h3
     refine ⟨a.st.toNat,a.sy.toNat,a.s0.toNat,a.e0.toNat,by omega,by omega,by omega,by omega,by omega,by omega,by omega,by omega,by omega,by omega,fun t ht=>?_⟩
     have h5:=List.all_eq_true.1 h4 t ht
     unfold arB inQ at h5
     simp only [Bool.and_eq_true,decide_eq_true_eq] at h5
     omega
    ·cases h
   ·cases h
def cH (a:NfV) (l:List Int):Int:=if cM a≠0 then cM a else if l.all (fun s=>inQ s a.st)=true then 0 else 101
theorem eE (a:NfV) (x:Int) (w:World) :
  Calls prog 32 #[a.val,.int .i64 x] w (fun e w'=>e = .returned (.bool (inQ x a.st))∧Below w.heap.size w w'):=by
 refine bE (args:=[a.val,.int .i64 x]) func32 rfl ntmps32 rfl ?_
 have hS:=St.start w
 refine aD (aH (bY (cs:=[_,_,_,_,_]) hS rfl rfl rfl fun B1 W1 hS=>aA rfl rfl (aG (XF.thenN (aD (aH (aB rfl rfl (eF rfl rfl rfl (aB rfl rfl (bF (d:=7) rfl (fun hc=>?_) (fun hc=>?_)))))))))))
 ·have hg7:=of_decide_eq_true hc;clear hc
  refine aC (d:=7) rfl rfl (aB rfl rfl (aC (d:=7) rfl rfl (aI (o':=0) cW rfl rfl rfl (aC (d:=7) rfl rfl (aJ isAgg3 rfl (aF (hS.at_ 0 rfl) rfl) rfl (aC (d:=7) rfl rfl (bK rfl rfl rfl (aN rfl rfl rfl (aA rfl rfl (aG (XF.thenN (bH (XF.res (bU results32 rfl) ?_)))))))))))))
  exact ⟨eH (by unfold inQ;rw [decide_eq_true (show (0:Int)≤x from hg7)];rfl),hS.below⟩
 ·have hg7:=of_decide_eq_false hc;clear hc
  refine aE (d:=7) rfl rfl rfl rfl (aE (d:=7) rfl rfl rfl rfl (aE (d:=7) rfl rfl rfl rfl (aE (d:=7) rfl rfl rfl rfl (bA rfl rfl rfl (aA rfl rfl (aG (XF.thenN (bH (XF.res (bU results32 rfl) ?_)))))))))
  exact ⟨eH (by unfold inQ;rw [decide_eq_false (show ¬ (0:Int)≤x from hg7)];rfl),hS.below⟩
theorem lA (a:NfV) (x:Int) (w:World) :
  Calls prog 29 #[a.val,.int .i64 x] w (fun e w'=>e = .returned (.bool (inQ x a.sy))∧Below w.heap.size w w'):=by
 refine bE (args:=[a.val,.int .i64 x]) func29 rfl ntmps29 rfl ?_
 have hS:=St.start w
 refine aD (aH (bY (cs:=[_,_,_,_,_]) hS rfl rfl rfl fun B1 W1 hS=>aA rfl rfl (aG (XF.thenN (aD (aH (aB rfl rfl (eF rfl rfl rfl (aB rfl rfl (bF (d:=7) rfl (fun hc=>?_) (fun hc=>?_)))))))))))
 ·have hg7:=of_decide_eq_true hc;clear hc
  refine aC (d:=7) rfl rfl (aB rfl rfl (aC (d:=7) rfl rfl (aI (o':=1) dV rfl rfl rfl (aC (d:=7) rfl rfl (aJ isAgg3 rfl (aF (hS.at_ 0 rfl) rfl) rfl (aC (d:=7) rfl rfl (bK rfl rfl rfl (aN rfl rfl rfl (aA rfl rfl (aG (XF.thenN (bH (XF.res (bU results29 rfl) ?_)))))))))))))
  exact ⟨eH (by unfold inQ;rw [decide_eq_true (show (0:Int)≤x from hg7)];rfl),hS.below⟩
 ·have hg7:=of_decide_eq_false hc;clear hc
  refine aE (d:=7) rfl rfl rfl rfl (aE (d:=7) rfl rfl rfl rfl (aE (d:=7) rfl rfl rfl rfl (aE (d:=7) rfl rfl rfl rfl (bA rfl rfl rfl (aA rfl rfl (aG (XF.thenN (bH (XF.res (bU results29 rfl) ?_)))))))))
  exact ⟨eH (by unfold inQ;rw [decide_eq_false (show ¬ (0:Int)≤x from hg7)];rfl),hS.below⟩
theorem fF (a:NfV) (x:Int) (w:World) :
  Calls prog 33 #[a.val,.int .i64 x] w (fun e w'=>e = .returned (.bool (inQ x a.st))∧Below w.heap.size w w'):=by
 refine bE (args:=[a.val,.int .i64 x]) func33 rfl ntmps33 rfl ?_
 have hS:=St.start w
 refine aD (aH (bY (cs:=[_,_,_,_,_]) hS rfl rfl rfl fun B1 W1 hS=>aA rfl rfl (aG (XF.thenN (aD (aH (aB rfl rfl (eF rfl rfl rfl (aB rfl rfl (bF (d:=7) rfl (fun hc=>?_) (fun hc=>?_)))))))))))
 ·have hg7:=of_decide_eq_true hc;clear hc
  refine aC (d:=7) rfl rfl (aB rfl rfl (aC (d:=7) rfl rfl (aI (o':=0) cW rfl rfl rfl (aC (d:=7) rfl rfl (aJ isAgg3 rfl (aF (hS.at_ 0 rfl) rfl) rfl (aC (d:=7) rfl rfl (bK rfl rfl rfl (aN rfl rfl rfl (aA rfl rfl (aG (XF.thenN (bH (XF.res (bU results33 rfl) ?_)))))))))))))
  exact ⟨eH (by unfold inQ;rw [decide_eq_true (show (0:Int)≤x from hg7)];rfl),hS.below⟩
 ·have hg7:=of_decide_eq_false hc;clear hc
  refine aE (d:=7) rfl rfl rfl rfl (aE (d:=7) rfl rfl rfl rfl (aE (d:=7) rfl rfl rfl rfl (aE (d:=7) rfl rfl rfl rfl (bA rfl rfl rfl (aA rfl rfl (aG (XF.thenN (bH (XF.res (bU results33 rfl) ?_)))))))))
  exact ⟨eH (by unfold inQ;rw [decide_eq_false (show ¬ (0:Int)≤x from hg7)];rfl),hS.below⟩
theorem jP (a:NfV) (w:World) (hA:NIn w a) :
  Calls prog 13 #[a.val] w (fun e w'=>e = .returned (.int .i64 (cM a))∧Below w.heap.size w w'):=by
 refine bE (args:=[a.val]) func13 rfl ntmps13 rfl ?_
 have hS:=St.start w
 refine aD (aH (bY (cs:=[_,_,_,_,_]) hS rfl rfl rfl fun B1 W1 hS=>aA rfl rfl (aG (XF.thenN (aD (aD (aH (aI (o':=4) cR rfl rfl rfl (aJ isAgg22 rfl (aF (hS.at_ 0 rfl) rfl) rfl (bN underlying22 rfl rfl (dU rfl rfl rfl (aG (XF.thenN (bC rfl (fun hc=>?_) (fun hc=>?_)))))))))))))))
 ·have hc8:=of_decide_eq_true hc;clear hc
  refine aD (aH (aA rfl rfl (aG (XF.thenN (bH (XF.thenR (XF.res (bU results13 rfl) ?_)))))))
  exact ⟨dL (by unfold cM;rw [if_pos (by omega)]),hS.below⟩
 ·have hc8:=of_decide_eq_false hc;clear hc
  have h1:¬ 65536 < a.al:=by omega
  refine aS (XF.thenN (aD (aD (aH (aI (o':=0) cW rfl rfl rfl (aJ isAgg3 rfl (aF (hS.at_ 0 rfl) rfl) rfl (bK rfl rfl rfl (aB rfl rfl (bF (d:=12) rfl (fun hc=>?_) (fun hc=>?_))))))))))
  ·have hg12:=of_decide_eq_true hc;clear hc
   refine aE (d:=12) rfl rfl rfl rfl (aE (d:=12) rfl rfl rfl rfl (aE (d:=12) rfl rfl rfl rfl (aN rfl rfl rfl (aB rfl rfl (aE (d:=17) rfl rfl rfl rfl (aE (d:=17) rfl rfl rfl rfl (aE (d:=17) rfl rfl rfl rfl (aN rfl rfl rfl (aB rfl rfl (aE (d:=22) rfl rfl rfl rfl (aE (d:=22) rfl rfl rfl rfl (aE (d:=22) rfl rfl rfl rfl (aN rfl rfl rfl (aG (XF.thenN (cI rfl (aD (aH (aA rfl rfl (aG (XF.thenN (bH (XF.thenR (XF.res (bU results13 rfl) ?_))))))))))))))))))))))))
   exact ⟨dL (by unfold cM;rw [if_neg h1,if_pos (by omega)]),hS.below⟩
  ·have hg12:=of_decide_eq_false hc;clear hc
   refine aC (d:=12) rfl rfl (aI (o':=0) cW rfl rfl rfl (aC (d:=12) rfl rfl (aJ isAgg3 rfl (aF (hS.at_ 0 rfl) rfl) rfl (aC (d:=12) rfl rfl (dU rfl rfl rfl (bA rfl rfl rfl (aB rfl rfl (bF (d:=17) rfl (fun hc=>?_) (fun hc=>?_)))))))))
   ·have hg17:=of_decide_eq_true hc;clear hc
    refine aE (d:=17) rfl rfl rfl rfl (aE (d:=17) rfl rfl rfl rfl (aE (d:=17) rfl rfl rfl rfl (aN rfl rfl rfl (aB rfl rfl (aE (d:=22) rfl rfl rfl rfl (aE (d:=22) rfl rfl rfl rfl (aE (d:=22) rfl rfl rfl rfl (aN rfl rfl rfl (aG (XF.thenN (cI rfl (aD (aH (aA rfl rfl (aG (XF.thenN (bH (XF.thenR (XF.res (bU results13 rfl) ?_)))))))))))))))))))
    exact ⟨dL (by unfold cM;rw [if_neg h1,if_pos (by omega)]),hS.below⟩
   ·have hg17:=of_decide_eq_false hc;clear hc
    refine aC (d:=17) rfl rfl (aI (o':=1) dV rfl rfl rfl (aC (d:=17) rfl rfl (aJ isAgg3 rfl (aF (hS.at_ 0 rfl) rfl) rfl (aC (d:=17) rfl rfl (bK rfl rfl rfl (bA rfl rfl rfl (aB rfl rfl (bF (d:=22) rfl (fun hc=>?_) (fun hc=>?_)))))))))
    ·have hg22:=of_decide_eq_true hc;clear hc
     refine aE (d:=22) rfl rfl rfl rfl (aE (d:=22) rfl rfl rfl rfl (aE (d:=22) rfl rfl rfl rfl (aN rfl rfl rfl (aG (XF.thenN (cI rfl (aD (aH (aA rfl rfl (aG (XF.thenN (bH (XF.thenR (XF.res (bU results13 rfl) ?_))))))))))))))
     exact ⟨dL (by unfold cM;rw [if_neg h1,if_pos (by omega)]),hS.below⟩
    ·have hg22:=of_decide_eq_false hc;clear hc
     refine aC (d:=22) rfl rfl (aI (o':=1) dV rfl rfl rfl (aC (d:=22) rfl rfl (aJ isAgg3 rfl (aF (hS.at_ 0 rfl) rfl) rfl (aC (d:=22) rfl rfl (dU rfl rfl rfl (bA rfl rfl rfl (aG (XF.thenN (bC rfl (fun hc=>?_) (fun hc=>?_))))))))))
     ·have hc26:=of_decide_eq_true hc;clear hc
      refine aD (aH (aA rfl rfl (aG (XF.thenN (bH (XF.thenR (XF.res (bU results13 rfl) ?_)))))))
      exact ⟨dL (by unfold cM;rw [if_neg h1,if_pos (by omega)]),hS.below⟩
     ·have hc26:=of_decide_eq_false hc;clear hc
      have h2:¬ (a.st < 1∨4096 < a.st∨a.sy < 0∨4096 < a.sy):=by omega
      refine aS (XF.thenN (aD (aD (aH (aO (vs:=[_,_,_,_,_]) isAgg24 sizeOf24 rfl (aK.own (j:=0) (m:=5) (hS.at_ 0 rfl) rfl) rfl (aI (o':=2) dW rfl rfl rfl (aJ isAgg3 rfl (aF (hS.at_ 0 rfl) rfl) rfl (bW (vs:=[_,_]) hS iM rfl (eE a a.s0 _) rfl fun W2 hS=>cN rfl rfl (aB rfl rfl (bF (d:=32) rfl (fun hc=>?_) (fun hc=>?_)))))))))))
      ·have hg32:=hc;clear hc
       refine aE (d:=32) rfl rfl rfl rfl (aE (d:=32) rfl rfl rfl rfl (aE (d:=32) rfl rfl rfl rfl (aE (d:=32) rfl rfl rfl rfl (aE (d:=32) rfl rfl rfl rfl (aN rfl rfl rfl (aG (XF.thenN (cI rfl (aD (aH (aA rfl rfl (aG (XF.thenN (bH (XF.thenR (XF.res (bU results13 rfl) ?_))))))))))))))))
       exact ⟨dL (by unfold cM;rw [if_neg h1,if_neg h2,if_neg (by simp at *;simp [*])]),hS.below⟩
      ·have hg32:=hc;clear hc
       refine aC (d:=32) rfl rfl (aO (vs:=[_,_,_,_,_]) isAgg24 sizeOf24 rfl (aK.own (j:=0) (m:=5) (hS.at_ 0 rfl) rfl) rfl (aC (d:=32) rfl rfl (aI (o':=3) eU rfl rfl rfl (aC (d:=32) rfl rfl (aJ isAgg3 rfl (aF (hS.at_ 0 rfl) rfl) rfl (aC (d:=32) rfl rfl (bW (vs:=[_,_]) hS iM rfl (eE a a.e0 _) rfl fun W3 hS=>aC (d:=32) rfl rfl (cN rfl rfl (bA rfl rfl rfl (aG (XF.thenN (bC rfl (fun hc=>?_) (fun hc=>?_)))))))))))))
       ·have hc38:=hc;clear hc
        refine aD (aH (aA rfl rfl (aG (XF.thenN (bH (XF.thenR (XF.res (bU results13 rfl) ?_)))))))
        exact ⟨dL (by unfold cM;rw [if_neg h1,if_neg h2,if_neg (by simp at *;simp [*])]),hS.below⟩
       ·have hc38:=hc;clear hc
        have h3:inQ a.s0 a.st=true∧inQ a.e0 a.st=true:=by simp at *;simp [*]
        refine aS (XF.thenN (aD (aD (aH (aI (o':=4) cR rfl rfl rfl (aJ isAgg22 rfl (aF (hS.at_ 0 rfl) rfl) rfl (bN underlying22 rfl rfl (aB rfl rfl (aG (XF.thenN (aL (cE (fun m l W=>∃ i:Nat,i≤a.al∧m=a.al - i∧l=[(1,.pointer (some ⟨B1,0,none⟩)),(40,.slice a.aa a.al a.ac),(41,.int .i64 (a.al:Int)),(42,.int .i64 (i:Int))]∧(a.ar.take i).all (arB a.st a.sy)=true∧St w [(B1,a.cells,24)] [] [] W) (a.al - 0) ([(1,_),(40,_),(41,_),(42,_)]) ⟨rfl,rfl,rfl,rfl,trivial⟩ (⟨0,Nat.zero_le _,rfl,rfl,rfl,hS.clear⟩) ?_))))))))))))
        clear hS
        rintro m l W ⟨i,hi,rfl,rfl,hall,hS⟩
        refine aD (aH (bK rfl rfl rfl (aG (XF.thenN (aD (bC rfl (fun hc=>?_) (fun hc=>?_)))))))
        ·have hc43:=of_decide_eq_true hc;clear hc
         obtain ⟨t,ht⟩:∃ t,a.ar[i]?=some t:=⟨_,List.getElem?_eq_getElem (by have:=hA.alen;omega)⟩
         obtain ⟨b,off,haa,hcs⟩:=hA.arow i t ht
         have k1:=aK.agree hS.agree (Nat.zero_le _) hcs
         refine aS (XF.thenN (aD (aL (aD (aH ?_)))))
         refine aQ (j:=i) (b:=b) (o:=off) (m:=a.al) (c:=a.ac) underlying22 sizeOf57 (by show some (Value.slice _ _ _)=_;rw [haa]) rfl rfl (by omega) rfl rfl ?_
         refine aO (vs:=[_,_,_]) isAgg57 sizeOf57 rfl k1 rfl (bS (cs:=[_,_,_]) hS zeroValue57 rfl rfl fun B4 W4 hS=>bQ (i:=0) (vs:=[_,_,_]) (cs':=[_,_,_]) (O':=[_,_]) hS sizeOf57 rfl rfl rfl rfl rfl rfl rfl fun W5 hS=>aG (XF.thenN (aD (aH (aO (vs:=[_,_,_,_,_]) isAgg24 sizeOf24 rfl (aK.own (j:=0) (m:=5) (hS.at_ 1 rfl) rfl) rfl (aI (o':=0) eV rfl rfl rfl (aJ isAgg3 rfl (aF (hS.at_ 0 rfl) rfl) rfl (bW (vs:=[_,_]) hS iM rfl (eE a t.f _) rfl fun W6 hS=>cN rfl rfl (aB rfl rfl (bF (d:=51) rfl (fun hc=>?_) (fun hc=>?_)))))))))))
         ·have hg51:=hc;clear hc
          refine aE (d:=51) rfl rfl rfl rfl (aE (d:=51) rfl rfl rfl rfl (aE (d:=51) rfl rfl rfl rfl (aE (d:=51) rfl rfl rfl rfl (aE (d:=51) rfl rfl rfl rfl (aN rfl rfl rfl (aB rfl rfl (aE (d:=58) rfl rfl rfl rfl (aE (d:=58) rfl rfl rfl rfl (aE (d:=58) rfl rfl rfl rfl (aN rfl rfl rfl (aB rfl rfl (aE (d:=63) rfl rfl rfl rfl (aE (d:=63) rfl rfl rfl rfl (aE (d:=63) rfl rfl rfl rfl (aE (d:=63) rfl rfl rfl rfl (aE (d:=63) rfl rfl rfl rfl (aN rfl rfl rfl (aG (XF.thenN (cI rfl (aD (aH (aA rfl rfl (aG (XF.thenN (bH (XF.blkR (XF.thenR (XF.thenR (XF.blkR (XF.thenR (XF.res (bU results13 rfl) ?_))))))))))))))))))))))))))))))))
          exact ⟨dL (by unfold cM;rw [if_neg h1,if_neg h2,if_pos h3,if_neg (by rw [bZ ht (by unfold arB;simp at *;simp [*];try omega)];decide)]),hS.below⟩
         ·have hg51:=hc;clear hc
          refine aC (d:=51) rfl rfl (aO (vs:=[_,_,_,_,_]) isAgg24 sizeOf24 rfl (aK.own (j:=0) (m:=5) (hS.at_ 1 rfl) rfl) rfl (aC (d:=51) rfl rfl (aI (o':=2) dH rfl rfl rfl (aC (d:=51) rfl rfl (aJ isAgg3 rfl (aF (hS.at_ 0 rfl) rfl) rfl (aC (d:=51) rfl rfl (bW (vs:=[_,_]) hS iM rfl (eE a t.q _) rfl fun W7 hS=>aC (d:=51) rfl rfl (cN rfl rfl (bA rfl rfl rfl (aB rfl rfl (bF (d:=58) rfl (fun hc=>?_) (fun hc=>?_))))))))))))
          ·have hg58:=hc;clear hc
           refine aE (d:=58) rfl rfl rfl rfl (aE (d:=58) rfl rfl rfl rfl (aE (d:=58) rfl rfl rfl rfl (aN rfl rfl rfl (aB rfl rfl (aE (d:=63) rfl rfl rfl rfl (aE (d:=63) rfl rfl rfl rfl (aE (d:=63) rfl rfl rfl rfl (aE (d:=63) rfl rfl rfl rfl (aE (d:=63) rfl rfl rfl rfl (aN rfl rfl rfl (aG (XF.thenN (cI rfl (aD (aH (aA rfl rfl (aG (XF.thenN (bH (XF.blkR (XF.thenR (XF.thenR (XF.blkR (XF.thenR (XF.res (bU results13 rfl) ?_)))))))))))))))))))))))))
           exact ⟨dL (by unfold cM;rw [if_neg h1,if_neg h2,if_pos h3,if_neg (by rw [bZ ht (by unfold arB;simp at *;simp [*];try omega)];decide)]),hS.below⟩
          ·have hg58:=hc;clear hc
           refine aC (d:=58) rfl rfl (aI (o':=1) dE rfl rfl rfl (aC (d:=58) rfl rfl (aJ isAgg3 rfl (aF (hS.at_ 0 rfl) rfl) rfl (aC (d:=58) rfl rfl (bK rfl rfl rfl (bA rfl rfl rfl (aB rfl rfl (bF (d:=63) rfl (fun hc=>?_) (fun hc=>?_)))))))))
           ·have hg63:=of_decide_eq_true hc;clear hc
            refine aE (d:=63) rfl rfl rfl rfl (aE (d:=63) rfl rfl rfl rfl (aE (d:=63) rfl rfl rfl rfl (aE (d:=63) rfl rfl rfl rfl (aE (d:=63) rfl rfl rfl rfl (aN rfl rfl rfl (aG (XF.thenN (cI rfl (aD (aH (aA rfl rfl (aG (XF.thenN (bH (XF.blkR (XF.thenR (XF.thenR (XF.blkR (XF.thenR (XF.res (bU results13 rfl) ?_))))))))))))))))))))
            exact ⟨dL (by unfold cM;rw [if_neg h1,if_neg h2,if_pos h3,if_neg (by rw [bZ ht (by unfold arB;simp at *;simp [*];try omega)];decide)]),hS.below⟩
           ·have hg63:=of_decide_eq_false hc;clear hc
            refine aC (d:=63) rfl rfl (aI (o':=1) dE rfl rfl rfl (aC (d:=63) rfl rfl (aJ isAgg3 rfl (aF (hS.at_ 0 rfl) rfl) rfl (aC (d:=63) rfl rfl (aI (o':=1) dV rfl rfl rfl (aC (d:=63) rfl rfl (aJ isAgg3 rfl (aF (hS.at_ 1 rfl) rfl) rfl (aC (d:=63) rfl rfl (eF rfl rfl rfl (bA rfl rfl rfl (aG (XF.thenN (bC rfl (fun hc=>?_) (fun hc=>?_))))))))))))))
            ·have hc69:=of_decide_eq_true hc;clear hc
             refine aD (aH (aA rfl rfl (aG (XF.thenN (bH (XF.blkR (XF.thenR (XF.thenR (XF.blkR (XF.thenR (XF.res (bU results13 rfl) ?_)))))))))))
             exact ⟨dL (by unfold cM;rw [if_neg h1,if_neg h2,if_pos h3,if_neg (by rw [bZ ht (by unfold arB;simp at *;simp [*];try omega)];decide)]),hS.below⟩
            ·have hc69:=of_decide_eq_false hc;clear hc
             refine aS (XF.blkN (XF.thenN (aH (bB rfl rfl (IntWalk.i64_in _ (by omega)) rfl (aB rfl rfl (aG ?_))))))
             exact XF.round (a.al - (i+1)) [(1,_),(40,_),(41,_),(42,_)] (by omega) ⟨rfl,rfl,rfl,rfl,trivial⟩ ⟨i+1,by omega,rfl,rfl,dP ht hall (by unfold arB;simp at *;simp [*];try omega),hS.tail.clear⟩
        ·have hc43:=of_decide_eq_false hc;clear hc
         rw [List.take_of_length_le (by have:=hA.alen;omega)] at hall
         refine bX (XF.thenX (XF.thenX (XF.blkX (XF.thenN (aD (aH (aA rfl rfl (aG (XF.thenN (bH (XF.res (bU results13 rfl) ?_)))))))))))
         exact ⟨dL (by unfold cM;rw [if_neg h1,if_neg h2,if_pos h3,if_pos hall]),hS.below⟩
theorem pW (a:NfV) (w:World) (hA:NIn w a) :
  Calls prog 14 #[a.val] w (fun e w'=>e = .returned (.int .i64 (cM a))∧Below w.heap.size w w'):=by
 refine bE (args:=[a.val]) func14 rfl ntmps14 rfl ?_
 have hS:=St.start w
 refine aD (aH (bY (cs:=[_,_,_,_,_]) hS rfl rfl rfl fun B1 W1 hS=>aA rfl rfl (aG (XF.thenN (aD (aD (aH (aI (o':=4) cR rfl rfl rfl (aJ isAgg22 rfl (aF (hS.at_ 0 rfl) rfl) rfl (bN underlying22 rfl rfl (dU rfl rfl rfl (aG (XF.thenN (bC rfl (fun hc=>?_) (fun hc=>?_)))))))))))))))
 ·have hc8:=of_decide_eq_true hc;clear hc
  refine aD (aH (aA rfl rfl (aG (XF.thenN (bH (XF.thenR (XF.res (bU results14 rfl) ?_)))))))
  exact ⟨dL (by unfold cM;rw [if_pos (by omega)]),hS.below⟩
 ·have hc8:=of_decide_eq_false hc;clear hc
  have h1:¬ 65536 < a.al:=by omega
  refine aS (XF.thenN (aD (aD (aH (aI (o':=0) cW rfl rfl rfl (aJ isAgg3 rfl (aF (hS.at_ 0 rfl) rfl) rfl (bK rfl rfl rfl (aB rfl rfl (bF (d:=12) rfl (fun hc=>?_) (fun hc=>?_))))))))))
  ·have hg12:=of_decide_eq_true hc;clear hc
   refine aE (d:=12) rfl rfl rfl rfl (aE (d:=12) rfl rfl rfl rfl (aE (d:=12) rfl rfl rfl rfl (aN rfl rfl rfl (aB rfl rfl (aE (d:=17) rfl rfl rfl rfl (aE (d:=17) rfl rfl rfl rfl (aE (d:=17) rfl rfl rfl rfl (aN rfl rfl rfl (aB rfl rfl (aE (d:=22) rfl rfl rfl rfl (aE (d:=22) rfl rfl rfl rfl (aE (d:=22) rfl rfl rfl rfl (aN rfl rfl rfl (aB rfl rfl (aE (d:=27) rfl rfl rfl rfl (aE (d:=27) rfl rfl rfl rfl (aE (d:=27) rfl rfl rfl rfl (aE (d:=27) rfl rfl rfl rfl (aE (d:=27) rfl rfl rfl rfl (aN rfl rfl rfl (aB rfl rfl (aE (d:=34) rfl rfl rfl rfl (aE (d:=34) rfl rfl rfl rfl (aE (d:=34) rfl rfl rfl rfl (aE (d:=34) rfl rfl rfl rfl (aE (d:=34) rfl rfl rfl rfl (aN rfl rfl rfl (aG (XF.thenN (cI rfl (aD (aH (aA rfl rfl (aG (XF.thenN ?_)))))))))))))))))))))))))))))))))))
   refine bH (XF.thenR (XF.res (bU results14 rfl) ?_))
   exact ⟨dL (by unfold cM;rw [if_neg h1,if_pos (by omega)]),hS.below⟩
  ·have hg12:=of_decide_eq_false hc;clear hc
   refine aC (d:=12) rfl rfl (aI (o':=0) cW rfl rfl rfl (aC (d:=12) rfl rfl (aJ isAgg3 rfl (aF (hS.at_ 0 rfl) rfl) rfl (aC (d:=12) rfl rfl (dU rfl rfl rfl (bA rfl rfl rfl (aB rfl rfl (bF (d:=17) rfl (fun hc=>?_) (fun hc=>?_)))))))))
   ·have hg17:=of_decide_eq_true hc;clear hc
    refine aE (d:=17) rfl rfl rfl rfl (aE (d:=17) rfl rfl rfl rfl (aE (d:=17) rfl rfl rfl rfl (aN rfl rfl rfl (aB rfl rfl (aE (d:=22) rfl rfl rfl rfl (aE (d:=22) rfl rfl rfl rfl (aE (d:=22) rfl rfl rfl rfl (aN rfl rfl rfl (aB rfl rfl (aE (d:=27) rfl rfl rfl rfl (aE (d:=27) rfl rfl rfl rfl (aE (d:=27) rfl rfl rfl rfl (aE (d:=27) rfl rfl rfl rfl (aE (d:=27) rfl rfl rfl rfl (aN rfl rfl rfl (aB rfl rfl (aE (d:=34) rfl rfl rfl rfl (aE (d:=34) rfl rfl rfl rfl (aE (d:=34) rfl rfl rfl rfl (aE (d:=34) rfl rfl rfl rfl (aE (d:=34) rfl rfl rfl rfl (aN rfl rfl rfl (aG (XF.thenN (cI rfl (aD (aH (aA rfl rfl (aG (XF.thenN (bH (XF.thenR (XF.res (bU results14 rfl) ?_)))))))))))))))))))))))))))))))))
    exact ⟨dL (by unfold cM;rw [if_neg h1,if_pos (by omega)]),hS.below⟩
   ·have hg17:=of_decide_eq_false hc;clear hc
    refine aC (d:=17) rfl rfl (aI (o':=1) dV rfl rfl rfl (aC (d:=17) rfl rfl (aJ isAgg3 rfl (aF (hS.at_ 0 rfl) rfl) rfl (aC (d:=17) rfl rfl (bK rfl rfl rfl (bA rfl rfl rfl (aB rfl rfl (bF (d:=22) rfl (fun hc=>?_) (fun hc=>?_)))))))))
    ·have hg22:=of_decide_eq_true hc;clear hc
     refine aE (d:=22) rfl rfl rfl rfl (aE (d:=22) rfl rfl rfl rfl (aE (d:=22) rfl rfl rfl rfl (aN rfl rfl rfl (aB rfl rfl (aE (d:=27) rfl rfl rfl rfl (aE (d:=27) rfl rfl rfl rfl (aE (d:=27) rfl rfl rfl rfl (aE (d:=27) rfl rfl rfl rfl (aE (d:=27) rfl rfl rfl rfl (aN rfl rfl rfl (aB rfl rfl (aE (d:=34) rfl rfl rfl rfl (aE (d:=34) rfl rfl rfl rfl (aE (d:=34) rfl rfl rfl rfl (aE (d:=34) rfl rfl rfl rfl (aE (d:=34) rfl rfl rfl rfl (aN rfl rfl rfl (aG (XF.thenN (cI rfl (aD (aH (aA rfl rfl (aG (XF.thenN (bH (XF.thenR (XF.res (bU results14 rfl) ?_))))))))))))))))))))))))))))
     exact ⟨dL (by unfold cM;rw [if_neg h1,if_pos (by omega)]),hS.below⟩
    ·have hg22:=of_decide_eq_false hc;clear hc
     refine aC (d:=22) rfl rfl (aI (o':=1) dV rfl rfl rfl (aC (d:=22) rfl rfl (aJ isAgg3 rfl (aF (hS.at_ 0 rfl) rfl) rfl (aC (d:=22) rfl rfl (dU rfl rfl rfl (bA rfl rfl rfl (aB rfl rfl (bF (d:=27) rfl (fun hc=>?_) (fun hc=>?_)))))))))
     ·have hg27:=of_decide_eq_true hc;clear hc
      refine aE (d:=27) rfl rfl rfl rfl (aE (d:=27) rfl rfl rfl rfl (aE (d:=27) rfl rfl rfl rfl (aE (d:=27) rfl rfl rfl rfl (aE (d:=27) rfl rfl rfl rfl (aN rfl rfl rfl (aB rfl rfl (aE (d:=34) rfl rfl rfl rfl (aE (d:=34) rfl rfl rfl rfl (aE (d:=34) rfl rfl rfl rfl (aE (d:=34) rfl rfl rfl rfl (aE (d:=34) rfl rfl rfl rfl (aN rfl rfl rfl (aG (XF.thenN (cI rfl (aD (aH (aA rfl rfl (aG (XF.thenN (bH (XF.thenR (XF.res (bU results14 rfl) ?_)))))))))))))))))))))))
      exact ⟨dL (by unfold cM;rw [if_neg h1,if_pos (by omega)]),hS.below⟩
     ·have hg27:=of_decide_eq_false hc;clear hc
      have h2:¬ (a.st < 1∨4096 < a.st∨a.sy < 0∨4096 < a.sy):=by omega
      refine aC (d:=27) rfl rfl (aO (vs:=[_,_,_,_,_]) isAgg24 sizeOf24 rfl (aK.own (j:=0) (m:=5) (hS.at_ 0 rfl) rfl) rfl (aC (d:=27) rfl rfl (aI (o':=2) dW rfl rfl rfl (aC (d:=27) rfl rfl (aJ isAgg3 rfl (aF (hS.at_ 0 rfl) rfl) rfl (aC (d:=27) rfl rfl (bW (vs:=[_,_]) hS iN rfl (fF a a.s0 _) rfl fun W2 hS=>aC (d:=27) rfl rfl (cN rfl rfl (bA rfl rfl rfl (aB rfl rfl (bF (d:=34) rfl (fun hc=>?_) (fun hc=>?_))))))))))))
      ·have hg34:=hc;clear hc
       refine aE (d:=34) rfl rfl rfl rfl (aE (d:=34) rfl rfl rfl rfl (aE (d:=34) rfl rfl rfl rfl (aE (d:=34) rfl rfl rfl rfl (aE (d:=34) rfl rfl rfl rfl (aN rfl rfl rfl (aG (XF.thenN (cI rfl (aD (aH (aA rfl rfl (aG (XF.thenN (bH (XF.thenR (XF.res (bU results14 rfl) ?_))))))))))))))))
       exact ⟨dL (by unfold cM;rw [if_neg h1,if_neg h2,if_neg (by simp at *;simp [*])]),hS.below⟩
      ·have hg34:=hc;clear hc
       refine aC (d:=34) rfl rfl (aO (vs:=[_,_,_,_,_]) isAgg24 sizeOf24 rfl (aK.own (j:=0) (m:=5) (hS.at_ 0 rfl) rfl) rfl (aC (d:=34) rfl rfl (aI (o':=3) eU rfl rfl rfl (aC (d:=34) rfl rfl (aJ isAgg3 rfl (aF (hS.at_ 0 rfl) rfl) rfl (aC (d:=34) rfl rfl (bW (vs:=[_,_]) hS iN rfl (fF a a.e0 _) rfl fun W3 hS=>aC (d:=34) rfl rfl (cN rfl rfl (bA rfl rfl rfl (aG (XF.thenN (bC rfl (fun hc=>?_) (fun hc=>?_)))))))))))))
       ·have hc40:=hc;clear hc
        refine aD (aH (aA rfl rfl (aG (XF.thenN (bH (XF.thenR (XF.res (bU results14 rfl) ?_)))))))
        exact ⟨dL (by unfold cM;rw [if_neg h1,if_neg h2,if_neg (by simp at *;simp [*])]),hS.below⟩
       ·have hc40:=hc;clear hc
        have h3:inQ a.s0 a.st=true∧inQ a.e0 a.st=true:=by simp at *;simp [*]
        refine aS (XF.thenN (aD (aD (aH (aA rfl rfl (aG (XF.thenN (aL (cE (fun m l W=>∃ i:Nat,i≤a.al∧m=a.al - i∧l=[(1,.pointer (some ⟨B1,0,none⟩)),(3,.int .i64 (i:Int))]∧(a.ar.take i).all (arB a.st a.sy)=true∧St w [(B1,a.cells,24)] [] [] W) (a.al - 0) ([(1,_),(3,_)]) ⟨rfl,rfl,trivial⟩ (⟨0,Nat.zero_le _,rfl,rfl,rfl,hS.clear⟩) ?_)))))))))
        clear hS
        rintro m l W ⟨i,hi,rfl,rfl,hall,hS⟩
        refine aD (aD (aH (aB rfl rfl (aI (o':=4) cR rfl rfl rfl (aJ isAgg22 rfl (aF (hS.at_ 0 rfl) rfl) rfl (bN underlying22 rfl rfl (bK rfl rfl rfl (aG (XF.thenN (bC rfl (fun hc=>?_) (fun hc=>?_)))))))))))
        ·have hc45:=of_decide_eq_true hc;clear hc
         obtain ⟨t,ht⟩:∃ t,a.ar[i]?=some t:=⟨_,List.getElem?_eq_getElem (by have:=hA.alen;omega)⟩
         obtain ⟨b,off,haa,hcs⟩:=hA.arow i t ht
         have k1:=aK.agree hS.agree (Nat.zero_le _) hcs
         refine aS (XF.thenN (aD (aL (aD (aH (aI (o':=4) cR rfl rfl rfl (aJ isAgg22 rfl (aF (hS.at_ 0 rfl) rfl) rfl (aB rfl rfl ?_))))))))
         refine aQ (j:=i) (b:=b) (o:=off) (m:=a.al) (c:=a.ac) underlying22 sizeOf57 (by show some (Value.slice _ _ _)=_;rw [haa]) rfl rfl (by omega) rfl rfl ?_
         refine aO (vs:=[_,_,_]) isAgg57 sizeOf57 rfl k1 rfl (bS (cs:=[_,_,_]) hS zeroValue57 rfl rfl fun B4 W4 hS=>bQ (i:=0) (vs:=[_,_,_]) (cs':=[_,_,_]) (O':=[_,_]) hS sizeOf57 rfl rfl rfl rfl rfl rfl rfl fun W5 hS=>aG (XF.thenN (aD (aH (aO (vs:=[_,_,_,_,_]) isAgg24 sizeOf24 rfl (aK.own (j:=0) (m:=5) (hS.at_ 1 rfl) rfl) rfl (aI (o':=0) eV rfl rfl rfl (aJ isAgg3 rfl (aF (hS.at_ 0 rfl) rfl) rfl (bW (vs:=[_,_]) hS iN rfl (fF a t.f _) rfl fun W6 hS=>cN rfl rfl (aB rfl rfl (bF (d:=58) rfl (fun hc=>?_) (fun hc=>?_)))))))))))
         ·have hg58:=hc;clear hc
          refine aE (d:=58) rfl rfl rfl rfl (aE (d:=58) rfl rfl rfl rfl (aE (d:=58) rfl rfl rfl rfl (aE (d:=58) rfl rfl rfl rfl (aE (d:=58) rfl rfl rfl rfl (aN rfl rfl rfl (aB rfl rfl (aE (d:=65) rfl rfl rfl rfl (aE (d:=65) rfl rfl rfl rfl (aE (d:=65) rfl rfl rfl rfl (aN rfl rfl rfl (aB rfl rfl (aE (d:=70) rfl rfl rfl rfl (aE (d:=70) rfl rfl rfl rfl (aE (d:=70) rfl rfl rfl rfl (aE (d:=70) rfl rfl rfl rfl (aE (d:=70) rfl rfl rfl rfl (aN rfl rfl rfl (aG (XF.thenN (cI rfl (aD (aH (aA rfl rfl (aG (XF.thenN (bH (XF.blkR (XF.thenR (XF.thenR (XF.blkR (XF.thenR (XF.res (bU results14 rfl) ?_))))))))))))))))))))))))))))))))
          exact ⟨dL (by unfold cM;rw [if_neg h1,if_neg h2,if_pos h3,if_neg (by rw [bZ ht (by unfold arB;simp at *;simp [*];try omega)];decide)]),hS.below⟩
         ·have hg58:=hc;clear hc
          refine aC (d:=58) rfl rfl (aO (vs:=[_,_,_,_,_]) isAgg24 sizeOf24 rfl (aK.own (j:=0) (m:=5) (hS.at_ 1 rfl) rfl) rfl (aC (d:=58) rfl rfl (aI (o':=2) dH rfl rfl rfl (aC (d:=58) rfl rfl (aJ isAgg3 rfl (aF (hS.at_ 0 rfl) rfl) rfl (aC (d:=58) rfl rfl (bW (vs:=[_,_]) hS iN rfl (fF a t.q _) rfl fun W7 hS=>aC (d:=58) rfl rfl (cN rfl rfl (bA rfl rfl rfl (aB rfl rfl (bF (d:=65) rfl (fun hc=>?_) (fun hc=>?_))))))))))))
          ·have hg65:=hc;clear hc
           refine aE (d:=65) rfl rfl rfl rfl (aE (d:=65) rfl rfl rfl rfl (aE (d:=65) rfl rfl rfl rfl (aN rfl rfl rfl (aB rfl rfl (aE (d:=70) rfl rfl rfl rfl (aE (d:=70) rfl rfl rfl rfl (aE (d:=70) rfl rfl rfl rfl (aE (d:=70) rfl rfl rfl rfl (aE (d:=70) rfl rfl rfl rfl (aN rfl rfl rfl (aG (XF.thenN (cI rfl (aD (aH (aA rfl rfl (aG (XF.thenN (bH (XF.blkR (XF.thenR (XF.thenR (XF.blkR (XF.thenR (XF.res (bU results14 rfl) ?_)))))))))))))))))))))))))
           exact ⟨dL (by unfold cM;rw [if_neg h1,if_neg h2,if_pos h3,if_neg (by rw [bZ ht (by unfold arB;simp at *;simp [*];try omega)];decide)]),hS.below⟩
          ·have hg65:=hc;clear hc
           refine aC (d:=65) rfl rfl (aI (o':=1) dE rfl rfl rfl (aC (d:=65) rfl rfl (aJ isAgg3 rfl (aF (hS.at_ 0 rfl) rfl) rfl (aC (d:=65) rfl rfl (bK rfl rfl rfl (bA rfl rfl rfl (aB rfl rfl (bF (d:=70) rfl (fun hc=>?_) (fun hc=>?_)))))))))
           ·have hg70:=of_decide_eq_true hc;clear hc
            refine aE (d:=70) rfl rfl rfl rfl (aE (d:=70) rfl rfl rfl rfl (aE (d:=70) rfl rfl rfl rfl (aE (d:=70) rfl rfl rfl rfl (aE (d:=70) rfl rfl rfl rfl (aN rfl rfl rfl (aG (XF.thenN (cI rfl (aD (aH (aA rfl rfl (aG (XF.thenN (bH (XF.blkR (XF.thenR (XF.thenR (XF.blkR (XF.thenR (XF.res (bU results14 rfl) ?_))))))))))))))))))))
            exact ⟨dL (by unfold cM;rw [if_neg h1,if_neg h2,if_pos h3,if_neg (by rw [bZ ht (by unfold arB;simp at *;simp [*];try omega)];decide)]),hS.below⟩
           ·have hg70:=of_decide_eq_false hc;clear hc
            refine aC (d:=70) rfl rfl (aI (o':=1) dE rfl rfl rfl (aC (d:=70) rfl rfl (aJ isAgg3 rfl (aF (hS.at_ 0 rfl) rfl) rfl (aC (d:=70) rfl rfl (aI (o':=1) dV rfl rfl rfl (aC (d:=70) rfl rfl (aJ isAgg3 rfl (aF (hS.at_ 1 rfl) rfl) rfl (aC (d:=70) rfl rfl (eF rfl rfl rfl (bA rfl rfl rfl (aG (XF.thenN (bC rfl (fun hc=>?_) (fun hc=>?_))))))))))))))
            ·have hc76:=of_decide_eq_true hc;clear hc
             refine aD (aH (aA rfl rfl (aG (XF.thenN (bH (XF.blkR (XF.thenR (XF.thenR (XF.blkR (XF.thenR (XF.res (bU results14 rfl) ?_)))))))))))
             exact ⟨dL (by unfold cM;rw [if_neg h1,if_neg h2,if_pos h3,if_neg (by rw [bZ ht (by unfold arB;simp at *;simp [*];try omega)];decide)]),hS.below⟩
            ·have hc76:=of_decide_eq_false hc;clear hc
             refine aS (XF.blkN (XF.thenN (aH (aB rfl rfl (bB rfl rfl (IntWalk.i64_in _ (by omega)) rfl (aA rfl rfl (aG ?_)))))))
             exact XF.round (a.al - (i+1)) [(1,_),(3,_)] (by omega) ⟨rfl,rfl,trivial⟩ ⟨i+1,by omega,rfl,rfl,dP ht hall (by unfold arB;simp at *;simp [*];try omega),hS.tail.clear⟩
        ·have hc45:=of_decide_eq_false hc;clear hc
         rw [List.take_of_length_le (by have:=hA.alen;omega)] at hall
         refine bX (XF.thenX (XF.thenX (XF.blkX (XF.thenN (aD (aH (aA rfl rfl (aG (XF.thenN (bH (XF.res (bU results14 rfl) ?_)))))))))))
         exact ⟨dL (by unfold cM;rw [if_neg h1,if_neg h2,if_pos h3,if_pos hall]),hS.below⟩
theorem kG (a:NfV) (la:Option Addr) (ll lc:Nat) (ls:List Int) (w:World) (hA:NIn w a) (hl:Row w la ls) (hll:ls.length=ll) (hlm:ll≤9223372036854775807) :
  Calls prog 23 #[a.val,.slice la ll lc] w (fun e w'=>e = .returned (.int .i64 (cH a ls))∧Below w.heap.size w w'):=by
 refine bE (args:=[a.val,.slice la ll lc]) func23 rfl ntmps23 rfl ?_
 have hS:=St.start w
 refine aD (aH (bY (cs:=[_,_,_,_,_]) hS rfl rfl rfl fun B1 W1 hS=>aA rfl rfl (aG (XF.thenN (aD (aD (aH (aO (vs:=[_,_,_,_,_]) isAgg24 sizeOf24 rfl (aK.own (j:=0) (m:=5) (hS.at_ 0 rfl) rfl) rfl (bW (vs:=[_]) hS jO rfl (jP a _ (hA.below hS.below)) rfl fun W2 hS=>aA rfl rfl (aG (XF.thenN (aD (aH (aB rfl rfl (eM rfl rfl rfl (aG (XF.thenN (bC rfl (fun hc=>?_) (fun hc=>?_)))))))))))))))))))
 ·have hc11:=of_decide_eq_true hc;clear hc
  refine aD (aH (aB rfl rfl (aA rfl rfl (aG (XF.thenN (bH (XF.thenR (XF.res (bU results23 rfl) ?_))))))))
  exact ⟨dL (by unfold cH;rw [if_pos hc11]),hS.below⟩
 ·have hc11:=of_decide_eq_false hc;clear hc
  refine aS (XF.thenN (aD (aD (aH (aB rfl rfl (bN underlying25 rfl rfl (aB rfl rfl (aG (XF.thenN (aL (cE (fun m l W=>∃ i:Nat,i≤ll∧m=ll - i∧l=[(1,.slice la ll lc),(2,.pointer (some ⟨B1,0,none⟩)),(13,.slice la ll lc),(14,.int .i64 (ll:Int)),(15,.int .i64 (i:Int))]∧(ls.take i).all (fun s=>inQ s a.st)=true∧St w [(B1,a.cells,24)] [] [] W) (ll - 0) ([(1,_),(2,_),(13,_),(14,_),(15,_)]) ⟨rfl,rfl,rfl,rfl,rfl,trivial⟩ (⟨0,Nat.zero_le _,rfl,rfl,rfl,hS.clear⟩) ?_)))))))))))
  clear hS
  rintro m l W ⟨i,hi,rfl,rfl,hall,hS⟩
  refine aD (aH (bK rfl rfl rfl (aG (XF.thenN (aD (bC rfl (fun hc=>?_) (fun hc=>?_)))))))
  ·have hc16:=of_decide_eq_true hc;clear hc
   obtain ⟨b,off,y,hla,hy,hyc⟩:=hl.at1 (show i < ls.length by omega)
   have k2:=hS.old hyc
   refine aS (XF.thenN (aD (aL (aD (aH ?_)))))
   refine aQ (j:=i) (b:=b) (o:=off) (m:=ll) (c:=lc) underlying25 sizeOf3 (by show some (Value.slice _ _ _)=_;rw [hla]) rfl rfl (by omega) rfl rfl ?_
   refine aJ isAgg3 rfl (k2) rfl (aA rfl rfl (aG (XF.thenN (aD (aH (aO (vs:=[_,_,_,_,_]) isAgg24 sizeOf24 rfl (aK.own (j:=0) (m:=5) (hS.at_ 0 rfl) rfl) rfl (aB rfl rfl (bW (vs:=[_,_]) hS iM rfl (eE a y _) rfl fun W3 hS=>cN rfl rfl (aG (XF.thenN (bC rfl (fun hc=>?_) (fun hc=>?_))))))))))))
   ·have hc22:=hc;clear hc
    refine aD (aH (aA rfl rfl (aG (XF.thenN (bH (XF.blkR (XF.thenR (XF.thenR (XF.blkR (XF.thenR (XF.res (bU results23 rfl) ?_)))))))))))
    exact ⟨dL (by unfold cH;rw [if_neg hc11,if_neg (by rw [bZ hy (by simpa using hc22)];decide)]),hS.below⟩
   ·have hc22:=hc;clear hc
    refine aS (XF.blkN (XF.thenN (aH (bB rfl rfl (IntWalk.i64_in _ (by omega)) rfl (aB rfl rfl (aG ?_))))))
    exact XF.round (ll - (i+1)) [(1,_),(2,_),(13,_),(14,_),(15,_)] (by omega) ⟨rfl,rfl,rfl,rfl,rfl,trivial⟩ ⟨i+1,by omega,rfl,rfl,dP hy hall (by simpa using hc22),hS.clear⟩
  ·have hc16:=of_decide_eq_false hc;clear hc
   rw [List.take_of_length_le (by omega)] at hall
   refine bX (XF.thenX (XF.thenX (XF.blkX (XF.thenN (aD (aH (aA rfl rfl (aG (XF.thenN (bH (XF.res (bU results23 rfl) ?_)))))))))))
   exact ⟨dL (by unfold cH;rw [if_neg hc11,if_pos hall]),hS.below⟩
def zI (l:List Int):List Value:=l.map (fun x=>Value.int .i64 x)
def zB (l:List Bool):List Value:=l.map Value.bool
theorem iA {l:List Int}:(zI l).length=l.length:=List.length_map _
theorem lU {l:List Bool}:(zB l).length=l.length:=List.length_map _
theorem jI {l:List Int} {i:Nat} (h:i < l.length):(zI l)[0+i * 1]?=some (.int .i64 (l.getD i 0)):=by
 rw [Nat.zero_add,Nat.mul_one];unfold zI;simp [h]
theorem mX {l:List Bool} {i:Nat} (h:i < l.length):(zB l)[0+i * 1]?=some (.bool (l.getD i false)):=by
 rw [Nat.zero_add,Nat.mul_one];unfold zB;simp [h]
theorem oI {l:List Int} {i:Nat} {x:Int}:(zI l).set (0+i * 1) (.int .i64 x)=zI (l.set i x):=by
 rw [Nat.zero_add,Nat.mul_one];unfold zI;rw [List.map_set]
theorem lV {l:List Bool} {i:Nat} {x:Bool}:(zB l).set (0+i * 1) (.bool x)=zB (l.set i x):=by
 rw [Nat.zero_add,Nat.mul_one];unfold zB;rw [List.map_set]
theorem lW {l:List Int} {x:Int}:zI l++[Value.int .i64 x]=zI (l++[x]):=by simp [zI]
theorem madeI (m:Nat):madeCells (Value.int .i64 0).cells (m * 1)=(zI (List.replicate m 0)).toArray:=by
 unfold zI;rw [List.map_replicate,Nat.mul_one];exact oE _ _
theorem tM (m:Nat):madeCells (Value.bool false).cells (m * 1)=(zB (List.replicate m false)).toArray:=by
 unfold zB;rw [List.map_replicate,Nat.mul_one];exact oE _ _
theorem madeS (m:Nat):madeCells (Value.slice none 0 0).cells (m * 1)=(List.replicate m (Value.slice none 0 0)).toArray:=by
 rw [Nat.mul_one];exact oE _ _
theorem gY {α:Type}:∀ (l:List α) (i:Nat) (h:i < l.length),(l[i]::l.eraseIdx i).Perm l
 | x::l,0,_=>List.Perm.refl _
 | x::l,i+1,h=>(List.Perm.swap x (l[i]'(Nat.lt_of_succ_lt_succ h)) (l.eraseIdx i)).trans ((gY l i (Nat.lt_of_succ_lt_succ h)).cons x)
structure OV where
 v:Value
 n:Nat
 xs:List Value
abbrev tN:OV:=⟨.slice none 0 0,0,[]⟩
abbrev OV.gr (o:OV) (T:TypeId) (k:Nat):GR:=⟨o.v,o.n,o.xs,T,k⟩
def gI (T:TypeId) (k:Nat) (vs:List OV):aX:=vs.map (fun o=>o.gr T k)
section
variable {w0 W:World} {O:Own} {G G':aX} {K:List (Nat×World)} {T:TypeId} {k:Nat} {vs:List OV}
theorem St.permGN (h:St w0 O G K W) (hp:G.Perm G'):St w0 O G' K W where
 below:=h.below
 own:=h.own
 dist:=h.dist
 kept:=h.kept
 rows:=fun g hg=>h.rows g (hp.mem_iff.2 hg)
 gdist:=h.gdist.perm hp (fun h b hb e=>h b e hb)
theorem mY {s:Nat} {o:OV} (hs:vs[s]?=some o):(gI T k vs++G).Perm (o.gr T k::(gI T k (vs.eraseIdx s)++G)):=by
 obtain ⟨h,rfl⟩:=List.getElem?_eq_some_iff.1 hs
 have h1:vs.Perm (vs[s]::vs.eraseIdx s):=(gY vs s h).symm
 exact (h1.map (fun o=>o.gr T k)).append_right G
theorem tO {s:Nat} {o:OV} (hs:s < vs.length):(o.gr T k::(gI T k (vs.eraseIdx s)++G)).Perm (gI T k (vs.set s o)++G):=by
 have h:=(mY (T:=T) (k:=k) (G:=G) (vs:=vs.set s o) (s:=s) (o:=o) (by rw [List.getElem?_set_self hs])).symm
 rwa [List.eraseIdx_set_eq] at h
theorem St.newRows (h:St w0 O G K W):∀ n,St w0 O (gI T k (List.replicate n tN)++G) K W
 | 0=>h
 | n+1=>(St.newRows h n).newG T k
theorem bT.moreN {Ka Kb:List (Nat×World)} {p:World→Prop} (h:bT w0 Ka p) (hk:∀ q∈Ka,q∈Kb):bT w0 Kb p:=fun h2 hq=>h h2 (fun q h9=>hq q (hk q h9))
theorem St.ownKeepN {b:Nat} {cs:List Value} (h:St w0 ((b,cs,T)::O) G K W):∃ Kn,(∀ q∈K,q∈Kn)∧bT w0 Kn (fun W2=>W2.heap[b]?=some (.cells cs.toArray T (0,0)))∧St w0 O G Kn W:=by
 have h1:=h.own _ List.mem_cons_self
 have hlt:=cT h1.2
 refine ⟨(b,kR W b)::K,fun q hq=>List.mem_cons_of_mem _ hq,fun h2 hk=>?_,h.tail.markBlk hlt (fun p hp e=>(List.pairwise_cons.1 h.dist).1 p hp e.symm) (fun g hg k hk e=>((h.rows g hg).2 k hk).1 _ List.mem_cons_self e.symm)⟩
 have h3:=(h2.kept _ (hk _ List.mem_cons_self)).1.2 b (Nat.le_refl _) (pT hlt)
 exact h3.trans ((pU hlt).trans h1.2)
def kH (o:OV) (W:World):Prop:=∃ a c,o.v = .slice a o.n c∧o.n≤c∧∀ (j:Nat) u,o.xs[j]?=some u→∃ b,a=some ⟨b,0,none⟩∧W.cell? ⟨b,0+j,none⟩=some u
theorem St.rowKeepN {o:OV} (h:St w0 O (o.gr T k::G) K W):∃ Kn,(∀ q∈K,q∈Kn)∧bT w0 Kn (kH o)∧St w0 O G Kn W:=by
 obtain ⟨v,n,xs⟩:=o
 have hrow:=h.row 0 rfl
 have hl:=hrow.1
 obtain ⟨a,c,e,hnc⟩:=cL hrow
 dsimp only at e hl hnc
 subst e
 rcases Nat.eq_zero_or_pos n with h0 | h0
 ·subst h0
  have e:xs=[]:=List.eq_nil_of_length_eq_zero (by simpa using hl)
  subst e
  exact ⟨K,fun q hq=>hq,fun _ _=>⟨a,c,rfl,hnc,fun j u hu=>(by cases hu)⟩,h.tailG⟩
 ·obtain ⟨b,cs,rfl,_,_,_,h1⟩:=St.rowOwnE h h0
  obtain ⟨Kn,k1,k2,k3⟩:=h1.ownKeepN
  refine ⟨Kn,k1,fun h2 hk=>⟨_,c,rfl,hnc,fun j u hu=>⟨b,rfl,?_⟩⟩,k3⟩
  rw [Nat.zero_add]
  exact aF (k2 h2 hk) (by rw [List.getElem?_append_left (List.getElem?_eq_some_iff.1 hu).1];exact hu)
theorem St.rowsKeepN:∀ (vs:List OV) {K:List (Nat×World)},St w0 O (gI T k vs++G) K W→∃ Kn,(∀ q∈K,q∈Kn)∧bT w0 Kn (fun W2=>∀ o∈vs,kH o W2)∧St w0 O G Kn W
 | [],K,h=>⟨K,fun q hq=>hq,fun _ _ o ho=>(by cases ho),h⟩
 | o::vs,K,h=>by
  obtain ⟨K1,k1,g1,h1⟩:=St.rowKeepN (G:=gI T k vs++G) h
  obtain ⟨K2,k2,g2,h2⟩:=St.rowsKeepN vs h1
  exact ⟨K2,fun q hq=>k2 q (k1 q hq),fun h9 hk9 o' ho'=>(by
   rcases List.mem_cons.1 ho' with rfl | ho'
   ·exact g1 h9 (fun q hq=>hk9 q (k2 q hq))
   ·exact g2 h9 hk9 o' ho'),h2⟩
end
section
variable {P:Program} {n:Nat} {Q:Exit→Act→World→Prop} {ops:Array Oper} {i d:Nat} {ty:TypeId} {pos:String} {aft:Array Edge}
theorem evl2n {a:Act} {t u:Nat} {v x:Value} (h:a.eval (.tmp t)=v) (k:a.eval (.tmp u)=x):∀ z y,evL [(t,v),(u,x)] z=some y→a.eval z=y:=by
 intro z y hz
 cases z with
 | tmp s =>
  simp only [evL,look] at hz
  cases hb:Nat.beq t s with
  | true=>simp [hb] at hz;rw [← Nat.eq_of_beq_eq_true hb,← hz];exact h
  | false =>
   cases hc:Nat.beq u s with
   | true=>simp [hb,hc] at hz;rw [← Nat.eq_of_beq_eq_true hc,← hz];exact k
   | false=>simp [hb,hc] at hz
 | const c=>exact Option.some.inj hz
 | global g=>exact Option.some.inj hz
 | func f=>exact Option.some.inj hz
theorem mk_rowS {t E:TypeId} {z:Value} {s k:Nat} {a:Act} {w:World} {v:Value} {vs:List Value} {R:Value→Own→World→Prop} (hi:ops[i]?=some ⟨some d,.buildSlice t 1 #[(0,.tmp s)],ty,pos,aft,none⟩) (hU:P.underlying t=some (.slice E)) (hs:∀ w,(sizeOf E).run P w = .ok k w) (hk0:0 < k) (hk1:k≤1000) (hz:∀ w,(zeroValue E).run P w = .ok z w) (hf:Instr.fill (fun i=>some (i * k,k)) ((Array.range (1 * k)).map (z.cells[· % z.cells.size]!)) [(0,v)]=some (List.toArray vs)) (hv:a.eval (.tmp s)=v)
  (h:∃ ON,R (.slice (some ⟨w.heap.size,0,none⟩) 1 1) ON (w.alloc (.cells (List.toArray vs) E))):wpOp P ops Q i (fun a' w'=>∃ v ON,a'=a.put ((ops[i]?).bind (·.dst)) v∧R v ON w') a w:=by
 obtain ⟨ON,h9⟩:=h
 refine kE (v:=.slice (some ⟨w.heap.size,0,none⟩) 1 1) (w':=w.alloc (.cells (List.toArray vs) E)) hi rfl ?_ ⟨_,ON,by rw [hi];rfl,h9⟩
 unfold execOp
 simp only [List.map_toArray,List.map_cons,List.map_nil,hv]
 simp only [Instr.buildSlice,Sem.run_bind,run_underlying hU,Result.andThen_ok,hs,if_neg (show ¬ (1 * k > 2 ^ 24) by omega),if_neg (show ¬ (1 * k=0) by omega),hz,Sem.run_pure,hf,newRow,run_newObj_alloc]
theorem mk_app {t e:TypeId} {tx tyy m gn B:Nat} {v0:Value} {gxs news:List Value} {inf:TypeInfo} {z:Value} {a:Act} {w w0:World} {O:Own} {G:aX} {K:List (Nat×World)} {c:Nat} {R:Value→Own→World→Prop} (hi:ops[i]?=some ⟨some d,.call { callee:=.builtin .append,args:=#[.tmp tx,.tmp tyy],argTypes:=#[t,t] },ty,pos,aft,none⟩)
  (hU:P.underlying t=some (.slice e)) (hinf:P.info? e=some inf) (hz:inf.zero=some z) (hzs:z.cells.size=inf.size) (hsz:0 < inf.size) (hx:a.eval (.tmp tx)=v0) (hy:a.eval (.tmp tyy) = .slice (some ⟨B,0,none⟩) m c)
  (hS:St w0 O (⟨v0,gn,gxs,e,inf.size⟩::G) K w) (hn:∀ (j:Nat) u,news[j]?=some u→w.cell? ⟨B,0+j,none⟩=some u) (hl:news.length=m * inf.size) (h1:∀ u∈news,u.oneCell'=true) (h63:gn+m≤maxLen) (hbytes:(gn+m) * inf.bytes≤140737488355328)
  (h:∀ v' w',St w0 O (⟨v',gn+m,gxs++news,e,inf.size⟩::G) K w'→∃ ON,R v' ON w'):wpOp P ops Q i (fun a' w'=>∃ v ON,a'=a.put ((ops[i]?).bind (·.dst)) v∧R v ON w') a w:=by
 have hrow:=hS.row 0 rfl
 obtain ⟨v',W',hr,h2,h3,h4⟩:=gA (P:=P) (w:=w) w0.heap.size t ty e inf z hU hinf hz hzs hsz v0 gn gxs hrow ⟨B,0,none⟩ m c news hl (fun j u hu=>by
  have h8:=hn j u hu
  simp only [Addr.add]
  split
  ·rename_i e;subst e;simpa using h8
  ·simpa using h8) h1 h63 hbytes hS.below.size
 obtain ⟨ON,h9⟩:=h v' W' (hS.setG 0 rfl h2 h3 h4)
 refine kE (w':=W') (v:=v') hi rfl ?_ ⟨v',ON,by rw [hi];rfl,h9⟩
 unfold execOp
 simp only [resolve,invoke,builtin,Sem.run_bind,Sem.run_pure,Result.andThen_ok,List.map_toArray,List.map_cons,List.map_nil,hx,hy,hr]
end
theorem oJ (v0a:Option Addr) (v0l:Nat) (v0c:Nat) (v1a:Option Addr) (v1l:Nat) (v1c:Nat):prog.built 73 [(0,.slice v0a v0l v0c),(1,.slice v1a v1l v1c)]=some #[.slice v0a v0l v0c,.slice v1a v1l v1c,.int .i64 0]:=by kernel_rfl
theorem pX (v00:Value) (v01:Value) (v02:Value):Instr.fill (fun i=>some (i * 3,3)) ((Array.range (1 * 3)).map ((Value.cells (.agg #[.int .i64 0,.int .i64 0,.int .i64 0]))[· % (Value.cells (.agg #[.int .i64 0,.int .i64 0,.int .i64 0])).size]!)) [(0,.agg #[v00,v01,v02])]=some (List.toArray [v00,v01,v02]):=by kernel_rfl
theorem gQ (w:World) (b o:Nat):(Instr.fieldAt 73 (.pointer (some ⟨b,o,none⟩)) 0).run prog w = .ok (.pointer (some ⟨b,o+0,none⟩)) w:=by
 simp [Instr.fieldAt,run_underlying underlying73,Instr.sureAddr,go_sem,Addr.add_lit]
theorem inf_22:prog.info? 22=some Try.t22:=by kernel_rfl
theorem oK:prog.info? 57=some Try.t57:=by kernel_rfl
def outs (L:List ArV) (s:Nat):List ArV:=L.filter (fun t=>decide (t.f=(s:Int)))
theorem rI {L:List ArV} {i:Nat} {t:ArV} (ht:L[i]?=some t) (s:Nat):outs (L.take (i+1)) s=outs (L.take i) s++(if t.f=(s:Int) then [t] else []):=by
 unfold outs
 rw [List.take_add_one,ht,List.filter_append]
 congr 1
 show List.filter _ [t]=_
 by_cases h:t.f=(s:Int)
 ·rw [if_pos h,List.filter_cons_of_pos (by simpa using h)];rfl
 ·rw [if_neg h,List.filter_cons_of_neg (by simpa using h)];rfl
theorem gJ {r:ArV}:∀ (L:List ArV) (i j:Nat),L[i]?=some r→j < 3→(L.flatMap ArV.three)[i * 3+j]?=r.three[j]?
 | t::L,0,j,h,hj=>by
  obtain rfl:t=r:=by simpa using h
  rw [List.flatMap_cons,Nat.zero_mul,Nat.zero_add,List.getElem?_append_left (by exact hj)]
 | t::L,i+1,j,h,hj=>by
  rw [List.flatMap_cons,List.getElem?_append_right (by show 3≤_;omega),show (i+1) * 3+j - t.three.length=i * 3+j by show (i+1) * 3+j - 3=_;omega]
  exact gJ L i j (by simpa using h) hj
def VOk (vs:List OV) (L:List ArV):Prop:=∀ (s:Nat) o,vs[s]?=some o→o.n=(outs L s).length∧o.xs=(outs L s).flatMap ArV.three
theorem VOk.step {vs:List OV} {L:List ArV} {i p:Nat} {t:ArV} {o:OV} {v:Value} (h:VOk vs (L.take i)) (ht:L[i]?=some t) (hp:t.f=(p:Int)) (ho:vs[p]?=some o):VOk (vs.set p ⟨v,o.n+1,o.xs++t.three⟩) (L.take (i+1)):=fun s o2 h2=>by
 rw [rI ht]
 by_cases hs:s=p
 ·subst hs
  rw [List.getElem?_set_self (List.getElem?_eq_some_iff.1 ho).1] at h2
  obtain rfl:=Option.some.inj h2
  obtain ⟨e1,e2⟩:=h s o ho
  rw [if_pos hp,List.length_append,List.flatMap_append,e1,e2]
  exact ⟨rfl,by simp⟩
 ·rw [List.getElem?_set_ne (fun e=>hs e.symm)] at h2
  rw [if_neg (by omega),List.append_nil]
  exact h s o2 h2
def iO (W:World) (OB n:Nat) (L:List ArV) (va:Nat→Option Addr) (vc:Nat→Nat):Prop:=∀ s,s < n→W.cell? ⟨OB,0+s * 1,none⟩=some (.slice (va s) (outs L s).length (vc s))∧jL W (va s) (outs L s)
def vaOf (vs:List OV) (s:Nat):Option Addr:=match (vs.getD s tN).v with | .slice a _ _=>a | _=>none
def vcOf (vs:List OV) (s:Nat):Nat:=match (vs.getD s tN).v with | .slice _ _ c=>c | _=>0
theorem out_of {W:World} {OB n:Nat} {T:TypeId} {vs:List OV} {L:List ArV} (hl:vs.length=n) (hok:VOk vs L) (hB:W.heap[OB]?=some (.cells (vs.map (·.v)).toArray T (0,0))) (hR:∀ o∈vs,kH o W):iO W OB n L (vaOf vs) (vcOf vs):=fun s hs=>by
 obtain ⟨o,ho⟩:∃ o,vs[s]?=some o:=⟨_,List.getElem?_eq_getElem (by omega)⟩
 obtain ⟨e1,e2⟩:=hok s o ho
 obtain ⟨a,c,hv,hc,hx⟩:=hR o (List.mem_of_getElem? ho)
 have h1:vs.getD s tN=o:=by rw [List.getD_eq_getElem?_getD,ho];rfl
 have ha:vaOf vs s=a:=by unfold vaOf;rw [h1,hv]
 have hcc:vcOf vs s=c:=by unfold vcOf;rw [h1,hv]
 rw [ha,hcc]
 refine ⟨aF hB ?_,fun i r hi=>?_⟩
 ·rw [Nat.zero_add,Nat.mul_one,List.getElem?_map,ho]
  show some o.v=_
  rw [hv,e1]
 ·have h3:∀ (j:Nat) v,r.three[j]?=some v→o.xs[i * 3+j]?=some v:=fun j v hj=>by
   rw [e2,gJ _ i j hi (List.getElem?_eq_some_iff.1 hj).1];exact hj
  obtain ⟨b,rfl,_⟩:=hx (i * 3+0) _ (h3 0 _ rfl)
  refine ⟨b,0,rfl,aK.of fun j v hj=>?_⟩
  obtain ⟨b2,e9,h9⟩:=hx _ _ (h3 j v hj)
  obtain rfl:b=b2:=by simpa using e9
  rw [Nat.add_assoc];exact h9
theorem nNew_c (n:Nat) (sy s0 e0:Int) (aa:Option Addr) (al ac:Nat) (ar:List ArV) (k:Int) (Kt:List (Nat×World)) (Ot:Own) (G:aX) (K:List (Nat×World)) (w0 w:World) (hS0:St w0 Ot G K w) (hKt:∀ q∈Kt,q∈K) (hA:bT w0 Kt (fun W=>NIn W ⟨(n:Int),sy,s0,e0,aa,al,ac,ar⟩)) (hn1:1≤n) (hn4:n≤4096) (hal:al≤65536) (hO:eX n k ar) :
  Calls prog 24 #[(NfV.mk (n:Int) sy s0 e0 aa al ac ar).val] w (fun e w'=>∃ (RB SB OB:Nat) (va:Nat→Option Addr) (vc:Nat→Nat) (Kn:List (Nat×World)),e = .returned (.pointer (some ⟨RB,0,none⟩))∧(∀ q∈K,q∈Kn)∧bT w0 Kn (fun W=>iO W OB n ar va vc)∧St w0 ((RB,[.slice (some ⟨OB,0,none⟩) n n,.slice (some ⟨SB,0,none⟩) n n,.int .i64 0],73)::(SB,zI (List.replicate n 0),3)::Ot) G Kn w'):=by
 refine bE (args:=[(NfV.mk (n:Int) sy s0 e0 aa al ac ar).val]) func24 rfl ntmps24 rfl ?_
 have hS:=hS0
 have hA0:=hA hS0 hKt
 have hlen:ar.length=al:=hA0.alen
 refine aD (aH (bY (cs:=[_,_,_,_,_]) hS rfl rfl rfl fun B1 W1 hS=>aA rfl rfl (aG (XF.thenN (aD (regY (al:=[⟨2,22,List.replicate n (.slice none 0 0),11⟩,⟨5,3,zI (List.replicate n 0),14⟩]) (G:=fun _=>G) (E:=[2,5]) (k:=6) (ds:=[3,12,13]) cQ rfl hS rfl rfl (by kernel_rfl) (by kernel_rfl) rfl (by decide) rfl (fD 1 rfl (isV _) (syV iJ [(1,_)] rfl rfl (fun _=>(bO rfl)) (fun _=>⟨dR rfl,trivial⟩) (fun s w hw=>cF (o':=0) cW rfl rfl) (aV rfl)) (fD 2 rfl (isV _) (syV iJ [(6,_)] rfl rfl (fun _=>(bO rfl)) (fun _=>⟨aW 0 (at_n rfl rfl (aM rfl rfl rfl)),trivial⟩) (fun s w hw=>bR isAgg3 rfl ((aF (hw.at_ 0 rfl) rfl))) (aV rfl)) ?_))))))))
 refine fD 3 rfl (mT W1.heap.size (n)) (pV (m:=n) (cs:=List.replicate n (.slice none 0 0)) (jx:=1) ⟨2,22,List.replicate n (.slice none 0 0),11⟩ rfl rfl underlying71 inf_22 rfl (madeS n) (by show (24:Int) * _≤_;omega) (by omega) (by kernel_rfl) (aM rfl rfl rfl) List.mem_cons_self rfl rfl rfl (.inr rfl) (by show List.Nodup [2,5];decide) rfl (fun _ _=>rfl) (aV rfl)) ?_
 refine fD 4 rfl (isV _) (syV iJ [(1,_)] rfl rfl (fun _=>(bO rfl)) (fun _=>⟨dR rfl,trivial⟩) (fun s w hw=>cF (o':=0) cW rfl rfl) (aV rfl)) (fD 5 rfl (isV _) (syV iJ [(9,_)] rfl rfl (fun _=>(bO rfl)) (fun _=>⟨aW 3 (at_n rfl rfl (aM rfl rfl rfl)),trivial⟩) (fun s w hw=>bR isAgg3 rfl ((aF (hw.at_ 0 rfl) rfl))) (aV rfl)) ?_)
 refine fD 6 rfl (mT W1.heap.size (n)) (pV (m:=n) (cs:=zI (List.replicate n 0)) (jx:=4) ⟨5,3,zI (List.replicate n 0),14⟩ rfl rfl underlying25 jH rfl (madeI n) (by show (8:Int) * _≤_;omega) (by omega) (by kernel_rfl) (aM rfl rfl rfl) (List.mem_cons_of_mem _ List.mem_cons_self) rfl rfl rfl (.inr rfl) (by show List.Nodup [2,5];decide) rfl (fun _ _=>rfl) (aV rfl)) ?_
 refine bly_nil ?_
 intro s2 W2 Ks2 hall2 hsz2 hKs2 hS' hcov2 hfx2 hno2
 obtain ⟨v2_2,h2_2⟩:=hall2 2 rfl
 obtain ⟨v2_5,h2_5⟩:=hall2 5 rfl
 have f2_2:AwS _ _ (mT W1.heap.size (n)) _ _:=hfx2 2 rfl _ h2_2
 obtain ⟨B2_2,rfl,hB2_2⟩:=f2_2.here
 have f2_5:AwS _ _ (mT W1.heap.size (n)) _ _:=hfx2 5 rfl _ h2_5
 obtain ⟨B2_5,rfl,hB2_5⟩:=f2_5.here
 clear hS;have hS:=hS'.castO (O':=((B2_2,_,22)::(B2_5,_,3)::_::Ot)) (by simp only [OY,iI,AB.cs,h2_2,h2_5,hno2 11 rfl,hno2 14 rfl];rfl);clear hS'
 refine tA (L':=[AwS _ _ (isV _),AwS _ _ (isV _),isE s2 2,AwS _ _ (isV _),AwS _ _ (isV _),isE s2 5]) rfl (cZ (cZ ?_))
 refine sV ?_;intro u hu;obtain rfl:=Option.some.inj (h2_2.symm.trans hu);clear hu
 refine cZ (cZ ?_)
 refine sV ?_;intro u hu;obtain rfl:=Option.some.inj (h2_5.symm.trans hu);clear hu
 refine dM (dF (us:=[(0,.slice _ _ _),(1,.slice _ _ _)]) rfl (oJ _ _ _ _ _ _) rfl (bY (cs:=[_,_,_]) hS rfl rfl rfl fun B3 W3 hS=>aA rfl rfl (aG (XF.thenN (aD (aD (aH (aI (o':=4) cR rfl rfl rfl (aJ isAgg22 rfl (aF (hS.at_ 3 rfl) rfl) rfl (bN underlying22 rfl rfl (aB rfl rfl (aG (XF.thenN (aL ?_))))))))))))))
 refine cE (fun m l W=>∃ (i:Nat) (vs:List OV),i≤al∧m=al - i∧l=[(3,.pointer (some ⟨B3,0,none⟩)),(15,.slice aa al ac),(16,.int .i64 (al:Int)),(17,.int .i64 (i:Int))]∧vs.length=n∧VOk vs (ar.take (i))∧St w0 ((B3,[.slice (some ⟨B2_2,0,none⟩) n n,.slice (some ⟨B2_5,0,none⟩) n n,.int .i64 0],73)::(B2_2,(vs).map (·.v),22)::(B2_5,zI (List.replicate n 0),3)::(B1,[.int .i64 (n:Int),.int .i64 sy,.int .i64 s0,.int .i64 e0,.slice aa al ac],24)::Ot) (gI 57 3 vs++G) K W) (al - 0) ([(3,_),(15,_),(16,_),(17,_)]) ⟨rfl,rfl,rfl,rfl,trivial⟩ (⟨0,List.replicate n tN,Nat.zero_le _,rfl,rfl,by simp,fun s o ho=>(by
  have:=List.eq_of_mem_replicate (List.mem_of_getElem? ho)
  subst this
  exact ⟨rfl,rfl⟩),by rw [List.map_replicate];exact (hS.newRows n).keep K (fun q hq=>by simp [hq])⟩) ?_
 clear hS
 rintro m l W ⟨i,vs,hi,rfl,rfl,hvl,hvs,hS⟩
 refine aD (aH (bK rfl rfl rfl (aG (XF.thenN (aD (bC rfl (fun hc=>?_) (fun hc=>?_)))))))
 ·have hc18:=of_decide_eq_true hc;clear hc
  obtain ⟨t,ht⟩:∃ t,ar[i]?=some t:=⟨_,List.getElem?_eq_getElem (by omega)⟩
  obtain ⟨b,off,haa,hcs⟩:=(hA (hS.keep K (fun q hq=>by simp [hq])) hKt).arow i t ht
  have haa:aa=some ⟨b,off,none⟩:=haa
  have k1:=hcs
  obtain ⟨⟨ht1,ht2⟩,_⟩:=hO t (List.mem_of_getElem? ht)
  obtain ⟨p,hpf⟩:∃ p:Nat,t.f=(p:Int):=⟨t.f.toNat,by omega⟩
  have hpn:p < n:=by omega
  obtain ⟨o,ho⟩:∃ o,vs[p]?=some o:=⟨_,List.getElem?_eq_getElem (by omega)⟩
  obtain ⟨ho1,ho2⟩:=hvs p o ho
  have hole:o.n≤65536:=by rw [ho1];exact Nat.le_trans (List.length_filter_le _ _) (by rw [List.length_take];omega)
  refine aS (XF.thenN (aD (aL (aD (aH ?_)))))
  refine aQ (j:=i) (b:=b) (o:=off) (m:=al) (c:=ac) underlying22 sizeOf57 (by show some (Value.slice _ _ _)=_;rw [haa]) rfl rfl (by omega) rfl rfl ?_
  refine aO (vs:=[_,_,_]) isAgg57 sizeOf57 rfl k1 rfl (bS (cs:=[_,_,_]) hS zeroValue57 rfl rfl fun B4 W4 hS=>bQ (i:=0) (vs:=[_,_,_]) (cs':=[_,_,_]) (O':=(_::_::_::_::_::Ot)) hS sizeOf57 rfl rfl rfl rfl rfl rfl rfl fun W5 hS=>aG (XF.thenN ?_))
  have hS9:=(hS.keep K (fun q hq=>by simp [hq])).permGN (mY (T:=57) (k:=3) (G:=G) ho)
  clear hS;have hS:=hS9;clear hS9
  refine regMk (mk:=[15,16]) (k:=18) (vals:=(fun i8=>match i8 with | 0=>.pointer (some ⟨B3,0,none⟩) | 1=>.pointer (some ⟨B3,0,none⟩) | 2=>.pointer (some ⟨B3,0+0,none⟩) | 3=>.slice (some ⟨B2_2,0,none⟩) n n | 4=>.pointer (some ⟨B4,0+0,none⟩) | 5=>.int .i64 t.f | 6=>.pointer (some ⟨B3,0,none⟩) | 7=>.pointer (some ⟨B3,0,none⟩) | 8=>.pointer (some ⟨B3,0+0,none⟩) | 9=>.slice (some ⟨B2_2,0,none⟩) n n | 10=>.pointer (some ⟨B4,0+0,none⟩) | 11=>.int .i64 t.f | 12=>.pointer (some ⟨B2_2,0+p * 1,none⟩) | 13=>o.v | 14=>.agg #[.int .i64 t.f,.int .i64 t.s,.int .i64 t.q] | _=>.pointer (some ⟨B2_2,0+p * 1,none⟩))) (Pm:=fun i v ON=>(i=16→ON=[(0,[v],0)])∧(i=15→∃ B,v = .slice (some ⟨B,0,none⟩) 1 1∧ON=[(B,t.three,57)])) (fun s w=>(s=[]∧St w0 ((B4,t.three,57)::(B3,[.slice (some ⟨B2_2,0,none⟩) n n,.slice (some ⟨B2_5,0,none⟩) n n,.int .i64 0],73)::(B2_2,(vs).map (·.v),22)::(B2_5,zI (List.replicate n 0),3)::(B1,[.int .i64 (n:Int),.int .i64 sy,.int .i64 s0,.int .i64 e0,.slice aa al ac],24)::Ot) (o.gr 57 3::(gI 57 3 (vs.eraseIdx p)++G)) K w)∨(∃ B,s=[(15,[(B,t.three,57)])]∧St w0 ((B,t.three,57)::((B4,t.three,57)::(B3,[.slice (some ⟨B2_2,0,none⟩) n n,.slice (some ⟨B2_5,0,none⟩) n n,.int .i64 0],73)::(B2_2,(vs).map (·.v),22)::(B2_5,zI (List.replicate n 0),3)::(B1,[.int .i64 (n:Int),.int .i64 sy,.int .i64 s0,.int .i64 e0,.slice aa al ac],24)::Ot)) (o.gr 57 3::(gI 57 3 (vs.eraseIdx p)++G)) K w)∨(∃ B v,s=[(16,[(0,[v],0)]),(15,[(B,t.three,57)])]∧St w0 ((B,t.three,57)::((B4,t.three,57)::(B3,[.slice (some ⟨B2_2,0,none⟩) n n,.slice (some ⟨B2_5,0,none⟩) n n,.int .i64 0],73)::(B2_2,(vs).map (·.v),22)::(B2_5,zI (List.replicate n 0),3)::(B1,[.int .i64 (n:Int),.int .i64 sy,.int .i64 s0,.int .i64 e0,.slice aa al ac],24)::Ot)) (⟨v,o.n+1,o.xs++t.three,57,3⟩::(gI 57 3 (vs.eraseIdx p)++G)) K w)) cQ (.inl ⟨rfl,hS.drew⟩) (Nat.le_of_ble_eq_true (by kernel_rfl)) (by kernel_rfl) (by kernel_rfl) ?_ ?_ (by decide) ?_
  ·intro i9 hi9 hin s a0 c9 w ha0 hF9 hG hD
   have hfr:∀ t v,cC _ t=true→look _ t=some v→c9.eval (.tmp t)=v:=fun t v h1 h2=>(hF9 t h1).trans (ha0.at_ t v h2)
   have hown:∀ p∈((B4,t.three,57)::(B3,[.slice (some ⟨B2_2,0,none⟩) n n,.slice (some ⟨B2_5,0,none⟩) n n,.int .i64 0],73)::(B2_2,(vs).map (·.v),22)::(B2_5,zI (List.replicate n 0),3)::(B1,[.int .i64 (n:Int),.int .i64 sy,.int .i64 s0,.int .i64 e0,.slice aa al ac],24)::Ot),w.heap[p.1]?=some (.cells p.2.1.toArray p.2.2 (0,0)):=fun p hp=>by
    rcases hG with ⟨_,h9⟩ | ⟨B,_,h9⟩ | ⟨B,v,_,h9⟩
    ·exact (h9.own p hp).2
    ·exact (h9.own p (List.mem_cons_of_mem _ hp)).2
    ·exact (h9.own p (List.mem_cons_of_mem _ hp)).2
   have hb5:=hown (B4,t.three,57) List.mem_cons_self
   have hb3:=hown (B3,[.slice (some ⟨B2_2,0,none⟩) n n,.slice (some ⟨B2_5,0,none⟩) n n,.int .i64 0],73) (List.mem_cons_of_mem _ List.mem_cons_self)
   have hb8:=hown (B2_2,vs.map (·.v),22) (List.mem_cons_of_mem _ (List.mem_cons_of_mem _ List.mem_cons_self))
   match i9,hi9,hin with
   | 0,_,_=>exact ⟨_,rfl,rfl,by
    exact bI (l:=[(3,.pointer (some ⟨B3,0,none⟩))]) rfl c9.eval (fW (hfr 3 _ (by kernel_rfl) rfl))⟩
   | 1,_,_=>exact ⟨_,rfl,rfl,by
    have h9:=(hD 0 21 (by kernel_rfl)).1 (by decide)
    exact cP (l:=[(21,.pointer (some ⟨B3,0,none⟩))]) rfl c9.eval (fW h9)⟩
   | 2,_,_=>exact ⟨_,rfl,rfl,by
    have h9:=(hD 1 22 (by kernel_rfl)).1 (by decide)
    exact cF (l:=[(22,.pointer (some ⟨B3,0,none⟩))]) gQ rfl rfl c9.eval (fW h9)⟩
   | 3,_,_=>exact ⟨_,rfl,rfl,by
    have h9:=(hD 2 23 (by kernel_rfl)).1 (by decide)
    exact bR (l:=[(23,.pointer (some ⟨B3,0+0,none⟩))]) isAgg71 rfl (aF hb3 rfl) c9.eval (fW h9)⟩
   | 4,_,_=>exact ⟨_,rfl,rfl,by
    exact cF (l:=[(5,.pointer (some ⟨B4,0,none⟩))]) eV rfl rfl c9.eval (fW (hfr 5 _ (by kernel_rfl) rfl))⟩
   | 5,_,_=>exact ⟨_,rfl,rfl,by
    have h9:=(hD 4 25 (by kernel_rfl)).1 (by decide)
    exact bR (l:=[(25,.pointer (some ⟨B4,0+0,none⟩))]) isAgg3 rfl (aF hb5 rfl) c9.eval (fW h9)⟩
   | 6,_,_=>exact ⟨_,rfl,rfl,by
    exact bI (l:=[(3,.pointer (some ⟨B3,0,none⟩))]) rfl c9.eval (fW (hfr 3 _ (by kernel_rfl) rfl))⟩
   | 7,_,_=>exact ⟨_,rfl,rfl,by
    have h9:=(hD 6 27 (by kernel_rfl)).1 (by decide)
    exact cP (l:=[(27,.pointer (some ⟨B3,0,none⟩))]) rfl c9.eval (fW h9)⟩
   | 8,_,_=>exact ⟨_,rfl,rfl,by
    have h9:=(hD 7 28 (by kernel_rfl)).1 (by decide)
    exact cF (l:=[(28,.pointer (some ⟨B3,0,none⟩))]) gQ rfl rfl c9.eval (fW h9)⟩
   | 9,_,_=>exact ⟨_,rfl,rfl,by
    have h9:=(hD 8 29 (by kernel_rfl)).1 (by decide)
    exact bR (l:=[(29,.pointer (some ⟨B3,0+0,none⟩))]) isAgg71 rfl (aF hb3 rfl) c9.eval (fW h9)⟩
   | 10,_,_=>exact ⟨_,rfl,rfl,by
    exact cF (l:=[(5,.pointer (some ⟨B4,0,none⟩))]) eV rfl rfl c9.eval (fW (hfr 5 _ (by kernel_rfl) rfl))⟩
   | 11,_,_=>exact ⟨_,rfl,rfl,by
    have h9:=(hD 10 31 (by kernel_rfl)).1 (by decide)
    exact bR (l:=[(31,.pointer (some ⟨B4,0+0,none⟩))]) isAgg3 rfl (aF hb5 rfl) c9.eval (fW h9)⟩
   | 12,_,_=>exact ⟨_,rfl,rfl,by
    have h9:=(hD 9 30 (by kernel_rfl)).1 (by decide)
    have h8:=(hD 11 32 (by kernel_rfl)).1 (by decide)
    exact cG (l:=[(30,.slice (some ⟨B2_2,0,none⟩) n n),(32,.int .i64 t.f)]) (j:=p) (b:=B2_2) (o:=0) (m:=n) (c:=n) underlying71 sizeOf22 rfl rfl hpf hpn rfl c9.eval (evl2n h9 h8)⟩
   | 13,_,_=>exact ⟨_,rfl,rfl,by
    have h9:=(hD 12 33 (by kernel_rfl)).1 (by decide)
    exact bR (l:=[(33,.pointer (some ⟨B2_2,0+p * 1,none⟩))]) isAgg22 rfl (aF hb8 (by rw [List.getElem?_map,Nat.zero_add,Nat.mul_one,ho];rfl)) c9.eval (fW h9)⟩
   | 14,_,_=>exact ⟨_,rfl,rfl,by
    exact eA (l:=[(5,.pointer (some ⟨B4,0,none⟩))]) (vs:=[_,_,_]) isAgg57 sizeOf57 rfl (aK.own (j:=0) (m:=3) hb5 rfl) c9.eval (fW (hfr 5 _ (by kernel_rfl) rfl))⟩
   | 15,_,h9=>exact absurd (by decide) h9
   | 16,_,h9=>exact absurd (by decide) h9
   | 17,_,_=>exact ⟨_,rfl,rfl,by
    have h9:=(hD 3 24 (by kernel_rfl)).1 (by decide)
    have h8:=(hD 5 26 (by kernel_rfl)).1 (by decide)
    exact cG (l:=[(24,.slice (some ⟨B2_2,0,none⟩) n n),(26,.int .i64 t.f)]) (j:=p) (b:=B2_2) (o:=0) (m:=n) (c:=n) underlying71 sizeOf22 rfl rfl hpf hpn rfl c9.eval (evl2n h9 h8)⟩
   | i+18,h9,_=>omega
  ·intro i9 him s a0 c9 w ha0 hF9 hG hnew hD
   have hcase:i9=15∨i9=16:=by simpa using him
   rcases hcase with rfl | rfl
   ·have h1:=(hD 14 35 (by kernel_rfl)).1 (by decide)
    rcases hG with ⟨rfl,h9⟩ | ⟨B,rfl,_⟩ | ⟨B,v,rfl,_⟩
    ·exact mk_rowS rfl underlying22 sizeOf57 (by decide) (by decide) zeroValue57 (pX _ _ _) h1 ⟨[(w.heap.size,t.three,57)],⟨fun h=>absurd h (by decide),fun _=>⟨_,rfl,rfl⟩⟩,.inr (.inl ⟨_,rfl,h9.alloc t.three 57⟩)⟩
    ·exact absurd List.mem_cons_self (hnew _)
    ·exact absurd (List.mem_cons_of_mem _ List.mem_cons_self) (hnew _)
   ·have h1:=(hD 13 34 (by kernel_rfl)).1 (by decide)
    obtain ⟨ON5,h5,hP5⟩:=(hD 15 36 (by kernel_rfl)).2 (by decide)
    obtain ⟨B5,e5,eO5⟩:=hP5.2 rfl
    rcases hG with ⟨rfl,h9⟩ | ⟨B,rfl,h9⟩ | ⟨B,v,rfl,_⟩
    ·cases h5
    ·have eB:B5=B:=by
      have h8:=List.mem_singleton.1 h5
      rw [eO5] at h8
      simpa using h8
     subst eB
     refine mk_app (gn:=o.n) (gxs:=o.xs) (news:=t.three) (m:=1) rfl underlying22 oK rfl rfl (by show 0 < 3;decide) h1 e5 h9 (fun j u hu=>(by rw [Nat.zero_add];exact aF (h9.at_ 0 rfl) hu)) rfl (by intro u hu;simp at hu;rcases hu with rfl | rfl | rfl<;>rfl) (by simp only [maxLen];omega) (by show (o.n+1) * 24≤_;omega) ?_
     intro v' w' h8
     exact ⟨[(0,[v'],0)],⟨fun _=>rfl,fun h=>absurd h (by decide)⟩,.inr (.inr ⟨_,_,rfl,h8⟩)⟩
    ·exact absurd List.mem_cons_self (hnew _)
  ·intro s c9 w hG hsz hdf hfr hval hin hmk hkeys hdist
   obtain ⟨O6,h6,hP6⟩:=hmk 16 37 (by decide) rfl
   have hP6:=hP6.1 rfl
   rcases hG with ⟨rfl,h9⟩ | ⟨B,rfl,_⟩ | ⟨B9,v9,rfl,hS2⟩
   ·cases h6
   ·exact absurd (congrArg Prod.fst (List.mem_singleton.1 h6)) (show (16:Nat)≠15 by decide)
   have e9:c9.tmps.getD 37 undef=v9:=by
    rw [hP6] at h6
    simpa using h6
   clear hS;have hS:=hS2;clear hS2
   refine (show bG _ _ _ _ (List.drop 18 _) [(3,.pointer (some ⟨B3,0,none⟩)),(15,.slice aa al ac),(16,.int .i64 (al:Int)),(17,.int .i64 (i:Int)),(37,v9),(38,.pointer (some ⟨B2_2,0+p * 1,none⟩))] w from ?_) c9 (tK.has hsz hdf ⟨hfr 3 _ (by kernel_rfl) rfl,hfr 15 _ (by kernel_rfl) rfl,hfr 16 _ (by kernel_rfl) rfl,hfr 17 _ (by kernel_rfl) rfl,e9,hval 17 38 (by decide) (by decide) rfl,trivial⟩)
   refine bV (i:=3) (cs':=(vs.set p ⟨v9,o.n+1,o.xs++t.three⟩).map (·.v)) (O':=(_::_::_::(B2_2,_,_)::_::_::Ot)) hS sizeOf22 rfl rfl (by obtain ⟨a8,c8,e8,_⟩:=cL (hS.row 0 rfl);dsimp only at e8;rw [e8];rfl) rfl (Nat.ble_eq_true_of_le (by rw [List.length_map];omega)) (by rw [List.map_set,Nat.zero_add,Nat.mul_one]) rfl fun W58 hS=>?_
   refine aG (XF.blkN (XF.thenN (aH (bB rfl rfl (IntWalk.i64_in _ (by omega)) rfl (aB rfl rfl (aG ?_))))))
   have hS9:=hS.tail.tail.permGN (tO (T:=57) (k:=3) (G:=G) (vs:=vs) (s:=p) (o:=⟨v9,o.n+1,o.xs++t.three⟩) (by omega))
   exact XF.round (al - (i+1)) [(3,_),(15,_),(16,_),(17,_)] (by omega) ⟨rfl,rfl,rfl,rfl,trivial⟩ ⟨i+1,_,by omega,rfl,rfl,by rw [List.length_set];exact hvl,hvs.step ht hpf ho,hS9.keep K (fun q hq=>by simp [hq])⟩
 ·have hc18:=of_decide_eq_false hc;clear hc
  rw [List.take_of_length_le (by omega)] at hvs
  refine bX (XF.thenX (XF.thenX (XF.blkX (XF.thenN (aD (aH (aB rfl rfl (aA rfl rfl (aG (XF.thenN (bH (XF.res (bU results24 rfl) ?_))))))))))))
  obtain ⟨K1,k1,g1,hS1⟩:=St.rowsKeepN vs (hS.keep K (fun q hq=>by simp [hq]))
  obtain ⟨K2,k2,g2,hS2⟩:=(hS1.perm (List.Perm.swap _ _ _)).ownKeepN
  exact ⟨B3,B2_5,B2_2,_,_,K2,rfl,fun q hq=>k2 q (k1 q hq),fun h9 hk9=>out_of hvl hvs (g2 h9 hk9) (g1 h9 (fun q hq=>hk9 q (k2 q hq))),((hS2.perm ((List.Perm.swap _ _ _).cons _)).perm (List.Perm.swap _ _ _)).tail.perm (List.Perm.refl _)⟩
theorem iP (a:NfV) (n:Nat) (k:Int) (Kt:List (Nat×World)) (Ot:Own) (G:aX) (K:List (Nat×World)) (w0 w:World) (hS0:St w0 Ot G K w) (hKt:∀ q∈Kt,q∈K) (hA:bT w0 Kt (fun W=>NIn W a)) (hn:a.st=(n:Int)) (hn1:1≤n) (hn4:n≤4096) (hal:a.al≤65536) (hO:eX n k a.ar):Calls prog 24 #[a.val] w (fun e w'=>∃ (RB SB OB:Nat) (va:Nat→Option Addr) (vc:Nat→Nat) (Kn:List (Nat×World)),e = .returned (.pointer (some ⟨RB,0,none⟩))∧(∀ q∈K,q∈Kn)∧bT w0 Kn (fun W=>iO W OB n a.ar va vc)∧St w0 ((RB,[.slice (some ⟨OB,0,none⟩) n n,.slice (some ⟨SB,0,none⟩) n n,.int .i64 0],73)::(SB,zI (List.replicate n 0),3)::Ot) G Kn w'):=by
 obtain ⟨st,sy,s0,e0,aa,al,ac,ar⟩:=a
 dsimp only at hn
 subst hn
 exact nNew_c n sy s0 e0 aa al ac ar k Kt Ot G K w0 w hS0 hKt hA hn1 hn4 hal hO
theorem pY (w:World) (b o:Nat):(Instr.fieldAt 73 (.pointer (some ⟨b,o,none⟩)) 1).run prog w = .ok (.pointer (some ⟨b,o+1,none⟩)) w:=by
 simp [Instr.fieldAt,run_underlying underlying73,Instr.sureAddr,go_sem,Addr.add_lit]
theorem jQ (w:World) (b o:Nat):(Instr.fieldAt 73 (.pointer (some ⟨b,o,none⟩)) 2).run prog w = .ok (.pointer (some ⟨b,o+2,none⟩)) w:=by
 simp [Instr.fieldAt,run_underlying underlying73,Instr.sureAddr,go_sem,Addr.add_lit]
def zN (l:List Nat):List Value:=l.map (fun (x:Nat)=>Value.int .i64 (x:Int))
theorem tP {l:List Nat} {v:Nat} {x:Int} (h:x=(v:Int)):zN l++[Value.int .i64 x]=zN (l++[v]):=by subst h;simp [zN]
theorem rJ {l:List Int} {i:Nat} {x:Int}:cA (zI l) (0+i * 1) [.int .i64 x]=zI (l.set i x):=oI
theorem mZ:∀ {S l:List Nat},S.Nodup→(∀ x∈S,x∈l)→S.length≤l.length
 | [],l,_,_=>Nat.zero_le _
 | a::S,l,hn,hs=>by
  have ha:=hs a List.mem_cons_self
  rw [List.nodup_cons] at hn
  have h1:=mZ (S:=S) (l:=l.erase a) hn.2 (fun x hx=>(List.mem_erase_of_ne (fun (e:x=a)=>hn.1 (e▸hx))).2 (hs x (List.mem_cons_of_mem _ hx)))
  have h2:=List.length_erase_of_mem ha
  have h3:=List.length_pos_of_mem ha
  rw [List.length_cons];omega
def mtN (all:List Nat) (x:Nat):List Nat:=if x∈all then all else all++[x]
theorem gR {all:List Nat} {x q:Nat}:q∈mtN all x↔q∈all∨q=x:=by
 unfold mtN
 split
 ·rename_i h
  exact ⟨.inl,fun h1=>h1.elim id (fun e=>e▸h)⟩
 ·simp
theorem pZ {all:List Nat} {x i:Nat} (h:i < all.length):(mtN all x)[i]?=all[i]?:=by
 unfold mtN
 split
 ·rfl
 ·rw [List.getElem?_append_left h]
theorem mtN_len {all:List Nat} {x:Nat}:all.length≤(mtN all x).length:=by
 unfold mtN
 split
 ·exact Nat.le_refl _
 ·simp
structure SnOk (n:Nat) (r:Int) (s9 ss:List Int) (all:List Nat):Prop where
 len:ss.length=n
 at_:∀ s,s < n→(ss.getD s 0=r↔s∈all)
 from_:∀ x∈ss,x∈s9∨x=r
 nd:all.Nodup
 lt:∀ s∈all,s < n
theorem SnOk.le {n:Nat} {r:Int} {s9 ss:List Int} {all:List Nat} (h:SnOk n r s9 ss all):all.length≤n:=by
 have:=mZ (l:=List.range n) h.nd (fun x hx=>List.mem_range.2 (h.lt x hx))
 simpa using this
theorem SnOk.start {n:Nat} {r:Int} {ss:List Int} (hl:ss.length=n) (hf:∀ x∈ss,x≠r):SnOk n r ss ss [] :=
 ⟨hl,fun s hs=>⟨fun h=>absurd h (hf _ (by rw [List.getD_eq_getElem?_getD,List.getElem?_eq_getElem (by omega)];exact List.getElem_mem _)),fun h=>(by cases h)⟩,fun x hx=>.inl hx,List.nodup_nil,fun s h=>(by cases h)⟩
theorem SnOk.new {n:Nat} {r:Int} {s9 ss:List Int} {all:List Nat} {x:Nat} (h:SnOk n r s9 ss all) (hx:x < n) (hn:x∉all):SnOk n r s9 (ss.set x r) (all++[x]) where
 len:=by rw [List.length_set];exact h.len
 at_:=fun s hs=>by
  have hl:=h.len
  by_cases e:s=x
  ·subst e
   rw [List.getD_eq_getElem?_getD,List.getElem?_set_self (by omega)]
   simp
  ·rw [List.getD_eq_getElem?_getD,List.getElem?_set_ne (fun e2=>e e2.symm),← List.getD_eq_getElem?_getD,h.at_ s hs]
   simp [e]
 from_:=fun y hy=>by
  rcases List.mem_or_eq_of_mem_set hy with hy | rfl
  ·exact h.from_ y hy
  ·exact .inr rfl
 nd:=List.nodup_append.2 ⟨h.nd,by simp,fun a ha b hb e=>hn (by rw [List.mem_singleton.1 hb] at e;exact e▸ha)⟩
 lt:=fun s hs=>by
  rcases List.mem_append.1 hs with hs | hs
  ·exact h.lt s hs
  ·rw [List.mem_singleton.1 hs];exact hx
theorem tQ (n:Nat) (r:Int) (s9 ss:List Int) (all:List Nat) (AX CX RB SB OB:Nat) (wa:Option Addr) (m wc x:Nat) (Ot:Own) (G:aX) (K:List (Nat×World)) (w0 w:World) (hS0:St w0 ((AX,[.slice wa m wc],25)::(CX,[.pointer (some ⟨RB,0,none⟩)],46)::(RB,[.slice (some ⟨OB,0,none⟩) n n,.slice (some ⟨SB,0,none⟩) n n,.int .i64 r],73)::(SB,zI (ss),3)::Ot) (⟨.slice wa m wc,m,zN (all),3,1⟩::G) K w) (hm:all.length=m) (hS9:SnOk n r s9 ss all) (hn4:n≤4096) (hx:x < n) :
  Calls prog 44 #[.int .i64 (x:Int),.pointer (some ⟨CX,0,none⟩),.pointer (some ⟨AX,0,none⟩)] w (fun e w'=>∃ (wa:Option Addr) (m wc:Nat) (ss2:List Int),e = .returned (.tuple #[])∧(mtN all x).length=m∧SnOk n r s9 ss2 (mtN all x)∧St w0 ((AX,[.slice wa m wc],25)::(CX,[.pointer (some ⟨RB,0,none⟩)],46)::(RB,[.slice (some ⟨OB,0,none⟩) n n,.slice (some ⟨SB,0,none⟩) n n,.int .i64 r],73)::(SB,zI (ss2),3)::Ot) (⟨.slice wa m wc,m,zN (mtN all x),3,1⟩::G) K w'):=by
 refine bE (args:=[.int .i64 (x:Int),.pointer (some ⟨CX,0,none⟩),.pointer (some ⟨AX,0,none⟩)]) func44 rfl ntmps44 rfl ?_
 have hS:=hS0
 have hln:=hS9.len
 have hle:=hS9.le
 have hat:=hS9.at_ x hx
 refine aD (lL (m:=12) cQ hS (by kernel_rfl) (by kernel_rfl) rfl (dB 1 rfl 1 rfl rfl (fun w hw=>bR isAgg46 rfl ((aY hw 0).cell (Nat.zero_le _) (aF (hS.at_ 1 rfl) rfl))) rfl (cD 2 rfl 4 0 rfl rfl rfl (fun w hw=>cP rfl) rfl (cD 3 rfl 5 1 rfl rfl rfl (fun w hw=>cF (o':=1) pY rfl rfl) rfl (cD 4 rfl 6 2 rfl rfl rfl (fun w hw=>bR isAgg25 rfl ((aY hw 0).cell (Nat.zero_le _) (aF (hS.at_ 2 rfl) rfl))) rfl (dB 5 rfl 0 rfl rfl (fun w hw=>bI rfl) rfl (aZ 6 rfl (isV _) (aT _) (rgV (li:=[(7,_),(8,_)]) rfl (bO rfl) ⟨aW 3 (aM rfl rfl rfl),aW 4 (aM rfl rfl rfl),trivial⟩ (fun w hw=>cG (j:=x) underlying25 sizeOf3 rfl rfl (rfl) (by omega) rfl) (aV rfl)) (cD 7 rfl 9 5 rfl rfl rfl (fun w hw=>bR isAgg3 rfl ((aY hw 0).cell (Nat.zero_le _) (aF (hS.at_ 3 rfl) (jI (by omega))))) rfl (dB 8 rfl 1 rfl rfl (fun w hw=>bR isAgg46 rfl ((aY hw 0).cell (Nat.zero_le _) (aF (hS.at_ 1 rfl) rfl))) rfl (cD 9 rfl 11 7 rfl rfl rfl (fun w hw=>cP rfl) rfl (cD 10 rfl 12 8 rfl rfl rfl (fun w hw=>cF (o':=2) jQ rfl rfl) rfl (cD 11 rfl 13 9 rfl rfl rfl (fun w hw=>bR isAgg3 rfl ((aY hw 0).cell (Nat.zero_le _) (aF (hS.at_ 2 rfl) rfl))) rfl (aZ 12 rfl (isV _) (aT _) (rgV (li:=[(10,_),(14,_)]) rfl (bO rfl) ⟨aW 6 (aM rfl rfl rfl),aW 10 (aM rfl rfl rfl),trivial⟩ (fun w hw=>jY rfl rfl) (aV rfl)) (fM ?_))))))))))))))
 intro W1 hbR hS'
 clear hS;have hS:=hS';clear hS'
 refine aR (aR (aR (aR (aR (aR (aR (aR (aR (aR (aR (aR (dM (XF.thenN (bC rfl (fun hc=>?_) (fun hc=>?_)))))))))))))))
 ·have hc15:=hc;clear hc
  have hnew:x∉all:=fun h=>(of_decide_eq_true hc15) (hat.2 h)
  have emt:mtN all x=all++[x]:=by unfold mtN;rw [if_neg hnew]
  have hS8:=hS9.new hx hnew
  have hle8:=hS8.le
  rw [List.length_append,List.length_singleton] at hle8
  refine aD (regSL (ef:=10) (jy:=8) (ca:=jK (fun _=>[])) (ta:=fun _=>0) (Os:=osY _ 3 (0+x * 1) SB (zI ss) 3) (Gs:=rE _) (al:=[]) (k:=11) (ds:=[]) cQ rfl hS rfl (by kernel_rfl) rfl (by decide) rfl rfl rfl rfl (cK 1 rfl rfl (isV _) (fun hNo=>sgV [(1,_)] rfl rfl rfl rfl hNo (bO rfl) ⟨dR rfl,trivial⟩ (fun ev w he hw=>bR isAgg46 rfl ((aF (hw.at_ 1 (lT (i:=1) (j:=3) rfl rfl)) rfl))) (aV rfl)) (cK 2 rfl rfl (isV _) (fun hNo=>sgV [(16,_)] rfl rfl rfl rfl hNo (bO rfl) ⟨aW 0 (aM rfl rfl rfl),trivial⟩ (fun ev w he hw=>cP rfl) (aV rfl)) (cK 3 rfl rfl (isV _) (fun hNo=>sgV [(17,_)] rfl rfl rfl rfl hNo (bO rfl) ⟨aW 1 (aM rfl rfl rfl),trivial⟩ (fun ev w he hw=>cF (o':=1) pY rfl rfl) (aV rfl)) (cK 4 rfl rfl (isV _) (fun hNo=>sgV [(18,_)] rfl rfl rfl rfl hNo (bO rfl) ⟨aW 2 (aM rfl rfl rfl),trivial⟩ (fun ev w he hw=>bR isAgg25 rfl ((aF (hw.at_ 2 (lT (i:=2) (j:=3) rfl rfl)) rfl))) (aV rfl)) (cK 5 rfl rfl (isV _) (fun hNo=>sgV [(0,_)] rfl rfl rfl rfl hNo (bO rfl) ⟨dR rfl,trivial⟩ (fun ev w he hw=>bI rfl) (aV rfl)) (cK 6 rfl rfl (isV _) (fun hNo=>sgV [(1,_)] rfl rfl rfl rfl hNo (bO rfl) ⟨dR rfl,trivial⟩ (fun ev w he hw=>bR isAgg46 rfl ((aF (hw.at_ 1 (lT (i:=1) (j:=3) rfl rfl)) rfl))) (aV rfl)) (cK 7 rfl rfl (isV _) (fun hNo=>sgV [(21,_)] rfl rfl rfl rfl hNo (bO rfl) ⟨aW 5 (aM rfl rfl rfl),trivial⟩ (fun ev w he hw=>cP rfl) (aV rfl)) (cK 8 rfl rfl (isV _) (fun hNo=>sgV [(22,_)] rfl rfl rfl rfl hNo (bO rfl) ⟨aW 6 (aM rfl rfl rfl),trivial⟩ (fun ev w he hw=>cF (o':=2) jQ rfl rfl) (aV rfl)) (cK 9 rfl rfl (isV _) (fun hNo=>sgV [(23,_)] rfl rfl rfl rfl hNo (bO rfl) ⟨aW 7 (aM rfl rfl rfl),trivial⟩ (fun ev w he hw=>bR isAgg3 rfl ((aF (hw.at_ 2 (lT (i:=2) (j:=3) rfl rfl)) rfl))) (aV rfl)) (cK 10 rfl rfl (isV _) (fun hNo=>sgV [(19,_),(20,_)] rfl rfl rfl rfl hNo (bO rfl) ⟨aW 3 (aM rfl rfl rfl),aW 4 (aM rfl rfl rfl),trivial⟩ (fun ev w he hw=>cG (j:=x) underlying25 sizeOf3 rfl rfl (rfl) (by omega) rfl) (aV rfl)) ?_)))))))))))
  refine pP 11 rfl (eff_stP (py:=isV _) (m:=1) 3 (0+x * 1) [(25,_)] rfl rfl rfl rfl (by kernel_rfl) rfl rfl (fun j hj=>by rcases hj with h | rfl<;>first | (cases h<;>rfl) | rfl) ⟨aW 9 (aM rfl rfl rfl),trivial⟩ rfl rfl sizeOf3 (fun v w e=>⟨[v],by rw [show v=_ from e];rfl,rfl,by rw [show v=_ from e];rfl⟩) (Nat.ble_eq_true_of_le (by rw [iA];show _+1≤_;omega))) ?_
  refine pO ?_
  intro Bf2 y2 W2 Ks2 hsz2 hKs2 hS' hcov2
  clear hS;have hS:=hS'.castO (O':=(_::_::_::_::Ot)) rfl;clear hS'
  refine tA (L':=[AwS _ _ (isV _),AwS _ _ (isV _),AwS _ _ (isV _),AwS _ _ (isV _),AwS _ _ (isV _),AwS _ _ (isV _),AwS _ _ (isV _),AwS _ _ (isV _),(fun v0_ w0_=>v0_=_∧AwS _ _ (isV _) v0_ w0_),AwS _ _ (isV _),isV _]) rfl (cZ (cZ (cZ (cZ (cZ (cZ (cZ (cZ ?_))))))))
  refine sV ?_;rintro _ ⟨rfl,hA2⟩;have hA2:=hA2.here;cases hA2
  refine cZ (fin_0 ?_)
  have hS:=hS.castO (O':=(_::_::_::(SB,zI (ss.set x r),_)::Ot)) (by show (_::_::_::(SB,cA _ _ [_],_)::_)=_;rw [rJ])
  refine dM (aG (XF.thenN (aH (aJ isAgg25 rfl (aF (hS.at_ 0 rfl) rfl) rfl (aB rfl rfl (bP (us:=[(0,.int .i64 _)]) hS underlying25 sizeOf3 zeroValue3 rfl rfl rfl (dS _) rfl fun B3 W3 hS=>?_))))))
  refine dT (i:=0) (news:=[_]) hS underlying25 jH rfl rfl (by show 0 < 1;decide) rfl rfl rfl rfl rfl (aK.own (j:=0) (m:=1) (hS.at_ 0 rfl) rfl) rfl rfl (by dsimp only;simp only [maxLen];omega) (by dsimp only;show _ * 8≤_;omega) rfl fun v4 W4 hS=>?_
  obtain ⟨a9,c9,e9,_⟩:=cL (hS.row 0 rfl)
  dsimp only at e9
  subst e9
  refine bV (i:=1) (cs':=[_]) (O':=(_::_::_::_::_::Ot)) hS sizeOf25 rfl rfl rfl rfl rfl rfl rfl fun W5 hS=>aG (XF.resN (lG results44) ?_)
  have hS7:=hS.tail.castG (G':=(⟨.slice a9 (m+1) c9,(m+1),zN (all++[x]),3,1⟩::G)) (by show GR.mk _ _ (zN all++[Value.int .i64 _]) _ _::_=_;rw [tP rfl])
  rw [emt]
  exact ⟨a9,m+1,c9,_,rfl,by simp [hm],hS8,hS7.keep K (fun q hq=>by simp [hq])⟩
 ·have hc15:=hc;clear hc
  have hold:x∈all:=hat.1 (Decidable.of_not_not (of_decide_eq_false hc15))
  have emt:mtN all x=all:=by unfold mtN;rw [if_pos hold]
  refine aS (XF.resN (lG results44) ?_)
  rw [emt]
  exact ⟨wa,m,wc,ss,rfl,hm,hS9,hS.keep K (fun q hq=>by simp [hq])⟩
theorem getI {d:List Int} {t:Nat} (h:t < d.length):(zI d)[t]?=some (.int .i64 d.toArray[t]!):=by
 unfold zI
 rw [List.getElem?_map,List.getElem?_eq_getElem h]
 have h2:d.toArray[t]! = d[t]:=by rw [getElem!_pos d.toArray t (by simpa using h)];simp
 rw [h2];rfl
theorem rK {d:List Int} {cur:Array Value} (hl:d.length≤cur.size):(Go.Sort.putCells (Value.int .i64) 0 d.toArray cur).toList.take d.length=zI d:=by
 apply List.ext_getElem?
 intro t
 by_cases ht:t < d.length
 ·rw [List.getElem?_take_of_lt ht,getI ht,Array.getElem?_toList]
  unfold Go.Sort.putCells
  rw [Array.getElem?_mapIdx,Array.getElem?_eq_getElem (by omega)]
  simp [ht]
 ·rw [List.getElem?_eq_none (by simp;omega),List.getElem?_eq_none (by rw [iA];omega)]
section
variable {w0 W:World} {O:Own} {G:aX} {K:List (Nat×World)}
theorem rL {b c m:Nat} {e:TypeId} {d:List Int} {base:Nat} (hd:d.length=m) (h:W.ownsRow base e 1 (.slice (some ⟨b,0,none⟩) m c) m (zI d)):Go.Sort.Holds (Value.int .i64) W b 0 d.toArray:=by
 rcases h.2 with ⟨e1,_⟩ | ⟨g,cap,cur,e1,hg,hh,hn2,hm,hs,ht⟩
 ·cases e1
 ·injection e1 with e1 _ _
  injection e1 with e1
  injection e1 with e1
  subst e1
  intro j hj
  have hj:j < d.length:=by simpa using hj
  have h1:=getI hj
  rw [← ht,List.getElem?_take_of_lt (by omega),Array.getElem?_toList] at h1
  refine ⟨?_,?_⟩
  ·simp only [World.cell?,hh,Nat.zero_add];simpa using h1
  ·simp [World.frozen?,hh]
theorem St.sortedI {b c m:Nat} {e:TypeId} {xs:List Value} (hS:St w0 O (⟨.slice (some ⟨b,0,none⟩) m c,m,xs,e,1⟩::G) K W) (d:List Int) (hd:d.length=m) (q:Nat) (osn:Array Obj) :
  St w0 O (⟨.slice (some ⟨b,0,none⟩) m c,m,zI d,e,1⟩::G) K (Go.Sort.grow (Go.Sort.putRow (Value.int .i64) (Go.Sort.ahead W q) b 0 d.toArray) osn):=by
 have hrow:=hS.row 0 rfl
 have hlt:=(hS.glt (List.mem_cons_self) (b:=b) rfl).2
 have hsz:(Go.Sort.putRow (Value.int .i64) (Go.Sort.ahead W q) b 0 d.toArray).heap.size=W.heap.size:=by simp [Go.Sort.putRow,Go.Sort.mapBlock,Go.Sort.ahead]
 have hat:∀ z,z < W.heap.size→(Go.Sort.grow (Go.Sort.putRow (Value.int .i64) (Go.Sort.ahead W q) b 0 d.toArray) osn).heap[z]?=(Go.Sort.putRow (Value.int .i64) (Go.Sort.ahead W q) b 0 d.toArray).heap[z]?:=fun z hz=>by
  show ((Go.Sort.putRow (Value.int .i64) (Go.Sort.ahead W q) b 0 d.toArray).heap++osn)[z]?=_
  rw [Array.getElem?_append_left (by rw [hsz];exact hz)]
 refine hS.setG 0 rfl (v':=.slice (some ⟨b,0,none⟩) m c) ?_ ⟨rfl,rfl,rfl,by rw [Go.Sort.size_grow,hsz];omega,fun z hz hne=>?_⟩ (.inl rfl)
 ·refine ⟨by rw [iA];simp [hd],?_⟩
  rcases hrow.2 with ⟨e1,_⟩ | ⟨g,cap,cur,e1,hg,hh,hn2,hm,hs,ht⟩
  ·cases e1
  ·injection e1 with e1 _ e2
   injection e1 with e1
   injection e1 with e1
   subst e1;subst e2
   dsimp only at hs hn2
   refine .inr ⟨b,c,Go.Sort.putCells (Value.int .i64) 0 d.toArray cur,rfl,hg,?_,hn2,hm,?_,?_⟩
   ·rw [hat b hlt]
    simp only [Go.Sort.putRow,Go.Sort.mapBlock,Go.Sort.ahead,Array.getElem?_modify,if_true]
    rw [hh];rfl
   ·simpa [Go.Sort.putCells] using hs
   ·rw [← hd,Nat.mul_one]
    exact rK (by omega)
 ·rw [hat z hz]
  have hne':b≠z:=fun e=>hne (by rw [e];rfl)
  simp [Go.Sort.putRow,Go.Sort.mapBlock,Go.Sort.ahead,Array.getElem?_modify,hne']
end
section
variable {n:Nat} {Q:Exit→Act→World→Prop} {ops:Array Oper} {os:List Oper} {l:Fr} {d:Nat} {ty:TypeId} {pos:String} {aft:Array Edge} {w0 W:World} {O:Own} {G:aX} {K:List (Nat×World)}
theorem tR {x:Operand} {ts:Array TypeId} {wa:Option Addr} {m wc:Nat} {e1:TypeId} {dl:List Int} (hS:St w0 O (⟨.slice wa m wc,m,zI dl,e1,1⟩::G) K W) (hgo:bD prog 45=true) (hx:evL l x=some (.slice wa m wc)) (hdl:dl.length=m) (hn:m < 4611686018427387904) (hd:Nat.blt d n=true)
  (h:∀ W',St w0 O (⟨.slice wa m wc,m,zI (dl.mergeSort fun x y=>decide (x≤y)),e1,1⟩::G) K W'→bG prog n ops Q os ((d,.tuple #[])::l) W'):bG prog n ops Q (⟨some d,.call { callee:=.value (.func 45),args:=#[x],argTypes:=ts },ty,pos,aft,none⟩::os) l W:=by
 have hrow:=hS.row 0 rfl
 rcases Nat.eq_zero_or_pos m with h0 | h0
 ·subst h0
  obtain rfl:dl=[]:=List.eq_nil_of_length_eq_zero hdl
  refine aU (vs:=[.slice wa 0 wc]) hgo (by simp [hx]) (Try.slices_Sort_int_none wa wc W) hd ?_
  rintro e W' ⟨rfl,rfl⟩
  refine ⟨_,rfl,h _ ?_⟩
  simpa using hS
 ·obtain ⟨b,cs,rfl,_⟩:=St.rowOwnE hS h0
  have hlt:=(hS.glt (List.mem_cons_self) (b:=b) rfl).2
  have h1:=Try.slices_Sort_int b 0 wc dl W (rL hdl hrow) hlt (by omega)
  rw [hdl] at h1
  refine aU (vs:=[.slice (some ⟨b,0,none⟩) m wc]) hgo (by simp [hx]) h1 hd ?_
  rintro e W' ⟨rfl,q,osn,rfl⟩
  exact ⟨_,rfl,h _ (hS.sortedI _ (by rw [List.length_mergeSort];exact hdl) q osn)⟩
end
def nI (l:List Nat):List Int:=l.map (fun (x:Nat)=>(x:Int))
theorem eG {l:List Nat}:(nI l).length=l.length:=List.length_map _
theorem zN_nI {l:List Nat}:zN l=zI (nI l):=by unfold zN zI nI;rw [List.map_map];rfl
theorem nA {all:List Nat} (hn:all.Nodup):∃ l:List Nat,((nI all).mergeSort fun x y=>decide (x≤y))=nI l∧l.Pairwise (· < ·)∧(∀ q,q∈l↔q∈all)∧l.length=all.length:=by
 have hp:=List.mergeSort_perm (nI all) (fun x y=>decide (x≤y))
 have hs:=List.pairwise_mergeSort (le:=fun (x y:Int)=>decide (x≤y)) (fun a b c h1 h2=>by simp at *;omega) (fun a b=>by simp;omega) (nI all)
 have hge:∀ x∈((nI all).mergeSort fun x y=>decide (x≤y)),0≤x:=fun x hx=>by
  obtain ⟨y,_,rfl⟩:=List.mem_map.1 (hp.mem_iff.1 hx)
  omega
 refine ⟨((nI all).mergeSort fun x y=>decide (x≤y)).map Int.toNat,?_,?_,fun q=>?_,?_⟩
 ·unfold nI
  rw [List.map_map]
  conv=>lhs;rw [← List.map_id ((List.map (fun (x:Nat)=>(x:Int)) all).mergeSort fun x y=>decide (x≤y))]
  refine List.map_congr_left fun x hx=>?_
  have:=hge x hx
  show x=((x.toNat:Nat):Int)
  omega
 ·have hnd:((nI all).mergeSort fun x y=>decide (x≤y)).Nodup:=hp.nodup_iff.2 (hn.map (fun (x:Nat)=>(x:Int)) (fun a b h e=>h (by exact Int.ofNat.inj e)))
  rw [List.pairwise_map]
  refine List.Pairwise.imp_of_mem ?_ (hs.and hnd)
  intro a b ha hb h1
  have h2:=of_decide_eq_true h1.1
  have h3:=h1.2
  have:=hge a ha
  have:=hge b hb
  omega
 ·constructor
  ·intro h
   obtain ⟨x,hx,rfl⟩:=List.mem_map.1 h
   obtain ⟨y,hy,rfl⟩:=List.mem_map.1 (hp.mem_iff.1 hx)
   simpa using hy
  ·intro h
   exact List.mem_map.2 ⟨(q:Int),hp.mem_iff.2 (List.mem_map.2 ⟨q,h,rfl⟩),by simp⟩
 ·rw [List.length_map,List.length_mergeSort,eG]
theorem qA:bD prog 44=true:=by kernel_rfl
theorem goes_45:bD prog 45=true:=by kernel_rfl
theorem nB {P:Program} {l:Fr} {W:World} {d f:Nat} {ty:TypeId} {pos:String} {aft:Array Edge} {x1 x2:Operand} {v1 v2:Value} (h1:evL l x1=some v1) (h2:evL l x2=some v2):cS P l ⟨some d,.makeFunc (.func f) #[] #[x1,x2],ty,pos,aft,none⟩ W (.func (.func f) #[] [v1,v2].toArray) W:=fun ev he=>by
 unfold execOp
 simp only []
 simp [Instr.makeFunc,he _ _ h1,he _ _ h2]
theorem fO {a:Option Addr} {m c:Nat} {zs:List Int} {W:World} (h:kH ⟨.slice a m c,m,zI zs⟩ W):Row W a zs:=by
 obtain ⟨a2,c2,e,hc,hx⟩:=h
 dsimp only at e hx
 obtain rfl:a=a2:=by injection e
 cases zs with
 | nil=>exact .inl rfl
 | cons y zs =>
  obtain ⟨b,rfl,_⟩:=hx 0 _ rfl
  refine .inr ⟨b,0,rfl,fun i hi=>?_⟩
  obtain ⟨b2,e9,h9⟩:=hx i (.int .i64 ((y::zs).getD i 0)) (by unfold zI;rw [List.getElem?_map,List.getElem?_eq_getElem hi,List.getD_eq_getElem?_getD,List.getElem?_eq_getElem hi];rfl)
  obtain rfl:b=b2:=by simpa using e9
  exact h9
def CLz (L:List ArV) (all:List Nat) (i:Nat):Prop:=∀ (j p q:Nat),j < i→all[j]?=some p→E1 L p q→q∈all
theorem CLz.mt {L:List ArV} {all:List Nat} {i x:Nat} (h:CLz L all i) (hi:i≤all.length):CLz L (mtN all x) i:=fun j p q hj hp he=>by
 rw [pZ (by omega)] at hp
 exact gR.2 (.inl (h j p q hj hp he))
theorem CLz.next {L:List ArV} {all:List Nat} {i p:Nat} (h:CLz L all i) (hp:all[i]?=some p) (hq:∀ t∈outs L p,t.s = -1→t.q.toNat∈all):CLz L all (i+1):=fun j p2 q hj hp2 he=>by
 rcases Nat.lt_or_ge j i with h9 | h9
 ·exact h j p2 q h9 hp2 he
 ·obtain rfl:j=i:=by omega
  obtain rfl:p=p2:=Option.some.inj (hp.symm.trans hp2)
  obtain ⟨t,ht,e1,e2,e3⟩:=he
  have:=hq t (List.mem_filter.2 ⟨ht,by simpa using e1⟩) e2
  rw [e3] at this
  simpa using this
theorem qB (y:Int) (n:Nat) (r:Int) (s9 ss:List Int) (all:List Nat) (AX CX RB SB OB:Nat) (wa:Option Addr) (m wc x:Nat) (Ot:Own) (G:aX) (K:List (Nat×World)) (w0 w:World) (hy:y=(x:Int)) (hS0:St w0 ((AX,[.slice wa m wc],25)::(CX,[.pointer (some ⟨RB,0,none⟩)],46)::(RB,[.slice (some ⟨OB,0,none⟩) n n,.slice (some ⟨SB,0,none⟩) n n,.int .i64 r],73)::(SB,zI (ss),3)::Ot) (⟨.slice wa m wc,m,zN (all),3,1⟩::G) K w) (hm:all.length=m) (hS9:SnOk n r s9 ss all) (hn4:n≤4096) (hx:x < n):Calls prog 44 #[.int .i64 y,.pointer (some ⟨CX,0,none⟩),.pointer (some ⟨AX,0,none⟩)] w (fun e w'=>∃ (wa:Option Addr) (m wc:Nat) (ss2:List Int),e = .returned (.tuple #[])∧(mtN all x).length=m∧SnOk n r s9 ss2 (mtN all x)∧St w0 ((AX,[.slice wa m wc],25)::(CX,[.pointer (some ⟨RB,0,none⟩)],46)::(RB,[.slice (some ⟨OB,0,none⟩) n n,.slice (some ⟨SB,0,none⟩) n n,.int .i64 r],73)::(SB,zI (ss2),3)::Ot) (⟨.slice wa m wc,m,zN (mtN all x),3,1⟩::G) K w'):=by
 subst hy;exact tQ n r s9 ss all AX CX RB SB OB wa m wc x Ot G K w0 w hS0 hm hS9 hn4 hx
theorem kI (n:Nat) (L:List ArV) (OB:Nat) (va:Nat→Option Addr) (vc:Nat→Nat) (RB SB:Nat) (r0 r:Int) (s9:List Int) (la:Option Addr) (ll lc:Nat) (ls:List Int) (Kt:List (Nat×World)) (Ot:Own) (G:aX) (K:List (Nat×World)) (w0 w:World) (hS0:St w0 ((RB,[.slice (some ⟨OB,0,none⟩) n n,.slice (some ⟨SB,0,none⟩) n n,.int .i64 r0],73)::(SB,zI s9,3)::Ot) G K w) (hKt:∀ q∈Kt,q∈K) (hOut:bT w0 Kt (fun W=>iO W OB n L va vc)) (hLs:bT w0 Kt (fun W=>Row W la ls)) (hll:ls.length=ll) (hlm:ll≤9223372036854775807) (hlt:∀ y∈ls,0≤y∧y < (n:Int)) (hq:∀ t∈L,0≤t.q∧t.q < (n:Int)) (hLl:L.length≤65536) (hs9:s9.length=n) (hr:IntKind.i64.wrap (r0+1)=r) (hfr:∀ x∈s9,x≠r) (hn4:n≤4096) :
  Calls prog 25 #[.pointer (some ⟨RB,0,none⟩),.slice la ll lc] w (fun e w'=>∃ (l:List Nat) (wa:Option Addr) (wc:Nat) (ss2:List Int),IsH L (fun q:Nat=>(q:Int)∈ls) l∧e = .returned (.slice wa l.length wc)∧l.length≤n∧ss2.length=n∧(∀ x∈ss2,x∈s9∨x=r)∧St w0 ((RB,[.slice (some ⟨OB,0,none⟩) n n,.slice (some ⟨SB,0,none⟩) n n,.int .i64 r],73)::(SB,zI ss2,3)::Ot) (⟨.slice wa l.length wc,l.length,zI (nI l),3,1⟩::G) K w'):=by
 refine bE (args:=[.pointer (some ⟨RB,0,none⟩),.slice la ll lc]) func25 rfl ntmps25 rfl ?_
 have hS:=hS0
 refine aD (aH (bY (cs:=[_]) hS rfl rfl rfl fun B1 W1 hS=>aA rfl rfl (aG (XF.thenN (aD (aH (aJ isAgg46 rfl (aF (hS.at_ 0 rfl) rfl) rfl (bJ rfl rfl (aI (o':=2) jQ rfl rfl rfl (aJ isAgg3 rfl (aF (hS.at_ 1 rfl) rfl) rfl (bB rfl rfl (hr) rfl (bJ rfl rfl (aI (o':=2) jQ rfl rfl rfl (bV (i:=1) (cs':=[_,_,_]) (O':=(_::_::_::Ot)) hS sizeOf3 rfl rfl rfl rfl rfl rfl rfl fun W2 hS=>aG (XF.thenN (aD (aH (bS (cs:=[_]) hS zeroValue25 rfl rfl fun B3 W3 hS=>aG (XF.thenN (aD (aH (opV (nB rfl rfl) rfl (aA rfl rfl (aG (XF.thenN (aD (aD ?_)))))))))))))))))))))))))))
 have hS':=hS.newG 3 1;clear hS;have hS:=hS';clear hS'
 have hSn0:SnOk n r s9 s9 []:=SnOk.start hs9 hfr
 refine aH (aB rfl rfl (bN underlying25 rfl rfl (aB rfl rfl (aG (XF.thenN (aL (cE (fun m l W=>∃ (i ml:Nat) (wa:Option Addr) (wc:Nat) (ss:List Int) (all:List Nat),i≤ll∧m=ll - i∧l=[(2,.pointer (some ⟨B1,0,none⟩)),(5,.pointer (some ⟨B3,0,none⟩)),(6,.func (.func 44) #[] [.pointer (some ⟨B1,0,none⟩),.pointer (some ⟨B3,0,none⟩)].toArray),(20,.slice la ll lc),(21,.int .i64 (ll:Int)),(22,.int .i64 (i:Int))]∧all.length=ml∧SnOk n r s9 ss all∧(∀ q:Nat,q∈all↔(q:Int)∈ls.take i)∧St w0 ((B3,[.slice wa ml wc],25)::(B1,[.pointer (some ⟨RB,0,none⟩)],46)::(RB,[.slice (some ⟨OB,0,none⟩) n n,.slice (some ⟨SB,0,none⟩) n n,.int .i64 r],73)::(SB,zI (ss),3)::Ot) (⟨.slice wa ml wc,ml,zN (all),3,1⟩::G) K W) (ll - 0) ([(2,_),(5,_),(6,_),(20,_),(21,_),(22,_)]) ⟨rfl,rfl,rfl,rfl,rfl,rfl,trivial⟩ (⟨0,0,none,0,s9,[],Nat.zero_le _,rfl,rfl,rfl,hSn0,by simp,hS.keep K (fun q hq=>by simp [hq])⟩) ?_)))))))
 clear hS
 rintro m l W ⟨i,ml,wa,wc,ss,all,hi,rfl,rfl,hml,hSn,hin,hS⟩
 refine aD (aH (bK rfl rfl rfl (aG (XF.thenN (aD (bC rfl (fun hc=>?_) (fun hc=>?_)))))))
 ·have hc23:=of_decide_eq_true hc;clear hc
  obtain ⟨b,off,y,hla,hy,hyc⟩:=(hLs (hS.keep K (fun q hq=>by simp [hq])) hKt).at1 (show i < ls.length by omega)
  obtain ⟨hy0,hy1⟩:=hlt y (List.mem_of_getElem? hy)
  obtain ⟨yn,hyn⟩:∃ k:Nat,y=(k:Int):=⟨y.toNat,by omega⟩
  refine aS (XF.thenN (aD (aL (aD (aH ?_)))))
  refine aQ (j:=i) (b:=b) (o:=off) (m:=ll) (c:=lc) underlying25 sizeOf3 (by show some (Value.slice _ _ _)=_;rw [hla]) rfl rfl (by omega) rfl rfl ?_
  refine aJ isAgg3 rfl (hyc) rfl (aA rfl rfl (aG (XF.thenN (aH (aB rfl rfl (aB rfl rfl (iL (vs:=[_]) (caps:=[_,_]) rfl qA rfl (qB y n r s9 ss all B3 B1 RB SB OB wa ml wc yn _ G K w0 _ hyn (hS.keep K (fun q hq=>by simp [hq])) hml hSn hn4 (by omega)) rfl ?_)))))))
  rintro e W9 ⟨wa2,ml2,wc2,ss2,rfl,hml2,hSn2,hS9⟩
  refine ⟨_,rfl,?_⟩
  clear hS;have hS:=hS9;clear hS9
  refine aG (XF.blkN (XF.thenN (aH (bB rfl rfl (IntWalk.i64_in _ (by omega)) rfl (aB rfl rfl (aG ?_))))))
  exact XF.round (ll - (i+1)) [(2,_),(5,_),(6,_),(20,_),(21,_),(22,_)] (by omega) ⟨rfl,rfl,rfl,rfl,rfl,rfl,trivial⟩ ⟨i+1,ml2,wa2,wc2,ss2,mtN all yn,by omega,rfl,rfl,hml2,hSn2,fun q=>(by rw [gR,hin,List.take_add_one,hy,List.mem_append];simp [hyn];constructor<;>rintro (h | h)<;>first | exact .inl h | exact .inr (by omega)),hS.keep K (fun q hq=>by simp [hq])⟩
 ·have hc23:=of_decide_eq_false hc;clear hc
  rw [List.take_of_length_le (by omega)] at hin
  refine bX (XF.thenX (XF.thenX (XF.blkX (XF.thenN (aD (aD (aH (aA rfl rfl (aG (XF.thenN (aL (cE (fun m l W=>∃ (i ml:Nat) (wa:Option Addr) (wc:Nat) (ss:List Int) (all:List Nat),i≤ml∧m=n - i∧l=[(2,.pointer (some ⟨B1,0,none⟩)),(5,.pointer (some ⟨B3,0,none⟩)),(6,.func (.func 44) #[] [.pointer (some ⟨B1,0,none⟩),.pointer (some ⟨B3,0,none⟩)].toArray),(9,.int .i64 (i:Int))]∧all.length=ml∧SnOk n r s9 ss all∧(∀ q∈all,Hd L (fun q:Nat=>(q:Int)∈ls) q)∧(∀ q:Nat,(q:Int)∈ls→q∈all)∧CLz L all i∧St w0 ((B3,[.slice wa ml wc],25)::(B1,[.pointer (some ⟨RB,0,none⟩)],46)::(RB,[.slice (some ⟨OB,0,none⟩) n n,.slice (some ⟨SB,0,none⟩) n n,.int .i64 r],73)::(SB,zI (ss),3)::Ot) (⟨.slice wa ml wc,ml,zN (all),3,1⟩::G) K W) (n - 0) ([(2,_),(5,_),(6,_),(9,_)]) ⟨rfl,rfl,rfl,rfl,trivial⟩ (⟨0,ml,wa,wc,ss,all,Nat.zero_le _,rfl,rfl,hml,hSn,fun q hq=>.base ((hin q).1 hq),fun q hq=>(hin q).2 hq,fun j p q hj=>absurd hj (Nat.not_lt_zero _),hS.keep K (fun q hq=>by simp [hq])⟩) ?_))))))))))))
  clear hS
  rintro m l W ⟨i,ml,wa,wc,ss,all,hi,rfl,rfl,hml,hSn,hh1,hh2,hcl,hS⟩
  have hlen:=hSn.le
  refine aD (aD (aH (aB rfl rfl (aJ isAgg25 rfl (aF (hS.at_ 0 rfl) rfl) rfl (bN underlying25 rfl rfl (bK rfl rfl rfl (aG (XF.thenN (bC rfl (fun hc=>?_) (fun hc=>?_))))))))))
  ·have hc33:=of_decide_eq_true hc;clear hc
   obtain ⟨p,hp⟩:∃ p,all[i]?=some p:=⟨_,List.getElem?_eq_getElem (by omega)⟩
   have hpn:=hSn.lt p (List.mem_of_getElem? hp)
   obtain ⟨sb,rfl⟩:=iK (hS.row 0 rfl) (by omega)
   have hmc:W.cell? ⟨sb,0+i * 1,none⟩=some (.int .i64 (p:Int)):=by
    rw [Nat.zero_add,Nat.mul_one]
    exact eT (hS.row 0 rfl) (k:=i) (by show (zN _)[i]?=_;unfold zN;rw [List.getElem?_map,hp];rfl)
   obtain ⟨hoc,_⟩:=hOut (hS.keep K (fun q hq=>by simp [hq])) hKt p hpn
   have hol9:(outs L p).length≤65536:=Nat.le_trans (List.length_filter_le _ _) hLl
   refine aS (XF.thenN (aD (aL (aD (lL (m:=12) cQ hS (by kernel_rfl) (by kernel_rfl) rfl (dB 1 rfl 2 rfl rfl (fun w hw=>bR isAgg46 rfl ((aY hw 0).cell (Nat.zero_le _) (aF (hS.at_ 1 rfl) rfl))) rfl (cD 2 rfl 36 0 rfl rfl rfl (fun w hw=>cP rfl) rfl (cD 3 rfl 37 1 rfl rfl rfl (fun w hw=>cF (o':=0) gQ rfl rfl) rfl (cD 4 rfl 38 2 rfl rfl rfl (fun w hw=>bR isAgg71 rfl ((aY hw 0).cell (Nat.zero_le _) (aF (hS.at_ 2 rfl) rfl))) rfl (dB 5 rfl 5 rfl rfl (fun w hw=>bR isAgg25 rfl ((aY hw 0).cell (Nat.zero_le _) (aF (hS.at_ 0 rfl) rfl))) rfl (dB 6 rfl 9 rfl rfl (fun w hw=>bI rfl) rfl (aZ 7 rfl (isV _) (aT _) (rgV (li:=[(40,_),(41,_)]) rfl (bO rfl) ⟨aW 4 (aM rfl rfl rfl),aW 5 (aM rfl rfl rfl),trivial⟩ (fun w hw=>cG (j:=i) (b:=sb) (o:=0) (m:=ml) (c:=wc) underlying25 sizeOf3 rfl rfl rfl (by omega) rfl) (aV rfl)) (cD 8 rfl 42 6 rfl rfl rfl (fun w hw=>bR isAgg3 rfl ((aY hw 0).cell (Nat.zero_le _) (hmc))) rfl (aZ 9 rfl (isV _) (aT _) (rgV (li:=[(39,_),(43,_)]) rfl (bO rfl) ⟨aW 3 (aM rfl rfl rfl),aW 7 (aM rfl rfl rfl),trivial⟩ (fun w hw=>cG (j:=p) (b:=OB) (o:=0) (m:=n) (c:=n) underlying71 sizeOf22 rfl rfl rfl (by omega) rfl) (aV rfl)) (cD 10 rfl 44 8 rfl rfl rfl (fun w hw=>bR isAgg22 rfl ((aY hw 0).cell (Nat.zero_le _) (hoc))) rfl (cD 11 rfl 45 9 rfl rfl rfl (fun w hw=>sM underlying22 rfl) rfl (aZ 12 rfl (isV _) (aT _) (rgV (li:=[]) rfl (bO rfl) trivial (fun w hw=>bI rfl) (aV rfl)) (fM ?_))))))))))))))))))
   intro W4 hbR hS'
   clear hS;have hS:=hS';clear hS'
   refine aR (aR (aR (aR (aR (aR (aR (aR (aR (aR (aR (aR (dM (XF.thenN (aL (cE (fun m l W=>∃ (x ml:Nat) (wa:Option Addr) (wc:Nat) (ss:List Int) (all:List Nat),x≤(outs L p).length∧m=(outs L p).length - x∧l=[(2,.pointer (some ⟨B1,0,none⟩)),(5,.pointer (some ⟨B3,0,none⟩)),(6,.func (.func 44) #[] [.pointer (some ⟨B1,0,none⟩),.pointer (some ⟨B3,0,none⟩)].toArray),(9,.int .i64 (i:Int)),(45,.slice (va p) (outs L p).length (vc p)),(46,.int .i64 ((outs L p).length:Int)),(47,.int .i64 (x:Int))]∧all.length=ml∧i < ml∧all[i]?=some p∧SnOk n r s9 ss all∧(∀ q∈all,Hd L (fun q:Nat=>(q:Int)∈ls) q)∧(∀ q:Nat,(q:Int)∈ls→q∈all)∧CLz L all i∧(∀ t∈(outs L p).take x,t.s = -1→t.q.toNat∈all)∧St w0 ((B3,[.slice wa ml wc],25)::(B1,[.pointer (some ⟨RB,0,none⟩)],46)::(RB,[.slice (some ⟨OB,0,none⟩) n n,.slice (some ⟨SB,0,none⟩) n n,.int .i64 r],73)::(SB,zI (ss),3)::Ot) (⟨.slice wa ml wc,ml,zN (all),3,1⟩::G) K W) ((outs L p).length - 0) ([(2,_),(5,_),(6,_),(9,_),(45,_),(46,_),(47,_)]) ⟨rfl,rfl,rfl,rfl,rfl,rfl,rfl,trivial⟩ (⟨0,ml,some ⟨sb,0,none⟩,wc,ss,all,Nat.zero_le _,rfl,rfl,hml,by omega,hp,hSn,hh1,hh2,hcl,fun t ht=>(by cases ht),hS.keep K (fun q hq=>by simp [hq])⟩) ?_)))))))))))))))
   clear hS
   clear hmc hoc hp hh1 hh2 hcl hSn hml hlen hi
   rintro m l W ⟨x,ml,wa,wc,ss,all,hx,rfl,rfl,hml,hil,hp,hSn,hh1,hh2,hcl,hdo,hS⟩
   have hlen:=hSn.le
   refine aD (aH (bK rfl rfl rfl (aG (XF.thenN (aD (bC rfl (fun hc=>?_) (fun hc=>?_)))))))
   ·have hc48:=of_decide_eq_true hc;clear hc
    obtain ⟨t,ht⟩:∃ t,(outs L p)[x]?=some t:=⟨_,List.getElem?_eq_getElem (by omega)⟩
    obtain ⟨b,off,haa,hcs⟩:=(hOut (hS.keep K (fun q hq=>by simp [hq])) hKt p hpn).2 x t ht
    have k1:=hcs
    have htm:=List.mem_filter.1 (List.mem_of_getElem? ht)
    have htf:t.f=(p:Int):=of_decide_eq_true htm.2
    obtain ⟨hq0,hq1⟩:=hq t htm.1
    obtain ⟨qn,hqn⟩:∃ k:Nat,t.q=(k:Int):=⟨t.q.toNat,by omega⟩
    refine aS (XF.thenN (aD (aL (aD (aH ?_)))))
    refine aQ (j:=x) (b:=b) (o:=off) (m:=(outs L p).length) (c:=vc p) underlying22 sizeOf57 (by show some (Value.slice _ _ _)=_;rw [haa]) rfl rfl (by omega) rfl rfl ?_
    refine aO (vs:=[_,_,_]) isAgg57 sizeOf57 rfl k1 rfl (bS (cs:=[_,_,_]) hS zeroValue57 rfl rfl fun B5 W5 hS=>bQ (i:=0) (vs:=[_,_,_]) (cs':=[_,_,_]) (O':=(_::_::_::_::_::Ot)) hS sizeOf57 rfl rfl rfl rfl rfl rfl rfl fun W6 hS=>aG (XF.thenN (aD (aH (aI (o':=1) dE rfl rfl rfl (aJ isAgg3 rfl (aF (hS.at_ 0 rfl) rfl) rfl (dN rfl rfl rfl (aG (XF.thenN (bC rfl (fun hc=>?_) (fun hc=>?_)))))))))))
    ·have hc53:=of_decide_eq_true hc;clear hc
     refine aH (aB rfl rfl (aI (o':=2) dH rfl rfl rfl (aJ isAgg3 rfl (aF (hS.at_ 0 rfl) rfl) rfl (iL (vs:=[_]) (caps:=[_,_]) rfl qA rfl (qB t.q n r s9 ss all B3 B1 RB SB OB wa ml wc qn _ G K w0 _ hqn (hS.tail.keep K (fun q hq=>by simp [hq])) hml hSn hn4 (by omega)) rfl ?_))))
     rintro e W9 ⟨wa2,ml2,wc2,ss2,rfl,hml2,hSn2,hS9⟩
     refine ⟨_,rfl,?_⟩
     clear hS;have hS:=hS9;clear hS9
     refine aG (XF.blkN (XF.thenN (aH (bB rfl rfl (IntWalk.i64_in _ (by omega)) rfl (aB rfl rfl (aG ?_))))))
     have hs1:t.s = -1:=by simpa using hc53
     exact XF.round ((outs L p).length - (x+1)) [(2,_),(5,_),(6,_),(9,_),(45,_),(46,_),(47,_)] (by omega) ⟨rfl,rfl,rfl,rfl,rfl,rfl,rfl,trivial⟩ ⟨x+1,ml2,wa2,wc2,ss2,mtN all qn,by omega,rfl,rfl,hml2,by have:=mtN_len (all:=all) (x:=qn);omega,by rw [pZ (by omega)];exact hp,hSn2,fun q hq=>(gR.1 hq).elim (hh1 q) (fun e=>by rw [e];exact .arc (hh1 p (List.mem_of_getElem? hp)) ⟨t,htm.1,htf,hs1,hqn⟩),fun q hq=>gR.2 (.inl (hh2 q hq)),hcl.mt (by omega),fun t2 ht2 e2=>(by
      rw [List.take_add_one,ht] at ht2
      rcases List.mem_append.1 ht2 with h9 | h9
      ·exact gR.2 (.inl (hdo t2 h9 e2))
      ·obtain rfl:t2=t:=by simpa using h9
       exact gR.2 (.inr (by rw [hqn];rfl))),hS.keep K (fun q hq=>by simp [hq])⟩
    ·have hc53:=of_decide_eq_false hc;clear hc
     refine aS (XF.blkN (XF.thenN (aH (bB rfl rfl (IntWalk.i64_in _ (by omega)) rfl (aB rfl rfl (aG ?_))))))
     have hs1:¬ t.s = -1:=by simpa using hc53
     exact XF.round ((outs L p).length - (x+1)) [(2,_),(5,_),(6,_),(9,_),(45,_),(46,_),(47,_)] (by omega) ⟨rfl,rfl,rfl,rfl,rfl,rfl,rfl,trivial⟩ ⟨x+1,ml,wa,wc,ss,all,by omega,rfl,rfl,hml,hil,hp,hSn,hh1,hh2,hcl,fun t2 ht2 e2=>(by
      rw [List.take_add_one,ht] at ht2
      rcases List.mem_append.1 ht2 with h9 | h9
      ·exact hdo t2 h9 e2
      ·obtain rfl:t2=t:=by simpa using h9
       exact absurd e2 hs1),hS.tail.keep K (fun q hq=>by simp [hq])⟩
   ·have hc48:=of_decide_eq_false hc;clear hc
    rw [List.take_of_length_le (by omega)] at hdo
    refine bX (XF.thenX (XF.thenX (XF.blkX (XF.blkN (XF.thenN (aH (aB rfl rfl (bB rfl rfl (IntWalk.i64_in _ (by omega)) rfl (aA rfl rfl (aG ?_))))))))))
    exact XF.round (n - (i+1)) [(2,_),(5,_),(6,_),(9,_)] (by omega) ⟨rfl,rfl,rfl,rfl,trivial⟩ ⟨i+1,ml,wa,wc,ss,all,by omega,rfl,rfl,hml,hSn,hh1,hh2,hcl.next hp hdo,hS.keep K (fun q hq=>by simp [hq])⟩
  ·have hc33:=of_decide_eq_false hc;clear hc
   have eim:i=ml:=by omega
   obtain ⟨l9,hso,hup,hmem,hlen9⟩:=nA hSn.nd
   have hH:IsH L (fun q:Nat=>(q:Int)∈ls) l9:=⟨hup,fun q=>by
    rw [hmem]
    exact hd_of hh1 hh2 (fun p hp q he=>by
     obtain ⟨j,hj⟩:=List.getElem?_of_mem hp
     exact hcl j p q (by have:=(List.getElem?_eq_some_iff.1 hj).1;omega) hj he) q⟩
   rw [zN_nI] at hS
   refine bX (XF.thenX (XF.thenX (XF.blkX (XF.thenN (aD (aH (aJ isAgg25 rfl (aF (hS.at_ 0 rfl) rfl) rfl ?_)))))))
   refine tR hS goes_45 rfl (by rw [eG];exact hml) (by omega) rfl ?_
   intro W9 hS9
   rw [hso] at hS9
   clear hS;have hS:=hS9;clear hS9
   refine aG (XF.thenN (aD (aH (aJ isAgg25 rfl (aF (hS.at_ 0 rfl) rfl) rfl (aA rfl rfl (aG (XF.thenN (bH (XF.res (bU results25 rfl) ?_)))))))))
   have hl9:l9.length=ml:=by rw [hlen9,hml]
   subst hl9
   exact ⟨l9,wa,wc,ss,hH,rfl,by omega,hSn.len,hSn.from_,(hS.keep K (fun q hq=>by simp [hq])).tail.tail⟩
theorem eJ (n:Nat) (L:List ArV) (OB:Nat) (va:Nat→Option Addr) (vc:Nat→Nat) (RB SB:Nat) (r0 r:Int) (s9:List Int) (la:Option Addr) (ll lc:Nat) (ls:List Int) (Kt:List (Nat×World)) (Ot:Own) (G:aX) (K:List (Nat×World)) (w0 w:World) (hS0:St w0 ((RB,[.slice (some ⟨OB,0,none⟩) n n,.slice (some ⟨SB,0,none⟩) n n,.int .i64 r0],73)::(SB,zI s9,3)::Ot) G K w) (hKt:∀ q∈Kt,q∈K) (hOut:bT w0 Kt (fun W=>iO W OB n L va vc)) (hLs:bT w0 Kt (fun W=>Row W la ls)) (hll:ls.length=ll) (hlm:ll≤9223372036854775807) (hlt:∀ y∈ls,0≤y∧y < (n:Int)) (hq:∀ t∈L,0≤t.q∧t.q < (n:Int)) (hLl:L.length≤65536) (hs9:s9.length=n) (hr:IntKind.i64.wrap (r0+1)=r) (hfr:∀ x∈s9,x≠r) (hn4:n≤4096) :
  Calls prog 25 #[.pointer (some ⟨RB,0,none⟩),.slice la ll lc] w (fun e w'=>∃ (l:List Nat) (wa:Option Addr) (wc:Nat) (ss2:List Int) (Kn:List (Nat×World)),IsH L (fun q:Nat=>(q:Int)∈ls) l∧e = .returned (.slice wa l.length wc)∧l.length≤n∧ss2.length=n∧(∀ x∈ss2,x∈s9∨x=r)∧(∀ q∈K,q∈Kn)∧bT w0 Kn (fun W=>Row W wa (nI l))∧St w0 ((RB,[.slice (some ⟨OB,0,none⟩) n n,.slice (some ⟨SB,0,none⟩) n n,.int .i64 r],73)::(SB,zI ss2,3)::Ot) G Kn w'):=by
 refine (kI n L OB va vc RB SB r0 r s9 la ll lc ls Kt Ot G K w0 w hS0 hKt hOut hLs hll hlm hlt hq hLl hs9 hr hfr hn4).mono ?_
 rintro e w1 ⟨l,wa,wc,ss,hH,rfl,h1,h2,h3,hS⟩
 obtain ⟨K1,k1,g1,hS1⟩:=St.rowKeepN (o:=⟨.slice wa l.length wc,l.length,zI (nI l)⟩) hS
 exact ⟨l,wa,wc,ss,K1,hH,rfl,h1,h2,h3,k1,fun h9 hk9=>fO (g1 h9 hk9),hS1⟩
theorem fP:bD prog 25=true:=by kernel_rfl
theorem IsH.congr {L:List ArV} {P R:Nat→Prop} {l:List Nat} (h:IsH L P l) (e:∀ q,P q↔R q):IsH L R l:=⟨h.up,fun q=>by
 rw [h.at_]
 exact ⟨Hd.mono fun q h1=>(e q).1 h1,Hd.mono fun q h1=>(e q).2 h1⟩⟩
def ToK (L:List ArV) (x:Int) (lp:List Nat) (i p z:Nat) (tos:List Int):Prop:=∀ y:Int,y∈tos↔(∃ p2∈lp.take i,∃ t∈outs L p2,(t.s=x∨t.s = -2)∧t.q=y)∨∃ t∈(outs L p).take z,(t.s=x∨t.s = -2)∧t.q=y
section
variable {L:List ArV} {x:Int} {lp:List Nat} {i p z:Nat} {tos:List Int} {t:ArV}
theorem ToK.start:ToK L x lp 0 p 0 []:=fun y=>by simp
theorem ToK.any {p2:Nat} (h:ToK L x lp i p 0 tos):ToK L x lp i p2 0 tos:=fun y=>by rw [h y];simp
theorem ToK.yes (h:ToK L x lp i p z tos) (ht:(outs L p)[z]?=some t) (hs:t.s=x∨t.s = -2):ToK L x lp i p (z+1) (tos++[t.q]):=fun y=>by
 rw [List.mem_append,h y,List.mem_singleton,List.take_add_one,ht]
 constructor
 ·rintro ((h1 | ⟨t2,h2,h3⟩) | rfl)
  ·exact .inl h1
  ·exact .inr ⟨t2,List.mem_append_left _ h2,h3⟩
  ·exact .inr ⟨t,List.mem_append_right _ (by simp),hs,rfl⟩
 ·rintro (h1 | ⟨t2,h2,h3⟩)
  ·exact .inl (.inl h1)
  ·rcases List.mem_append.1 h2 with h2 | h2
   ·exact .inl (.inr ⟨t2,h2,h3⟩)
   ·obtain rfl:t2=t:=by simpa using h2
    exact .inr h3.2.symm
theorem ToK.no (h:ToK L x lp i p z tos) (ht:(outs L p)[z]?=some t) (hs:¬ (t.s=x∨t.s = -2)):ToK L x lp i p (z+1) tos:=fun y=>by
 rw [h y,List.take_add_one,ht]
 constructor
 ·rintro (h1 | ⟨t2,h2,h3⟩)
  ·exact .inl h1
  ·exact .inr ⟨t2,List.mem_append_left _ h2,h3⟩
 ·rintro (h1 | ⟨t2,h2,h3⟩)
  ·exact .inl h1
  ·rcases List.mem_append.1 h2 with h2 | h2
   ·exact .inr ⟨t2,h2,h3⟩
   ·obtain rfl:t2=t:=by simpa using h2
    exact absurd h3.1 hs
theorem ToK.next (h:ToK L x lp i p (outs L p).length tos) (hp:lp[i]?=some p):ToK L x lp (i+1) 0 0 tos:=fun y=>by
 rw [h y,List.take_of_length_le (Nat.le_refl _),List.take_add_one,hp]
 constructor
 ·rintro (⟨p2,h1,h2⟩ | h2)
  ·exact .inl ⟨p2,List.mem_append_left _ h1,h2⟩
  ·exact .inl ⟨p,List.mem_append_right _ (by simp),h2⟩
 ·rintro (⟨p2,h1,h2⟩ | ⟨t2,h2,_⟩)
  ·rcases List.mem_append.1 h1 with h1 | h1
   ·exact .inl ⟨p2,h1,h2⟩
   ·obtain rfl:p2=p:=by simpa using h1
    exact .inr h2
  ·cases h2
theorem ToK.end_ (h:ToK L x lp lp.length 0 0 tos) (q:Nat):(q:Int)∈tos↔By9 L x (fun q=>q∈lp) q:=by
 rw [h (q:Int),List.take_of_length_le (Nat.le_refl _)]
 constructor
 ·rintro (⟨p,h1,t,h2,h3,h4⟩ | ⟨t2,h2,_⟩)
  ·obtain ⟨h5,h6⟩:=List.mem_filter.1 h2
   exact ⟨p,h1,t,h5,of_decide_eq_true h6,h3,h4⟩
  ·cases h2
 ·rintro ⟨p,h1,t,h5,h6,h3,h4⟩
  exact .inl ⟨p,h1,t,List.mem_filter.2 ⟨h5,by simpa using h6⟩,h3,h4⟩
theorem ToK.inL (h:ToK L x lp i 0 0 tos) {y:Int} (hy:y∈tos):∃ t∈L,t.q=y:=by
 rcases (h y).1 hy with ⟨p,h1,t,h2,h3,h4⟩ | ⟨t2,h2,_⟩
 ·exact ⟨t,(List.mem_filter.1 h2).1,h4⟩
 ·cases h2
end
theorem lB (n:Nat) (L:List ArV) (OB:Nat) (va:Nat→Option Addr) (vc:Nat→Nat) (RB SB:Nat) (r0 r:Int) (s9:List Int) (la:Option Addr) (ll lc:Nat) (lp:List Nat) (x:Int) (Kt:List (Nat×World)) (Ot:Own) (G:aX) (K:List (Nat×World)) (w0 w:World) (hS0:St w0 ((RB,[.slice (some ⟨OB,0,none⟩) n n,.slice (some ⟨SB,0,none⟩) n n,.int .i64 r0],73)::(SB,zI s9,3)::Ot) G K w) (hKt:∀ q∈Kt,q∈K) (hOut:bT w0 Kt (fun W=>iO W OB n L va vc)) (hLs:bT w0 Kt (fun W=>Row W la (nI lp))) (hll:lp.length=ll) (hln:ll≤n) (hlt:∀ p∈lp,p < n) (hq:∀ t∈L,0≤t.q∧t.q < (n:Int)) (hLl:L.length≤65536) (hs9:s9.length=n) (hr:IntKind.i64.wrap (r0+1)=r) (hfr:∀ x∈s9,x≠r) (hn4:n≤4096) :
  Calls prog 30 #[.pointer (some ⟨RB,0,none⟩),.int .i64 x,.slice la ll lc] w (fun e w'=>∃ (l:List Nat) (wa:Option Addr) (wc:Nat) (ss2:List Int) (Kn:List (Nat×World)),IsH L (By9 L x (fun q=>q∈lp)) l∧e = .returned (.slice wa l.length wc)∧l.length≤n∧ss2.length=n∧(∀ x∈ss2,x∈s9∨x=r)∧(∀ q∈K,q∈Kn)∧St w0 ((RB,[.slice (some ⟨OB,0,none⟩) n n,.slice (some ⟨SB,0,none⟩) n n,.int .i64 r],73)::(SB,zI ss2,3)::Ot) (⟨.slice wa l.length wc,l.length,zI (nI l),3,1⟩::G) Kn w'):=by
 refine bE (args:=[.pointer (some ⟨RB,0,none⟩),.int .i64 x,.slice la ll lc]) func30 rfl ntmps30 rfl ?_
 have hS:=hS0
 refine aD (aH (aA rfl rfl (aG (XF.thenN (aD (aH (aA rfl rfl (aG (XF.thenN (aD (aD ?_)))))))))))
 have hS':=hS.newG 3 1;clear hS;have hS:=hS';clear hS'
 refine aH (aB rfl rfl (bN underlying25 rfl rfl (aB rfl rfl (aG (XF.thenN (aL (cE (fun m l W=>∃ (i ml:Nat) (wa:Option Addr) (wc:Nat) (tos:List Int),i≤ll∧m=ll - i∧l=[(0,.pointer (some ⟨RB,0,none⟩)),(1,.int .i64 x),(7,.slice wa ml wc),(12,.slice la ll lc),(13,.int .i64 (ll:Int)),(14,.int .i64 (i:Int))]∧tos.length=ml∧ml≤i * 65536∧ToK L x lp i 0 0 tos∧St w0 ((RB,[.slice (some ⟨OB,0,none⟩) n n,.slice (some ⟨SB,0,none⟩) n n,.int .i64 r0],73)::(SB,zI s9,3)::Ot) (⟨.slice wa ml wc,ml,zI (tos),3,1⟩::G) K W) (ll - 0) ([(0,_),(1,_),(7,_),(12,_),(13,_),(14,_)]) ⟨rfl,rfl,rfl,rfl,rfl,rfl,trivial⟩ (⟨0,0,none,0,[],Nat.zero_le _,rfl,rfl,rfl,(by omega),ToK.start,hS.keep K (fun q hq=>by simp [hq])⟩) ?_)))))))
 clear hS
 rintro m l W ⟨i,ml,wa,wc,tos,hi,rfl,rfl,htl,hmb,hto,hS⟩
 refine aD (aH (bK rfl rfl rfl (aG (XF.thenN (aD (bC rfl (fun hc=>?_) (fun hc=>?_)))))))
 ·have hc15:=of_decide_eq_true hc;clear hc
  obtain ⟨p,hp⟩:∃ p,lp[i]?=some p:=⟨_,List.getElem?_eq_getElem (by omega)⟩
  have hpn:=hlt p (List.mem_of_getElem? hp)
  obtain ⟨b,off,y,hla,hy,hyc⟩:=(hLs (hS.keep K (fun q hq=>by simp [hq])) hKt).at1 (show i < (nI lp).length by rw [eG];omega)
  obtain rfl:y=(p:Int):=by unfold nI at hy;rw [List.getElem?_map,hp] at hy;exact (Option.some.inj hy).symm
  obtain ⟨hoc,_⟩:=hOut (hS.keep K (fun q hq=>by simp [hq])) hKt p hpn
  have hol9:(outs L p).length≤65536:=Nat.le_trans (List.length_filter_le _ _) hLl
  have hto2:ToK L x lp i p 0 tos:=hto.any
  have hmb2:ml≤i * 65536+0:=by rw [Nat.add_zero];exact hmb
  refine aS (XF.thenN (aD (aL (aD (aH ?_)))))
  refine aQ (j:=i) (b:=b) (o:=off) (m:=ll) (c:=lc) underlying25 sizeOf3 (by show some (Value.slice _ _ _)=_;rw [hla]) rfl rfl (by omega) rfl rfl ?_
  refine aJ isAgg3 rfl (hyc) rfl (aA rfl rfl (aG (XF.thenN (aD (aH (aB rfl rfl (bJ rfl rfl (aI (o':=0) gQ rfl rfl rfl (aJ isAgg71 rfl (aF (hS.at_ 0 rfl) rfl) rfl (aB rfl rfl (aQ (j:=p) (b:=OB) (o:=0) (m:=n) (c:=n) underlying71 sizeOf22 rfl rfl rfl (by omega) rfl rfl (aJ isAgg22 rfl (hoc) rfl (bN underlying22 rfl rfl (aB rfl rfl (aG (XF.thenN (aL (cE (fun m l W=>∃ (z ml:Nat) (wa:Option Addr) (wc:Nat) (tos:List Int),z≤(outs L p).length∧m=(outs L p).length - z∧l=[(0,.pointer (some ⟨RB,0,none⟩)),(1,.int .i64 x),(7,.slice wa ml wc),(12,.slice la ll lc),(13,.int .i64 (ll:Int)),(14,.int .i64 (i:Int)),(24,.slice (va p) (outs L p).length (vc p)),(25,.int .i64 ((outs L p).length:Int)),(26,.int .i64 (z:Int))]∧tos.length=ml∧ml≤i * 65536+z∧ToK L x lp i p z tos∧St w0 ((RB,[.slice (some ⟨OB,0,none⟩) n n,.slice (some ⟨SB,0,none⟩) n n,.int .i64 r0],73)::(SB,zI s9,3)::Ot) (⟨.slice wa ml wc,ml,zI (tos),3,1⟩::G) K W) ((outs L p).length - 0) ([(0,_),(1,_),(7,_),(12,_),(13,_),(14,_),(24,_),(25,_),(26,_)]) ⟨rfl,rfl,rfl,rfl,rfl,rfl,rfl,rfl,rfl,trivial⟩ (⟨0,ml,wa,wc,tos,Nat.zero_le _,rfl,rfl,htl,hmb2,hto2,hS.keep K (fun q hq=>by simp [hq])⟩) ?_))))))))))))))))))
  clear hS
  have hil:i < ll:=by omega
  clear hmb hto hmb2 hto2 htl hi hoc hyc hy
  rintro m l W ⟨z,ml,wa,wc,tos,hz,rfl,rfl,htl,hmb,hto,hS⟩
  have hib:i * 65536≤4096 * 65536:=Nat.mul_le_mul_right _ (by omega)
  refine aD (aH (bK rfl rfl rfl (aG (XF.thenN (aD (bC rfl (fun hc=>?_) (fun hc=>?_)))))))
  ·have hc27:=of_decide_eq_true hc;clear hc
   obtain ⟨t,ht⟩:∃ t,(outs L p)[z]?=some t:=⟨_,List.getElem?_eq_getElem (by omega)⟩
   obtain ⟨b,off,haa,hcs⟩:=(hOut (hS.keep K (fun q hq=>by simp [hq])) hKt p hpn).2 z t ht
   have k1:=hcs
   refine aS (XF.thenN (aD (aL (aD (aH ?_)))))
   refine aQ (j:=z) (b:=b) (o:=off) (m:=(outs L p).length) (c:=vc p) underlying22 sizeOf57 (by show some (Value.slice _ _ _)=_;rw [haa]) rfl rfl (by omega) rfl rfl ?_
   refine aO (vs:=[_,_,_]) isAgg57 sizeOf57 rfl k1 rfl (bS (cs:=[_,_,_]) hS zeroValue57 rfl rfl fun B1 W1 hS=>bQ (i:=0) (vs:=[_,_,_]) (cs':=[_,_,_]) (O':=(_::_::_::Ot)) hS sizeOf57 rfl rfl rfl rfl rfl rfl rfl fun W2 hS=>aG (XF.thenN (aD (aH (aI (o':=1) dE rfl rfl rfl (aJ isAgg3 rfl (aF (hS.at_ 0 rfl) rfl) rfl (aB rfl rfl (dN rfl rfl rfl (aB rfl rfl (bF (d:=34) rfl (fun hc=>?_) (fun hc=>?_)))))))))))
   ·have hg34:=of_decide_eq_true hc;clear hc
    refine aE (d:=34) rfl rfl rfl rfl (aE (d:=34) rfl rfl rfl rfl (aE (d:=34) rfl rfl rfl rfl (aN rfl rfl rfl (aG (XF.thenN (cI rfl (aH (aB rfl rfl (aI (o':=2) dH rfl rfl rfl (aJ isAgg3 rfl (aF (hS.at_ 0 rfl) rfl) rfl (bP (us:=[(0,.int .i64 _)]) hS underlying25 sizeOf3 zeroValue3 rfl rfl rfl (dS _) rfl fun B3 W3 hS=>?_)))))))))))
    refine dT (i:=0) (news:=[_]) hS underlying25 jH rfl rfl (by show 0 < 1;decide) rfl rfl rfl rfl rfl (aK.own (j:=0) (m:=1) (hS.at_ 0 rfl) rfl) rfl rfl (by dsimp only;simp only [maxLen];omega) (by dsimp only;show _ * 8≤_;omega) rfl fun v4 W4 hS=>?_
    obtain ⟨wa9,wc9,e9,_⟩:=cL (hS.row 0 rfl)
    dsimp only at e9
    subst e9
    refine aA rfl rfl (aG (XF.blkN (XF.thenN (aH (bB rfl rfl (IntWalk.i64_in _ (by omega)) rfl (aB rfl rfl (aG ?_)))))))
    have hS9:=hS.tail.tail.castG (G':=(⟨.slice wa9 (ml+1) wc9,(ml+1),zI (tos++[t.q]),3,1⟩::G)) (by show GR.mk _ _ (zI tos++[Value.int .i64 _]) _ _::_=_;rw [lW])
    exact XF.round ((outs L p).length - (z+1)) [(0,_),(1,_),(7,_),(12,_),(13,_),(14,_),(24,_),(25,_),(26,_)] (by omega) ⟨rfl,rfl,rfl,rfl,rfl,rfl,rfl,rfl,rfl,trivial⟩ ⟨z+1,ml+1,wa9,wc9,tos++[t.q],by omega,rfl,rfl,by simp [htl],by omega,hto.yes ht (.inl (by simpa using hg34)),hS9.keep K (fun q hq=>by simp [hq])⟩
   ·have hg34:=of_decide_eq_false hc;clear hc
    refine aC (d:=34) rfl rfl (aI (o':=1) dE rfl rfl rfl (aC (d:=34) rfl rfl (aJ isAgg3 rfl (aF (hS.at_ 0 rfl) rfl) rfl (aC (d:=34) rfl rfl (dN rfl rfl rfl (bA rfl rfl rfl (aG (XF.thenN (bC rfl (fun hc=>?_) (fun hc=>?_))))))))))
    ·have hc38:=of_decide_eq_true hc;clear hc
     refine aH (aB rfl rfl (aI (o':=2) dH rfl rfl rfl (aJ isAgg3 rfl (aF (hS.at_ 0 rfl) rfl) rfl (bP (us:=[(0,.int .i64 _)]) hS underlying25 sizeOf3 zeroValue3 rfl rfl rfl (dS _) rfl fun B5 W5 hS=>?_))))
     refine dT (i:=0) (news:=[_]) hS underlying25 jH rfl rfl (by show 0 < 1;decide) rfl rfl rfl rfl rfl (aK.own (j:=0) (m:=1) (hS.at_ 0 rfl) rfl) rfl rfl (by dsimp only;simp only [maxLen];omega) (by dsimp only;show _ * 8≤_;omega) rfl fun v6 W6 hS=>?_
     obtain ⟨wa9,wc9,e9,_⟩:=cL (hS.row 0 rfl)
     dsimp only at e9
     subst e9
     refine aA rfl rfl (aG (XF.blkN (XF.thenN (aH (bB rfl rfl (IntWalk.i64_in _ (by omega)) rfl (aB rfl rfl (aG ?_)))))))
     have hS9:=hS.tail.tail.castG (G':=(⟨.slice wa9 (ml+1) wc9,(ml+1),zI (tos++[t.q]),3,1⟩::G)) (by show GR.mk _ _ (zI tos++[Value.int .i64 _]) _ _::_=_;rw [lW])
     exact XF.round ((outs L p).length - (z+1)) [(0,_),(1,_),(7,_),(12,_),(13,_),(14,_),(24,_),(25,_),(26,_)] (by omega) ⟨rfl,rfl,rfl,rfl,rfl,rfl,rfl,rfl,rfl,trivial⟩ ⟨z+1,ml+1,wa9,wc9,tos++[t.q],by omega,rfl,rfl,by simp [htl],by omega,hto.yes ht (.inr (by simpa using hc38)),hS9.keep K (fun q hq=>by simp [hq])⟩
    ·have hc38:=of_decide_eq_false hc;clear hc
     refine aS (XF.blkN (XF.thenN (aH (bB rfl rfl (IntWalk.i64_in _ (by omega)) rfl (aB rfl rfl (aG ?_))))))
     exact XF.round ((outs L p).length - (z+1)) [(0,_),(1,_),(7,_),(12,_),(13,_),(14,_),(24,_),(25,_),(26,_)] (by omega) ⟨rfl,rfl,rfl,rfl,rfl,rfl,rfl,rfl,rfl,trivial⟩ ⟨z+1,ml,wa,wc,tos,by omega,rfl,rfl,htl,by omega,hto.no ht (fun h9=>h9.elim (fun h8=>absurd h8 (by simpa using hg34)) (fun h8=>absurd h8 (by simpa using hc38))),hS.tail.keep K (fun q hq=>by simp [hq])⟩
  ·have hc27:=of_decide_eq_false hc;clear hc
   obtain rfl:z=(outs L p).length:=by omega
   refine bX (XF.thenX (XF.thenX (XF.blkX (XF.blkN (XF.thenN (aH (bB rfl rfl (IntWalk.i64_in _ (by omega)) rfl (aB rfl rfl (aG ?_)))))))))
   exact XF.round (ll - (i+1)) [(0,_),(1,_),(7,_),(12,_),(13,_),(14,_)] (by omega) ⟨rfl,rfl,rfl,rfl,rfl,rfl,trivial⟩ ⟨i+1,ml,wa,wc,tos,by omega,rfl,rfl,htl,by omega,hto.next hp,hS.keep K (fun q hq=>by simp [hq])⟩
 ·have hc15:=of_decide_eq_false hc;clear hc
  obtain rfl:i=ll:=by omega
  have hib:i * 65536≤4096 * 65536:=Nat.mul_le_mul_right _ (by omega)
  have hto9:ToK L x lp lp.length 0 0 tos:=by rw [hll];exact hto
  obtain ⟨K1,k1,g1,hS1⟩:=St.rowKeepN (o:=⟨.slice wa ml wc,ml,zI tos⟩) (hS.keep K (fun q hq=>by simp [hq]))
  clear hS;have hS:=hS1;clear hS1
  refine bX (XF.thenX (XF.thenX (XF.blkX (XF.thenN (aD (aH (aB rfl rfl (aB rfl rfl ?_))))))))
  refine aU (vs:=[_,_]) fP rfl (kI n L OB va vc RB SB r0 r s9 wa ml wc tos K1 Ot G K1 w0 _ (hS.keep K1 (fun q hq=>by simp [hq])) (fun q hq=>hq) (hOut.moreN (fun q hq=>k1 q (hKt q hq))) (fun h9 hk9=>fO (g1 h9 hk9)) htl (by omega) (fun y hy=>(by obtain ⟨t,h1,h2⟩:=hto9.inL hy;have:=hq t h1;omega)) hq hLl hs9 hr hfr hn4) rfl ?_
  rintro e W9 ⟨l2,wa2,wc2,ss2,hH,rfl,hle2,hsl2,hsf2,hS9⟩
  refine ⟨_,rfl,?_⟩
  clear hS;have hS:=hS9;clear hS9
  refine aA rfl rfl (aG (XF.thenN (bH (XF.res (bU results30 rfl) ?_))))
  exact ⟨l2,wa2,wc2,ss2,K1,hH.congr hto9.end_,rfl,hle2,hsl2,hsf2,k1,hS.keep K1 (fun q hq=>by simp [hq])⟩
theorem nC (n:Nat) (L:List ArV) (OB:Nat) (va:Nat→Option Addr) (vc:Nat→Nat) (RB SB:Nat) (r0 r:Int) (s9:List Int) (la:Option Addr) (ll lc:Nat) (lp:List Nat) (x:Int) (Kt:List (Nat×World)) (Ot:Own) (G:aX) (K:List (Nat×World)) (w0 w:World) (hS0:St w0 ((RB,[.slice (some ⟨OB,0,none⟩) n n,.slice (some ⟨SB,0,none⟩) n n,.int .i64 r0],73)::(SB,zI s9,3)::Ot) G K w) (hKt:∀ q∈Kt,q∈K) (hOut:bT w0 Kt (fun W=>iO W OB n L va vc)) (hLs:bT w0 Kt (fun W=>Row W la (nI lp))) (hll:lp.length=ll) (hln:ll≤n) (hlt:∀ p∈lp,p < n) (hq:∀ t∈L,0≤t.q∧t.q < (n:Int)) (hLl:L.length≤65536) (hs9:s9.length=n) (hr:IntKind.i64.wrap (r0+1)=r) (hfr:∀ x∈s9,x≠r) (hn4:n≤4096) :
  Calls prog 30 #[.pointer (some ⟨RB,0,none⟩),.int .i64 x,.slice la ll lc] w (fun e w'=>∃ (l:List Nat) (wa:Option Addr) (wc:Nat) (ss2:List Int) (Kn:List (Nat×World)),IsH L (By9 L x (fun q=>q∈lp)) l∧e = .returned (.slice wa l.length wc)∧l.length≤n∧ss2.length=n∧(∀ x∈ss2,x∈s9∨x=r)∧(∀ q∈K,q∈Kn)∧bT w0 Kn (fun W=>Row W wa (nI l))∧St w0 ((RB,[.slice (some ⟨OB,0,none⟩) n n,.slice (some ⟨SB,0,none⟩) n n,.int .i64 r],73)::(SB,zI ss2,3)::Ot) G Kn w'):=by
 refine (lB n L OB va vc RB SB r0 r s9 la ll lc lp x Kt Ot G K w0 w hS0 hKt hOut hLs hll hln hlt hq hLl hs9 hr hfr hn4).mono ?_
 rintro e w1 ⟨l,wa,wc,ss,K2,hH,rfl,h1,h2,h3,k2,hS⟩
 obtain ⟨K1,k1,g1,hS1⟩:=St.rowKeepN (o:=⟨.slice wa l.length wc,l.length,zI (nI l)⟩) hS
 exact ⟨l,wa,wc,ss,K1,hH,rfl,h1,h2,h3,fun q hq=>k1 q (k2 q hq),fun h9 hk9=>fO (g1 h9 hk9),hS1⟩
theorem qC:bD prog 23=true:=by kernel_rfl
theorem iQ:bD prog 24=true:=by kernel_rfl
theorem qD:bD prog 29=true:=by kernel_rfl
theorem lX:bD prog 30=true:=by kernel_rfl
def fX (a:NfV) (x:Int) (l:List Int):Int:=if cH a l≠0 then cH a l else if inQ x a.sy=true then 0 else 102
theorem dI {a:NfV} {l:List Int} (h:cH a l=0):cM a=0∧∀ y∈l,0≤y∧y < a.st:=by
 unfold cH at h
 split at h
 ·rename_i h1;exact absurd h h1
 ·split at h
  ·rename_i h1 h2
   refine ⟨Decidable.of_not_not h1,fun y hy=>?_⟩
   have:=List.all_eq_true.1 h2 y hy
   unfold inQ at this
   simpa using this
  ·cases h
theorem jB {n:Nat} {r:Int} (h:r≠0):∀ x∈List.replicate n (0:Int),x≠r:=fun x hx e=>h (by rw [← e];exact List.eq_of_mem_replicate hx)
theorem nD {L:List ArV} {x:Int} {P R:Nat→Prop} (h:∀ q,P q↔R q) (q:Nat):By9 L x P q↔By9 L x R q:=⟨By9.mono fun q h1=>(h q).1 h1,By9.mono fun q h1=>(h q).2 h1⟩
theorem kT {n:Nat} {k:Int} {L:List ArV} (h:eX n k L):∀ t∈L,0≤t.q∧t.q < (n:Int):=fun t ht=>(h t ht).2.1
theorem oL (a:NfV) (la:Option Addr) (ll lc:Nat) (ls:List Int) (Kt:List (Nat×World)) (Ot:Own) (G:aX) (K:List (Nat×World)) (w0 w:World) (hS0:St w0 Ot G K w) (hKt:∀ q∈Kt,q∈K) (hA:bT w0 Kt (fun W=>NIn W a)) (hLs:bT w0 Kt (fun W=>Row W la ls)) (hll:ls.length=ll) (hlm:ll≤9223372036854775807) :
  Calls prog 8 #[a.val,.slice la ll lc] w (fun e w'=>∃ (l:List Nat) (wa:Option Addr) (wc:Nat) (Kn:List (Nat×World)),(cH a ls=0→IsH a.ar (fun q:Nat=>(q:Int)∈ls) l∧l.length≤4096)∧(cH a ls≠0→l=[])∧e = .returned (.tuple #[.slice wa l.length wc,.int .i64 (cH a ls)])∧(∀ q∈K,q∈Kn)∧bT w0 Kn (fun W=>Row W wa (nI l))∧St w0 Ot G Kn w'):=by
 refine bE (args:=[a.val,.slice la ll lc]) func8 rfl ntmps8 rfl ?_
 have hS:=hS0
 refine aD (aH (bY (cs:=[_,_,_,_,_]) hS rfl rfl rfl fun B1 W1 hS=>aA rfl rfl (aA rfl rfl (aG (XF.thenN (aD (aD (aH (aO (vs:=[_,_,_,_,_]) isAgg24 sizeOf24 rfl (aK.own (j:=0) (m:=5) (hS.at_ 0 rfl) rfl) rfl (aB rfl rfl (aU (vs:=[_,_]) qC rfl (kG a la ll lc ls _ (hA (hS.keep K (fun q hq=>by simp [hq])) hKt) (hLs (hS.keep K (fun q hq=>by simp [hq])) hKt) hll hlm) rfl ?_)))))))))))
 rintro e W9 ⟨rfl,hb9⟩
 refine ⟨_,rfl,?_⟩
 have hS':=hS.grow hb9;clear hS;have hS:=hS';clear hS'
 refine aA rfl rfl (aG (XF.thenN (aD (aH (aB rfl rfl (eM rfl rfl rfl (aG (XF.thenN (bC rfl (fun hc=>?_) (fun hc=>?_))))))))))
 ·have hc11:=of_decide_eq_true hc;clear hc
  refine aD (aH (aB rfl rfl (aA rfl rfl (aA rfl rfl (aG (XF.thenN (bH (XF.thenR (XF.res (iE results8 rfl rfl) ?_)))))))))
  exact ⟨[],none,0,K,fun h=>absurd h hc11,fun _=>rfl,rfl,fun q hq=>hq,fun _ _=>.inl rfl,(hS.keep K (fun q hq=>by simp [hq])).tail⟩
 ·have hc11:=of_decide_eq_false hc;clear hc
  have h0:cH a ls=0:=Decidable.of_not_not hc11
  obtain ⟨n,k,s,e9,hn,hk,hs0,he0,hn1,hn4,hk4,hsn,hen,hal,hO⟩:=gP (dI h0).1
  have hlen:=(hA (hS.keep K (fun q hq=>by simp [hq])) hKt).alen
  have hw1:IntKind.i64.wrap (0+1)=1:=by decide
  refine aS (XF.thenN (aD (aH (aO (vs:=[_,_,_,_,_]) isAgg24 sizeOf24 rfl (aK.own (j:=0) (m:=5) (hS.at_ 0 rfl) rfl) rfl (aU (vs:=[_]) iQ rfl (iP a n (k:Int) Kt _ _ K w0 _ (hS.keep K (fun q hq=>by simp [hq])) hKt hA hn hn1 hn4 hal hO) rfl ?_)))))
  rintro e W9 ⟨RB,SB,OB,va,vc,K1,rfl,hk1,hOut,hS9⟩
  refine ⟨_,rfl,?_⟩
  clear hS;have hS:=hS9;clear hS9
  refine aB rfl rfl ?_
  refine aU (vs:=[_,_]) fP rfl (eJ n a.ar OB va vc RB SB 0 1 (List.replicate n 0) la ll lc ls K1 _ G K1 w0 _ (hS.keep K1 (fun q hq=>by simp [hq])) (fun q hq=>hq) hOut (hLs.moreN (fun q hq=>hk1 q (hKt q hq))) hll hlm (fun y hy=>(by have:=(dI h0).2 y hy;omega)) (kT hO) (by omega) (by simp) hw1 (jB (by decide)) hn4) rfl ?_
  rintro e W9 ⟨l1,wa1,wc1,ss1,K2,hH1,rfl,hle1,hsl1,hsf1,hk2,hR1,hS9⟩
  refine ⟨_,rfl,?_⟩
  clear hS;have hS:=hS9;clear hS9
  refine aA rfl rfl (aA rfl rfl (aG (XF.thenN (bH (XF.res (iE results8 rfl rfl) ?_)))))
  exact ⟨l1,wa1,wc1,K2,fun _=>⟨hH1,by omega⟩,fun h=>absurd h0 h,by rw [h0],fun z hz=>hk2 z (hk1 z hz),hR1,(hS.keep K2 (fun q hq=>by simp [hq])).tail.tail.tail⟩
theorem rM (a:NfV) (la:Option Addr) (ll lc:Nat) (ls:List Int) (x:Int) (Kt:List (Nat×World)) (Ot:Own) (G:aX) (K:List (Nat×World)) (w0 w:World) (hS0:St w0 Ot G K w) (hKt:∀ q∈Kt,q∈K) (hA:bT w0 Kt (fun W=>NIn W a)) (hLs:bT w0 Kt (fun W=>Row W la ls)) (hll:ls.length=ll) (hlm:ll≤9223372036854775807) :
  Calls prog 10 #[a.val,.int .i64 x,.slice la ll lc] w (fun e w'=>∃ (l:List Nat) (wa:Option Addr) (wc:Nat) (Kn:List (Nat×World)),(fX a x ls=0→IsH a.ar (By9 a.ar x (Hd a.ar (fun q:Nat=>(q:Int)∈ls))) l∧l.length≤4096)∧(fX a x ls≠0→l=[])∧e = .returned (.tuple #[.slice wa l.length wc,.int .i64 (fX a x ls)])∧(∀ q∈K,q∈Kn)∧bT w0 Kn (fun W=>Row W wa (nI l))∧St w0 Ot G Kn w'):=by
 refine bE (args:=[a.val,.int .i64 x,.slice la ll lc]) func10 rfl ntmps10 rfl ?_
 have hS:=hS0
 refine aD (aH (bY (cs:=[_,_,_,_,_]) hS rfl rfl rfl fun B1 W1 hS=>aA rfl rfl (aA rfl rfl (aG (XF.thenN (aD (aD (aH (aO (vs:=[_,_,_,_,_]) isAgg24 sizeOf24 rfl (aK.own (j:=0) (m:=5) (hS.at_ 0 rfl) rfl) rfl (aB rfl rfl (aU (vs:=[_,_]) qC rfl (kG a la ll lc ls _ (hA (hS.keep K (fun q hq=>by simp [hq])) hKt) (hLs (hS.keep K (fun q hq=>by simp [hq])) hKt) hll hlm) rfl ?_)))))))))))
 rintro e W9 ⟨rfl,hb9⟩
 refine ⟨_,rfl,?_⟩
 have hS':=hS.grow hb9;clear hS;have hS:=hS';clear hS'
 refine aA rfl rfl (aG (XF.thenN (aD (aH (aB rfl rfl (eM rfl rfl rfl (aG (XF.thenN (bC rfl (fun hc=>?_) (fun hc=>?_))))))))))
 ·have hc14:=of_decide_eq_true hc;clear hc
  refine aD (aH (aB rfl rfl (aA rfl rfl (aA rfl rfl (aG (XF.thenN (bH (XF.thenR (XF.res (iE results10 rfl rfl) ?_)))))))))
  have h9:fX a x ls=cH a ls:=by unfold fX;rw [if_pos hc14]
  rw [h9]
  exact ⟨[],none,0,K,fun h=>absurd h hc14,fun _=>rfl,rfl,fun q hq=>hq,fun _ _=>.inl rfl,(hS.keep K (fun q hq=>by simp [hq])).tail⟩
 ·have hc14:=of_decide_eq_false hc;clear hc
  refine aS (XF.thenN (aD (aD (aH (aO (vs:=[_,_,_,_,_]) isAgg24 sizeOf24 rfl (aK.own (j:=0) (m:=5) (hS.at_ 0 rfl) rfl) rfl (aB rfl rfl (bW (vs:=[_,_]) hS qD rfl (lA a x _) rfl fun W2 hS=>cN rfl rfl (aG (XF.thenN (bC rfl (fun hc=>?_) (fun hc=>?_)))))))))))
  ·have hc19:=hc;clear hc
   refine aD (aH (aA rfl rfl (aA rfl rfl (aG (XF.thenN (bH (XF.thenR (XF.res (iE results10 rfl rfl) ?_))))))))
   have h9:fX a x ls=102:=by unfold fX;rw [if_neg hc14,if_neg (by simpa using hc19)]
   rw [h9]
   exact ⟨[],none,0,K,fun h=>absurd h (by decide),fun _=>rfl,rfl,fun q hq=>hq,fun _ _=>.inl rfl,(hS.keep K (fun q hq=>by simp [hq])).tail⟩
  ·have hc19:=hc;clear hc
   have h0:cH a ls=0:=Decidable.of_not_not hc14
   have h9:fX a x ls=0:=by unfold fX;rw [if_neg hc14,if_pos (by simpa using hc19)]
   rw [h9]
   obtain ⟨n,k,s,e9,hn,hk,hs0,he0,hn1,hn4,hk4,hsn,hen,hal,hO⟩:=gP (dI h0).1
   have hlen:=(hA (hS.keep K (fun q hq=>by simp [hq])) hKt).alen
   have hw1:IntKind.i64.wrap (0+1)=1:=by decide
   refine aS (XF.thenN (aD (aH (aO (vs:=[_,_,_,_,_]) isAgg24 sizeOf24 rfl (aK.own (j:=0) (m:=5) (hS.at_ 0 rfl) rfl) rfl (aU (vs:=[_]) iQ rfl (iP a n (k:Int) Kt _ _ K w0 _ (hS.keep K (fun q hq=>by simp [hq])) hKt hA hn hn1 hn4 hal hO) rfl ?_)))))
   rintro e W9 ⟨RB,SB,OB,va,vc,K1,rfl,hk1,hOut,hS9⟩
   refine ⟨_,rfl,?_⟩
   clear hS;have hS:=hS9;clear hS9
   refine aA rfl rfl (aG (XF.thenN (aD (aH (aB rfl rfl (aB rfl rfl (aB rfl rfl (aB rfl rfl ?_))))))))
   refine aU (vs:=[_,_]) fP rfl (eJ n a.ar OB va vc RB SB 0 1 (List.replicate n 0) la ll lc ls K1 _ G K1 w0 _ (hS.keep K1 (fun q hq=>by simp [hq])) (fun q hq=>hq) hOut (hLs.moreN (fun q hq=>hk1 q (hKt q hq))) hll hlm (fun y hy=>(by have:=(dI h0).2 y hy;omega)) (kT hO) (by omega) (by simp) hw1 (jB (by decide)) hn4) rfl ?_
   rintro e W9 ⟨l1,wa1,wc1,ss1,K2,hH1,rfl,hle1,hsl1,hsf1,hk2,hR1,hS9⟩
   refine ⟨_,rfl,?_⟩
   clear hS;have hS:=hS9;clear hS9
   refine aU (vs:=[_,_,_]) lX rfl (nC n a.ar OB va vc RB SB 1 2 ss1 wa1 l1.length wc1 l1 x K2 _ G K2 w0 _ (hS.keep K2 (fun q hq=>by simp [hq])) (fun q hq=>hq) (hOut.moreN hk2) hR1 rfl hle1 (fun p hp=>(mL hO (fun q hq=>(by have:=(dI h0).2 _ hq;omega)) ((hH1.at_ p).1 hp))) (kT hO) (by omega) hsl1 (by decide) (fun y hy=>(hsf1 y hy).elim (fun h=>jB (by decide) y h) (fun h=>by rw [h];decide)) hn4) rfl ?_
   rintro e W9 ⟨l2,wa2,wc2,ss2,K3,hH2,rfl,hle2,hsl2,hsf2,hk3,hR2,hS9⟩
   refine ⟨_,rfl,?_⟩
   clear hS;have hS:=hS9;clear hS9
   refine aA rfl rfl (aA rfl rfl (aG (XF.thenN (bH (XF.res (iE results10 rfl rfl) ?_)))))
   exact ⟨l2,wa2,wc2,K3,fun _=>⟨hH2.congr (nD hH1.at_),by omega⟩,fun h=>absurd rfl h,rfl,fun z hz=>hk3 z (hk2 z (hk1 z hz)),hR2,(hS.keep K3 (fun q hq=>by simp [hq])).tail.tail.tail⟩
theorem iR (v0:Int) (v1:Int) (v2:Int):prog.built 57 [(0,.int .i64 v0),(1,.int .i64 v1),(2,.int .i64 v2)]=some #[.int .i64 v0,.int .i64 v1,.int .i64 v2]:=by kernel_rfl
theorem goes_52:bD prog 52=true:=by kernel_rfl
theorem jL.app {W:World} {aa:Option Addr} {L:List ArV} {al:Nat} (h:jL W aa L) (hl:L.length=al):(aa=none∧al=0)∨∃ p,aa=some p∧∀ (j:Nat) u,(L.flatMap ArV.three)[j]?=some u→W.cell? (p.add j)=some u:=by
 cases aa with
 | none =>
  refine .inl ⟨rfl,?_⟩
  cases L with
  | nil=>exact hl.symm
  | cons r L=>obtain ⟨b,off,e,_⟩:=h 0 r rfl;cases e
 | some p =>
  refine .inr ⟨p,rfl,fun j u hj=>?_⟩
  have hlen:(L.flatMap ArV.three).length=L.length * 3:=by
   rw [List.length_flatMap]
   show (L.map fun _=>3).sum=_
   rw [List.map_const',List.sum_replicate_nat]
  have hj3:j < L.length * 3:=by rw [← hlen];exact (List.getElem?_eq_some_iff.1 hj).1
  obtain ⟨r,hr⟩:∃ r,L[j / 3]?=some r:=⟨_,List.getElem?_eq_getElem (by omega)⟩
  have hk:j % 3 < 3:=Nat.mod_lt _ (by omega)
  have hd:j / 3 * 3+j % 3=j:=Nat.div_add_mod' _ _
  have h3:=gJ L (j / 3) (j % 3) hr hk
  rw [hd,hj] at h3
  obtain ⟨b,off,e,hc⟩:=h _ r hr
  have h4:=hc.get (j % 3) u h3.symm
  obtain rfl:p=⟨b,off,none⟩:=by injection e
  rw [Addr.add_lit]
  rw [← hd,← Nat.add_assoc];exact h4
theorem iB {L:List ArV}:(L.flatMap ArV.three).length=L.length * 3:=by
 rw [List.length_flatMap]
 show (L.map fun _=>3).sum=_
 rw [List.map_const',List.sum_replicate_nat]
theorem oM {L:List ArV}:∀ u∈L.flatMap ArV.three,u.oneCell'=true:=fun u hu=>by
 obtain ⟨r,_,h⟩:=List.mem_flatMap.1 hu
 simp at h
 rcases h with rfl | rfl | rfl<;>rfl
theorem nE {a:Option Addr} {m c:Nat} {L:List ArV} {W:World} (h:kH ⟨.slice a m c,m,L.flatMap ArV.three⟩ W):jL W a L:=fun i r hi=>by
 obtain ⟨a2,c2,e,hc,hx⟩:=h
 dsimp only at e hx
 obtain rfl:a=a2:=by injection e
 have h3:∀ (j:Nat) v,r.three[j]?=some v→(L.flatMap ArV.three)[i * 3+j]?=some v:=fun j v hj=>by
  rw [gJ _ i j hi (List.getElem?_eq_some_iff.1 hj).1];exact hj
 obtain ⟨b,rfl,_⟩:=hx (i * 3+0) _ (h3 0 _ rfl)
 refine ⟨b,0,rfl,aK.of fun j v hj=>?_⟩
 obtain ⟨b2,e9,h9⟩:=hx _ _ (h3 j v hj)
 obtain rfl:b=b2:=by simpa using e9
 rw [Nat.add_assoc];exact h9
def eW (L:List ArV) (i:Nat):List ArV:=(L.take i).map ArV.flip++L.drop i
theorem rN {L:List ArV} {i:Nat}:(eW L i).length=L.length:=by unfold eW;simp;omega
theorem tS {L:List ArV} {i:Nat} {t:ArV} (h:L[i]?=some t):(eW L i)[i]?=some t:=by
 unfold eW
 have hi:=(List.getElem?_eq_some_iff.1 h).1
 rw [List.getElem?_append_right (by simp;omega),List.getElem?_drop]
 simp only [List.length_map,List.length_take]
 rw [show i+(i - min i L.length)=i by omega];exact h
theorem rO {L:List ArV} {i:Nat} {t:ArV} (h:L[i]?=some t):cA ((eW L i).flatMap ArV.three) (0+i * 3) t.flip.three=(eW L (i+1)).flatMap ArV.three:=by
 have hi:=(List.getElem?_eq_some_iff.1 h).1
 have e1:eW L i=(L.take i).map ArV.flip++t::L.drop (i+1):=by
  unfold eW
  rw [List.drop_eq_getElem_cons hi]
  congr 2
  exact (List.getElem?_eq_some_iff.1 h).2
 have e2:eW L (i+1)=(L.take i).map ArV.flip++t.flip::L.drop (i+1):=by
  unfold eW
  rw [List.take_add_one,h];simp
 rw [e1,e2,List.flatMap_append,List.flatMap_append,List.flatMap_cons,List.flatMap_cons]
 have h9:=jG (((L.take i).map ArV.flip).flatMap ArV.three) t.three t.flip.three ((L.drop (i+1)).flatMap ArV.three) rfl
 rw [iB,List.length_map,List.length_take,Nat.min_eq_left (by omega)] at h9
 rw [Nat.zero_add,← List.append_assoc,← List.append_assoc]
 exact h9
theorem rP {L:List ArV}:eW L L.length=L.map ArV.flip:=by unfold eW;simp
theorem flip_ok {n:Nat} {k:Int} {L:List ArV} (h:eX n k L):eX n k (L.map ArV.flip):=fun t ht=>by
 obtain ⟨s,hs,rfl⟩:=List.mem_map.1 ht
 have:=h s hs
 exact ⟨this.2.1,this.1,this.2.2⟩
theorem rQ (aa:Option Addr) (al ac:Nat) (L:List ArV) (Kt:List (Nat×World)) (Ot:Own) (G:aX) (K:List (Nat×World)) (w0 w:World) (hS0:St w0 Ot G K w) (hKt:∀ q∈Kt,q∈K) (hA:bT w0 Kt (fun W=>jL W aa L)) (hl:L.length=al) (hal:al≤65536) :
  Calls prog 52 #[.slice aa al ac] w (fun e w'=>∃ (wa:Option Addr) (wc:Nat),e = .returned (.slice wa al wc)∧St w0 Ot (⟨.slice wa al wc,al,L.flatMap ArV.three,57,3⟩::G) K w'):=by
 refine bE (args:=[.slice aa al ac]) func52 rfl ntmps52 rfl ?_
 have hS:=hS0
 have hA0:=hA hS0 hKt
 refine aD (aH (aA rfl rfl (aG (XF.thenN (aD (aD (aH (aB rfl rfl (opV (rG underlying22 rfl) rfl (aG (XF.thenN (bC rfl (fun hc=>?_) (fun hc=>?_)))))))))))))
 ·have hc4:=hc;clear hc
  have h0:aa=none:=by simpa using hc4
  subst h0
  obtain rfl:al=0:=(hA0.app hl).elim (fun h=>h.2) (fun ⟨p,e,_⟩=>absurd e (by simp))
  obtain rfl:L=[]:=List.eq_nil_of_length_eq_zero hl
  refine aD (aH (aA rfl rfl (aG (XF.thenN (bH (XF.thenR (XF.res (bU results52 rfl) ?_)))))))
  exact ⟨none,0,rfl,hS.newG 57 3⟩
 ·have hc4:=hc;clear hc
  refine aS (XF.thenN (aD (aH (rF hS underlying22 sizeOf57 rfl fun v1 W1 hS=>aB rfl rfl ?_))))
  refine nY (i:=0) (news:=(L.flatMap ArV.three)) hS underlying22 oK rfl rfl (by show 0 < 3;decide) rfl rfl rfl rfl rfl ((hA (hS.keep K (fun q hq=>by simp [hq])) hKt).app hl) (by rw [iB,hl];exact rfl) (oM) (by dsimp only;simp only [maxLen];omega) (by dsimp only;show _ * 24≤_;omega) rfl fun v2 W2 hS=>?_
  have hlen9:=hl
  obtain ⟨wa9,wc9,e9,_⟩:=cL (hS.row 0 rfl)
  dsimp only at e9
  subst e9
  refine aA rfl rfl (aG (XF.thenN (bH (XF.res (bU results52 rfl) ?_))))
  have hS9:=hS.castG (G':=(⟨.slice wa9 al wc9,al,L.flatMap ArV.three,57,3⟩::G)) (by show GR.mk _ _ ([]++_) _ _::_=_;simp)
  exact ⟨wa9,wc9,by simp,hS9.keep K (fun q hq=>by simp [hq])⟩
theorem oN (st sy s0 e0:Int) (aa:Option Addr) (al ac:Nat) (L:List ArV) (Kt:List (Nat×World)) (Ot:Own) (G:aX) (K:List (Nat×World)) (w0 w:World) (hS0:St w0 Ot G K w) (hKt:∀ q∈Kt,q∈K) (hA:bT w0 Kt (fun W=>jL W aa L)) (hl:L.length=al) (hal:al≤65536) :
  Calls prog 43 #[.agg #[.int .i64 st,.int .i64 sy,.int .i64 s0,.int .i64 e0,.slice aa al ac]] w (fun e w'=>∃ (wa:Option Addr) (wc:Nat),e = .returned (NfV.val ⟨st,sy,e0,s0,wa,al,wc,L.map ArV.flip⟩)∧St w0 Ot (⟨.slice wa al wc,al,(L.map ArV.flip).flatMap ArV.three,57,3⟩::G) K w'):=by
 refine bE (args:=[.agg #[.int .i64 st,.int .i64 sy,.int .i64 s0,.int .i64 e0,.slice aa al ac]]) func43 rfl ntmps43 rfl ?_
 have hS:=hS0
 refine aD (aH (bY (cs:=[_,_,_,_,_]) hS rfl rfl rfl fun B1 W1 hS=>bS (cs:=[_,_,_,_,_]) hS zeroValue24 rfl rfl fun B2 W2 hS=>aG (XF.thenN (aD (aH (aI (o':=3) eU rfl rfl rfl (aJ isAgg3 rfl (aF (hS.at_ 1 rfl) rfl) rfl (aI (o':=2) dW rfl rfl rfl (aJ isAgg3 rfl (aF (hS.at_ 1 rfl) rfl) rfl (aI (o':=2) dW rfl rfl rfl (bV (i:=1) (cs':=[_,_,_,_,_]) (O':=(_::_::Ot)) hS sizeOf3 rfl rfl rfl rfl rfl rfl rfl fun W3 hS=>aI (o':=3) eU rfl rfl rfl (bV (i:=1) (cs':=[_,_,_,_,_]) (O':=(_::_::Ot)) hS sizeOf3 rfl rfl rfl rfl rfl rfl rfl fun W4 hS=>aG (XF.thenN (aD (aH (aI (o':=4) cR rfl rfl rfl (aJ isAgg22 rfl (aF (hS.at_ 1 rfl) rfl) rfl (aU (vs:=[_]) goes_52 rfl (rQ aa al ac L Kt _ G K w0 _ (hS.keep K (fun q hq=>by simp [hq])) hKt hA hl hal) rfl ?_))))))))))))))))))
 rintro e W9 ⟨wa,wc,rfl,hS9⟩
 refine ⟨_,rfl,?_⟩
 clear hS;have hS:=hS9;clear hS9
 refine aI (o':=4) cR rfl rfl rfl (bV (i:=1) (cs':=[_,_,_,_,_]) (O':=(_::_::Ot)) hS sizeOf22 rfl rfl rfl rfl rfl rfl rfl fun W5 hS=>aG (XF.thenN (aD (aD (aH (aI (o':=4) cR rfl rfl rfl (aJ isAgg22 rfl (aF (hS.at_ 1 rfl) rfl) rfl (bN underlying22 rfl rfl (aB rfl rfl (aG (XF.thenN (aL (cE (fun m l W=>∃ (i:Nat),i≤al∧m=al - i∧l=[(1,.pointer (some ⟨B1,0,none⟩)),(2,.pointer (some ⟨B2,0,none⟩)),(16,.slice wa al wc),(17,.int .i64 (al:Int)),(18,.int .i64 (i:Int))]∧St w0 ((B2,[.int .i64 0,.int .i64 0,.int .i64 0,.int .i64 0,.slice none 0 0],24)::(B1,[.int .i64 st,.int .i64 sy,.int .i64 e0,.int .i64 s0,.slice wa al wc],24)::Ot) (⟨.slice wa al wc,al,(eW L i).flatMap ArV.three,57,3⟩::G) K W) (al - 0) ([(1,_),(2,_),(16,_),(17,_),(18,_)]) ⟨rfl,rfl,rfl,rfl,rfl,trivial⟩ (⟨0,Nat.zero_le _,rfl,rfl,hS.keep K (fun q hq=>by simp [hq])⟩) ?_)))))))))))))
 clear hS
 rintro m l W ⟨i,hi,rfl,rfl,hS⟩
 refine aD (aH (bK rfl rfl rfl (aG (XF.thenN (aD (bC rfl (fun hc=>?_) (fun hc=>?_)))))))
 ·have hc19:=of_decide_eq_true hc;clear hc
  obtain ⟨t,ht⟩:∃ t,L[i]?=some t:=⟨_,List.getElem?_eq_getElem (by omega)⟩
  obtain ⟨cb,rfl⟩:=iK (hS.row 0 rfl) (by omega)
  have k1:aK W cb (0+i * 3) t.three:=aK.of fun j v hj=>eT (hS.row 0 rfl) (by dsimp only;rw [Nat.zero_add,gJ _ i j (tS ht) (List.getElem?_eq_some_iff.1 hj).1];exact hj)
  refine aS (XF.thenN (aD (aL (aD (aH (aB rfl rfl (aQ (j:=i) (b:=cb) (o:=0) (m:=al) (c:=wc) underlying22 sizeOf57 rfl rfl rfl (by omega) rfl rfl (aO (vs:=[_,_,_]) isAgg57 sizeOf57 rfl k1 rfl (bS (cs:=[_,_,_]) hS zeroValue57 rfl rfl fun B6 W6 hS=>aA rfl rfl (bQ (i:=0) (vs:=[_,_,_]) (cs':=[_,_,_]) (O':=(_::_::_::Ot)) hS sizeOf57 rfl rfl rfl rfl rfl rfl rfl fun W7 hS=>aG (XF.thenN (aH (aI (o':=4) cR rfl rfl rfl (aJ isAgg22 rfl (aF (hS.at_ 2 rfl) rfl) rfl (aB rfl rfl (aI (o':=2) dH rfl rfl rfl (aJ isAgg3 rfl (aF (hS.at_ 0 rfl) rfl) rfl (aI (o':=1) dE rfl rfl rfl (aJ isAgg3 rfl (aF (hS.at_ 0 rfl) rfl) rfl (aI (o':=0) eV rfl rfl rfl (aJ isAgg3 rfl (aF (hS.at_ 0 rfl) rfl) rfl (dF (us:=[(0,.int .i64 _),(1,.int .i64 _),(2,.int .i64 _)]) rfl (iR _ _ _) rfl (aQ (j:=i) (b:=cb) (o:=0) (m:=al) (c:=wc) underlying22 sizeOf57 rfl rfl rfl (by omega) rfl rfl ?_)))))))))))))))))))))))
  refine mU (vs:=t.flip.three) (xs':=(eW L (i+1)).flatMap ArV.three) hS sizeOf57 rfl rfl rfl (by omega) (by rw [iB,rN];show 0+i * 3+3≤_;omega) (rO ht) fun W94 hS=>?_
  refine aG (XF.blkN (XF.thenN (aH (bB rfl rfl (IntWalk.i64_in _ (by omega)) rfl (aB rfl rfl (aG ?_))))))
  exact XF.round (al - (i+1)) [(1,_),(2,_),(16,_),(17,_),(18,_)] (by omega) ⟨rfl,rfl,rfl,rfl,rfl,trivial⟩ ⟨i+1,by omega,rfl,rfl,hS.tail.keep K (fun q hq=>by simp [hq])⟩
 ·have hc19:=of_decide_eq_false hc;clear hc
  obtain rfl:i=L.length:=by omega
  rw [rP] at hS
  refine bX (XF.thenX (XF.thenX (XF.blkX (XF.thenN (aD (aH (aO (vs:=[_,_,_,_,_]) isAgg24 sizeOf24 rfl (aK.own (j:=0) (m:=5) (hS.at_ 1 rfl) rfl) rfl (bQ (i:=0) (vs:=[_,_,_,_,_]) (cs':=[_,_,_,_,_]) (O':=(_::_::Ot)) hS sizeOf24 rfl rfl rfl rfl rfl rfl rfl fun W8 hS=>aG (XF.thenN (bH (XF.res (resC1 (vs:=[_,_,_,_,_]) results43 isAgg24 sizeOf24 rfl (aK.own (j:=0) (m:=5) (hS.at_ 0 rfl) rfl)) ?_)))))))))))
  exact ⟨wa,wc,rfl,(hS.keep K (fun q hq=>by simp [hq])).tail.tail⟩
def ctB (bs:List Bool):Nat:=(bs.filter id).length
theorem ctB_le {bs:List Bool}:ctB bs≤bs.length:=List.length_filter_le _ _
theorem qE:∀ {bs:List Bool} {i:Nat},i < bs.length→bs.getD i false=false→ctB (bs.set i true)=ctB bs+1
 | b::bs,0,_,h=>by
  have hb:b=false:=by simpa using h
  subst hb
  rfl
 | b::bs,i+1,hi,h=>by
  have h1:=qE (bs:=bs) (i:=i) (Nat.lt_of_succ_lt_succ hi) (by simpa using h)
  unfold ctB at h1 ⊢
  rw [List.set_cons_succ]
  cases b
  ·exact h1
  ·show ((bs.set i true).filter id).length+1=(bs.filter id).length+1+1
   rw [h1]
theorem fG {bs:List Bool} {i q:Nat} (hi:i < bs.length):(bs.set i true).getD q false=true↔q=i∨bs.getD q false=true:=by
 by_cases e:q=i
 ·subst e
  rw [List.getD_eq_getElem?_getD,List.getElem?_set_self hi];simp
 ·rw [List.getD_eq_getElem?_getD,List.getElem?_set_ne (fun h=>e h.symm),← List.getD_eq_getElem?_getD];simp [e]
def ClB (L:List ArV) (bs:List Bool):Prop:=∀ t∈L,t.s = -1→bs.getD t.f.toNat false=true→bs.getD t.q.toNat false=true
theorem nF (a:NfV) (n:Nat) (k:Int) (P:Nat→Prop) (IB:Nat) (bs0:List Bool) (Kt:List (Nat×World)) (Ot:Own) (G:aX) (K:List (Nat×World)) (w0 w:World) (hS0:St w0 ((IB,zB bs0,4)::Ot) G K w) (hKt:∀ q∈Kt,q∈K) (hA:bT w0 Kt (fun W=>NIn W a)) (hO:eX n k a.ar) (hbl:bs0.length=n) (hn4:n≤4096) (hp1:∀ q:Nat,bs0.getD q false=true→Hd a.ar P q) (hp2:∀ q:Nat,P q→bs0.getD q false=true) :
  Calls prog 46 #[a.val,.slice (some ⟨IB,0,none⟩) n n] w (fun e w'=>∃ bs:List Bool,bs.length=n∧HdB a.ar P bs∧e = .returned (.slice (some ⟨IB,0,none⟩) n n)∧St w0 ((IB,zB bs,4)::Ot) G K w'):=by
 refine bE (args:=[a.val,.slice (some ⟨IB,0,none⟩) n n]) func46 rfl ntmps46 rfl ?_
 have hS:=hS0
 have hlen:=(hA hS0 hKt).alen
 have hamx:=(hA hS0 hKt).amax
 refine aD (aH (bY (cs:=[_,_,_,_,_]) hS rfl rfl rfl fun B1 W1 hS=>aA rfl rfl (aG (XF.thenN (aD (aD (aH (aA rfl rfl (aG (XF.thenN (aL (cE (fun m l W=>∃ (bs:List Bool) (ch:Bool),m=2 * (n - ctB bs)+(if ch=true then 1 else 0)∧l=[(1,.slice (some ⟨IB,0,none⟩) n n),(2,.pointer (some ⟨B1,0,none⟩)),(5,.bool ch)]∧bs.length=n∧(∀ q:Nat,bs.getD q false=true→Hd a.ar P q)∧(∀ q:Nat,P q→bs.getD q false=true)∧(ch=false→ClB a.ar bs)∧St w0 ((B1,a.cells,24)::(IB,zB bs,4)::Ot) G K W) (2 * (n - ctB bs0)+(if true=true then 1 else 0)) ([(1,_),(2,_),(5,_)]) ⟨rfl,rfl,rfl,trivial⟩ (⟨bs0,true,rfl,rfl,hbl,hp1,hp2,fun h=>(by cases h),hS.keep K (fun q hq=>by simp [hq])⟩) ?_))))))))))))
 clear hS
 rintro m l W ⟨bs,ch,rfl,rfl,hb1,hb2,hb3,hcl,hS⟩
 refine aD (aD (aH (aB rfl rfl (aG (XF.thenN (bC rfl (fun hc=>?_) (fun hc=>?_)))))))
 ·have hc8:=hc;clear hc
  have hch1:ch=true:=by simpa using hc8
  subst hch1
  obtain ⟨bs1,hbs1⟩:∃ bs1,bs1=bs:=⟨_,rfl⟩
  subst hbs1
  refine aS (XF.thenN (aL (aD (aH (aA rfl rfl (aG (XF.thenN (aD (aH (aA rfl rfl (aG (XF.thenN (aL (cE (fun m l W=>∃ (i:Nat) (bs:List Bool) (ch:Bool),i≤a.al∧m=a.al - i∧l=[(1,.slice (some ⟨IB,0,none⟩) n n),(2,.pointer (some ⟨B1,0,none⟩)),(5,.bool ch),(6,.int .i64 (i:Int))]∧bs.length=n∧(∀ q:Nat,bs.getD q false=true→Hd a.ar P q)∧(∀ q:Nat,P q→bs.getD q false=true)∧ctB bs1≤ctB bs∧(ch=true→ctB bs1 < ctB bs)∧(ch=false→bs=bs1∧∀ t∈a.ar.take i,t.s = -1→bs.getD t.f.toNat false=true→bs.getD t.q.toNat false=true)∧St w0 ((B1,a.cells,24)::(IB,zB bs,4)::Ot) G K W) (a.al - 0) ([(1,_),(2,_),(5,_),(6,_)]) ⟨rfl,rfl,rfl,rfl,trivial⟩ (⟨0,bs1,false,Nat.zero_le _,rfl,rfl,hb1,hb2,hb3,Nat.le_refl _,fun h=>(by cases h),fun _=>⟨rfl,fun t ht=>(by cases ht)⟩,hS.keep K (fun q hq=>by simp [hq])⟩) ?_))))))))))))))
  clear hS
  clear hb1 hb2 hb3 hcl
  rintro m l W ⟨i,bs,ch,hi,rfl,rfl,hb1,hb2,hb3,hct,hch,hcf,hS⟩
  refine aD (aD (aH (aB rfl rfl (aI (o':=4) cR rfl rfl rfl (aJ isAgg22 rfl (aF (hS.at_ 0 rfl) rfl) rfl (bN underlying22 rfl rfl (bK rfl rfl rfl (aG (XF.thenN (bC rfl (fun hc=>?_) (fun hc=>?_)))))))))))
  ·have hc13:=of_decide_eq_true hc;clear hc
   obtain ⟨t,ht⟩:∃ t,a.ar[i]?=some t:=⟨_,List.getElem?_eq_getElem (by omega)⟩
   obtain ⟨b,off,haa,hcs⟩:=(hA (hS.keep K (fun q hq=>by simp [hq])) hKt).arow i t ht
   have k1:=hcs
   obtain ⟨⟨hf0,hf1⟩,⟨hq0,hq1⟩,_⟩:=hO t (List.mem_of_getElem? ht)
   obtain ⟨fn,hfn⟩:∃ k:Nat,t.f=(k:Int):=⟨t.f.toNat,by omega⟩
   obtain ⟨qn,hqn⟩:∃ k:Nat,t.q=(k:Int):=⟨t.q.toNat,by omega⟩
   have hfn2:t.f.toNat=fn:=by omega
   have hqn2:t.q.toNat=qn:=by omega
   refine aS (XF.thenN (aD (aL (aD (aH (aI (o':=4) cR rfl rfl rfl (aJ isAgg22 rfl (aF (hS.at_ 0 rfl) rfl) rfl (aB rfl rfl ?_))))))))
   refine aQ (j:=i) (b:=b) (o:=off) (m:=a.al) (c:=a.ac) underlying22 sizeOf57 (by show some (Value.slice _ _ _)=_;rw [haa]) rfl rfl (by omega) rfl rfl ?_
   refine aO (vs:=[_,_,_]) isAgg57 sizeOf57 rfl k1 rfl (bS (cs:=[_,_,_]) hS zeroValue57 rfl rfl fun B2 W2 hS=>bQ (i:=0) (vs:=[_,_,_]) (cs':=[_,_,_]) (O':=(_::_::_::Ot)) hS sizeOf57 rfl rfl rfl rfl rfl rfl rfl fun W3 hS=>aG (XF.thenN (aD (aH (aI (o':=1) dE rfl rfl rfl (aJ isAgg3 rfl (aF (hS.at_ 0 rfl) rfl) rfl (dN rfl rfl rfl (aB rfl rfl (bF (d:=24) rfl (fun hc=>?_) (fun hc=>?_))))))))))
   ·have hg24:=of_decide_eq_true hc;clear hc
    refine aC (d:=24) rfl rfl (aB rfl rfl (aC (d:=24) rfl rfl (aI (o':=0) eV rfl rfl rfl (aC (d:=24) rfl rfl (aJ isAgg3 rfl (aF (hS.at_ 0 rfl) rfl) rfl (aC (d:=24) rfl rfl (aQ (j:=fn) underlying51 sizeOf4 rfl rfl (hfn) (by omega) rfl rfl (aC (d:=24) rfl rfl (aJ isAgg4 rfl (aF (hS.at_ 2 rfl) (mX (by omega))) rfl (aN rfl rfl rfl (aB rfl rfl (bF (d:=31) rfl (fun hc=>?_) (fun hc=>?_)))))))))))))
    ·have hg31:=hc;clear hc
     refine aC (d:=31) rfl rfl (aB rfl rfl (aC (d:=31) rfl rfl (aI (o':=2) dH rfl rfl rfl (aC (d:=31) rfl rfl (aJ isAgg3 rfl (aF (hS.at_ 0 rfl) rfl) rfl (aC (d:=31) rfl rfl (aQ (j:=qn) underlying51 sizeOf4 rfl rfl (hqn) (by omega) rfl rfl (aC (d:=31) rfl rfl (aJ isAgg4 rfl (aF (hS.at_ 2 rfl) (mX (by omega))) rfl (aC (d:=31) rfl rfl (cN rfl rfl (aN rfl rfl rfl (aG (XF.thenN (bC rfl (fun hc=>?_) (fun hc=>?_))))))))))))))))
     ·have hc38:=hc;clear hc
      refine aD (aH (aB rfl rfl (aI (o':=2) dH rfl rfl rfl (aJ isAgg3 rfl (aF (hS.at_ 0 rfl) rfl) rfl (aQ (j:=qn) underlying51 sizeOf4 rfl rfl (hqn) (by omega) rfl rfl ?_)))))
      refine bV (i:=2) (cs':=zB (bs.set qn true)) (O':=(_::_::(IB,_,_)::Ot)) hS sizeOf4 rfl rfl rfl rfl (Nat.ble_eq_true_of_le (by rw [lU];omega)) lV rfl fun W94 hS=>?_
      refine aG (XF.thenN (aH (aA rfl rfl (aG (XF.blkN (XF.thenN (aH (aB rfl rfl (bB rfl rfl (IntWalk.i64_in _ (by omega)) rfl (aA rfl rfl (aG ?_)))))))))))
      have hs1:t.s = -1:=by simpa using hg24
      have hf2:bs.getD fn false=true:=by simpa using hg31
      have hqf:bs.getD qn false=false:=by simpa using hc38
      have hcs9:=qE (bs:=bs) (i:=qn) (by omega) hqf
      exact XF.round (a.al - (i+1)) [(1,_),(2,_),(5,_),(6,_)] (by omega) ⟨rfl,rfl,rfl,rfl,trivial⟩ ⟨i+1,bs.set qn true,true,by omega,rfl,rfl,by rw [List.length_set];exact hb1,fun q h9=>((fG (by omega)).1 h9).elim (fun e=>by rw [e];exact .arc (hb2 fn hf2) ⟨t,List.mem_of_getElem? ht,hfn,hs1,hqn⟩) (hb2 q),fun q h9=>(fG (by omega)).2 (.inr (hb3 q h9)),by omega,fun _=>by omega,fun h=>(by cases h),hS.tail.keep K (fun q hq=>by simp [hq])⟩
     ·have hc38:=hc;clear hc
      refine aS (XF.blkN (XF.thenN (aH (aB rfl rfl (bB rfl rfl (IntWalk.i64_in _ (by omega)) rfl (aA rfl rfl (aG ?_)))))))
      have hs1:bs.getD qn false=true:=by simpa using hc38
      exact XF.round (a.al - (i+1)) [(1,_),(2,_),(5,_),(6,_)] (by omega) ⟨rfl,rfl,rfl,rfl,trivial⟩ ⟨i+1,bs,ch,by omega,rfl,rfl,hb1,hb2,hb3,hct,hch,fun e9=>⟨(hcf e9).1,fun t2 ht2=>(by
       rw [List.take_add_one,ht] at ht2
       rcases List.mem_append.1 ht2 with h9 | h9
       ·exact (hcf e9).2 t2 h9
       ·obtain rfl:t2=t:=by simpa using h9
        intro h7 h8
        rw [hqn2];exact hs1)⟩,hS.tail.keep K (fun q hq=>by simp [hq])⟩
    ·have hg31:=hc;clear hc
     refine aE (d:=31) rfl rfl rfl rfl (aE (d:=31) rfl rfl rfl rfl (aE (d:=31) rfl rfl rfl rfl (aE (d:=31) rfl rfl rfl rfl (aE (d:=31) rfl rfl rfl rfl (aE (d:=31) rfl rfl rfl rfl (bA rfl rfl rfl (aG (XF.thenN (cB rfl (aS (XF.blkN (XF.thenN (aH (aB rfl rfl (bB rfl rfl (IntWalk.i64_in _ (by omega)) rfl (aA rfl rfl (aG ?_)))))))))))))))))
     have hs1:¬ bs.getD fn false=true:=by simpa using hg31
     exact XF.round (a.al - (i+1)) [(1,_),(2,_),(5,_),(6,_)] (by omega) ⟨rfl,rfl,rfl,rfl,trivial⟩ ⟨i+1,bs,ch,by omega,rfl,rfl,hb1,hb2,hb3,hct,hch,fun e9=>⟨(hcf e9).1,fun t2 ht2=>(by
      rw [List.take_add_one,ht] at ht2
      rcases List.mem_append.1 ht2 with h9 | h9
      ·exact (hcf e9).2 t2 h9
      ·obtain rfl:t2=t:=by simpa using h9
       intro h7 h8
       rw [hfn2] at h8;exact absurd h8 hs1)⟩,hS.tail.keep K (fun q hq=>by simp [hq])⟩
   ·have hg24:=of_decide_eq_false hc;clear hc
    refine aE (d:=24) rfl rfl rfl rfl (aE (d:=24) rfl rfl rfl rfl (aE (d:=24) rfl rfl rfl rfl (aE (d:=24) rfl rfl rfl rfl (aE (d:=24) rfl rfl rfl rfl (bA rfl rfl rfl (aB rfl rfl (aE (d:=31) rfl rfl rfl rfl (aE (d:=31) rfl rfl rfl rfl (aE (d:=31) rfl rfl rfl rfl (aE (d:=31) rfl rfl rfl rfl (aE (d:=31) rfl rfl rfl rfl (aE (d:=31) rfl rfl rfl rfl (bA rfl rfl rfl (aG (XF.thenN (cB rfl (aS (XF.blkN (XF.thenN (aH (aB rfl rfl (bB rfl rfl (IntWalk.i64_in _ (by omega)) rfl (aA rfl rfl (aG ?_))))))))))))))))))))))))
    have hs1:¬ t.s = -1:=by simpa using hg24
    exact XF.round (a.al - (i+1)) [(1,_),(2,_),(5,_),(6,_)] (by omega) ⟨rfl,rfl,rfl,rfl,trivial⟩ ⟨i+1,bs,ch,by omega,rfl,rfl,hb1,hb2,hb3,hct,hch,fun e9=>⟨(hcf e9).1,fun t2 ht2=>(by
     rw [List.take_add_one,ht] at ht2
     rcases List.mem_append.1 ht2 with h9 | h9
     ·exact (hcf e9).2 t2 h9
     ·obtain rfl:t2=t:=by simpa using h9
      intro h7 h8
      exact absurd h7 hs1)⟩,hS.tail.keep K (fun q hq=>by simp [hq])⟩
  ·have hc13:=of_decide_eq_false hc;clear hc
   refine bX (XF.thenX (XF.thenX (XF.blkX (XF.blkN ?_))))
   rw [List.take_of_length_le (by omega)] at hcf
   have hm9:2 * (n - ctB bs)+(if ch=true then 1 else 0) < 2 * (n - ctB bs1)+1:=by
    have h5:=ctB_le (bs:=bs)
    cases ch with
    | false=>obtain ⟨e,_⟩:=hcf rfl;subst e;simp
    | true=>have h6:=hch rfl;simp;omega
   exact XF.round (2 * (n - ctB bs)+(if ch=true then 1 else 0)) [(1,_),(2,_),(5,_)] hm9 ⟨rfl,rfl,rfl,trivial⟩ ⟨bs,ch,rfl,rfl,hb1,hb2,hb3,fun h=>(hcf h).2,hS.keep K (fun q hq=>by simp [hq])⟩
 ·have hc8:=hc;clear hc
  refine bX (XF.thenX (XF.thenX (XF.blkX (XF.thenN (aD (aH (aB rfl rfl (aA rfl rfl (aG (XF.thenN (bH (XF.res (bU results46 rfl) ?_))))))))))))
  exact ⟨bs,hb1,HdB.of hb2 hb3 (hcl (by simpa using hc8)),rfl,(hS.keep K (fun q hq=>by simp [hq])).tail⟩
theorem qF:bD prog 46=true:=by kernel_rfl
theorem nG {n q:Nat}:(List.replicate n false).getD q false=true↔False:=by
 rw [List.getD_eq_getElem?_getD,List.getElem?_replicate]
 split<;>simp
theorem oO {bs:List Bool} {i:Nat} (h:i < bs.length):((List.range (i+1)).filter fun j=>bs.getD j false)=((List.range i).filter fun j=>bs.getD j false)++(if bs.getD i false=true then [i] else []):=by
 rw [List.range_succ,List.filter_append]
 congr 1
 show (match bs.getD i false with | true=>[i] | false=>[])=_
 by_cases e:bs.getD i false=true
 ·rw [if_pos e,e]
 ·rw [if_neg e]
  rw [Bool.not_eq_true] at e
  rw [e]
theorem lC (a:NfV) (n:Nat) (k:Int) (la:Option Addr) (ll lc:Nat) (ls:List Int) (Kt:List (Nat×World)) (Ot:Own) (G:aX) (K:List (Nat×World)) (w0 w:World) (hS0:St w0 Ot G K w) (hKt:∀ q∈Kt,q∈K) (hA:bT w0 Kt (fun W=>NIn W a)) (hLs:bT w0 Kt (fun W=>Row W la ls)) (hll:ls.length=ll) (hlm:ll≤9223372036854775807) (hlt:∀ y∈ls,0≤y∧y < (n:Int)) (hn:a.st=(n:Int)) (hn1:1≤n) (hn4:n≤4096) (hO:eX n k a.ar) :
  Calls prog 28 #[a.val,.slice la ll lc] w (fun e w'=>∃ (IB:Nat) (bs:List Bool),bs.length=n∧HdB a.ar (fun q:Nat=>(q:Int)∈ls) bs∧e = .returned (.slice (some ⟨IB,0,none⟩) n n)∧St w0 ((IB,zB bs,4)::Ot) G K w'):=by
 refine bE (args:=[a.val,.slice la ll lc]) func28 rfl ntmps28 rfl ?_
 have hS:=hS0
 refine aD (aH (bY (cs:=[_,_,_,_,_]) hS rfl rfl rfl fun B1 W1 hS=>aA rfl rfl (aG (XF.thenN (aD (aH (aI (o':=0) cW rfl rfl rfl (aJ isAgg3 rfl (aF (hS.at_ 0 rfl) rfl) rfl ?_))))))))
 refine lJ (m:=n) (cs:=zB (List.replicate n false)) hS underlying51 inf_4 rfl rfl rfl (by omega) (by omega) (tM _) (by show (1:Int) * _≤_;omega) (by omega) rfl fun B2 W2 hS=>?_
 refine aA rfl rfl (aG (XF.thenN (aD (aD (aH (aA rfl rfl (aG (XF.thenN (aL ?_)))))))))
 refine cE (fun m l W=>∃ (i:Nat) (bs:List Bool),i≤ll∧m=ll - i∧l=[(1,.slice la ll lc),(2,.pointer (some ⟨B1,0,none⟩)),(5,.slice (some ⟨B2,0,none⟩) n n),(6,.int .i64 (i:Int))]∧bs.length=n∧(∀ q:Nat,bs.getD q false=true↔(q:Int)∈ls.take i)∧St w0 ((B2,zB (bs),4)::(B1,a.cells,24)::Ot) G K W) (ll - 0) ([(1,_),(2,_),(5,_),(6,_)]) ⟨rfl,rfl,rfl,rfl,trivial⟩ (⟨0,List.replicate n false,Nat.zero_le _,rfl,rfl,by simp,fun q=>(by rw [nG];simp),hS.keep K (fun q hq=>by simp [hq])⟩) ?_
 clear hS
 rintro m l W ⟨i,bs,hi,rfl,rfl,hbl,hbm,hS⟩
 refine aD (aD (aH (aB rfl rfl (aB rfl rfl (bN underlying25 rfl rfl (bK rfl rfl rfl (aG (XF.thenN (bC rfl (fun hc=>?_) (fun hc=>?_))))))))))
 ·have hc13:=of_decide_eq_true hc;clear hc
  obtain ⟨b,off,y,hla,hy,hyc⟩:=(hLs (hS.keep K (fun q hq=>by simp [hq])) hKt).at1 (show i < ls.length by omega)
  obtain ⟨hy0,hy1⟩:=hlt y (List.mem_of_getElem? hy)
  obtain ⟨yn,hyn⟩:∃ k:Nat,y=(k:Int):=⟨y.toNat,by omega⟩
  refine aS (XF.thenN (aD (aL (aH (aB rfl rfl (aB rfl rfl (aB rfl rfl ?_)))))))
  refine aQ (j:=i) (b:=b) (o:=off) (m:=ll) (c:=lc) underlying25 sizeOf3 (by show some (Value.slice _ _ _)=_;rw [hla]) rfl rfl (by omega) rfl rfl ?_
  refine aJ isAgg3 rfl (hyc) rfl (aQ (j:=yn) underlying51 sizeOf4 rfl rfl (hyn) (by omega) rfl rfl ?_)
  refine bV (i:=0) (cs':=zB (bs.set yn true)) (O':=((B2,_,_)::_::Ot)) hS sizeOf4 rfl rfl rfl rfl (Nat.ble_eq_true_of_le (by rw [lU];omega)) lV rfl fun W56 hS=>?_
  refine aG (XF.blkN (XF.thenN (aH (aB rfl rfl (bB rfl rfl (IntWalk.i64_in _ (by omega)) rfl (aA rfl rfl (aG ?_)))))))
  exact XF.round (ll - (i+1)) [(1,_),(2,_),(5,_),(6,_)] (by omega) ⟨rfl,rfl,rfl,rfl,trivial⟩ ⟨i+1,bs.set yn true,by omega,rfl,rfl,by rw [List.length_set];exact hbl,fun q=>(by rw [fG (by omega),hbm,List.take_add_one,hy,List.mem_append];simp [hyn];constructor<;>rintro (h | h)<;>first | exact .inl h | exact .inr h | exact .inl (by omega) | exact .inr (by omega)),hS.keep K (fun q hq=>by simp [hq])⟩
 ·have hc13:=of_decide_eq_false hc;clear hc
  rw [List.take_of_length_le (by omega)] at hbm
  refine bX (XF.thenX (XF.thenX (XF.blkX (XF.thenN (aD (aH (aO (vs:=[_,_,_,_,_]) isAgg24 sizeOf24 rfl (aK.own (j:=0) (m:=5) (hS.at_ 1 rfl) rfl) rfl (aB rfl rfl (aU (vs:=[_,_]) qF rfl (nF a n k ((fun q:Nat=>(q:Int)∈ls)) B2 bs Kt _ G K w0 _ ((hS.keep K (fun q hq=>by simp [hq]))) hKt hA hO hbl hn4 (fun q hq=>.base ((hbm q).1 hq)) (fun q hq=>(hbm q).2 hq)) rfl ?_)))))))))
  rintro e W9 ⟨bs2,hb2,hH2,rfl,hS9⟩
  refine ⟨_,rfl,?_⟩
  clear hS;have hS:=hS9;clear hS9
  refine aA rfl rfl (aG (XF.thenN (bH (XF.res (bU results28 rfl) ?_))))
  exact ⟨_,bs2,hb2,hH2,rfl,((hS.keep K (fun q hq=>by simp [hq])).perm (List.Perm.swap _ _ _)).tail⟩
theorem nBy_is (a:NfV) (n:Nat) (k x:Int) (P:Nat→Prop) (IB:Nat) (bs0:List Bool) (Kt:List (Nat×World)) (Ot:Own) (G:aX) (K:List (Nat×World)) (w0 w:World) (hS0:St w0 ((IB,zB bs0,4)::Ot) G K w) (hKt:∀ q∈Kt,q∈K) (hA:bT w0 Kt (fun W=>NIn W a)) (hn:a.st=(n:Int)) (hn1:1≤n) (hn4:n≤4096) (hO:eX n k a.ar) (hb0:bs0.length=n) (hP:∀ q:Nat,bs0.getD q false=true↔P q) :
  Calls prog 31 #[a.val,.int .i64 x,.slice (some ⟨IB,0,none⟩) n n] w (fun e w'=>∃ (OB:Nat) (bs:List Bool),bs.length=n∧HdB a.ar (By9 a.ar x P) bs∧e = .returned (.slice (some ⟨OB,0,none⟩) n n)∧St w0 ((OB,zB bs,4)::(IB,zB bs0,4)::Ot) G K w'):=by
 refine bE (args:=[a.val,.int .i64 x,.slice (some ⟨IB,0,none⟩) n n]) func31 rfl ntmps31 rfl ?_
 have hS:=hS0
 have hlen:=(hA hS0 hKt).alen
 have hamx:=(hA hS0 hKt).amax
 refine aD (aH (bY (cs:=[_,_,_,_,_]) hS rfl rfl rfl fun B1 W1 hS=>aA rfl rfl (aG (XF.thenN (aD (aH (aI (o':=0) cW rfl rfl rfl (aJ isAgg3 rfl (aF (hS.at_ 0 rfl) rfl) rfl ?_))))))))
 refine lJ (m:=n) (cs:=zB (List.replicate n false)) hS underlying51 inf_4 rfl rfl rfl (by omega) (by omega) (tM _) (by show (1:Int) * _≤_;omega) (by omega) rfl fun B2 W2 hS=>?_
 refine aA rfl rfl (aG (XF.thenN (aD (aD (aH (aA rfl rfl (aG (XF.thenN (aL ?_)))))))))
 refine cE (fun m l W=>∃ (i:Nat) (bs:List Bool),i≤a.al∧m=a.al - i∧l=[(1,.int .i64 x),(2,.slice (some ⟨IB,0,none⟩) n n),(3,.pointer (some ⟨B1,0,none⟩)),(7,.slice (some ⟨B2,0,none⟩) n n),(8,.int .i64 (i:Int))]∧bs.length=n∧(∀ q:Nat,bs.getD q false=true↔∃ t∈a.ar.take i,((t.s=x∨t.s = -2)∧bs0.getD t.f.toNat false=true)∧t.q=(q:Int))∧St w0 ((B2,zB (bs),4)::(B1,a.cells,24)::(IB,zB bs0,4)::Ot) G K W) (a.al - 0) ([(1,_),(2,_),(3,_),(7,_),(8,_)]) ⟨rfl,rfl,rfl,rfl,rfl,trivial⟩ (⟨0,List.replicate n false,Nat.zero_le _,rfl,rfl,by simp,fun q=>(by rw [nG];simp),hS.keep K (fun q hq=>by simp [hq])⟩) ?_
 clear hS
 rintro m l W ⟨i,bs,hi,rfl,rfl,hbl,hbm,hS⟩
 refine aD (aD (aH (aB rfl rfl (aI (o':=4) cR rfl rfl rfl (aJ isAgg22 rfl (aF (hS.at_ 1 rfl) rfl) rfl (bN underlying22 rfl rfl (bK rfl rfl rfl (aG (XF.thenN (bC rfl (fun hc=>?_) (fun hc=>?_)))))))))))
 ·have hc17:=of_decide_eq_true hc;clear hc
  obtain ⟨t,ht⟩:∃ t,a.ar[i]?=some t:=⟨_,List.getElem?_eq_getElem (by omega)⟩
  obtain ⟨b,off,haa,hcs⟩:=(hA (hS.keep K (fun q hq=>by simp [hq])) hKt).arow i t ht
  have k1:=hcs
  obtain ⟨⟨hf0,hf1⟩,⟨hq0,hq1⟩,_⟩:=hO t (List.mem_of_getElem? ht)
  obtain ⟨fn,hfn⟩:∃ k:Nat,t.f=(k:Int):=⟨t.f.toNat,by omega⟩
  obtain ⟨qn,hqn⟩:∃ k:Nat,t.q=(k:Int):=⟨t.q.toNat,by omega⟩
  have hfn2:t.f.toNat=fn:=by omega
  refine aS (XF.thenN (aD (aL (aD (aH (aI (o':=4) cR rfl rfl rfl (aJ isAgg22 rfl (aF (hS.at_ 1 rfl) rfl) rfl (aB rfl rfl ?_))))))))
  refine aQ (j:=i) (b:=b) (o:=off) (m:=a.al) (c:=a.ac) underlying22 sizeOf57 (by show some (Value.slice _ _ _)=_;rw [haa]) rfl rfl (by omega) rfl rfl ?_
  refine aO (vs:=[_,_,_]) isAgg57 sizeOf57 rfl k1 rfl (bS (cs:=[_,_,_]) hS zeroValue57 rfl rfl fun B3 W3 hS=>bQ (i:=0) (vs:=[_,_,_]) (cs':=[_,_,_]) (O':=(_::_::_::_::Ot)) hS sizeOf57 rfl rfl rfl rfl rfl rfl rfl fun W4 hS=>aG (XF.thenN (aD (aH (aI (o':=1) dE rfl rfl rfl (aJ isAgg3 rfl (aF (hS.at_ 0 rfl) rfl) rfl (aB rfl rfl (dN rfl rfl rfl (aB rfl rfl (bF (d:=29) rfl (fun hc=>?_) (fun hc=>?_)))))))))))
  ·have hg29:=of_decide_eq_true hc;clear hc
   refine aE (d:=29) rfl rfl rfl rfl (aE (d:=29) rfl rfl rfl rfl (aE (d:=29) rfl rfl rfl rfl (aN rfl rfl rfl (aB rfl rfl (aC (d:=34) rfl rfl (aB rfl rfl (aC (d:=34) rfl rfl (aI (o':=0) eV rfl rfl rfl (aC (d:=34) rfl rfl (aJ isAgg3 rfl (aF (hS.at_ 0 rfl) rfl) rfl (aC (d:=34) rfl rfl (aQ (j:=fn) underlying51 sizeOf4 rfl rfl (hfn) (by omega) rfl rfl (aC (d:=34) rfl rfl (aJ isAgg4 rfl (aF (hS.at_ 3 rfl) (mX (by omega))) rfl (aN rfl rfl rfl (aG (XF.thenN (bC rfl (fun hc=>?_) (fun hc=>?_)))))))))))))))))))
   ·have hc40:=hc;clear hc
    refine aH (aB rfl rfl (aI (o':=2) dH rfl rfl rfl (aJ isAgg3 rfl (aF (hS.at_ 0 rfl) rfl) rfl (aQ (j:=qn) underlying51 sizeOf4 rfl rfl (hqn) (by omega) rfl rfl ?_))))
    refine bV (i:=1) (cs':=zB (bs.set qn true)) (O':=(_::(B2,_,_)::_::_::Ot)) hS sizeOf4 rfl rfl rfl rfl (Nat.ble_eq_true_of_le (by rw [lU];omega)) lV rfl fun W74 hS=>?_
    refine aG (XF.blkN (XF.thenN (aH (aB rfl rfl (bB rfl rfl (IntWalk.i64_in _ (by omega)) rfl (aA rfl rfl (aG ?_)))))))
    have hyes:(t.s=x∨t.s = -2)∧bs0.getD t.f.toNat false=true:=⟨by first | exact .inl (by simpa using hg29) | exact .inr (by simpa using hg34),by rw [hfn2];simpa using hc40⟩
    exact XF.round (a.al - (i+1)) [(1,_),(2,_),(3,_),(7,_),(8,_)] (by omega) ⟨rfl,rfl,rfl,rfl,rfl,trivial⟩ ⟨i+1,bs.set qn true,by omega,rfl,rfl,by rw [List.length_set];exact hbl,fun q=>(by
     rw [fG (by omega),hbm,List.take_add_one,ht]
     constructor
     ·rintro (rfl | ⟨t2,h2,h3⟩)
      ·exact ⟨t,List.mem_append_right _ (by simp),hyes,hqn⟩
      ·exact ⟨t2,List.mem_append_left _ h2,h3⟩
     ·rintro ⟨t2,h2,h3⟩
      rcases List.mem_append.1 h2 with h2 | h2
      ·exact .inr ⟨t2,h2,h3⟩
      ·obtain rfl:t2=t:=by simpa using h2
       exact .inl (by have:=h3.2;omega)),hS.tail.keep K (fun q hq=>by simp [hq])⟩
   ·have hc40:=hc;clear hc
    refine aS (XF.blkN (XF.thenN (aH (aB rfl rfl (bB rfl rfl (IntWalk.i64_in _ (by omega)) rfl (aA rfl rfl (aG ?_)))))))
    have hno:¬ ((t.s=x∨t.s = -2)∧bs0.getD t.f.toNat false=true):=fun h9=>by
     rw [hfn2] at h9
     exact absurd h9.2 (by simpa using hc40)
    exact XF.round (a.al - (i+1)) [(1,_),(2,_),(3,_),(7,_),(8,_)] (by omega) ⟨rfl,rfl,rfl,rfl,rfl,trivial⟩ ⟨i+1,bs,by omega,rfl,rfl,hbl,fun q=>(by
     rw [hbm,List.take_add_one,ht]
     constructor
     ·rintro ⟨t2,h2,h3⟩;exact ⟨t2,List.mem_append_left _ h2,h3⟩
     ·rintro ⟨t2,h2,h3⟩
      rcases List.mem_append.1 h2 with h2 | h2
      ·exact ⟨t2,h2,h3⟩
      ·obtain rfl:t2=t:=by simpa using h2
       exact absurd h3.1 hno),hS.tail.keep K (fun q hq=>by simp [hq])⟩
  ·have hg29:=of_decide_eq_false hc;clear hc
   refine aC (d:=29) rfl rfl (aI (o':=1) dE rfl rfl rfl (aC (d:=29) rfl rfl (aJ isAgg3 rfl (aF (hS.at_ 0 rfl) rfl) rfl (aC (d:=29) rfl rfl (dN rfl rfl rfl (bA rfl rfl rfl (aB rfl rfl (bF (d:=34) rfl (fun hc=>?_) (fun hc=>?_)))))))))
   ·have hg34:=of_decide_eq_true hc;clear hc
    refine aC (d:=34) rfl rfl (aB rfl rfl (aC (d:=34) rfl rfl (aI (o':=0) eV rfl rfl rfl (aC (d:=34) rfl rfl (aJ isAgg3 rfl (aF (hS.at_ 0 rfl) rfl) rfl (aC (d:=34) rfl rfl (aQ (j:=fn) underlying51 sizeOf4 rfl rfl (hfn) (by omega) rfl rfl (aC (d:=34) rfl rfl (aJ isAgg4 rfl (aF (hS.at_ 3 rfl) (mX (by omega))) rfl (aN rfl rfl rfl (aG (XF.thenN (bC rfl (fun hc=>?_) (fun hc=>?_))))))))))))))
    ·have hc40:=hc;clear hc
     refine aH (aB rfl rfl (aI (o':=2) dH rfl rfl rfl (aJ isAgg3 rfl (aF (hS.at_ 0 rfl) rfl) rfl (aQ (j:=qn) underlying51 sizeOf4 rfl rfl (hqn) (by omega) rfl rfl ?_))))
     refine bV (i:=1) (cs':=zB (bs.set qn true)) (O':=(_::(B2,_,_)::_::_::Ot)) hS sizeOf4 rfl rfl rfl rfl (Nat.ble_eq_true_of_le (by rw [lU];omega)) lV rfl fun W74 hS=>?_
     refine aG (XF.blkN (XF.thenN (aH (aB rfl rfl (bB rfl rfl (IntWalk.i64_in _ (by omega)) rfl (aA rfl rfl (aG ?_)))))))
     have hyes:(t.s=x∨t.s = -2)∧bs0.getD t.f.toNat false=true:=⟨by first | exact .inl (by simpa using hg29) | exact .inr (by simpa using hg34),by rw [hfn2];simpa using hc40⟩
     exact XF.round (a.al - (i+1)) [(1,_),(2,_),(3,_),(7,_),(8,_)] (by omega) ⟨rfl,rfl,rfl,rfl,rfl,trivial⟩ ⟨i+1,bs.set qn true,by omega,rfl,rfl,by rw [List.length_set];exact hbl,fun q=>(by
      rw [fG (by omega),hbm,List.take_add_one,ht]
      constructor
      ·rintro (rfl | ⟨t2,h2,h3⟩)
       ·exact ⟨t,List.mem_append_right _ (by simp),hyes,hqn⟩
       ·exact ⟨t2,List.mem_append_left _ h2,h3⟩
      ·rintro ⟨t2,h2,h3⟩
       rcases List.mem_append.1 h2 with h2 | h2
       ·exact .inr ⟨t2,h2,h3⟩
       ·obtain rfl:t2=t:=by simpa using h2
        exact .inl (by have:=h3.2;omega)),hS.tail.keep K (fun q hq=>by simp [hq])⟩
    ·have hc40:=hc;clear hc
     refine aS (XF.blkN (XF.thenN (aH (aB rfl rfl (bB rfl rfl (IntWalk.i64_in _ (by omega)) rfl (aA rfl rfl (aG ?_)))))))
     have hno:¬ ((t.s=x∨t.s = -2)∧bs0.getD t.f.toNat false=true):=fun h9=>by
      rw [hfn2] at h9
      exact absurd h9.2 (by simpa using hc40)
     exact XF.round (a.al - (i+1)) [(1,_),(2,_),(3,_),(7,_),(8,_)] (by omega) ⟨rfl,rfl,rfl,rfl,rfl,trivial⟩ ⟨i+1,bs,by omega,rfl,rfl,hbl,fun q=>(by
      rw [hbm,List.take_add_one,ht]
      constructor
      ·rintro ⟨t2,h2,h3⟩;exact ⟨t2,List.mem_append_left _ h2,h3⟩
      ·rintro ⟨t2,h2,h3⟩
       rcases List.mem_append.1 h2 with h2 | h2
       ·exact ⟨t2,h2,h3⟩
       ·obtain rfl:t2=t:=by simpa using h2
        exact absurd h3.1 hno),hS.tail.keep K (fun q hq=>by simp [hq])⟩
   ·have hg34:=of_decide_eq_false hc;clear hc
    refine aE (d:=34) rfl rfl rfl rfl (aE (d:=34) rfl rfl rfl rfl (aE (d:=34) rfl rfl rfl rfl (aE (d:=34) rfl rfl rfl rfl (aE (d:=34) rfl rfl rfl rfl (bA rfl rfl rfl (aG (XF.thenN (cB rfl (aS (XF.blkN (XF.thenN (aH (aB rfl rfl (bB rfl rfl (IntWalk.i64_in _ (by omega)) rfl (aA rfl rfl (aG ?_))))))))))))))))
    have hno:¬ ((t.s=x∨t.s = -2)∧bs0.getD t.f.toNat false=true):=fun h9=>h9.1.elim (fun h8=>absurd h8 (by simpa using hg29)) (fun h8=>absurd h8 (by simpa using hg34))
    exact XF.round (a.al - (i+1)) [(1,_),(2,_),(3,_),(7,_),(8,_)] (by omega) ⟨rfl,rfl,rfl,rfl,rfl,trivial⟩ ⟨i+1,bs,by omega,rfl,rfl,hbl,fun q=>(by
     rw [hbm,List.take_add_one,ht]
     constructor
     ·rintro ⟨t2,h2,h3⟩;exact ⟨t2,List.mem_append_left _ h2,h3⟩
     ·rintro ⟨t2,h2,h3⟩
      rcases List.mem_append.1 h2 with h2 | h2
      ·exact ⟨t2,h2,h3⟩
      ·obtain rfl:t2=t:=by simpa using h2
       exact absurd h3.1 hno),hS.tail.keep K (fun q hq=>by simp [hq])⟩
 ·have hc17:=of_decide_eq_false hc;clear hc
  rw [List.take_of_length_le (by omega)] at hbm
  have hby:∀ q:Nat,bs.getD q false=true↔By9 a.ar x P q:=fun q=>by
   rw [hbm]
   constructor
   ·rintro ⟨t,ht,⟨h1,h2⟩,h3⟩
    obtain ⟨⟨hf0,_⟩,_⟩:=hO t ht
    exact ⟨t.f.toNat,(hP _).1 h2,t,ht,by omega,h1,h3⟩
   ·rintro ⟨p,h1,t,ht,h2,h3,h4⟩
    exact ⟨t,ht,⟨h3,by rw [show t.f.toNat=p by omega];exact (hP p).2 h1⟩,h4⟩
  refine bX (XF.thenX (XF.thenX (XF.blkX (XF.thenN (aD (aH (aO (vs:=[_,_,_,_,_]) isAgg24 sizeOf24 rfl (aK.own (j:=0) (m:=5) (hS.at_ 1 rfl) rfl) rfl (aB rfl rfl (aU (vs:=[_,_]) qF rfl (nF a n k (By9 a.ar x P) B2 bs Kt _ G K w0 _ ((hS.keep K (fun q hq=>by simp [hq]))) hKt hA hO hbl hn4 (fun q hq=>.base ((hby q).1 hq)) (fun q hq=>(hby q).2 hq)) rfl ?_)))))))))
  rintro e W9 ⟨bs2,hb2,hH2,rfl,hS9⟩
  refine ⟨_,rfl,?_⟩
  clear hS;have hS:=hS9;clear hS9
  refine aA rfl rfl (aG (XF.thenN (bH (XF.res (bU results31 rfl) ?_))))
  exact ⟨_,bs2,hb2,hH2,rfl,((hS.keep K (fun q hq=>by simp [hq])).perm (List.Perm.swap _ _ _)).tail⟩
theorem nH (n:Nat) (IB:Nat) (bs:List Bool) (Ot:Own) (G:aX) (K:List (Nat×World)) (w0 w:World) (hS0:St w0 ((IB,zB bs,4)::Ot) G K w) (hbl:bs.length=n) (hn4:n≤4096) :
  Calls prog 27 #[.slice (some ⟨IB,0,none⟩) n n] w (fun e w'=>∃ (wa:Option Addr) (wc:Nat) (Kn:List (Nat×World)),e = .returned (.slice wa (dZ bs).length wc)∧(∀ q∈K,q∈Kn)∧bT w0 Kn (fun W=>Row W wa (nI (dZ bs)))∧St w0 ((IB,zB bs,4)::Ot) G Kn w'):=by
 refine bE (args:=[.slice (some ⟨IB,0,none⟩) n n]) func27 rfl ntmps27 rfl ?_
 have hS:=hS0
 refine aD (aH (aA rfl rfl (aG (XF.thenN (aD (aH (aA rfl rfl (aG (XF.thenN (aD (aD ?_)))))))))))
 have hS':=hS.newG 3 1;clear hS;have hS:=hS';clear hS'
 refine aH (aA rfl rfl (aG (XF.thenN (aL (cE (fun m l W=>∃ (i ml:Nat) (wa:Option Addr) (wc:Nat),i≤n∧m=n - i∧l=[(0,.slice (some ⟨IB,0,none⟩) n n),(3,.slice wa ml wc),(4,.int .i64 (i:Int))]∧((List.range (i)).filter fun j=>bs.getD j false).length=ml∧ml≤i∧St w0 ((IB,zB bs,4)::Ot) (⟨.slice wa ml wc,ml,zN ((List.range (i)).filter fun j=>bs.getD j false),3,1⟩::G) K W) (n - 0) ([(0,_),(3,_),(4,_)]) ⟨rfl,rfl,rfl,trivial⟩ (⟨0,0,none,0,Nat.zero_le _,rfl,rfl,rfl,Nat.le_refl _,hS.keep K (fun q hq=>by simp [hq])⟩) ?_)))))
 clear hS
 rintro m l W ⟨i,ml,wa,wc,hi,rfl,rfl,hml,hmi,hS⟩
 refine aD (aD (aH (aB rfl rfl (aB rfl rfl (bN underlying51 rfl rfl (bK rfl rfl rfl (aG (XF.thenN (bC rfl (fun hc=>?_) (fun hc=>?_))))))))))
 ·have hc8:=of_decide_eq_true hc;clear hc
  have hts:=oO (bs:=bs) (i:=i) (by omega)
  refine aS (XF.thenN (aD (aL (aD (aH (aB rfl rfl (aB rfl rfl (aQ (j:=i) underlying51 sizeOf4 rfl rfl (rfl) (by omega) rfl rfl (aJ isAgg4 rfl (aF (hS.at_ 0 rfl) (mX (by omega))) rfl (aG (XF.thenN (bC rfl (fun hc=>?_) (fun hc=>?_)))))))))))))
  ·have hc14:=hc;clear hc
   refine aH (aB rfl rfl (aB rfl rfl (bP (us:=[(0,.int .i64 _)]) hS underlying25 sizeOf3 zeroValue3 rfl rfl rfl (dS _) rfl fun B1 W1 hS=>?_)))
   refine dT (i:=0) (news:=[_]) hS underlying25 jH rfl rfl (by show 0 < 1;decide) rfl rfl rfl rfl rfl (aK.own (j:=0) (m:=1) (hS.at_ 0 rfl) rfl) rfl rfl (by dsimp only;simp only [maxLen];omega) (by dsimp only;show _ * 8≤_;omega) rfl fun v2 W2 hS=>?_
   obtain ⟨wa9,wc9,e9,_⟩:=cL (hS.row 0 rfl)
   dsimp only at e9
   subst e9
   refine aA rfl rfl (aG (XF.blkN (XF.thenN (aH (aB rfl rfl (bB rfl rfl (IntWalk.i64_in _ (by omega)) rfl (aA rfl rfl (aG ?_))))))))
   have hb:bs.getD i false=true:=by simpa using hc14
   rw [if_pos hb] at hts
   have hS9:=hS.tail.castG (G':=(⟨.slice wa9 (ml+1) wc9,(ml+1),zN ((List.range (i+1)).filter fun j=>bs.getD j false),3,1⟩::G)) (by show GR.mk _ _ (zN _++[Value.int .i64 _]) _ _::_=_;rw [tP rfl,hts])
   exact XF.round (n - (i+1)) [(0,_),(3,_),(4,_)] (by omega) ⟨rfl,rfl,rfl,trivial⟩ ⟨i+1,ml+1,wa9,wc9,by omega,rfl,rfl,by rw [hts,List.length_append,hml];rfl,by omega,hS9.keep K (fun q hq=>by simp [hq])⟩
  ·have hc14:=hc;clear hc
   refine aS (XF.blkN (XF.thenN (aH (aB rfl rfl (bB rfl rfl (IntWalk.i64_in _ (by omega)) rfl (aA rfl rfl (aG ?_)))))))
   have hb:¬ bs.getD i false=true:=by simpa using hc14
   rw [if_neg hb,List.append_nil] at hts
   rw [← hts] at hS hml
   exact XF.round (n - (i+1)) [(0,_),(3,_),(4,_)] (by omega) ⟨rfl,rfl,rfl,trivial⟩ ⟨i+1,ml,wa,wc,by omega,rfl,rfl,hml,by omega,hS.keep K (fun q hq=>by simp [hq])⟩
 ·have hc8:=of_decide_eq_false hc;clear hc
  obtain rfl:i=n:=by omega
  have ht9:((List.range (i)).filter fun j=>bs.getD j false)=dZ bs:=by unfold dZ;rw [hbl]
  rw [ht9] at hS hml
  refine bX (XF.thenX (XF.thenX (XF.blkX (XF.thenN (aD (aH (aB rfl rfl (aA rfl rfl (aG (XF.thenN (bH (XF.res (bU results27 rfl) ?_))))))))))))
  obtain ⟨K1,k1,g1,hS1⟩:=St.rowKeepN (o:=⟨.slice wa ml wc,ml,zN (dZ bs)⟩) (hS.keep K (fun q hq=>by simp [hq]))
  exact ⟨wa,wc,K1,by rw [hml],k1,fun h9 hk9=>fO (by rw [← zN_nI];exact g1 h9 hk9),hS1⟩
end Go.Proofs.Ytpgmnbgkejiomaa
