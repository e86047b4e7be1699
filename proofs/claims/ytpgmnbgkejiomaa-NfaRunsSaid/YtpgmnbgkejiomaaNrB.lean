import Derived.StringKeys
import Derived.Maps.OwnSet
import Derived.Test.YtpgmnbgkejiomaaNrA
set_option maxRecDepth 100000
set_option maxHeartbeats 4000000
set_option linter.unusedVariables false
set_option linter.unusedSimpArgs false
set_option linter.unusedSectionVars false
set_option linter.unnecessarySimpa false
namespace Go.Proofs.Ytpgmnbgkejiomaa
open Go.Proofs.Try
open Go.RowKit
section
variable {P:Program} {ops:Array Oper} {Q:Exit→Act→World→Prop} {σ:Type}
theorem kS {ops:Array Oper} {k:Nat} (hk:ops.size=k):hZ ops k=true:=List.all_eq_true.2 fun j hj=>by
 rw [decide_eq_true (show j < k by have:=List.mem_range.1 hj;omega)];rfl
theorem mR {L:Array Bool} {i:Nat} (h:L.size≤i):L.getD i false=false:=by
 rw [Array.getD_eq_getD_getElem?,Array.getElem?_eq_none (by omega)];rfl
theorem kN {t0:Array Value} {d0:List Deferred} {G:σ→World→Prop} {I:σ→Nat→Value→World→Prop} {V:σ→Array Bool→Prop} {k:Nat} (hk:ops.size=k) (ht:cY ops t0.size=true)
  (hstep:∀ i,i < k→sJ P ops Q t0 G I V i)
  (hfin:∀ s L a w,RInvG ops t0 d0 G I V s L a w→(∀ i,i < k→L.getD i false=true)→wpList P ops Q (ops.toList.drop k) a w) :
  ∀ (fuel:Nat) (s:σ) (L:Array Bool) (a:Act) (w:World),L.size=ops.size→L.toList.count false≤fuel→dE ops L→RInvG ops t0 d0 G I V s L a w→wpAny P .any ops Q fuel L a w:=by
 intro fuel
 induction fuel with
 | zero =>
  intro s L a w hs hc hcl h
  have hall:∀ i,i < k→L.getD i false=true:=fun i hi=>by
   cases hb:L.getD i false with
   | true=>rfl
   | false =>
    have:=eQ _ _ (eF (by omega) hb)
    omega
  exact fX (fun _ _=>trivial) (kS hk) ht 0 k 0 L a w (by omega) (Nat.le_refl _) (Nat.le_refl _) hs hcl hall (fun i hi=>mR (by omega)) (hfin s L a w h hall)
 | succ fuel ih =>
  intro s L a w hs hc hcl h
  by_cases hall:∀ i,i < k→L.getD i false=true
  ·exact fX (fun _ _=>trivial) (kS hk) ht 0 k (fuel+1) L a w (by omega) (Nat.le_refl _) (Nat.zero_le _) hs hcl hall (fun i hi=>mR (by omega)) (hfin s L a w h hall)
  ·refine ⟨fun hr=>?_,fun i hi=>?_⟩
   ·exfalso;apply hall
    intro i hi
    have h1:=eX ht hs hr i (by omega)
    rw [Array.getD_eq_getD_getElem?,Array.getElem?_eq_getElem (by omega)] at h1 ⊢
    simpa using h1
   ·obtain ⟨his,hr⟩:=gH hi hs
    have hik:i < k:=by omega
    have hc1:=eQ _ _ (eF (by omega) hr.1)
    refine wpOp_mono ?_ (hstep i hik s L a w (fun t ht=>h.frame t ht) h.glob h.cons hs hcl hr (fun j d hw=>?_))
    ·rintro a' w' ⟨s',v,rfl,hV,hG,hI,hst⟩
     refine ih s' _ _ _ (by simpa using hs) ?_ (hcl.next hr (by omega)) ⟨by rw [fQ];exact h.size,by rw [eM];exact h.defers,fun t hf=>?_,hG,hV,fun j d hd hj=>?_⟩
     ·rw [Array.toList_setIfInBounds];omega
     ·rw [dK ?_]
      ·exact h.frame t hf
      ·intro hd
       obtain ⟨o,ho,hd⟩:=Option.bind_eq_some_iff.1 hd
       have:=Array.all_eq_true'.1 hf o (Array.mem_of_getElem? ho)
       simp [hd] at this
     ·by_cases hji:j=i
      ·subst hji
       rw [jM hd (by rw [h.size];exact (eD ht hd).1)]
       exact hI d hd
      ·rw [getD_set_ne false (Ne.symm hji)] at hj
       rw [dK (fun e=>hji ((eD ht e).2 j hd))]
       exact hst j d hd (h.done j d hd hj)
    ·have:j∈aft ops i:=by
      unfold aO at hw
      unfold aft
      cases ho:ops[i]? with
      | none=>simp [ho] at hw
      | some o =>
       simp only [ho,Bool.and_eq_true,beq_iff_eq] at hw
       obtain ⟨e,he,h2⟩:=Array.any_eq_true'.1 hw.1
       simp only [Bool.and_eq_true,beq_iff_eq] at h2
       exact List.mem_map.2 ⟨e,List.mem_filter.2 ⟨Array.mem_toList_iff.2 he,h2.2⟩,h2.1⟩
     have hd:(ops[j]?).bind (·.dst)=some d:=by
      unfold aO at hw
      simp only [Bool.and_eq_true,beq_iff_eq] at hw
      exact hw.2
     exact h.done j d hd (hr.2 j this)
end
section
variable {P:Program} {n:Nat} {Q:Exit→Act→World→Prop} {l:Fr} {w0 W:World} {ops:Array Oper} {os:List Oper} {K:List (Nat×World)} {L:List Asr} {i:Nat}
variable {al:List Nat} {ca:Nat→Option Value→List Value} {ta:Nat→TypeId} {Os:Option Value→Own} {Gs:Option Value→aU} {lo ef jy:Nat} {s:Sg}
variable {d:Nat} {op:Op} {ty:TypeId} {pos:String} {aft_:Array Edge} {v:Value} {gd:Option (Nat×Bool)}
theorem regSL {id k:Nat} {ds:List Nat} (hm:P.follows .mixedOrders=true) (hlo:lo=W.heap.size) (hS:St w0 (Os none) (Gs none) K W) (hk:os.length=k) (ht:cY os.toArray n=true) (hal:al.all (fun a=>Nat.blt a k)=true) (hnd:al.Nodup) (hea:al.contains ef=false)
  (hev:Nat.blt ef k=true) (hdst:(List.range k).all (fun j=>Nat.beq j ef || ((os.toArray[j]?).bind (·.dst)).isSome)=true) (hds:(os.drop k).all (fun o=>match o.dst with | some d=>ds.contains d | none=>true)=true)
  (h:BLS P n os.toArray Q l w0 K lo al ef jy ca ta Os Gs (fun Lr=>∀ (Bf:Nat→Nat) (y:Value) (W':World) (Ks:List (Nat×World)),W.heap.size≤W'.heap.size→(∀ q∈Ks,lo≤q.1)→St w0 (al.map (fun a=>(Bf a,ca a (some y),ta a))++Os (some y)) (Gs (some y)) (Ks++K) W' →
   (∀ {O2 G2 K2 W2},St w0 O2 G2 K2 W2→(∀ q∈Ks,q∈K2)→dF lo (XB (al.map (fun a=>(Bf a,ca a (some y),ta a))++Os (some y)) (Gs (some y))) W' W2) →
   fI (os.take k) (nP al ef jy lo (XB (al.map (fun a=>(Bf a,ca a (some y),ta a))++Os (some y)) (Gs (some y))) Bf y 0 Lr.reverse) (fP ds l) (fun l' W'=>bG P n os.toArray Q (os.drop k) l' W') W') k [] 0):cZ P n (.region id os.toArray true) Q l W:=by
 obtain ⟨Lr,h1,h2,hfin⟩:=lF ht k 0 [] rfl (fun j _=>by rfl) (fun i hi=>by omega) h
 rw [Nat.zero_add] at h1 h2
 have hal':∀ a∈al,a < k:=fun a ha=>Nat.lt_of_lt_of_le (Nat.lt_succ_self _) (Nat.le_of_ble_eq_true (List.all_eq_true.1 hal a ha))
 have hea':ef∉al:=fun h=>by rw [List.contains_iff_mem.2 h] at hea;cases hea
 intro a ha
 refine wp_region_any hm (kN (t0:=a.tmps) (d0:=a.defers) (V:=VG al ef) (I:=IG al ef jy lo ca ta Os Gs Lr.reverse) (G:=GG w0 K lo ca ta Os Gs) (k:=k) (by simpa using hk) (by rw [ha.size];exact ht) (fun i hi=>(h2 i hi).step a ha) ?_ _ ⟨none,[]⟩ _ _ _ (by simp) (eK _) (fun j hj=>by rw [Array.getD_eq_getD_getElem?,Array.getElem?_replicate] at hj;split at hj<;>simp at hj) ⟨rfl,rfl,fun _ _=>rfl,⟨by unfold OE;exact hS.drew,by rw [hlo];exact Nat.le_refl _,(fun q hq=>by cases hq)⟩,⟨fun a _=>?_,(fun q hq=>by cases hq),List.Pairwise.nil,?_⟩,fun i d _ hj=>?_⟩)
 ·intro s LB a' W' hR hdone
  obtain ⟨hG,hG2,hG3⟩:=hR.glob
  obtain ⟨v1,v2,v3,v4⟩:=hR.cons
  obtain ⟨ev,bs⟩:=s
  have hall:∀ x∈al,(x,bAt bs x)∈bs:=fun x hx=>lG ((v1 x hx).1 (hdone x (hal' x hx)))
  obtain ⟨y,hy⟩:∃ y,ev=some y:=by
   have h3:ev.isSome=true:=v4.1 (hdone ef (Nat.lt_of_lt_of_le (Nat.lt_succ_self _) (Nat.le_of_ble_eq_true hev)))
   exact Option.isSome_iff_exists.1 h3
  subst hy
  have hperm:bs.Perm (al.map (fun x=>(x,bAt bs x))):=by
   refine (List.perm_ext_iff_of_nodup (v3.imp (fun h e=>h (by rw [e]))) ?_).2 fun q=>?_
   ·refine List.Pairwise.map _ (fun x y (hxy:x≠y)=>?_) hnd
    intro e;exact hxy (congrArg Prod.fst e)
   ·constructor
    ·intro hq
     have h3:=hall q.1 (v2 q hq)
     have h4:=iB v3 hq h3 rfl
     rw [h4]
     exact List.mem_map.2 ⟨q.1,v2 q hq,rfl⟩
    ·intro hq
     obtain ⟨x,hx,rfl⟩:=List.mem_map.1 hq
     exact hall x hx
  have hO:(OE ca ta Os ⟨some y,bs⟩).Perm (al.map (fun a=>(bAt bs a,ca a (some y),ta a))++Os (some y)):=by
   unfold OE
   refine List.Perm.append_right _ ?_
   have:=hperm.map (fun q:Nat×Nat=>(q.2,ca q.1 (some y),ta q.1))
   rw [List.map_map] at this
   exact this
  have hG':=hG.perm hO
  have hX:∀ b,XB (OE ca ta Os ⟨some y,bs⟩) (Gs (some y)) b↔XB (al.map (fun a=>(bAt bs a,ca a (some y),ta a))++Os (some y)) (Gs (some y)) b:=fun b=>by
   unfold XB
   constructor
   ·rintro (⟨p,hp,e⟩ | h);exact .inl ⟨p,hO.mem_iff.1 hp,e⟩;exact .inr h
   ·rintro (⟨p,hp,e⟩ | h);exact .inl ⟨p,hO.mem_iff.2 hp,e⟩;exact .inr h
  obtain ⟨Ks,c1,⟨qw,c2,c3⟩,c4⟩:=qP (((al.map (fun a=>(bAt bs a,ca a (some y),ta a))++Os (some y)).map (·.1))++(Gs (some y)).filterMap (fun g=>g.v.ownBlock)) lo W'
  have hG4:=hG'.more Ks (fun q hq=>⟨(c1 q hq).2.1,fun p hp=>(c1 q hq).2.2 p.1 (List.mem_append_left _ (List.mem_map.2 ⟨p,hp,rfl⟩)),fun g hg b hb=>(c1 q hq).2.2 b (List.mem_append_right _ (List.mem_filterMap.2 ⟨g,hg,hb⟩))⟩)
  have hcov:∀ {O2 G2 K2 W2},St w0 O2 G2 K2 W2→(∀ q∈Ks,q∈K2)→dF lo (XB (al.map (fun a=>(bAt bs a,ca a (some y),ta a))++Os (some y)) (Gs (some y))) W' W2:=fun {O2 G2 K2 W2} h2 hq=>by
   refine ⟨⟨h2.below.os.trans hG.below.os.symm,h2.below.tape.trans hG.below.tape.symm,h2.below.output.trans hG.below.output.symm⟩,?_,fun b b1 b2 b3=>?_⟩
   ·have:=(h2.kept qw (hq qw c2)).1.1;rw [c3] at this;exact this
   ·obtain ⟨q,q1,q2,q3⟩:=c4 b b1 b2 (fun hb=>b3 (by
     rcases List.mem_append.1 hb with hb | hb
     ·obtain ⟨p,hp,rfl⟩:=List.mem_map.1 hb
      exact .inl ⟨p,hp,rfl⟩
     ·obtain ⟨g,hg,e⟩:=List.mem_filterMap.1 hb
      exact .inr ⟨g,hg,e⟩))
    exact ((h2.kept q (hq q q1)).1.2 b q2 q3).trans ((c1 q q1).2.1.2 b q2 q3).symm
  have htk:(os.take k).length=k:=by simp;omega
  refine fZ (os.take k) (nP al ef jy lo (XB (al.map (fun a=>(bAt bs a,ca a (some y),ta a))++Os (some y)) (Gs (some y))) (bAt bs) y 0 Lr.reverse) (fP ds l) (fun i d hi hd'=>?_) (fun i hi hd'=>?_) (hR.size.trans ha.size) (hR.defers.trans ha.defers) ?_ (fun l' h ha'=>?_) (hfin (bAt bs) y W' Ks (by rw [← hlo];exact hG2) (fun q hq=>(c1 q hq).1) hG4 hcov)
  ·have hik:i < k:=by omega
   have hd2:(os.toArray[i]?).bind (·.dst)=some d:=by rw [List.getElem?_take,if_pos hik] at hd';simpa using hd'
   obtain ⟨i1,i2,i3,i4⟩:=hR.done i d hd2 (hdone i hik)
   rw [fY Lr.reverse 0 i (by simp;omega),Nat.add_zero]
   cases hc1:al.contains i with
   | true =>
    rw [cond_true]
    obtain ⟨B,hB,e⟩:=i1 (List.contains_iff_mem.1 hc1)
    have:=iB v3 hB (hall i (List.contains_iff_mem.1 hc1)) rfl
    show _=_
    rw [e,show B=bAt bs i from congrArg Prod.snd this]
   | false =>
    rw [cond_false]
    have hni:i∉al:=fun hm'=>by rw [List.contains_iff_mem.2 hm'] at hc1;cases hc1
    cases hc2:Nat.beq i ef with
    | true =>
     rw [cond_true]
     have h5:=i2 (Nat.eq_of_beq_eq_true hc2)
     exact (Option.some.inj h5).symm
    | false =>
     rw [cond_false]
     have hne:i≠ef:=fun e=>by rw [e,Nat.beq_refl] at hc2;cases hc2
     have h6:AwS lo (XB (al.map (fun a=>(bAt bs a,ca a (some y),ta a))++Os (some y)) (Gs (some y))) (atI Lr.reverse i) (a'.tmps.getD d undef) W':=fun w2 hw2=>i4 hni hne w2 ⟨hw2.1,hw2.2.1,fun b b1 b2 b3=>hw2.2.2 b b1 b2 (fun hb=>b3 ((hX b).2 hb))⟩
     cases hc3:Nat.beq i jy with
     | true =>
      rw [cond_true]
      refine ⟨?_,h6⟩
      exact i3 (Nat.eq_of_beq_eq_true hc3) y rfl
     | false=>rw [cond_false];exact h6
  ·have hik:i < k:=by omega
   have h3:=List.all_eq_true.1 hdst i (List.mem_range.2 hik)
   rw [Bool.or_eq_true] at h3
   have hd2:(os.toArray[i]?).bind (·.dst)=none:=by rw [List.getElem?_take,if_pos hik] at hd';simpa using hd'
   rcases h3 with h3 | h3
   ·rw [fY Lr.reverse 0 i (by simp;omega),Nat.add_zero]
    have hc1:al.contains i=false:=by rw [Nat.eq_of_beq_eq_true h3];exact hea
    rw [hc1,cond_false,h3,cond_true]
    exact ⟨y,rfl⟩
   ·rw [hd2] at h3;cases h3
  ·intro t v hv hno
   have hl:=eN hv (cK hv)
   have hnt:=cK hv
   rw [hR.frame t ?_]
   ·exact ha.at_ t v hl
   ·unfold cE;rw [Array.all_eq_true'];intro o' ho'
    have ho2:o'∈os:=by simpa using ho'
    rw [← List.take_append_drop k os] at ho2
    rcases List.mem_append.1 ho2 with ho2 | ho2
    ·simpa using hno o' ho2
    ·have h5:=List.all_eq_true.1 hds o' ho2
     cases hx:o'.dst with
     | none=>simp
     | some d =>
      rw [hx] at h5
      simp
      intro e;subst e
      exact hnt (List.contains_iff_mem.1 h5)
  ·have:=h a' ha'
   simpa using this
 ·rw [Array.getD_eq_getD_getElem?,Array.getElem?_replicate]
  constructor
  ·intro h3;split at h3<;>simp at h3
  ·rintro ⟨B,hB⟩;cases hB
 ·rw [Array.getD_eq_getD_getElem?,Array.getElem?_replicate]
  constructor
  ·intro h3;split at h3<;>simp at h3
  ·intro h3;cases h3
 ·rw [Array.getD_eq_getD_getElem?,Array.getElem?_replicate] at hj
  split at hj<;>simp at hj
end
section
variable {P:Program} {n:Nat} {Q:Exit→Act→World→Prop} {l:Fr} {w0 W:World} {ops:Array Oper} {os:List Oper} {K:List (Nat×World)} {L:List Asr} {i:Nat} {O:Own} {G:aU}
variable {al:List Nat} {zc:Nat→List Value} {ta:Nat→TypeId} {lo ef jy:Nat} {d:Nat} {ty:TypeId} {pos:String} {aft_:Array Edge} {v:Value}
def osY (O:Own) (j jx B:Nat) (cs:List Value) (U:TypeId):Option Value→Own
 | none=>O
 | some y=>O.set j (B,cA cs jx y.cells.toList,U)
theorem lK {O:Own} {j jx B i:Nat} {cs:List Value} {U:TypeId} {ev:Option Value} {p:Nat×List Value×TypeId} (h:O[i]?=some p) (hij:Nat.beq i j=false):(osY O j jx B cs U ev)[i]?=some p:=by
 cases ev with
 | none=>exact h
 | some y =>
  show (O.set j _)[i]?=_
  rw [List.getElem?_set_ne (fun e=>by rw [e,Nat.beq_refl] at hij;cases hij)];exact h
theorem eff_stP {T U:TypeId} {x:Operand} {tyy B m:Nat} {cs:List Value} {py:Asr} (j jx:Nat) (li:Fr) (hal:al.contains ef=false) (hij:Nat.beq ef jy=false) (hi:ops[ef]?=some ⟨none,.store T x (.tmp tyy),ty,pos,aft_,none⟩) (hjy:(ops[jy]?).bind (·.dst)=some tyy) (hwy:aO ops ef jy tyy=true) (hja:al.contains jy=false) (hLy:atI L jy=py) (hNo:iY al ef L) (hli:lD n ops l L ef li) (hx:evL li x=some (.pointer (some ⟨B,jx,none⟩)))
  (hO:O[j]?=some (B,cs,U)) (hsz:∀ w,(sizeOf T).run P w = .ok m w) (hpy:∀ v w,py v w→∃ vs:List Value,v.cells=vs.toArray∧vs.length=m∧vs.all Value.oneCell'=true) (hjm:Nat.ble (jx+m) cs.length=true):SG P n ops Q l w0 K lo al ef jy (jB zc) ta (osY O j jx B cs U) (qQ G) L ef :=
 sM hal hij hi fun t0 a bs w h0 hF hG hbs hD=>by
  have hD':=jU h0 hF hD (fun j d _ hj=>hNo j hj)
  have ex:=eZ h0 hF hD' hli x _ hx
  have hy:=((hD jy tyy hwy).2.2.2 (fun h=>by rw [List.contains_iff_mem.2 h] at hja;cases hja) (fun e=>by rw [e,Nat.beq_refl] at hij;cases hij)).here
  rw [hLy] at hy
  obtain ⟨vs,hc,hl,h1⟩:=hpy _ _ hy
  have hcl:(a.eval (.tmp tyy)).cells.toList=vs:=by rw [hc]
  have hOk:(OE (jB zc) ta (osY O j jx B cs U) ⟨none,bs⟩)[bs.length+j]?=some (B,cs,U):=by
   unfold OE
   rw [List.getElem?_append_right (by simp)]
   simpa [osY] using hO
  have hXB:XB (OE (jB zc) ta (osY O j jx B cs U) ⟨none,bs⟩) (qQ G none) B:=.inl ⟨_,List.mem_of_getElem? hOk,rfl⟩
  have hrun:=iC (P:=P) hsz hc hl h1 (hG.1.at_ _ hOk) (j:=jx) (Nat.le_of_ble_eq_true hjm)
  have hO':OE (jB zc) ta (osY O j jx B cs U) ⟨some (a.eval (.tmp tyy)),bs⟩=(OE (jB zc) ta (osY O j jx B cs U) ⟨none,bs⟩).set (bs.length+j) (B,cA cs jx vs,U):=by
   unfold OE
   rw [List.set_append_right _ _ (by simp)]
   congr 1
   simp [osY,hcl]
  refine mK hi rfl rfl rfl (by rw [ex];exact hrun) ⟨undef,a.eval (.tmp tyy),rfl,(fun d hd=>by cases hd),?_,gP hXB,?_,fun d hd=>?_⟩
  ·rw [hO']
   exact hG.1.setMany _ vs jx hOk
  ·rintro b (⟨p,hp,rfl⟩ | h)
   ·rw [hO'] at hp
    rcases List.mem_or_eq_of_mem_set hp with hp | rfl
    ·exact .inl (.inl ⟨p,hp,rfl⟩)
    ·exact .inl hXB
   ·exact .inl (.inr h)
  ·rw [hjy] at hd;cases hd;rfl
end
section
variable {P:Program} {n:Nat} {Q:Exit→Act→World→Prop} {l:Fr} {w0 W:World} {ops:Array Oper} {os:List Oper} {K:List (Nat×World)} {L:List Asr} {i:Nat}
variable {al:List Nat} {ca:Nat→Option Value→List Value} {ta:Nat→TypeId} {Os:Option Value→Own} {Gs:Option Value→aU} {lo ef jy:Nat} {s:Sg}
variable {d:Nat} {op:Op} {ty:TypeId} {pos:String} {aft_:Array Edge} {v:Value} {gd:Option (Nat×Bool)}
end
theorem cR (w:World) (b o:Nat):(Instr.fieldAt 24 (.pointer (some ⟨b,o,none⟩)) 0).run prog w = .ok (.pointer (some ⟨b,o+0,none⟩)) w:=by
 simp [Instr.fieldAt,run_underlying underlying24,Instr.sureAddr,go_sem,Addr.add_lit]
theorem dQ (w:World) (b o:Nat):(Instr.fieldAt 24 (.pointer (some ⟨b,o,none⟩)) 1).run prog w = .ok (.pointer (some ⟨b,o+1,none⟩)) w:=by
 simp [Instr.fieldAt,run_underlying underlying24,Instr.sureAddr,go_sem,Addr.add_lit]
theorem dG (w:World) (b o:Nat):(Instr.fieldAt 24 (.pointer (some ⟨b,o,none⟩)) 2).run prog w = .ok (.pointer (some ⟨b,o+2,none⟩)) w:=by
 simp [Instr.fieldAt,run_underlying underlying24,Instr.sureAddr,go_sem,Addr.add_lit]
theorem eA (w:World) (b o:Nat):(Instr.fieldAt 24 (.pointer (some ⟨b,o,none⟩)) 3).run prog w = .ok (.pointer (some ⟨b,o+3,none⟩)) w:=by
 simp [Instr.fieldAt,run_underlying underlying24,Instr.sureAddr,go_sem,Addr.add_lit]
theorem cJ (w:World) (b o:Nat):(Instr.fieldAt 24 (.pointer (some ⟨b,o,none⟩)) 4).run prog w = .ok (.pointer (some ⟨b,o+4,none⟩)) w:=by
 simp [Instr.fieldAt,run_underlying underlying24,Instr.sureAddr,go_sem,Addr.add_lit]
theorem cD (w:World) (b o:Nat):(Instr.fieldAt 57 (.pointer (some ⟨b,o,none⟩)) 0).run prog w = .ok (.pointer (some ⟨b,o+0,none⟩)) w:=by
 simp [Instr.fieldAt,run_underlying underlying57,Instr.sureAddr,go_sem,Addr.add_lit]
theorem cS (w:World) (b o:Nat):(Instr.fieldAt 57 (.pointer (some ⟨b,o,none⟩)) 1).run prog w = .ok (.pointer (some ⟨b,o+1,none⟩)) w:=by
 simp [Instr.fieldAt,run_underlying underlying57,Instr.sureAddr,go_sem,Addr.add_lit]
theorem cU (w:World) (b o:Nat):(Instr.fieldAt 57 (.pointer (some ⟨b,o,none⟩)) 2).run prog w = .ok (.pointer (some ⟨b,o+2,none⟩)) w:=by
 simp [Instr.fieldAt,run_underlying underlying57,Instr.sureAddr,go_sem,Addr.add_lit]
theorem pK:bA prog 13=true:=by kernel_rfl
theorem jF:bA prog 32=true:=by kernel_rfl
theorem iJ:bA prog 33=true:=by kernel_rfl
structure NfV where
 st:Int
 sy:Int
 s0:Int
 e0:Int
 aa:Option Addr
 al:Nat
 ac:Nat
 ar:List ArV
abbrev NfV.cells (a:NfV):List Value:=[.int .i64 a.st,.int .i64 a.sy,.int .i64 a.s0,.int .i64 a.e0,.slice a.aa a.al a.ac]
abbrev NfV.val (a:NfV):Value:=.agg #[.int .i64 a.st,.int .i64 a.sy,.int .i64 a.s0,.int .i64 a.e0,.slice a.aa a.al a.ac]
abbrev ArV.three (t:ArV):List Value:=[.int .i64 t.f,.int .i64 t.s,.int .i64 t.q]
def iW (w:World) (a:Option Addr) (rs:List ArV):Prop:=∀ (i:Nat) r,rs[i]?=some r→∃ b off,a=some ⟨b,off,none⟩∧aK w b (off+i * 3) r.three
theorem iW.below {w w':World} {a:Option Addr} {rs:List ArV} (h:iW w a rs) (hb:Below w.heap.size w w'):iW w' a rs:=fun i r hi=>by
 obtain ⟨b,off,e,hc⟩:=h i r hi
 exact ⟨b,off,e,aK.agree (aW hb 0) (Nat.zero_le _) hc⟩
structure NIn (w:World) (a:NfV):Prop where
 arow:iW w a.aa a.ar
 alen:a.ar.length=a.al
 amax:a.al≤9223372036854775807
theorem NIn.below {w w':World} {a:NfV} (h:NIn w a) (hb:Below w.heap.size w w'):NIn w' a:=⟨h.arow.below hb,h.alen,h.amax⟩
def arB (n k:Int) (t:ArV):Bool:=inQ t.f n && (inQ t.q n && (decide (-2≤t.s) && decide (t.s < k)))
def cO (a:NfV):Int:=if 65536 < a.al then 3 else if a.st < 1∨4096 < a.st∨a.sy < 0∨4096 < a.sy then 81 else if inQ a.s0 a.st=true∧inQ a.e0 a.st=true then (if a.ar.all (arB a.st a.sy)=true then 0 else 81) else 81
theorem jG {a:NfV} (h:cO a=0):∃ n k s e:Nat,a.st=(n:Int)∧a.sy=(k:Int)∧a.s0=(s:Int)∧a.e0=(e:Int)∧1≤n∧n≤4096∧k≤4096∧s < n∧e < n∧a.al≤65536∧dX n (k:Int) a.ar:=by
 unfold cO at h
 split at h
 ·cases h
 ·split at h
  ·cases h
  ·split at h
   ·split at h
    ·rename_i h1 h2 h3 h4
     unfold inQ at h3
     simp only [Bool.and_eq_true,decide_eq_true_eq] at h3
     refine ⟨a.st.toNat,a.sy.toNat,a.s0.toNat,a.e0.toNat,by omega,by omega,by omega,by omega,by omega,by omega,by omega,by omega,by omega,by omega,fun t ht=>?_⟩
     have h5:=List.all_eq_true.1 h4 t ht
     unfold arB inQ at h5
     simp only [Bool.and_eq_true,decide_eq_true_eq] at h5
     omega
    ·cases h
   ·cases h
theorem eU (a:NfV) (x:Int) (w:World) :
  Calls prog 32 #[a.val,.int .i64 x] w (fun e w'=>e = .returned (.bool (inQ x a.st))∧Below w.heap.size w w'):=by
 refine bH (args:=[a.val,.int .i64 x]) func32 rfl ntmps32 rfl ?_
 have hS:=St.start w
 refine aF (aH (bZ (cs:=[_,_,_,_,_]) hS rfl rfl rfl fun B1 W1 hS=>aB rfl rfl (aG (XF.thenN (aF (aH (aA rfl rfl (eI rfl rfl rfl (aA rfl rfl (aZ (d:=7) rfl (fun hc=>?_) (fun hc=>?_)))))))))))
 ·have hg7:=of_decide_eq_true hc;clear hc
  refine aC (d:=7) rfl rfl (aA rfl rfl (aC (d:=7) rfl rfl (aI (o':=0) cR rfl rfl rfl (aC (d:=7) rfl rfl (aJ isAgg3 rfl (aD (hS.at_ 0 rfl) rfl) rfl (aC (d:=7) rfl rfl (bB rfl rfl rfl (aN rfl rfl rfl (aB rfl rfl (aG (XF.thenN (bK (XF.res (bT results32 rfl) ?_)))))))))))))
  exact ⟨eJ (by unfold inQ;rw [decide_eq_true (show (0:Int)≤x from hg7)];rfl),hS.below⟩
 ·have hg7:=of_decide_eq_false hc;clear hc
  refine aE (d:=7) rfl rfl rfl rfl (aE (d:=7) rfl rfl rfl rfl (aE (d:=7) rfl rfl rfl rfl (aE (d:=7) rfl rfl rfl rfl (aR rfl rfl rfl (aB rfl rfl (aG (XF.thenN (bK (XF.res (bT results32 rfl) ?_)))))))))
  exact ⟨eJ (by unfold inQ;rw [decide_eq_false (show ¬ (0:Int)≤x from hg7)];rfl),hS.below⟩
theorem qV (a:NfV) (x:Int) (w:World) :
  Calls prog 29 #[a.val,.int .i64 x] w (fun e w'=>e = .returned (.bool (inQ x a.sy))∧Below w.heap.size w w'):=by
 refine bH (args:=[a.val,.int .i64 x]) func29 rfl ntmps29 rfl ?_
 have hS:=St.start w
 refine aF (aH (bZ (cs:=[_,_,_,_,_]) hS rfl rfl rfl fun B1 W1 hS=>aB rfl rfl (aG (XF.thenN (aF (aH (aA rfl rfl (eI rfl rfl rfl (aA rfl rfl (aZ (d:=7) rfl (fun hc=>?_) (fun hc=>?_)))))))))))
 ·have hg7:=of_decide_eq_true hc;clear hc
  refine aC (d:=7) rfl rfl (aA rfl rfl (aC (d:=7) rfl rfl (aI (o':=1) dQ rfl rfl rfl (aC (d:=7) rfl rfl (aJ isAgg3 rfl (aD (hS.at_ 0 rfl) rfl) rfl (aC (d:=7) rfl rfl (bB rfl rfl rfl (aN rfl rfl rfl (aB rfl rfl (aG (XF.thenN (bK (XF.res (bT results29 rfl) ?_)))))))))))))
  exact ⟨eJ (by unfold inQ;rw [decide_eq_true (show (0:Int)≤x from hg7)];rfl),hS.below⟩
 ·have hg7:=of_decide_eq_false hc;clear hc
  refine aE (d:=7) rfl rfl rfl rfl (aE (d:=7) rfl rfl rfl rfl (aE (d:=7) rfl rfl rfl rfl (aE (d:=7) rfl rfl rfl rfl (aR rfl rfl rfl (aB rfl rfl (aG (XF.thenN (bK (XF.res (bT results29 rfl) ?_)))))))))
  exact ⟨eJ (by unfold inQ;rw [decide_eq_false (show ¬ (0:Int)≤x from hg7)];rfl),hS.below⟩
theorem fC (a:NfV) (x:Int) (w:World) :
  Calls prog 33 #[a.val,.int .i64 x] w (fun e w'=>e = .returned (.bool (inQ x a.st))∧Below w.heap.size w w'):=by
 refine bH (args:=[a.val,.int .i64 x]) func33 rfl ntmps33 rfl ?_
 have hS:=St.start w
 refine aF (aH (bZ (cs:=[_,_,_,_,_]) hS rfl rfl rfl fun B1 W1 hS=>aB rfl rfl (aG (XF.thenN (aF (aH (aA rfl rfl (eI rfl rfl rfl (aA rfl rfl (aZ (d:=7) rfl (fun hc=>?_) (fun hc=>?_)))))))))))
 ·have hg7:=of_decide_eq_true hc;clear hc
  refine aC (d:=7) rfl rfl (aA rfl rfl (aC (d:=7) rfl rfl (aI (o':=0) cR rfl rfl rfl (aC (d:=7) rfl rfl (aJ isAgg3 rfl (aD (hS.at_ 0 rfl) rfl) rfl (aC (d:=7) rfl rfl (bB rfl rfl rfl (aN rfl rfl rfl (aB rfl rfl (aG (XF.thenN (bK (XF.res (bT results33 rfl) ?_)))))))))))))
  exact ⟨eJ (by unfold inQ;rw [decide_eq_true (show (0:Int)≤x from hg7)];rfl),hS.below⟩
 ·have hg7:=of_decide_eq_false hc;clear hc
  refine aE (d:=7) rfl rfl rfl rfl (aE (d:=7) rfl rfl rfl rfl (aE (d:=7) rfl rfl rfl rfl (aE (d:=7) rfl rfl rfl rfl (aR rfl rfl rfl (aB rfl rfl (aG (XF.thenN (bK (XF.res (bT results33 rfl) ?_)))))))))
  exact ⟨eJ (by unfold inQ;rw [decide_eq_false (show ¬ (0:Int)≤x from hg7)];rfl),hS.below⟩
theorem pL (a:NfV) (w:World) (hA:NIn w a) :
  Calls prog 13 #[a.val] w (fun e w'=>e = .returned (.int .i64 (cO a))∧Below w.heap.size w w'):=by
 refine bH (args:=[a.val]) func13 rfl ntmps13 rfl ?_
 have hS:=St.start w
 refine aF (aH (bZ (cs:=[_,_,_,_,_]) hS rfl rfl rfl fun B1 W1 hS=>aB rfl rfl (aG (XF.thenN (aF (aF (aH (aI (o':=4) cJ rfl rfl rfl (aJ isAgg22 rfl (aD (hS.at_ 0 rfl) rfl) rfl (bN underlying22 rfl rfl (dA rfl rfl rfl (aG (XF.thenN (aV rfl (fun hc=>?_) (fun hc=>?_)))))))))))))))
 ·have hc8:=of_decide_eq_true hc;clear hc
  refine aF (aH (aB rfl rfl (aG (XF.thenN (bK (XF.thenR (XF.res (bT results13 rfl) ?_)))))))
  exact ⟨dW (by unfold cO;rw [if_pos (by omega)]),hS.below⟩
 ·have hc8:=of_decide_eq_false hc;clear hc
  have h1:¬ 65536 < a.al:=by omega
  refine aP (XF.thenN (aF (aF (aH (aI (o':=0) cR rfl rfl rfl (aJ isAgg3 rfl (aD (hS.at_ 0 rfl) rfl) rfl (bB rfl rfl rfl (aA rfl rfl (aZ (d:=12) rfl (fun hc=>?_) (fun hc=>?_))))))))))
  ·have hg12:=of_decide_eq_true hc;clear hc
   refine aE (d:=12) rfl rfl rfl rfl (aE (d:=12) rfl rfl rfl rfl (aE (d:=12) rfl rfl rfl rfl (aN rfl rfl rfl (aA rfl rfl (aE (d:=17) rfl rfl rfl rfl (aE (d:=17) rfl rfl rfl rfl (aE (d:=17) rfl rfl rfl rfl (aN rfl rfl rfl (aA rfl rfl (aE (d:=22) rfl rfl rfl rfl (aE (d:=22) rfl rfl rfl rfl (aE (d:=22) rfl rfl rfl rfl (aN rfl rfl rfl (aG (XF.thenN (cF rfl (aF (aH (aB rfl rfl (aG (XF.thenN (bK (XF.thenR (XF.res (bT results13 rfl) ?_))))))))))))))))))))))))
   exact ⟨dW (by unfold cO;rw [if_neg h1,if_pos (by omega)]),hS.below⟩
  ·have hg12:=of_decide_eq_false hc;clear hc
   refine aC (d:=12) rfl rfl (aI (o':=0) cR rfl rfl rfl (aC (d:=12) rfl rfl (aJ isAgg3 rfl (aD (hS.at_ 0 rfl) rfl) rfl (aC (d:=12) rfl rfl (dA rfl rfl rfl (aR rfl rfl rfl (aA rfl rfl (aZ (d:=17) rfl (fun hc=>?_) (fun hc=>?_)))))))))
   ·have hg17:=of_decide_eq_true hc;clear hc
    refine aE (d:=17) rfl rfl rfl rfl (aE (d:=17) rfl rfl rfl rfl (aE (d:=17) rfl rfl rfl rfl (aN rfl rfl rfl (aA rfl rfl (aE (d:=22) rfl rfl rfl rfl (aE (d:=22) rfl rfl rfl rfl (aE (d:=22) rfl rfl rfl rfl (aN rfl rfl rfl (aG (XF.thenN (cF rfl (aF (aH (aB rfl rfl (aG (XF.thenN (bK (XF.thenR (XF.res (bT results13 rfl) ?_)))))))))))))))))))
    exact ⟨dW (by unfold cO;rw [if_neg h1,if_pos (by omega)]),hS.below⟩
   ·have hg17:=of_decide_eq_false hc;clear hc
    refine aC (d:=17) rfl rfl (aI (o':=1) dQ rfl rfl rfl (aC (d:=17) rfl rfl (aJ isAgg3 rfl (aD (hS.at_ 0 rfl) rfl) rfl (aC (d:=17) rfl rfl (bB rfl rfl rfl (aR rfl rfl rfl (aA rfl rfl (aZ (d:=22) rfl (fun hc=>?_) (fun hc=>?_)))))))))
    ·have hg22:=of_decide_eq_true hc;clear hc
     refine aE (d:=22) rfl rfl rfl rfl (aE (d:=22) rfl rfl rfl rfl (aE (d:=22) rfl rfl rfl rfl (aN rfl rfl rfl (aG (XF.thenN (cF rfl (aF (aH (aB rfl rfl (aG (XF.thenN (bK (XF.thenR (XF.res (bT results13 rfl) ?_))))))))))))))
     exact ⟨dW (by unfold cO;rw [if_neg h1,if_pos (by omega)]),hS.below⟩
    ·have hg22:=of_decide_eq_false hc;clear hc
     refine aC (d:=22) rfl rfl (aI (o':=1) dQ rfl rfl rfl (aC (d:=22) rfl rfl (aJ isAgg3 rfl (aD (hS.at_ 0 rfl) rfl) rfl (aC (d:=22) rfl rfl (dA rfl rfl rfl (aR rfl rfl rfl (aG (XF.thenN (aV rfl (fun hc=>?_) (fun hc=>?_))))))))))
     ·have hc26:=of_decide_eq_true hc;clear hc
      refine aF (aH (aB rfl rfl (aG (XF.thenN (bK (XF.thenR (XF.res (bT results13 rfl) ?_)))))))
      exact ⟨dW (by unfold cO;rw [if_neg h1,if_pos (by omega)]),hS.below⟩
     ·have hc26:=of_decide_eq_false hc;clear hc
      have h2:¬ (a.st < 1∨4096 < a.st∨a.sy < 0∨4096 < a.sy):=by omega
      refine aP (XF.thenN (aF (aF (aH (aQ (vs:=[_,_,_,_,_]) isAgg24 sizeOf24 rfl (aK.own (j:=0) (m:=5) (hS.at_ 0 rfl) rfl) rfl (aI (o':=2) dG rfl rfl rfl (aJ isAgg3 rfl (aD (hS.at_ 0 rfl) rfl) rfl (bW (vs:=[_,_]) hS jF rfl (eU a a.s0 _) rfl fun W2 hS=>cW rfl rfl (aA rfl rfl (aZ (d:=32) rfl (fun hc=>?_) (fun hc=>?_)))))))))))
      ·have hg32:=hc;clear hc
       refine aE (d:=32) rfl rfl rfl rfl (aE (d:=32) rfl rfl rfl rfl (aE (d:=32) rfl rfl rfl rfl (aE (d:=32) rfl rfl rfl rfl (aE (d:=32) rfl rfl rfl rfl (aN rfl rfl rfl (aG (XF.thenN (cF rfl (aF (aH (aB rfl rfl (aG (XF.thenN (bK (XF.thenR (XF.res (bT results13 rfl) ?_))))))))))))))))
       exact ⟨dW (by unfold cO;rw [if_neg h1,if_neg h2,if_neg (by simp at *;simp [*])]),hS.below⟩
      ·have hg32:=hc;clear hc
       refine aC (d:=32) rfl rfl (aQ (vs:=[_,_,_,_,_]) isAgg24 sizeOf24 rfl (aK.own (j:=0) (m:=5) (hS.at_ 0 rfl) rfl) rfl (aC (d:=32) rfl rfl (aI (o':=3) eA rfl rfl rfl (aC (d:=32) rfl rfl (aJ isAgg3 rfl (aD (hS.at_ 0 rfl) rfl) rfl (aC (d:=32) rfl rfl (bW (vs:=[_,_]) hS jF rfl (eU a a.e0 _) rfl fun W3 hS=>aC (d:=32) rfl rfl (cW rfl rfl (aR rfl rfl rfl (aG (XF.thenN (aV rfl (fun hc=>?_) (fun hc=>?_)))))))))))))
       ·have hc38:=hc;clear hc
        refine aF (aH (aB rfl rfl (aG (XF.thenN (bK (XF.thenR (XF.res (bT results13 rfl) ?_)))))))
        exact ⟨dW (by unfold cO;rw [if_neg h1,if_neg h2,if_neg (by simp at *;simp [*])]),hS.below⟩
       ·have hc38:=hc;clear hc
        have h3:inQ a.s0 a.st=true∧inQ a.e0 a.st=true:=by simp at *;simp [*]
        refine aP (XF.thenN (aF (aF (aH (aI (o':=4) cJ rfl rfl rfl (aJ isAgg22 rfl (aD (hS.at_ 0 rfl) rfl) rfl (bN underlying22 rfl rfl (aA rfl rfl (aG (XF.thenN (aM (cB (fun m l W=>∃ i:Nat,i≤a.al∧m=a.al - i∧l=[(1,.pointer (some ⟨B1,0,none⟩)),(40,.slice a.aa a.al a.ac),(41,.int .i64 (a.al:Int)),(42,.int .i64 (i:Int))]∧(a.ar.take i).all (arB a.st a.sy)=true∧St w [(B1,a.cells,24)] [] [] W) (a.al - 0) ([(1,_),(40,_),(41,_),(42,_)]) ⟨rfl,rfl,rfl,rfl,trivial⟩ (⟨0,Nat.zero_le _,rfl,rfl,rfl,hS.clear⟩) ?_))))))))))))
        clear hS
        rintro m l W ⟨i,hi,rfl,rfl,hall,hS⟩
        refine aF (aH (bB rfl rfl rfl (aG (XF.thenN (aF (aV rfl (fun hc=>?_) (fun hc=>?_)))))))
        ·have hc43:=of_decide_eq_true hc;clear hc
         obtain ⟨t,ht⟩:∃ t,a.ar[i]?=some t:=⟨_,List.getElem?_eq_getElem (by have:=hA.alen;omega)⟩
         obtain ⟨b,off,haa,hcs⟩:=hA.arow i t ht
         have k1:=aK.agree hS.agree (Nat.zero_le _) hcs
         refine aP (XF.thenN (aF (aM (aF (aH ?_)))))
         refine aL (j:=i) (b:=b) (o:=off) (m:=a.al) (c:=a.ac) underlying22 sizeOf57 (by show some (Value.slice _ _ _)=_;rw [haa]) rfl rfl (by omega) rfl rfl ?_
         refine aQ (vs:=[_,_,_]) isAgg57 sizeOf57 rfl k1 rfl (bP (cs:=[_,_,_]) hS zeroValue57 rfl rfl fun B4 W4 hS=>bO (i:=0) (vs:=[_,_,_]) (cs':=[_,_,_]) (O':=[_,_]) hS sizeOf57 rfl rfl rfl rfl rfl rfl rfl fun W5 hS=>aG (XF.thenN (aF (aH (aQ (vs:=[_,_,_,_,_]) isAgg24 sizeOf24 rfl (aK.own (j:=0) (m:=5) (hS.at_ 1 rfl) rfl) rfl (aI (o':=0) cD rfl rfl rfl (aJ isAgg3 rfl (aD (hS.at_ 0 rfl) rfl) rfl (bW (vs:=[_,_]) hS jF rfl (eU a t.f _) rfl fun W6 hS=>cW rfl rfl (aA rfl rfl (aZ (d:=51) rfl (fun hc=>?_) (fun hc=>?_)))))))))))
         ·have hg51:=hc;clear hc
          refine aE (d:=51) rfl rfl rfl rfl (aE (d:=51) rfl rfl rfl rfl (aE (d:=51) rfl rfl rfl rfl (aE (d:=51) rfl rfl rfl rfl (aE (d:=51) rfl rfl rfl rfl (aN rfl rfl rfl (aA rfl rfl (aE (d:=58) rfl rfl rfl rfl (aE (d:=58) rfl rfl rfl rfl (aE (d:=58) rfl rfl rfl rfl (aN rfl rfl rfl (aA rfl rfl (aE (d:=63) rfl rfl rfl rfl (aE (d:=63) rfl rfl rfl rfl (aE (d:=63) rfl rfl rfl rfl (aE (d:=63) rfl rfl rfl rfl (aE (d:=63) rfl rfl rfl rfl (aN rfl rfl rfl (aG (XF.thenN (cF rfl (aF (aH (aB rfl rfl (aG (XF.thenN (bK (XF.blkR (XF.thenR (XF.thenR (XF.blkR (XF.thenR (XF.res (bT results13 rfl) ?_))))))))))))))))))))))))))))))))
          exact ⟨dW (by unfold cO;rw [if_neg h1,if_neg h2,if_pos h3,if_neg (by rw [cC ht (by unfold arB;simp at *;simp [*];try omega)];decide)]),hS.below⟩
         ·have hg51:=hc;clear hc
          refine aC (d:=51) rfl rfl (aQ (vs:=[_,_,_,_,_]) isAgg24 sizeOf24 rfl (aK.own (j:=0) (m:=5) (hS.at_ 1 rfl) rfl) rfl (aC (d:=51) rfl rfl (aI (o':=2) cU rfl rfl rfl (aC (d:=51) rfl rfl (aJ isAgg3 rfl (aD (hS.at_ 0 rfl) rfl) rfl (aC (d:=51) rfl rfl (bW (vs:=[_,_]) hS jF rfl (eU a t.q _) rfl fun W7 hS=>aC (d:=51) rfl rfl (cW rfl rfl (aR rfl rfl rfl (aA rfl rfl (aZ (d:=58) rfl (fun hc=>?_) (fun hc=>?_))))))))))))
          ·have hg58:=hc;clear hc
           refine aE (d:=58) rfl rfl rfl rfl (aE (d:=58) rfl rfl rfl rfl (aE (d:=58) rfl rfl rfl rfl (aN rfl rfl rfl (aA rfl rfl (aE (d:=63) rfl rfl rfl rfl (aE (d:=63) rfl rfl rfl rfl (aE (d:=63) rfl rfl rfl rfl (aE (d:=63) rfl rfl rfl rfl (aE (d:=63) rfl rfl rfl rfl (aN rfl rfl rfl (aG (XF.thenN (cF rfl (aF (aH (aB rfl rfl (aG (XF.thenN (bK (XF.blkR (XF.thenR (XF.thenR (XF.blkR (XF.thenR (XF.res (bT results13 rfl) ?_)))))))))))))))))))))))))
           exact ⟨dW (by unfold cO;rw [if_neg h1,if_neg h2,if_pos h3,if_neg (by rw [cC ht (by unfold arB;simp at *;simp [*];try omega)];decide)]),hS.below⟩
          ·have hg58:=hc;clear hc
           refine aC (d:=58) rfl rfl (aI (o':=1) cS rfl rfl rfl (aC (d:=58) rfl rfl (aJ isAgg3 rfl (aD (hS.at_ 0 rfl) rfl) rfl (aC (d:=58) rfl rfl (bB rfl rfl rfl (aR rfl rfl rfl (aA rfl rfl (aZ (d:=63) rfl (fun hc=>?_) (fun hc=>?_)))))))))
           ·have hg63:=of_decide_eq_true hc;clear hc
            refine aE (d:=63) rfl rfl rfl rfl (aE (d:=63) rfl rfl rfl rfl (aE (d:=63) rfl rfl rfl rfl (aE (d:=63) rfl rfl rfl rfl (aE (d:=63) rfl rfl rfl rfl (aN rfl rfl rfl (aG (XF.thenN (cF rfl (aF (aH (aB rfl rfl (aG (XF.thenN (bK (XF.blkR (XF.thenR (XF.thenR (XF.blkR (XF.thenR (XF.res (bT results13 rfl) ?_))))))))))))))))))))
            exact ⟨dW (by unfold cO;rw [if_neg h1,if_neg h2,if_pos h3,if_neg (by rw [cC ht (by unfold arB;simp at *;simp [*];try omega)];decide)]),hS.below⟩
           ·have hg63:=of_decide_eq_false hc;clear hc
            refine aC (d:=63) rfl rfl (aI (o':=1) cS rfl rfl rfl (aC (d:=63) rfl rfl (aJ isAgg3 rfl (aD (hS.at_ 0 rfl) rfl) rfl (aC (d:=63) rfl rfl (aI (o':=1) dQ rfl rfl rfl (aC (d:=63) rfl rfl (aJ isAgg3 rfl (aD (hS.at_ 1 rfl) rfl) rfl (aC (d:=63) rfl rfl (eI rfl rfl rfl (aR rfl rfl rfl (aG (XF.thenN (aV rfl (fun hc=>?_) (fun hc=>?_))))))))))))))
            ·have hc69:=of_decide_eq_true hc;clear hc
             refine aF (aH (aB rfl rfl (aG (XF.thenN (bK (XF.blkR (XF.thenR (XF.thenR (XF.blkR (XF.thenR (XF.res (bT results13 rfl) ?_)))))))))))
             exact ⟨dW (by unfold cO;rw [if_neg h1,if_neg h2,if_pos h3,if_neg (by rw [cC ht (by unfold arB;simp at *;simp [*];try omega)];decide)]),hS.below⟩
            ·have hc69:=of_decide_eq_false hc;clear hc
             refine aP (XF.blkN (XF.thenN (aH (aS rfl rfl (IntWalk.i64_in _ (by omega)) rfl (aA rfl rfl (aG ?_))))))
             exact XF.round (a.al - (i+1)) [(1,_),(40,_),(41,_),(42,_)] (by omega) ⟨rfl,rfl,rfl,rfl,trivial⟩ ⟨i+1,by omega,rfl,rfl,eH ht hall (by unfold arB;simp at *;simp [*];try omega),hS.tail.clear⟩
        ·have hc43:=of_decide_eq_false hc;clear hc
         rw [List.take_of_length_le (by have:=hA.alen;omega)] at hall
         refine bS (XF.thenX (XF.thenX (XF.blkX (XF.thenN (aF (aH (aB rfl rfl (aG (XF.thenN (bK (XF.res (bT results13 rfl) ?_)))))))))))
         exact ⟨dW (by unfold cO;rw [if_neg h1,if_neg h2,if_pos h3,if_pos hall]),hS.below⟩
theorem pM (a:NfV) (w:World) (hA:NIn w a) :
  Calls prog 14 #[a.val] w (fun e w'=>e = .returned (.int .i64 (cO a))∧Below w.heap.size w w'):=by
 refine bH (args:=[a.val]) func14 rfl ntmps14 rfl ?_
 have hS:=St.start w
 refine aF (aH (bZ (cs:=[_,_,_,_,_]) hS rfl rfl rfl fun B1 W1 hS=>aB rfl rfl (aG (XF.thenN (aF (aF (aH (aI (o':=4) cJ rfl rfl rfl (aJ isAgg22 rfl (aD (hS.at_ 0 rfl) rfl) rfl (bN underlying22 rfl rfl (dA rfl rfl rfl (aG (XF.thenN (aV rfl (fun hc=>?_) (fun hc=>?_)))))))))))))))
 ·have hc8:=of_decide_eq_true hc;clear hc
  refine aF (aH (aB rfl rfl (aG (XF.thenN (bK (XF.thenR (XF.res (bT results14 rfl) ?_)))))))
  exact ⟨dW (by unfold cO;rw [if_pos (by omega)]),hS.below⟩
 ·have hc8:=of_decide_eq_false hc;clear hc
  have h1:¬ 65536 < a.al:=by omega
  refine aP (XF.thenN (aF (aF (aH (aI (o':=0) cR rfl rfl rfl (aJ isAgg3 rfl (aD (hS.at_ 0 rfl) rfl) rfl (bB rfl rfl rfl (aA rfl rfl (aZ (d:=12) rfl (fun hc=>?_) (fun hc=>?_))))))))))
  ·have hg12:=of_decide_eq_true hc;clear hc
   refine aE (d:=12) rfl rfl rfl rfl (aE (d:=12) rfl rfl rfl rfl (aE (d:=12) rfl rfl rfl rfl (aN rfl rfl rfl (aA rfl rfl (aE (d:=17) rfl rfl rfl rfl (aE (d:=17) rfl rfl rfl rfl (aE (d:=17) rfl rfl rfl rfl (aN rfl rfl rfl (aA rfl rfl (aE (d:=22) rfl rfl rfl rfl (aE (d:=22) rfl rfl rfl rfl (aE (d:=22) rfl rfl rfl rfl (aN rfl rfl rfl (aA rfl rfl (aE (d:=27) rfl rfl rfl rfl (aE (d:=27) rfl rfl rfl rfl (aE (d:=27) rfl rfl rfl rfl (aE (d:=27) rfl rfl rfl rfl (aE (d:=27) rfl rfl rfl rfl (aN rfl rfl rfl (aA rfl rfl (aE (d:=34) rfl rfl rfl rfl (aE (d:=34) rfl rfl rfl rfl (aE (d:=34) rfl rfl rfl rfl (aE (d:=34) rfl rfl rfl rfl (aE (d:=34) rfl rfl rfl rfl (aN rfl rfl rfl (aG (XF.thenN (cF rfl (aF (aH (aB rfl rfl (aG (XF.thenN ?_)))))))))))))))))))))))))))))))))))
   refine bK (XF.thenR (XF.res (bT results14 rfl) ?_))
   exact ⟨dW (by unfold cO;rw [if_neg h1,if_pos (by omega)]),hS.below⟩
  ·have hg12:=of_decide_eq_false hc;clear hc
   refine aC (d:=12) rfl rfl (aI (o':=0) cR rfl rfl rfl (aC (d:=12) rfl rfl (aJ isAgg3 rfl (aD (hS.at_ 0 rfl) rfl) rfl (aC (d:=12) rfl rfl (dA rfl rfl rfl (aR rfl rfl rfl (aA rfl rfl (aZ (d:=17) rfl (fun hc=>?_) (fun hc=>?_)))))))))
   ·have hg17:=of_decide_eq_true hc;clear hc
    refine aE (d:=17) rfl rfl rfl rfl (aE (d:=17) rfl rfl rfl rfl (aE (d:=17) rfl rfl rfl rfl (aN rfl rfl rfl (aA rfl rfl (aE (d:=22) rfl rfl rfl rfl (aE (d:=22) rfl rfl rfl rfl (aE (d:=22) rfl rfl rfl rfl (aN rfl rfl rfl (aA rfl rfl (aE (d:=27) rfl rfl rfl rfl (aE (d:=27) rfl rfl rfl rfl (aE (d:=27) rfl rfl rfl rfl (aE (d:=27) rfl rfl rfl rfl (aE (d:=27) rfl rfl rfl rfl (aN rfl rfl rfl (aA rfl rfl (aE (d:=34) rfl rfl rfl rfl (aE (d:=34) rfl rfl rfl rfl (aE (d:=34) rfl rfl rfl rfl (aE (d:=34) rfl rfl rfl rfl (aE (d:=34) rfl rfl rfl rfl (aN rfl rfl rfl (aG (XF.thenN (cF rfl (aF (aH (aB rfl rfl (aG (XF.thenN (bK (XF.thenR (XF.res (bT results14 rfl) ?_)))))))))))))))))))))))))))))))))
    exact ⟨dW (by unfold cO;rw [if_neg h1,if_pos (by omega)]),hS.below⟩
   ·have hg17:=of_decide_eq_false hc;clear hc
    refine aC (d:=17) rfl rfl (aI (o':=1) dQ rfl rfl rfl (aC (d:=17) rfl rfl (aJ isAgg3 rfl (aD (hS.at_ 0 rfl) rfl) rfl (aC (d:=17) rfl rfl (bB rfl rfl rfl (aR rfl rfl rfl (aA rfl rfl (aZ (d:=22) rfl (fun hc=>?_) (fun hc=>?_)))))))))
    ·have hg22:=of_decide_eq_true hc;clear hc
     refine aE (d:=22) rfl rfl rfl rfl (aE (d:=22) rfl rfl rfl rfl (aE (d:=22) rfl rfl rfl rfl (aN rfl rfl rfl (aA rfl rfl (aE (d:=27) rfl rfl rfl rfl (aE (d:=27) rfl rfl rfl rfl (aE (d:=27) rfl rfl rfl rfl (aE (d:=27) rfl rfl rfl rfl (aE (d:=27) rfl rfl rfl rfl (aN rfl rfl rfl (aA rfl rfl (aE (d:=34) rfl rfl rfl rfl (aE (d:=34) rfl rfl rfl rfl (aE (d:=34) rfl rfl rfl rfl (aE (d:=34) rfl rfl rfl rfl (aE (d:=34) rfl rfl rfl rfl (aN rfl rfl rfl (aG (XF.thenN (cF rfl (aF (aH (aB rfl rfl (aG (XF.thenN (bK (XF.thenR (XF.res (bT results14 rfl) ?_))))))))))))))))))))))))))))
     exact ⟨dW (by unfold cO;rw [if_neg h1,if_pos (by omega)]),hS.below⟩
    ·have hg22:=of_decide_eq_false hc;clear hc
     refine aC (d:=22) rfl rfl (aI (o':=1) dQ rfl rfl rfl (aC (d:=22) rfl rfl (aJ isAgg3 rfl (aD (hS.at_ 0 rfl) rfl) rfl (aC (d:=22) rfl rfl (dA rfl rfl rfl (aR rfl rfl rfl (aA rfl rfl (aZ (d:=27) rfl (fun hc=>?_) (fun hc=>?_)))))))))
     ·have hg27:=of_decide_eq_true hc;clear hc
      refine aE (d:=27) rfl rfl rfl rfl (aE (d:=27) rfl rfl rfl rfl (aE (d:=27) rfl rfl rfl rfl (aE (d:=27) rfl rfl rfl rfl (aE (d:=27) rfl rfl rfl rfl (aN rfl rfl rfl (aA rfl rfl (aE (d:=34) rfl rfl rfl rfl (aE (d:=34) rfl rfl rfl rfl (aE (d:=34) rfl rfl rfl rfl (aE (d:=34) rfl rfl rfl rfl (aE (d:=34) rfl rfl rfl rfl (aN rfl rfl rfl (aG (XF.thenN (cF rfl (aF (aH (aB rfl rfl (aG (XF.thenN (bK (XF.thenR (XF.res (bT results14 rfl) ?_)))))))))))))))))))))))
      exact ⟨dW (by unfold cO;rw [if_neg h1,if_pos (by omega)]),hS.below⟩
     ·have hg27:=of_decide_eq_false hc;clear hc
      have h2:¬ (a.st < 1∨4096 < a.st∨a.sy < 0∨4096 < a.sy):=by omega
      refine aC (d:=27) rfl rfl (aQ (vs:=[_,_,_,_,_]) isAgg24 sizeOf24 rfl (aK.own (j:=0) (m:=5) (hS.at_ 0 rfl) rfl) rfl (aC (d:=27) rfl rfl (aI (o':=2) dG rfl rfl rfl (aC (d:=27) rfl rfl (aJ isAgg3 rfl (aD (hS.at_ 0 rfl) rfl) rfl (aC (d:=27) rfl rfl (bW (vs:=[_,_]) hS iJ rfl (fC a a.s0 _) rfl fun W2 hS=>aC (d:=27) rfl rfl (cW rfl rfl (aR rfl rfl rfl (aA rfl rfl (aZ (d:=34) rfl (fun hc=>?_) (fun hc=>?_))))))))))))
      ·have hg34:=hc;clear hc
       refine aE (d:=34) rfl rfl rfl rfl (aE (d:=34) rfl rfl rfl rfl (aE (d:=34) rfl rfl rfl rfl (aE (d:=34) rfl rfl rfl rfl (aE (d:=34) rfl rfl rfl rfl (aN rfl rfl rfl (aG (XF.thenN (cF rfl (aF (aH (aB rfl rfl (aG (XF.thenN (bK (XF.thenR (XF.res (bT results14 rfl) ?_))))))))))))))))
       exact ⟨dW (by unfold cO;rw [if_neg h1,if_neg h2,if_neg (by simp at *;simp [*])]),hS.below⟩
      ·have hg34:=hc;clear hc
       refine aC (d:=34) rfl rfl (aQ (vs:=[_,_,_,_,_]) isAgg24 sizeOf24 rfl (aK.own (j:=0) (m:=5) (hS.at_ 0 rfl) rfl) rfl (aC (d:=34) rfl rfl (aI (o':=3) eA rfl rfl rfl (aC (d:=34) rfl rfl (aJ isAgg3 rfl (aD (hS.at_ 0 rfl) rfl) rfl (aC (d:=34) rfl rfl (bW (vs:=[_,_]) hS iJ rfl (fC a a.e0 _) rfl fun W3 hS=>aC (d:=34) rfl rfl (cW rfl rfl (aR rfl rfl rfl (aG (XF.thenN (aV rfl (fun hc=>?_) (fun hc=>?_)))))))))))))
       ·have hc40:=hc;clear hc
        refine aF (aH (aB rfl rfl (aG (XF.thenN (bK (XF.thenR (XF.res (bT results14 rfl) ?_)))))))
        exact ⟨dW (by unfold cO;rw [if_neg h1,if_neg h2,if_neg (by simp at *;simp [*])]),hS.below⟩
       ·have hc40:=hc;clear hc
        have h3:inQ a.s0 a.st=true∧inQ a.e0 a.st=true:=by simp at *;simp [*]
        refine aP (XF.thenN (aF (aF (aH (aB rfl rfl (aG (XF.thenN (aM (cB (fun m l W=>∃ i:Nat,i≤a.al∧m=a.al - i∧l=[(1,.pointer (some ⟨B1,0,none⟩)),(3,.int .i64 (i:Int))]∧(a.ar.take i).all (arB a.st a.sy)=true∧St w [(B1,a.cells,24)] [] [] W) (a.al - 0) ([(1,_),(3,_)]) ⟨rfl,rfl,trivial⟩ (⟨0,Nat.zero_le _,rfl,rfl,rfl,hS.clear⟩) ?_)))))))))
        clear hS
        rintro m l W ⟨i,hi,rfl,rfl,hall,hS⟩
        refine aF (aF (aH (aA rfl rfl (aI (o':=4) cJ rfl rfl rfl (aJ isAgg22 rfl (aD (hS.at_ 0 rfl) rfl) rfl (bN underlying22 rfl rfl (bB rfl rfl rfl (aG (XF.thenN (aV rfl (fun hc=>?_) (fun hc=>?_)))))))))))
        ·have hc45:=of_decide_eq_true hc;clear hc
         obtain ⟨t,ht⟩:∃ t,a.ar[i]?=some t:=⟨_,List.getElem?_eq_getElem (by have:=hA.alen;omega)⟩
         obtain ⟨b,off,haa,hcs⟩:=hA.arow i t ht
         have k1:=aK.agree hS.agree (Nat.zero_le _) hcs
         refine aP (XF.thenN (aF (aM (aF (aH (aI (o':=4) cJ rfl rfl rfl (aJ isAgg22 rfl (aD (hS.at_ 0 rfl) rfl) rfl (aA rfl rfl ?_))))))))
         refine aL (j:=i) (b:=b) (o:=off) (m:=a.al) (c:=a.ac) underlying22 sizeOf57 (by show some (Value.slice _ _ _)=_;rw [haa]) rfl rfl (by omega) rfl rfl ?_
         refine aQ (vs:=[_,_,_]) isAgg57 sizeOf57 rfl k1 rfl (bP (cs:=[_,_,_]) hS zeroValue57 rfl rfl fun B4 W4 hS=>bO (i:=0) (vs:=[_,_,_]) (cs':=[_,_,_]) (O':=[_,_]) hS sizeOf57 rfl rfl rfl rfl rfl rfl rfl fun W5 hS=>aG (XF.thenN (aF (aH (aQ (vs:=[_,_,_,_,_]) isAgg24 sizeOf24 rfl (aK.own (j:=0) (m:=5) (hS.at_ 1 rfl) rfl) rfl (aI (o':=0) cD rfl rfl rfl (aJ isAgg3 rfl (aD (hS.at_ 0 rfl) rfl) rfl (bW (vs:=[_,_]) hS iJ rfl (fC a t.f _) rfl fun W6 hS=>cW rfl rfl (aA rfl rfl (aZ (d:=58) rfl (fun hc=>?_) (fun hc=>?_)))))))))))
         ·have hg58:=hc;clear hc
          refine aE (d:=58) rfl rfl rfl rfl (aE (d:=58) rfl rfl rfl rfl (aE (d:=58) rfl rfl rfl rfl (aE (d:=58) rfl rfl rfl rfl (aE (d:=58) rfl rfl rfl rfl (aN rfl rfl rfl (aA rfl rfl (aE (d:=65) rfl rfl rfl rfl (aE (d:=65) rfl rfl rfl rfl (aE (d:=65) rfl rfl rfl rfl (aN rfl rfl rfl (aA rfl rfl (aE (d:=70) rfl rfl rfl rfl (aE (d:=70) rfl rfl rfl rfl (aE (d:=70) rfl rfl rfl rfl (aE (d:=70) rfl rfl rfl rfl (aE (d:=70) rfl rfl rfl rfl (aN rfl rfl rfl (aG (XF.thenN (cF rfl (aF (aH (aB rfl rfl (aG (XF.thenN (bK (XF.blkR (XF.thenR (XF.thenR (XF.blkR (XF.thenR (XF.res (bT results14 rfl) ?_))))))))))))))))))))))))))))))))
          exact ⟨dW (by unfold cO;rw [if_neg h1,if_neg h2,if_pos h3,if_neg (by rw [cC ht (by unfold arB;simp at *;simp [*];try omega)];decide)]),hS.below⟩
         ·have hg58:=hc;clear hc
          refine aC (d:=58) rfl rfl (aQ (vs:=[_,_,_,_,_]) isAgg24 sizeOf24 rfl (aK.own (j:=0) (m:=5) (hS.at_ 1 rfl) rfl) rfl (aC (d:=58) rfl rfl (aI (o':=2) cU rfl rfl rfl (aC (d:=58) rfl rfl (aJ isAgg3 rfl (aD (hS.at_ 0 rfl) rfl) rfl (aC (d:=58) rfl rfl (bW (vs:=[_,_]) hS iJ rfl (fC a t.q _) rfl fun W7 hS=>aC (d:=58) rfl rfl (cW rfl rfl (aR rfl rfl rfl (aA rfl rfl (aZ (d:=65) rfl (fun hc=>?_) (fun hc=>?_))))))))))))
          ·have hg65:=hc;clear hc
           refine aE (d:=65) rfl rfl rfl rfl (aE (d:=65) rfl rfl rfl rfl (aE (d:=65) rfl rfl rfl rfl (aN rfl rfl rfl (aA rfl rfl (aE (d:=70) rfl rfl rfl rfl (aE (d:=70) rfl rfl rfl rfl (aE (d:=70) rfl rfl rfl rfl (aE (d:=70) rfl rfl rfl rfl (aE (d:=70) rfl rfl rfl rfl (aN rfl rfl rfl (aG (XF.thenN (cF rfl (aF (aH (aB rfl rfl (aG (XF.thenN (bK (XF.blkR (XF.thenR (XF.thenR (XF.blkR (XF.thenR (XF.res (bT results14 rfl) ?_)))))))))))))))))))))))))
           exact ⟨dW (by unfold cO;rw [if_neg h1,if_neg h2,if_pos h3,if_neg (by rw [cC ht (by unfold arB;simp at *;simp [*];try omega)];decide)]),hS.below⟩
          ·have hg65:=hc;clear hc
           refine aC (d:=65) rfl rfl (aI (o':=1) cS rfl rfl rfl (aC (d:=65) rfl rfl (aJ isAgg3 rfl (aD (hS.at_ 0 rfl) rfl) rfl (aC (d:=65) rfl rfl (bB rfl rfl rfl (aR rfl rfl rfl (aA rfl rfl (aZ (d:=70) rfl (fun hc=>?_) (fun hc=>?_)))))))))
           ·have hg70:=of_decide_eq_true hc;clear hc
            refine aE (d:=70) rfl rfl rfl rfl (aE (d:=70) rfl rfl rfl rfl (aE (d:=70) rfl rfl rfl rfl (aE (d:=70) rfl rfl rfl rfl (aE (d:=70) rfl rfl rfl rfl (aN rfl rfl rfl (aG (XF.thenN (cF rfl (aF (aH (aB rfl rfl (aG (XF.thenN (bK (XF.blkR (XF.thenR (XF.thenR (XF.blkR (XF.thenR (XF.res (bT results14 rfl) ?_))))))))))))))))))))
            exact ⟨dW (by unfold cO;rw [if_neg h1,if_neg h2,if_pos h3,if_neg (by rw [cC ht (by unfold arB;simp at *;simp [*];try omega)];decide)]),hS.below⟩
           ·have hg70:=of_decide_eq_false hc;clear hc
            refine aC (d:=70) rfl rfl (aI (o':=1) cS rfl rfl rfl (aC (d:=70) rfl rfl (aJ isAgg3 rfl (aD (hS.at_ 0 rfl) rfl) rfl (aC (d:=70) rfl rfl (aI (o':=1) dQ rfl rfl rfl (aC (d:=70) rfl rfl (aJ isAgg3 rfl (aD (hS.at_ 1 rfl) rfl) rfl (aC (d:=70) rfl rfl (eI rfl rfl rfl (aR rfl rfl rfl (aG (XF.thenN (aV rfl (fun hc=>?_) (fun hc=>?_))))))))))))))
            ·have hc76:=of_decide_eq_true hc;clear hc
             refine aF (aH (aB rfl rfl (aG (XF.thenN (bK (XF.blkR (XF.thenR (XF.thenR (XF.blkR (XF.thenR (XF.res (bT results14 rfl) ?_)))))))))))
             exact ⟨dW (by unfold cO;rw [if_neg h1,if_neg h2,if_pos h3,if_neg (by rw [cC ht (by unfold arB;simp at *;simp [*];try omega)];decide)]),hS.below⟩
            ·have hc76:=of_decide_eq_false hc;clear hc
             refine aP (XF.blkN (XF.thenN (aH (aA rfl rfl (aS rfl rfl (IntWalk.i64_in _ (by omega)) rfl (aB rfl rfl (aG ?_)))))))
             exact XF.round (a.al - (i+1)) [(1,_),(3,_)] (by omega) ⟨rfl,rfl,trivial⟩ ⟨i+1,by omega,rfl,rfl,eH ht hall (by unfold arB;simp at *;simp [*];try omega),hS.tail.clear⟩
        ·have hc45:=of_decide_eq_false hc;clear hc
         rw [List.take_of_length_le (by have:=hA.alen;omega)] at hall
         refine bS (XF.thenX (XF.thenX (XF.blkX (XF.thenN (aF (aH (aB rfl rfl (aG (XF.thenN (bK (XF.res (bT results14 rfl) ?_)))))))))))
         exact ⟨dW (by unfold cO;rw [if_neg h1,if_neg h2,if_pos h3,if_pos hall]),hS.below⟩
def zI (l:List Int):List Value:=l.map (fun x=>Value.int .i64 x)
def zB (l:List Bool):List Value:=l.map Value.bool
theorem dJ {l:List Int}:(zI l).length=l.length:=List.length_map _
theorem lL {l:List Bool}:(zB l).length=l.length:=List.length_map _
theorem dN {l:List Int} {i:Nat} (h:i < l.length):(zI l)[0+i * 1]?=some (.int .i64 (l.getD i 0)):=by
 rw [Nat.zero_add,Nat.mul_one];unfold zI;simp [h]
theorem kT {l:List Bool} {i:Nat} (h:i < l.length):(zB l)[0+i * 1]?=some (.bool (l.getD i false)):=by
 rw [Nat.zero_add,Nat.mul_one];unfold zB;simp [h]
theorem dZ {l:List Int} {i:Nat} {x:Int}:(zI l).set (0+i * 1) (.int .i64 x)=zI (l.set i x):=by
 rw [Nat.zero_add,Nat.mul_one];unfold zI;rw [List.map_set]
theorem lM {l:List Bool} {i:Nat} {x:Bool}:(zB l).set (0+i * 1) (.bool x)=zB (l.set i x):=by
 rw [Nat.zero_add,Nat.mul_one];unfold zB;rw [List.map_set]
theorem jY {l:List Int} {x:Int}:zI l++[Value.int .i64 x]=zI (l++[x]):=by simp [zI]
theorem sV (m:Nat):madeCells (Value.int .i64 0).cells (m * 1)=(zI (List.replicate m 0)).toArray:=by
 unfold zI;rw [List.map_replicate,Nat.mul_one];exact nW _ _
theorem sW (m:Nat):madeCells (Value.bool false).cells (m * 1)=(zB (List.replicate m false)).toArray:=by
 unfold zB;rw [List.map_replicate,Nat.mul_one];exact nW _ _
theorem madeS (m:Nat):madeCells (Value.slice none 0 0).cells (m * 1)=(List.replicate m (Value.slice none 0 0)).toArray:=by
 rw [Nat.mul_one];exact nW _ _
theorem gS {α:Type}:∀ (l:List α) (i:Nat) (h:i < l.length),(l[i]::l.eraseIdx i).Perm l
 | x::l,0,_=>List.Perm.refl _
 | x::l,i+1,h=>(List.Perm.swap x (l[i]'(Nat.lt_of_succ_lt_succ h)) (l.eraseIdx i)).trans ((gS l i (Nat.lt_of_succ_lt_succ h)).cons x)
structure OV where
 v:Value
 n:Nat
 xs:List Value
abbrev sX:OV:=⟨.slice none 0 0,0,[]⟩
abbrev OV.gr (o:OV) (T:TypeId) (k:Nat):GR:=⟨o.v,o.n,o.xs,T,k⟩
def gB (T:TypeId) (k:Nat) (vs:List OV):aU:=vs.map (fun o=>o.gr T k)
section
variable {w0 W:World} {O:Own} {G G':aU} {K:List (Nat×World)} {T:TypeId} {k:Nat} {vs:List OV}
theorem St.permGN (h:St w0 O G K W) (hp:G.Perm G'):St w0 O G' K W where
 below:=h.below
 own:=h.own
 dist:=h.dist
 kept:=h.kept
 rows:=fun g hg=>h.rows g (hp.mem_iff.2 hg)
 gdist:=h.gdist.perm hp (fun h b hb e=>h b e hb)
theorem mS {s:Nat} {o:OV} (hs:vs[s]?=some o):(gB T k vs++G).Perm (o.gr T k::(gB T k (vs.eraseIdx s)++G)):=by
 obtain ⟨h,rfl⟩:=List.getElem?_eq_some_iff.1 hs
 have h1:vs.Perm (vs[s]::vs.eraseIdx s):=(gS vs s h).symm
 exact (h1.map (fun o=>o.gr T k)).append_right G
theorem sY {s:Nat} {o:OV} (hs:s < vs.length):(o.gr T k::(gB T k (vs.eraseIdx s)++G)).Perm (gB T k (vs.set s o)++G):=by
 have h:=(mS (T:=T) (k:=k) (G:=G) (vs:=vs.set s o) (s:=s) (o:=o) (by rw [List.getElem?_set_self hs])).symm
 rwa [List.eraseIdx_set_eq] at h
theorem St.newRows (h:St w0 O G K W):∀ n,St w0 O (gB T k (List.replicate n sX)++G) K W
 | 0=>h
 | n+1=>(St.newRows h n).newG T k
theorem bV.moreN {Ka Kb:List (Nat×World)} {p:World→Prop} (h:bV w0 Ka p) (hk:∀ q∈Ka,q∈Kb):bV w0 Kb p:=fun h2 hq=>h h2 (fun q h9=>hq q (hk q h9))
theorem St.ownKeepN {b:Nat} {cs:List Value} (h:St w0 ((b,cs,T)::O) G K W):∃ Kn,(∀ q∈K,q∈Kn)∧bV w0 Kn (fun W2=>W2.heap[b]?=some (.cells cs.toArray T (0,0)))∧St w0 O G Kn W:=by
 have h1:=h.own _ List.mem_cons_self
 have hlt:=cT h1.2
 refine ⟨(b,kM W b)::K,fun q hq=>List.mem_cons_of_mem _ hq,fun h2 hk=>?_,h.tail.markBlk hlt (fun p hp e=>(List.pairwise_cons.1 h.dist).1 p hp e.symm) (fun g hg k hk e=>((h.rows g hg).2 k hk).1 _ List.mem_cons_self e.symm)⟩
 have h3:=(h2.kept _ (hk _ List.mem_cons_self)).1.2 b (Nat.le_refl _) (pH hlt)
 exact h3.trans ((pI hlt).trans h1.2)
def jZ (o:OV) (W:World):Prop:=∃ a c,o.v = .slice a o.n c∧o.n≤c∧∀ (j:Nat) u,o.xs[j]?=some u→∃ b,a=some ⟨b,0,none⟩∧W.cell? ⟨b,0+j,none⟩=some u
theorem St.rowKeepN {o:OV} (h:St w0 O (o.gr T k::G) K W):∃ Kn,(∀ q∈K,q∈Kn)∧bV w0 Kn (jZ o)∧St w0 O G Kn W:=by
 obtain ⟨v,n,xs⟩:=o
 have hrow:=h.row 0 rfl
 have hl:=hrow.1
 obtain ⟨a,c,e,hnc⟩:=cM hrow
 dsimp only at e hl hnc
 subst e
 rcases Nat.eq_zero_or_pos n with h0 | h0
 ·subst h0
  have e:xs=[]:=List.eq_nil_of_length_eq_zero (by simpa using hl)
  subst e
  exact ⟨K,fun q hq=>hq,fun _ _=>⟨a,c,rfl,hnc,fun j u hu=>(by cases hu)⟩,h.tailG⟩
 ·obtain ⟨b,cs,rfl,_,_,_,h1⟩:=St.rowOwnE h h0
  obtain ⟨Kn,k1,k2,k3⟩:=h1.ownKeepN
  refine ⟨Kn,k1,fun h2 hk=>⟨_,c,rfl,hnc,fun j u hu=>⟨b,rfl,?_⟩⟩,k3⟩
  rw [Nat.zero_add]
  exact aD (k2 h2 hk) (by rw [List.getElem?_append_left (List.getElem?_eq_some_iff.1 hu).1];exact hu)
theorem St.rowsKeepN:∀ (vs:List OV) {K:List (Nat×World)},St w0 O (gB T k vs++G) K W→∃ Kn,(∀ q∈K,q∈Kn)∧bV w0 Kn (fun W2=>∀ o∈vs,jZ o W2)∧St w0 O G Kn W
 | [],K,h=>⟨K,fun q hq=>hq,fun _ _ o ho=>(by cases ho),h⟩
 | o::vs,K,h=>by
  obtain ⟨K1,k1,g1,h1⟩:=St.rowKeepN (G:=gB T k vs++G) h
  obtain ⟨K2,k2,g2,h2⟩:=St.rowsKeepN vs h1
  exact ⟨K2,fun q hq=>k2 q (k1 q hq),fun h9 hk9 o' ho'=>(by
   rcases List.mem_cons.1 ho' with rfl | ho'
   ·exact g1 h9 (fun q hq=>hk9 q (k2 q hq))
   ·exact g2 h9 hk9 o' ho'),h2⟩
end
section
variable {P:Program} {n:Nat} {Q:Exit→Act→World→Prop} {ops:Array Oper} {i d:Nat} {ty:TypeId} {pos:String} {aft:Array Edge}
theorem sZ {a:Act} {t u:Nat} {v x:Value} (h:a.eval (.tmp t)=v) (k:a.eval (.tmp u)=x):∀ z y,evL [(t,v),(u,x)] z=some y→a.eval z=y:=by
 intro z y hz
 cases z with
 | tmp s =>
  simp only [evL,look] at hz
  cases hb:Nat.beq t s with
  | true=>simp [hb] at hz;rw [← Nat.eq_of_beq_eq_true hb,← hz];exact h
  | false =>
   cases hc:Nat.beq u s with
   | true=>simp [hb,hc] at hz;rw [← Nat.eq_of_beq_eq_true hc,← hz];exact k
   | false=>simp [hb,hc] at hz
 | const c=>exact Option.some.inj hz
 | global g=>exact Option.some.inj hz
 | func f=>exact Option.some.inj hz
theorem mk_rowS {t E:TypeId} {z:Value} {s k:Nat} {a:Act} {w:World} {v:Value} {vs:List Value} {R:Value→Own→World→Prop} (hi:ops[i]?=some ⟨some d,.buildSlice t 1 #[(0,.tmp s)],ty,pos,aft,none⟩) (hU:P.underlying t=some (.slice E)) (hs:∀ w,(sizeOf E).run P w = .ok k w) (hk0:0 < k) (hk1:k≤1000) (hz:∀ w,(zeroValue E).run P w = .ok z w) (hf:Instr.fill (fun i=>some (i * k,k)) ((Array.range (1 * k)).map (z.cells[· % z.cells.size]!)) [(0,v)]=some (List.toArray vs)) (hv:a.eval (.tmp s)=v)
  (h:∃ ON,R (.slice (some ⟨w.heap.size,0,none⟩) 1 1) ON (w.alloc (.cells (List.toArray vs) E))):wpOp P ops Q i (fun a' w'=>∃ v ON,a'=a.put ((ops[i]?).bind (·.dst)) v∧R v ON w') a w:=by
 obtain ⟨ON,h9⟩:=h
 refine jV (v:=.slice (some ⟨w.heap.size,0,none⟩) 1 1) (w':=w.alloc (.cells (List.toArray vs) E)) hi rfl ?_ ⟨_,ON,by rw [hi];rfl,h9⟩
 unfold execOp
 simp only [List.map_toArray,List.map_cons,List.map_nil,hv]
 simp only [Instr.buildSlice,Sem.run_bind,run_underlying hU,Result.andThen_ok,hs,if_neg (show ¬ (1 * k > 2 ^ 24) by omega),if_neg (show ¬ (1 * k=0) by omega),hz,Sem.run_pure,hf,newRow,run_newObj_alloc]
theorem mk_app {t e:TypeId} {tx tyy m gn B:Nat} {v0:Value} {gxs news:List Value} {inf:TypeInfo} {z:Value} {a:Act} {w w0:World} {O:Own} {G:aU} {K:List (Nat×World)} {c:Nat} {R:Value→Own→World→Prop} (hi:ops[i]?=some ⟨some d,.call { callee:=.builtin .append,args:=#[.tmp tx,.tmp tyy],argTypes:=#[t,t] },ty,pos,aft,none⟩)
  (hU:P.underlying t=some (.slice e)) (hinf:P.info? e=some inf) (hz:inf.zero=some z) (hzs:z.cells.size=inf.size) (hsz:0 < inf.size) (hx:a.eval (.tmp tx)=v0) (hy:a.eval (.tmp tyy) = .slice (some ⟨B,0,none⟩) m c)
  (hS:St w0 O (⟨v0,gn,gxs,e,inf.size⟩::G) K w) (hn:∀ (j:Nat) u,news[j]?=some u→w.cell? ⟨B,0+j,none⟩=some u) (hl:news.length=m * inf.size) (h1:∀ u∈news,u.oneCell'=true) (h63:gn+m≤maxLen) (hbytes:(gn+m) * inf.bytes≤140737488355328)
  (h:∀ v' w',St w0 O (⟨v',gn+m,gxs++news,e,inf.size⟩::G) K w'→∃ ON,R v' ON w'):wpOp P ops Q i (fun a' w'=>∃ v ON,a'=a.put ((ops[i]?).bind (·.dst)) v∧R v ON w') a w:=by
 have hrow:=hS.row 0 rfl
 obtain ⟨v',W',hr,h2,h3,h4⟩:=fR (P:=P) (w:=w) w0.heap.size t ty e inf z hU hinf hz hzs hsz v0 gn gxs hrow ⟨B,0,none⟩ m c news hl (fun j u hu=>by
  have h8:=hn j u hu
  simp only [Addr.add]
  split
  ·rename_i e;subst e;simpa using h8
  ·simpa using h8) h1 h63 hbytes hS.below.size
 obtain ⟨ON,h9⟩:=h v' W' (hS.setG 0 rfl h2 h3 h4)
 refine jV (w':=W') (v:=v') hi rfl ?_ ⟨v',ON,by rw [hi];rfl,h9⟩
 unfold execOp
 simp only [resolve,invoke,builtin,Sem.run_bind,Sem.run_pure,Result.andThen_ok,List.map_toArray,List.map_cons,List.map_nil,hx,hy,hr]
end
theorem oA (v0a:Option Addr) (v0l:Nat) (v0c:Nat) (v1a:Option Addr) (v1l:Nat) (v1c:Nat):prog.built 73 [(0,.slice v0a v0l v0c),(1,.slice v1a v1l v1c)]=some #[.slice v0a v0l v0c,.slice v1a v1l v1c,.int .i64 0]:=by kernel_rfl
theorem pN (v00:Value) (v01:Value) (v02:Value):Instr.fill (fun i=>some (i * 3,3)) ((Array.range (1 * 3)).map ((Value.cells (.agg #[.int .i64 0,.int .i64 0,.int .i64 0]))[· % (Value.cells (.agg #[.int .i64 0,.int .i64 0,.int .i64 0])).size]!)) [(0,.agg #[v00,v01,v02])]=some (List.toArray [v00,v01,v02]):=by kernel_rfl
theorem gI (w:World) (b o:Nat):(Instr.fieldAt 73 (.pointer (some ⟨b,o,none⟩)) 0).run prog w = .ok (.pointer (some ⟨b,o+0,none⟩)) w:=by
 simp [Instr.fieldAt,run_underlying underlying73,Instr.sureAddr,go_sem,Addr.add_lit]
theorem inf_22:prog.info? 22=some Try.t22:=by kernel_rfl
theorem oB:prog.info? 57=some Try.t57:=by kernel_rfl
def outs (L:List ArV) (s:Nat):List ArV:=L.filter (fun t=>decide (t.f=(s:Int)))
theorem qW {L:List ArV} {i:Nat} {t:ArV} (ht:L[i]?=some t) (s:Nat):outs (L.take (i+1)) s=outs (L.take i) s++(if t.f=(s:Int) then [t] else []):=by
 unfold outs
 rw [List.take_add_one,ht,List.filter_append]
 congr 1
 show List.filter _ [t]=_
 by_cases h:t.f=(s:Int)
 ·rw [if_pos h,List.filter_cons_of_pos (by simpa using h)];rfl
 ·rw [if_neg h,List.filter_cons_of_neg (by simpa using h)];rfl
theorem gC {r:ArV}:∀ (L:List ArV) (i j:Nat),L[i]?=some r→j < 3→(L.flatMap ArV.three)[i * 3+j]?=r.three[j]?
 | t::L,0,j,h,hj=>by
  obtain rfl:t=r:=by simpa using h
  rw [List.flatMap_cons,Nat.zero_mul,Nat.zero_add,List.getElem?_append_left (by exact hj)]
 | t::L,i+1,j,h,hj=>by
  rw [List.flatMap_cons,List.getElem?_append_right (by show 3≤_;omega),show (i+1) * 3+j - t.three.length=i * 3+j by show (i+1) * 3+j - 3=_;omega]
  exact gC L i j (by simpa using h) hj
def VOk (vs:List OV) (L:List ArV):Prop:=∀ (s:Nat) o,vs[s]?=some o→o.n=(outs L s).length∧o.xs=(outs L s).flatMap ArV.three
theorem VOk.step {vs:List OV} {L:List ArV} {i p:Nat} {t:ArV} {o:OV} {v:Value} (h:VOk vs (L.take i)) (ht:L[i]?=some t) (hp:t.f=(p:Int)) (ho:vs[p]?=some o):VOk (vs.set p ⟨v,o.n+1,o.xs++t.three⟩) (L.take (i+1)):=fun s o2 h2=>by
 rw [qW ht]
 by_cases hs:s=p
 ·subst hs
  rw [List.getElem?_set_self (List.getElem?_eq_some_iff.1 ho).1] at h2
  obtain rfl:=Option.some.inj h2
  obtain ⟨e1,e2⟩:=h s o ho
  rw [if_pos hp,List.length_append,List.flatMap_append,e1,e2]
  exact ⟨rfl,by simp⟩
 ·rw [List.getElem?_set_ne (fun e=>hs e.symm)] at h2
  rw [if_neg (by omega),List.append_nil]
  exact h s o2 h2
def iK (W:World) (OB n:Nat) (L:List ArV) (va:Nat→Option Addr) (vc:Nat→Nat):Prop:=∀ s,s < n→W.cell? ⟨OB,0+s * 1,none⟩=some (.slice (va s) (outs L s).length (vc s))∧iW W (va s) (outs L s)
def vaOf (vs:List OV) (s:Nat):Option Addr:=match (vs.getD s sX).v with | .slice a _ _=>a | _=>none
def vcOf (vs:List OV) (s:Nat):Nat:=match (vs.getD s sX).v with | .slice _ _ c=>c | _=>0
theorem out_of {W:World} {OB n:Nat} {T:TypeId} {vs:List OV} {L:List ArV} (hl:vs.length=n) (hok:VOk vs L) (hB:W.heap[OB]?=some (.cells (vs.map (·.v)).toArray T (0,0))) (hR:∀ o∈vs,jZ o W):iK W OB n L (vaOf vs) (vcOf vs):=fun s hs=>by
 obtain ⟨o,ho⟩:∃ o,vs[s]?=some o:=⟨_,List.getElem?_eq_getElem (by omega)⟩
 obtain ⟨e1,e2⟩:=hok s o ho
 obtain ⟨a,c,hv,hc,hx⟩:=hR o (List.mem_of_getElem? ho)
 have h1:vs.getD s sX=o:=by rw [List.getD_eq_getElem?_getD,ho];rfl
 have ha:vaOf vs s=a:=by unfold vaOf;rw [h1,hv]
 have hcc:vcOf vs s=c:=by unfold vcOf;rw [h1,hv]
 rw [ha,hcc]
 refine ⟨aD hB ?_,fun i r hi=>?_⟩
 ·rw [Nat.zero_add,Nat.mul_one,List.getElem?_map,ho]
  show some o.v=_
  rw [hv,e1]
 ·have h3:∀ (j:Nat) v,r.three[j]?=some v→o.xs[i * 3+j]?=some v:=fun j v hj=>by
   rw [e2,gC _ i j hi (List.getElem?_eq_some_iff.1 hj).1];exact hj
  obtain ⟨b,rfl,_⟩:=hx (i * 3+0) _ (h3 0 _ rfl)
  refine ⟨b,0,rfl,aK.of fun j v hj=>?_⟩
  obtain ⟨b2,e9,h9⟩:=hx _ _ (h3 j v hj)
  obtain rfl:b=b2:=by simpa using e9
  rw [Nat.add_assoc];exact h9
theorem nNew_c (n:Nat) (sy s0 e0:Int) (aa:Option Addr) (al ac:Nat) (ar:List ArV) (k:Int) (Kt:List (Nat×World)) (Ot:Own) (G:aU) (K:List (Nat×World)) (w0 w:World) (hS0:St w0 Ot G K w) (hKt:∀ q∈Kt,q∈K) (hA:bV w0 Kt (fun W=>NIn W ⟨(n:Int),sy,s0,e0,aa,al,ac,ar⟩)) (hn1:1≤n) (hn4:n≤4096) (hal:al≤65536) (hO:dX n k ar) :
  Calls prog 24 #[(NfV.mk (n:Int) sy s0 e0 aa al ac ar).val] w (fun e w'=>∃ (RB SB OB:Nat) (va:Nat→Option Addr) (vc:Nat→Nat) (Kn:List (Nat×World)),e = .returned (.pointer (some ⟨RB,0,none⟩))∧(∀ q∈K,q∈Kn)∧bV w0 Kn (fun W=>iK W OB n ar va vc)∧St w0 ((RB,[.slice (some ⟨OB,0,none⟩) n n,.slice (some ⟨SB,0,none⟩) n n,.int .i64 0],73)::(SB,zI (List.replicate n 0),3)::Ot) G Kn w'):=by
 refine bH (args:=[(NfV.mk (n:Int) sy s0 e0 aa al ac ar).val]) func24 rfl ntmps24 rfl ?_
 have hS:=hS0
 have hA0:=hA hS0 hKt
 have hlen:ar.length=al:=hA0.alen
 refine aF (aH (bZ (cs:=[_,_,_,_,_]) hS rfl rfl rfl fun B1 W1 hS=>aB rfl rfl (aG (XF.thenN (aF (regY (al:=[⟨2,22,List.replicate n (.slice none 0 0),11⟩,⟨5,3,zI (List.replicate n 0),14⟩]) (G:=fun _=>G) (E:=[2,5]) (k:=6) (ds:=[3,12,13]) cX rfl hS rfl rfl (by kernel_rfl) (by kernel_rfl) rfl (by decide) rfl (fA 1 rfl (isV _) (syV iE [(1,_)] rfl rfl (fun _=>(bU rfl)) (fun _=>⟨fT rfl,trivial⟩) (fun s w hw=>cH (o':=0) cR rfl rfl) (bC rfl)) (fA 2 rfl (isV _) (syV iE [(6,_)] rfl rfl (fun _=>(bU rfl)) (fun _=>⟨bE 0 (at_n rfl rfl (aT rfl rfl rfl)),trivial⟩) (fun s w hw=>bQ isAgg3 rfl ((aD (hw.at_ 0 rfl) rfl))) (bC rfl)) ?_))))))))
 refine fA 3 rfl (mO W1.heap.size (n)) (pJ (m:=n) (cs:=List.replicate n (.slice none 0 0)) (jx:=1) ⟨2,22,List.replicate n (.slice none 0 0),11⟩ rfl rfl underlying71 inf_22 rfl (madeS n) (by show (24:Int) * _≤_;omega) (by omega) (by kernel_rfl) (aT rfl rfl rfl) List.mem_cons_self rfl rfl rfl (.inr rfl) (by show List.Nodup [2,5];decide) rfl (fun _ _=>rfl) (bC rfl)) ?_
 refine fA 4 rfl (isV _) (syV iE [(1,_)] rfl rfl (fun _=>(bU rfl)) (fun _=>⟨fT rfl,trivial⟩) (fun s w hw=>cH (o':=0) cR rfl rfl) (bC rfl)) (fA 5 rfl (isV _) (syV iE [(9,_)] rfl rfl (fun _=>(bU rfl)) (fun _=>⟨bE 3 (at_n rfl rfl (aT rfl rfl rfl)),trivial⟩) (fun s w hw=>bQ isAgg3 rfl ((aD (hw.at_ 0 rfl) rfl))) (bC rfl)) ?_)
 refine fA 6 rfl (mO W1.heap.size (n)) (pJ (m:=n) (cs:=zI (List.replicate n 0)) (jx:=4) ⟨5,3,zI (List.replicate n 0),14⟩ rfl rfl underlying25 iF rfl (sV n) (by show (8:Int) * _≤_;omega) (by omega) (by kernel_rfl) (aT rfl rfl rfl) (List.mem_cons_of_mem _ List.mem_cons_self) rfl rfl rfl (.inr rfl) (by show List.Nodup [2,5];decide) rfl (fun _ _=>rfl) (bC rfl)) ?_
 refine bly_nil ?_
 intro s2 W2 Ks2 hall2 hsz2 hKs2 hS' hcov2 hfx2 hno2
 obtain ⟨v2_2,h2_2⟩:=hall2 2 rfl
 obtain ⟨v2_5,h2_5⟩:=hall2 5 rfl
 have f2_2:AwS _ _ (mO W1.heap.size (n)) _ _:=hfx2 2 rfl _ h2_2
 obtain ⟨B2_2,rfl,hB2_2⟩:=f2_2.here
 have f2_5:AwS _ _ (mO W1.heap.size (n)) _ _:=hfx2 5 rfl _ h2_5
 obtain ⟨B2_5,rfl,hB2_5⟩:=f2_5.here
 clear hS;have hS:=hS'.castO (O':=((B2_2,_,22)::(B2_5,_,3)::_::Ot)) (by simp only [OY,iD,AB.cs,h2_2,h2_5,hno2 11 rfl,hno2 14 rfl];rfl);clear hS'
 refine sN (L':=[AwS _ _ (isV _),AwS _ _ (isV _),isE s2 2,AwS _ _ (isV _),AwS _ _ (isV _),isE s2 5]) rfl (dC (dC ?_))
 refine sH ?_;intro u hu;obtain rfl:=Option.some.inj (h2_2.symm.trans hu);clear hu
 refine dC (dC ?_)
 refine sH ?_;intro u hu;obtain rfl:=Option.some.inj (h2_5.symm.trans hu);clear hu
 refine dV (dI (us:=[(0,.slice _ _ _),(1,.slice _ _ _)]) rfl (oA _ _ _ _ _ _) rfl (bZ (cs:=[_,_,_]) hS rfl rfl rfl fun B3 W3 hS=>aB rfl rfl (aG (XF.thenN (aF (aF (aH (aI (o':=4) cJ rfl rfl rfl (aJ isAgg22 rfl (aD (hS.at_ 3 rfl) rfl) rfl (bN underlying22 rfl rfl (aA rfl rfl (aG (XF.thenN (aM ?_))))))))))))))
 refine cB (fun m l W=>∃ (i:Nat) (vs:List OV),i≤al∧m=al - i∧l=[(3,.pointer (some ⟨B3,0,none⟩)),(15,.slice aa al ac),(16,.int .i64 (al:Int)),(17,.int .i64 (i:Int))]∧vs.length=n∧VOk vs (ar.take (i))∧St w0 ((B3,[.slice (some ⟨B2_2,0,none⟩) n n,.slice (some ⟨B2_5,0,none⟩) n n,.int .i64 0],73)::(B2_2,(vs).map (·.v),22)::(B2_5,zI (List.replicate n 0),3)::(B1,[.int .i64 (n:Int),.int .i64 sy,.int .i64 s0,.int .i64 e0,.slice aa al ac],24)::Ot) (gB 57 3 vs++G) K W) (al - 0) ([(3,_),(15,_),(16,_),(17,_)]) ⟨rfl,rfl,rfl,rfl,trivial⟩ (⟨0,List.replicate n sX,Nat.zero_le _,rfl,rfl,by simp,fun s o ho=>(by
  have:=List.eq_of_mem_replicate (List.mem_of_getElem? ho)
  subst this
  exact ⟨rfl,rfl⟩),by rw [List.map_replicate];exact (hS.newRows n).keep K (fun q hq=>by simp [hq])⟩) ?_
 clear hS
 rintro m l W ⟨i,vs,hi,rfl,rfl,hvl,hvs,hS⟩
 refine aF (aH (bB rfl rfl rfl (aG (XF.thenN (aF (aV rfl (fun hc=>?_) (fun hc=>?_)))))))
 ·have hc18:=of_decide_eq_true hc;clear hc
  obtain ⟨t,ht⟩:∃ t,ar[i]?=some t:=⟨_,List.getElem?_eq_getElem (by omega)⟩
  obtain ⟨b,off,haa,hcs⟩:=(hA (hS.keep K (fun q hq=>by simp [hq])) hKt).arow i t ht
  have haa:aa=some ⟨b,off,none⟩:=haa
  have k1:=hcs
  obtain ⟨⟨ht1,ht2⟩,_⟩:=hO t (List.mem_of_getElem? ht)
  obtain ⟨p,hpf⟩:∃ p:Nat,t.f=(p:Int):=⟨t.f.toNat,by omega⟩
  have hpn:p < n:=by omega
  obtain ⟨o,ho⟩:∃ o,vs[p]?=some o:=⟨_,List.getElem?_eq_getElem (by omega)⟩
  obtain ⟨ho1,ho2⟩:=hvs p o ho
  have hole:o.n≤65536:=by rw [ho1];exact Nat.le_trans (List.length_filter_le _ _) (by rw [List.length_take];omega)
  refine aP (XF.thenN (aF (aM (aF (aH ?_)))))
  refine aL (j:=i) (b:=b) (o:=off) (m:=al) (c:=ac) underlying22 sizeOf57 (by show some (Value.slice _ _ _)=_;rw [haa]) rfl rfl (by omega) rfl rfl ?_
  refine aQ (vs:=[_,_,_]) isAgg57 sizeOf57 rfl k1 rfl (bP (cs:=[_,_,_]) hS zeroValue57 rfl rfl fun B4 W4 hS=>bO (i:=0) (vs:=[_,_,_]) (cs':=[_,_,_]) (O':=(_::_::_::_::_::Ot)) hS sizeOf57 rfl rfl rfl rfl rfl rfl rfl fun W5 hS=>aG (XF.thenN ?_))
  have hS9:=(hS.keep K (fun q hq=>by simp [hq])).permGN (mS (T:=57) (k:=3) (G:=G) ho)
  clear hS;have hS:=hS9;clear hS9
  refine regMk (mk:=[15,16]) (k:=18) (vals:=(fun i8=>match i8 with | 0=>.pointer (some ⟨B3,0,none⟩) | 1=>.pointer (some ⟨B3,0,none⟩) | 2=>.pointer (some ⟨B3,0+0,none⟩) | 3=>.slice (some ⟨B2_2,0,none⟩) n n | 4=>.pointer (some ⟨B4,0+0,none⟩) | 5=>.int .i64 t.f | 6=>.pointer (some ⟨B3,0,none⟩) | 7=>.pointer (some ⟨B3,0,none⟩) | 8=>.pointer (some ⟨B3,0+0,none⟩) | 9=>.slice (some ⟨B2_2,0,none⟩) n n | 10=>.pointer (some ⟨B4,0+0,none⟩) | 11=>.int .i64 t.f | 12=>.pointer (some ⟨B2_2,0+p * 1,none⟩) | 13=>o.v | 14=>.agg #[.int .i64 t.f,.int .i64 t.s,.int .i64 t.q] | _=>.pointer (some ⟨B2_2,0+p * 1,none⟩))) (Pm:=fun i v ON=>(i=16→ON=[(0,[v],0)])∧(i=15→∃ B,v = .slice (some ⟨B,0,none⟩) 1 1∧ON=[(B,t.three,57)])) (fun s w=>(s=[]∧St w0 ((B4,t.three,57)::(B3,[.slice (some ⟨B2_2,0,none⟩) n n,.slice (some ⟨B2_5,0,none⟩) n n,.int .i64 0],73)::(B2_2,(vs).map (·.v),22)::(B2_5,zI (List.replicate n 0),3)::(B1,[.int .i64 (n:Int),.int .i64 sy,.int .i64 s0,.int .i64 e0,.slice aa al ac],24)::Ot) (o.gr 57 3::(gB 57 3 (vs.eraseIdx p)++G)) K w)∨(∃ B,s=[(15,[(B,t.three,57)])]∧St w0 ((B,t.three,57)::((B4,t.three,57)::(B3,[.slice (some ⟨B2_2,0,none⟩) n n,.slice (some ⟨B2_5,0,none⟩) n n,.int .i64 0],73)::(B2_2,(vs).map (·.v),22)::(B2_5,zI (List.replicate n 0),3)::(B1,[.int .i64 (n:Int),.int .i64 sy,.int .i64 s0,.int .i64 e0,.slice aa al ac],24)::Ot)) (o.gr 57 3::(gB 57 3 (vs.eraseIdx p)++G)) K w)∨(∃ B v,s=[(16,[(0,[v],0)]),(15,[(B,t.three,57)])]∧St w0 ((B,t.three,57)::((B4,t.three,57)::(B3,[.slice (some ⟨B2_2,0,none⟩) n n,.slice (some ⟨B2_5,0,none⟩) n n,.int .i64 0],73)::(B2_2,(vs).map (·.v),22)::(B2_5,zI (List.replicate n 0),3)::(B1,[.int .i64 (n:Int),.int .i64 sy,.int .i64 s0,.int .i64 e0,.slice aa al ac],24)::Ot)) (⟨v,o.n+1,o.xs++t.three,57,3⟩::(gB 57 3 (vs.eraseIdx p)++G)) K w)) cX (.inl ⟨rfl,hS.drew⟩) (Nat.le_of_ble_eq_true (by kernel_rfl)) (by kernel_rfl) (by kernel_rfl) ?_ ?_ (by decide) ?_
  ·intro i9 hi9 hin s a0 c9 w ha0 hF9 hG hD
   have hfr:∀ t v,cE _ t=true→look _ t=some v→c9.eval (.tmp t)=v:=fun t v h1 h2=>(hF9 t h1).trans (ha0.at_ t v h2)
   have hown:∀ p∈((B4,t.three,57)::(B3,[.slice (some ⟨B2_2,0,none⟩) n n,.slice (some ⟨B2_5,0,none⟩) n n,.int .i64 0],73)::(B2_2,(vs).map (·.v),22)::(B2_5,zI (List.replicate n 0),3)::(B1,[.int .i64 (n:Int),.int .i64 sy,.int .i64 s0,.int .i64 e0,.slice aa al ac],24)::Ot),w.heap[p.1]?=some (.cells p.2.1.toArray p.2.2 (0,0)):=fun p hp=>by
    rcases hG with ⟨_,h9⟩ | ⟨B,_,h9⟩ | ⟨B,v,_,h9⟩
    ·exact (h9.own p hp).2
    ·exact (h9.own p (List.mem_cons_of_mem _ hp)).2
    ·exact (h9.own p (List.mem_cons_of_mem _ hp)).2
   have hb5:=hown (B4,t.three,57) List.mem_cons_self
   have hb3:=hown (B3,[.slice (some ⟨B2_2,0,none⟩) n n,.slice (some ⟨B2_5,0,none⟩) n n,.int .i64 0],73) (List.mem_cons_of_mem _ List.mem_cons_self)
   have hb8:=hown (B2_2,vs.map (·.v),22) (List.mem_cons_of_mem _ (List.mem_cons_of_mem _ List.mem_cons_self))
   match i9,hi9,hin with
   | 0,_,_=>exact ⟨_,rfl,rfl,by
    exact bY (l:=[(3,.pointer (some ⟨B3,0,none⟩))]) rfl c9.eval (fK (hfr 3 _ (by kernel_rfl) rfl))⟩
   | 1,_,_=>exact ⟨_,rfl,rfl,by
    have h9:=(hD 0 21 (by kernel_rfl)).1 (by decide)
    exact cQ (l:=[(21,.pointer (some ⟨B3,0,none⟩))]) rfl c9.eval (fK h9)⟩
   | 2,_,_=>exact ⟨_,rfl,rfl,by
    have h9:=(hD 1 22 (by kernel_rfl)).1 (by decide)
    exact cH (l:=[(22,.pointer (some ⟨B3,0,none⟩))]) gI rfl rfl c9.eval (fK h9)⟩
   | 3,_,_=>exact ⟨_,rfl,rfl,by
    have h9:=(hD 2 23 (by kernel_rfl)).1 (by decide)
    exact bQ (l:=[(23,.pointer (some ⟨B3,0+0,none⟩))]) isAgg71 rfl (aD hb3 rfl) c9.eval (fK h9)⟩
   | 4,_,_=>exact ⟨_,rfl,rfl,by
    exact cH (l:=[(5,.pointer (some ⟨B4,0,none⟩))]) cD rfl rfl c9.eval (fK (hfr 5 _ (by kernel_rfl) rfl))⟩
   | 5,_,_=>exact ⟨_,rfl,rfl,by
    have h9:=(hD 4 25 (by kernel_rfl)).1 (by decide)
    exact bQ (l:=[(25,.pointer (some ⟨B4,0+0,none⟩))]) isAgg3 rfl (aD hb5 rfl) c9.eval (fK h9)⟩
   | 6,_,_=>exact ⟨_,rfl,rfl,by
    exact bY (l:=[(3,.pointer (some ⟨B3,0,none⟩))]) rfl c9.eval (fK (hfr 3 _ (by kernel_rfl) rfl))⟩
   | 7,_,_=>exact ⟨_,rfl,rfl,by
    have h9:=(hD 6 27 (by kernel_rfl)).1 (by decide)
    exact cQ (l:=[(27,.pointer (some ⟨B3,0,none⟩))]) rfl c9.eval (fK h9)⟩
   | 8,_,_=>exact ⟨_,rfl,rfl,by
    have h9:=(hD 7 28 (by kernel_rfl)).1 (by decide)
    exact cH (l:=[(28,.pointer (some ⟨B3,0,none⟩))]) gI rfl rfl c9.eval (fK h9)⟩
   | 9,_,_=>exact ⟨_,rfl,rfl,by
    have h9:=(hD 8 29 (by kernel_rfl)).1 (by decide)
    exact bQ (l:=[(29,.pointer (some ⟨B3,0+0,none⟩))]) isAgg71 rfl (aD hb3 rfl) c9.eval (fK h9)⟩
   | 10,_,_=>exact ⟨_,rfl,rfl,by
    exact cH (l:=[(5,.pointer (some ⟨B4,0,none⟩))]) cD rfl rfl c9.eval (fK (hfr 5 _ (by kernel_rfl) rfl))⟩
   | 11,_,_=>exact ⟨_,rfl,rfl,by
    have h9:=(hD 10 31 (by kernel_rfl)).1 (by decide)
    exact bQ (l:=[(31,.pointer (some ⟨B4,0+0,none⟩))]) isAgg3 rfl (aD hb5 rfl) c9.eval (fK h9)⟩
   | 12,_,_=>exact ⟨_,rfl,rfl,by
    have h9:=(hD 9 30 (by kernel_rfl)).1 (by decide)
    have h8:=(hD 11 32 (by kernel_rfl)).1 (by decide)
    exact cG (l:=[(30,.slice (some ⟨B2_2,0,none⟩) n n),(32,.int .i64 t.f)]) (j:=p) (b:=B2_2) (o:=0) (m:=n) (c:=n) underlying71 sizeOf22 rfl rfl hpf hpn rfl c9.eval (sZ h9 h8)⟩
   | 13,_,_=>exact ⟨_,rfl,rfl,by
    have h9:=(hD 12 33 (by kernel_rfl)).1 (by decide)
    exact bQ (l:=[(33,.pointer (some ⟨B2_2,0+p * 1,none⟩))]) isAgg22 rfl (aD hb8 (by rw [List.getElem?_map,Nat.zero_add,Nat.mul_one,ho];rfl)) c9.eval (fK h9)⟩
   | 14,_,_=>exact ⟨_,rfl,rfl,by
    exact fS (l:=[(5,.pointer (some ⟨B4,0,none⟩))]) (vs:=[_,_,_]) isAgg57 sizeOf57 rfl (aK.own (j:=0) (m:=3) hb5 rfl) c9.eval (fK (hfr 5 _ (by kernel_rfl) rfl))⟩
   | 15,_,h9=>exact absurd (by decide) h9
   | 16,_,h9=>exact absurd (by decide) h9
   | 17,_,_=>exact ⟨_,rfl,rfl,by
    have h9:=(hD 3 24 (by kernel_rfl)).1 (by decide)
    have h8:=(hD 5 26 (by kernel_rfl)).1 (by decide)
    exact cG (l:=[(24,.slice (some ⟨B2_2,0,none⟩) n n),(26,.int .i64 t.f)]) (j:=p) (b:=B2_2) (o:=0) (m:=n) (c:=n) underlying71 sizeOf22 rfl rfl hpf hpn rfl c9.eval (sZ h9 h8)⟩
   | i+18,h9,_=>omega
  ·intro i9 him s a0 c9 w ha0 hF9 hG hnew hD
   have hcase:i9=15∨i9=16:=by simpa using him
   rcases hcase with rfl | rfl
   ·have h1:=(hD 14 35 (by kernel_rfl)).1 (by decide)
    rcases hG with ⟨rfl,h9⟩ | ⟨B,rfl,_⟩ | ⟨B,v,rfl,_⟩
    ·exact mk_rowS rfl underlying22 sizeOf57 (by decide) (by decide) zeroValue57 (pN _ _ _) h1 ⟨[(w.heap.size,t.three,57)],⟨fun h=>absurd h (by decide),fun _=>⟨_,rfl,rfl⟩⟩,.inr (.inl ⟨_,rfl,h9.alloc t.three 57⟩)⟩
    ·exact absurd List.mem_cons_self (hnew _)
    ·exact absurd (List.mem_cons_of_mem _ List.mem_cons_self) (hnew _)
   ·have h1:=(hD 13 34 (by kernel_rfl)).1 (by decide)
    obtain ⟨ON5,h5,hP5⟩:=(hD 15 36 (by kernel_rfl)).2 (by decide)
    obtain ⟨B5,e5,eO5⟩:=hP5.2 rfl
    rcases hG with ⟨rfl,h9⟩ | ⟨B,rfl,h9⟩ | ⟨B,v,rfl,_⟩
    ·cases h5
    ·have eB:B5=B:=by
      have h8:=List.mem_singleton.1 h5
      rw [eO5] at h8
      simpa using h8
     subst eB
     refine mk_app (gn:=o.n) (gxs:=o.xs) (news:=t.three) (m:=1) rfl underlying22 oB rfl rfl (by show 0 < 3;decide) h1 e5 h9 (fun j u hu=>(by rw [Nat.zero_add];exact aD (h9.at_ 0 rfl) hu)) rfl (by intro u hu;simp at hu;rcases hu with rfl | rfl | rfl<;>rfl) (by simp only [maxLen];omega) (by show (o.n+1) * 24≤_;omega) ?_
     intro v' w' h8
     exact ⟨[(0,[v'],0)],⟨fun _=>rfl,fun h=>absurd h (by decide)⟩,.inr (.inr ⟨_,_,rfl,h8⟩)⟩
    ·exact absurd List.mem_cons_self (hnew _)
  ·intro s c9 w hG hsz hdf hfr hval hin hmk hkeys hdist
   obtain ⟨O6,h6,hP6⟩:=hmk 16 37 (by decide) rfl
   have hP6:=hP6.1 rfl
   rcases hG with ⟨rfl,h9⟩ | ⟨B,rfl,_⟩ | ⟨B9,v9,rfl,hS2⟩
   ·cases h6
   ·exact absurd (congrArg Prod.fst (List.mem_singleton.1 h6)) (show (16:Nat)≠15 by decide)
   have e9:c9.tmps.getD 37 undef=v9:=by
    rw [hP6] at h6
    simpa using h6
   clear hS;have hS:=hS2;clear hS2
   refine (show bG _ _ _ _ (List.drop 18 _) [(3,.pointer (some ⟨B3,0,none⟩)),(15,.slice aa al ac),(16,.int .i64 (al:Int)),(17,.int .i64 (i:Int)),(37,v9),(38,.pointer (some ⟨B2_2,0+p * 1,none⟩))] w from ?_) c9 (sU.has hsz hdf ⟨hfr 3 _ (by kernel_rfl) rfl,hfr 15 _ (by kernel_rfl) rfl,hfr 16 _ (by kernel_rfl) rfl,hfr 17 _ (by kernel_rfl) rfl,e9,hval 17 38 (by decide) (by decide) rfl,trivial⟩)
   refine bD (i:=3) (cs':=(vs.set p ⟨v9,o.n+1,o.xs++t.three⟩).map (·.v)) (O':=(_::_::_::(B2_2,_,_)::_::_::Ot)) hS sizeOf22 rfl rfl (by obtain ⟨a8,c8,e8,_⟩:=cM (hS.row 0 rfl);dsimp only at e8;rw [e8];rfl) rfl (Nat.ble_eq_true_of_le (by rw [List.length_map];omega)) (by rw [List.map_set,Nat.zero_add,Nat.mul_one]) rfl fun W58 hS=>?_
   refine aG (XF.blkN (XF.thenN (aH (aS rfl rfl (IntWalk.i64_in _ (by omega)) rfl (aA rfl rfl (aG ?_))))))
   have hS9:=hS.tail.tail.permGN (sY (T:=57) (k:=3) (G:=G) (vs:=vs) (s:=p) (o:=⟨v9,o.n+1,o.xs++t.three⟩) (by omega))
   exact XF.round (al - (i+1)) [(3,_),(15,_),(16,_),(17,_)] (by omega) ⟨rfl,rfl,rfl,rfl,trivial⟩ ⟨i+1,_,by omega,rfl,rfl,by rw [List.length_set];exact hvl,hvs.step ht hpf ho,hS9.keep K (fun q hq=>by simp [hq])⟩
 ·have hc18:=of_decide_eq_false hc;clear hc
  rw [List.take_of_length_le (by omega)] at hvs
  refine bS (XF.thenX (XF.thenX (XF.blkX (XF.thenN (aF (aH (aA rfl rfl (aB rfl rfl (aG (XF.thenN (bK (XF.res (bT results24 rfl) ?_))))))))))))
  obtain ⟨K1,k1,g1,hS1⟩:=St.rowsKeepN vs (hS.keep K (fun q hq=>by simp [hq]))
  obtain ⟨K2,k2,g2,hS2⟩:=(hS1.perm (List.Perm.swap _ _ _)).ownKeepN
  exact ⟨B3,B2_5,B2_2,_,_,K2,rfl,fun q hq=>k2 q (k1 q hq),fun h9 hk9=>out_of hvl hvs (g2 h9 hk9) (g1 h9 (fun q hq=>hk9 q (k2 q hq))),((hS2.perm ((List.Perm.swap _ _ _).cons _)).perm (List.Perm.swap _ _ _)).tail.perm (List.Perm.refl _)⟩
theorem lN (a:NfV) (n:Nat) (k:Int) (Kt:List (Nat×World)) (Ot:Own) (G:aU) (K:List (Nat×World)) (w0 w:World) (hS0:St w0 Ot G K w) (hKt:∀ q∈Kt,q∈K) (hA:bV w0 Kt (fun W=>NIn W a)) (hn:a.st=(n:Int)) (hn1:1≤n) (hn4:n≤4096) (hal:a.al≤65536) (hO:dX n k a.ar):Calls prog 24 #[a.val] w (fun e w'=>∃ (RB SB OB:Nat) (va:Nat→Option Addr) (vc:Nat→Nat) (Kn:List (Nat×World)),e = .returned (.pointer (some ⟨RB,0,none⟩))∧(∀ q∈K,q∈Kn)∧bV w0 Kn (fun W=>iK W OB n a.ar va vc)∧St w0 ((RB,[.slice (some ⟨OB,0,none⟩) n n,.slice (some ⟨SB,0,none⟩) n n,.int .i64 0],73)::(SB,zI (List.replicate n 0),3)::Ot) G Kn w'):=by
 obtain ⟨st,sy,s0,e0,aa,al,ac,ar⟩:=a
 dsimp only at hn
 subst hn
 exact nNew_c n sy s0 e0 aa al ac ar k Kt Ot G K w0 w hS0 hKt hA hn1 hn4 hal hO
theorem pO (w:World) (b o:Nat):(Instr.fieldAt 73 (.pointer (some ⟨b,o,none⟩)) 1).run prog w = .ok (.pointer (some ⟨b,o+1,none⟩)) w:=by
 simp [Instr.fieldAt,run_underlying underlying73,Instr.sureAddr,go_sem,Addr.add_lit]
theorem jH (w:World) (b o:Nat):(Instr.fieldAt 73 (.pointer (some ⟨b,o,none⟩)) 2).run prog w = .ok (.pointer (some ⟨b,o+2,none⟩)) w:=by
 simp [Instr.fieldAt,run_underlying underlying73,Instr.sureAddr,go_sem,Addr.add_lit]
def zN (l:List Nat):List Value:=l.map (fun (x:Nat)=>Value.int .i64 (x:Int))
theorem zN_app {l:List Nat} {v:Nat} {x:Int} (h:x=(v:Int)):zN l++[Value.int .i64 x]=zN (l++[v]):=by subst h;simp [zN]
theorem qX {l:List Int} {i:Nat} {x:Int}:cA (zI l) (0+i * 1) [.int .i64 x]=zI (l.set i x):=dZ
theorem mT:∀ {S l:List Nat},S.Nodup→(∀ x∈S,x∈l)→S.length≤l.length
 | [],l,_,_=>Nat.zero_le _
 | a::S,l,hn,hs=>by
  have ha:=hs a List.mem_cons_self
  rw [List.nodup_cons] at hn
  have h1:=mT (S:=S) (l:=l.erase a) hn.2 (fun x hx=>(List.mem_erase_of_ne (fun (e:x=a)=>hn.1 (e▸hx))).2 (hs x (List.mem_cons_of_mem _ hx)))
  have h2:=List.length_erase_of_mem ha
  have h3:=List.length_pos_of_mem ha
  rw [List.length_cons];omega
def mtN (all:List Nat) (x:Nat):List Nat:=if x∈all then all else all++[x]
theorem gJ {all:List Nat} {x q:Nat}:q∈mtN all x↔q∈all∨q=x:=by
 unfold mtN
 split
 ·rename_i h
  exact ⟨.inl,fun h1=>h1.elim id (fun e=>e▸h)⟩
 ·simp
theorem pP {all:List Nat} {x i:Nat} (h:i < all.length):(mtN all x)[i]?=all[i]?:=by
 unfold mtN
 split
 ·rfl
 ·rw [List.getElem?_append_left h]
theorem mtN_len {all:List Nat} {x:Nat}:all.length≤(mtN all x).length:=by
 unfold mtN
 split
 ·exact Nat.le_refl _
 ·simp
structure SnOk (n:Nat) (r:Int) (s9 ss:List Int) (all:List Nat):Prop where
 len:ss.length=n
 at_:∀ s,s < n→(ss.getD s 0=r↔s∈all)
 from_:∀ x∈ss,x∈s9∨x=r
 nd:all.Nodup
 lt:∀ s∈all,s < n
theorem SnOk.le {n:Nat} {r:Int} {s9 ss:List Int} {all:List Nat} (h:SnOk n r s9 ss all):all.length≤n:=by
 have:=mT (l:=List.range n) h.nd (fun x hx=>List.mem_range.2 (h.lt x hx))
 simpa using this
theorem SnOk.start {n:Nat} {r:Int} {ss:List Int} (hl:ss.length=n) (hf:∀ x∈ss,x≠r):SnOk n r ss ss [] :=
 ⟨hl,fun s hs=>⟨fun h=>absurd h (hf _ (by rw [List.getD_eq_getElem?_getD,List.getElem?_eq_getElem (by omega)];exact List.getElem_mem _)),fun h=>(by cases h)⟩,fun x hx=>.inl hx,List.nodup_nil,fun s h=>(by cases h)⟩
theorem SnOk.new {n:Nat} {r:Int} {s9 ss:List Int} {all:List Nat} {x:Nat} (h:SnOk n r s9 ss all) (hx:x < n) (hn:x∉all):SnOk n r s9 (ss.set x r) (all++[x]) where
 len:=by rw [List.length_set];exact h.len
 at_:=fun s hs=>by
  have hl:=h.len
  by_cases e:s=x
  ·subst e
   rw [List.getD_eq_getElem?_getD,List.getElem?_set_self (by omega)]
   simp
  ·rw [List.getD_eq_getElem?_getD,List.getElem?_set_ne (fun e2=>e e2.symm),← List.getD_eq_getElem?_getD,h.at_ s hs]
   simp [e]
 from_:=fun y hy=>by
  rcases List.mem_or_eq_of_mem_set hy with hy | rfl
  ·exact h.from_ y hy
  ·exact .inr rfl
 nd:=List.nodup_append.2 ⟨h.nd,by simp,fun a ha b hb e=>hn (by rw [List.mem_singleton.1 hb] at e;exact e▸ha)⟩
 lt:=fun s hs=>by
  rcases List.mem_append.1 hs with hs | hs
  ·exact h.lt s hs
  ·rw [List.mem_singleton.1 hs];exact hx
theorem tA (n:Nat) (r:Int) (s9 ss:List Int) (all:List Nat) (AX CX RB SB OB:Nat) (wa:Option Addr) (m wc x:Nat) (Ot:Own) (G:aU) (K:List (Nat×World)) (w0 w:World) (hS0:St w0 ((AX,[.slice wa m wc],25)::(CX,[.pointer (some ⟨RB,0,none⟩)],46)::(RB,[.slice (some ⟨OB,0,none⟩) n n,.slice (some ⟨SB,0,none⟩) n n,.int .i64 r],73)::(SB,zI (ss),3)::Ot) (⟨.slice wa m wc,m,zN (all),3,1⟩::G) K w) (hm:all.length=m) (hS9:SnOk n r s9 ss all) (hn4:n≤4096) (hx:x < n) :
  Calls prog 44 #[.int .i64 (x:Int),.pointer (some ⟨CX,0,none⟩),.pointer (some ⟨AX,0,none⟩)] w (fun e w'=>∃ (wa:Option Addr) (m wc:Nat) (ss2:List Int),e = .returned (.tuple #[])∧(mtN all x).length=m∧SnOk n r s9 ss2 (mtN all x)∧St w0 ((AX,[.slice wa m wc],25)::(CX,[.pointer (some ⟨RB,0,none⟩)],46)::(RB,[.slice (some ⟨OB,0,none⟩) n n,.slice (some ⟨SB,0,none⟩) n n,.int .i64 r],73)::(SB,zI (ss2),3)::Ot) (⟨.slice wa m wc,m,zN (mtN all x),3,1⟩::G) K w'):=by
 refine bH (args:=[.int .i64 (x:Int),.pointer (some ⟨CX,0,none⟩),.pointer (some ⟨AX,0,none⟩)]) func44 rfl ntmps44 rfl ?_
 have hS:=hS0
 have hln:=hS9.len
 have hle:=hS9.le
 have hat:=hS9.at_ x hx
 refine aF (mJ (m:=12) cX hS (by kernel_rfl) (by kernel_rfl) rfl (dM 1 rfl 1 rfl rfl (fun w hw=>bQ isAgg46 rfl ((aW hw 0).cell (Nat.zero_le _) (aD (hS.at_ 1 rfl) rfl))) rfl (cI 2 rfl 4 0 rfl rfl rfl (fun w hw=>cQ rfl) rfl (cI 3 rfl 5 1 rfl rfl rfl (fun w hw=>cH (o':=1) pO rfl rfl) rfl (cI 4 rfl 6 2 rfl rfl rfl (fun w hw=>bQ isAgg25 rfl ((aW hw 0).cell (Nat.zero_le _) (aD (hS.at_ 2 rfl) rfl))) rfl (dM 5 rfl 0 rfl rfl (fun w hw=>bY rfl) rfl (bR 6 rfl (isV _) (bF _) (rgV (li:=[(7,_),(8,_)]) rfl (bU rfl) ⟨bE 3 (aT rfl rfl rfl),bE 4 (aT rfl rfl rfl),trivial⟩ (fun w hw=>cG (j:=x) underlying25 sizeOf3 rfl rfl (rfl) (by omega) rfl) (bC rfl)) (cI 7 rfl 9 5 rfl rfl rfl (fun w hw=>bQ isAgg3 rfl ((aW hw 0).cell (Nat.zero_le _) (aD (hS.at_ 3 rfl) (dN (by omega))))) rfl (dM 8 rfl 1 rfl rfl (fun w hw=>bQ isAgg46 rfl ((aW hw 0).cell (Nat.zero_le _) (aD (hS.at_ 1 rfl) rfl))) rfl (cI 9 rfl 11 7 rfl rfl rfl (fun w hw=>cQ rfl) rfl (cI 10 rfl 12 8 rfl rfl rfl (fun w hw=>cH (o':=2) jH rfl rfl) rfl (cI 11 rfl 13 9 rfl rfl rfl (fun w hw=>bQ isAgg3 rfl ((aW hw 0).cell (Nat.zero_le _) (aD (hS.at_ 2 rfl) rfl))) rfl (bR 12 rfl (isV _) (bF _) (rgV (li:=[(10,_),(14,_)]) rfl (bU rfl) ⟨bE 6 (aT rfl rfl rfl),bE 10 (aT rfl rfl rfl),trivial⟩ (fun w hw=>jP rfl rfl) (bC rfl)) (fV ?_))))))))))))))
 intro W1 hbR hS'
 clear hS;have hS:=hS';clear hS'
 refine aY (aY (aY (aY (aY (aY (aY (aY (aY (aY (aY (aY (dV (XF.thenN (aV rfl (fun hc=>?_) (fun hc=>?_)))))))))))))))
 ·have hc15:=hc;clear hc
  have hnew:x∉all:=fun h=>(of_decide_eq_true hc15) (hat.2 h)
  have emt:mtN all x=all++[x]:=by unfold mtN;rw [if_neg hnew]
  have hS8:=hS9.new hx hnew
  have hle8:=hS8.le
  rw [List.length_append,List.length_singleton] at hle8
  refine aF (regSL (ef:=10) (jy:=8) (ca:=jB (fun _=>[])) (ta:=fun _=>0) (Os:=osY _ 3 (0+x * 1) SB (zI ss) 3) (Gs:=qQ _) (al:=[]) (k:=11) (ds:=[]) cX rfl hS rfl (by kernel_rfl) rfl (by decide) rfl rfl rfl rfl (cL 1 rfl rfl (isV _) (fun hNo=>sgV [(1,_)] rfl rfl rfl rfl hNo (bU rfl) ⟨fT rfl,trivial⟩ (fun ev w he hw=>bQ isAgg46 rfl ((aD (hw.at_ 1 (lK (i:=1) (j:=3) rfl rfl)) rfl))) (bC rfl)) (cL 2 rfl rfl (isV _) (fun hNo=>sgV [(16,_)] rfl rfl rfl rfl hNo (bU rfl) ⟨bE 0 (aT rfl rfl rfl),trivial⟩ (fun ev w he hw=>cQ rfl) (bC rfl)) (cL 3 rfl rfl (isV _) (fun hNo=>sgV [(17,_)] rfl rfl rfl rfl hNo (bU rfl) ⟨bE 1 (aT rfl rfl rfl),trivial⟩ (fun ev w he hw=>cH (o':=1) pO rfl rfl) (bC rfl)) (cL 4 rfl rfl (isV _) (fun hNo=>sgV [(18,_)] rfl rfl rfl rfl hNo (bU rfl) ⟨bE 2 (aT rfl rfl rfl),trivial⟩ (fun ev w he hw=>bQ isAgg25 rfl ((aD (hw.at_ 2 (lK (i:=2) (j:=3) rfl rfl)) rfl))) (bC rfl)) (cL 5 rfl rfl (isV _) (fun hNo=>sgV [(0,_)] rfl rfl rfl rfl hNo (bU rfl) ⟨fT rfl,trivial⟩ (fun ev w he hw=>bY rfl) (bC rfl)) (cL 6 rfl rfl (isV _) (fun hNo=>sgV [(1,_)] rfl rfl rfl rfl hNo (bU rfl) ⟨fT rfl,trivial⟩ (fun ev w he hw=>bQ isAgg46 rfl ((aD (hw.at_ 1 (lK (i:=1) (j:=3) rfl rfl)) rfl))) (bC rfl)) (cL 7 rfl rfl (isV _) (fun hNo=>sgV [(21,_)] rfl rfl rfl rfl hNo (bU rfl) ⟨bE 5 (aT rfl rfl rfl),trivial⟩ (fun ev w he hw=>cQ rfl) (bC rfl)) (cL 8 rfl rfl (isV _) (fun hNo=>sgV [(22,_)] rfl rfl rfl rfl hNo (bU rfl) ⟨bE 6 (aT rfl rfl rfl),trivial⟩ (fun ev w he hw=>cH (o':=2) jH rfl rfl) (bC rfl)) (cL 9 rfl rfl (isV _) (fun hNo=>sgV [(23,_)] rfl rfl rfl rfl hNo (bU rfl) ⟨bE 7 (aT rfl rfl rfl),trivial⟩ (fun ev w he hw=>bQ isAgg3 rfl ((aD (hw.at_ 2 (lK (i:=2) (j:=3) rfl rfl)) rfl))) (bC rfl)) (cL 10 rfl rfl (isV _) (fun hNo=>sgV [(19,_),(20,_)] rfl rfl rfl rfl hNo (bU rfl) ⟨bE 3 (aT rfl rfl rfl),bE 4 (aT rfl rfl rfl),trivial⟩ (fun ev w he hw=>cG (j:=x) underlying25 sizeOf3 rfl rfl (rfl) (by omega) rfl) (bC rfl)) ?_)))))))))))
  refine pD 11 rfl (eff_stP (py:=isV _) (m:=1) 3 (0+x * 1) [(25,_)] rfl rfl rfl rfl (by kernel_rfl) rfl rfl (fun j hj=>by rcases hj with h | rfl<;>first | (cases h<;>rfl) | rfl) ⟨bE 9 (aT rfl rfl rfl),trivial⟩ rfl rfl sizeOf3 (fun v w e=>⟨[v],by rw [show v=_ from e];rfl,rfl,by rw [show v=_ from e];rfl⟩) (Nat.ble_eq_true_of_le (by rw [dJ];show _+1≤_;omega))) ?_
  refine pC ?_
  intro Bf2 y2 W2 Ks2 hsz2 hKs2 hS' hcov2
  clear hS;have hS:=hS'.castO (O':=(_::_::_::_::Ot)) rfl;clear hS'
  refine sN (L':=[AwS _ _ (isV _),AwS _ _ (isV _),AwS _ _ (isV _),AwS _ _ (isV _),AwS _ _ (isV _),AwS _ _ (isV _),AwS _ _ (isV _),AwS _ _ (isV _),(fun v0_ w0_=>v0_=_∧AwS _ _ (isV _) v0_ w0_),AwS _ _ (isV _),isV _]) rfl (dC (dC (dC (dC (dC (dC (dC (dC ?_))))))))
  refine sH ?_;rintro _ ⟨rfl,hA2⟩;have hA2:=hA2.here;cases hA2
  refine dC (fin_0 ?_)
  have hS:=hS.castO (O':=(_::_::_::(SB,zI (ss.set x r),_)::Ot)) (by show (_::_::_::(SB,cA _ _ [_],_)::_)=_;rw [qX])
  refine dV (aG (XF.thenN (aH (aJ isAgg25 rfl (aD (hS.at_ 0 rfl) rfl) rfl (aA rfl rfl (bL (us:=[(0,.int .i64 _)]) hS underlying25 sizeOf3 zeroValue3 rfl rfl rfl (dP _) rfl fun B3 W3 hS=>?_))))))
  refine dY (i:=0) (news:=[_]) hS underlying25 iF rfl rfl (by show 0 < 1;decide) rfl rfl rfl rfl rfl (aK.own (j:=0) (m:=1) (hS.at_ 0 rfl) rfl) rfl rfl (by dsimp only;simp only [maxLen];omega) (by dsimp only;show _ * 8≤_;omega) rfl fun v4 W4 hS=>?_
  obtain ⟨a9,c9,e9,_⟩:=cM (hS.row 0 rfl)
  dsimp only at e9
  subst e9
  refine bD (i:=1) (cs':=[_]) (O':=(_::_::_::_::_::Ot)) hS sizeOf25 rfl rfl rfl rfl rfl rfl rfl fun W5 hS=>aG (XF.resN (lB results44) ?_)
  have hS7:=hS.tail.castG (G':=(⟨.slice a9 (m+1) c9,(m+1),zN (all++[x]),3,1⟩::G)) (by show GR.mk _ _ (zN all++[Value.int .i64 _]) _ _::_=_;rw [zN_app rfl])
  rw [emt]
  exact ⟨a9,m+1,c9,_,rfl,by simp [hm],hS8,hS7.keep K (fun q hq=>by simp [hq])⟩
 ·have hc15:=hc;clear hc
  have hold:x∈all:=hat.1 (Decidable.of_not_not (of_decide_eq_false hc15))
  have emt:mtN all x=all:=by unfold mtN;rw [if_pos hold]
  refine aP (XF.resN (lB results44) ?_)
  rw [emt]
  exact ⟨wa,m,wc,ss,rfl,hm,hS9,hS.keep K (fun q hq=>by simp [hq])⟩
theorem getI {d:List Int} {t:Nat} (h:t < d.length):(zI d)[t]?=some (.int .i64 d.toArray[t]!):=by
 unfold zI
 rw [List.getElem?_map,List.getElem?_eq_getElem h]
 have h2:d.toArray[t]! = d[t]:=by rw [getElem!_pos d.toArray t (by simpa using h)];simp
 rw [h2];rfl
theorem qY {d:List Int} {cur:Array Value} (hl:d.length≤cur.size):(Go.Sort.putCells (Value.int .i64) 0 d.toArray cur).toList.take d.length=zI d:=by
 apply List.ext_getElem?
 intro t
 by_cases ht:t < d.length
 ·rw [List.getElem?_take_of_lt ht,getI ht,Array.getElem?_toList]
  unfold Go.Sort.putCells
  rw [Array.getElem?_mapIdx,Array.getElem?_eq_getElem (by omega)]
  simp [ht]
 ·rw [List.getElem?_eq_none (by simp;omega),List.getElem?_eq_none (by rw [dJ];omega)]
section
variable {w0 W:World} {O:Own} {G:aU} {K:List (Nat×World)}
theorem qZ {b c m:Nat} {e:TypeId} {d:List Int} {base:Nat} (hd:d.length=m) (h:W.ownsRow base e 1 (.slice (some ⟨b,0,none⟩) m c) m (zI d)):Go.Sort.Holds (Value.int .i64) W b 0 d.toArray:=by
 rcases h.2 with ⟨e1,_⟩ | ⟨g,cap,cur,e1,hg,hh,hn2,hm,hs,ht⟩
 ·cases e1
 ·injection e1 with e1 _ _
  injection e1 with e1
  injection e1 with e1
  subst e1
  intro j hj
  have hj:j < d.length:=by simpa using hj
  have h1:=getI hj
  rw [← ht,List.getElem?_take_of_lt (by omega),Array.getElem?_toList] at h1
  refine ⟨?_,?_⟩
  ·simp only [World.cell?,hh,Nat.zero_add];simpa using h1
  ·simp [World.frozen?,hh]
theorem St.sortedI {b c m:Nat} {e:TypeId} {xs:List Value} (hS:St w0 O (⟨.slice (some ⟨b,0,none⟩) m c,m,xs,e,1⟩::G) K W) (d:List Int) (hd:d.length=m) (q:Nat) (osn:Array Obj) :
  St w0 O (⟨.slice (some ⟨b,0,none⟩) m c,m,zI d,e,1⟩::G) K (Go.Sort.grow (Go.Sort.putRow (Value.int .i64) (Go.Sort.ahead W q) b 0 d.toArray) osn):=by
 have hrow:=hS.row 0 rfl
 have hlt:=(hS.glt (List.mem_cons_self) (b:=b) rfl).2
 have hsz:(Go.Sort.putRow (Value.int .i64) (Go.Sort.ahead W q) b 0 d.toArray).heap.size=W.heap.size:=by simp [Go.Sort.putRow,Go.Sort.mapBlock,Go.Sort.ahead]
 have hat:∀ z,z < W.heap.size→(Go.Sort.grow (Go.Sort.putRow (Value.int .i64) (Go.Sort.ahead W q) b 0 d.toArray) osn).heap[z]?=(Go.Sort.putRow (Value.int .i64) (Go.Sort.ahead W q) b 0 d.toArray).heap[z]?:=fun z hz=>by
  show ((Go.Sort.putRow (Value.int .i64) (Go.Sort.ahead W q) b 0 d.toArray).heap++osn)[z]?=_
  rw [Array.getElem?_append_left (by rw [hsz];exact hz)]
 refine hS.setG 0 rfl (v':=.slice (some ⟨b,0,none⟩) m c) ?_ ⟨rfl,rfl,rfl,by rw [Go.Sort.size_grow,hsz];omega,fun z hz hne=>?_⟩ (.inl rfl)
 ·refine ⟨by rw [dJ];simp [hd],?_⟩
  rcases hrow.2 with ⟨e1,_⟩ | ⟨g,cap,cur,e1,hg,hh,hn2,hm,hs,ht⟩
  ·cases e1
  ·injection e1 with e1 _ e2
   injection e1 with e1
   injection e1 with e1
   subst e1;subst e2
   dsimp only at hs hn2
   refine .inr ⟨b,c,Go.Sort.putCells (Value.int .i64) 0 d.toArray cur,rfl,hg,?_,hn2,hm,?_,?_⟩
   ·rw [hat b hlt]
    simp only [Go.Sort.putRow,Go.Sort.mapBlock,Go.Sort.ahead,Array.getElem?_modify,if_true]
    rw [hh];rfl
   ·simpa [Go.Sort.putCells] using hs
   ·rw [← hd,Nat.mul_one]
    exact qY (by omega)
 ·rw [hat z hz]
  have hne':b≠z:=fun e=>hne (by rw [e];rfl)
  simp [Go.Sort.putRow,Go.Sort.mapBlock,Go.Sort.ahead,Array.getElem?_modify,hne']
end
section
variable {n:Nat} {Q:Exit→Act→World→Prop} {ops:Array Oper} {os:List Oper} {l:Fr} {d:Nat} {ty:TypeId} {pos:String} {aft:Array Edge} {w0 W:World} {O:Own} {G:aU} {K:List (Nat×World)}
theorem tB {x:Operand} {ts:Array TypeId} {wa:Option Addr} {m wc:Nat} {e1:TypeId} {dl:List Int} (hS:St w0 O (⟨.slice wa m wc,m,zI dl,e1,1⟩::G) K W) (hgo:bA prog 45=true) (hx:evL l x=some (.slice wa m wc)) (hdl:dl.length=m) (hn:m < 4611686018427387904) (hd:Nat.blt d n=true)
  (h:∀ W',St w0 O (⟨.slice wa m wc,m,zI (dl.mergeSort fun x y=>decide (x≤y)),e1,1⟩::G) K W'→bG prog n ops Q os ((d,.tuple #[])::l) W'):bG prog n ops Q (⟨some d,.call { callee:=.value (.func 45),args:=#[x],argTypes:=ts },ty,pos,aft,none⟩::os) l W:=by
 have hrow:=hS.row 0 rfl
 rcases Nat.eq_zero_or_pos m with h0 | h0
 ·subst h0
  obtain rfl:dl=[]:=List.eq_nil_of_length_eq_zero hdl
  refine aX (vs:=[.slice wa 0 wc]) hgo (by simp [hx]) (Try.slices_Sort_int_none wa wc W) hd ?_
  rintro e W' ⟨rfl,rfl⟩
  refine ⟨_,rfl,h _ ?_⟩
  simpa using hS
 ·obtain ⟨b,cs,rfl,_⟩:=St.rowOwnE hS h0
  have hlt:=(hS.glt (List.mem_cons_self) (b:=b) rfl).2
  have h1:=Try.slices_Sort_int b 0 wc dl W (qZ hdl hrow) hlt (by omega)
  rw [hdl] at h1
  refine aX (vs:=[.slice (some ⟨b,0,none⟩) m wc]) hgo (by simp [hx]) h1 hd ?_
  rintro e W' ⟨rfl,q,osn,rfl⟩
  exact ⟨_,rfl,h _ (hS.sortedI _ (by rw [List.length_mergeSort];exact hdl) q osn)⟩
end
def nI (l:List Nat):List Int:=l.map (fun (x:Nat)=>(x:Int))
theorem gD {l:List Nat}:(nI l).length=l.length:=List.length_map _
theorem zN_nI {l:List Nat}:zN l=zI (nI l):=by unfold zN zI nI;rw [List.map_map];rfl
theorem mU {all:List Nat} (hn:all.Nodup):∃ l:List Nat,((nI all).mergeSort fun x y=>decide (x≤y))=nI l∧l.Pairwise (· < ·)∧(∀ q,q∈l↔q∈all)∧l.length=all.length:=by
 have hp:=List.mergeSort_perm (nI all) (fun x y=>decide (x≤y))
 have hs:=List.pairwise_mergeSort (le:=fun (x y:Int)=>decide (x≤y)) (fun a b c h1 h2=>by simp at *;omega) (fun a b=>by simp;omega) (nI all)
 have hge:∀ x∈((nI all).mergeSort fun x y=>decide (x≤y)),0≤x:=fun x hx=>by
  obtain ⟨y,_,rfl⟩:=List.mem_map.1 (hp.mem_iff.1 hx)
  omega
 refine ⟨((nI all).mergeSort fun x y=>decide (x≤y)).map Int.toNat,?_,?_,fun q=>?_,?_⟩
 ·unfold nI
  rw [List.map_map]
  conv=>lhs;rw [← List.map_id ((List.map (fun (x:Nat)=>(x:Int)) all).mergeSort fun x y=>decide (x≤y))]
  refine List.map_congr_left fun x hx=>?_
  have:=hge x hx
  show x=((x.toNat:Nat):Int)
  omega
 ·have hnd:((nI all).mergeSort fun x y=>decide (x≤y)).Nodup:=hp.nodup_iff.2 (hn.map (fun (x:Nat)=>(x:Int)) (fun a b h e=>h (by exact Int.ofNat.inj e)))
  rw [List.pairwise_map]
  refine List.Pairwise.imp_of_mem ?_ (hs.and hnd)
  intro a b ha hb h1
  have h2:=of_decide_eq_true h1.1
  have h3:=h1.2
  have:=hge a ha
  have:=hge b hb
  omega
 ·constructor
  ·intro h
   obtain ⟨x,hx,rfl⟩:=List.mem_map.1 h
   obtain ⟨y,hy,rfl⟩:=List.mem_map.1 (hp.mem_iff.1 hx)
   simpa using hy
  ·intro h
   exact List.mem_map.2 ⟨(q:Int),hp.mem_iff.2 (List.mem_map.2 ⟨q,h,rfl⟩),by simp⟩
 ·rw [List.length_map,List.length_mergeSort,gD]
theorem pQ:bA prog 44=true:=by kernel_rfl
theorem goes_45:bA prog 45=true:=by kernel_rfl
theorem mV {P:Program} {l:Fr} {W:World} {d f:Nat} {ty:TypeId} {pos:String} {aft:Array Edge} {x1 x2:Operand} {v1 v2:Value} (h1:evL l x1=some v1) (h2:evL l x2=some v2):cN P l ⟨some d,.makeFunc (.func f) #[] #[x1,x2],ty,pos,aft,none⟩ W (.func (.func f) #[] [v1,v2].toArray) W:=fun ev he=>by
 unfold execOp
 simp only []
 simp [Instr.makeFunc,he _ _ h1,he _ _ h2]
theorem fL {a:Option Addr} {m c:Nat} {zs:List Int} {W:World} (h:jZ ⟨.slice a m c,m,zI zs⟩ W):Row W a zs:=by
 obtain ⟨a2,c2,e,hc,hx⟩:=h
 dsimp only at e hx
 obtain rfl:a=a2:=by injection e
 cases zs with
 | nil=>exact .inl rfl
 | cons y zs =>
  obtain ⟨b,rfl,_⟩:=hx 0 _ rfl
  refine .inr ⟨b,0,rfl,fun i hi=>?_⟩
  obtain ⟨b2,e9,h9⟩:=hx i (.int .i64 ((y::zs).getD i 0)) (by unfold zI;rw [List.getElem?_map,List.getElem?_eq_getElem hi,List.getD_eq_getElem?_getD,List.getElem?_eq_getElem hi];rfl)
  obtain rfl:b=b2:=by simpa using e9
  exact h9
def CLz (L:List ArV) (all:List Nat) (i:Nat):Prop:=∀ (j p q:Nat),j < i→all[j]?=some p→E1 L p q→q∈all
theorem CLz.mt {L:List ArV} {all:List Nat} {i x:Nat} (h:CLz L all i) (hi:i≤all.length):CLz L (mtN all x) i:=fun j p q hj hp he=>by
 rw [pP (by omega)] at hp
 exact gJ.2 (.inl (h j p q hj hp he))
theorem CLz.next {L:List ArV} {all:List Nat} {i p:Nat} (h:CLz L all i) (hp:all[i]?=some p) (hq:∀ t∈outs L p,t.s = -1→t.q.toNat∈all):CLz L all (i+1):=fun j p2 q hj hp2 he=>by
 rcases Nat.lt_or_ge j i with h9 | h9
 ·exact h j p2 q h9 hp2 he
 ·obtain rfl:j=i:=by omega
  obtain rfl:p=p2:=Option.some.inj (hp.symm.trans hp2)
  obtain ⟨t,ht,e1,e2,e3⟩:=he
  have:=hq t (List.mem_filter.2 ⟨ht,by simpa using e1⟩) e2
  rw [e3] at this
  simpa using this
theorem pR (y:Int) (n:Nat) (r:Int) (s9 ss:List Int) (all:List Nat) (AX CX RB SB OB:Nat) (wa:Option Addr) (m wc x:Nat) (Ot:Own) (G:aU) (K:List (Nat×World)) (w0 w:World) (hy:y=(x:Int)) (hS0:St w0 ((AX,[.slice wa m wc],25)::(CX,[.pointer (some ⟨RB,0,none⟩)],46)::(RB,[.slice (some ⟨OB,0,none⟩) n n,.slice (some ⟨SB,0,none⟩) n n,.int .i64 r],73)::(SB,zI (ss),3)::Ot) (⟨.slice wa m wc,m,zN (all),3,1⟩::G) K w) (hm:all.length=m) (hS9:SnOk n r s9 ss all) (hn4:n≤4096) (hx:x < n):Calls prog 44 #[.int .i64 y,.pointer (some ⟨CX,0,none⟩),.pointer (some ⟨AX,0,none⟩)] w (fun e w'=>∃ (wa:Option Addr) (m wc:Nat) (ss2:List Int),e = .returned (.tuple #[])∧(mtN all x).length=m∧SnOk n r s9 ss2 (mtN all x)∧St w0 ((AX,[.slice wa m wc],25)::(CX,[.pointer (some ⟨RB,0,none⟩)],46)::(RB,[.slice (some ⟨OB,0,none⟩) n n,.slice (some ⟨SB,0,none⟩) n n,.int .i64 r],73)::(SB,zI (ss2),3)::Ot) (⟨.slice wa m wc,m,zN (mtN all x),3,1⟩::G) K w'):=by
 subst hy;exact tA n r s9 ss all AX CX RB SB OB wa m wc x Ot G K w0 w hS0 hm hS9 hn4 hx
theorem kA (n:Nat) (L:List ArV) (OB:Nat) (va:Nat→Option Addr) (vc:Nat→Nat) (RB SB:Nat) (r0 r:Int) (s9:List Int) (la:Option Addr) (ll lc:Nat) (ls:List Int) (Kt:List (Nat×World)) (Ot:Own) (G:aU) (K:List (Nat×World)) (w0 w:World) (hS0:St w0 ((RB,[.slice (some ⟨OB,0,none⟩) n n,.slice (some ⟨SB,0,none⟩) n n,.int .i64 r0],73)::(SB,zI s9,3)::Ot) G K w) (hKt:∀ q∈Kt,q∈K) (hOut:bV w0 Kt (fun W=>iK W OB n L va vc)) (hLs:bV w0 Kt (fun W=>Row W la ls)) (hll:ls.length=ll) (hlm:ll≤9223372036854775807) (hlt:∀ y∈ls,0≤y∧y < (n:Int)) (hq:∀ t∈L,0≤t.q∧t.q < (n:Int)) (hLl:L.length≤65536) (hs9:s9.length=n) (hr:IntKind.i64.wrap (r0+1)=r) (hfr:∀ x∈s9,x≠r) (hn4:n≤4096) :
  Calls prog 25 #[.pointer (some ⟨RB,0,none⟩),.slice la ll lc] w (fun e w'=>∃ (l:List Nat) (wa:Option Addr) (wc:Nat) (ss2:List Int),IsH L (fun q:Nat=>(q:Int)∈ls) l∧e = .returned (.slice wa l.length wc)∧l.length≤n∧ss2.length=n∧(∀ x∈ss2,x∈s9∨x=r)∧St w0 ((RB,[.slice (some ⟨OB,0,none⟩) n n,.slice (some ⟨SB,0,none⟩) n n,.int .i64 r],73)::(SB,zI ss2,3)::Ot) (⟨.slice wa l.length wc,l.length,zI (nI l),3,1⟩::G) K w'):=by
 refine bH (args:=[.pointer (some ⟨RB,0,none⟩),.slice la ll lc]) func25 rfl ntmps25 rfl ?_
 have hS:=hS0
 refine aF (aH (bZ (cs:=[_]) hS rfl rfl rfl fun B1 W1 hS=>aB rfl rfl (aG (XF.thenN (aF (aH (aJ isAgg46 rfl (aD (hS.at_ 0 rfl) rfl) rfl (bM rfl rfl (aI (o':=2) jH rfl rfl rfl (aJ isAgg3 rfl (aD (hS.at_ 1 rfl) rfl) rfl (aS rfl rfl (hr) rfl (bM rfl rfl (aI (o':=2) jH rfl rfl rfl (bD (i:=1) (cs':=[_,_,_]) (O':=(_::_::_::Ot)) hS sizeOf3 rfl rfl rfl rfl rfl rfl rfl fun W2 hS=>aG (XF.thenN (aF (aH (bP (cs:=[_]) hS zeroValue25 rfl rfl fun B3 W3 hS=>aG (XF.thenN (aF (aH (opV (mV rfl rfl) rfl (aB rfl rfl (aG (XF.thenN (aF (aF ?_)))))))))))))))))))))))))))
 have hS':=hS.newG 3 1;clear hS;have hS:=hS';clear hS'
 have hSn0:SnOk n r s9 s9 []:=SnOk.start hs9 hfr
 refine aH (aA rfl rfl (bN underlying25 rfl rfl (aA rfl rfl (aG (XF.thenN (aM (cB (fun m l W=>∃ (i ml:Nat) (wa:Option Addr) (wc:Nat) (ss:List Int) (all:List Nat),i≤ll∧m=ll - i∧l=[(2,.pointer (some ⟨B1,0,none⟩)),(5,.pointer (some ⟨B3,0,none⟩)),(6,.func (.func 44) #[] [.pointer (some ⟨B1,0,none⟩),.pointer (some ⟨B3,0,none⟩)].toArray),(20,.slice la ll lc),(21,.int .i64 (ll:Int)),(22,.int .i64 (i:Int))]∧all.length=ml∧SnOk n r s9 ss all∧(∀ q:Nat,q∈all↔(q:Int)∈ls.take i)∧St w0 ((B3,[.slice wa ml wc],25)::(B1,[.pointer (some ⟨RB,0,none⟩)],46)::(RB,[.slice (some ⟨OB,0,none⟩) n n,.slice (some ⟨SB,0,none⟩) n n,.int .i64 r],73)::(SB,zI (ss),3)::Ot) (⟨.slice wa ml wc,ml,zN (all),3,1⟩::G) K W) (ll - 0) ([(2,_),(5,_),(6,_),(20,_),(21,_),(22,_)]) ⟨rfl,rfl,rfl,rfl,rfl,rfl,trivial⟩ (⟨0,0,none,0,s9,[],Nat.zero_le _,rfl,rfl,rfl,hSn0,by simp,hS.keep K (fun q hq=>by simp [hq])⟩) ?_)))))))
 clear hS
 rintro m l W ⟨i,ml,wa,wc,ss,all,hi,rfl,rfl,hml,hSn,hin,hS⟩
 refine aF (aH (bB rfl rfl rfl (aG (XF.thenN (aF (aV rfl (fun hc=>?_) (fun hc=>?_)))))))
 ·have hc23:=of_decide_eq_true hc;clear hc
  obtain ⟨b,off,y,hla,hy,hyc⟩:=(hLs (hS.keep K (fun q hq=>by simp [hq])) hKt).at1 (show i < ls.length by omega)
  obtain ⟨hy0,hy1⟩:=hlt y (List.mem_of_getElem? hy)
  obtain ⟨yn,hyn⟩:∃ k:Nat,y=(k:Int):=⟨y.toNat,by omega⟩
  refine aP (XF.thenN (aF (aM (aF (aH ?_)))))
  refine aL (j:=i) (b:=b) (o:=off) (m:=ll) (c:=lc) underlying25 sizeOf3 (by show some (Value.slice _ _ _)=_;rw [hla]) rfl rfl (by omega) rfl rfl ?_
  refine aJ isAgg3 rfl (hyc) rfl (aB rfl rfl (aG (XF.thenN (aH (aA rfl rfl (aA rfl rfl (iI (vs:=[_]) (caps:=[_,_]) rfl pQ rfl (pR y n r s9 ss all B3 B1 RB SB OB wa ml wc yn _ G K w0 _ hyn (hS.keep K (fun q hq=>by simp [hq])) hml hSn hn4 (by omega)) rfl ?_)))))))
  rintro e W9 ⟨wa2,ml2,wc2,ss2,rfl,hml2,hSn2,hS9⟩
  refine ⟨_,rfl,?_⟩
  clear hS;have hS:=hS9;clear hS9
  refine aG (XF.blkN (XF.thenN (aH (aS rfl rfl (IntWalk.i64_in _ (by omega)) rfl (aA rfl rfl (aG ?_))))))
  exact XF.round (ll - (i+1)) [(2,_),(5,_),(6,_),(20,_),(21,_),(22,_)] (by omega) ⟨rfl,rfl,rfl,rfl,rfl,rfl,trivial⟩ ⟨i+1,ml2,wa2,wc2,ss2,mtN all yn,by omega,rfl,rfl,hml2,hSn2,fun q=>(by rw [gJ,hin,List.take_add_one,hy,List.mem_append];simp [hyn];constructor<;>rintro (h | h)<;>first | exact .inl h | exact .inr (by omega)),hS.keep K (fun q hq=>by simp [hq])⟩
 ·have hc23:=of_decide_eq_false hc;clear hc
  rw [List.take_of_length_le (by omega)] at hin
  refine bS (XF.thenX (XF.thenX (XF.blkX (XF.thenN (aF (aF (aH (aB rfl rfl (aG (XF.thenN (aM (cB (fun m l W=>∃ (i ml:Nat) (wa:Option Addr) (wc:Nat) (ss:List Int) (all:List Nat),i≤ml∧m=n - i∧l=[(2,.pointer (some ⟨B1,0,none⟩)),(5,.pointer (some ⟨B3,0,none⟩)),(6,.func (.func 44) #[] [.pointer (some ⟨B1,0,none⟩),.pointer (some ⟨B3,0,none⟩)].toArray),(9,.int .i64 (i:Int))]∧all.length=ml∧SnOk n r s9 ss all∧(∀ q∈all,Hd L (fun q:Nat=>(q:Int)∈ls) q)∧(∀ q:Nat,(q:Int)∈ls→q∈all)∧CLz L all i∧St w0 ((B3,[.slice wa ml wc],25)::(B1,[.pointer (some ⟨RB,0,none⟩)],46)::(RB,[.slice (some ⟨OB,0,none⟩) n n,.slice (some ⟨SB,0,none⟩) n n,.int .i64 r],73)::(SB,zI (ss),3)::Ot) (⟨.slice wa ml wc,ml,zN (all),3,1⟩::G) K W) (n - 0) ([(2,_),(5,_),(6,_),(9,_)]) ⟨rfl,rfl,rfl,rfl,trivial⟩ (⟨0,ml,wa,wc,ss,all,Nat.zero_le _,rfl,rfl,hml,hSn,fun q hq=>.base ((hin q).1 hq),fun q hq=>(hin q).2 hq,fun j p q hj=>absurd hj (Nat.not_lt_zero _),hS.keep K (fun q hq=>by simp [hq])⟩) ?_))))))))))))
  clear hS
  rintro m l W ⟨i,ml,wa,wc,ss,all,hi,rfl,rfl,hml,hSn,hh1,hh2,hcl,hS⟩
  have hlen:=hSn.le
  refine aF (aF (aH (aA rfl rfl (aJ isAgg25 rfl (aD (hS.at_ 0 rfl) rfl) rfl (bN underlying25 rfl rfl (bB rfl rfl rfl (aG (XF.thenN (aV rfl (fun hc=>?_) (fun hc=>?_))))))))))
  ·have hc33:=of_decide_eq_true hc;clear hc
   obtain ⟨p,hp⟩:∃ p,all[i]?=some p:=⟨_,List.getElem?_eq_getElem (by omega)⟩
   have hpn:=hSn.lt p (List.mem_of_getElem? hp)
   obtain ⟨sb,rfl⟩:=iG (hS.row 0 rfl) (by omega)
   have hmc:W.cell? ⟨sb,0+i * 1,none⟩=some (.int .i64 (p:Int)):=by
    rw [Nat.zero_add,Nat.mul_one]
    exact eT (hS.row 0 rfl) (k:=i) (by show (zN _)[i]?=_;unfold zN;rw [List.getElem?_map,hp];rfl)
   obtain ⟨hoc,_⟩:=hOut (hS.keep K (fun q hq=>by simp [hq])) hKt p hpn
   have hol9:(outs L p).length≤65536:=Nat.le_trans (List.length_filter_le _ _) hLl
   refine aP (XF.thenN (aF (aM (aF (mJ (m:=12) cX hS (by kernel_rfl) (by kernel_rfl) rfl (dM 1 rfl 2 rfl rfl (fun w hw=>bQ isAgg46 rfl ((aW hw 0).cell (Nat.zero_le _) (aD (hS.at_ 1 rfl) rfl))) rfl (cI 2 rfl 36 0 rfl rfl rfl (fun w hw=>cQ rfl) rfl (cI 3 rfl 37 1 rfl rfl rfl (fun w hw=>cH (o':=0) gI rfl rfl) rfl (cI 4 rfl 38 2 rfl rfl rfl (fun w hw=>bQ isAgg71 rfl ((aW hw 0).cell (Nat.zero_le _) (aD (hS.at_ 2 rfl) rfl))) rfl (dM 5 rfl 5 rfl rfl (fun w hw=>bQ isAgg25 rfl ((aW hw 0).cell (Nat.zero_le _) (aD (hS.at_ 0 rfl) rfl))) rfl (dM 6 rfl 9 rfl rfl (fun w hw=>bY rfl) rfl (bR 7 rfl (isV _) (bF _) (rgV (li:=[(40,_),(41,_)]) rfl (bU rfl) ⟨bE 4 (aT rfl rfl rfl),bE 5 (aT rfl rfl rfl),trivial⟩ (fun w hw=>cG (j:=i) (b:=sb) (o:=0) (m:=ml) (c:=wc) underlying25 sizeOf3 rfl rfl rfl (by omega) rfl) (bC rfl)) (cI 8 rfl 42 6 rfl rfl rfl (fun w hw=>bQ isAgg3 rfl ((aW hw 0).cell (Nat.zero_le _) (hmc))) rfl (bR 9 rfl (isV _) (bF _) (rgV (li:=[(39,_),(43,_)]) rfl (bU rfl) ⟨bE 3 (aT rfl rfl rfl),bE 7 (aT rfl rfl rfl),trivial⟩ (fun w hw=>cG (j:=p) (b:=OB) (o:=0) (m:=n) (c:=n) underlying71 sizeOf22 rfl rfl rfl (by omega) rfl) (bC rfl)) (cI 10 rfl 44 8 rfl rfl rfl (fun w hw=>bQ isAgg22 rfl ((aW hw 0).cell (Nat.zero_le _) (hoc))) rfl (cI 11 rfl 45 9 rfl rfl rfl (fun w hw=>rY underlying22 rfl) rfl (bR 12 rfl (isV _) (bF _) (rgV (li:=[]) rfl (bU rfl) trivial (fun w hw=>bY rfl) (bC rfl)) (fV ?_))))))))))))))))))
   intro W4 hbR hS'
   clear hS;have hS:=hS';clear hS'
   refine aY (aY (aY (aY (aY (aY (aY (aY (aY (aY (aY (aY (dV (XF.thenN (aM (cB (fun m l W=>∃ (x ml:Nat) (wa:Option Addr) (wc:Nat) (ss:List Int) (all:List Nat),x≤(outs L p).length∧m=(outs L p).length - x∧l=[(2,.pointer (some ⟨B1,0,none⟩)),(5,.pointer (some ⟨B3,0,none⟩)),(6,.func (.func 44) #[] [.pointer (some ⟨B1,0,none⟩),.pointer (some ⟨B3,0,none⟩)].toArray),(9,.int .i64 (i:Int)),(45,.slice (va p) (outs L p).length (vc p)),(46,.int .i64 ((outs L p).length:Int)),(47,.int .i64 (x:Int))]∧all.length=ml∧i < ml∧all[i]?=some p∧SnOk n r s9 ss all∧(∀ q∈all,Hd L (fun q:Nat=>(q:Int)∈ls) q)∧(∀ q:Nat,(q:Int)∈ls→q∈all)∧CLz L all i∧(∀ t∈(outs L p).take x,t.s = -1→t.q.toNat∈all)∧St w0 ((B3,[.slice wa ml wc],25)::(B1,[.pointer (some ⟨RB,0,none⟩)],46)::(RB,[.slice (some ⟨OB,0,none⟩) n n,.slice (some ⟨SB,0,none⟩) n n,.int .i64 r],73)::(SB,zI (ss),3)::Ot) (⟨.slice wa ml wc,ml,zN (all),3,1⟩::G) K W) ((outs L p).length - 0) ([(2,_),(5,_),(6,_),(9,_),(45,_),(46,_),(47,_)]) ⟨rfl,rfl,rfl,rfl,rfl,rfl,rfl,trivial⟩ (⟨0,ml,some ⟨sb,0,none⟩,wc,ss,all,Nat.zero_le _,rfl,rfl,hml,by omega,hp,hSn,hh1,hh2,hcl,fun t ht=>(by cases ht),hS.keep K (fun q hq=>by simp [hq])⟩) ?_)))))))))))))))
   clear hS
   clear hmc hoc hp hh1 hh2 hcl hSn hml hlen hi
   rintro m l W ⟨x,ml,wa,wc,ss,all,hx,rfl,rfl,hml,hil,hp,hSn,hh1,hh2,hcl,hdo,hS⟩
   have hlen:=hSn.le
   refine aF (aH (bB rfl rfl rfl (aG (XF.thenN (aF (aV rfl (fun hc=>?_) (fun hc=>?_)))))))
   ·have hc48:=of_decide_eq_true hc;clear hc
    obtain ⟨t,ht⟩:∃ t,(outs L p)[x]?=some t:=⟨_,List.getElem?_eq_getElem (by omega)⟩
    obtain ⟨b,off,haa,hcs⟩:=(hOut (hS.keep K (fun q hq=>by simp [hq])) hKt p hpn).2 x t ht
    have k1:=hcs
    have htm:=List.mem_filter.1 (List.mem_of_getElem? ht)
    have htf:t.f=(p:Int):=of_decide_eq_true htm.2
    obtain ⟨hq0,hq1⟩:=hq t htm.1
    obtain ⟨qn,hqn⟩:∃ k:Nat,t.q=(k:Int):=⟨t.q.toNat,by omega⟩
    refine aP (XF.thenN (aF (aM (aF (aH ?_)))))
    refine aL (j:=x) (b:=b) (o:=off) (m:=(outs L p).length) (c:=vc p) underlying22 sizeOf57 (by show some (Value.slice _ _ _)=_;rw [haa]) rfl rfl (by omega) rfl rfl ?_
    refine aQ (vs:=[_,_,_]) isAgg57 sizeOf57 rfl k1 rfl (bP (cs:=[_,_,_]) hS zeroValue57 rfl rfl fun B5 W5 hS=>bO (i:=0) (vs:=[_,_,_]) (cs':=[_,_,_]) (O':=(_::_::_::_::_::Ot)) hS sizeOf57 rfl rfl rfl rfl rfl rfl rfl fun W6 hS=>aG (XF.thenN (aF (aH (aI (o':=1) cS rfl rfl rfl (aJ isAgg3 rfl (aD (hS.at_ 0 rfl) rfl) rfl (dB rfl rfl rfl (aG (XF.thenN (aV rfl (fun hc=>?_) (fun hc=>?_)))))))))))
    ·have hc53:=of_decide_eq_true hc;clear hc
     refine aH (aA rfl rfl (aI (o':=2) cU rfl rfl rfl (aJ isAgg3 rfl (aD (hS.at_ 0 rfl) rfl) rfl (iI (vs:=[_]) (caps:=[_,_]) rfl pQ rfl (pR t.q n r s9 ss all B3 B1 RB SB OB wa ml wc qn _ G K w0 _ hqn (hS.tail.keep K (fun q hq=>by simp [hq])) hml hSn hn4 (by omega)) rfl ?_))))
     rintro e W9 ⟨wa2,ml2,wc2,ss2,rfl,hml2,hSn2,hS9⟩
     refine ⟨_,rfl,?_⟩
     clear hS;have hS:=hS9;clear hS9
     refine aG (XF.blkN (XF.thenN (aH (aS rfl rfl (IntWalk.i64_in _ (by omega)) rfl (aA rfl rfl (aG ?_))))))
     have hs1:t.s = -1:=by simpa using hc53
     exact XF.round ((outs L p).length - (x+1)) [(2,_),(5,_),(6,_),(9,_),(45,_),(46,_),(47,_)] (by omega) ⟨rfl,rfl,rfl,rfl,rfl,rfl,rfl,trivial⟩ ⟨x+1,ml2,wa2,wc2,ss2,mtN all qn,by omega,rfl,rfl,hml2,by have:=mtN_len (all:=all) (x:=qn);omega,by rw [pP (by omega)];exact hp,hSn2,fun q hq=>(gJ.1 hq).elim (hh1 q) (fun e=>by rw [e];exact .arc (hh1 p (List.mem_of_getElem? hp)) ⟨t,htm.1,htf,hs1,hqn⟩),fun q hq=>gJ.2 (.inl (hh2 q hq)),hcl.mt (by omega),fun t2 ht2 e2=>(by
      rw [List.take_add_one,ht] at ht2
      rcases List.mem_append.1 ht2 with h9 | h9
      ·exact gJ.2 (.inl (hdo t2 h9 e2))
      ·obtain rfl:t2=t:=by simpa using h9
       exact gJ.2 (.inr (by rw [hqn];rfl))),hS.keep K (fun q hq=>by simp [hq])⟩
    ·have hc53:=of_decide_eq_false hc;clear hc
     refine aP (XF.blkN (XF.thenN (aH (aS rfl rfl (IntWalk.i64_in _ (by omega)) rfl (aA rfl rfl (aG ?_))))))
     have hs1:¬ t.s = -1:=by simpa using hc53
     exact XF.round ((outs L p).length - (x+1)) [(2,_),(5,_),(6,_),(9,_),(45,_),(46,_),(47,_)] (by omega) ⟨rfl,rfl,rfl,rfl,rfl,rfl,rfl,trivial⟩ ⟨x+1,ml,wa,wc,ss,all,by omega,rfl,rfl,hml,hil,hp,hSn,hh1,hh2,hcl,fun t2 ht2 e2=>(by
      rw [List.take_add_one,ht] at ht2
      rcases List.mem_append.1 ht2 with h9 | h9
      ·exact hdo t2 h9 e2
      ·obtain rfl:t2=t:=by simpa using h9
       exact absurd e2 hs1),hS.tail.keep K (fun q hq=>by simp [hq])⟩
   ·have hc48:=of_decide_eq_false hc;clear hc
    rw [List.take_of_length_le (by omega)] at hdo
    refine bS (XF.thenX (XF.thenX (XF.blkX (XF.blkN (XF.thenN (aH (aA rfl rfl (aS rfl rfl (IntWalk.i64_in _ (by omega)) rfl (aB rfl rfl (aG ?_))))))))))
    exact XF.round (n - (i+1)) [(2,_),(5,_),(6,_),(9,_)] (by omega) ⟨rfl,rfl,rfl,rfl,trivial⟩ ⟨i+1,ml,wa,wc,ss,all,by omega,rfl,rfl,hml,hSn,hh1,hh2,hcl.next hp hdo,hS.keep K (fun q hq=>by simp [hq])⟩
  ·have hc33:=of_decide_eq_false hc;clear hc
   have eim:i=ml:=by omega
   obtain ⟨l9,hso,hup,hmem,hlen9⟩:=mU hSn.nd
   have hH:IsH L (fun q:Nat=>(q:Int)∈ls) l9:=⟨hup,fun q=>by
    rw [hmem]
    exact hd_of hh1 hh2 (fun p hp q he=>by
     obtain ⟨j,hj⟩:=List.getElem?_of_mem hp
     exact hcl j p q (by have:=(List.getElem?_eq_some_iff.1 hj).1;omega) hj he) q⟩
   rw [zN_nI] at hS
   refine bS (XF.thenX (XF.thenX (XF.blkX (XF.thenN (aF (aH (aJ isAgg25 rfl (aD (hS.at_ 0 rfl) rfl) rfl ?_)))))))
   refine tB hS goes_45 rfl (by rw [gD];exact hml) (by omega) rfl ?_
   intro W9 hS9
   rw [hso] at hS9
   clear hS;have hS:=hS9;clear hS9
   refine aG (XF.thenN (aF (aH (aJ isAgg25 rfl (aD (hS.at_ 0 rfl) rfl) rfl (aB rfl rfl (aG (XF.thenN (bK (XF.res (bT results25 rfl) ?_)))))))))
   have hl9:l9.length=ml:=by rw [hlen9,hml]
   subst hl9
   exact ⟨l9,wa,wc,ss,hH,rfl,by omega,hSn.len,hSn.from_,(hS.keep K (fun q hq=>by simp [hq])).tail.tail⟩
theorem gK (n:Nat) (L:List ArV) (OB:Nat) (va:Nat→Option Addr) (vc:Nat→Nat) (RB SB:Nat) (r0 r:Int) (s9:List Int) (la:Option Addr) (ll lc:Nat) (ls:List Int) (Kt:List (Nat×World)) (Ot:Own) (G:aU) (K:List (Nat×World)) (w0 w:World) (hS0:St w0 ((RB,[.slice (some ⟨OB,0,none⟩) n n,.slice (some ⟨SB,0,none⟩) n n,.int .i64 r0],73)::(SB,zI s9,3)::Ot) G K w) (hKt:∀ q∈Kt,q∈K) (hOut:bV w0 Kt (fun W=>iK W OB n L va vc)) (hLs:bV w0 Kt (fun W=>Row W la ls)) (hll:ls.length=ll) (hlm:ll≤9223372036854775807) (hlt:∀ y∈ls,0≤y∧y < (n:Int)) (hq:∀ t∈L,0≤t.q∧t.q < (n:Int)) (hLl:L.length≤65536) (hs9:s9.length=n) (hr:IntKind.i64.wrap (r0+1)=r) (hfr:∀ x∈s9,x≠r) (hn4:n≤4096) :
  Calls prog 25 #[.pointer (some ⟨RB,0,none⟩),.slice la ll lc] w (fun e w'=>∃ (l:List Nat) (wa:Option Addr) (wc:Nat) (ss2:List Int) (Kn:List (Nat×World)),IsH L (fun q:Nat=>(q:Int)∈ls) l∧e = .returned (.slice wa l.length wc)∧l.length≤n∧ss2.length=n∧(∀ x∈ss2,x∈s9∨x=r)∧(∀ q∈K,q∈Kn)∧bV w0 Kn (fun W=>Row W wa (nI l))∧St w0 ((RB,[.slice (some ⟨OB,0,none⟩) n n,.slice (some ⟨SB,0,none⟩) n n,.int .i64 r],73)::(SB,zI ss2,3)::Ot) G Kn w'):=by
 refine (kA n L OB va vc RB SB r0 r s9 la ll lc ls Kt Ot G K w0 w hS0 hKt hOut hLs hll hlm hlt hq hLl hs9 hr hfr hn4).mono ?_
 rintro e w1 ⟨l,wa,wc,ss,hH,rfl,h1,h2,h3,hS⟩
 obtain ⟨K1,k1,g1,hS1⟩:=St.rowKeepN (o:=⟨.slice wa l.length wc,l.length,zI (nI l)⟩) hS
 exact ⟨l,wa,wc,ss,K1,hH,rfl,h1,h2,h3,k1,fun h9 hk9=>fL (g1 h9 hk9),hS1⟩
theorem iL:bA prog 25=true:=by kernel_rfl
theorem IsH.congr {L:List ArV} {P R:Nat→Prop} {l:List Nat} (h:IsH L P l) (e:∀ q,P q↔R q):IsH L R l:=⟨h.up,fun q=>by
 rw [h.at_]
 exact ⟨Hd.mono fun q h1=>(e q).1 h1,Hd.mono fun q h1=>(e q).2 h1⟩⟩
def ToK (L:List ArV) (x:Int) (lp:List Nat) (i p z:Nat) (tos:List Int):Prop:=∀ y:Int,y∈tos↔(∃ p2∈lp.take i,∃ t∈outs L p2,(t.s=x∨t.s = -2)∧t.q=y)∨∃ t∈(outs L p).take z,(t.s=x∨t.s = -2)∧t.q=y
section
variable {L:List ArV} {x:Int} {lp:List Nat} {i p z:Nat} {tos:List Int} {t:ArV}
theorem ToK.start:ToK L x lp 0 p 0 []:=fun y=>by simp
theorem ToK.any {p2:Nat} (h:ToK L x lp i p 0 tos):ToK L x lp i p2 0 tos:=fun y=>by rw [h y];simp
theorem ToK.yes (h:ToK L x lp i p z tos) (ht:(outs L p)[z]?=some t) (hs:t.s=x∨t.s = -2):ToK L x lp i p (z+1) (tos++[t.q]):=fun y=>by
 rw [List.mem_append,h y,List.mem_singleton,List.take_add_one,ht]
 constructor
 ·rintro ((h1 | ⟨t2,h2,h3⟩) | rfl)
  ·exact .inl h1
  ·exact .inr ⟨t2,List.mem_append_left _ h2,h3⟩
  ·exact .inr ⟨t,List.mem_append_right _ (by simp),hs,rfl⟩
 ·rintro (h1 | ⟨t2,h2,h3⟩)
  ·exact .inl (.inl h1)
  ·rcases List.mem_append.1 h2 with h2 | h2
   ·exact .inl (.inr ⟨t2,h2,h3⟩)
   ·obtain rfl:t2=t:=by simpa using h2
    exact .inr h3.2.symm
theorem ToK.no (h:ToK L x lp i p z tos) (ht:(outs L p)[z]?=some t) (hs:¬ (t.s=x∨t.s = -2)):ToK L x lp i p (z+1) tos:=fun y=>by
 rw [h y,List.take_add_one,ht]
 constructor
 ·rintro (h1 | ⟨t2,h2,h3⟩)
  ·exact .inl h1
  ·exact .inr ⟨t2,List.mem_append_left _ h2,h3⟩
 ·rintro (h1 | ⟨t2,h2,h3⟩)
  ·exact .inl h1
  ·rcases List.mem_append.1 h2 with h2 | h2
   ·exact .inr ⟨t2,h2,h3⟩
   ·obtain rfl:t2=t:=by simpa using h2
    exact absurd h3.1 hs
theorem ToK.next (h:ToK L x lp i p (outs L p).length tos) (hp:lp[i]?=some p):ToK L x lp (i+1) 0 0 tos:=fun y=>by
 rw [h y,List.take_of_length_le (Nat.le_refl _),List.take_add_one,hp]
 constructor
 ·rintro (⟨p2,h1,h2⟩ | h2)
  ·exact .inl ⟨p2,List.mem_append_left _ h1,h2⟩
  ·exact .inl ⟨p,List.mem_append_right _ (by simp),h2⟩
 ·rintro (⟨p2,h1,h2⟩ | ⟨t2,h2,_⟩)
  ·rcases List.mem_append.1 h1 with h1 | h1
   ·exact .inl ⟨p2,h1,h2⟩
   ·obtain rfl:p2=p:=by simpa using h1
    exact .inr h2
  ·cases h2
theorem ToK.end_ (h:ToK L x lp lp.length 0 0 tos) (q:Nat):(q:Int)∈tos↔By9 L x (fun q=>q∈lp) q:=by
 rw [h (q:Int),List.take_of_length_le (Nat.le_refl _)]
 constructor
 ·rintro (⟨p,h1,t,h2,h3,h4⟩ | ⟨t2,h2,_⟩)
  ·obtain ⟨h5,h6⟩:=List.mem_filter.1 h2
   exact ⟨p,h1,t,h5,of_decide_eq_true h6,h3,h4⟩
  ·cases h2
 ·rintro ⟨p,h1,t,h5,h6,h3,h4⟩
  exact .inl ⟨p,h1,t,List.mem_filter.2 ⟨h5,by simpa using h6⟩,h3,h4⟩
theorem ToK.inL (h:ToK L x lp i 0 0 tos) {y:Int} (hy:y∈tos):∃ t∈L,t.q=y:=by
 rcases (h y).1 hy with ⟨p,h1,t,h2,h3,h4⟩ | ⟨t2,h2,_⟩
 ·exact ⟨t,(List.mem_filter.1 h2).1,h4⟩
 ·cases h2
end
theorem kU (n:Nat) (L:List ArV) (OB:Nat) (va:Nat→Option Addr) (vc:Nat→Nat) (RB SB:Nat) (r0 r:Int) (s9:List Int) (la:Option Addr) (ll lc:Nat) (lp:List Nat) (x:Int) (Kt:List (Nat×World)) (Ot:Own) (G:aU) (K:List (Nat×World)) (w0 w:World) (hS0:St w0 ((RB,[.slice (some ⟨OB,0,none⟩) n n,.slice (some ⟨SB,0,none⟩) n n,.int .i64 r0],73)::(SB,zI s9,3)::Ot) G K w) (hKt:∀ q∈Kt,q∈K) (hOut:bV w0 Kt (fun W=>iK W OB n L va vc)) (hLs:bV w0 Kt (fun W=>Row W la (nI lp))) (hll:lp.length=ll) (hln:ll≤n) (hlt:∀ p∈lp,p < n) (hq:∀ t∈L,0≤t.q∧t.q < (n:Int)) (hLl:L.length≤65536) (hs9:s9.length=n) (hr:IntKind.i64.wrap (r0+1)=r) (hfr:∀ x∈s9,x≠r) (hn4:n≤4096) :
  Calls prog 30 #[.pointer (some ⟨RB,0,none⟩),.int .i64 x,.slice la ll lc] w (fun e w'=>∃ (l:List Nat) (wa:Option Addr) (wc:Nat) (ss2:List Int) (Kn:List (Nat×World)),IsH L (By9 L x (fun q=>q∈lp)) l∧e = .returned (.slice wa l.length wc)∧l.length≤n∧ss2.length=n∧(∀ x∈ss2,x∈s9∨x=r)∧(∀ q∈K,q∈Kn)∧St w0 ((RB,[.slice (some ⟨OB,0,none⟩) n n,.slice (some ⟨SB,0,none⟩) n n,.int .i64 r],73)::(SB,zI ss2,3)::Ot) (⟨.slice wa l.length wc,l.length,zI (nI l),3,1⟩::G) Kn w'):=by
 refine bH (args:=[.pointer (some ⟨RB,0,none⟩),.int .i64 x,.slice la ll lc]) func30 rfl ntmps30 rfl ?_
 have hS:=hS0
 refine aF (aH (aB rfl rfl (aG (XF.thenN (aF (aH (aB rfl rfl (aG (XF.thenN (aF (aF ?_)))))))))))
 have hS':=hS.newG 3 1;clear hS;have hS:=hS';clear hS'
 refine aH (aA rfl rfl (bN underlying25 rfl rfl (aA rfl rfl (aG (XF.thenN (aM (cB (fun m l W=>∃ (i ml:Nat) (wa:Option Addr) (wc:Nat) (tos:List Int),i≤ll∧m=ll - i∧l=[(0,.pointer (some ⟨RB,0,none⟩)),(1,.int .i64 x),(7,.slice wa ml wc),(12,.slice la ll lc),(13,.int .i64 (ll:Int)),(14,.int .i64 (i:Int))]∧tos.length=ml∧ml≤i * 65536∧ToK L x lp i 0 0 tos∧St w0 ((RB,[.slice (some ⟨OB,0,none⟩) n n,.slice (some ⟨SB,0,none⟩) n n,.int .i64 r0],73)::(SB,zI s9,3)::Ot) (⟨.slice wa ml wc,ml,zI (tos),3,1⟩::G) K W) (ll - 0) ([(0,_),(1,_),(7,_),(12,_),(13,_),(14,_)]) ⟨rfl,rfl,rfl,rfl,rfl,rfl,trivial⟩ (⟨0,0,none,0,[],Nat.zero_le _,rfl,rfl,rfl,(by omega),ToK.start,hS.keep K (fun q hq=>by simp [hq])⟩) ?_)))))))
 clear hS
 rintro m l W ⟨i,ml,wa,wc,tos,hi,rfl,rfl,htl,hmb,hto,hS⟩
 refine aF (aH (bB rfl rfl rfl (aG (XF.thenN (aF (aV rfl (fun hc=>?_) (fun hc=>?_)))))))
 ·have hc15:=of_decide_eq_true hc;clear hc
  obtain ⟨p,hp⟩:∃ p,lp[i]?=some p:=⟨_,List.getElem?_eq_getElem (by omega)⟩
  have hpn:=hlt p (List.mem_of_getElem? hp)
  obtain ⟨b,off,y,hla,hy,hyc⟩:=(hLs (hS.keep K (fun q hq=>by simp [hq])) hKt).at1 (show i < (nI lp).length by rw [gD];omega)
  obtain rfl:y=(p:Int):=by unfold nI at hy;rw [List.getElem?_map,hp] at hy;exact (Option.some.inj hy).symm
  obtain ⟨hoc,_⟩:=hOut (hS.keep K (fun q hq=>by simp [hq])) hKt p hpn
  have hol9:(outs L p).length≤65536:=Nat.le_trans (List.length_filter_le _ _) hLl
  have hto2:ToK L x lp i p 0 tos:=hto.any
  have hmb2:ml≤i * 65536+0:=by rw [Nat.add_zero];exact hmb
  refine aP (XF.thenN (aF (aM (aF (aH ?_)))))
  refine aL (j:=i) (b:=b) (o:=off) (m:=ll) (c:=lc) underlying25 sizeOf3 (by show some (Value.slice _ _ _)=_;rw [hla]) rfl rfl (by omega) rfl rfl ?_
  refine aJ isAgg3 rfl (hyc) rfl (aB rfl rfl (aG (XF.thenN (aF (aH (aA rfl rfl (bM rfl rfl (aI (o':=0) gI rfl rfl rfl (aJ isAgg71 rfl (aD (hS.at_ 0 rfl) rfl) rfl (aA rfl rfl (aL (j:=p) (b:=OB) (o:=0) (m:=n) (c:=n) underlying71 sizeOf22 rfl rfl rfl (by omega) rfl rfl (aJ isAgg22 rfl (hoc) rfl (bN underlying22 rfl rfl (aA rfl rfl (aG (XF.thenN (aM (cB (fun m l W=>∃ (z ml:Nat) (wa:Option Addr) (wc:Nat) (tos:List Int),z≤(outs L p).length∧m=(outs L p).length - z∧l=[(0,.pointer (some ⟨RB,0,none⟩)),(1,.int .i64 x),(7,.slice wa ml wc),(12,.slice la ll lc),(13,.int .i64 (ll:Int)),(14,.int .i64 (i:Int)),(24,.slice (va p) (outs L p).length (vc p)),(25,.int .i64 ((outs L p).length:Int)),(26,.int .i64 (z:Int))]∧tos.length=ml∧ml≤i * 65536+z∧ToK L x lp i p z tos∧St w0 ((RB,[.slice (some ⟨OB,0,none⟩) n n,.slice (some ⟨SB,0,none⟩) n n,.int .i64 r0],73)::(SB,zI s9,3)::Ot) (⟨.slice wa ml wc,ml,zI (tos),3,1⟩::G) K W) ((outs L p).length - 0) ([(0,_),(1,_),(7,_),(12,_),(13,_),(14,_),(24,_),(25,_),(26,_)]) ⟨rfl,rfl,rfl,rfl,rfl,rfl,rfl,rfl,rfl,trivial⟩ (⟨0,ml,wa,wc,tos,Nat.zero_le _,rfl,rfl,htl,hmb2,hto2,hS.keep K (fun q hq=>by simp [hq])⟩) ?_))))))))))))))))))
  clear hS
  have hil:i < ll:=by omega
  clear hmb hto hmb2 hto2 htl hi hoc hyc hy
  rintro m l W ⟨z,ml,wa,wc,tos,hz,rfl,rfl,htl,hmb,hto,hS⟩
  have hib:i * 65536≤4096 * 65536:=Nat.mul_le_mul_right _ (by omega)
  refine aF (aH (bB rfl rfl rfl (aG (XF.thenN (aF (aV rfl (fun hc=>?_) (fun hc=>?_)))))))
  ·have hc27:=of_decide_eq_true hc;clear hc
   obtain ⟨t,ht⟩:∃ t,(outs L p)[z]?=some t:=⟨_,List.getElem?_eq_getElem (by omega)⟩
   obtain ⟨b,off,haa,hcs⟩:=(hOut (hS.keep K (fun q hq=>by simp [hq])) hKt p hpn).2 z t ht
   have k1:=hcs
   refine aP (XF.thenN (aF (aM (aF (aH ?_)))))
   refine aL (j:=z) (b:=b) (o:=off) (m:=(outs L p).length) (c:=vc p) underlying22 sizeOf57 (by show some (Value.slice _ _ _)=_;rw [haa]) rfl rfl (by omega) rfl rfl ?_
   refine aQ (vs:=[_,_,_]) isAgg57 sizeOf57 rfl k1 rfl (bP (cs:=[_,_,_]) hS zeroValue57 rfl rfl fun B1 W1 hS=>bO (i:=0) (vs:=[_,_,_]) (cs':=[_,_,_]) (O':=(_::_::_::Ot)) hS sizeOf57 rfl rfl rfl rfl rfl rfl rfl fun W2 hS=>aG (XF.thenN (aF (aH (aI (o':=1) cS rfl rfl rfl (aJ isAgg3 rfl (aD (hS.at_ 0 rfl) rfl) rfl (aA rfl rfl (dB rfl rfl rfl (aA rfl rfl (aZ (d:=34) rfl (fun hc=>?_) (fun hc=>?_)))))))))))
   ·have hg34:=of_decide_eq_true hc;clear hc
    refine aE (d:=34) rfl rfl rfl rfl (aE (d:=34) rfl rfl rfl rfl (aE (d:=34) rfl rfl rfl rfl (aN rfl rfl rfl (aG (XF.thenN (cF rfl (aH (aA rfl rfl (aI (o':=2) cU rfl rfl rfl (aJ isAgg3 rfl (aD (hS.at_ 0 rfl) rfl) rfl (bL (us:=[(0,.int .i64 _)]) hS underlying25 sizeOf3 zeroValue3 rfl rfl rfl (dP _) rfl fun B3 W3 hS=>?_)))))))))))
    refine dY (i:=0) (news:=[_]) hS underlying25 iF rfl rfl (by show 0 < 1;decide) rfl rfl rfl rfl rfl (aK.own (j:=0) (m:=1) (hS.at_ 0 rfl) rfl) rfl rfl (by dsimp only;simp only [maxLen];omega) (by dsimp only;show _ * 8≤_;omega) rfl fun v4 W4 hS=>?_
    obtain ⟨wa9,wc9,e9,_⟩:=cM (hS.row 0 rfl)
    dsimp only at e9
    subst e9
    refine aB rfl rfl (aG (XF.blkN (XF.thenN (aH (aS rfl rfl (IntWalk.i64_in _ (by omega)) rfl (aA rfl rfl (aG ?_)))))))
    have hS9:=hS.tail.tail.castG (G':=(⟨.slice wa9 (ml+1) wc9,(ml+1),zI (tos++[t.q]),3,1⟩::G)) (by show GR.mk _ _ (zI tos++[Value.int .i64 _]) _ _::_=_;rw [jY])
    exact XF.round ((outs L p).length - (z+1)) [(0,_),(1,_),(7,_),(12,_),(13,_),(14,_),(24,_),(25,_),(26,_)] (by omega) ⟨rfl,rfl,rfl,rfl,rfl,rfl,rfl,rfl,rfl,trivial⟩ ⟨z+1,ml+1,wa9,wc9,tos++[t.q],by omega,rfl,rfl,by simp [htl],by omega,hto.yes ht (.inl (by simpa using hg34)),hS9.keep K (fun q hq=>by simp [hq])⟩
   ·have hg34:=of_decide_eq_false hc;clear hc
    refine aC (d:=34) rfl rfl (aI (o':=1) cS rfl rfl rfl (aC (d:=34) rfl rfl (aJ isAgg3 rfl (aD (hS.at_ 0 rfl) rfl) rfl (aC (d:=34) rfl rfl (dB rfl rfl rfl (aR rfl rfl rfl (aG (XF.thenN (aV rfl (fun hc=>?_) (fun hc=>?_))))))))))
    ·have hc38:=of_decide_eq_true hc;clear hc
     refine aH (aA rfl rfl (aI (o':=2) cU rfl rfl rfl (aJ isAgg3 rfl (aD (hS.at_ 0 rfl) rfl) rfl (bL (us:=[(0,.int .i64 _)]) hS underlying25 sizeOf3 zeroValue3 rfl rfl rfl (dP _) rfl fun B5 W5 hS=>?_))))
     refine dY (i:=0) (news:=[_]) hS underlying25 iF rfl rfl (by show 0 < 1;decide) rfl rfl rfl rfl rfl (aK.own (j:=0) (m:=1) (hS.at_ 0 rfl) rfl) rfl rfl (by dsimp only;simp only [maxLen];omega) (by dsimp only;show _ * 8≤_;omega) rfl fun v6 W6 hS=>?_
     obtain ⟨wa9,wc9,e9,_⟩:=cM (hS.row 0 rfl)
     dsimp only at e9
     subst e9
     refine aB rfl rfl (aG (XF.blkN (XF.thenN (aH (aS rfl rfl (IntWalk.i64_in _ (by omega)) rfl (aA rfl rfl (aG ?_)))))))
     have hS9:=hS.tail.tail.castG (G':=(⟨.slice wa9 (ml+1) wc9,(ml+1),zI (tos++[t.q]),3,1⟩::G)) (by show GR.mk _ _ (zI tos++[Value.int .i64 _]) _ _::_=_;rw [jY])
     exact XF.round ((outs L p).length - (z+1)) [(0,_),(1,_),(7,_),(12,_),(13,_),(14,_),(24,_),(25,_),(26,_)] (by omega) ⟨rfl,rfl,rfl,rfl,rfl,rfl,rfl,rfl,rfl,trivial⟩ ⟨z+1,ml+1,wa9,wc9,tos++[t.q],by omega,rfl,rfl,by simp [htl],by omega,hto.yes ht (.inr (by simpa using hc38)),hS9.keep K (fun q hq=>by simp [hq])⟩
    ·have hc38:=of_decide_eq_false hc;clear hc
     refine aP (XF.blkN (XF.thenN (aH (aS rfl rfl (IntWalk.i64_in _ (by omega)) rfl (aA rfl rfl (aG ?_))))))
     exact XF.round ((outs L p).length - (z+1)) [(0,_),(1,_),(7,_),(12,_),(13,_),(14,_),(24,_),(25,_),(26,_)] (by omega) ⟨rfl,rfl,rfl,rfl,rfl,rfl,rfl,rfl,rfl,trivial⟩ ⟨z+1,ml,wa,wc,tos,by omega,rfl,rfl,htl,by omega,hto.no ht (fun h9=>h9.elim (fun h8=>absurd h8 (by simpa using hg34)) (fun h8=>absurd h8 (by simpa using hc38))),hS.tail.keep K (fun q hq=>by simp [hq])⟩
  ·have hc27:=of_decide_eq_false hc;clear hc
   obtain rfl:z=(outs L p).length:=by omega
   refine bS (XF.thenX (XF.thenX (XF.blkX (XF.blkN (XF.thenN (aH (aS rfl rfl (IntWalk.i64_in _ (by omega)) rfl (aA rfl rfl (aG ?_)))))))))
   exact XF.round (ll - (i+1)) [(0,_),(1,_),(7,_),(12,_),(13,_),(14,_)] (by omega) ⟨rfl,rfl,rfl,rfl,rfl,rfl,trivial⟩ ⟨i+1,ml,wa,wc,tos,by omega,rfl,rfl,htl,by omega,hto.next hp,hS.keep K (fun q hq=>by simp [hq])⟩
 ·have hc15:=of_decide_eq_false hc;clear hc
  obtain rfl:i=ll:=by omega
  have hib:i * 65536≤4096 * 65536:=Nat.mul_le_mul_right _ (by omega)
  have hto9:ToK L x lp lp.length 0 0 tos:=by rw [hll];exact hto
  obtain ⟨K1,k1,g1,hS1⟩:=St.rowKeepN (o:=⟨.slice wa ml wc,ml,zI tos⟩) (hS.keep K (fun q hq=>by simp [hq]))
  clear hS;have hS:=hS1;clear hS1
  refine bS (XF.thenX (XF.thenX (XF.blkX (XF.thenN (aF (aH (aA rfl rfl (aA rfl rfl ?_))))))))
  refine aX (vs:=[_,_]) iL rfl (kA n L OB va vc RB SB r0 r s9 wa ml wc tos K1 Ot G K1 w0 _ (hS.keep K1 (fun q hq=>by simp [hq])) (fun q hq=>hq) (hOut.moreN (fun q hq=>k1 q (hKt q hq))) (fun h9 hk9=>fL (g1 h9 hk9)) htl (by omega) (fun y hy=>(by obtain ⟨t,h1,h2⟩:=hto9.inL hy;have:=hq t h1;omega)) hq hLl hs9 hr hfr hn4) rfl ?_
  rintro e W9 ⟨l2,wa2,wc2,ss2,hH,rfl,hle2,hsl2,hsf2,hS9⟩
  refine ⟨_,rfl,?_⟩
  clear hS;have hS:=hS9;clear hS9
  refine aB rfl rfl (aG (XF.thenN (bK (XF.res (bT results30 rfl) ?_))))
  exact ⟨l2,wa2,wc2,ss2,K1,hH.congr hto9.end_,rfl,hle2,hsl2,hsf2,k1,hS.keep K1 (fun q hq=>by simp [hq])⟩
theorem tC (n:Nat) (L:List ArV) (OB:Nat) (va:Nat→Option Addr) (vc:Nat→Nat) (RB SB:Nat) (r0 r:Int) (s9:List Int) (la:Option Addr) (ll lc:Nat) (lp:List Nat) (x:Int) (Kt:List (Nat×World)) (Ot:Own) (G:aU) (K:List (Nat×World)) (w0 w:World) (hS0:St w0 ((RB,[.slice (some ⟨OB,0,none⟩) n n,.slice (some ⟨SB,0,none⟩) n n,.int .i64 r0],73)::(SB,zI s9,3)::Ot) G K w) (hKt:∀ q∈Kt,q∈K) (hOut:bV w0 Kt (fun W=>iK W OB n L va vc)) (hLs:bV w0 Kt (fun W=>Row W la (nI lp))) (hll:lp.length=ll) (hln:ll≤n) (hlt:∀ p∈lp,p < n) (hq:∀ t∈L,0≤t.q∧t.q < (n:Int)) (hLl:L.length≤65536) (hs9:s9.length=n) (hr:IntKind.i64.wrap (r0+1)=r) (hfr:∀ x∈s9,x≠r) (hn4:n≤4096) :
  Calls prog 30 #[.pointer (some ⟨RB,0,none⟩),.int .i64 x,.slice la ll lc] w (fun e w'=>∃ (l:List Nat) (wa:Option Addr) (wc:Nat) (ss2:List Int) (Kn:List (Nat×World)),IsH L (By9 L x (fun q=>q∈lp)) l∧e = .returned (.slice wa l.length wc)∧l.length≤n∧ss2.length=n∧(∀ x∈ss2,x∈s9∨x=r)∧(∀ q∈K,q∈Kn)∧bV w0 Kn (fun W=>Row W wa (nI l))∧St w0 ((RB,[.slice (some ⟨OB,0,none⟩) n n,.slice (some ⟨SB,0,none⟩) n n,.int .i64 r],73)::(SB,zI ss2,3)::Ot) G Kn w'):=by
 refine (kU n L OB va vc RB SB r0 r s9 la ll lc lp x Kt Ot G K w0 w hS0 hKt hOut hLs hll hln hlt hq hLl hs9 hr hfr hn4).mono ?_
 rintro e w1 ⟨l,wa,wc,ss,K2,hH,rfl,h1,h2,h3,k2,hS⟩
 obtain ⟨K1,k1,g1,hS1⟩:=St.rowKeepN (o:=⟨.slice wa l.length wc,l.length,zI (nI l)⟩) hS
 exact ⟨l,wa,wc,ss,K1,hH,rfl,h1,h2,h3,fun q hq=>k1 q (k2 q hq),fun h9 hk9=>fL (g1 h9 hk9),hS1⟩
theorem lO:bA prog 24=true:=by kernel_rfl
theorem goes_29:bA prog 29=true:=by kernel_rfl
theorem pS:bA prog 30=true:=by kernel_rfl
theorem oC {n:Nat} {r:Int} (h:r≠0):∀ x∈List.replicate n (0:Int),x≠r:=fun x hx e=>h (by rw [← e];exact List.eq_of_mem_replicate hx)
theorem tD {L:List ArV} {x:Int} {P R:Nat→Prop} (h:∀ q,P q↔R q) (q:Nat):By9 L x P q↔By9 L x R q:=⟨By9.mono fun q h1=>(h q).1 h1,By9.mono fun q h1=>(h q).2 h1⟩
theorem oD {n:Nat} {k:Int} {L:List ArV} (h:dX n k L):∀ t∈L,0≤t.q∧t.q < (n:Int):=fun t ht=>(h t ht).2.1
theorem iM (v0:Int) (v1:Int) (v2:Int):prog.built 57 [(0,.int .i64 v0),(1,.int .i64 v1),(2,.int .i64 v2)]=some #[.int .i64 v0,.int .i64 v1,.int .i64 v2]:=by kernel_rfl
theorem goes_52:bA prog 52=true:=by kernel_rfl
theorem iW.app {W:World} {aa:Option Addr} {L:List ArV} {al:Nat} (h:iW W aa L) (hl:L.length=al):(aa=none∧al=0)∨∃ p,aa=some p∧∀ (j:Nat) u,(L.flatMap ArV.three)[j]?=some u→W.cell? (p.add j)=some u:=by
 cases aa with
 | none =>
  refine .inl ⟨rfl,?_⟩
  cases L with
  | nil=>exact hl.symm
  | cons r L=>obtain ⟨b,off,e,_⟩:=h 0 r rfl;cases e
 | some p =>
  refine .inr ⟨p,rfl,fun j u hj=>?_⟩
  have hlen:(L.flatMap ArV.three).length=L.length * 3:=by
   rw [List.length_flatMap]
   show (L.map fun _=>3).sum=_
   rw [List.map_const',List.sum_replicate_nat]
  have hj3:j < L.length * 3:=by rw [← hlen];exact (List.getElem?_eq_some_iff.1 hj).1
  obtain ⟨r,hr⟩:∃ r,L[j / 3]?=some r:=⟨_,List.getElem?_eq_getElem (by omega)⟩
  have hk:j % 3 < 3:=Nat.mod_lt _ (by omega)
  have hd:j / 3 * 3+j % 3=j:=Nat.div_add_mod' _ _
  have h3:=gC L (j / 3) (j % 3) hr hk
  rw [hd,hj] at h3
  obtain ⟨b,off,e,hc⟩:=h _ r hr
  have h4:=hc.get (j % 3) u h3.symm
  obtain rfl:p=⟨b,off,none⟩:=by injection e
  rw [Addr.add_lit]
  rw [← hd,← Nat.add_assoc];exact h4
theorem hJ {L:List ArV}:(L.flatMap ArV.three).length=L.length * 3:=by
 rw [List.length_flatMap]
 show (L.map fun _=>3).sum=_
 rw [List.map_const',List.sum_replicate_nat]
theorem oE {L:List ArV}:∀ u∈L.flatMap ArV.three,u.oneCell'=true:=fun u hu=>by
 obtain ⟨r,_,h⟩:=List.mem_flatMap.1 hu
 simp at h
 rcases h with rfl | rfl | rfl<;>rfl
theorem mW {a:Option Addr} {m c:Nat} {L:List ArV} {W:World} (h:jZ ⟨.slice a m c,m,L.flatMap ArV.three⟩ W):iW W a L:=fun i r hi=>by
 obtain ⟨a2,c2,e,hc,hx⟩:=h
 dsimp only at e hx
 obtain rfl:a=a2:=by injection e
 have h3:∀ (j:Nat) v,r.three[j]?=some v→(L.flatMap ArV.three)[i * 3+j]?=some v:=fun j v hj=>by
  rw [gC _ i j hi (List.getElem?_eq_some_iff.1 hj).1];exact hj
 obtain ⟨b,rfl,_⟩:=hx (i * 3+0) _ (h3 0 _ rfl)
 refine ⟨b,0,rfl,aK.of fun j v hj=>?_⟩
 obtain ⟨b2,e9,h9⟩:=hx _ _ (h3 j v hj)
 obtain rfl:b=b2:=by simpa using e9
 rw [Nat.add_assoc];exact h9
def eV (L:List ArV) (i:Nat):List ArV:=(L.take i).map ArV.flip++L.drop i
theorem rA {L:List ArV} {i:Nat}:(eV L i).length=L.length:=by unfold eV;simp;omega
theorem tE {L:List ArV} {i:Nat} {t:ArV} (h:L[i]?=some t):(eV L i)[i]?=some t:=by
 unfold eV
 have hi:=(List.getElem?_eq_some_iff.1 h).1
 rw [List.getElem?_append_right (by simp;omega),List.getElem?_drop]
 simp only [List.length_map,List.length_take]
 rw [show i+(i - min i L.length)=i by omega];exact h
theorem rC {L:List ArV} {i:Nat} {t:ArV} (h:L[i]?=some t):cA ((eV L i).flatMap ArV.three) (0+i * 3) t.flip.three=(eV L (i+1)).flatMap ArV.three:=by
 have hi:=(List.getElem?_eq_some_iff.1 h).1
 have e1:eV L i=(L.take i).map ArV.flip++t::L.drop (i+1):=by
  unfold eV
  rw [List.drop_eq_getElem_cons hi]
  congr 2
  exact (List.getElem?_eq_some_iff.1 h).2
 have e2:eV L (i+1)=(L.take i).map ArV.flip++t.flip::L.drop (i+1):=by
  unfold eV
  rw [List.take_add_one,h];simp
 rw [e1,e2,List.flatMap_append,List.flatMap_append,List.flatMap_cons,List.flatMap_cons]
 have h9:=iZ (((L.take i).map ArV.flip).flatMap ArV.three) t.three t.flip.three ((L.drop (i+1)).flatMap ArV.three) rfl
 rw [hJ,List.length_map,List.length_take,Nat.min_eq_left (by omega)] at h9
 rw [Nat.zero_add,← List.append_assoc,← List.append_assoc]
 exact h9
theorem rD {L:List ArV}:eV L L.length=L.map ArV.flip:=by unfold eV;simp
theorem flip_ok {n:Nat} {k:Int} {L:List ArV} (h:dX n k L):dX n k (L.map ArV.flip):=fun t ht=>by
 obtain ⟨s,hs,rfl⟩:=List.mem_map.1 ht
 have:=h s hs
 exact ⟨this.2.1,this.1,this.2.2⟩
theorem rE (aa:Option Addr) (al ac:Nat) (L:List ArV) (Kt:List (Nat×World)) (Ot:Own) (G:aU) (K:List (Nat×World)) (w0 w:World) (hS0:St w0 Ot G K w) (hKt:∀ q∈Kt,q∈K) (hA:bV w0 Kt (fun W=>iW W aa L)) (hl:L.length=al) (hal:al≤65536) :
  Calls prog 52 #[.slice aa al ac] w (fun e w'=>∃ (wa:Option Addr) (wc:Nat),e = .returned (.slice wa al wc)∧St w0 Ot (⟨.slice wa al wc,al,L.flatMap ArV.three,57,3⟩::G) K w'):=by
 refine bH (args:=[.slice aa al ac]) func52 rfl ntmps52 rfl ?_
 have hS:=hS0
 have hA0:=hA hS0 hKt
 refine aF (aH (aB rfl rfl (aG (XF.thenN (aF (aF (aH (aA rfl rfl (opV (qT underlying22 rfl) rfl (aG (XF.thenN (aV rfl (fun hc=>?_) (fun hc=>?_)))))))))))))
 ·have hc4:=hc;clear hc
  have h0:aa=none:=by simpa using hc4
  subst h0
  obtain rfl:al=0:=(hA0.app hl).elim (fun h=>h.2) (fun ⟨p,e,_⟩=>absurd e (by simp))
  obtain rfl:L=[]:=List.eq_nil_of_length_eq_zero hl
  refine aF (aH (aB rfl rfl (aG (XF.thenN (bK (XF.thenR (XF.res (bT results52 rfl) ?_)))))))
  exact ⟨none,0,rfl,hS.newG 57 3⟩
 ·have hc4:=hc;clear hc
  refine aP (XF.thenN (aF (aH (qR hS underlying22 sizeOf57 rfl fun v1 W1 hS=>aA rfl rfl ?_))))
  refine nQ (i:=0) (news:=(L.flatMap ArV.three)) hS underlying22 oB rfl rfl (by show 0 < 3;decide) rfl rfl rfl rfl rfl ((hA (hS.keep K (fun q hq=>by simp [hq])) hKt).app hl) (by rw [hJ,hl];exact rfl) (oE) (by dsimp only;simp only [maxLen];omega) (by dsimp only;show _ * 24≤_;omega) rfl fun v2 W2 hS=>?_
  have hlen9:=hl
  obtain ⟨wa9,wc9,e9,_⟩:=cM (hS.row 0 rfl)
  dsimp only at e9
  subst e9
  refine aB rfl rfl (aG (XF.thenN (bK (XF.res (bT results52 rfl) ?_))))
  have hS9:=hS.castG (G':=(⟨.slice wa9 al wc9,al,L.flatMap ArV.three,57,3⟩::G)) (by show GR.mk _ _ ([]++_) _ _::_=_;simp)
  exact ⟨wa9,wc9,by simp,hS9.keep K (fun q hq=>by simp [hq])⟩
theorem oF (st sy s0 e0:Int) (aa:Option Addr) (al ac:Nat) (L:List ArV) (Kt:List (Nat×World)) (Ot:Own) (G:aU) (K:List (Nat×World)) (w0 w:World) (hS0:St w0 Ot G K w) (hKt:∀ q∈Kt,q∈K) (hA:bV w0 Kt (fun W=>iW W aa L)) (hl:L.length=al) (hal:al≤65536) :
  Calls prog 43 #[.agg #[.int .i64 st,.int .i64 sy,.int .i64 s0,.int .i64 e0,.slice aa al ac]] w (fun e w'=>∃ (wa:Option Addr) (wc:Nat),e = .returned (NfV.val ⟨st,sy,e0,s0,wa,al,wc,L.map ArV.flip⟩)∧St w0 Ot (⟨.slice wa al wc,al,(L.map ArV.flip).flatMap ArV.three,57,3⟩::G) K w'):=by
 refine bH (args:=[.agg #[.int .i64 st,.int .i64 sy,.int .i64 s0,.int .i64 e0,.slice aa al ac]]) func43 rfl ntmps43 rfl ?_
 have hS:=hS0
 refine aF (aH (bZ (cs:=[_,_,_,_,_]) hS rfl rfl rfl fun B1 W1 hS=>bP (cs:=[_,_,_,_,_]) hS zeroValue24 rfl rfl fun B2 W2 hS=>aG (XF.thenN (aF (aH (aI (o':=3) eA rfl rfl rfl (aJ isAgg3 rfl (aD (hS.at_ 1 rfl) rfl) rfl (aI (o':=2) dG rfl rfl rfl (aJ isAgg3 rfl (aD (hS.at_ 1 rfl) rfl) rfl (aI (o':=2) dG rfl rfl rfl (bD (i:=1) (cs':=[_,_,_,_,_]) (O':=(_::_::Ot)) hS sizeOf3 rfl rfl rfl rfl rfl rfl rfl fun W3 hS=>aI (o':=3) eA rfl rfl rfl (bD (i:=1) (cs':=[_,_,_,_,_]) (O':=(_::_::Ot)) hS sizeOf3 rfl rfl rfl rfl rfl rfl rfl fun W4 hS=>aG (XF.thenN (aF (aH (aI (o':=4) cJ rfl rfl rfl (aJ isAgg22 rfl (aD (hS.at_ 1 rfl) rfl) rfl (aX (vs:=[_]) goes_52 rfl (rE aa al ac L Kt _ G K w0 _ (hS.keep K (fun q hq=>by simp [hq])) hKt hA hl hal) rfl ?_))))))))))))))))))
 rintro e W9 ⟨wa,wc,rfl,hS9⟩
 refine ⟨_,rfl,?_⟩
 clear hS;have hS:=hS9;clear hS9
 refine aI (o':=4) cJ rfl rfl rfl (bD (i:=1) (cs':=[_,_,_,_,_]) (O':=(_::_::Ot)) hS sizeOf22 rfl rfl rfl rfl rfl rfl rfl fun W5 hS=>aG (XF.thenN (aF (aF (aH (aI (o':=4) cJ rfl rfl rfl (aJ isAgg22 rfl (aD (hS.at_ 1 rfl) rfl) rfl (bN underlying22 rfl rfl (aA rfl rfl (aG (XF.thenN (aM (cB (fun m l W=>∃ (i:Nat),i≤al∧m=al - i∧l=[(1,.pointer (some ⟨B1,0,none⟩)),(2,.pointer (some ⟨B2,0,none⟩)),(16,.slice wa al wc),(17,.int .i64 (al:Int)),(18,.int .i64 (i:Int))]∧St w0 ((B2,[.int .i64 0,.int .i64 0,.int .i64 0,.int .i64 0,.slice none 0 0],24)::(B1,[.int .i64 st,.int .i64 sy,.int .i64 e0,.int .i64 s0,.slice wa al wc],24)::Ot) (⟨.slice wa al wc,al,(eV L i).flatMap ArV.three,57,3⟩::G) K W) (al - 0) ([(1,_),(2,_),(16,_),(17,_),(18,_)]) ⟨rfl,rfl,rfl,rfl,rfl,trivial⟩ (⟨0,Nat.zero_le _,rfl,rfl,hS.keep K (fun q hq=>by simp [hq])⟩) ?_)))))))))))))
 clear hS
 rintro m l W ⟨i,hi,rfl,rfl,hS⟩
 refine aF (aH (bB rfl rfl rfl (aG (XF.thenN (aF (aV rfl (fun hc=>?_) (fun hc=>?_)))))))
 ·have hc19:=of_decide_eq_true hc;clear hc
  obtain ⟨t,ht⟩:∃ t,L[i]?=some t:=⟨_,List.getElem?_eq_getElem (by omega)⟩
  obtain ⟨cb,rfl⟩:=iG (hS.row 0 rfl) (by omega)
  have k1:aK W cb (0+i * 3) t.three:=aK.of fun j v hj=>eT (hS.row 0 rfl) (by dsimp only;rw [Nat.zero_add,gC _ i j (tE ht) (List.getElem?_eq_some_iff.1 hj).1];exact hj)
  refine aP (XF.thenN (aF (aM (aF (aH (aA rfl rfl (aL (j:=i) (b:=cb) (o:=0) (m:=al) (c:=wc) underlying22 sizeOf57 rfl rfl rfl (by omega) rfl rfl (aQ (vs:=[_,_,_]) isAgg57 sizeOf57 rfl k1 rfl (bP (cs:=[_,_,_]) hS zeroValue57 rfl rfl fun B6 W6 hS=>aB rfl rfl (bO (i:=0) (vs:=[_,_,_]) (cs':=[_,_,_]) (O':=(_::_::_::Ot)) hS sizeOf57 rfl rfl rfl rfl rfl rfl rfl fun W7 hS=>aG (XF.thenN (aH (aI (o':=4) cJ rfl rfl rfl (aJ isAgg22 rfl (aD (hS.at_ 2 rfl) rfl) rfl (aA rfl rfl (aI (o':=2) cU rfl rfl rfl (aJ isAgg3 rfl (aD (hS.at_ 0 rfl) rfl) rfl (aI (o':=1) cS rfl rfl rfl (aJ isAgg3 rfl (aD (hS.at_ 0 rfl) rfl) rfl (aI (o':=0) cD rfl rfl rfl (aJ isAgg3 rfl (aD (hS.at_ 0 rfl) rfl) rfl (dI (us:=[(0,.int .i64 _),(1,.int .i64 _),(2,.int .i64 _)]) rfl (iM _ _ _) rfl (aL (j:=i) (b:=cb) (o:=0) (m:=al) (c:=wc) underlying22 sizeOf57 rfl rfl rfl (by omega) rfl rfl ?_)))))))))))))))))))))))
  refine mP (vs:=t.flip.three) (xs':=(eV L (i+1)).flatMap ArV.three) hS sizeOf57 rfl rfl rfl (by omega) (by rw [hJ,rA];show 0+i * 3+3≤_;omega) (rC ht) fun W94 hS=>?_
  refine aG (XF.blkN (XF.thenN (aH (aS rfl rfl (IntWalk.i64_in _ (by omega)) rfl (aA rfl rfl (aG ?_))))))
  exact XF.round (al - (i+1)) [(1,_),(2,_),(16,_),(17,_),(18,_)] (by omega) ⟨rfl,rfl,rfl,rfl,rfl,trivial⟩ ⟨i+1,by omega,rfl,rfl,hS.tail.keep K (fun q hq=>by simp [hq])⟩
 ·have hc19:=of_decide_eq_false hc;clear hc
  obtain rfl:i=L.length:=by omega
  rw [rD] at hS
  refine bS (XF.thenX (XF.thenX (XF.blkX (XF.thenN (aF (aH (aQ (vs:=[_,_,_,_,_]) isAgg24 sizeOf24 rfl (aK.own (j:=0) (m:=5) (hS.at_ 1 rfl) rfl) rfl (bO (i:=0) (vs:=[_,_,_,_,_]) (cs':=[_,_,_,_,_]) (O':=(_::_::Ot)) hS sizeOf24 rfl rfl rfl rfl rfl rfl rfl fun W8 hS=>aG (XF.thenN (bK (XF.res (resC1 (vs:=[_,_,_,_,_]) results43 isAgg24 sizeOf24 rfl (aK.own (j:=0) (m:=5) (hS.at_ 0 rfl) rfl)) ?_)))))))))))
  exact ⟨wa,wc,rfl,(hS.keep K (fun q hq=>by simp [hq])).tail.tail⟩
def ctB (bs:List Bool):Nat:=(bs.filter id).length
theorem ctB_le {bs:List Bool}:ctB bs≤bs.length:=List.length_filter_le _ _
theorem pT:∀ {bs:List Bool} {i:Nat},i < bs.length→bs.getD i false=false→ctB (bs.set i true)=ctB bs+1
 | b::bs,0,_,h=>by
  have hb:b=false:=by simpa using h
  subst hb
  rfl
 | b::bs,i+1,hi,h=>by
  have h1:=pT (bs:=bs) (i:=i) (Nat.lt_of_succ_lt_succ hi) (by simpa using h)
  unfold ctB at h1 ⊢
  rw [List.set_cons_succ]
  cases b
  ·exact h1
  ·show ((bs.set i true).filter id).length+1=(bs.filter id).length+1+1
   rw [h1]
theorem fD {bs:List Bool} {i q:Nat} (hi:i < bs.length):(bs.set i true).getD q false=true↔q=i∨bs.getD q false=true:=by
 by_cases e:q=i
 ·subst e
  rw [List.getD_eq_getElem?_getD,List.getElem?_set_self hi];simp
 ·rw [List.getD_eq_getElem?_getD,List.getElem?_set_ne (fun h=>e h.symm),← List.getD_eq_getElem?_getD];simp [e]
def ClB (L:List ArV) (bs:List Bool):Prop:=∀ t∈L,t.s = -1→bs.getD t.f.toNat false=true→bs.getD t.q.toNat false=true
theorem mX (a:NfV) (n:Nat) (k:Int) (P:Nat→Prop) (IB:Nat) (bs0:List Bool) (Kt:List (Nat×World)) (Ot:Own) (G:aU) (K:List (Nat×World)) (w0 w:World) (hS0:St w0 ((IB,zB bs0,4)::Ot) G K w) (hKt:∀ q∈Kt,q∈K) (hA:bV w0 Kt (fun W=>NIn W a)) (hO:dX n k a.ar) (hbl:bs0.length=n) (hn4:n≤4096) (hp1:∀ q:Nat,bs0.getD q false=true→Hd a.ar P q) (hp2:∀ q:Nat,P q→bs0.getD q false=true) :
  Calls prog 46 #[a.val,.slice (some ⟨IB,0,none⟩) n n] w (fun e w'=>∃ bs:List Bool,bs.length=n∧HdB a.ar P bs∧e = .returned (.slice (some ⟨IB,0,none⟩) n n)∧St w0 ((IB,zB bs,4)::Ot) G K w'):=by
 refine bH (args:=[a.val,.slice (some ⟨IB,0,none⟩) n n]) func46 rfl ntmps46 rfl ?_
 have hS:=hS0
 have hlen:=(hA hS0 hKt).alen
 have hamx:=(hA hS0 hKt).amax
 refine aF (aH (bZ (cs:=[_,_,_,_,_]) hS rfl rfl rfl fun B1 W1 hS=>aB rfl rfl (aG (XF.thenN (aF (aF (aH (aB rfl rfl (aG (XF.thenN (aM (cB (fun m l W=>∃ (bs:List Bool) (ch:Bool),m=2 * (n - ctB bs)+(if ch=true then 1 else 0)∧l=[(1,.slice (some ⟨IB,0,none⟩) n n),(2,.pointer (some ⟨B1,0,none⟩)),(5,.bool ch)]∧bs.length=n∧(∀ q:Nat,bs.getD q false=true→Hd a.ar P q)∧(∀ q:Nat,P q→bs.getD q false=true)∧(ch=false→ClB a.ar bs)∧St w0 ((B1,a.cells,24)::(IB,zB bs,4)::Ot) G K W) (2 * (n - ctB bs0)+(if true=true then 1 else 0)) ([(1,_),(2,_),(5,_)]) ⟨rfl,rfl,rfl,trivial⟩ (⟨bs0,true,rfl,rfl,hbl,hp1,hp2,fun h=>(by cases h),hS.keep K (fun q hq=>by simp [hq])⟩) ?_))))))))))))
 clear hS
 rintro m l W ⟨bs,ch,rfl,rfl,hb1,hb2,hb3,hcl,hS⟩
 refine aF (aF (aH (aA rfl rfl (aG (XF.thenN (aV rfl (fun hc=>?_) (fun hc=>?_)))))))
 ·have hc8:=hc;clear hc
  have hch1:ch=true:=by simpa using hc8
  subst hch1
  obtain ⟨bs1,hbs1⟩:∃ bs1,bs1=bs:=⟨_,rfl⟩
  subst hbs1
  refine aP (XF.thenN (aM (aF (aH (aB rfl rfl (aG (XF.thenN (aF (aH (aB rfl rfl (aG (XF.thenN (aM (cB (fun m l W=>∃ (i:Nat) (bs:List Bool) (ch:Bool),i≤a.al∧m=a.al - i∧l=[(1,.slice (some ⟨IB,0,none⟩) n n),(2,.pointer (some ⟨B1,0,none⟩)),(5,.bool ch),(6,.int .i64 (i:Int))]∧bs.length=n∧(∀ q:Nat,bs.getD q false=true→Hd a.ar P q)∧(∀ q:Nat,P q→bs.getD q false=true)∧ctB bs1≤ctB bs∧(ch=true→ctB bs1 < ctB bs)∧(ch=false→bs=bs1∧∀ t∈a.ar.take i,t.s = -1→bs.getD t.f.toNat false=true→bs.getD t.q.toNat false=true)∧St w0 ((B1,a.cells,24)::(IB,zB bs,4)::Ot) G K W) (a.al - 0) ([(1,_),(2,_),(5,_),(6,_)]) ⟨rfl,rfl,rfl,rfl,trivial⟩ (⟨0,bs1,false,Nat.zero_le _,rfl,rfl,hb1,hb2,hb3,Nat.le_refl _,fun h=>(by cases h),fun _=>⟨rfl,fun t ht=>(by cases ht)⟩,hS.keep K (fun q hq=>by simp [hq])⟩) ?_))))))))))))))
  clear hS
  clear hb1 hb2 hb3 hcl
  rintro m l W ⟨i,bs,ch,hi,rfl,rfl,hb1,hb2,hb3,hct,hch,hcf,hS⟩
  refine aF (aF (aH (aA rfl rfl (aI (o':=4) cJ rfl rfl rfl (aJ isAgg22 rfl (aD (hS.at_ 0 rfl) rfl) rfl (bN underlying22 rfl rfl (bB rfl rfl rfl (aG (XF.thenN (aV rfl (fun hc=>?_) (fun hc=>?_)))))))))))
  ·have hc13:=of_decide_eq_true hc;clear hc
   obtain ⟨t,ht⟩:∃ t,a.ar[i]?=some t:=⟨_,List.getElem?_eq_getElem (by omega)⟩
   obtain ⟨b,off,haa,hcs⟩:=(hA (hS.keep K (fun q hq=>by simp [hq])) hKt).arow i t ht
   have k1:=hcs
   obtain ⟨⟨hf0,hf1⟩,⟨hq0,hq1⟩,_⟩:=hO t (List.mem_of_getElem? ht)
   obtain ⟨fn,hfn⟩:∃ k:Nat,t.f=(k:Int):=⟨t.f.toNat,by omega⟩
   obtain ⟨qn,hqn⟩:∃ k:Nat,t.q=(k:Int):=⟨t.q.toNat,by omega⟩
   have hfn2:t.f.toNat=fn:=by omega
   have hqn2:t.q.toNat=qn:=by omega
   refine aP (XF.thenN (aF (aM (aF (aH (aI (o':=4) cJ rfl rfl rfl (aJ isAgg22 rfl (aD (hS.at_ 0 rfl) rfl) rfl (aA rfl rfl ?_))))))))
   refine aL (j:=i) (b:=b) (o:=off) (m:=a.al) (c:=a.ac) underlying22 sizeOf57 (by show some (Value.slice _ _ _)=_;rw [haa]) rfl rfl (by omega) rfl rfl ?_
   refine aQ (vs:=[_,_,_]) isAgg57 sizeOf57 rfl k1 rfl (bP (cs:=[_,_,_]) hS zeroValue57 rfl rfl fun B2 W2 hS=>bO (i:=0) (vs:=[_,_,_]) (cs':=[_,_,_]) (O':=(_::_::_::Ot)) hS sizeOf57 rfl rfl rfl rfl rfl rfl rfl fun W3 hS=>aG (XF.thenN (aF (aH (aI (o':=1) cS rfl rfl rfl (aJ isAgg3 rfl (aD (hS.at_ 0 rfl) rfl) rfl (dB rfl rfl rfl (aA rfl rfl (aZ (d:=24) rfl (fun hc=>?_) (fun hc=>?_))))))))))
   ·have hg24:=of_decide_eq_true hc;clear hc
    refine aC (d:=24) rfl rfl (aA rfl rfl (aC (d:=24) rfl rfl (aI (o':=0) cD rfl rfl rfl (aC (d:=24) rfl rfl (aJ isAgg3 rfl (aD (hS.at_ 0 rfl) rfl) rfl (aC (d:=24) rfl rfl (aL (j:=fn) underlying51 sizeOf4 rfl rfl (hfn) (by omega) rfl rfl (aC (d:=24) rfl rfl (aJ isAgg4 rfl (aD (hS.at_ 2 rfl) (kT (by omega))) rfl (aN rfl rfl rfl (aA rfl rfl (aZ (d:=31) rfl (fun hc=>?_) (fun hc=>?_)))))))))))))
    ·have hg31:=hc;clear hc
     refine aC (d:=31) rfl rfl (aA rfl rfl (aC (d:=31) rfl rfl (aI (o':=2) cU rfl rfl rfl (aC (d:=31) rfl rfl (aJ isAgg3 rfl (aD (hS.at_ 0 rfl) rfl) rfl (aC (d:=31) rfl rfl (aL (j:=qn) underlying51 sizeOf4 rfl rfl (hqn) (by omega) rfl rfl (aC (d:=31) rfl rfl (aJ isAgg4 rfl (aD (hS.at_ 2 rfl) (kT (by omega))) rfl (aC (d:=31) rfl rfl (cW rfl rfl (aN rfl rfl rfl (aG (XF.thenN (aV rfl (fun hc=>?_) (fun hc=>?_))))))))))))))))
     ·have hc38:=hc;clear hc
      refine aF (aH (aA rfl rfl (aI (o':=2) cU rfl rfl rfl (aJ isAgg3 rfl (aD (hS.at_ 0 rfl) rfl) rfl (aL (j:=qn) underlying51 sizeOf4 rfl rfl (hqn) (by omega) rfl rfl ?_)))))
      refine bD (i:=2) (cs':=zB (bs.set qn true)) (O':=(_::_::(IB,_,_)::Ot)) hS sizeOf4 rfl rfl rfl rfl (Nat.ble_eq_true_of_le (by rw [lL];omega)) lM rfl fun W94 hS=>?_
      refine aG (XF.thenN (aH (aB rfl rfl (aG (XF.blkN (XF.thenN (aH (aA rfl rfl (aS rfl rfl (IntWalk.i64_in _ (by omega)) rfl (aB rfl rfl (aG ?_)))))))))))
      have hs1:t.s = -1:=by simpa using hg24
      have hf2:bs.getD fn false=true:=by simpa using hg31
      have hqf:bs.getD qn false=false:=by simpa using hc38
      have hcs9:=pT (bs:=bs) (i:=qn) (by omega) hqf
      exact XF.round (a.al - (i+1)) [(1,_),(2,_),(5,_),(6,_)] (by omega) ⟨rfl,rfl,rfl,rfl,trivial⟩ ⟨i+1,bs.set qn true,true,by omega,rfl,rfl,by rw [List.length_set];exact hb1,fun q h9=>((fD (by omega)).1 h9).elim (fun e=>by rw [e];exact .arc (hb2 fn hf2) ⟨t,List.mem_of_getElem? ht,hfn,hs1,hqn⟩) (hb2 q),fun q h9=>(fD (by omega)).2 (.inr (hb3 q h9)),by omega,fun _=>by omega,fun h=>(by cases h),hS.tail.keep K (fun q hq=>by simp [hq])⟩
     ·have hc38:=hc;clear hc
      refine aP (XF.blkN (XF.thenN (aH (aA rfl rfl (aS rfl rfl (IntWalk.i64_in _ (by omega)) rfl (aB rfl rfl (aG ?_)))))))
      have hs1:bs.getD qn false=true:=by simpa using hc38
      exact XF.round (a.al - (i+1)) [(1,_),(2,_),(5,_),(6,_)] (by omega) ⟨rfl,rfl,rfl,rfl,trivial⟩ ⟨i+1,bs,ch,by omega,rfl,rfl,hb1,hb2,hb3,hct,hch,fun e9=>⟨(hcf e9).1,fun t2 ht2=>(by
       rw [List.take_add_one,ht] at ht2
       rcases List.mem_append.1 ht2 with h9 | h9
       ·exact (hcf e9).2 t2 h9
       ·obtain rfl:t2=t:=by simpa using h9
        intro h7 h8
        rw [hqn2];exact hs1)⟩,hS.tail.keep K (fun q hq=>by simp [hq])⟩
    ·have hg31:=hc;clear hc
     refine aE (d:=31) rfl rfl rfl rfl (aE (d:=31) rfl rfl rfl rfl (aE (d:=31) rfl rfl rfl rfl (aE (d:=31) rfl rfl rfl rfl (aE (d:=31) rfl rfl rfl rfl (aE (d:=31) rfl rfl rfl rfl (aR rfl rfl rfl (aG (XF.thenN (bX rfl (aP (XF.blkN (XF.thenN (aH (aA rfl rfl (aS rfl rfl (IntWalk.i64_in _ (by omega)) rfl (aB rfl rfl (aG ?_)))))))))))))))))
     have hs1:¬ bs.getD fn false=true:=by simpa using hg31
     exact XF.round (a.al - (i+1)) [(1,_),(2,_),(5,_),(6,_)] (by omega) ⟨rfl,rfl,rfl,rfl,trivial⟩ ⟨i+1,bs,ch,by omega,rfl,rfl,hb1,hb2,hb3,hct,hch,fun e9=>⟨(hcf e9).1,fun t2 ht2=>(by
      rw [List.take_add_one,ht] at ht2
      rcases List.mem_append.1 ht2 with h9 | h9
      ·exact (hcf e9).2 t2 h9
      ·obtain rfl:t2=t:=by simpa using h9
       intro h7 h8
       rw [hfn2] at h8;exact absurd h8 hs1)⟩,hS.tail.keep K (fun q hq=>by simp [hq])⟩
   ·have hg24:=of_decide_eq_false hc;clear hc
    refine aE (d:=24) rfl rfl rfl rfl (aE (d:=24) rfl rfl rfl rfl (aE (d:=24) rfl rfl rfl rfl (aE (d:=24) rfl rfl rfl rfl (aE (d:=24) rfl rfl rfl rfl (aR rfl rfl rfl (aA rfl rfl (aE (d:=31) rfl rfl rfl rfl (aE (d:=31) rfl rfl rfl rfl (aE (d:=31) rfl rfl rfl rfl (aE (d:=31) rfl rfl rfl rfl (aE (d:=31) rfl rfl rfl rfl (aE (d:=31) rfl rfl rfl rfl (aR rfl rfl rfl (aG (XF.thenN (bX rfl (aP (XF.blkN (XF.thenN (aH (aA rfl rfl (aS rfl rfl (IntWalk.i64_in _ (by omega)) rfl (aB rfl rfl (aG ?_))))))))))))))))))))))))
    have hs1:¬ t.s = -1:=by simpa using hg24
    exact XF.round (a.al - (i+1)) [(1,_),(2,_),(5,_),(6,_)] (by omega) ⟨rfl,rfl,rfl,rfl,trivial⟩ ⟨i+1,bs,ch,by omega,rfl,rfl,hb1,hb2,hb3,hct,hch,fun e9=>⟨(hcf e9).1,fun t2 ht2=>(by
     rw [List.take_add_one,ht] at ht2
     rcases List.mem_append.1 ht2 with h9 | h9
     ·exact (hcf e9).2 t2 h9
     ·obtain rfl:t2=t:=by simpa using h9
      intro h7 h8
      exact absurd h7 hs1)⟩,hS.tail.keep K (fun q hq=>by simp [hq])⟩
  ·have hc13:=of_decide_eq_false hc;clear hc
   refine bS (XF.thenX (XF.thenX (XF.blkX (XF.blkN ?_))))
   rw [List.take_of_length_le (by omega)] at hcf
   have hm9:2 * (n - ctB bs)+(if ch=true then 1 else 0) < 2 * (n - ctB bs1)+1:=by
    have h5:=ctB_le (bs:=bs)
    cases ch with
    | false=>obtain ⟨e,_⟩:=hcf rfl;subst e;simp
    | true=>have h6:=hch rfl;simp;omega
   exact XF.round (2 * (n - ctB bs)+(if ch=true then 1 else 0)) [(1,_),(2,_),(5,_)] hm9 ⟨rfl,rfl,rfl,trivial⟩ ⟨bs,ch,rfl,rfl,hb1,hb2,hb3,fun h=>(hcf h).2,hS.keep K (fun q hq=>by simp [hq])⟩
 ·have hc8:=hc;clear hc
  refine bS (XF.thenX (XF.thenX (XF.blkX (XF.thenN (aF (aH (aA rfl rfl (aB rfl rfl (aG (XF.thenN (bK (XF.res (bT results46 rfl) ?_))))))))))))
  exact ⟨bs,hb1,HdB.of hb2 hb3 (hcl (by simpa using hc8)),rfl,(hS.keep K (fun q hq=>by simp [hq])).tail⟩
theorem pU:bA prog 46=true:=by kernel_rfl
theorem mY {n q:Nat}:(List.replicate n false).getD q false=true↔False:=by
 rw [List.getD_eq_getElem?_getD,List.getElem?_replicate]
 split<;>simp
theorem kV (a:NfV) (n:Nat) (k:Int) (la:Option Addr) (ll lc:Nat) (ls:List Int) (Kt:List (Nat×World)) (Ot:Own) (G:aU) (K:List (Nat×World)) (w0 w:World) (hS0:St w0 Ot G K w) (hKt:∀ q∈Kt,q∈K) (hA:bV w0 Kt (fun W=>NIn W a)) (hLs:bV w0 Kt (fun W=>Row W la ls)) (hll:ls.length=ll) (hlm:ll≤9223372036854775807) (hlt:∀ y∈ls,0≤y∧y < (n:Int)) (hn:a.st=(n:Int)) (hn1:1≤n) (hn4:n≤4096) (hO:dX n k a.ar) :
  Calls prog 28 #[a.val,.slice la ll lc] w (fun e w'=>∃ (IB:Nat) (bs:List Bool),bs.length=n∧HdB a.ar (fun q:Nat=>(q:Int)∈ls) bs∧e = .returned (.slice (some ⟨IB,0,none⟩) n n)∧St w0 ((IB,zB bs,4)::Ot) G K w'):=by
 refine bH (args:=[a.val,.slice la ll lc]) func28 rfl ntmps28 rfl ?_
 have hS:=hS0
 refine aF (aH (bZ (cs:=[_,_,_,_,_]) hS rfl rfl rfl fun B1 W1 hS=>aB rfl rfl (aG (XF.thenN (aF (aH (aI (o':=0) cR rfl rfl rfl (aJ isAgg3 rfl (aD (hS.at_ 0 rfl) rfl) rfl ?_))))))))
 refine jE (m:=n) (cs:=zB (List.replicate n false)) hS underlying51 inf_4 rfl rfl rfl (by omega) (by omega) (sW _) (by show (1:Int) * _≤_;omega) (by omega) rfl fun B2 W2 hS=>?_
 refine aB rfl rfl (aG (XF.thenN (aF (aF (aH (aB rfl rfl (aG (XF.thenN (aM ?_)))))))))
 refine cB (fun m l W=>∃ (i:Nat) (bs:List Bool),i≤ll∧m=ll - i∧l=[(1,.slice la ll lc),(2,.pointer (some ⟨B1,0,none⟩)),(5,.slice (some ⟨B2,0,none⟩) n n),(6,.int .i64 (i:Int))]∧bs.length=n∧(∀ q:Nat,bs.getD q false=true↔(q:Int)∈ls.take i)∧St w0 ((B2,zB (bs),4)::(B1,a.cells,24)::Ot) G K W) (ll - 0) ([(1,_),(2,_),(5,_),(6,_)]) ⟨rfl,rfl,rfl,rfl,trivial⟩ (⟨0,List.replicate n false,Nat.zero_le _,rfl,rfl,by simp,fun q=>(by rw [mY];simp),hS.keep K (fun q hq=>by simp [hq])⟩) ?_
 clear hS
 rintro m l W ⟨i,bs,hi,rfl,rfl,hbl,hbm,hS⟩
 refine aF (aF (aH (aA rfl rfl (aA rfl rfl (bN underlying25 rfl rfl (bB rfl rfl rfl (aG (XF.thenN (aV rfl (fun hc=>?_) (fun hc=>?_))))))))))
 ·have hc13:=of_decide_eq_true hc;clear hc
  obtain ⟨b,off,y,hla,hy,hyc⟩:=(hLs (hS.keep K (fun q hq=>by simp [hq])) hKt).at1 (show i < ls.length by omega)
  obtain ⟨hy0,hy1⟩:=hlt y (List.mem_of_getElem? hy)
  obtain ⟨yn,hyn⟩:∃ k:Nat,y=(k:Int):=⟨y.toNat,by omega⟩
  refine aP (XF.thenN (aF (aM (aH (aA rfl rfl (aA rfl rfl (aA rfl rfl ?_)))))))
  refine aL (j:=i) (b:=b) (o:=off) (m:=ll) (c:=lc) underlying25 sizeOf3 (by show some (Value.slice _ _ _)=_;rw [hla]) rfl rfl (by omega) rfl rfl ?_
  refine aJ isAgg3 rfl (hyc) rfl (aL (j:=yn) underlying51 sizeOf4 rfl rfl (hyn) (by omega) rfl rfl ?_)
  refine bD (i:=0) (cs':=zB (bs.set yn true)) (O':=((B2,_,_)::_::Ot)) hS sizeOf4 rfl rfl rfl rfl (Nat.ble_eq_true_of_le (by rw [lL];omega)) lM rfl fun W56 hS=>?_
  refine aG (XF.blkN (XF.thenN (aH (aA rfl rfl (aS rfl rfl (IntWalk.i64_in _ (by omega)) rfl (aB rfl rfl (aG ?_)))))))
  exact XF.round (ll - (i+1)) [(1,_),(2,_),(5,_),(6,_)] (by omega) ⟨rfl,rfl,rfl,rfl,trivial⟩ ⟨i+1,bs.set yn true,by omega,rfl,rfl,by rw [List.length_set];exact hbl,fun q=>(by rw [fD (by omega),hbm,List.take_add_one,hy,List.mem_append];simp [hyn];constructor<;>rintro (h | h)<;>first | exact .inl h | exact .inr h | exact .inl (by omega) | exact .inr (by omega)),hS.keep K (fun q hq=>by simp [hq])⟩
 ·have hc13:=of_decide_eq_false hc;clear hc
  rw [List.take_of_length_le (by omega)] at hbm
  refine bS (XF.thenX (XF.thenX (XF.blkX (XF.thenN (aF (aH (aQ (vs:=[_,_,_,_,_]) isAgg24 sizeOf24 rfl (aK.own (j:=0) (m:=5) (hS.at_ 1 rfl) rfl) rfl (aA rfl rfl (aX (vs:=[_,_]) pU rfl (mX a n k ((fun q:Nat=>(q:Int)∈ls)) B2 bs Kt _ G K w0 _ ((hS.keep K (fun q hq=>by simp [hq]))) hKt hA hO hbl hn4 (fun q hq=>.base ((hbm q).1 hq)) (fun q hq=>(hbm q).2 hq)) rfl ?_)))))))))
  rintro e W9 ⟨bs2,hb2,hH2,rfl,hS9⟩
  refine ⟨_,rfl,?_⟩
  clear hS;have hS:=hS9;clear hS9
  refine aB rfl rfl (aG (XF.thenN (bK (XF.res (bT results28 rfl) ?_))))
  exact ⟨_,bs2,hb2,hH2,rfl,((hS.keep K (fun q hq=>by simp [hq])).perm (List.Perm.swap _ _ _)).tail⟩
theorem tF (a:NfV) (n:Nat) (k x:Int) (P:Nat→Prop) (IB:Nat) (bs0:List Bool) (Kt:List (Nat×World)) (Ot:Own) (G:aU) (K:List (Nat×World)) (w0 w:World) (hS0:St w0 ((IB,zB bs0,4)::Ot) G K w) (hKt:∀ q∈Kt,q∈K) (hA:bV w0 Kt (fun W=>NIn W a)) (hn:a.st=(n:Int)) (hn1:1≤n) (hn4:n≤4096) (hO:dX n k a.ar) (hb0:bs0.length=n) (hP:∀ q:Nat,bs0.getD q false=true↔P q) :
  Calls prog 31 #[a.val,.int .i64 x,.slice (some ⟨IB,0,none⟩) n n] w (fun e w'=>∃ (OB:Nat) (bs:List Bool),bs.length=n∧HdB a.ar (By9 a.ar x P) bs∧e = .returned (.slice (some ⟨OB,0,none⟩) n n)∧St w0 ((OB,zB bs,4)::(IB,zB bs0,4)::Ot) G K w'):=by
 refine bH (args:=[a.val,.int .i64 x,.slice (some ⟨IB,0,none⟩) n n]) func31 rfl ntmps31 rfl ?_
 have hS:=hS0
 have hlen:=(hA hS0 hKt).alen
 have hamx:=(hA hS0 hKt).amax
 refine aF (aH (bZ (cs:=[_,_,_,_,_]) hS rfl rfl rfl fun B1 W1 hS=>aB rfl rfl (aG (XF.thenN (aF (aH (aI (o':=0) cR rfl rfl rfl (aJ isAgg3 rfl (aD (hS.at_ 0 rfl) rfl) rfl ?_))))))))
 refine jE (m:=n) (cs:=zB (List.replicate n false)) hS underlying51 inf_4 rfl rfl rfl (by omega) (by omega) (sW _) (by show (1:Int) * _≤_;omega) (by omega) rfl fun B2 W2 hS=>?_
 refine aB rfl rfl (aG (XF.thenN (aF (aF (aH (aB rfl rfl (aG (XF.thenN (aM ?_)))))))))
 refine cB (fun m l W=>∃ (i:Nat) (bs:List Bool),i≤a.al∧m=a.al - i∧l=[(1,.int .i64 x),(2,.slice (some ⟨IB,0,none⟩) n n),(3,.pointer (some ⟨B1,0,none⟩)),(7,.slice (some ⟨B2,0,none⟩) n n),(8,.int .i64 (i:Int))]∧bs.length=n∧(∀ q:Nat,bs.getD q false=true↔∃ t∈a.ar.take i,((t.s=x∨t.s = -2)∧bs0.getD t.f.toNat false=true)∧t.q=(q:Int))∧St w0 ((B2,zB (bs),4)::(B1,a.cells,24)::(IB,zB bs0,4)::Ot) G K W) (a.al - 0) ([(1,_),(2,_),(3,_),(7,_),(8,_)]) ⟨rfl,rfl,rfl,rfl,rfl,trivial⟩ (⟨0,List.replicate n false,Nat.zero_le _,rfl,rfl,by simp,fun q=>(by rw [mY];simp),hS.keep K (fun q hq=>by simp [hq])⟩) ?_
 clear hS
 rintro m l W ⟨i,bs,hi,rfl,rfl,hbl,hbm,hS⟩
 refine aF (aF (aH (aA rfl rfl (aI (o':=4) cJ rfl rfl rfl (aJ isAgg22 rfl (aD (hS.at_ 1 rfl) rfl) rfl (bN underlying22 rfl rfl (bB rfl rfl rfl (aG (XF.thenN (aV rfl (fun hc=>?_) (fun hc=>?_)))))))))))
 ·have hc17:=of_decide_eq_true hc;clear hc
  obtain ⟨t,ht⟩:∃ t,a.ar[i]?=some t:=⟨_,List.getElem?_eq_getElem (by omega)⟩
  obtain ⟨b,off,haa,hcs⟩:=(hA (hS.keep K (fun q hq=>by simp [hq])) hKt).arow i t ht
  have k1:=hcs
  obtain ⟨⟨hf0,hf1⟩,⟨hq0,hq1⟩,_⟩:=hO t (List.mem_of_getElem? ht)
  obtain ⟨fn,hfn⟩:∃ k:Nat,t.f=(k:Int):=⟨t.f.toNat,by omega⟩
  obtain ⟨qn,hqn⟩:∃ k:Nat,t.q=(k:Int):=⟨t.q.toNat,by omega⟩
  have hfn2:t.f.toNat=fn:=by omega
  refine aP (XF.thenN (aF (aM (aF (aH (aI (o':=4) cJ rfl rfl rfl (aJ isAgg22 rfl (aD (hS.at_ 1 rfl) rfl) rfl (aA rfl rfl ?_))))))))
  refine aL (j:=i) (b:=b) (o:=off) (m:=a.al) (c:=a.ac) underlying22 sizeOf57 (by show some (Value.slice _ _ _)=_;rw [haa]) rfl rfl (by omega) rfl rfl ?_
  refine aQ (vs:=[_,_,_]) isAgg57 sizeOf57 rfl k1 rfl (bP (cs:=[_,_,_]) hS zeroValue57 rfl rfl fun B3 W3 hS=>bO (i:=0) (vs:=[_,_,_]) (cs':=[_,_,_]) (O':=(_::_::_::_::Ot)) hS sizeOf57 rfl rfl rfl rfl rfl rfl rfl fun W4 hS=>aG (XF.thenN (aF (aH (aI (o':=1) cS rfl rfl rfl (aJ isAgg3 rfl (aD (hS.at_ 0 rfl) rfl) rfl (aA rfl rfl (dB rfl rfl rfl (aA rfl rfl (aZ (d:=29) rfl (fun hc=>?_) (fun hc=>?_)))))))))))
  ·have hg29:=of_decide_eq_true hc;clear hc
   refine aE (d:=29) rfl rfl rfl rfl (aE (d:=29) rfl rfl rfl rfl (aE (d:=29) rfl rfl rfl rfl (aN rfl rfl rfl (aA rfl rfl (aC (d:=34) rfl rfl (aA rfl rfl (aC (d:=34) rfl rfl (aI (o':=0) cD rfl rfl rfl (aC (d:=34) rfl rfl (aJ isAgg3 rfl (aD (hS.at_ 0 rfl) rfl) rfl (aC (d:=34) rfl rfl (aL (j:=fn) underlying51 sizeOf4 rfl rfl (hfn) (by omega) rfl rfl (aC (d:=34) rfl rfl (aJ isAgg4 rfl (aD (hS.at_ 3 rfl) (kT (by omega))) rfl (aN rfl rfl rfl (aG (XF.thenN (aV rfl (fun hc=>?_) (fun hc=>?_)))))))))))))))))))
   ·have hc40:=hc;clear hc
    refine aH (aA rfl rfl (aI (o':=2) cU rfl rfl rfl (aJ isAgg3 rfl (aD (hS.at_ 0 rfl) rfl) rfl (aL (j:=qn) underlying51 sizeOf4 rfl rfl (hqn) (by omega) rfl rfl ?_))))
    refine bD (i:=1) (cs':=zB (bs.set qn true)) (O':=(_::(B2,_,_)::_::_::Ot)) hS sizeOf4 rfl rfl rfl rfl (Nat.ble_eq_true_of_le (by rw [lL];omega)) lM rfl fun W74 hS=>?_
    refine aG (XF.blkN (XF.thenN (aH (aA rfl rfl (aS rfl rfl (IntWalk.i64_in _ (by omega)) rfl (aB rfl rfl (aG ?_)))))))
    have hyes:(t.s=x∨t.s = -2)∧bs0.getD t.f.toNat false=true:=⟨by first | exact .inl (by simpa using hg29) | exact .inr (by simpa using hg34),by rw [hfn2];simpa using hc40⟩
    exact XF.round (a.al - (i+1)) [(1,_),(2,_),(3,_),(7,_),(8,_)] (by omega) ⟨rfl,rfl,rfl,rfl,rfl,trivial⟩ ⟨i+1,bs.set qn true,by omega,rfl,rfl,by rw [List.length_set];exact hbl,fun q=>(by
     rw [fD (by omega),hbm,List.take_add_one,ht]
     constructor
     ·rintro (rfl | ⟨t2,h2,h3⟩)
      ·exact ⟨t,List.mem_append_right _ (by simp),hyes,hqn⟩
      ·exact ⟨t2,List.mem_append_left _ h2,h3⟩
     ·rintro ⟨t2,h2,h3⟩
      rcases List.mem_append.1 h2 with h2 | h2
      ·exact .inr ⟨t2,h2,h3⟩
      ·obtain rfl:t2=t:=by simpa using h2
       exact .inl (by have:=h3.2;omega)),hS.tail.keep K (fun q hq=>by simp [hq])⟩
   ·have hc40:=hc;clear hc
    refine aP (XF.blkN (XF.thenN (aH (aA rfl rfl (aS rfl rfl (IntWalk.i64_in _ (by omega)) rfl (aB rfl rfl (aG ?_)))))))
    have hno:¬ ((t.s=x∨t.s = -2)∧bs0.getD t.f.toNat false=true):=fun h9=>by
     rw [hfn2] at h9
     exact absurd h9.2 (by simpa using hc40)
    exact XF.round (a.al - (i+1)) [(1,_),(2,_),(3,_),(7,_),(8,_)] (by omega) ⟨rfl,rfl,rfl,rfl,rfl,trivial⟩ ⟨i+1,bs,by omega,rfl,rfl,hbl,fun q=>(by
     rw [hbm,List.take_add_one,ht]
     constructor
     ·rintro ⟨t2,h2,h3⟩;exact ⟨t2,List.mem_append_left _ h2,h3⟩
     ·rintro ⟨t2,h2,h3⟩
      rcases List.mem_append.1 h2 with h2 | h2
      ·exact ⟨t2,h2,h3⟩
      ·obtain rfl:t2=t:=by simpa using h2
       exact absurd h3.1 hno),hS.tail.keep K (fun q hq=>by simp [hq])⟩
  ·have hg29:=of_decide_eq_false hc;clear hc
   refine aC (d:=29) rfl rfl (aI (o':=1) cS rfl rfl rfl (aC (d:=29) rfl rfl (aJ isAgg3 rfl (aD (hS.at_ 0 rfl) rfl) rfl (aC (d:=29) rfl rfl (dB rfl rfl rfl (aR rfl rfl rfl (aA rfl rfl (aZ (d:=34) rfl (fun hc=>?_) (fun hc=>?_)))))))))
   ·have hg34:=of_decide_eq_true hc;clear hc
    refine aC (d:=34) rfl rfl (aA rfl rfl (aC (d:=34) rfl rfl (aI (o':=0) cD rfl rfl rfl (aC (d:=34) rfl rfl (aJ isAgg3 rfl (aD (hS.at_ 0 rfl) rfl) rfl (aC (d:=34) rfl rfl (aL (j:=fn) underlying51 sizeOf4 rfl rfl (hfn) (by omega) rfl rfl (aC (d:=34) rfl rfl (aJ isAgg4 rfl (aD (hS.at_ 3 rfl) (kT (by omega))) rfl (aN rfl rfl rfl (aG (XF.thenN (aV rfl (fun hc=>?_) (fun hc=>?_))))))))))))))
    ·have hc40:=hc;clear hc
     refine aH (aA rfl rfl (aI (o':=2) cU rfl rfl rfl (aJ isAgg3 rfl (aD (hS.at_ 0 rfl) rfl) rfl (aL (j:=qn) underlying51 sizeOf4 rfl rfl (hqn) (by omega) rfl rfl ?_))))
     refine bD (i:=1) (cs':=zB (bs.set qn true)) (O':=(_::(B2,_,_)::_::_::Ot)) hS sizeOf4 rfl rfl rfl rfl (Nat.ble_eq_true_of_le (by rw [lL];omega)) lM rfl fun W74 hS=>?_
     refine aG (XF.blkN (XF.thenN (aH (aA rfl rfl (aS rfl rfl (IntWalk.i64_in _ (by omega)) rfl (aB rfl rfl (aG ?_)))))))
     have hyes:(t.s=x∨t.s = -2)∧bs0.getD t.f.toNat false=true:=⟨by first | exact .inl (by simpa using hg29) | exact .inr (by simpa using hg34),by rw [hfn2];simpa using hc40⟩
     exact XF.round (a.al - (i+1)) [(1,_),(2,_),(3,_),(7,_),(8,_)] (by omega) ⟨rfl,rfl,rfl,rfl,rfl,trivial⟩ ⟨i+1,bs.set qn true,by omega,rfl,rfl,by rw [List.length_set];exact hbl,fun q=>(by
      rw [fD (by omega),hbm,List.take_add_one,ht]
      constructor
      ·rintro (rfl | ⟨t2,h2,h3⟩)
       ·exact ⟨t,List.mem_append_right _ (by simp),hyes,hqn⟩
       ·exact ⟨t2,List.mem_append_left _ h2,h3⟩
      ·rintro ⟨t2,h2,h3⟩
       rcases List.mem_append.1 h2 with h2 | h2
       ·exact .inr ⟨t2,h2,h3⟩
       ·obtain rfl:t2=t:=by simpa using h2
        exact .inl (by have:=h3.2;omega)),hS.tail.keep K (fun q hq=>by simp [hq])⟩
    ·have hc40:=hc;clear hc
     refine aP (XF.blkN (XF.thenN (aH (aA rfl rfl (aS rfl rfl (IntWalk.i64_in _ (by omega)) rfl (aB rfl rfl (aG ?_)))))))
     have hno:¬ ((t.s=x∨t.s = -2)∧bs0.getD t.f.toNat false=true):=fun h9=>by
      rw [hfn2] at h9
      exact absurd h9.2 (by simpa using hc40)
     exact XF.round (a.al - (i+1)) [(1,_),(2,_),(3,_),(7,_),(8,_)] (by omega) ⟨rfl,rfl,rfl,rfl,rfl,trivial⟩ ⟨i+1,bs,by omega,rfl,rfl,hbl,fun q=>(by
      rw [hbm,List.take_add_one,ht]
      constructor
      ·rintro ⟨t2,h2,h3⟩;exact ⟨t2,List.mem_append_left _ h2,h3⟩
      ·rintro ⟨t2,h2,h3⟩
       rcases List.mem_append.1 h2 with h2 | h2
       ·exact ⟨t2,h2,h3⟩
       ·obtain rfl:t2=t:=by simpa using h2
        exact absurd h3.1 hno),hS.tail.keep K (fun q hq=>by simp [hq])⟩
   ·have hg34:=of_decide_eq_false hc;clear hc
    refine aE (d:=34) rfl rfl rfl rfl (aE (d:=34) rfl rfl rfl rfl (aE (d:=34) rfl rfl rfl rfl (aE (d:=34) rfl rfl rfl rfl (aE (d:=34) rfl rfl rfl rfl (aR rfl rfl rfl (aG (XF.thenN (bX rfl (aP (XF.blkN (XF.thenN (aH (aA rfl rfl (aS rfl rfl (IntWalk.i64_in _ (by omega)) rfl (aB rfl rfl (aG ?_))))))))))))))))
    have hno:¬ ((t.s=x∨t.s = -2)∧bs0.getD t.f.toNat false=true):=fun h9=>h9.1.elim (fun h8=>absurd h8 (by simpa using hg29)) (fun h8=>absurd h8 (by simpa using hg34))
    exact XF.round (a.al - (i+1)) [(1,_),(2,_),(3,_),(7,_),(8,_)] (by omega) ⟨rfl,rfl,rfl,rfl,rfl,trivial⟩ ⟨i+1,bs,by omega,rfl,rfl,hbl,fun q=>(by
     rw [hbm,List.take_add_one,ht]
     constructor
     ·rintro ⟨t2,h2,h3⟩;exact ⟨t2,List.mem_append_left _ h2,h3⟩
     ·rintro ⟨t2,h2,h3⟩
      rcases List.mem_append.1 h2 with h2 | h2
      ·exact ⟨t2,h2,h3⟩
      ·obtain rfl:t2=t:=by simpa using h2
       exact absurd h3.1 hno),hS.tail.keep K (fun q hq=>by simp [hq])⟩
 ·have hc17:=of_decide_eq_false hc;clear hc
  rw [List.take_of_length_le (by omega)] at hbm
  have hby:∀ q:Nat,bs.getD q false=true↔By9 a.ar x P q:=fun q=>by
   rw [hbm]
   constructor
   ·rintro ⟨t,ht,⟨h1,h2⟩,h3⟩
    obtain ⟨⟨hf0,_⟩,_⟩:=hO t ht
    exact ⟨t.f.toNat,(hP _).1 h2,t,ht,by omega,h1,h3⟩
   ·rintro ⟨p,h1,t,ht,h2,h3,h4⟩
    exact ⟨t,ht,⟨h3,by rw [show t.f.toNat=p by omega];exact (hP p).2 h1⟩,h4⟩
  refine bS (XF.thenX (XF.thenX (XF.blkX (XF.thenN (aF (aH (aQ (vs:=[_,_,_,_,_]) isAgg24 sizeOf24 rfl (aK.own (j:=0) (m:=5) (hS.at_ 1 rfl) rfl) rfl (aA rfl rfl (aX (vs:=[_,_]) pU rfl (mX a n k (By9 a.ar x P) B2 bs Kt _ G K w0 _ ((hS.keep K (fun q hq=>by simp [hq]))) hKt hA hO hbl hn4 (fun q hq=>.base ((hby q).1 hq)) (fun q hq=>(hby q).2 hq)) rfl ?_)))))))))
  rintro e W9 ⟨bs2,hb2,hH2,rfl,hS9⟩
  refine ⟨_,rfl,?_⟩
  clear hS;have hS:=hS9;clear hS9
  refine aB rfl rfl (aG (XF.thenN (bK (XF.res (bT results31 rfl) ?_))))
  exact ⟨_,bs2,hb2,hH2,rfl,((hS.keep K (fun q hq=>by simp [hq])).perm (List.Perm.swap _ _ _)).tail⟩
theorem pV:bA prog 14=true:=by kernel_rfl
def mZ (a:NfV) (ls vs:List Int):Int:=if cO a≠0 then cO a else if ls.all (fun s=>inQ s a.st)=true then (if vs.all (fun s=>inQ s a.sy)=true then 0 else 102) else 101
theorem rF (a:NfV) (la:Option Addr) (ll lc:Nat) (ls:List Int) (va:Option Addr) (vl vc:Nat) (vs:List Int) (w:World) (hA:NIn w a) (hl:Row w la ls) (hll:ls.length=ll) (hlm:ll≤9223372036854775807) (hv:Row w va vs) (hvl:vs.length=vl) (hvm:vl≤9223372036854775807) :
  Calls prog 26 #[a.val,.slice la ll lc,.slice va vl vc] w (fun e w'=>e = .returned (.int .i64 (mZ a ls vs))∧Below w.heap.size w w'):=by
 refine bH (args:=[a.val,.slice la ll lc,.slice va vl vc]) func26 rfl ntmps26 rfl ?_
 have hS:=St.start w
 refine aF (aH (bZ (cs:=[_,_,_,_,_]) hS rfl rfl rfl fun B1 W1 hS=>aB rfl rfl (aG (XF.thenN (aF (aH (aQ (vs:=[_,_,_,_,_]) isAgg24 sizeOf24 rfl (aK.own (j:=0) (m:=5) (hS.at_ 0 rfl) rfl) rfl (bW (vs:=[_]) hS pV rfl (pM a _ (hA.below hS.below)) rfl fun W2 hS=>aB rfl rfl (aG (XF.thenN (aF (aF (aH (aA rfl rfl (eW rfl rfl rfl (aG (XF.thenN (aV rfl (fun hc=>?_) (fun hc=>?_)))))))))))))))))))
 ·have hc13:=of_decide_eq_true hc;clear hc
  refine aF (aH (aA rfl rfl (aB rfl rfl (aG (XF.thenN (bK (XF.thenR (XF.res (bT results26 rfl) ?_))))))))
  exact ⟨dW (by unfold mZ;rw [if_pos hc13]),hS.below⟩
 ·have hc13:=of_decide_eq_false hc;clear hc
  refine aP (XF.thenN (aF (aF (aH (aB rfl rfl (aG (XF.thenN (aM (cB (fun m l W=>∃ i:Nat,i≤ll∧m=ll - i∧l=[(1,.slice la ll lc),(2,.slice va vl vc),(3,.pointer (some ⟨B1,0,none⟩)),(8,.int .i64 (i:Int))]∧(ls.take i).all (fun s=>inQ s a.st)=true∧St w [(B1,a.cells,24)] [] [] W) (ll - 0) ([(1,_),(2,_),(3,_),(8,_)]) ⟨rfl,rfl,rfl,rfl,trivial⟩ (⟨0,Nat.zero_le _,rfl,rfl,rfl,hS.clear⟩) ?_)))))))))
  clear hS
  rintro m l W ⟨i,hi,rfl,rfl,hall,hS⟩
  refine aF (aF (aH (aA rfl rfl (aA rfl rfl (bN underlying25 rfl rfl (bB rfl rfl rfl (aG (XF.thenN (aV rfl (fun hc=>?_) (fun hc=>?_))))))))))
  ·have hc18:=of_decide_eq_true hc;clear hc
   obtain ⟨b,off,y,rfl,hy,hyc⟩:=hl.at1 (show i < ls.length by omega)
   have k2:=hS.old hyc
   refine aP (XF.thenN (aF (aM (aF (mJ (m:=7) cX hS (by kernel_rfl) (by kernel_rfl) rfl (dM 1 rfl 3 rfl rfl (fun w hw=>fS (vs:=[_,_,_,_,_]) isAgg24 sizeOf24 rfl (aK.agree (aW hw 0) (Nat.zero_le _) (aK.own (j:=0) (m:=5) (hS.at_ 0 rfl) rfl))) rfl (dM 2 rfl 1 rfl rfl (fun w hw=>bY rfl) rfl (dM 3 rfl 8 rfl rfl (fun w hw=>bY rfl) rfl (bR 4 rfl (isV _) (bF _) (rgV (li:=[(22,_),(23,_)]) rfl (bU rfl) ⟨bE 1 (aT rfl rfl rfl),bE 2 (aT rfl rfl rfl),trivial⟩ (fun w hw=>cG  underlying25 sizeOf3 rfl rfl rfl (by omega) rfl) (bC rfl)) (cI 5 rfl 24 3 rfl rfl rfl (fun w hw=>bQ isAgg3 rfl ((aW hw 0).cell (Nat.zero_le _) (k2))) rfl ?_))))))))))
   refine bR 6 rfl (isV (.bool (inQ y a.st))) (bF _) (rg_call [isV _,isV _] rfl iJ (bU rfl) ⟨p_tmp (bE 0 (aT rfl rfl rfl)),p_tmp (bE 4 (aT rfl rfl rfl)),trivial⟩ (fun vs w' hb hh=>by have e:=kQ (us:=[_,_]) hh;subst e;exact (fC a y w').mono fun e w2 ⟨h1,h2⟩=>⟨_,h1,rfl,h2⟩) (bC rfl)) ?_
   refine cI 7 rfl 26 5 rfl rfl rfl (fun w hw=>nL rfl) rfl (fV ?_)
   intro W3 hbR hS'
   clear hS;have hS:=hS';clear hS'
   refine aY (aY (aY (aY (aY (aY (aY (dV (XF.thenN (aV rfl (fun hc=>?_) (fun hc=>?_))))))))))
   ·have hc27:=hc;clear hc
    refine aF (aH (aB rfl rfl (aG (XF.thenN (bK (XF.blkR (XF.thenR (XF.thenR (XF.blkR (XF.thenR (XF.res (bT results26 rfl) ?_)))))))))))
    exact ⟨dW (by unfold mZ;rw [if_neg hc13,if_neg (by rw [cC hy (by simpa using hc27)];decide)]),hS.below⟩
   ·have hc27:=hc;clear hc
    refine aP (XF.blkN (XF.thenN (aH (aA rfl rfl (aS rfl rfl (IntWalk.i64_in _ (by omega)) rfl (aB rfl rfl (aG ?_)))))))
    exact XF.round (ll - (i+1)) [(1,_),(2,_),(3,_),(8,_)] (by omega) ⟨rfl,rfl,rfl,rfl,trivial⟩ ⟨i+1,by omega,rfl,rfl,eH hy hall (by simpa using hc27),hS.clear⟩
  ·have hc18:=of_decide_eq_false hc;clear hc
   rw [List.take_of_length_le (by omega)] at hall
   have hall1:=hall
   clear hall
   refine bS (XF.thenX (XF.thenX (XF.blkX (XF.thenN (aF (aF (aH (aB rfl rfl (aG (XF.thenN (aM (cB (fun m l W=>∃ i:Nat,i≤vl∧m=vl - i∧l=[(1,.slice la ll lc),(2,.slice va vl vc),(3,.pointer (some ⟨B1,0,none⟩)),(9,.int .i64 (i:Int))]∧(vs.take i).all (fun s=>inQ s a.sy)=true∧St w [(B1,a.cells,24)] [] [] W) (vl - 0) ([(1,_),(2,_),(3,_),(9,_)]) ⟨rfl,rfl,rfl,rfl,trivial⟩ (⟨0,Nat.zero_le _,rfl,rfl,rfl,hS.clear⟩) ?_))))))))))))
   clear hS
   rintro m l W ⟨i,hi,rfl,rfl,hall,hS⟩
   refine aF (aF (aH (aA rfl rfl (aA rfl rfl (bN underlying25 rfl rfl (bB rfl rfl rfl (aG (XF.thenN (aV rfl (fun hc=>?_) (fun hc=>?_))))))))))
   ·have hc31:=of_decide_eq_true hc;clear hc
    obtain ⟨b,off,y,rfl,hy,hyc⟩:=hv.at1 (show i < vs.length by omega)
    have k2:=hS.old hyc
    refine aP (XF.thenN (aF (aM (aF ?_))))
    rcases (by omega:y < 0∨0≤y) with hy0 | hy0
    ·skip
     refine mJ (m:=14) cX hS (by kernel_rfl) (by kernel_rfl) rfl (dM 1 rfl 2 rfl rfl (fun w hw=>bY rfl) rfl (dM 2 rfl 9 rfl rfl (fun w hw=>bY rfl) rfl (bR 3 rfl (isV _) (bF _) (rgV (li:=[(34,_),(35,_)]) rfl (bU rfl) ⟨bE 0 (aT rfl rfl rfl),bE 1 (aT rfl rfl rfl),trivial⟩ (fun w hw=>cG  underlying25 sizeOf3 rfl rfl rfl (by omega) rfl) (bC rfl)) (cI 4 rfl 36 2 rfl rfl rfl (fun w hw=>bQ isAgg3 rfl ((aW hw 0).cell (Nat.zero_le _) (k2))) rfl (bR 5 rfl (isV (.bool true)) (bF _) (rgVe (li:=[(37,_)]) rfl (bU rfl) ⟨bE 3 (aT rfl rfl rfl),trivial⟩ (fun w hw=>nM rfl rfl) (by rw [decide_eq_true hy0]) (bC rfl)) (cI 6 rfl 38 4 rfl rfl rfl (fun w hw=>bY rfl) rfl (bR 7 rfl (isV undef) (bF _) (jQ rfl (jR 39 rfl (aT rfl rfl rfl) rfl) (bC rfl)) (bR 8 rfl (isV undef) (bF _) (jQ rfl (jR 39 rfl (aT rfl rfl rfl) rfl) (bC rfl)) (bR 9 rfl (isV undef) (bF _) (jQ rfl (jR 39 rfl (aT rfl rfl rfl) rfl) (bC rfl)) (bR 10 rfl (isV undef) (bF _) (jQ rfl (jR 39 rfl (aT rfl rfl rfl) rfl) (bC rfl)) (bR 11 rfl (isV undef) (bF _) (jQ rfl (jR 39 rfl (aT rfl rfl rfl) rfl) (bC rfl)) (bR 12 rfl (isV undef) (bF _) (jQ rfl (jR 39 rfl (aT rfl rfl rfl) rfl) (bC rfl)) (bR 13 rfl (isV undef) (bF _) (jQ rfl (jR 39 rfl (aT rfl rfl rfl) rfl) (bC rfl)) (cI 14 rfl 39 5 rfl rfl rfl (fun w hw=>mD rfl rfl) rfl (fV ?_)))))))))))))))
     intro W4 hbR hS'
     clear hS;have hS:=hS';clear hS'
     refine aY (aY (aY (aY (aY (aY (aY (aY (aY (aY (aY (aY (aY (aY (dV (XF.thenN (cF rfl (aF (aH (aB rfl rfl (aG (XF.thenN (bK (XF.blkR (XF.thenR (XF.thenR (XF.blkR (XF.thenR (XF.res (bT results26 rfl) ?_))))))))))))))))))))))))))))
     exact ⟨dW (by unfold mZ;rw [if_neg hc13,if_pos hall1,if_neg (by rw [cC hy (by unfold inQ;simp;omega)];decide)]),hS.below⟩
    ·skip
     refine mJ (m:=14) cX hS (by kernel_rfl) (by kernel_rfl) rfl (dM 1 rfl 2 rfl rfl (fun w hw=>bY rfl) rfl (dM 2 rfl 9 rfl rfl (fun w hw=>bY rfl) rfl (bR 3 rfl (isV _) (bF _) (rgV (li:=[(34,_),(35,_)]) rfl (bU rfl) ⟨bE 0 (aT rfl rfl rfl),bE 1 (aT rfl rfl rfl),trivial⟩ (fun w hw=>cG  underlying25 sizeOf3 rfl rfl rfl (by omega) rfl) (bC rfl)) (cI 4 rfl 36 2 rfl rfl rfl (fun w hw=>bQ isAgg3 rfl ((aW hw 0).cell (Nat.zero_le _) (k2))) rfl (bR 5 rfl (isV (.bool false)) (bF _) (rgVe (li:=[(37,_)]) rfl (bU rfl) ⟨bE 3 (aT rfl rfl rfl),trivial⟩ (fun w hw=>nM rfl rfl) (by rw [decide_eq_false (by omega)]) (bC rfl)) (cI 6 rfl 38 4 rfl rfl rfl (fun w hw=>bY rfl) rfl (bR 7 rfl (isV _) (bF _) (rgV (li:=[(2,_)]) rfl (gW 39 rfl (aT rfl rfl rfl)) ⟨fT rfl,trivial⟩ (fun w hw=>bY rfl) (bC rfl)) (bR 8 rfl (isV _) (bF _) (rgV (li:=[(9,_)]) rfl (gW 39 rfl (aT rfl rfl rfl)) ⟨fT rfl,trivial⟩ (fun w hw=>bY rfl) (bC rfl)) (bR 9 rfl (isV _) (bF _) (rgV (li:=[(40,_),(41,_)]) rfl (gW 39 rfl (aT rfl rfl rfl)) ⟨bE 6 (aT rfl rfl rfl),bE 7 (aT rfl rfl rfl),trivial⟩ (fun w hw=>cG  underlying25 sizeOf3 rfl rfl rfl (by omega) rfl) (bC rfl)) (bR 10 rfl (isV _) (bF _) (rgV (li:=[(42,_)]) rfl (gW 39 rfl (aT rfl rfl rfl)) ⟨bE 8 (aT rfl rfl rfl),trivial⟩ (fun w hw=>bQ isAgg3 rfl ((aW hw 0).cell (Nat.zero_le _) (k2))) (bC rfl)) (bR 11 rfl (isV _) (bF _) (rgV (li:=[(3,_)]) rfl (gW 39 rfl (aT rfl rfl rfl)) ⟨fT rfl,trivial⟩ (fun w hw=>cH (o':=1) dQ rfl rfl) (bC rfl)) (bR 12 rfl (isV _) (bF _) (rgV (li:=[(44,_)]) rfl (gW 39 rfl (aT rfl rfl rfl)) ⟨bE 10 (aT rfl rfl rfl),trivial⟩ (fun w hw=>bQ isAgg3 rfl ((aW hw 0).cell (Nat.zero_le _) (aD (hS.at_ 0 rfl) rfl))) (bC rfl)) (bR 13 rfl (isV _) (bF _) (rgV (li:=[(43,_),(45,_)]) rfl (gW 39 rfl (aT rfl rfl rfl)) ⟨bE 9 (aT rfl rfl rfl),bE 11 (aT rfl rfl rfl),trivial⟩ (fun w hw=>sC rfl rfl) (bC rfl)) (bR 14 rfl (isV _) (bF _) (rgV (li:=[(39,_),(46,_)]) rfl (bU rfl) ⟨bE 5 (aT rfl rfl rfl),bE 12 (aT rfl rfl rfl),trivial⟩ (fun w hw=>mE rfl rfl) (bC rfl)) (fV ?_)))))))))))))))
     intro W5 hbR hS'
     clear hS;have hS:=hS';clear hS'
     refine aY (aY (aY (aY (aY (aY (aY (aY (aY (aY (aY (aY (aY (aY (dV (XF.thenN (aV rfl (fun hc=>?_) (fun hc=>?_)))))))))))))))))
     ·have hc47:=hc;clear hc
      have q1:a.sy≤y:=by simpa using hc47
      refine aF (aH (aB rfl rfl (aG (XF.thenN (bK (XF.blkR (XF.thenR (XF.thenR (XF.blkR (XF.thenR (XF.res (bT results26 rfl) ?_)))))))))))
      exact ⟨dW (by unfold mZ;rw [if_neg hc13,if_pos hall1,if_neg (by rw [cC hy (by unfold inQ;simp;omega)];decide)]),hS.below⟩
     ·have hc47:=hc;clear hc
      have q1:¬ a.sy≤y:=by simpa using hc47
      refine aP (XF.blkN (XF.thenN (aH (aA rfl rfl (aS rfl rfl (IntWalk.i64_in _ (by omega)) rfl (aB rfl rfl (aG ?_)))))))
      exact XF.round (vl - (i+1)) [(1,_),(2,_),(3,_),(9,_)] (by omega) ⟨rfl,rfl,rfl,rfl,trivial⟩ ⟨i+1,by omega,rfl,rfl,eH hy hall (by unfold inQ;simp;omega),hS.clear⟩
   ·have hc31:=of_decide_eq_false hc;clear hc
    rw [List.take_of_length_le (by omega)] at hall
    refine bS (XF.thenX (XF.thenX (XF.blkX (XF.thenN (aF (aH (aB rfl rfl (aG (XF.thenN (bK (XF.res (bT results26 rfl) ?_)))))))))))
    exact ⟨dW (by unfold mZ;rw [if_neg hc13,if_pos hall1,if_pos hall]),hS.below⟩
theorem goes_26:bA prog 26=true:=by kernel_rfl
theorem pW:bA prog 28=true:=by kernel_rfl
theorem pX:bA prog 31=true:=by kernel_rfl
theorem tG {l m:List Int} {i:Nat} {x y:Int} (h:l.take i=m.take i) (hx:l[i]?=some x) (hy:m[i]?=some y) (e:x=y):l.take (i+1)=m.take (i+1):=by
 rw [List.take_add_one,List.take_add_one,h,hx,hy,e]
theorem rG {l m:List Int} {i:Nat} (h:l.take i=m.take i) (h1:l.length≤i) (h2:m.length≤i):l=m:=by
 rw [List.take_of_length_le h1,List.take_of_length_le h2] at h;exact h
theorem nNum_is (a b:Option Addr) (n m ca cb:Nat) (xs ys:List Int) (w:World) (hA:Row w a xs) (hB:Row w b ys) (hn:xs.length=n) (hm:ys.length=m) (hmx:n≤9223372036854775807) :
  Calls prog 12 #[.slice a n ca,.slice b m cb] w (fun e w'=>e = .returned (.bool (decide (xs=ys)))∧Below w.heap.size w w'):=by
 refine bH (args:=[.slice a n ca,.slice b m cb]) func12 rfl ntmps12 rfl ?_
 have hS:=St.start w
 refine aF (aH (aB rfl rfl (aG (XF.thenN (aF (aF (aH (aA rfl rfl (bN underlying25 rfl rfl (aA rfl rfl (bN underlying25 rfl rfl (eW rfl rfl rfl (aG (XF.thenN (aV rfl (fun hc=>?_) (fun hc=>?_))))))))))))))))
 ·have hc10:=of_decide_eq_true hc;clear hc
  refine aF (aH (aB rfl rfl (aG (XF.thenN (bK (XF.thenR (XF.res (bT results12 rfl) ?_)))))))
  exact ⟨by rw [decide_eq_false (fun h=>hc10 (by rw [← hn,← hm,h]))],hS.below⟩
 ·have hc10:=of_decide_eq_false hc;clear hc
  have hnm:n=m:=by have:=Decidable.of_not_not hc10;omega
  refine aP (XF.thenN (aF (aF (aH (aB rfl rfl (aG (XF.thenN (aM (cB (fun m9 l W=>∃ i:Nat,i≤n∧m9=n - i∧l=[(0,.slice a n ca),(1,.slice b m cb),(5,.int .i64 (i:Int))]∧xs.take i=ys.take i∧St w [] [] [] W) (n - 0) ([(0,_),(1,_),(5,_)]) ⟨rfl,rfl,rfl,trivial⟩ (⟨0,Nat.zero_le _,rfl,rfl,rfl,hS.clear⟩) ?_)))))))))
  clear hS
  rintro m9 l W ⟨i,hi,rfl,rfl,hall,hS⟩
  refine aF (aF (aH (aA rfl rfl (aA rfl rfl (bN underlying25 rfl rfl (bB rfl rfl rfl (aG (XF.thenN (aV rfl (fun hc=>?_) (fun hc=>?_))))))))))
  ·have hc14:=of_decide_eq_true hc;clear hc
   obtain ⟨b1,o1,y1,hea,hy1,hc1⟩:=hA.at1 (i:=i) (by omega)
   obtain ⟨b2,o2,y2,heb,hy2,hc2⟩:=hB.at1 (i:=i) (by omega)
   have k1:=hS.old hc1
   have k2:=hS.old hc2
   refine aP (XF.thenN (aF (aM (aF (mJ (m:=9) cX hS (by kernel_rfl) (by kernel_rfl) rfl (dM 1 rfl 0 rfl rfl (fun w hw=>bY rfl) rfl (dM 2 rfl 5 rfl rfl (fun w hw=>bY rfl) rfl ?_)))))))
   refine bR 3 rfl (isV _) (bF _) (rgV (li:=[(17,_),(18,_)]) rfl (bU rfl) ⟨bE 0 (aT rfl rfl rfl),bE 1 (aT rfl rfl rfl),trivial⟩ (fun w hw=>cG (j:=i) (b:=b1) (o:=o1) (m:=n) (c:=ca) underlying25 sizeOf3 (by show some (Value.slice _ _ _)=_;rw [hea]) rfl rfl (by omega) rfl) (bC rfl)) ?_
   refine cI 4 rfl 19 2 rfl rfl rfl (fun w hw=>bQ isAgg3 rfl ((aW hw 0).cell (Nat.zero_le _) (k1))) rfl (dM 5 rfl 1 rfl rfl (fun w hw=>bY rfl) rfl (dM 6 rfl 5 rfl rfl (fun w hw=>bY rfl) rfl ?_))
   refine bR 7 rfl (isV _) (bF _) (rgV (li:=[(21,_),(22,_)]) rfl (bU rfl) ⟨bE 4 (aT rfl rfl rfl),bE 5 (aT rfl rfl rfl),trivial⟩ (fun w hw=>cG (j:=i) (b:=b2) (o:=o2) (m:=m) (c:=cb) underlying25 sizeOf3 (by show some (Value.slice _ _ _)=_;rw [heb]) rfl rfl (by omega) rfl) (bC rfl)) ?_
   refine cI 8 rfl 23 6 rfl rfl rfl (fun w hw=>bQ isAgg3 rfl ((aW hw 0).cell (Nat.zero_le _) (k2))) rfl (bR 9 rfl (isV _) (bF _) (rgV (li:=[(20,_),(24,_)]) rfl (bU rfl) ⟨bE 3 (aT rfl rfl rfl),bE 7 (aT rfl rfl rfl),trivial⟩ (fun w hw=>jP rfl rfl) (bC rfl)) (fV ?_))
   intro W1 hbR hS'
   clear hS;have hS:=hS';clear hS'
   refine aY (aY (aY (aY (aY (aY (aY (aY (aY (dV (XF.thenN (aV rfl (fun hc=>?_) (fun hc=>?_))))))))))))
   ·have hc25:=hc;clear hc
    refine aF (aH (aB rfl rfl (aG (XF.thenN (bK (XF.blkR (XF.thenR (XF.thenR (XF.blkR (XF.thenR (XF.res (bT results12 rfl) ?_)))))))))))
    have hne:y1≠y2:=of_decide_eq_true hc25
    exact ⟨by rw [decide_eq_false (fun h=>hne (by rw [h,hy2] at hy1;exact (Option.some.inj hy1).symm))],hS.below⟩
   ·have hc25:=hc;clear hc
    refine aP (XF.blkN (XF.thenN (aH (aA rfl rfl (aS rfl rfl (IntWalk.i64_in _ (by omega)) rfl (aB rfl rfl (aG ?_)))))))
    have hye:y1=y2:=Decidable.of_not_not (of_decide_eq_false hc25)
    exact XF.round (n - (i+1)) [(0,_),(1,_),(5,_)] (by omega) ⟨rfl,rfl,rfl,trivial⟩ ⟨i+1,by omega,rfl,rfl,tG hall hy1 hy2 hye,hS.clear⟩
  ·have hc14:=of_decide_eq_false hc;clear hc
   refine bS (XF.thenX (XF.thenX (XF.blkX (XF.thenN (aF (aH (aB rfl rfl (aG (XF.thenN (bK (XF.res (bT results12 rfl) ?_)))))))))))
   exact ⟨by rw [decide_eq_true (rG hall (by omega) (by omega))],hS.below⟩
theorem goes_50:bA prog 50=true:=by kernel_rfl
theorem tH {k:Int} (h1:0≤k) (h2:k≤9223372036854775808):IntKind.i64.wrap k=k∨IntKind.i64.wrap k < 0:=by
 rcases (by omega:k=9223372036854775808∨k≤9223372036854775807) with rfl | h
 ·right;decide
 ·left;exact IntWalk.i64_in _ (by omega)
def dS (a:NfV) (ws:List Int):Int:=if cO a≠0 then cO a else if ws.all (fun s=>inQ s a.sy)=true then 0 else 102
def rH (a:NfV) (ws:List Int):Prop:=dH a.ar (Hd a.ar (fun q=>(q:Int)=a.s0)) ws a.e0.toNat
theorem fE {L:List ArV} {P R:Nat→Prop} (h:∀ q,P q↔R q) (q:Nat):Hd L P q↔Hd L R q:=⟨Hd.mono fun q h1=>(h q).1 h1,Hd.mono fun q h1=>(h q).2 h1⟩
theorem iN {w:World} {a:NfV} (h:NIn w a):bV w [] (fun W=>NIn W a):=fun h9 _=>h.below h9.below
theorem rI (a:Option Addr) (n c:Nat) (xs:List Int) (y:Int) (w:World) (hA:Row w a xs) (hn:xs.length=n) (hmx:n≤9223372036854775807) :
  Calls prog 50 #[.slice a n c,.int .i64 y] w (fun e w'=>∃ j:Int,e = .returned (.int .i64 j)∧(0≤j↔y∈xs)∧Below w.heap.size w w'):=by
 refine bH (args:=[.slice a n c,.int .i64 y]) func50 rfl ntmps50 rfl ?_
 have hS:=St.start w
 refine aF (aH (aB rfl rfl (aG (XF.thenN (aF (aF (aH (aA rfl rfl (bN underlying25 rfl rfl (aA rfl rfl (aG (XF.thenN (aM (cB (fun m l W=>∃ i:Nat,i≤n∧m=n - i∧l=[(0,.slice a n c),(1,.int .i64 y),(7,.int .i64 (n:Int)),(8,.int .i64 (i:Int))]∧y∉xs.take i∧St w [] [] [] W) (n - 0) ([(0,_),(1,_),(7,_),(8,_)]) ⟨rfl,rfl,rfl,rfl,trivial⟩ (⟨0,Nat.zero_le _,rfl,rfl,by simp,hS.clear⟩) ?_))))))))))))))
 clear hS
 rintro m l W ⟨i,hi,rfl,rfl,hno,hS⟩
 refine aF (aH (bB rfl rfl rfl (aG (XF.thenN (aF (aV rfl (fun hc=>?_) (fun hc=>?_)))))))
 ·have hc9:=of_decide_eq_true hc;clear hc
  obtain ⟨b,off,z,rfl,hz,hzc⟩:=hA.at1 (show i < xs.length by omega)
  have k2:=hS.old hzc
  refine aP (XF.thenN (aF (aM (aF (aH (aA rfl rfl (aB rfl rfl (aG (XF.thenN (aF (aH (aA rfl rfl (aA rfl rfl (aA rfl rfl (aL  underlying25 sizeOf3 rfl rfl rfl (by omega) rfl rfl (aJ isAgg3 rfl (k2) rfl (dB rfl rfl rfl (aG (XF.thenN (aV rfl (fun hc=>?_) (fun hc=>?_)))))))))))))))))))))
  ·have hc16:=of_decide_eq_true hc;clear hc
   refine aF (aH (aA rfl rfl (aB rfl rfl (aG (XF.thenN (bK (XF.blkR (XF.thenR (XF.thenR (XF.blkR (XF.thenR (XF.res (bT results50 rfl) ?_))))))))))))
   have hyz:y=z:=by simpa using hc16
   exact ⟨_,rfl,⟨fun _=>by rw [hyz];exact List.mem_of_getElem? hz,fun _=>by omega⟩,hS.below⟩
  ·have hc16:=of_decide_eq_false hc;clear hc
   refine aP (XF.blkN (XF.thenN (aH (aS rfl rfl (IntWalk.i64_in _ (by omega)) rfl (aA rfl rfl (aG ?_))))))
   have hyz:¬ y=z:=by simpa using hc16
   exact XF.round (n - (i+1)) [(0,_),(1,_),(7,_),(8,_)] (by omega) ⟨rfl,rfl,rfl,rfl,trivial⟩ ⟨i+1,by omega,rfl,rfl,by rw [List.take_add_one,hz];simp [hno,hyz],hS.clear⟩
 ·have hc9:=of_decide_eq_false hc;clear hc
  rw [List.take_of_length_le (by omega)] at hno
  refine bS (XF.thenX (XF.thenX (XF.blkX (XF.thenN (aF (aH (aB rfl rfl (aG (XF.thenN (bK (XF.res (bT results50 rfl) ?_)))))))))))
  exact ⟨_,rfl,⟨fun h=>absurd h (by decide),fun h=>absurd h hno⟩,hS.below⟩
theorem lP (a:Option Addr) (n c:Nat) (xs:List Int) (y:Int) (w:World) (hA:Row w a xs) (hn:xs.length=n) (hmx:n≤9223372036854775807) :
  Calls prog 36 #[.slice a n c,.int .i64 y] w (fun e w'=>e = .returned (.bool (decide (y∈xs)))∧Below w.heap.size w w'):=by
 refine bH (args:=[.slice a n c,.int .i64 y]) func36 rfl ntmps36 rfl ?_
 have hS:=St.start w
 refine aF (aH (aB rfl rfl (aG (XF.thenN (aF (aH (aA rfl rfl (aA rfl rfl (aX (vs:=[_,_]) goes_50 rfl (rI a n c xs y _ (hA.below hS.below) hn hmx) rfl ?_)))))))))
 rintro e W9 ⟨j,rfl,hj,hb9⟩
 refine ⟨_,rfl,?_⟩
 have hS':=hS.grow hb9;clear hS;have hS:=hS';clear hS'
 refine eI rfl rfl rfl (aB rfl rfl (aG (XF.thenN (bK (XF.res (bT results36 rfl) ?_)))))
 exact ⟨eJ (decide_eq_decide.2 hj),hS.below⟩
end Go.Proofs.Ytpgmnbgkejiomaa
