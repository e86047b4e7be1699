import Derived.StringKeys
import Derived.Maps.OwnSet
import Derived.Test.YtpgmnbgkejiomaaNwA
set_option maxRecDepth 100000
set_option maxHeartbeats 4000000
set_option linter.unusedVariables false
set_option linter.unusedSimpArgs false
set_option linter.unusedSectionVars false
set_option linter.unnecessarySimpa false
namespace Go.Proofs.Ytpgmnbgkejiomaa
open Go.Proofs.Try
open Go.RowKit
section
variable {P:Program} {ops:Array Oper} {Q:Exit→Act→World→Prop} {σ:Type}
theorem kX {ops:Array Oper} {k:Nat} (hk:ops.size=k):jA ops k=true:=List.all_eq_true.2 fun j hj=>by
 rw [decide_eq_true (show j < k by have:=List.mem_range.1 hj;omega)];rfl
theorem mR {L:Array Bool} {i:Nat} (h:L.size≤i):L.getD i false=false:=by
 rw [Array.getD_eq_getD_getElem?,Array.getElem?_eq_none (by omega)];rfl
theorem kQ {t0:Array Value} {d0:List Deferred} {G:σ→World→Prop} {I:σ→Nat→Value→World→Prop} {V:σ→Array Bool→Prop} {k:Nat} (hk:ops.size=k) (ht:cS ops t0.size=true)
  (hstep:∀ i,i < k→rS P ops Q t0 G I V i)
  (hfin:∀ s L a w,RInvG ops t0 d0 G I V s L a w→(∀ i,i < k→L.getD i false=true)→wpList P ops Q (ops.toList.drop k) a w) :
  ∀ (fuel:Nat) (s:σ) (L:Array Bool) (a:Act) (w:World),L.size=ops.size→L.toList.count false≤fuel→cX ops L→RInvG ops t0 d0 G I V s L a w→wpAny P .any ops Q fuel L a w:=by
 intro fuel
 induction fuel with
 | zero =>
  intro s L a w hs hc hcl h
  have hall:∀ i,i < k→L.getD i false=true:=fun i hi=>by
   cases hb:L.getD i false with
   | true=>rfl
   | false =>
    have:=eJ _ _ (dW (by omega) hb)
    omega
  exact fT (fun _ _=>trivial) (kX hk) ht 0 k 0 L a w (by omega) (Nat.le_refl _) (Nat.le_refl _) hs hcl hall (fun i hi=>mR (by omega)) (hfin s L a w h hall)
 | succ fuel ih =>
  intro s L a w hs hc hcl h
  by_cases hall:∀ i,i < k→L.getD i false=true
  ·exact fT (fun _ _=>trivial) (kX hk) ht 0 k (fuel+1) L a w (by omega) (Nat.le_refl _) (Nat.zero_le _) hs hcl hall (fun i hi=>mR (by omega)) (hfin s L a w h hall)
  ·refine ⟨fun hr=>?_,fun i hi=>?_⟩
   ·exfalso;apply hall
    intro i hi
    have h1:=eT ht hs hr i (by omega)
    rw [Array.getD_eq_getD_getElem?,Array.getElem?_eq_getElem (by omega)] at h1 ⊢
    simpa using h1
   ·obtain ⟨his,hr⟩:=gD hi hs
    have hik:i < k:=by omega
    have hc1:=eJ _ _ (dW (by omega) hr.1)
    refine wpOp_mono ?_ (hstep i hik s L a w (fun t ht=>h.frame t ht) h.glob h.cons hs hcl hr (fun j d hw=>?_))
    ·rintro a' w' ⟨s',v,rfl,hV,hG,hI,hst⟩
     refine ih s' _ _ _ (by simpa using hs) ?_ (hcl.next hr (by omega)) ⟨by rw [fM];exact h.size,by rw [eF];exact h.defers,fun t hf=>?_,hG,hV,fun j d hd hj=>?_⟩
     ·rw [Array.toList_setIfInBounds];omega
     ·rw [dD ?_]
      ·exact h.frame t hf
      ·intro hd
       obtain ⟨o,ho,hd⟩:=Option.bind_eq_some_iff.1 hd
       have:=Array.all_eq_true'.1 hf o (Array.mem_of_getElem? ho)
       simp [hd] at this
     ·by_cases hji:j=i
      ·subst hji
       rw [jO hd (by rw [h.size];exact (dT ht hd).1)]
       exact hI d hd
      ·rw [getD_set_ne false (Ne.symm hji)] at hj
       rw [dD (fun e=>hji ((dT ht e).2 j hd))]
       exact hst j d hd (h.done j d hd hj)
    ·have:j∈aft ops i:=by
      unfold aN at hw
      unfold aft
      cases ho:ops[i]? with
      | none=>simp [ho] at hw
      | some o =>
       simp only [ho,Bool.and_eq_true,beq_iff_eq] at hw
       obtain ⟨e,he,h2⟩:=Array.any_eq_true'.1 hw.1
       simp only [Bool.and_eq_true,beq_iff_eq] at h2
       exact List.mem_map.2 ⟨e,List.mem_filter.2 ⟨Array.mem_toList_iff.2 he,h2.2⟩,h2.1⟩
     have hd:(ops[j]?).bind (·.dst)=some d:=by
      unfold aN at hw
      simp only [Bool.and_eq_true,beq_iff_eq] at hw
      exact hw.2
     exact h.done j d hd (hr.2 j this)
end
section
variable {P:Program} {n:Nat} {Q:Exit→Act→World→Prop} {l:Fr} {w0 W:World} {ops:Array Oper} {os:List Oper} {K:List (Nat×World)} {L:List Asr} {i:Nat}
variable {al:List Nat} {ca:Nat→Option Value→List Value} {ta:Nat→TypeId} {Os:Option Value→Own} {Gs:Option Value→aQ} {lo ef jy:Nat} {s:Sg}
variable {d:Nat} {op:Op} {ty:TypeId} {pos:String} {aft_:Array Edge} {v:Value} {gd:Option (Nat×Bool)}
theorem regSL {id k:Nat} {ds:List Nat} (hm:P.follows .mixedOrders=true) (hlo:lo=W.heap.size) (hS:St w0 (Os none) (Gs none) K W) (hk:os.length=k) (ht:cS os.toArray n=true) (hal:al.all (fun a=>Nat.blt a k)=true) (hnd:al.Nodup) (hea:al.contains ef=false)
  (hev:Nat.blt ef k=true) (hdst:(List.range k).all (fun j=>Nat.beq j ef || ((os.toArray[j]?).bind (·.dst)).isSome)=true) (hds:(os.drop k).all (fun o=>match o.dst with | some d=>ds.contains d | none=>true)=true)
  (h:BLS P n os.toArray Q l w0 K lo al ef jy ca ta Os Gs (fun Lr=>∀ (Bf:Nat→Nat) (y:Value) (W':World) (Ks:List (Nat×World)),W.heap.size≤W'.heap.size→(∀ q∈Ks,lo≤q.1)→St w0 (al.map (fun a=>(Bf a,ca a (some y),ta a))++Os (some y)) (Gs (some y)) (Ks++K) W' →
   (∀ {O2 G2 K2 W2},St w0 O2 G2 K2 W2→(∀ q∈Ks,q∈K2)→cY lo (XB (al.map (fun a=>(Bf a,ca a (some y),ta a))++Os (some y)) (Gs (some y))) W' W2) →
   fD (os.take k) (nG al ef jy lo (XB (al.map (fun a=>(Bf a,ca a (some y),ta a))++Os (some y)) (Gs (some y))) Bf y 0 Lr.reverse) (fI ds l) (fun l' W'=>aT P n os.toArray Q (os.drop k) l' W') W') k [] 0):cQ P n (.region id os.toArray true) Q l W:=by
 obtain ⟨Lr,h1,h2,hfin⟩:=lL ht k 0 [] rfl (fun j _=>by rfl) (fun i hi=>by omega) h
 rw [Nat.zero_add] at h1 h2
 have hal':∀ a∈al,a < k:=fun a ha=>Nat.lt_of_lt_of_le (Nat.lt_succ_self _) (Nat.le_of_ble_eq_true (List.all_eq_true.1 hal a ha))
 have hea':ef∉al:=fun h=>by rw [List.contains_iff_mem.2 h] at hea;cases hea
 intro a ha
 refine wp_region_any hm (kQ (t0:=a.tmps) (d0:=a.defers) (V:=VG al ef) (I:=IG al ef jy lo ca ta Os Gs Lr.reverse) (G:=GG w0 K lo ca ta Os Gs) (k:=k) (by simpa using hk) (by rw [ha.size];exact ht) (fun i hi=>(h2 i hi).step a ha) ?_ _ ⟨none,[]⟩ _ _ _ (by simp) (eU _) (fun j hj=>by rw [Array.getD_eq_getD_getElem?,Array.getElem?_replicate] at hj;split at hj<;>simp at hj) ⟨rfl,rfl,fun _ _=>rfl,⟨by unfold OE;exact hS.drew,by rw [hlo];exact Nat.le_refl _,(fun q hq=>by cases hq)⟩,⟨fun a _=>?_,(fun q hq=>by cases hq),List.Pairwise.nil,?_⟩,fun i d _ hj=>?_⟩)
 ·intro s LB a' W' hR hdone
  obtain ⟨hG,hG2,hG3⟩:=hR.glob
  obtain ⟨v1,v2,v3,v4⟩:=hR.cons
  obtain ⟨ev,bs⟩:=s
  have hall:∀ x∈al,(x,bAt bs x)∈bs:=fun x hx=>lM ((v1 x hx).1 (hdone x (hal' x hx)))
  obtain ⟨y,hy⟩:∃ y,ev=some y:=by
   have h3:ev.isSome=true:=v4.1 (hdone ef (Nat.lt_of_lt_of_le (Nat.lt_succ_self _) (Nat.le_of_ble_eq_true hev)))
   exact Option.isSome_iff_exists.1 h3
  subst hy
  have hperm:bs.Perm (al.map (fun x=>(x,bAt bs x))):=by
   refine (List.perm_ext_iff_of_nodup (v3.imp (fun h e=>h (by rw [e]))) ?_).2 fun q=>?_
   ·refine List.Pairwise.map _ (fun x y (hxy:x≠y)=>?_) hnd
    intro e;exact hxy (congrArg Prod.fst e)
   ·constructor
    ·intro hq
     have h3:=hall q.1 (v2 q hq)
     have h4:=hC v3 hq h3 rfl
     rw [h4]
     exact List.mem_map.2 ⟨q.1,v2 q hq,rfl⟩
    ·intro hq
     obtain ⟨x,hx,rfl⟩:=List.mem_map.1 hq
     exact hall x hx
  have hO:(OE ca ta Os ⟨some y,bs⟩).Perm (al.map (fun a=>(bAt bs a,ca a (some y),ta a))++Os (some y)):=by
   unfold OE
   refine List.Perm.append_right _ ?_
   have:=hperm.map (fun q:Nat×Nat=>(q.2,ca q.1 (some y),ta q.1))
   rw [List.map_map] at this
   exact this
  have hG':=hG.perm hO
  have hX:∀ b,XB (OE ca ta Os ⟨some y,bs⟩) (Gs (some y)) b↔XB (al.map (fun a=>(bAt bs a,ca a (some y),ta a))++Os (some y)) (Gs (some y)) b:=fun b=>by
   unfold XB
   constructor
   ·rintro (⟨p,hp,e⟩ | h);exact .inl ⟨p,hO.mem_iff.1 hp,e⟩;exact .inr h
   ·rintro (⟨p,hp,e⟩ | h);exact .inl ⟨p,hO.mem_iff.2 hp,e⟩;exact .inr h
  obtain ⟨Ks,c1,⟨qw,c2,c3⟩,c4⟩:=qB (((al.map (fun a=>(bAt bs a,ca a (some y),ta a))++Os (some y)).map (·.1))++(Gs (some y)).filterMap (fun g=>g.v.ownBlock)) lo W'
  have hG4:=hG'.more Ks (fun q hq=>⟨(c1 q hq).2.1,fun p hp=>(c1 q hq).2.2 p.1 (List.mem_append_left _ (List.mem_map.2 ⟨p,hp,rfl⟩)),fun g hg b hb=>(c1 q hq).2.2 b (List.mem_append_right _ (List.mem_filterMap.2 ⟨g,hg,hb⟩))⟩)
  have hcov:∀ {O2 G2 K2 W2},St w0 O2 G2 K2 W2→(∀ q∈Ks,q∈K2)→cY lo (XB (al.map (fun a=>(bAt bs a,ca a (some y),ta a))++Os (some y)) (Gs (some y))) W' W2:=fun {O2 G2 K2 W2} h2 hq=>by
   refine ⟨⟨h2.below.os.trans hG.below.os.symm,h2.below.tape.trans hG.below.tape.symm,h2.below.output.trans hG.below.output.symm⟩,?_,fun b b1 b2 b3=>?_⟩
   ·have:=(h2.kept qw (hq qw c2)).1.1;rw [c3] at this;exact this
   ·obtain ⟨q,q1,q2,q3⟩:=c4 b b1 b2 (fun hb=>b3 (by
     rcases List.mem_append.1 hb with hb | hb
     ·obtain ⟨p,hp,rfl⟩:=List.mem_map.1 hb
      exact .inl ⟨p,hp,rfl⟩
     ·obtain ⟨g,hg,e⟩:=List.mem_filterMap.1 hb
      exact .inr ⟨g,hg,e⟩))
    exact ((h2.kept q (hq q q1)).1.2 b q2 q3).trans ((c1 q q1).2.1.2 b q2 q3).symm
  have htk:(os.take k).length=k:=by simp;omega
  refine fV (os.take k) (nG al ef jy lo (XB (al.map (fun a=>(bAt bs a,ca a (some y),ta a))++Os (some y)) (Gs (some y))) (bAt bs) y 0 Lr.reverse) (fI ds l) (fun i d hi hd'=>?_) (fun i hi hd'=>?_) (hR.size.trans ha.size) (hR.defers.trans ha.defers) ?_ (fun l' h ha'=>?_) (hfin (bAt bs) y W' Ks (by rw [← hlo];exact hG2) (fun q hq=>(c1 q hq).1) hG4 hcov)
  ·have hik:i < k:=by omega
   have hd2:(os.toArray[i]?).bind (·.dst)=some d:=by rw [List.getElem?_take,if_pos hik] at hd';simpa using hd'
   obtain ⟨i1,i2,i3,i4⟩:=hR.done i d hd2 (hdone i hik)
   rw [fU Lr.reverse 0 i (by simp;omega),Nat.add_zero]
   cases hc1:al.contains i with
   | true =>
    rw [cond_true]
    obtain ⟨B,hB,e⟩:=i1 (List.contains_iff_mem.1 hc1)
    have:=hC v3 hB (hall i (List.contains_iff_mem.1 hc1)) rfl
    show _=_
    rw [e,show B=bAt bs i from congrArg Prod.snd this]
   | false =>
    rw [cond_false]
    have hni:i∉al:=fun hm'=>by rw [List.contains_iff_mem.2 hm'] at hc1;cases hc1
    cases hc2:Nat.beq i ef with
    | true =>
     rw [cond_true]
     have h5:=i2 (Nat.eq_of_beq_eq_true hc2)
     exact (Option.some.inj h5).symm
    | false =>
     rw [cond_false]
     have hne:i≠ef:=fun e=>by rw [e,Nat.beq_refl] at hc2;cases hc2
     have h6:AwS lo (XB (al.map (fun a=>(bAt bs a,ca a (some y),ta a))++Os (some y)) (Gs (some y))) (atI Lr.reverse i) (a'.tmps.getD d undef) W':=fun w2 hw2=>i4 hni hne w2 ⟨hw2.1,hw2.2.1,fun b b1 b2 b3=>hw2.2.2 b b1 b2 (fun hb=>b3 ((hX b).2 hb))⟩
     cases hc3:Nat.beq i jy with
     | true =>
      rw [cond_true]
      refine ⟨?_,h6⟩
      exact i3 (Nat.eq_of_beq_eq_true hc3) y rfl
     | false=>rw [cond_false];exact h6
  ·have hik:i < k:=by omega
   have h3:=List.all_eq_true.1 hdst i (List.mem_range.2 hik)
   rw [Bool.or_eq_true] at h3
   have hd2:(os.toArray[i]?).bind (·.dst)=none:=by rw [List.getElem?_take,if_pos hik] at hd';simpa using hd'
   rcases h3 with h3 | h3
   ·rw [fU Lr.reverse 0 i (by simp;omega),Nat.add_zero]
    have hc1:al.contains i=false:=by rw [Nat.eq_of_beq_eq_true h3];exact hea
    rw [hc1,cond_false,h3,cond_true]
    exact ⟨y,rfl⟩
   ·rw [hd2] at h3;cases h3
  ·intro t v hv hno
   have hl:=eH hv (cF hv)
   have hnt:=cF hv
   rw [hR.frame t ?_]
   ·exact ha.at_ t v hl
   ·unfold cB;rw [Array.all_eq_true'];intro o' ho'
    have ho2:o'∈os:=by simpa using ho'
    rw [← List.take_append_drop k os] at ho2
    rcases List.mem_append.1 ho2 with ho2 | ho2
    ·simpa using hno o' ho2
    ·have h5:=List.all_eq_true.1 hds o' ho2
     cases hx:o'.dst with
     | none=>simp
     | some d =>
      rw [hx] at h5
      simp
      intro e;subst e
      exact hnt (List.contains_iff_mem.1 h5)
  ·have:=h a' ha'
   simpa using this
 ·rw [Array.getD_eq_getD_getElem?,Array.getElem?_replicate]
  constructor
  ·intro h3;split at h3<;>simp at h3
  ·rintro ⟨B,hB⟩;cases hB
 ·rw [Array.getD_eq_getD_getElem?,Array.getElem?_replicate]
  constructor
  ·intro h3;split at h3<;>simp at h3
  ·intro h3;cases h3
 ·rw [Array.getD_eq_getD_getElem?,Array.getElem?_replicate] at hj
  split at hj<;>simp at hj
end
section
variable {P:Program} {n:Nat} {Q:Exit→Act→World→Prop} {l:Fr} {w0 W:World} {ops:Array Oper} {os:List Oper} {K:List (Nat×World)} {L:List Asr} {i:Nat} {O:Own} {G:aQ}
variable {al:List Nat} {zc:Nat→List Value} {ta:Nat→TypeId} {lo ef jy:Nat} {d:Nat} {ty:TypeId} {pos:String} {aft_:Array Edge} {v:Value}
def osY (O:Own) (j jx B:Nat) (cs:List Value) (U:TypeId):Option Value→Own
 | none=>O
 | some y=>O.set j (B,bP cs jx y.cells.toList,U)
theorem lQ {O:Own} {j jx B i:Nat} {cs:List Value} {U:TypeId} {ev:Option Value} {p:Nat×List Value×TypeId} (h:O[i]?=some p) (hij:Nat.beq i j=false):(osY O j jx B cs U ev)[i]?=some p:=by
 cases ev with
 | none=>exact h
 | some y =>
  show (O.set j _)[i]?=_
  rw [List.getElem?_set_ne (fun e=>by rw [e,Nat.beq_refl] at hij;cases hij)];exact h
theorem eff_stP {T U:TypeId} {x:Operand} {tyy B m:Nat} {cs:List Value} {py:Asr} (j jx:Nat) (li:Fr) (hal:al.contains ef=false) (hij:Nat.beq ef jy=false) (hi:ops[ef]?=some ⟨none,.store T x (.tmp tyy),ty,pos,aft_,none⟩) (hjy:(ops[jy]?).bind (·.dst)=some tyy) (hwy:aN ops ef jy tyy=true) (hja:al.contains jy=false) (hLy:atI L jy=py) (hNo:jB al ef L) (hli:lI n ops l L ef li) (hx:evL li x=some (.pointer (some ⟨B,jx,none⟩)))
  (hO:O[j]?=some (B,cs,U)) (hsz:∀ w,(sizeOf T).run P w = .ok m w) (hpy:∀ v w,py v w→∃ vs:List Value,v.cells=vs.toArray∧vs.length=m∧vs.all Value.oneCell'=true) (hjm:Nat.ble (jx+m) cs.length=true):SG P n ops Q l w0 K lo al ef jy (jE zc) ta (osY O j jx B cs U) (qC G) L ef :=
 rU hal hij hi fun t0 a bs w h0 hF hG hbs hD=>by
  have hD':=jW h0 hF hD (fun j d _ hj=>hNo j hj)
  have ex:=eV h0 hF hD' hli x _ hx
  have hy:=((hD jy tyy hwy).2.2.2 (fun h=>by rw [List.contains_iff_mem.2 h] at hja;cases hja) (fun e=>by rw [e,Nat.beq_refl] at hij;cases hij)).here
  rw [hLy] at hy
  obtain ⟨vs,hc,hl,h1⟩:=hpy _ _ hy
  have hcl:(a.eval (.tmp tyy)).cells.toList=vs:=by rw [hc]
  have hOk:(OE (jE zc) ta (osY O j jx B cs U) ⟨none,bs⟩)[bs.length+j]?=some (B,cs,U):=by
   unfold OE
   rw [List.getElem?_append_right (by simp)]
   simpa [osY] using hO
  have hXB:XB (OE (jE zc) ta (osY O j jx B cs U) ⟨none,bs⟩) (qC G none) B:=.inl ⟨_,List.mem_of_getElem? hOk,rfl⟩
  have hrun:=hJ (P:=P) hsz hc hl h1 (hG.1.at_ _ hOk) (j:=jx) (Nat.le_of_ble_eq_true hjm)
  have hO':OE (jE zc) ta (osY O j jx B cs U) ⟨some (a.eval (.tmp tyy)),bs⟩=(OE (jE zc) ta (osY O j jx B cs U) ⟨none,bs⟩).set (bs.length+j) (B,bP cs jx vs,U):=by
   unfold OE
   rw [List.set_append_right _ _ (by simp)]
   congr 1
   simp [osY,hcl]
  refine mK hi rfl rfl rfl (by rw [ex];exact hrun) ⟨undef,a.eval (.tmp tyy),rfl,(fun d hd=>by cases hd),?_,gO hXB,?_,fun d hd=>?_⟩
  ·rw [hO']
   exact hG.1.setMany _ vs jx hOk
  ·rintro b (⟨p,hp,rfl⟩ | h)
   ·rw [hO'] at hp
    rcases List.mem_or_eq_of_mem_set hp with hp | rfl
    ·exact .inl (.inl ⟨p,hp,rfl⟩)
    ·exact .inl hXB
   ·exact .inl (.inr h)
  ·rw [hjy] at hd;cases hd;rfl
end
section
variable {P:Program} {n:Nat} {Q:Exit→Act→World→Prop} {l:Fr} {w0 W:World} {ops:Array Oper} {os:List Oper} {K:List (Nat×World)} {L:List Asr} {i:Nat}
variable {al:List Nat} {ca:Nat→Option Value→List Value} {ta:Nat→TypeId} {Os:Option Value→Own} {Gs:Option Value→aQ} {lo ef jy:Nat} {s:Sg}
variable {d:Nat} {op:Op} {ty:TypeId} {pos:String} {aft_:Array Edge} {v:Value} {gd:Option (Nat×Bool)}
end
theorem dQ (w:World) (b o:Nat):(Instr.fieldAt 24 (.pointer (some ⟨b,o,none⟩)) 0).run prog w = .ok (.pointer (some ⟨b,o+0,none⟩)) w:=by
 simp [Instr.fieldAt,run_underlying underlying24,Instr.sureAddr,go_sem,Addr.add_lit]
theorem gE (w:World) (b o:Nat):(Instr.fieldAt 24 (.pointer (some ⟨b,o,none⟩)) 1).run prog w = .ok (.pointer (some ⟨b,o+1,none⟩)) w:=by
 simp [Instr.fieldAt,run_underlying underlying24,Instr.sureAddr,go_sem,Addr.add_lit]
theorem dN (w:World) (b o:Nat):(Instr.fieldAt 24 (.pointer (some ⟨b,o,none⟩)) 2).run prog w = .ok (.pointer (some ⟨b,o+2,none⟩)) w:=by
 simp [Instr.fieldAt,run_underlying underlying24,Instr.sureAddr,go_sem,Addr.add_lit]
theorem eA (w:World) (b o:Nat):(Instr.fieldAt 24 (.pointer (some ⟨b,o,none⟩)) 3).run prog w = .ok (.pointer (some ⟨b,o+3,none⟩)) w:=by
 simp [Instr.fieldAt,run_underlying underlying24,Instr.sureAddr,go_sem,Addr.add_lit]
theorem dR (w:World) (b o:Nat):(Instr.fieldAt 24 (.pointer (some ⟨b,o,none⟩)) 4).run prog w = .ok (.pointer (some ⟨b,o+4,none⟩)) w:=by
 simp [Instr.fieldAt,run_underlying underlying24,Instr.sureAddr,go_sem,Addr.add_lit]
theorem jI (w:World) (b o:Nat):(Instr.fieldAt 57 (.pointer (some ⟨b,o,none⟩)) 0).run prog w = .ok (.pointer (some ⟨b,o+0,none⟩)) w:=by
 simp [Instr.fieldAt,run_underlying underlying57,Instr.sureAddr,go_sem,Addr.add_lit]
theorem eC (w:World) (b o:Nat):(Instr.fieldAt 57 (.pointer (some ⟨b,o,none⟩)) 1).run prog w = .ok (.pointer (some ⟨b,o+1,none⟩)) w:=by
 simp [Instr.fieldAt,run_underlying underlying57,Instr.sureAddr,go_sem,Addr.add_lit]
theorem eO (w:World) (b o:Nat):(Instr.fieldAt 57 (.pointer (some ⟨b,o,none⟩)) 2).run prog w = .ok (.pointer (some ⟨b,o+2,none⟩)) w:=by
 simp [Instr.fieldAt,run_underlying underlying57,Instr.sureAddr,go_sem,Addr.add_lit]
theorem lR:aZ prog 13=true:=by kernel_rfl
theorem iD:aZ prog 32=true:=by kernel_rfl
structure NfV where
 st:Int
 sy:Int
 s0:Int
 e0:Int
 aa:Option Addr
 al:Nat
 ac:Nat
 ar:List ArV
abbrev NfV.cells (a:NfV):List Value:=[.int .i64 a.st,.int .i64 a.sy,.int .i64 a.s0,.int .i64 a.e0,.slice a.aa a.al a.ac]
abbrev NfV.val (a:NfV):Value:=.agg #[.int .i64 a.st,.int .i64 a.sy,.int .i64 a.s0,.int .i64 a.e0,.slice a.aa a.al a.ac]
abbrev ArV.three (t:ArV):List Value:=[.int .i64 t.f,.int .i64 t.s,.int .i64 t.q]
def jF (w:World) (a:Option Addr) (rs:List ArV):Prop:=∀ (i:Nat) r,rs[i]?=some r→∃ b off,a=some ⟨b,off,none⟩∧aK w b (off+i * 3) r.three
theorem jF.below {w w':World} {a:Option Addr} {rs:List ArV} (h:jF w a rs) (hb:Below w.heap.size w w'):jF w' a rs:=fun i r hi=>by
 obtain ⟨b,off,e,hc⟩:=h i r hi
 exact ⟨b,off,e,aK.agree (aX hb 0) (Nat.zero_le _) hc⟩
structure NIn (w:World) (a:NfV):Prop where
 arow:jF w a.aa a.ar
 alen:a.ar.length=a.al
 amax:a.al≤9223372036854775807
theorem NIn.below {w w':World} {a:NfV} (h:NIn w a) (hb:Below w.heap.size w w'):NIn w' a:=⟨h.arow.below hb,h.alen,h.amax⟩
def arB (n k:Int) (t:ArV):Bool:=inQ t.f n && (inQ t.q n && (decide (-2≤t.s) && decide (t.s < k)))
def dH (a:NfV):Int:=if 65536 < a.al then 3 else if a.st < 1∨4096 < a.st∨a.sy < 0∨4096 < a.sy then 81 else if inQ a.s0 a.st=true∧inQ a.e0 a.st=true then (if a.ar.all (arB a.st a.sy)=true then 0 else 81) else 81
theorem gG {a:NfV} (h:dH a=0):∃ n k s e:Nat,a.st=(n:Int)∧a.sy=(k:Int)∧a.s0=(s:Int)∧a.e0=(e:Int)∧1≤n∧n≤4096∧k≤4096∧s < n∧e < n∧a.al≤65536∧fK n (k:Int) a.ar:=by
 unfold dH at h
 split at h
 ·cases h
 ·split at h
  ·cases h
  ·split at h
   ·split at h
    ·rename_i h1 h2 h3 h4
     unfold inQ at h3
     simp only [Bool.and_eq_true,decide_eq_true_eq] at h3
     refine ⟨a.st.toNat,a.sy.toNat,a.s0.toNat,a.e0.toNat,by omega,by omega,by omega,by omega,by omega,by omega,by omega,by omega,by omega,by omega,fun t ht=>?_⟩
     have h5:=List.all_eq_true.1 h4 t ht
     unfold arB inQ at h5
     simp only [Bool.and_eq_true,decide_eq_true_eq] at h5
     omega
    ·cases h
   ·cases h
def cR (a:NfV) (l:List Int):Int:=if dH a≠0 then dH a else if l.all (fun s=>inQ s a.st)=true then 0 else 101
theorem dY (a:NfV) (x:Int) (w:World) :
  Calls prog 32 #[a.val,.int .i64 x] w (fun e w'=>e = .returned (.bool (inQ x a.st))∧Below w.heap.size w w'):=by
 refine bD (args:=[a.val,.int .i64 x]) func32 rfl ntmps32 rfl ?_
 have hS:=St.start w
 refine aC (aG (bZ (cs:=[_,_,_,_,_]) hS rfl rfl rfl fun B1 W1 hS=>aB rfl rfl (aF (XF.thenN (aC (aG (aA rfl rfl (eQ rfl rfl rfl (aA rfl rfl (bM (d:=7) rfl (fun hc=>?_) (fun hc=>?_)))))))))))
 ·have hg7:=of_decide_eq_true hc;clear hc
  refine aD (d:=7) rfl rfl (aA rfl rfl (aD (d:=7) rfl rfl (aH (o':=0) dQ rfl rfl rfl (aD (d:=7) rfl rfl (aI isAgg3 rfl (aE (hS.at_ 0 rfl) rfl) rfl (aD (d:=7) rfl rfl (bG rfl rfl rfl (aR rfl rfl rfl (aB rfl rfl (aF (XF.thenN (bK (XF.res (bY results32 rfl) ?_)))))))))))))
  exact ⟨eN (by unfold inQ;rw [decide_eq_true (show (0:Int)≤x from hg7)];rfl),hS.below⟩
 ·have hg7:=of_decide_eq_false hc;clear hc
  refine aJ (d:=7) rfl rfl rfl rfl (aJ (d:=7) rfl rfl rfl rfl (aJ (d:=7) rfl rfl rfl rfl (aJ (d:=7) rfl rfl rfl rfl (aW rfl rfl rfl (aB rfl rfl (aF (XF.thenN (bK (XF.res (bY results32 rfl) ?_)))))))))
  exact ⟨eN (by unfold inQ;rw [decide_eq_false (show ¬ (0:Int)≤x from hg7)];rfl),hS.below⟩
theorem kY (a:NfV) (x:Int) (w:World) :
  Calls prog 29 #[a.val,.int .i64 x] w (fun e w'=>e = .returned (.bool (inQ x a.sy))∧Below w.heap.size w w'):=by
 refine bD (args:=[a.val,.int .i64 x]) func29 rfl ntmps29 rfl ?_
 have hS:=St.start w
 refine aC (aG (bZ (cs:=[_,_,_,_,_]) hS rfl rfl rfl fun B1 W1 hS=>aB rfl rfl (aF (XF.thenN (aC (aG (aA rfl rfl (eQ rfl rfl rfl (aA rfl rfl (bM (d:=7) rfl (fun hc=>?_) (fun hc=>?_)))))))))))
 ·have hg7:=of_decide_eq_true hc;clear hc
  refine aD (d:=7) rfl rfl (aA rfl rfl (aD (d:=7) rfl rfl (aH (o':=1) gE rfl rfl rfl (aD (d:=7) rfl rfl (aI isAgg3 rfl (aE (hS.at_ 0 rfl) rfl) rfl (aD (d:=7) rfl rfl (bG rfl rfl rfl (aR rfl rfl rfl (aB rfl rfl (aF (XF.thenN (bK (XF.res (bY results29 rfl) ?_)))))))))))))
  exact ⟨eN (by unfold inQ;rw [decide_eq_true (show (0:Int)≤x from hg7)];rfl),hS.below⟩
 ·have hg7:=of_decide_eq_false hc;clear hc
  refine aJ (d:=7) rfl rfl rfl rfl (aJ (d:=7) rfl rfl rfl rfl (aJ (d:=7) rfl rfl rfl rfl (aJ (d:=7) rfl rfl rfl rfl (aW rfl rfl rfl (aB rfl rfl (aF (XF.thenN (bK (XF.res (bY results29 rfl) ?_)))))))))
  exact ⟨eN (by unfold inQ;rw [decide_eq_false (show ¬ (0:Int)≤x from hg7)];rfl),hS.below⟩
theorem lS (a:NfV) (w:World) (hA:NIn w a) :
  Calls prog 13 #[a.val] w (fun e w'=>e = .returned (.int .i64 (dH a))∧Below w.heap.size w w'):=by
 refine bD (args:=[a.val]) func13 rfl ntmps13 rfl ?_
 have hS:=St.start w
 refine aC (aG (bZ (cs:=[_,_,_,_,_]) hS rfl rfl rfl fun B1 W1 hS=>aB rfl rfl (aF (XF.thenN (aC (aC (aG (aH (o':=4) dR rfl rfl rfl (aI isAgg22 rfl (aE (hS.at_ 0 rfl) rfl) rfl (bF underlying22 rfl rfl (eG rfl rfl rfl (aF (XF.thenN (bA rfl (fun hc=>?_) (fun hc=>?_)))))))))))))))
 ·have hc8:=of_decide_eq_true hc;clear hc
  refine aC (aG (aB rfl rfl (aF (XF.thenN (bK (XF.thenR (XF.res (bY results13 rfl) ?_)))))))
  exact ⟨gW (by unfold dH;rw [if_pos (by omega)]),hS.below⟩
 ·have hc8:=of_decide_eq_false hc;clear hc
  have h1:¬ 65536 < a.al:=by omega
  refine aO (XF.thenN (aC (aC (aG (aH (o':=0) dQ rfl rfl rfl (aI isAgg3 rfl (aE (hS.at_ 0 rfl) rfl) rfl (bG rfl rfl rfl (aA rfl rfl (bM (d:=12) rfl (fun hc=>?_) (fun hc=>?_))))))))))
  ·have hg12:=of_decide_eq_true hc;clear hc
   refine aJ (d:=12) rfl rfl rfl rfl (aJ (d:=12) rfl rfl rfl rfl (aJ (d:=12) rfl rfl rfl rfl (aR rfl rfl rfl (aA rfl rfl (aJ (d:=17) rfl rfl rfl rfl (aJ (d:=17) rfl rfl rfl rfl (aJ (d:=17) rfl rfl rfl rfl (aR rfl rfl rfl (aA rfl rfl (aJ (d:=22) rfl rfl rfl rfl (aJ (d:=22) rfl rfl rfl rfl (aJ (d:=22) rfl rfl rfl rfl (aR rfl rfl rfl (aF (XF.thenN (cT rfl (aC (aG (aB rfl rfl (aF (XF.thenN (bK (XF.thenR ?_)))))))))))))))))))))))
   refine XF.res (bY results13 rfl) ?_
   exact ⟨gW (by unfold dH;rw [if_neg h1,if_pos (by omega)]),hS.below⟩
  ·have hg12:=of_decide_eq_false hc;clear hc
   refine aD (d:=12) rfl rfl (aH (o':=0) dQ rfl rfl rfl (aD (d:=12) rfl rfl (aI isAgg3 rfl (aE (hS.at_ 0 rfl) rfl) rfl (aD (d:=12) rfl rfl (eG rfl rfl rfl (aW rfl rfl rfl (aA rfl rfl (bM (d:=17) rfl (fun hc=>?_) (fun hc=>?_)))))))))
   ·have hg17:=of_decide_eq_true hc;clear hc
    refine aJ (d:=17) rfl rfl rfl rfl (aJ (d:=17) rfl rfl rfl rfl (aJ (d:=17) rfl rfl rfl rfl (aR rfl rfl rfl (aA rfl rfl (aJ (d:=22) rfl rfl rfl rfl (aJ (d:=22) rfl rfl rfl rfl (aJ (d:=22) rfl rfl rfl rfl (aR rfl rfl rfl (aF (XF.thenN (cT rfl (aC (aG (aB rfl rfl (aF (XF.thenN (bK (XF.thenR (XF.res (bY results13 rfl) ?_)))))))))))))))))))
    exact ⟨gW (by unfold dH;rw [if_neg h1,if_pos (by omega)]),hS.below⟩
   ·have hg17:=of_decide_eq_false hc;clear hc
    refine aD (d:=17) rfl rfl (aH (o':=1) gE rfl rfl rfl (aD (d:=17) rfl rfl (aI isAgg3 rfl (aE (hS.at_ 0 rfl) rfl) rfl (aD (d:=17) rfl rfl (bG rfl rfl rfl (aW rfl rfl rfl (aA rfl rfl (bM (d:=22) rfl (fun hc=>?_) (fun hc=>?_)))))))))
    ·have hg22:=of_decide_eq_true hc;clear hc
     refine aJ (d:=22) rfl rfl rfl rfl (aJ (d:=22) rfl rfl rfl rfl (aJ (d:=22) rfl rfl rfl rfl (aR rfl rfl rfl (aF (XF.thenN (cT rfl (aC (aG (aB rfl rfl (aF (XF.thenN (bK (XF.thenR (XF.res (bY results13 rfl) ?_))))))))))))))
     exact ⟨gW (by unfold dH;rw [if_neg h1,if_pos (by omega)]),hS.below⟩
    ·have hg22:=of_decide_eq_false hc;clear hc
     refine aD (d:=22) rfl rfl (aH (o':=1) gE rfl rfl rfl (aD (d:=22) rfl rfl (aI isAgg3 rfl (aE (hS.at_ 0 rfl) rfl) rfl (aD (d:=22) rfl rfl (eG rfl rfl rfl (aW rfl rfl rfl (aF (XF.thenN (bA rfl (fun hc=>?_) (fun hc=>?_))))))))))
     ·have hc26:=of_decide_eq_true hc;clear hc
      refine aC (aG (aB rfl rfl (aF (XF.thenN (bK (XF.thenR (XF.res (bY results13 rfl) ?_)))))))
      exact ⟨gW (by unfold dH;rw [if_neg h1,if_pos (by omega)]),hS.below⟩
     ·have hc26:=of_decide_eq_false hc;clear hc
      have h2:¬ (a.st < 1∨4096 < a.st∨a.sy < 0∨4096 < a.sy):=by omega
      refine aO (XF.thenN (aC (aC (aG (aM (vs:=[_,_,_,_,_]) isAgg24 sizeOf24 rfl (aK.own (j:=0) (m:=5) (hS.at_ 0 rfl) rfl) rfl (aH (o':=2) dN rfl rfl rfl (aI isAgg3 rfl (aE (hS.at_ 0 rfl) rfl) rfl (bV (vs:=[_,_]) hS iD rfl (dY a a.s0 _) rfl fun W2 hS=>cP rfl rfl (aA rfl rfl (bM (d:=32) rfl (fun hc=>?_) (fun hc=>?_)))))))))))
      ·have hg32:=hc;clear hc
       refine aJ (d:=32) rfl rfl rfl rfl (aJ (d:=32) rfl rfl rfl rfl (aJ (d:=32) rfl rfl rfl rfl (aJ (d:=32) rfl rfl rfl rfl (aJ (d:=32) rfl rfl rfl rfl (aR rfl rfl rfl (aF (XF.thenN (cT rfl (aC (aG (aB rfl rfl (aF (XF.thenN (bK (XF.thenR (XF.res (bY results13 rfl) ?_))))))))))))))))
       exact ⟨gW (by unfold dH;rw [if_neg h1,if_neg h2,if_neg (by simp at *;simp [*])]),hS.below⟩
      ·have hg32:=hc;clear hc
       refine aD (d:=32) rfl rfl (aM (vs:=[_,_,_,_,_]) isAgg24 sizeOf24 rfl (aK.own (j:=0) (m:=5) (hS.at_ 0 rfl) rfl) rfl (aD (d:=32) rfl rfl (aH (o':=3) eA rfl rfl rfl (aD (d:=32) rfl rfl (aI isAgg3 rfl (aE (hS.at_ 0 rfl) rfl) rfl (aD (d:=32) rfl rfl (bV (vs:=[_,_]) hS iD rfl (dY a a.e0 _) rfl fun W3 hS=>aD (d:=32) rfl rfl (cP rfl rfl (aW rfl rfl rfl (aF (XF.thenN (bA rfl (fun hc=>?_) (fun hc=>?_)))))))))))))
       ·have hc38:=hc;clear hc
        refine aC (aG (aB rfl rfl (aF (XF.thenN (bK (XF.thenR (XF.res (bY results13 rfl) ?_)))))))
        exact ⟨gW (by unfold dH;rw [if_neg h1,if_neg h2,if_neg (by simp at *;simp [*])]),hS.below⟩
       ·have hc38:=hc;clear hc
        have h3:inQ a.s0 a.st=true∧inQ a.e0 a.st=true:=by simp at *;simp [*]
        refine aO (XF.thenN (aC (aC (aG (aH (o':=4) dR rfl rfl rfl (aI isAgg22 rfl (aE (hS.at_ 0 rfl) rfl) rfl (bF underlying22 rfl rfl (aA rfl rfl (aF (XF.thenN (aL (cD (fun m l W=>∃ i:Nat,i≤a.al∧m=a.al - i∧l=[(1,.pointer (some ⟨B1,0,none⟩)),(40,.slice a.aa a.al a.ac),(41,.int .i64 (a.al:Int)),(42,.int .i64 (i:Int))]∧(a.ar.take i).all (arB a.st a.sy)=true∧St w [(B1,a.cells,24)] [] [] W) (a.al - 0) ([(1,_),(40,_),(41,_),(42,_)]) ⟨rfl,rfl,rfl,rfl,trivial⟩ (⟨0,Nat.zero_le _,rfl,rfl,rfl,hS.clear⟩) ?_))))))))))))
        clear hS
        rintro m l W ⟨i,hi,rfl,rfl,hall,hS⟩
        refine aC (aG (bG rfl rfl rfl (aF (XF.thenN (aC (bA rfl (fun hc=>?_) (fun hc=>?_)))))))
        ·have hc43:=of_decide_eq_true hc;clear hc
         obtain ⟨t,ht⟩:∃ t,a.ar[i]?=some t:=⟨_,List.getElem?_eq_getElem (by have:=hA.alen;omega)⟩
         obtain ⟨b,off,haa,hcs⟩:=hA.arow i t ht
         have k1:=aK.agree hS.agree (Nat.zero_le _) hcs
         refine aO (XF.thenN (aC (aL (aC (aG ?_)))))
         refine aS (j:=i) (b:=b) (o:=off) (m:=a.al) (c:=a.ac) underlying22 sizeOf57 (by show some (Value.slice _ _ _)=_;rw [haa]) rfl rfl (by omega) rfl rfl ?_
         refine aM (vs:=[_,_,_]) isAgg57 sizeOf57 rfl k1 rfl (bH (cs:=[_,_,_]) hS zeroValue57 rfl rfl fun B4 W4 hS=>bI (i:=0) (vs:=[_,_,_]) (cs':=[_,_,_]) (O':=[_,_]) hS sizeOf57 rfl rfl rfl rfl rfl rfl rfl fun W5 hS=>aF (XF.thenN (aC (aG (aM (vs:=[_,_,_,_,_]) isAgg24 sizeOf24 rfl (aK.own (j:=0) (m:=5) (hS.at_ 1 rfl) rfl) rfl (aH (o':=0) jI rfl rfl rfl (aI isAgg3 rfl (aE (hS.at_ 0 rfl) rfl) rfl (bV (vs:=[_,_]) hS iD rfl (dY a t.f _) rfl fun W6 hS=>cP rfl rfl (aA rfl rfl (bM (d:=51) rfl (fun hc=>?_) (fun hc=>?_)))))))))))
         ·have hg51:=hc;clear hc
          refine aJ (d:=51) rfl rfl rfl rfl (aJ (d:=51) rfl rfl rfl rfl (aJ (d:=51) rfl rfl rfl rfl (aJ (d:=51) rfl rfl rfl rfl (aJ (d:=51) rfl rfl rfl rfl (aR rfl rfl rfl (aA rfl rfl (aJ (d:=58) rfl rfl rfl rfl (aJ (d:=58) rfl rfl rfl rfl (aJ (d:=58) rfl rfl rfl rfl (aR rfl rfl rfl (aA rfl rfl (aJ (d:=63) rfl rfl rfl rfl (aJ (d:=63) rfl rfl rfl rfl (aJ (d:=63) rfl rfl rfl rfl (aJ (d:=63) rfl rfl rfl rfl (aJ (d:=63) rfl rfl rfl rfl (aR rfl rfl rfl (aF (XF.thenN (cT rfl (aC (aG ?_))))))))))))))))))))))
          refine aB rfl rfl (aF (XF.thenN (bK (XF.blkR (XF.thenR (XF.thenR (XF.blkR (XF.thenR (XF.res (bY results13 rfl) ?_)))))))))
          exact ⟨gW (by unfold dH;rw [if_neg h1,if_neg h2,if_pos h3,if_neg (by rw [dE ht (by unfold arB;simp at *;simp [*];try omega)];decide)]),hS.below⟩
         ·have hg51:=hc;clear hc
          refine aD (d:=51) rfl rfl (aM (vs:=[_,_,_,_,_]) isAgg24 sizeOf24 rfl (aK.own (j:=0) (m:=5) (hS.at_ 1 rfl) rfl) rfl (aD (d:=51) rfl rfl (aH (o':=2) eO rfl rfl rfl (aD (d:=51) rfl rfl (aI isAgg3 rfl (aE (hS.at_ 0 rfl) rfl) rfl (aD (d:=51) rfl rfl (bV (vs:=[_,_]) hS iD rfl (dY a t.q _) rfl fun W7 hS=>aD (d:=51) rfl rfl (cP rfl rfl (aW rfl rfl rfl (aA rfl rfl (bM (d:=58) rfl (fun hc=>?_) (fun hc=>?_))))))))))))
          ·have hg58:=hc;clear hc
           refine aJ (d:=58) rfl rfl rfl rfl (aJ (d:=58) rfl rfl rfl rfl (aJ (d:=58) rfl rfl rfl rfl (aR rfl rfl rfl (aA rfl rfl (aJ (d:=63) rfl rfl rfl rfl (aJ (d:=63) rfl rfl rfl rfl (aJ (d:=63) rfl rfl rfl rfl (aJ (d:=63) rfl rfl rfl rfl (aJ (d:=63) rfl rfl rfl rfl (aR rfl rfl rfl (aF (XF.thenN (cT rfl (aC (aG (aB rfl rfl (aF (XF.thenN (bK (XF.blkR (XF.thenR (XF.thenR (XF.blkR ?_)))))))))))))))))))))))
           refine XF.thenR (XF.res (bY results13 rfl) ?_)
           exact ⟨gW (by unfold dH;rw [if_neg h1,if_neg h2,if_pos h3,if_neg (by rw [dE ht (by unfold arB;simp at *;simp [*];try omega)];decide)]),hS.below⟩
          ·have hg58:=hc;clear hc
           refine aD (d:=58) rfl rfl (aH (o':=1) eC rfl rfl rfl (aD (d:=58) rfl rfl (aI isAgg3 rfl (aE (hS.at_ 0 rfl) rfl) rfl (aD (d:=58) rfl rfl (bG rfl rfl rfl (aW rfl rfl rfl (aA rfl rfl (bM (d:=63) rfl (fun hc=>?_) (fun hc=>?_)))))))))
           ·have hg63:=of_decide_eq_true hc;clear hc
            refine aJ (d:=63) rfl rfl rfl rfl (aJ (d:=63) rfl rfl rfl rfl (aJ (d:=63) rfl rfl rfl rfl (aJ (d:=63) rfl rfl rfl rfl (aJ (d:=63) rfl rfl rfl rfl (aR rfl rfl rfl (aF (XF.thenN (cT rfl (aC (aG (aB rfl rfl (aF (XF.thenN (bK (XF.blkR (XF.thenR (XF.thenR (XF.blkR (XF.thenR (XF.res (bY results13 rfl) ?_))))))))))))))))))))
            exact ⟨gW (by unfold dH;rw [if_neg h1,if_neg h2,if_pos h3,if_neg (by rw [dE ht (by unfold arB;simp at *;simp [*];try omega)];decide)]),hS.below⟩
           ·have hg63:=of_decide_eq_false hc;clear hc
            refine aD (d:=63) rfl rfl (aH (o':=1) eC rfl rfl rfl (aD (d:=63) rfl rfl (aI isAgg3 rfl (aE (hS.at_ 0 rfl) rfl) rfl (aD (d:=63) rfl rfl (aH (o':=1) gE rfl rfl rfl (aD (d:=63) rfl rfl (aI isAgg3 rfl (aE (hS.at_ 1 rfl) rfl) rfl (aD (d:=63) rfl rfl (eQ rfl rfl rfl (aW rfl rfl rfl (aF (XF.thenN (bA rfl (fun hc=>?_) (fun hc=>?_))))))))))))))
            ·have hc69:=of_decide_eq_true hc;clear hc
             refine aC (aG (aB rfl rfl (aF (XF.thenN (bK (XF.blkR (XF.thenR (XF.thenR (XF.blkR (XF.thenR (XF.res (bY results13 rfl) ?_)))))))))))
             exact ⟨gW (by unfold dH;rw [if_neg h1,if_neg h2,if_pos h3,if_neg (by rw [dE ht (by unfold arB;simp at *;simp [*];try omega)];decide)]),hS.below⟩
            ·have hc69:=of_decide_eq_false hc;clear hc
             refine aO (XF.blkN (XF.thenN (aG (aV rfl rfl (IntWalk.i64_in _ (by omega)) rfl (aA rfl rfl (aF ?_))))))
             exact XF.round (a.al - (i+1)) [(1,_),(40,_),(41,_),(42,_)] (by omega) ⟨rfl,rfl,rfl,rfl,trivial⟩ ⟨i+1,by omega,rfl,rfl,fX ht hall (by unfold arB;simp at *;simp [*];try omega),hS.tail.clear⟩
        ·have hc43:=of_decide_eq_false hc;clear hc
         rw [List.take_of_length_le (by have:=hA.alen;omega)] at hall
         refine bS (XF.thenX (XF.thenX (XF.blkX (XF.thenN (aC (aG (aB rfl rfl (aF (XF.thenN (bK (XF.res (bY results13 rfl) ?_)))))))))))
         exact ⟨gW (by unfold dH;rw [if_neg h1,if_neg h2,if_pos h3,if_pos hall]),hS.below⟩
theorem kB (a:NfV) (la:Option Addr) (ll lc:Nat) (ls:List Int) (w:World) (hA:NIn w a) (hl:Row w la ls) (hll:ls.length=ll) (hlm:ll≤9223372036854775807) :
  Calls prog 23 #[a.val,.slice la ll lc] w (fun e w'=>e = .returned (.int .i64 (cR a ls))∧Below w.heap.size w w'):=by
 refine bD (args:=[a.val,.slice la ll lc]) func23 rfl ntmps23 rfl ?_
 have hS:=St.start w
 refine aC (aG (bZ (cs:=[_,_,_,_,_]) hS rfl rfl rfl fun B1 W1 hS=>aB rfl rfl (aF (XF.thenN (aC (aC (aG (aM (vs:=[_,_,_,_,_]) isAgg24 sizeOf24 rfl (aK.own (j:=0) (m:=5) (hS.at_ 0 rfl) rfl) rfl (bV (vs:=[_]) hS lR rfl (lS a _ (hA.below hS.below)) rfl fun W2 hS=>aB rfl rfl (aF (XF.thenN (aC (aG (aA rfl rfl (fB rfl rfl rfl (aF (XF.thenN (bA rfl (fun hc=>?_) (fun hc=>?_)))))))))))))))))))
 ·have hc11:=of_decide_eq_true hc;clear hc
  refine aC (aG (aA rfl rfl (aB rfl rfl (aF (XF.thenN (bK (XF.thenR (XF.res (bY results23 rfl) ?_))))))))
  exact ⟨gW (by unfold cR;rw [if_pos hc11]),hS.below⟩
 ·have hc11:=of_decide_eq_false hc;clear hc
  refine aO (XF.thenN (aC (aC (aG (aA rfl rfl (bF underlying25 rfl rfl (aA rfl rfl (aF (XF.thenN (aL (cD (fun m l W=>∃ i:Nat,i≤ll∧m=ll - i∧l=[(1,.slice la ll lc),(2,.pointer (some ⟨B1,0,none⟩)),(13,.slice la ll lc),(14,.int .i64 (ll:Int)),(15,.int .i64 (i:Int))]∧(ls.take i).all (fun s=>inQ s a.st)=true∧St w [(B1,a.cells,24)] [] [] W) (ll - 0) ([(1,_),(2,_),(13,_),(14,_),(15,_)]) ⟨rfl,rfl,rfl,rfl,rfl,trivial⟩ (⟨0,Nat.zero_le _,rfl,rfl,rfl,hS.clear⟩) ?_)))))))))))
  clear hS
  rintro m l W ⟨i,hi,rfl,rfl,hall,hS⟩
  refine aC (aG (bG rfl rfl rfl (aF (XF.thenN (aC (bA rfl (fun hc=>?_) (fun hc=>?_)))))))
  ·have hc16:=of_decide_eq_true hc;clear hc
   obtain ⟨b,off,y,hla,hy,hyc⟩:=hl.at1 (show i < ls.length by omega)
   have k2:=hS.old hyc
   refine aO (XF.thenN (aC (aL (aC (aG ?_)))))
   refine aS (j:=i) (b:=b) (o:=off) (m:=ll) (c:=lc) underlying25 sizeOf3 (by show some (Value.slice _ _ _)=_;rw [hla]) rfl rfl (by omega) rfl rfl ?_
   refine aI isAgg3 rfl (k2) rfl (aB rfl rfl (aF (XF.thenN (aC (aG (aM (vs:=[_,_,_,_,_]) isAgg24 sizeOf24 rfl (aK.own (j:=0) (m:=5) (hS.at_ 0 rfl) rfl) rfl (aA rfl rfl (bV (vs:=[_,_]) hS iD rfl (dY a y _) rfl fun W3 hS=>cP rfl rfl (aF (XF.thenN (bA rfl (fun hc=>?_) (fun hc=>?_))))))))))))
   ·have hc22:=hc;clear hc
    refine aC (aG (aB rfl rfl (aF (XF.thenN (bK (XF.blkR (XF.thenR (XF.thenR (XF.blkR (XF.thenR (XF.res (bY results23 rfl) ?_)))))))))))
    exact ⟨gW (by unfold cR;rw [if_neg hc11,if_neg (by rw [dE hy (by simpa using hc22)];decide)]),hS.below⟩
   ·have hc22:=hc;clear hc
    refine aO (XF.blkN (XF.thenN (aG (aV rfl rfl (IntWalk.i64_in _ (by omega)) rfl (aA rfl rfl (aF ?_))))))
    exact XF.round (ll - (i+1)) [(1,_),(2,_),(13,_),(14,_),(15,_)] (by omega) ⟨rfl,rfl,rfl,rfl,rfl,trivial⟩ ⟨i+1,by omega,rfl,rfl,fX hy hall (by simpa using hc22),hS.clear⟩
  ·have hc16:=of_decide_eq_false hc;clear hc
   rw [List.take_of_length_le (by omega)] at hall
   refine bS (XF.thenX (XF.thenX (XF.blkX (XF.thenN (aC (aG (aB rfl rfl (aF (XF.thenN (bK (XF.res (bY results23 rfl) ?_)))))))))))
   exact ⟨gW (by unfold cR;rw [if_neg hc11,if_pos hall]),hS.below⟩
def zI (l:List Int):List Value:=l.map (fun x=>Value.int .i64 x)
theorem fY {l:List Int}:(zI l).length=l.length:=List.length_map _
theorem iE {l:List Int} {i:Nat} (h:i < l.length):(zI l)[0+i * 1]?=some (.int .i64 (l.getD i 0)):=by
 rw [Nat.zero_add,Nat.mul_one];unfold zI;simp [h]
theorem nQ {l:List Int} {i:Nat} {x:Int}:(zI l).set (0+i * 1) (.int .i64 x)=zI (l.set i x):=by
 rw [Nat.zero_add,Nat.mul_one];unfold zI;rw [List.map_set]
theorem lT {l:List Int} {x:Int}:zI l++[Value.int .i64 x]=zI (l++[x]):=by simp [zI]
theorem madeI (m:Nat):madeCells (Value.int .i64 0).cells (m * 1)=(zI (List.replicate m 0)).toArray:=by
 unfold zI;rw [List.map_replicate,Nat.mul_one];exact sB _ _
theorem madeS (m:Nat):madeCells (Value.slice none 0 0).cells (m * 1)=(List.replicate m (Value.slice none 0 0)).toArray:=by
 rw [Nat.mul_one];exact sB _ _
theorem gQ {α:Type}:∀ (l:List α) (i:Nat) (h:i < l.length),(l[i]::l.eraseIdx i).Perm l
 | x::l,0,_=>List.Perm.refl _
 | x::l,i+1,h=>(List.Perm.swap x (l[i]'(Nat.lt_of_succ_lt_succ h)) (l.eraseIdx i)).trans ((gQ l i (Nat.lt_of_succ_lt_succ h)).cons x)
structure OV where
 v:Value
 n:Nat
 xs:List Value
abbrev sF:OV:=⟨.slice none 0 0,0,[]⟩
abbrev OV.gr (o:OV) (T:TypeId) (k:Nat):GR:=⟨o.v,o.n,o.xs,T,k⟩
def fZ (T:TypeId) (k:Nat) (vs:List OV):aQ:=vs.map (fun o=>o.gr T k)
section
variable {w0 W:World} {O:Own} {G G':aQ} {K:List (Nat×World)} {T:TypeId} {k:Nat} {vs:List OV}
theorem St.permGN (h:St w0 O G K W) (hp:G.Perm G'):St w0 O G' K W where
 below:=h.below
 own:=h.own
 dist:=h.dist
 kept:=h.kept
 rows:=fun g hg=>h.rows g (hp.mem_iff.2 hg)
 gdist:=h.gdist.perm hp (fun h b hb e=>h b e hb)
theorem mS {s:Nat} {o:OV} (hs:vs[s]?=some o):(fZ T k vs++G).Perm (o.gr T k::(fZ T k (vs.eraseIdx s)++G)):=by
 obtain ⟨h,rfl⟩:=List.getElem?_eq_some_iff.1 hs
 have h1:vs.Perm (vs[s]::vs.eraseIdx s):=(gQ vs s h).symm
 exact (h1.map (fun o=>o.gr T k)).append_right G
theorem sG {s:Nat} {o:OV} (hs:s < vs.length):(o.gr T k::(fZ T k (vs.eraseIdx s)++G)).Perm (fZ T k (vs.set s o)++G):=by
 have h:=(mS (T:=T) (k:=k) (G:=G) (vs:=vs.set s o) (s:=s) (o:=o) (by rw [List.getElem?_set_self hs])).symm
 rwa [List.eraseIdx_set_eq] at h
theorem St.newRows (h:St w0 O G K W):∀ n,St w0 O (fZ T k (List.replicate n sF)++G) K W
 | 0=>h
 | n+1=>(St.newRows h n).newG T k
theorem bJ.moreN {Ka Kb:List (Nat×World)} {p:World→Prop} (h:bJ w0 Ka p) (hk:∀ q∈Ka,q∈Kb):bJ w0 Kb p:=fun h2 hq=>h h2 (fun q h9=>hq q (hk q h9))
theorem St.ownKeepN {b:Nat} {cs:List Value} (h:St w0 ((b,cs,T)::O) G K W):∃ Kn,(∀ q∈K,q∈Kn)∧bJ w0 Kn (fun W2=>W2.heap[b]?=some (.cells cs.toArray T (0,0)))∧St w0 O G Kn W:=by
 have h1:=h.own _ List.mem_cons_self
 have hlt:=cC h1.2
 refine ⟨(b,kP W b)::K,fun q hq=>List.mem_cons_of_mem _ hq,fun h2 hk=>?_,h.tail.markBlk hlt (fun p hp e=>(List.pairwise_cons.1 h.dist).1 p hp e.symm) (fun g hg k hk e=>((h.rows g hg).2 k hk).1 _ List.mem_cons_self e.symm)⟩
 have h3:=(h2.kept _ (hk _ List.mem_cons_self)).1.2 b (Nat.le_refl _) (oY hlt)
 exact h3.trans ((oZ hlt).trans h1.2)
def kC (o:OV) (W:World):Prop:=∃ a c,o.v = .slice a o.n c∧o.n≤c∧∀ (j:Nat) u,o.xs[j]?=some u→∃ b,a=some ⟨b,0,none⟩∧W.cell? ⟨b,0+j,none⟩=some u
theorem St.rowKeepN {o:OV} (h:St w0 O (o.gr T k::G) K W):∃ Kn,(∀ q∈K,q∈Kn)∧bJ w0 Kn (kC o)∧St w0 O G Kn W:=by
 obtain ⟨v,n,xs⟩:=o
 have hrow:=h.row 0 rfl
 have hl:=hrow.1
 obtain ⟨a,c,e,hnc⟩:=cN hrow
 dsimp only at e hl hnc
 subst e
 rcases Nat.eq_zero_or_pos n with h0 | h0
 ·subst h0
  have e:xs=[]:=List.eq_nil_of_length_eq_zero (by simpa using hl)
  subst e
  exact ⟨K,fun q hq=>hq,fun _ _=>⟨a,c,rfl,hnc,fun j u hu=>(by cases hu)⟩,h.tailG⟩
 ·obtain ⟨b,cs,rfl,_,_,_,h1⟩:=St.rowOwnE h h0
  obtain ⟨Kn,k1,k2,k3⟩:=h1.ownKeepN
  refine ⟨Kn,k1,fun h2 hk=>⟨_,c,rfl,hnc,fun j u hu=>⟨b,rfl,?_⟩⟩,k3⟩
  rw [Nat.zero_add]
  exact aE (k2 h2 hk) (by rw [List.getElem?_append_left (List.getElem?_eq_some_iff.1 hu).1];exact hu)
theorem St.rowsKeepN:∀ (vs:List OV) {K:List (Nat×World)},St w0 O (fZ T k vs++G) K W→∃ Kn,(∀ q∈K,q∈Kn)∧bJ w0 Kn (fun W2=>∀ o∈vs,kC o W2)∧St w0 O G Kn W
 | [],K,h=>⟨K,fun q hq=>hq,fun _ _ o ho=>(by cases ho),h⟩
 | o::vs,K,h=>by
  obtain ⟨K1,k1,g1,h1⟩:=St.rowKeepN (G:=fZ T k vs++G) h
  obtain ⟨K2,k2,g2,h2⟩:=St.rowsKeepN vs h1
  exact ⟨K2,fun q hq=>k2 q (k1 q hq),fun h9 hk9 o' ho'=>(by
   rcases List.mem_cons.1 ho' with rfl | ho'
   ·exact g1 h9 (fun q hq=>hk9 q (k2 q hq))
   ·exact g2 h9 hk9 o' ho'),h2⟩
end
section
variable {P:Program} {n:Nat} {Q:Exit→Act→World→Prop} {ops:Array Oper} {i d:Nat} {ty:TypeId} {pos:String} {aft:Array Edge}
theorem evl2n {a:Act} {t u:Nat} {v x:Value} (h:a.eval (.tmp t)=v) (k:a.eval (.tmp u)=x):∀ z y,evL [(t,v),(u,x)] z=some y→a.eval z=y:=by
 intro z y hz
 cases z with
 | tmp s =>
  simp only [evL,look] at hz
  cases hb:Nat.beq t s with
  | true=>simp [hb] at hz;rw [← Nat.eq_of_beq_eq_true hb,← hz];exact h
  | false =>
   cases hc:Nat.beq u s with
   | true=>simp [hb,hc] at hz;rw [← Nat.eq_of_beq_eq_true hc,← hz];exact k
   | false=>simp [hb,hc] at hz
 | const c=>exact Option.some.inj hz
 | global g=>exact Option.some.inj hz
 | func f=>exact Option.some.inj hz
theorem mk_rowS {t E:TypeId} {z:Value} {s k:Nat} {a:Act} {w:World} {v:Value} {vs:List Value} {R:Value→Own→World→Prop} (hi:ops[i]?=some ⟨some d,.buildSlice t 1 #[(0,.tmp s)],ty,pos,aft,none⟩) (hU:P.underlying t=some (.slice E)) (hs:∀ w,(sizeOf E).run P w = .ok k w) (hk0:0 < k) (hk1:k≤1000) (hz:∀ w,(zeroValue E).run P w = .ok z w) (hf:Instr.fill (fun i=>some (i * k,k)) ((Array.range (1 * k)).map (z.cells[· % z.cells.size]!)) [(0,v)]=some (List.toArray vs)) (hv:a.eval (.tmp s)=v)
  (h:∃ ON,R (.slice (some ⟨w.heap.size,0,none⟩) 1 1) ON (w.alloc (.cells (List.toArray vs) E))):wpOp P ops Q i (fun a' w'=>∃ v ON,a'=a.put ((ops[i]?).bind (·.dst)) v∧R v ON w') a w:=by
 obtain ⟨ON,h9⟩:=h
 refine jX (v:=.slice (some ⟨w.heap.size,0,none⟩) 1 1) (w':=w.alloc (.cells (List.toArray vs) E)) hi rfl ?_ ⟨_,ON,by rw [hi];rfl,h9⟩
 unfold execOp
 simp only [List.map_toArray,List.map_cons,List.map_nil,hv]
 simp only [Instr.buildSlice,Sem.run_bind,run_underlying hU,Result.andThen_ok,hs,if_neg (show ¬ (1 * k > 2 ^ 24) by omega),if_neg (show ¬ (1 * k=0) by omega),hz,Sem.run_pure,hf,newRow,run_newObj_alloc]
theorem mk_app {t e:TypeId} {tx tyy m gn B:Nat} {v0:Value} {gxs news:List Value} {inf:TypeInfo} {z:Value} {a:Act} {w w0:World} {O:Own} {G:aQ} {K:List (Nat×World)} {c:Nat} {R:Value→Own→World→Prop} (hi:ops[i]?=some ⟨some d,.call { callee:=.builtin .append,args:=#[.tmp tx,.tmp tyy],argTypes:=#[t,t] },ty,pos,aft,none⟩)
  (hU:P.underlying t=some (.slice e)) (hinf:P.info? e=some inf) (hz:inf.zero=some z) (hzs:z.cells.size=inf.size) (hsz:0 < inf.size) (hx:a.eval (.tmp tx)=v0) (hy:a.eval (.tmp tyy) = .slice (some ⟨B,0,none⟩) m c)
  (hS:St w0 O (⟨v0,gn,gxs,e,inf.size⟩::G) K w) (hn:∀ (j:Nat) u,news[j]?=some u→w.cell? ⟨B,0+j,none⟩=some u) (hl:news.length=m * inf.size) (h1:∀ u∈news,u.oneCell'=true) (h63:gn+m≤maxLen) (hbytes:(gn+m) * inf.bytes≤140737488355328)
  (h:∀ v' w',St w0 O (⟨v',gn+m,gxs++news,e,inf.size⟩::G) K w'→∃ ON,R v' ON w'):wpOp P ops Q i (fun a' w'=>∃ v ON,a'=a.put ((ops[i]?).bind (·.dst)) v∧R v ON w') a w:=by
 have hrow:=hS.row 0 rfl
 obtain ⟨v',W',hr,h2,h3,h4⟩:=fO (P:=P) (w:=w) w0.heap.size t ty e inf z hU hinf hz hzs hsz v0 gn gxs hrow ⟨B,0,none⟩ m c news hl (fun j u hu=>by
  have h8:=hn j u hu
  simp only [Addr.add]
  split
  ·rename_i e;subst e;simpa using h8
  ·simpa using h8) h1 h63 hbytes hS.below.size
 obtain ⟨ON,h9⟩:=h v' W' (hS.setG 0 rfl h2 h3 h4)
 refine jX (w':=W') (v:=v') hi rfl ?_ ⟨v',ON,by rw [hi];rfl,h9⟩
 unfold execOp
 simp only [resolve,invoke,builtin,Sem.run_bind,Sem.run_pure,Result.andThen_ok,List.map_toArray,List.map_cons,List.map_nil,hx,hy,hr]
end
theorem nR (v0a:Option Addr) (v0l:Nat) (v0c:Nat) (v1a:Option Addr) (v1l:Nat) (v1c:Nat):prog.built 73 [(0,.slice v0a v0l v0c),(1,.slice v1a v1l v1c)]=some #[.slice v0a v0l v0c,.slice v1a v1l v1c,.int .i64 0]:=by kernel_rfl
theorem pB (v00:Value) (v01:Value) (v02:Value):Instr.fill (fun i=>some (i * 3,3)) ((Array.range (1 * 3)).map ((Value.cells (.agg #[.int .i64 0,.int .i64 0,.int .i64 0]))[· % (Value.cells (.agg #[.int .i64 0,.int .i64 0,.int .i64 0])).size]!)) [(0,.agg #[v00,v01,v02])]=some (List.toArray [v00,v01,v02]):=by kernel_rfl
theorem gH (w:World) (b o:Nat):(Instr.fieldAt 73 (.pointer (some ⟨b,o,none⟩)) 0).run prog w = .ok (.pointer (some ⟨b,o+0,none⟩)) w:=by
 simp [Instr.fieldAt,run_underlying underlying73,Instr.sureAddr,go_sem,Addr.add_lit]
theorem inf_22:prog.info? 22=some Try.t22:=by kernel_rfl
theorem nS:prog.info? 57=some Try.t57:=by kernel_rfl
def outs (L:List ArV) (s:Nat):List ArV:=L.filter (fun t=>decide (t.f=(s:Int)))
theorem qG {L:List ArV} {i:Nat} {t:ArV} (ht:L[i]?=some t) (s:Nat):outs (L.take (i+1)) s=outs (L.take i) s++(if t.f=(s:Int) then [t] else []):=by
 unfold outs
 rw [List.take_add_one,ht,List.filter_append]
 congr 1
 show List.filter _ [t]=_
 by_cases h:t.f=(s:Int)
 ·rw [if_pos h,List.filter_cons_of_pos (by simpa using h)];rfl
 ·rw [if_neg h,List.filter_cons_of_neg (by simpa using h)];rfl
theorem gA {r:ArV}:∀ (L:List ArV) (i j:Nat),L[i]?=some r→j < 3→(L.flatMap ArV.three)[i * 3+j]?=r.three[j]?
 | t::L,0,j,h,hj=>by
  obtain rfl:t=r:=by simpa using h
  rw [List.flatMap_cons,Nat.zero_mul,Nat.zero_add,List.getElem?_append_left (by exact hj)]
 | t::L,i+1,j,h,hj=>by
  rw [List.flatMap_cons,List.getElem?_append_right (by show 3≤_;omega),show (i+1) * 3+j - t.three.length=i * 3+j by show (i+1) * 3+j - 3=_;omega]
  exact gA L i j (by simpa using h) hj
def VOk (vs:List OV) (L:List ArV):Prop:=∀ (s:Nat) o,vs[s]?=some o→o.n=(outs L s).length∧o.xs=(outs L s).flatMap ArV.three
theorem VOk.step {vs:List OV} {L:List ArV} {i p:Nat} {t:ArV} {o:OV} {v:Value} (h:VOk vs (L.take i)) (ht:L[i]?=some t) (hp:t.f=(p:Int)) (ho:vs[p]?=some o):VOk (vs.set p ⟨v,o.n+1,o.xs++t.three⟩) (L.take (i+1)):=fun s o2 h2=>by
 rw [qG ht]
 by_cases hs:s=p
 ·subst hs
  rw [List.getElem?_set_self (List.getElem?_eq_some_iff.1 ho).1] at h2
  obtain rfl:=Option.some.inj h2
  obtain ⟨e1,e2⟩:=h s o ho
  rw [if_pos hp,List.length_append,List.flatMap_append,e1,e2]
  exact ⟨rfl,by simp⟩
 ·rw [List.getElem?_set_ne (fun e=>hs e.symm)] at h2
  rw [if_neg (by omega),List.append_nil]
  exact h s o2 h2
def iF (W:World) (OB n:Nat) (L:List ArV) (va:Nat→Option Addr) (vc:Nat→Nat):Prop:=∀ s,s < n→W.cell? ⟨OB,0+s * 1,none⟩=some (.slice (va s) (outs L s).length (vc s))∧jF W (va s) (outs L s)
def vaOf (vs:List OV) (s:Nat):Option Addr:=match (vs.getD s sF).v with | .slice a _ _=>a | _=>none
def vcOf (vs:List OV) (s:Nat):Nat:=match (vs.getD s sF).v with | .slice _ _ c=>c | _=>0
theorem out_of {W:World} {OB n:Nat} {T:TypeId} {vs:List OV} {L:List ArV} (hl:vs.length=n) (hok:VOk vs L) (hB:W.heap[OB]?=some (.cells (vs.map (·.v)).toArray T (0,0))) (hR:∀ o∈vs,kC o W):iF W OB n L (vaOf vs) (vcOf vs):=fun s hs=>by
 obtain ⟨o,ho⟩:∃ o,vs[s]?=some o:=⟨_,List.getElem?_eq_getElem (by omega)⟩
 obtain ⟨e1,e2⟩:=hok s o ho
 obtain ⟨a,c,hv,hc,hx⟩:=hR o (List.mem_of_getElem? ho)
 have h1:vs.getD s sF=o:=by rw [List.getD_eq_getElem?_getD,ho];rfl
 have ha:vaOf vs s=a:=by unfold vaOf;rw [h1,hv]
 have hcc:vcOf vs s=c:=by unfold vcOf;rw [h1,hv]
 rw [ha,hcc]
 refine ⟨aE hB ?_,fun i r hi=>?_⟩
 ·rw [Nat.zero_add,Nat.mul_one,List.getElem?_map,ho]
  show some o.v=_
  rw [hv,e1]
 ·have h3:∀ (j:Nat) v,r.three[j]?=some v→o.xs[i * 3+j]?=some v:=fun j v hj=>by
   rw [e2,gA _ i j hi (List.getElem?_eq_some_iff.1 hj).1];exact hj
  obtain ⟨b,rfl,_⟩:=hx (i * 3+0) _ (h3 0 _ rfl)
  refine ⟨b,0,rfl,aK.of fun j v hj=>?_⟩
  obtain ⟨b2,e9,h9⟩:=hx _ _ (h3 j v hj)
  obtain rfl:b=b2:=by simpa using e9
  rw [Nat.add_assoc];exact h9
theorem nNew_c (n:Nat) (sy s0 e0:Int) (aa:Option Addr) (al ac:Nat) (ar:List ArV) (k:Int) (Kt:List (Nat×World)) (Ot:Own) (G:aQ) (K:List (Nat×World)) (w0 w:World) (hS0:St w0 Ot G K w) (hKt:∀ q∈Kt,q∈K) (hA:bJ w0 Kt (fun W=>NIn W ⟨(n:Int),sy,s0,e0,aa,al,ac,ar⟩)) (hn1:1≤n) (hn4:n≤4096) (hal:al≤65536) (hO:fK n k ar) :
  Calls prog 24 #[(NfV.mk (n:Int) sy s0 e0 aa al ac ar).val] w (fun e w'=>∃ (RB SB OB:Nat) (va:Nat→Option Addr) (vc:Nat→Nat) (Kn:List (Nat×World)),e = .returned (.pointer (some ⟨RB,0,none⟩))∧(∀ q∈K,q∈Kn)∧bJ w0 Kn (fun W=>iF W OB n ar va vc)∧St w0 ((RB,[.slice (some ⟨OB,0,none⟩) n n,.slice (some ⟨SB,0,none⟩) n n,.int .i64 0],73)::(SB,zI (List.replicate n 0),3)::Ot) G Kn w'):=by
 refine bD (args:=[(NfV.mk (n:Int) sy s0 e0 aa al ac ar).val]) func24 rfl ntmps24 rfl ?_
 have hS:=hS0
 have hA0:=hA hS0 hKt
 have hlen:ar.length=al:=hA0.alen
 refine aC (aG (bZ (cs:=[_,_,_,_,_]) hS rfl rfl rfl fun B1 W1 hS=>aB rfl rfl (aF (XF.thenN (aC (regY (al:=[⟨2,22,List.replicate n (.slice none 0 0),11⟩,⟨5,3,zI (List.replicate n 0),14⟩]) (G:=fun _=>G) (E:=[2,5]) (k:=6) (ds:=[3,12,13]) cL rfl hS rfl rfl (by kernel_rfl) (by kernel_rfl) rfl (by decide) rfl (eW 1 rfl (isV _) (syV hZ [(1,_)] rfl rfl (fun _=>(bX rfl)) (fun _=>⟨iZ rfl,trivial⟩) (fun s w hw=>cA (o':=0) dQ rfl rfl) (bQ rfl)) (eW 2 rfl (isV _) (syV hZ [(6,_)] rfl rfl (fun _=>(bX rfl)) (fun _=>⟨bW 0 (at_n rfl rfl (bR rfl rfl rfl)),trivial⟩) (fun s w hw=>bE isAgg3 rfl ((aE (hw.at_ 0 rfl) rfl))) (bQ rfl)) ?_))))))))
 refine eW 3 rfl (mO W1.heap.size (n)) (pA (m:=n) (cs:=List.replicate n (.slice none 0 0)) (jx:=1) ⟨2,22,List.replicate n (.slice none 0 0),11⟩ rfl rfl underlying71 inf_22 rfl (madeS n) (by show (24:Int) * _≤_;omega) (by omega) (by kernel_rfl) (bR rfl rfl rfl) List.mem_cons_self rfl rfl rfl (.inr rfl) (by show List.Nodup [2,5];decide) rfl (fun _ _=>rfl) (bQ rfl)) ?_
 refine eW 4 rfl (isV _) (syV hZ [(1,_)] rfl rfl (fun _=>(bX rfl)) (fun _=>⟨iZ rfl,trivial⟩) (fun s w hw=>cA (o':=0) dQ rfl rfl) (bQ rfl)) (eW 5 rfl (isV _) (syV hZ [(9,_)] rfl rfl (fun _=>(bX rfl)) (fun _=>⟨bW 3 (at_n rfl rfl (bR rfl rfl rfl)),trivial⟩) (fun s w hw=>bE isAgg3 rfl ((aE (hw.at_ 0 rfl) rfl))) (bQ rfl)) ?_)
 refine eW 6 rfl (mO W1.heap.size (n)) (pA (m:=n) (cs:=zI (List.replicate n 0)) (jx:=4) ⟨5,3,zI (List.replicate n 0),14⟩ rfl rfl underlying25 kA rfl (madeI n) (by show (8:Int) * _≤_;omega) (by omega) (by kernel_rfl) (bR rfl rfl rfl) (List.mem_cons_of_mem _ List.mem_cons_self) rfl rfl rfl (.inr rfl) (by show List.Nodup [2,5];decide) rfl (fun _ _=>rfl) (bQ rfl)) ?_
 refine bly_nil ?_
 intro s2 W2 Ks2 hall2 hsz2 hKs2 hS' hcov2 hfx2 hno2
 obtain ⟨v2_2,h2_2⟩:=hall2 2 rfl
 obtain ⟨v2_5,h2_5⟩:=hall2 5 rfl
 have f2_2:AwS _ _ (mO W1.heap.size (n)) _ _:=hfx2 2 rfl _ h2_2
 obtain ⟨B2_2,rfl,hB2_2⟩:=f2_2.here
 have f2_5:AwS _ _ (mO W1.heap.size (n)) _ _:=hfx2 5 rfl _ h2_5
 obtain ⟨B2_5,rfl,hB2_5⟩:=f2_5.here
 clear hS;have hS:=hS'.castO (O':=((B2_2,_,22)::(B2_5,_,3)::_::Ot)) (by simp only [OY,hY,AB.cs,h2_2,h2_5,hno2 11 rfl,hno2 14 rfl];rfl);clear hS'
 refine rV (L':=[AwS _ _ (isV _),AwS _ _ (isV _),isE s2 2,AwS _ _ (isV _),AwS _ _ (isV _),isE s2 5]) rfl (cV (cV ?_))
 refine rQ ?_;intro u hu;obtain rfl:=Option.some.inj (h2_2.symm.trans hu);clear hu
 refine cV (cV ?_)
 refine rQ ?_;intro u hu;obtain rfl:=Option.some.inj (h2_5.symm.trans hu);clear hu
 refine fE (dB (us:=[(0,.slice _ _ _),(1,.slice _ _ _)]) rfl (nR _ _ _ _ _ _) rfl (bZ (cs:=[_,_,_]) hS rfl rfl rfl fun B3 W3 hS=>aB rfl rfl (aF (XF.thenN (aC (aC (aG (aH (o':=4) dR rfl rfl rfl (aI isAgg22 rfl (aE (hS.at_ 3 rfl) rfl) rfl (bF underlying22 rfl rfl (aA rfl rfl (aF (XF.thenN (aL ?_))))))))))))))
 refine cD (fun m l W=>∃ (i:Nat) (vs:List OV),i≤al∧m=al - i∧l=[(3,.pointer (some ⟨B3,0,none⟩)),(15,.slice aa al ac),(16,.int .i64 (al:Int)),(17,.int .i64 (i:Int))]∧vs.length=n∧VOk vs (ar.take (i))∧St w0 ((B3,[.slice (some ⟨B2_2,0,none⟩) n n,.slice (some ⟨B2_5,0,none⟩) n n,.int .i64 0],73)::(B2_2,(vs).map (·.v),22)::(B2_5,zI (List.replicate n 0),3)::(B1,[.int .i64 (n:Int),.int .i64 sy,.int .i64 s0,.int .i64 e0,.slice aa al ac],24)::Ot) (fZ 57 3 vs++G) K W) (al - 0) ([(3,_),(15,_),(16,_),(17,_)]) ⟨rfl,rfl,rfl,rfl,trivial⟩ (⟨0,List.replicate n sF,Nat.zero_le _,rfl,rfl,by simp,fun s o ho=>(by
  have:=List.eq_of_mem_replicate (List.mem_of_getElem? ho)
  subst this
  exact ⟨rfl,rfl⟩),by rw [List.map_replicate];exact (hS.newRows n).keep K (fun q hq=>by simp [hq])⟩) ?_
 clear hS
 rintro m l W ⟨i,vs,hi,rfl,rfl,hvl,hvs,hS⟩
 refine aC (aG (bG rfl rfl rfl (aF (XF.thenN (aC (bA rfl (fun hc=>?_) (fun hc=>?_)))))))
 ·have hc18:=of_decide_eq_true hc;clear hc
  obtain ⟨t,ht⟩:∃ t,ar[i]?=some t:=⟨_,List.getElem?_eq_getElem (by omega)⟩
  obtain ⟨b,off,haa,hcs⟩:=(hA (hS.keep K (fun q hq=>by simp [hq])) hKt).arow i t ht
  have haa:aa=some ⟨b,off,none⟩:=haa
  have k1:=hcs
  obtain ⟨⟨ht1,ht2⟩,_⟩:=hO t (List.mem_of_getElem? ht)
  obtain ⟨p,hpf⟩:∃ p:Nat,t.f=(p:Int):=⟨t.f.toNat,by omega⟩
  have hpn:p < n:=by omega
  obtain ⟨o,ho⟩:∃ o,vs[p]?=some o:=⟨_,List.getElem?_eq_getElem (by omega)⟩
  obtain ⟨ho1,ho2⟩:=hvs p o ho
  have hole:o.n≤65536:=by rw [ho1];exact Nat.le_trans (List.length_filter_le _ _) (by rw [List.length_take];omega)
  refine aO (XF.thenN (aC (aL (aC (aG ?_)))))
  refine aS (j:=i) (b:=b) (o:=off) (m:=al) (c:=ac) underlying22 sizeOf57 (by show some (Value.slice _ _ _)=_;rw [haa]) rfl rfl (by omega) rfl rfl ?_
  refine aM (vs:=[_,_,_]) isAgg57 sizeOf57 rfl k1 rfl (bH (cs:=[_,_,_]) hS zeroValue57 rfl rfl fun B4 W4 hS=>bI (i:=0) (vs:=[_,_,_]) (cs':=[_,_,_]) (O':=(_::_::_::_::_::Ot)) hS sizeOf57 rfl rfl rfl rfl rfl rfl rfl fun W5 hS=>aF (XF.thenN ?_))
  have hS9:=(hS.keep K (fun q hq=>by simp [hq])).permGN (mS (T:=57) (k:=3) (G:=G) ho)
  clear hS;have hS:=hS9;clear hS9
  refine regMk (mk:=[15,16]) (k:=18) (vals:=(fun i8=>match i8 with | 0=>.pointer (some ⟨B3,0,none⟩) | 1=>.pointer (some ⟨B3,0,none⟩) | 2=>.pointer (some ⟨B3,0+0,none⟩) | 3=>.slice (some ⟨B2_2,0,none⟩) n n | 4=>.pointer (some ⟨B4,0+0,none⟩) | 5=>.int .i64 t.f | 6=>.pointer (some ⟨B3,0,none⟩) | 7=>.pointer (some ⟨B3,0,none⟩) | 8=>.pointer (some ⟨B3,0+0,none⟩) | 9=>.slice (some ⟨B2_2,0,none⟩) n n | 10=>.pointer (some ⟨B4,0+0,none⟩) | 11=>.int .i64 t.f | 12=>.pointer (some ⟨B2_2,0+p * 1,none⟩) | 13=>o.v | 14=>.agg #[.int .i64 t.f,.int .i64 t.s,.int .i64 t.q] | _=>.pointer (some ⟨B2_2,0+p * 1,none⟩))) (Pm:=fun i v ON=>(i=16→ON=[(0,[v],0)])∧(i=15→∃ B,v = .slice (some ⟨B,0,none⟩) 1 1∧ON=[(B,t.three,57)])) (fun s w=>(s=[]∧St w0 ((B4,t.three,57)::(B3,[.slice (some ⟨B2_2,0,none⟩) n n,.slice (some ⟨B2_5,0,none⟩) n n,.int .i64 0],73)::(B2_2,(vs).map (·.v),22)::(B2_5,zI (List.replicate n 0),3)::(B1,[.int .i64 (n:Int),.int .i64 sy,.int .i64 s0,.int .i64 e0,.slice aa al ac],24)::Ot) (o.gr 57 3::(fZ 57 3 (vs.eraseIdx p)++G)) K w)∨(∃ B,s=[(15,[(B,t.three,57)])]∧St w0 ((B,t.three,57)::((B4,t.three,57)::(B3,[.slice (some ⟨B2_2,0,none⟩) n n,.slice (some ⟨B2_5,0,none⟩) n n,.int .i64 0],73)::(B2_2,(vs).map (·.v),22)::(B2_5,zI (List.replicate n 0),3)::(B1,[.int .i64 (n:Int),.int .i64 sy,.int .i64 s0,.int .i64 e0,.slice aa al ac],24)::Ot)) (o.gr 57 3::(fZ 57 3 (vs.eraseIdx p)++G)) K w)∨(∃ B v,s=[(16,[(0,[v],0)]),(15,[(B,t.three,57)])]∧St w0 ((B,t.three,57)::((B4,t.three,57)::(B3,[.slice (some ⟨B2_2,0,none⟩) n n,.slice (some ⟨B2_5,0,none⟩) n n,.int .i64 0],73)::(B2_2,(vs).map (·.v),22)::(B2_5,zI (List.replicate n 0),3)::(B1,[.int .i64 (n:Int),.int .i64 sy,.int .i64 s0,.int .i64 e0,.slice aa al ac],24)::Ot)) (⟨v,o.n+1,o.xs++t.three,57,3⟩::(fZ 57 3 (vs.eraseIdx p)++G)) K w)) cL (.inl ⟨rfl,hS.drew⟩) (Nat.le_of_ble_eq_true (by kernel_rfl)) (by kernel_rfl) (by kernel_rfl) ?_ ?_ (by decide) ?_
  ·intro i9 hi9 hin s a0 c9 w ha0 hF9 hG hD
   have hfr:∀ t v,cB _ t=true→look _ t=some v→c9.eval (.tmp t)=v:=fun t v h1 h2=>(hF9 t h1).trans (ha0.at_ t v h2)
   have hown:∀ p∈((B4,t.three,57)::(B3,[.slice (some ⟨B2_2,0,none⟩) n n,.slice (some ⟨B2_5,0,none⟩) n n,.int .i64 0],73)::(B2_2,(vs).map (·.v),22)::(B2_5,zI (List.replicate n 0),3)::(B1,[.int .i64 (n:Int),.int .i64 sy,.int .i64 s0,.int .i64 e0,.slice aa al ac],24)::Ot),w.heap[p.1]?=some (.cells p.2.1.toArray p.2.2 (0,0)):=fun p hp=>by
    rcases hG with ⟨_,h9⟩ | ⟨B,_,h9⟩ | ⟨B,v,_,h9⟩
    ·exact (h9.own p hp).2
    ·exact (h9.own p (List.mem_cons_of_mem _ hp)).2
    ·exact (h9.own p (List.mem_cons_of_mem _ hp)).2
   have hb5:=hown (B4,t.three,57) List.mem_cons_self
   have hb3:=hown (B3,[.slice (some ⟨B2_2,0,none⟩) n n,.slice (some ⟨B2_5,0,none⟩) n n,.int .i64 0],73) (List.mem_cons_of_mem _ List.mem_cons_self)
   have hb8:=hown (B2_2,vs.map (·.v),22) (List.mem_cons_of_mem _ (List.mem_cons_of_mem _ List.mem_cons_self))
   match i9,hi9,hin with
   | 0,_,_=>exact ⟨_,rfl,rfl,by
    exact bL (l:=[(3,.pointer (some ⟨B3,0,none⟩))]) rfl c9.eval (iB (hfr 3 _ (by kernel_rfl) rfl))⟩
   | 1,_,_=>exact ⟨_,rfl,rfl,by
    have h9:=(hD 0 21 (by kernel_rfl)).1 (by decide)
    exact cK (l:=[(21,.pointer (some ⟨B3,0,none⟩))]) rfl c9.eval (iB h9)⟩
   | 2,_,_=>exact ⟨_,rfl,rfl,by
    have h9:=(hD 1 22 (by kernel_rfl)).1 (by decide)
    exact cA (l:=[(22,.pointer (some ⟨B3,0,none⟩))]) gH rfl rfl c9.eval (iB h9)⟩
   | 3,_,_=>exact ⟨_,rfl,rfl,by
    have h9:=(hD 2 23 (by kernel_rfl)).1 (by decide)
    exact bE (l:=[(23,.pointer (some ⟨B3,0+0,none⟩))]) isAgg71 rfl (aE hb3 rfl) c9.eval (iB h9)⟩
   | 4,_,_=>exact ⟨_,rfl,rfl,by
    exact cA (l:=[(5,.pointer (some ⟨B4,0,none⟩))]) jI rfl rfl c9.eval (iB (hfr 5 _ (by kernel_rfl) rfl))⟩
   | 5,_,_=>exact ⟨_,rfl,rfl,by
    have h9:=(hD 4 25 (by kernel_rfl)).1 (by decide)
    exact bE (l:=[(25,.pointer (some ⟨B4,0+0,none⟩))]) isAgg3 rfl (aE hb5 rfl) c9.eval (iB h9)⟩
   | 6,_,_=>exact ⟨_,rfl,rfl,by
    exact bL (l:=[(3,.pointer (some ⟨B3,0,none⟩))]) rfl c9.eval (iB (hfr 3 _ (by kernel_rfl) rfl))⟩
   | 7,_,_=>exact ⟨_,rfl,rfl,by
    have h9:=(hD 6 27 (by kernel_rfl)).1 (by decide)
    exact cK (l:=[(27,.pointer (some ⟨B3,0,none⟩))]) rfl c9.eval (iB h9)⟩
   | 8,_,_=>exact ⟨_,rfl,rfl,by
    have h9:=(hD 7 28 (by kernel_rfl)).1 (by decide)
    exact cA (l:=[(28,.pointer (some ⟨B3,0,none⟩))]) gH rfl rfl c9.eval (iB h9)⟩
   | 9,_,_=>exact ⟨_,rfl,rfl,by
    have h9:=(hD 8 29 (by kernel_rfl)).1 (by decide)
    exact bE (l:=[(29,.pointer (some ⟨B3,0+0,none⟩))]) isAgg71 rfl (aE hb3 rfl) c9.eval (iB h9)⟩
   | 10,_,_=>exact ⟨_,rfl,rfl,by
    exact cA (l:=[(5,.pointer (some ⟨B4,0,none⟩))]) jI rfl rfl c9.eval (iB (hfr 5 _ (by kernel_rfl) rfl))⟩
   | 11,_,_=>exact ⟨_,rfl,rfl,by
    have h9:=(hD 10 31 (by kernel_rfl)).1 (by decide)
    exact bE (l:=[(31,.pointer (some ⟨B4,0+0,none⟩))]) isAgg3 rfl (aE hb5 rfl) c9.eval (iB h9)⟩
   | 12,_,_=>exact ⟨_,rfl,rfl,by
    have h9:=(hD 9 30 (by kernel_rfl)).1 (by decide)
    have h8:=(hD 11 32 (by kernel_rfl)).1 (by decide)
    exact cI (l:=[(30,.slice (some ⟨B2_2,0,none⟩) n n),(32,.int .i64 t.f)]) (j:=p) (b:=B2_2) (o:=0) (m:=n) (c:=n) underlying71 sizeOf22 rfl rfl hpf hpn rfl c9.eval (evl2n h9 h8)⟩
   | 13,_,_=>exact ⟨_,rfl,rfl,by
    have h9:=(hD 12 33 (by kernel_rfl)).1 (by decide)
    exact bE (l:=[(33,.pointer (some ⟨B2_2,0+p * 1,none⟩))]) isAgg22 rfl (aE hb8 (by rw [List.getElem?_map,Nat.zero_add,Nat.mul_one,ho];rfl)) c9.eval (iB h9)⟩
   | 14,_,_=>exact ⟨_,rfl,rfl,by
    exact fP (l:=[(5,.pointer (some ⟨B4,0,none⟩))]) (vs:=[_,_,_]) isAgg57 sizeOf57 rfl (aK.own (j:=0) (m:=3) hb5 rfl) c9.eval (iB (hfr 5 _ (by kernel_rfl) rfl))⟩
   | 15,_,h9=>exact absurd (by decide) h9
   | 16,_,h9=>exact absurd (by decide) h9
   | 17,_,_=>exact ⟨_,rfl,rfl,by
    have h9:=(hD 3 24 (by kernel_rfl)).1 (by decide)
    have h8:=(hD 5 26 (by kernel_rfl)).1 (by decide)
    exact cI (l:=[(24,.slice (some ⟨B2_2,0,none⟩) n n),(26,.int .i64 t.f)]) (j:=p) (b:=B2_2) (o:=0) (m:=n) (c:=n) underlying71 sizeOf22 rfl rfl hpf hpn rfl c9.eval (evl2n h9 h8)⟩
   | i+18,h9,_=>omega
  ·intro i9 him s a0 c9 w ha0 hF9 hG hnew hD
   have hcase:i9=15∨i9=16:=by simpa using him
   rcases hcase with rfl | rfl
   ·have h1:=(hD 14 35 (by kernel_rfl)).1 (by decide)
    rcases hG with ⟨rfl,h9⟩ | ⟨B,rfl,_⟩ | ⟨B,v,rfl,_⟩
    ·exact mk_rowS rfl underlying22 sizeOf57 (by decide) (by decide) zeroValue57 (pB _ _ _) h1 ⟨[(w.heap.size,t.three,57)],⟨fun h=>absurd h (by decide),fun _=>⟨_,rfl,rfl⟩⟩,.inr (.inl ⟨_,rfl,h9.alloc t.three 57⟩)⟩
    ·exact absurd List.mem_cons_self (hnew _)
    ·exact absurd (List.mem_cons_of_mem _ List.mem_cons_self) (hnew _)
   ·have h1:=(hD 13 34 (by kernel_rfl)).1 (by decide)
    obtain ⟨ON5,h5,hP5⟩:=(hD 15 36 (by kernel_rfl)).2 (by decide)
    obtain ⟨B5,e5,eO5⟩:=hP5.2 rfl
    rcases hG with ⟨rfl,h9⟩ | ⟨B,rfl,h9⟩ | ⟨B,v,rfl,_⟩
    ·cases h5
    ·have eB:B5=B:=by
      have h8:=List.mem_singleton.1 h5
      rw [eO5] at h8
      simpa using h8
     subst eB
     refine mk_app (gn:=o.n) (gxs:=o.xs) (news:=t.three) (m:=1) rfl underlying22 nS rfl rfl (by show 0 < 3;decide) h1 e5 h9 (fun j u hu=>(by rw [Nat.zero_add];exact aE (h9.at_ 0 rfl) hu)) rfl (by intro u hu;simp at hu;rcases hu with rfl | rfl | rfl<;>rfl) (by simp only [maxLen];omega) (by show (o.n+1) * 24≤_;omega) ?_
     intro v' w' h8
     exact ⟨[(0,[v'],0)],⟨fun _=>rfl,fun h=>absurd h (by decide)⟩,.inr (.inr ⟨_,_,rfl,h8⟩)⟩
    ·exact absurd List.mem_cons_self (hnew _)
  ·intro s c9 w hG hsz hdf hfr hval hin hmk hkeys hdist
   obtain ⟨O6,h6,hP6⟩:=hmk 16 37 (by decide) rfl
   have hP6:=hP6.1 rfl
   rcases hG with ⟨rfl,h9⟩ | ⟨B,rfl,_⟩ | ⟨B9,v9,rfl,hS2⟩
   ·cases h6
   ·exact absurd (congrArg Prod.fst (List.mem_singleton.1 h6)) (show (16:Nat)≠15 by decide)
   have e9:c9.tmps.getD 37 undef=v9:=by
    rw [hP6] at h6
    simpa using h6
   clear hS;have hS:=hS2;clear hS2
   refine (show aT _ _ _ _ (List.drop 18 _) [(3,.pointer (some ⟨B3,0,none⟩)),(15,.slice aa al ac),(16,.int .i64 (al:Int)),(17,.int .i64 (i:Int)),(37,v9),(38,.pointer (some ⟨B2_2,0+p * 1,none⟩))] w from ?_) c9 (HasL.has hsz hdf ⟨hfr 3 _ (by kernel_rfl) rfl,hfr 15 _ (by kernel_rfl) rfl,hfr 16 _ (by kernel_rfl) rfl,hfr 17 _ (by kernel_rfl) rfl,e9,hval 17 38 (by decide) (by decide) rfl,trivial⟩)
   refine bO (i:=3) (cs':=(vs.set p ⟨v9,o.n+1,o.xs++t.three⟩).map (·.v)) (O':=(_::_::_::(B2_2,_,_)::_::_::Ot)) hS sizeOf22 rfl rfl (by obtain ⟨a8,c8,e8,_⟩:=cN (hS.row 0 rfl);dsimp only at e8;rw [e8];rfl) rfl (Nat.ble_eq_true_of_le (by rw [List.length_map];omega)) (by rw [List.map_set,Nat.zero_add,Nat.mul_one]) rfl fun W58 hS=>?_
   refine aF (XF.blkN (XF.thenN (aG (aV rfl rfl (IntWalk.i64_in _ (by omega)) rfl (aA rfl rfl (aF ?_))))))
   have hS9:=hS.tail.tail.permGN (sG (T:=57) (k:=3) (G:=G) (vs:=vs) (s:=p) (o:=⟨v9,o.n+1,o.xs++t.three⟩) (by omega))
   exact XF.round (al - (i+1)) [(3,_),(15,_),(16,_),(17,_)] (by omega) ⟨rfl,rfl,rfl,rfl,trivial⟩ ⟨i+1,_,by omega,rfl,rfl,by rw [List.length_set];exact hvl,hvs.step ht hpf ho,hS9.keep K (fun q hq=>by simp [hq])⟩
 ·have hc18:=of_decide_eq_false hc;clear hc
  rw [List.take_of_length_le (by omega)] at hvs
  refine bS (XF.thenX (XF.thenX (XF.blkX (XF.thenN (aC (aG (aA rfl rfl (aB rfl rfl (aF (XF.thenN (bK (XF.res (bY results24 rfl) ?_))))))))))))
  obtain ⟨K1,k1,g1,hS1⟩:=St.rowsKeepN vs (hS.keep K (fun q hq=>by simp [hq]))
  obtain ⟨K2,k2,g2,hS2⟩:=(hS1.perm (List.Perm.swap _ _ _)).ownKeepN
  exact ⟨B3,B2_5,B2_2,_,_,K2,rfl,fun q hq=>k2 q (k1 q hq),fun h9 hk9=>out_of hvl hvs (g2 h9 hk9) (g1 h9 (fun q hq=>hk9 q (k2 q hq))),((hS2.perm ((List.Perm.swap _ _ _).cons _)).perm (List.Perm.swap _ _ _)).tail.perm (List.Perm.refl _)⟩
theorem iG (a:NfV) (n:Nat) (k:Int) (Kt:List (Nat×World)) (Ot:Own) (G:aQ) (K:List (Nat×World)) (w0 w:World) (hS0:St w0 Ot G K w) (hKt:∀ q∈Kt,q∈K) (hA:bJ w0 Kt (fun W=>NIn W a)) (hn:a.st=(n:Int)) (hn1:1≤n) (hn4:n≤4096) (hal:a.al≤65536) (hO:fK n k a.ar):Calls prog 24 #[a.val] w (fun e w'=>∃ (RB SB OB:Nat) (va:Nat→Option Addr) (vc:Nat→Nat) (Kn:List (Nat×World)),e = .returned (.pointer (some ⟨RB,0,none⟩))∧(∀ q∈K,q∈Kn)∧bJ w0 Kn (fun W=>iF W OB n a.ar va vc)∧St w0 ((RB,[.slice (some ⟨OB,0,none⟩) n n,.slice (some ⟨SB,0,none⟩) n n,.int .i64 0],73)::(SB,zI (List.replicate n 0),3)::Ot) G Kn w'):=by
 obtain ⟨st,sy,s0,e0,aa,al,ac,ar⟩:=a
 dsimp only at hn
 subst hn
 exact nNew_c n sy s0 e0 aa al ac ar k Kt Ot G K w0 w hS0 hKt hA hn1 hn4 hal hO
theorem pC (w:World) (b o:Nat):(Instr.fieldAt 73 (.pointer (some ⟨b,o,none⟩)) 1).run prog w = .ok (.pointer (some ⟨b,o+1,none⟩)) w:=by
 simp [Instr.fieldAt,run_underlying underlying73,Instr.sureAddr,go_sem,Addr.add_lit]
theorem jJ (w:World) (b o:Nat):(Instr.fieldAt 73 (.pointer (some ⟨b,o,none⟩)) 2).run prog w = .ok (.pointer (some ⟨b,o+2,none⟩)) w:=by
 simp [Instr.fieldAt,run_underlying underlying73,Instr.sureAddr,go_sem,Addr.add_lit]
def zN (l:List Nat):List Value:=l.map (fun (x:Nat)=>Value.int .i64 (x:Int))
theorem zN_app {l:List Nat} {v:Nat} {x:Int} (h:x=(v:Int)):zN l++[Value.int .i64 x]=zN (l++[v]):=by subst h;simp [zN]
theorem qH {l:List Int} {i:Nat} {x:Int}:bP (zI l) (0+i * 1) [.int .i64 x]=zI (l.set i x):=nQ
theorem mT:∀ {S l:List Nat},S.Nodup→(∀ x∈S,x∈l)→S.length≤l.length
 | [],l,_,_=>Nat.zero_le _
 | a::S,l,hn,hs=>by
  have ha:=hs a List.mem_cons_self
  rw [List.nodup_cons] at hn
  have h1:=mT (S:=S) (l:=l.erase a) hn.2 (fun x hx=>(List.mem_erase_of_ne (fun (e:x=a)=>hn.1 (e▸hx))).2 (hs x (List.mem_cons_of_mem _ hx)))
  have h2:=List.length_erase_of_mem ha
  have h3:=List.length_pos_of_mem ha
  rw [List.length_cons];omega
def mtN (all:List Nat) (x:Nat):List Nat:=if x∈all then all else all++[x]
theorem gI {all:List Nat} {x q:Nat}:q∈mtN all x↔q∈all∨q=x:=by
 unfold mtN
 split
 ·rename_i h
  exact ⟨.inl,fun h1=>h1.elim id (fun e=>e▸h)⟩
 ·simp
theorem pD {all:List Nat} {x i:Nat} (h:i < all.length):(mtN all x)[i]?=all[i]?:=by
 unfold mtN
 split
 ·rfl
 ·rw [List.getElem?_append_left h]
theorem mtN_len {all:List Nat} {x:Nat}:all.length≤(mtN all x).length:=by
 unfold mtN
 split
 ·exact Nat.le_refl _
 ·simp
structure SnOk (n:Nat) (r:Int) (s9 ss:List Int) (all:List Nat):Prop where
 len:ss.length=n
 at_:∀ s,s < n→(ss.getD s 0=r↔s∈all)
 from_:∀ x∈ss,x∈s9∨x=r
 nd:all.Nodup
 lt:∀ s∈all,s < n
theorem SnOk.le {n:Nat} {r:Int} {s9 ss:List Int} {all:List Nat} (h:SnOk n r s9 ss all):all.length≤n:=by
 have:=mT (l:=List.range n) h.nd (fun x hx=>List.mem_range.2 (h.lt x hx))
 simpa using this
theorem SnOk.start {n:Nat} {r:Int} {ss:List Int} (hl:ss.length=n) (hf:∀ x∈ss,x≠r):SnOk n r ss ss [] :=
 ⟨hl,fun s hs=>⟨fun h=>absurd h (hf _ (by rw [List.getD_eq_getElem?_getD,List.getElem?_eq_getElem (by omega)];exact List.getElem_mem _)),fun h=>(by cases h)⟩,fun x hx=>.inl hx,List.nodup_nil,fun s h=>(by cases h)⟩
theorem SnOk.new {n:Nat} {r:Int} {s9 ss:List Int} {all:List Nat} {x:Nat} (h:SnOk n r s9 ss all) (hx:x < n) (hn:x∉all):SnOk n r s9 (ss.set x r) (all++[x]) where
 len:=by rw [List.length_set];exact h.len
 at_:=fun s hs=>by
  have hl:=h.len
  by_cases e:s=x
  ·subst e
   rw [List.getD_eq_getElem?_getD,List.getElem?_set_self (by omega)]
   simp
  ·rw [List.getD_eq_getElem?_getD,List.getElem?_set_ne (fun e2=>e e2.symm),← List.getD_eq_getElem?_getD,h.at_ s hs]
   simp [e]
 from_:=fun y hy=>by
  rcases List.mem_or_eq_of_mem_set hy with hy | rfl
  ·exact h.from_ y hy
  ·exact .inr rfl
 nd:=List.nodup_append.2 ⟨h.nd,by simp,fun a ha b hb e=>hn (by rw [List.mem_singleton.1 hb] at e;exact e▸ha)⟩
 lt:=fun s hs=>by
  rcases List.mem_append.1 hs with hs | hs
  ·exact h.lt s hs
  ·rw [List.mem_singleton.1 hs];exact hx
theorem sH (n:Nat) (r:Int) (s9 ss:List Int) (all:List Nat) (AX CX RB SB OB:Nat) (wa:Option Addr) (m wc x:Nat) (Ot:Own) (G:aQ) (K:List (Nat×World)) (w0 w:World) (hS0:St w0 ((AX,[.slice wa m wc],25)::(CX,[.pointer (some ⟨RB,0,none⟩)],46)::(RB,[.slice (some ⟨OB,0,none⟩) n n,.slice (some ⟨SB,0,none⟩) n n,.int .i64 r],73)::(SB,zI (ss),3)::Ot) (⟨.slice wa m wc,m,zN (all),3,1⟩::G) K w) (hm:all.length=m) (hS9:SnOk n r s9 ss all) (hn4:n≤4096) (hx:x < n) :
  Calls prog 44 #[.int .i64 (x:Int),.pointer (some ⟨CX,0,none⟩),.pointer (some ⟨AX,0,none⟩)] w (fun e w'=>∃ (wa:Option Addr) (m wc:Nat) (ss2:List Int),e = .returned (.tuple #[])∧(mtN all x).length=m∧SnOk n r s9 ss2 (mtN all x)∧St w0 ((AX,[.slice wa m wc],25)::(CX,[.pointer (some ⟨RB,0,none⟩)],46)::(RB,[.slice (some ⟨OB,0,none⟩) n n,.slice (some ⟨SB,0,none⟩) n n,.int .i64 r],73)::(SB,zI (ss2),3)::Ot) (⟨.slice wa m wc,m,zN (mtN all x),3,1⟩::G) K w'):=by
 refine bD (args:=[.int .i64 (x:Int),.pointer (some ⟨CX,0,none⟩),.pointer (some ⟨AX,0,none⟩)]) func44 rfl ntmps44 rfl ?_
 have hS:=hS0
 have hln:=hS9.len
 have hle:=hS9.le
 have hat:=hS9.at_ x hx
 refine aC (regB (m:=12) cL hS (by kernel_rfl) (by kernel_rfl) rfl (fR 1 rfl 1 rfl rfl (fun w hw=>bE isAgg46 rfl ((aX hw 0).cell (Nat.zero_le _) (aE (hS.at_ 1 rfl) rfl))) rfl (cW 2 rfl 4 0 rfl rfl rfl (fun w hw=>cK rfl) rfl (cW 3 rfl 5 1 rfl rfl rfl (fun w hw=>cA (o':=1) pC rfl rfl) rfl (cW 4 rfl 6 2 rfl rfl rfl (fun w hw=>bE isAgg25 rfl ((aX hw 0).cell (Nat.zero_le _) (aE (hS.at_ 2 rfl) rfl))) rfl (fR 5 rfl 0 rfl rfl (fun w hw=>bL rfl) rfl (dL 6 rfl (isV _) (dA _) (rgV (li:=[(7,_),(8,_)]) rfl (bX rfl) ⟨bW 3 (bR rfl rfl rfl),bW 4 (bR rfl rfl rfl),trivial⟩ (fun w hw=>cI (j:=x) underlying25 sizeOf3 rfl rfl (rfl) (by omega) rfl) (bQ rfl)) (cW 7 rfl 9 5 rfl rfl rfl (fun w hw=>bE isAgg3 rfl ((aX hw 0).cell (Nat.zero_le _) (aE (hS.at_ 3 rfl) (iE (by omega))))) rfl (fR 8 rfl 1 rfl rfl (fun w hw=>bE isAgg46 rfl ((aX hw 0).cell (Nat.zero_le _) (aE (hS.at_ 1 rfl) rfl))) rfl (cW 9 rfl 11 7 rfl rfl rfl (fun w hw=>cK rfl) rfl (cW 10 rfl 12 8 rfl rfl rfl (fun w hw=>cA (o':=2) jJ rfl rfl) rfl (cW 11 rfl 13 9 rfl rfl rfl (fun w hw=>bE isAgg3 rfl ((aX hw 0).cell (Nat.zero_le _) (aE (hS.at_ 2 rfl) rfl))) rfl (dL 12 rfl (isV _) (dA _) (rgV (li:=[(10,_),(14,_)]) rfl (bX rfl) ⟨bW 6 (bR rfl rfl rfl),bW 10 (bR rfl rfl rfl),trivial⟩ (fun w hw=>lF rfl rfl) (bQ rfl)) (lJ ?_))))))))))))))
 intro W1 hbR hS'
 clear hS;have hS:=hS';clear hS'
 refine bU (bU (bU (bU (bU (bU (bU (bU (bU (bU (bU (bU (fE (XF.thenN (bA rfl (fun hc=>?_) (fun hc=>?_)))))))))))))))
 ·have hc15:=hc;clear hc
  have hnew:x∉all:=fun h=>(of_decide_eq_true hc15) (hat.2 h)
  have emt:mtN all x=all++[x]:=by unfold mtN;rw [if_neg hnew]
  have hS8:=hS9.new hx hnew
  have hle8:=hS8.le
  rw [List.length_append,List.length_singleton] at hle8
  refine aC (regSL (ef:=10) (jy:=8) (ca:=jE (fun _=>[])) (ta:=fun _=>0) (Os:=osY _ 3 (0+x * 1) SB (zI ss) 3) (Gs:=qC _) (al:=[]) (k:=11) (ds:=[]) cL rfl hS rfl (by kernel_rfl) rfl (by decide) rfl rfl rfl rfl (cG 1 rfl rfl (isV _) (fun hNo=>sgV [(1,_)] rfl rfl rfl rfl hNo (bX rfl) ⟨iZ rfl,trivial⟩ (fun ev w he hw=>bE isAgg46 rfl ((aE (hw.at_ 1 (lQ (i:=1) (j:=3) rfl rfl)) rfl))) (bQ rfl)) (cG 2 rfl rfl (isV _) (fun hNo=>sgV [(16,_)] rfl rfl rfl rfl hNo (bX rfl) ⟨bW 0 (bR rfl rfl rfl),trivial⟩ (fun ev w he hw=>cK rfl) (bQ rfl)) (cG 3 rfl rfl (isV _) (fun hNo=>sgV [(17,_)] rfl rfl rfl rfl hNo (bX rfl) ⟨bW 1 (bR rfl rfl rfl),trivial⟩ (fun ev w he hw=>cA (o':=1) pC rfl rfl) (bQ rfl)) (cG 4 rfl rfl (isV _) (fun hNo=>sgV [(18,_)] rfl rfl rfl rfl hNo (bX rfl) ⟨bW 2 (bR rfl rfl rfl),trivial⟩ (fun ev w he hw=>bE isAgg25 rfl ((aE (hw.at_ 2 (lQ (i:=2) (j:=3) rfl rfl)) rfl))) (bQ rfl)) (cG 5 rfl rfl (isV _) (fun hNo=>sgV [(0,_)] rfl rfl rfl rfl hNo (bX rfl) ⟨iZ rfl,trivial⟩ (fun ev w he hw=>bL rfl) (bQ rfl)) (cG 6 rfl rfl (isV _) (fun hNo=>sgV [(1,_)] rfl rfl rfl rfl hNo (bX rfl) ⟨iZ rfl,trivial⟩ (fun ev w he hw=>bE isAgg46 rfl ((aE (hw.at_ 1 (lQ (i:=1) (j:=3) rfl rfl)) rfl))) (bQ rfl)) (cG 7 rfl rfl (isV _) (fun hNo=>sgV [(21,_)] rfl rfl rfl rfl hNo (bX rfl) ⟨bW 5 (bR rfl rfl rfl),trivial⟩ (fun ev w he hw=>cK rfl) (bQ rfl)) (cG 8 rfl rfl (isV _) (fun hNo=>sgV [(22,_)] rfl rfl rfl rfl hNo (bX rfl) ⟨bW 6 (bR rfl rfl rfl),trivial⟩ (fun ev w he hw=>cA (o':=2) jJ rfl rfl) (bQ rfl)) (cG 9 rfl rfl (isV _) (fun hNo=>sgV [(23,_)] rfl rfl rfl rfl hNo (bX rfl) ⟨bW 7 (bR rfl rfl rfl),trivial⟩ (fun ev w he hw=>bE isAgg3 rfl ((aE (hw.at_ 2 (lQ (i:=2) (j:=3) rfl rfl)) rfl))) (bQ rfl)) (cG 10 rfl rfl (isV _) (fun hNo=>sgV [(19,_),(20,_)] rfl rfl rfl rfl hNo (bX rfl) ⟨bW 3 (bR rfl rfl rfl),bW 4 (bR rfl rfl rfl),trivial⟩ (fun ev w he hw=>cI (j:=x) underlying25 sizeOf3 rfl rfl (rfl) (by omega) rfl) (bQ rfl)) ?_)))))))))))
  refine oU 11 rfl (eff_stP (py:=isV _) (m:=1) 3 (0+x * 1) [(25,_)] rfl rfl rfl rfl (by kernel_rfl) rfl rfl (fun j hj=>by rcases hj with h | rfl<;>first | (cases h<;>rfl) | rfl) ⟨bW 9 (bR rfl rfl rfl),trivial⟩ rfl rfl sizeOf3 (fun v w e=>⟨[v],by rw [show v=_ from e];rfl,rfl,by rw [show v=_ from e];rfl⟩) (Nat.ble_eq_true_of_le (by rw [fY];show _+1≤_;omega))) ?_
  refine oT ?_
  intro Bf2 y2 W2 Ks2 hsz2 hKs2 hS' hcov2
  clear hS;have hS:=hS'.castO (O':=(_::_::_::_::Ot)) rfl;clear hS'
  refine rV (L':=[AwS _ _ (isV _),AwS _ _ (isV _),AwS _ _ (isV _),AwS _ _ (isV _),AwS _ _ (isV _),AwS _ _ (isV _),AwS _ _ (isV _),AwS _ _ (isV _),(fun v0_ w0_=>v0_=_∧AwS _ _ (isV _) v0_ w0_),AwS _ _ (isV _),isV _]) rfl (cV (cV (cV (cV (cV (cV (cV (cV ?_))))))))
  refine rQ ?_;rintro _ ⟨rfl,hA2⟩;have hA2:=hA2.here;cases hA2
  refine cV (fin_0 ?_)
  have hS:=hS.castO (O':=(_::_::_::(SB,zI (ss.set x r),_)::Ot)) (by show (_::_::_::(SB,bP _ _ [_],_)::_)=_;rw [qH])
  refine fE (aF (XF.thenN (aG (aI isAgg25 rfl (aE (hS.at_ 0 rfl) rfl) rfl (aA rfl rfl (bC (us:=[(0,.int .i64 _)]) hS underlying25 sizeOf3 zeroValue3 rfl rfl rfl (dM _) rfl fun B3 W3 hS=>?_))))))
  refine eD (i:=0) (news:=[_]) hS underlying25 kA rfl rfl (by show 0 < 1;decide) rfl rfl rfl rfl rfl (aK.own (j:=0) (m:=1) (hS.at_ 0 rfl) rfl) rfl rfl (by dsimp only;simp only [maxLen];omega) (by dsimp only;show _ * 8≤_;omega) rfl fun v4 W4 hS=>?_
  obtain ⟨a9,c9,e9,_⟩:=cN (hS.row 0 rfl)
  dsimp only at e9
  subst e9
  refine bO (i:=1) (cs':=[_]) (O':=(_::_::_::_::_::Ot)) hS sizeOf25 rfl rfl rfl rfl rfl rfl rfl fun W5 hS=>aF (XF.resN (lD results44) ?_)
  have hS7:=hS.tail.castG (G':=(⟨.slice a9 (m+1) c9,(m+1),zN (all++[x]),3,1⟩::G)) (by show GR.mk _ _ (zN all++[Value.int .i64 _]) _ _::_=_;rw [zN_app rfl])
  rw [emt]
  exact ⟨a9,m+1,c9,_,rfl,by simp [hm],hS8,hS7.keep K (fun q hq=>by simp [hq])⟩
 ·have hc15:=hc;clear hc
  have hold:x∈all:=hat.1 (Decidable.of_not_not (of_decide_eq_false hc15))
  have emt:mtN all x=all:=by unfold mtN;rw [if_pos hold]
  refine aO (XF.resN (lD results44) ?_)
  rw [emt]
  exact ⟨wa,m,wc,ss,rfl,hm,hS9,hS.keep K (fun q hq=>by simp [hq])⟩
theorem getI {d:List Int} {t:Nat} (h:t < d.length):(zI d)[t]?=some (.int .i64 d.toArray[t]!):=by
 unfold zI
 rw [List.getElem?_map,List.getElem?_eq_getElem h]
 have h2:d.toArray[t]! = d[t]:=by rw [getElem!_pos d.toArray t (by simpa using h)];simp
 rw [h2];rfl
theorem qI {d:List Int} {cur:Array Value} (hl:d.length≤cur.size):(Go.Sort.putCells (Value.int .i64) 0 d.toArray cur).toList.take d.length=zI d:=by
 apply List.ext_getElem?
 intro t
 by_cases ht:t < d.length
 ·rw [List.getElem?_take_of_lt ht,getI ht,Array.getElem?_toList]
  unfold Go.Sort.putCells
  rw [Array.getElem?_mapIdx,Array.getElem?_eq_getElem (by omega)]
  simp [ht]
 ·rw [List.getElem?_eq_none (by simp;omega),List.getElem?_eq_none (by rw [fY];omega)]
section
variable {w0 W:World} {O:Own} {G:aQ} {K:List (Nat×World)}
theorem qJ {b c m:Nat} {e:TypeId} {d:List Int} {base:Nat} (hd:d.length=m) (h:W.ownsRow base e 1 (.slice (some ⟨b,0,none⟩) m c) m (zI d)):Go.Sort.Holds (Value.int .i64) W b 0 d.toArray:=by
 rcases h.2 with ⟨e1,_⟩ | ⟨g,cap,cur,e1,hg,hh,hn2,hm,hs,ht⟩
 ·cases e1
 ·injection e1 with e1 _ _
  injection e1 with e1
  injection e1 with e1
  subst e1
  intro j hj
  have hj:j < d.length:=by simpa using hj
  have h1:=getI hj
  rw [← ht,List.getElem?_take_of_lt (by omega),Array.getElem?_toList] at h1
  refine ⟨?_,?_⟩
  ·simp only [World.cell?,hh,Nat.zero_add];simpa using h1
  ·simp [World.frozen?,hh]
theorem St.sortedI {b c m:Nat} {e:TypeId} {xs:List Value} (hS:St w0 O (⟨.slice (some ⟨b,0,none⟩) m c,m,xs,e,1⟩::G) K W) (d:List Int) (hd:d.length=m) (q:Nat) (osn:Array Obj) :
  St w0 O (⟨.slice (some ⟨b,0,none⟩) m c,m,zI d,e,1⟩::G) K (Go.Sort.grow (Go.Sort.putRow (Value.int .i64) (Go.Sort.ahead W q) b 0 d.toArray) osn):=by
 have hrow:=hS.row 0 rfl
 have hlt:=(hS.glt (List.mem_cons_self) (b:=b) rfl).2
 have hsz:(Go.Sort.putRow (Value.int .i64) (Go.Sort.ahead W q) b 0 d.toArray).heap.size=W.heap.size:=by simp [Go.Sort.putRow,Go.Sort.mapBlock,Go.Sort.ahead]
 have hat:∀ z,z < W.heap.size→(Go.Sort.grow (Go.Sort.putRow (Value.int .i64) (Go.Sort.ahead W q) b 0 d.toArray) osn).heap[z]?=(Go.Sort.putRow (Value.int .i64) (Go.Sort.ahead W q) b 0 d.toArray).heap[z]?:=fun z hz=>by
  show ((Go.Sort.putRow (Value.int .i64) (Go.Sort.ahead W q) b 0 d.toArray).heap++osn)[z]?=_
  rw [Array.getElem?_append_left (by rw [hsz];exact hz)]
 refine hS.setG 0 rfl (v':=.slice (some ⟨b,0,none⟩) m c) ?_ ⟨rfl,rfl,rfl,by rw [Go.Sort.size_grow,hsz];omega,fun z hz hne=>?_⟩ (.inl rfl)
 ·refine ⟨by rw [fY];simp [hd],?_⟩
  rcases hrow.2 with ⟨e1,_⟩ | ⟨g,cap,cur,e1,hg,hh,hn2,hm,hs,ht⟩
  ·cases e1
  ·injection e1 with e1 _ e2
   injection e1 with e1
   injection e1 with e1
   subst e1;subst e2
   dsimp only at hs hn2
   refine .inr ⟨b,c,Go.Sort.putCells (Value.int .i64) 0 d.toArray cur,rfl,hg,?_,hn2,hm,?_,?_⟩
   ·rw [hat b hlt]
    simp only [Go.Sort.putRow,Go.Sort.mapBlock,Go.Sort.ahead,Array.getElem?_modify,if_true]
    rw [hh];rfl
   ·simpa [Go.Sort.putCells] using hs
   ·rw [← hd,Nat.mul_one]
    exact qI (by omega)
 ·rw [hat z hz]
  have hne':b≠z:=fun e=>hne (by rw [e];rfl)
  simp [Go.Sort.putRow,Go.Sort.mapBlock,Go.Sort.ahead,Array.getElem?_modify,hne']
end
section
variable {n:Nat} {Q:Exit→Act→World→Prop} {ops:Array Oper} {os:List Oper} {l:Fr} {d:Nat} {ty:TypeId} {pos:String} {aft:Array Edge} {w0 W:World} {O:Own} {G:aQ} {K:List (Nat×World)}
theorem sI {x:Operand} {ts:Array TypeId} {wa:Option Addr} {m wc:Nat} {e1:TypeId} {dl:List Int} (hS:St w0 O (⟨.slice wa m wc,m,zI dl,e1,1⟩::G) K W) (hgo:aZ prog 45=true) (hx:evL l x=some (.slice wa m wc)) (hdl:dl.length=m) (hn:m < 4611686018427387904) (hd:Nat.blt d n=true)
  (h:∀ W',St w0 O (⟨.slice wa m wc,m,zI (dl.mergeSort fun x y=>decide (x≤y)),e1,1⟩::G) K W'→aT prog n ops Q os ((d,.tuple #[])::l) W'):aT prog n ops Q (⟨some d,.call { callee:=.value (.func 45),args:=#[x],argTypes:=ts },ty,pos,aft,none⟩::os) l W:=by
 have hrow:=hS.row 0 rfl
 rcases Nat.eq_zero_or_pos m with h0 | h0
 ·subst h0
  obtain rfl:dl=[]:=List.eq_nil_of_length_eq_zero hdl
  refine aP (vs:=[.slice wa 0 wc]) hgo (by simp [hx]) (Try.slices_Sort_int_none wa wc W) hd ?_
  rintro e W' ⟨rfl,rfl⟩
  refine ⟨_,rfl,h _ ?_⟩
  simpa using hS
 ·obtain ⟨b,cs,rfl,_⟩:=St.rowOwnE hS h0
  have hlt:=(hS.glt (List.mem_cons_self) (b:=b) rfl).2
  have h1:=Try.slices_Sort_int b 0 wc dl W (qJ hdl hrow) hlt (by omega)
  rw [hdl] at h1
  refine aP (vs:=[.slice (some ⟨b,0,none⟩) m wc]) hgo (by simp [hx]) h1 hd ?_
  rintro e W' ⟨rfl,q,osn,rfl⟩
  exact ⟨_,rfl,h _ (hS.sortedI _ (by rw [List.length_mergeSort];exact hdl) q osn)⟩
end
def nI (l:List Nat):List Int:=l.map (fun (x:Nat)=>(x:Int))
theorem dP {l:List Nat}:(nI l).length=l.length:=List.length_map _
theorem zN_nI {l:List Nat}:zN l=zI (nI l):=by unfold zN zI nI;rw [List.map_map];rfl
theorem mU {all:List Nat} (hn:all.Nodup):∃ l:List Nat,((nI all).mergeSort fun x y=>decide (x≤y))=nI l∧l.Pairwise (· < ·)∧(∀ q,q∈l↔q∈all)∧l.length=all.length:=by
 have hp:=List.mergeSort_perm (nI all) (fun x y=>decide (x≤y))
 have hs:=List.pairwise_mergeSort (le:=fun (x y:Int)=>decide (x≤y)) (fun a b c h1 h2=>by simp at *;omega) (fun a b=>by simp;omega) (nI all)
 have hge:∀ x∈((nI all).mergeSort fun x y=>decide (x≤y)),0≤x:=fun x hx=>by
  obtain ⟨y,_,rfl⟩:=List.mem_map.1 (hp.mem_iff.1 hx)
  omega
 refine ⟨((nI all).mergeSort fun x y=>decide (x≤y)).map Int.toNat,?_,?_,fun q=>?_,?_⟩
 ·unfold nI
  rw [List.map_map]
  conv=>lhs;rw [← List.map_id ((List.map (fun (x:Nat)=>(x:Int)) all).mergeSort fun x y=>decide (x≤y))]
  refine List.map_congr_left fun x hx=>?_
  have:=hge x hx
  show x=((x.toNat:Nat):Int)
  omega
 ·have hnd:((nI all).mergeSort fun x y=>decide (x≤y)).Nodup:=hp.nodup_iff.2 (hn.map (fun (x:Nat)=>(x:Int)) (fun a b h e=>h (by exact Int.ofNat.inj e)))
  rw [List.pairwise_map]
  refine List.Pairwise.imp_of_mem ?_ (hs.and hnd)
  intro a b ha hb h1
  have h2:=of_decide_eq_true h1.1
  have h3:=h1.2
  have:=hge a ha
  have:=hge b hb
  omega
 ·constructor
  ·intro h
   obtain ⟨x,hx,rfl⟩:=List.mem_map.1 h
   obtain ⟨y,hy,rfl⟩:=List.mem_map.1 (hp.mem_iff.1 hx)
   simpa using hy
  ·intro h
   exact List.mem_map.2 ⟨(q:Int),hp.mem_iff.2 (List.mem_map.2 ⟨q,h,rfl⟩),by simp⟩
 ·rw [List.length_map,List.length_mergeSort,dP]
theorem pE:aZ prog 44=true:=by kernel_rfl
theorem goes_45:aZ prog 45=true:=by kernel_rfl
theorem mV {P:Program} {l:Fr} {W:World} {d f:Nat} {ty:TypeId} {pos:String} {aft:Array Edge} {x1 x2:Operand} {v1 v2:Value} (h1:evL l x1=some v1) (h2:evL l x2=some v2):cE P l ⟨some d,.makeFunc (.func f) #[] #[x1,x2],ty,pos,aft,none⟩ W (.func (.func f) #[] [v1,v2].toArray) W:=fun ev he=>by
 unfold execOp
 simp only []
 simp [Instr.makeFunc,he _ _ h1,he _ _ h2]
theorem gJ {a:Option Addr} {m c:Nat} {zs:List Int} {W:World} (h:kC ⟨.slice a m c,m,zI zs⟩ W):Row W a zs:=by
 obtain ⟨a2,c2,e,hc,hx⟩:=h
 dsimp only at e hx
 obtain rfl:a=a2:=by injection e
 cases zs with
 | nil=>exact .inl rfl
 | cons y zs =>
  obtain ⟨b,rfl,_⟩:=hx 0 _ rfl
  refine .inr ⟨b,0,rfl,fun i hi=>?_⟩
  obtain ⟨b2,e9,h9⟩:=hx i (.int .i64 ((y::zs).getD i 0)) (by unfold zI;rw [List.getElem?_map,List.getElem?_eq_getElem hi,List.getD_eq_getElem?_getD,List.getElem?_eq_getElem hi];rfl)
  obtain rfl:b=b2:=by simpa using e9
  exact h9
def CLz (L:List ArV) (all:List Nat) (i:Nat):Prop:=∀ (j p q:Nat),j < i→all[j]?=some p→E1 L p q→q∈all
theorem CLz.mt {L:List ArV} {all:List Nat} {i x:Nat} (h:CLz L all i) (hi:i≤all.length):CLz L (mtN all x) i:=fun j p q hj hp he=>by
 rw [pD (by omega)] at hp
 exact gI.2 (.inl (h j p q hj hp he))
theorem CLz.next {L:List ArV} {all:List Nat} {i p:Nat} (h:CLz L all i) (hp:all[i]?=some p) (hq:∀ t∈outs L p,t.s = -1→t.q.toNat∈all):CLz L all (i+1):=fun j p2 q hj hp2 he=>by
 rcases Nat.lt_or_ge j i with h9 | h9
 ·exact h j p2 q h9 hp2 he
 ·obtain rfl:j=i:=by omega
  obtain rfl:p=p2:=Option.some.inj (hp.symm.trans hp2)
  obtain ⟨t,ht,e1,e2,e3⟩:=he
  have:=hq t (List.mem_filter.2 ⟨ht,by simpa using e1⟩) e2
  rw [e3] at this
  simpa using this
theorem pF (y:Int) (n:Nat) (r:Int) (s9 ss:List Int) (all:List Nat) (AX CX RB SB OB:Nat) (wa:Option Addr) (m wc x:Nat) (Ot:Own) (G:aQ) (K:List (Nat×World)) (w0 w:World) (hy:y=(x:Int)) (hS0:St w0 ((AX,[.slice wa m wc],25)::(CX,[.pointer (some ⟨RB,0,none⟩)],46)::(RB,[.slice (some ⟨OB,0,none⟩) n n,.slice (some ⟨SB,0,none⟩) n n,.int .i64 r],73)::(SB,zI (ss),3)::Ot) (⟨.slice wa m wc,m,zN (all),3,1⟩::G) K w) (hm:all.length=m) (hS9:SnOk n r s9 ss all) (hn4:n≤4096) (hx:x < n):Calls prog 44 #[.int .i64 y,.pointer (some ⟨CX,0,none⟩),.pointer (some ⟨AX,0,none⟩)] w (fun e w'=>∃ (wa:Option Addr) (m wc:Nat) (ss2:List Int),e = .returned (.tuple #[])∧(mtN all x).length=m∧SnOk n r s9 ss2 (mtN all x)∧St w0 ((AX,[.slice wa m wc],25)::(CX,[.pointer (some ⟨RB,0,none⟩)],46)::(RB,[.slice (some ⟨OB,0,none⟩) n n,.slice (some ⟨SB,0,none⟩) n n,.int .i64 r],73)::(SB,zI (ss2),3)::Ot) (⟨.slice wa m wc,m,zN (mtN all x),3,1⟩::G) K w'):=by
 subst hy;exact sH n r s9 ss all AX CX RB SB OB wa m wc x Ot G K w0 w hS0 hm hS9 hn4 hx
theorem kD (n:Nat) (L:List ArV) (OB:Nat) (va:Nat→Option Addr) (vc:Nat→Nat) (RB SB:Nat) (r0 r:Int) (s9:List Int) (la:Option Addr) (ll lc:Nat) (ls:List Int) (Kt:List (Nat×World)) (Ot:Own) (G:aQ) (K:List (Nat×World)) (w0 w:World) (hS0:St w0 ((RB,[.slice (some ⟨OB,0,none⟩) n n,.slice (some ⟨SB,0,none⟩) n n,.int .i64 r0],73)::(SB,zI s9,3)::Ot) G K w) (hKt:∀ q∈Kt,q∈K) (hOut:bJ w0 Kt (fun W=>iF W OB n L va vc)) (hLs:bJ w0 Kt (fun W=>Row W la ls)) (hll:ls.length=ll) (hlm:ll≤9223372036854775807) (hlt:∀ y∈ls,0≤y∧y < (n:Int)) (hq:∀ t∈L,0≤t.q∧t.q < (n:Int)) (hLl:L.length≤65536) (hs9:s9.length=n) (hr:IntKind.i64.wrap (r0+1)=r) (hfr:∀ x∈s9,x≠r) (hn4:n≤4096) :
  Calls prog 25 #[.pointer (some ⟨RB,0,none⟩),.slice la ll lc] w (fun e w'=>∃ (l:List Nat) (wa:Option Addr) (wc:Nat) (ss2:List Int),IsH L (fun q:Nat=>(q:Int)∈ls) l∧e = .returned (.slice wa l.length wc)∧l.length≤n∧ss2.length=n∧(∀ x∈ss2,x∈s9∨x=r)∧St w0 ((RB,[.slice (some ⟨OB,0,none⟩) n n,.slice (some ⟨SB,0,none⟩) n n,.int .i64 r],73)::(SB,zI ss2,3)::Ot) (⟨.slice wa l.length wc,l.length,zI (nI l),3,1⟩::G) K w'):=by
 refine bD (args:=[.pointer (some ⟨RB,0,none⟩),.slice la ll lc]) func25 rfl ntmps25 rfl ?_
 have hS:=hS0
 refine aC (aG (bZ (cs:=[_]) hS rfl rfl rfl fun B1 W1 hS=>aB rfl rfl (aF (XF.thenN (aC (aG (aI isAgg46 rfl (aE (hS.at_ 0 rfl) rfl) rfl (aY rfl rfl (aH (o':=2) jJ rfl rfl rfl (aI isAgg3 rfl (aE (hS.at_ 1 rfl) rfl) rfl (aV rfl rfl (hr) rfl (aY rfl rfl (aH (o':=2) jJ rfl rfl rfl (bO (i:=1) (cs':=[_,_,_]) (O':=(_::_::_::Ot)) hS sizeOf3 rfl rfl rfl rfl rfl rfl rfl fun W2 hS=>aF (XF.thenN (aC (aG (bH (cs:=[_]) hS zeroValue25 rfl rfl fun B3 W3 hS=>aF (XF.thenN (aC (aG (opV (mV rfl rfl) rfl (aB rfl rfl (aF (XF.thenN ?_)))))))))))))))))))))))))
 refine aC (aC ?_)
 have hS':=hS.newG 3 1;clear hS;have hS:=hS';clear hS'
 have hSn0:SnOk n r s9 s9 []:=SnOk.start hs9 hfr
 refine aG (aA rfl rfl (bF underlying25 rfl rfl (aA rfl rfl (aF (XF.thenN (aL (cD (fun m l W=>∃ (i ml:Nat) (wa:Option Addr) (wc:Nat) (ss:List Int) (all:List Nat),i≤ll∧m=ll - i∧l=[(2,.pointer (some ⟨B1,0,none⟩)),(5,.pointer (some ⟨B3,0,none⟩)),(6,.func (.func 44) #[] [.pointer (some ⟨B1,0,none⟩),.pointer (some ⟨B3,0,none⟩)].toArray),(20,.slice la ll lc),(21,.int .i64 (ll:Int)),(22,.int .i64 (i:Int))]∧all.length=ml∧SnOk n r s9 ss all∧(∀ q:Nat,q∈all↔(q:Int)∈ls.take i)∧St w0 ((B3,[.slice wa ml wc],25)::(B1,[.pointer (some ⟨RB,0,none⟩)],46)::(RB,[.slice (some ⟨OB,0,none⟩) n n,.slice (some ⟨SB,0,none⟩) n n,.int .i64 r],73)::(SB,zI (ss),3)::Ot) (⟨.slice wa ml wc,ml,zN (all),3,1⟩::G) K W) (ll - 0) ([(2,_),(5,_),(6,_),(20,_),(21,_),(22,_)]) ⟨rfl,rfl,rfl,rfl,rfl,rfl,trivial⟩ (⟨0,0,none,0,s9,[],Nat.zero_le _,rfl,rfl,rfl,hSn0,by simp,hS.keep K (fun q hq=>by simp [hq])⟩) ?_)))))))
 clear hS
 rintro m l W ⟨i,ml,wa,wc,ss,all,hi,rfl,rfl,hml,hSn,hin,hS⟩
 refine aC (aG (bG rfl rfl rfl (aF (XF.thenN (aC (bA rfl (fun hc=>?_) (fun hc=>?_)))))))
 ·have hc23:=of_decide_eq_true hc;clear hc
  obtain ⟨b,off,y,hla,hy,hyc⟩:=(hLs (hS.keep K (fun q hq=>by simp [hq])) hKt).at1 (show i < ls.length by omega)
  obtain ⟨hy0,hy1⟩:=hlt y (List.mem_of_getElem? hy)
  obtain ⟨yn,hyn⟩:∃ k:Nat,y=(k:Int):=⟨y.toNat,by omega⟩
  refine aO (XF.thenN (aC (aL (aC (aG ?_)))))
  refine aS (j:=i) (b:=b) (o:=off) (m:=ll) (c:=lc) underlying25 sizeOf3 (by show some (Value.slice _ _ _)=_;rw [hla]) rfl rfl (by omega) rfl rfl ?_
  refine aI isAgg3 rfl (hyc) rfl (aB rfl rfl (aF (XF.thenN (aG (aA rfl rfl (aA rfl rfl (iC (vs:=[_]) (caps:=[_,_]) rfl pE rfl (pF y n r s9 ss all B3 B1 RB SB OB wa ml wc yn _ G K w0 _ hyn (hS.keep K (fun q hq=>by simp [hq])) hml hSn hn4 (by omega)) rfl ?_)))))))
  rintro e W9 ⟨wa2,ml2,wc2,ss2,rfl,hml2,hSn2,hS9⟩
  refine ⟨_,rfl,?_⟩
  clear hS;have hS:=hS9;clear hS9
  refine aF (XF.blkN (XF.thenN (aG (aV rfl rfl (IntWalk.i64_in _ (by omega)) rfl (aA rfl rfl (aF ?_))))))
  exact XF.round (ll - (i+1)) [(2,_),(5,_),(6,_),(20,_),(21,_),(22,_)] (by omega) ⟨rfl,rfl,rfl,rfl,rfl,rfl,trivial⟩ ⟨i+1,ml2,wa2,wc2,ss2,mtN all yn,by omega,rfl,rfl,hml2,hSn2,fun q=>(by rw [gI,hin,List.take_add_one,hy,List.mem_append];simp [hyn];constructor<;>rintro (h | h)<;>first | exact .inl h | exact .inr (by omega)),hS.keep K (fun q hq=>by simp [hq])⟩
 ·have hc23:=of_decide_eq_false hc;clear hc
  rw [List.take_of_length_le (by omega)] at hin
  refine bS (XF.thenX (XF.thenX (XF.blkX (XF.thenN (aC (aC (aG (aB rfl rfl (aF (XF.thenN (aL (cD (fun m l W=>∃ (i ml:Nat) (wa:Option Addr) (wc:Nat) (ss:List Int) (all:List Nat),i≤ml∧m=n - i∧l=[(2,.pointer (some ⟨B1,0,none⟩)),(5,.pointer (some ⟨B3,0,none⟩)),(6,.func (.func 44) #[] [.pointer (some ⟨B1,0,none⟩),.pointer (some ⟨B3,0,none⟩)].toArray),(9,.int .i64 (i:Int))]∧all.length=ml∧SnOk n r s9 ss all∧(∀ q∈all,Hd L (fun q:Nat=>(q:Int)∈ls) q)∧(∀ q:Nat,(q:Int)∈ls→q∈all)∧CLz L all i∧St w0 ((B3,[.slice wa ml wc],25)::(B1,[.pointer (some ⟨RB,0,none⟩)],46)::(RB,[.slice (some ⟨OB,0,none⟩) n n,.slice (some ⟨SB,0,none⟩) n n,.int .i64 r],73)::(SB,zI (ss),3)::Ot) (⟨.slice wa ml wc,ml,zN (all),3,1⟩::G) K W) (n - 0) ([(2,_),(5,_),(6,_),(9,_)]) ⟨rfl,rfl,rfl,rfl,trivial⟩ (⟨0,ml,wa,wc,ss,all,Nat.zero_le _,rfl,rfl,hml,hSn,fun q hq=>.base ((hin q).1 hq),fun q hq=>(hin q).2 hq,fun j p q hj=>absurd hj (Nat.not_lt_zero _),hS.keep K (fun q hq=>by simp [hq])⟩) ?_))))))))))))
  clear hS
  rintro m l W ⟨i,ml,wa,wc,ss,all,hi,rfl,rfl,hml,hSn,hh1,hh2,hcl,hS⟩
  have hlen:=hSn.le
  refine aC (aC (aG (aA rfl rfl (aI isAgg25 rfl (aE (hS.at_ 0 rfl) rfl) rfl (bF underlying25 rfl rfl (bG rfl rfl rfl (aF (XF.thenN (bA rfl (fun hc=>?_) (fun hc=>?_))))))))))
  ·have hc33:=of_decide_eq_true hc;clear hc
   obtain ⟨p,hp⟩:∃ p,all[i]?=some p:=⟨_,List.getElem?_eq_getElem (by omega)⟩
   have hpn:=hSn.lt p (List.mem_of_getElem? hp)
   obtain ⟨sb,rfl⟩:=iA (hS.row 0 rfl) (by omega)
   have hmc:W.cell? ⟨sb,0+i * 1,none⟩=some (.int .i64 (p:Int)):=by
    rw [Nat.zero_add,Nat.mul_one]
    exact eM (hS.row 0 rfl) (k:=i) (by show (zN _)[i]?=_;unfold zN;rw [List.getElem?_map,hp];rfl)
   obtain ⟨hoc,_⟩:=hOut (hS.keep K (fun q hq=>by simp [hq])) hKt p hpn
   have hol9:(outs L p).length≤65536:=Nat.le_trans (List.length_filter_le _ _) hLl
   refine aO (XF.thenN (aC (aL (aC (regB (m:=12) cL hS (by kernel_rfl) (by kernel_rfl) rfl (fR 1 rfl 2 rfl rfl (fun w hw=>bE isAgg46 rfl ((aX hw 0).cell (Nat.zero_le _) (aE (hS.at_ 1 rfl) rfl))) rfl (cW 2 rfl 36 0 rfl rfl rfl (fun w hw=>cK rfl) rfl (cW 3 rfl 37 1 rfl rfl rfl (fun w hw=>cA (o':=0) gH rfl rfl) rfl (cW 4 rfl 38 2 rfl rfl rfl (fun w hw=>bE isAgg71 rfl ((aX hw 0).cell (Nat.zero_le _) (aE (hS.at_ 2 rfl) rfl))) rfl (fR 5 rfl 5 rfl rfl (fun w hw=>bE isAgg25 rfl ((aX hw 0).cell (Nat.zero_le _) (aE (hS.at_ 0 rfl) rfl))) rfl (fR 6 rfl 9 rfl rfl (fun w hw=>bL rfl) rfl (dL 7 rfl (isV _) (dA _) (rgV (li:=[(40,_),(41,_)]) rfl (bX rfl) ⟨bW 4 (bR rfl rfl rfl),bW 5 (bR rfl rfl rfl),trivial⟩ (fun w hw=>cI (j:=i) (b:=sb) (o:=0) (m:=ml) (c:=wc) underlying25 sizeOf3 rfl rfl rfl (by omega) rfl) (bQ rfl)) (cW 8 rfl 42 6 rfl rfl rfl (fun w hw=>bE isAgg3 rfl ((aX hw 0).cell (Nat.zero_le _) (hmc))) rfl (dL 9 rfl (isV _) (dA _) (rgV (li:=[(39,_),(43,_)]) rfl (bX rfl) ⟨bW 3 (bR rfl rfl rfl),bW 7 (bR rfl rfl rfl),trivial⟩ (fun w hw=>cI (j:=p) (b:=OB) (o:=0) (m:=n) (c:=n) underlying71 sizeOf22 rfl rfl rfl (by omega) rfl) (bQ rfl)) (cW 10 rfl 44 8 rfl rfl rfl (fun w hw=>bE isAgg22 rfl ((aX hw 0).cell (Nat.zero_le _) (hoc))) rfl (cW 11 rfl 45 9 rfl rfl rfl (fun w hw=>rK underlying22 rfl) rfl (dL 12 rfl (isV _) (dA _) (rgV (li:=[]) rfl (bX rfl) trivial (fun w hw=>bL rfl) (bQ rfl)) (lJ ?_))))))))))))))))))
   intro W4 hbR hS'
   clear hS;have hS:=hS';clear hS'
   refine bU (bU (bU (bU (bU (bU (bU (bU (bU (bU (bU (bU (fE (XF.thenN (aL (cD (fun m l W=>∃ (x ml:Nat) (wa:Option Addr) (wc:Nat) (ss:List Int) (all:List Nat),x≤(outs L p).length∧m=(outs L p).length - x∧l=[(2,.pointer (some ⟨B1,0,none⟩)),(5,.pointer (some ⟨B3,0,none⟩)),(6,.func (.func 44) #[] [.pointer (some ⟨B1,0,none⟩),.pointer (some ⟨B3,0,none⟩)].toArray),(9,.int .i64 (i:Int)),(45,.slice (va p) (outs L p).length (vc p)),(46,.int .i64 ((outs L p).length:Int)),(47,.int .i64 (x:Int))]∧all.length=ml∧i < ml∧all[i]?=some p∧SnOk n r s9 ss all∧(∀ q∈all,Hd L (fun q:Nat=>(q:Int)∈ls) q)∧(∀ q:Nat,(q:Int)∈ls→q∈all)∧CLz L all i∧(∀ t∈(outs L p).take x,t.s = -1→t.q.toNat∈all)∧St w0 ((B3,[.slice wa ml wc],25)::(B1,[.pointer (some ⟨RB,0,none⟩)],46)::(RB,[.slice (some ⟨OB,0,none⟩) n n,.slice (some ⟨SB,0,none⟩) n n,.int .i64 r],73)::(SB,zI (ss),3)::Ot) (⟨.slice wa ml wc,ml,zN (all),3,1⟩::G) K W) ((outs L p).length - 0) ([(2,_),(5,_),(6,_),(9,_),(45,_),(46,_),(47,_)]) ⟨rfl,rfl,rfl,rfl,rfl,rfl,rfl,trivial⟩ (⟨0,ml,some ⟨sb,0,none⟩,wc,ss,all,Nat.zero_le _,rfl,rfl,hml,by omega,hp,hSn,hh1,hh2,hcl,fun t ht=>(by cases ht),hS.keep K (fun q hq=>by simp [hq])⟩) ?_)))))))))))))))
   clear hS
   clear hmc hoc hp hh1 hh2 hcl hSn hml hlen hi
   rintro m l W ⟨x,ml,wa,wc,ss,all,hx,rfl,rfl,hml,hil,hp,hSn,hh1,hh2,hcl,hdo,hS⟩
   have hlen:=hSn.le
   refine aC (aG (bG rfl rfl rfl (aF (XF.thenN (aC (bA rfl (fun hc=>?_) (fun hc=>?_)))))))
   ·have hc48:=of_decide_eq_true hc;clear hc
    obtain ⟨t,ht⟩:∃ t,(outs L p)[x]?=some t:=⟨_,List.getElem?_eq_getElem (by omega)⟩
    obtain ⟨b,off,haa,hcs⟩:=(hOut (hS.keep K (fun q hq=>by simp [hq])) hKt p hpn).2 x t ht
    have k1:=hcs
    have htm:=List.mem_filter.1 (List.mem_of_getElem? ht)
    have htf:t.f=(p:Int):=of_decide_eq_true htm.2
    obtain ⟨hq0,hq1⟩:=hq t htm.1
    obtain ⟨qn,hqn⟩:∃ k:Nat,t.q=(k:Int):=⟨t.q.toNat,by omega⟩
    refine aO (XF.thenN (aC (aL (aC (aG ?_)))))
    refine aS (j:=x) (b:=b) (o:=off) (m:=(outs L p).length) (c:=vc p) underlying22 sizeOf57 (by show some (Value.slice _ _ _)=_;rw [haa]) rfl rfl (by omega) rfl rfl ?_
    refine aM (vs:=[_,_,_]) isAgg57 sizeOf57 rfl k1 rfl (bH (cs:=[_,_,_]) hS zeroValue57 rfl rfl fun B5 W5 hS=>bI (i:=0) (vs:=[_,_,_]) (cs':=[_,_,_]) (O':=(_::_::_::_::_::Ot)) hS sizeOf57 rfl rfl rfl rfl rfl rfl rfl fun W6 hS=>aF (XF.thenN (aC (aG (aH (o':=1) eC rfl rfl rfl (aI isAgg3 rfl (aE (hS.at_ 0 rfl) rfl) rfl (dZ rfl rfl rfl (aF (XF.thenN (bA rfl (fun hc=>?_) (fun hc=>?_)))))))))))
    ·have hc53:=of_decide_eq_true hc;clear hc
     refine aG (aA rfl rfl (aH (o':=2) eO rfl rfl rfl (aI isAgg3 rfl (aE (hS.at_ 0 rfl) rfl) rfl (iC (vs:=[_]) (caps:=[_,_]) rfl pE rfl (pF t.q n r s9 ss all B3 B1 RB SB OB wa ml wc qn _ G K w0 _ hqn (hS.tail.keep K (fun q hq=>by simp [hq])) hml hSn hn4 (by omega)) rfl ?_))))
     rintro e W9 ⟨wa2,ml2,wc2,ss2,rfl,hml2,hSn2,hS9⟩
     refine ⟨_,rfl,?_⟩
     clear hS;have hS:=hS9;clear hS9
     refine aF (XF.blkN (XF.thenN (aG (aV rfl rfl (IntWalk.i64_in _ (by omega)) rfl (aA rfl rfl (aF ?_))))))
     have hs1:t.s = -1:=by simpa using hc53
     exact XF.round ((outs L p).length - (x+1)) [(2,_),(5,_),(6,_),(9,_),(45,_),(46,_),(47,_)] (by omega) ⟨rfl,rfl,rfl,rfl,rfl,rfl,rfl,trivial⟩ ⟨x+1,ml2,wa2,wc2,ss2,mtN all qn,by omega,rfl,rfl,hml2,by have:=mtN_len (all:=all) (x:=qn);omega,by rw [pD (by omega)];exact hp,hSn2,fun q hq=>(gI.1 hq).elim (hh1 q) (fun e=>by rw [e];exact .arc (hh1 p (List.mem_of_getElem? hp)) ⟨t,htm.1,htf,hs1,hqn⟩),fun q hq=>gI.2 (.inl (hh2 q hq)),hcl.mt (by omega),fun t2 ht2 e2=>(by
      rw [List.take_add_one,ht] at ht2
      rcases List.mem_append.1 ht2 with h9 | h9
      ·exact gI.2 (.inl (hdo t2 h9 e2))
      ·obtain rfl:t2=t:=by simpa using h9
       exact gI.2 (.inr (by rw [hqn];rfl))),hS.keep K (fun q hq=>by simp [hq])⟩
    ·have hc53:=of_decide_eq_false hc;clear hc
     refine aO (XF.blkN (XF.thenN (aG (aV rfl rfl (IntWalk.i64_in _ (by omega)) rfl (aA rfl rfl (aF ?_))))))
     have hs1:¬ t.s = -1:=by simpa using hc53
     exact XF.round ((outs L p).length - (x+1)) [(2,_),(5,_),(6,_),(9,_),(45,_),(46,_),(47,_)] (by omega) ⟨rfl,rfl,rfl,rfl,rfl,rfl,rfl,trivial⟩ ⟨x+1,ml,wa,wc,ss,all,by omega,rfl,rfl,hml,hil,hp,hSn,hh1,hh2,hcl,fun t2 ht2 e2=>(by
      rw [List.take_add_one,ht] at ht2
      rcases List.mem_append.1 ht2 with h9 | h9
      ·exact hdo t2 h9 e2
      ·obtain rfl:t2=t:=by simpa using h9
       exact absurd e2 hs1),hS.tail.keep K (fun q hq=>by simp [hq])⟩
   ·have hc48:=of_decide_eq_false hc;clear hc
    rw [List.take_of_length_le (by omega)] at hdo
    refine bS (XF.thenX (XF.thenX (XF.blkX (XF.blkN (XF.thenN (aG (aA rfl rfl (aV rfl rfl (IntWalk.i64_in _ (by omega)) rfl (aB rfl rfl (aF ?_))))))))))
    exact XF.round (n - (i+1)) [(2,_),(5,_),(6,_),(9,_)] (by omega) ⟨rfl,rfl,rfl,rfl,trivial⟩ ⟨i+1,ml,wa,wc,ss,all,by omega,rfl,rfl,hml,hSn,hh1,hh2,hcl.next hp hdo,hS.keep K (fun q hq=>by simp [hq])⟩
  ·have hc33:=of_decide_eq_false hc;clear hc
   have eim:i=ml:=by omega
   obtain ⟨l9,hso,hup,hmem,hlen9⟩:=mU hSn.nd
   have hH:IsH L (fun q:Nat=>(q:Int)∈ls) l9:=⟨hup,fun q=>by
    rw [hmem]
    exact hd_of hh1 hh2 (fun p hp q he=>by
     obtain ⟨j,hj⟩:=List.getElem?_of_mem hp
     exact hcl j p q (by have:=(List.getElem?_eq_some_iff.1 hj).1;omega) hj he) q⟩
   rw [zN_nI] at hS
   refine bS (XF.thenX (XF.thenX (XF.blkX (XF.thenN (aC (aG (aI isAgg25 rfl (aE (hS.at_ 0 rfl) rfl) rfl ?_)))))))
   refine sI hS goes_45 rfl (by rw [dP];exact hml) (by omega) rfl ?_
   intro W9 hS9
   rw [hso] at hS9
   clear hS;have hS:=hS9;clear hS9
   refine aF (XF.thenN (aC (aG (aI isAgg25 rfl (aE (hS.at_ 0 rfl) rfl) rfl (aB rfl rfl (aF (XF.thenN (bK (XF.res (bY results25 rfl) ?_)))))))))
   have hl9:l9.length=ml:=by rw [hlen9,hml]
   subst hl9
   exact ⟨l9,wa,wc,ss,hH,rfl,by omega,hSn.len,hSn.from_,(hS.keep K (fun q hq=>by simp [hq])).tail.tail⟩
theorem eE (n:Nat) (L:List ArV) (OB:Nat) (va:Nat→Option Addr) (vc:Nat→Nat) (RB SB:Nat) (r0 r:Int) (s9:List Int) (la:Option Addr) (ll lc:Nat) (ls:List Int) (Kt:List (Nat×World)) (Ot:Own) (G:aQ) (K:List (Nat×World)) (w0 w:World) (hS0:St w0 ((RB,[.slice (some ⟨OB,0,none⟩) n n,.slice (some ⟨SB,0,none⟩) n n,.int .i64 r0],73)::(SB,zI s9,3)::Ot) G K w) (hKt:∀ q∈Kt,q∈K) (hOut:bJ w0 Kt (fun W=>iF W OB n L va vc)) (hLs:bJ w0 Kt (fun W=>Row W la ls)) (hll:ls.length=ll) (hlm:ll≤9223372036854775807) (hlt:∀ y∈ls,0≤y∧y < (n:Int)) (hq:∀ t∈L,0≤t.q∧t.q < (n:Int)) (hLl:L.length≤65536) (hs9:s9.length=n) (hr:IntKind.i64.wrap (r0+1)=r) (hfr:∀ x∈s9,x≠r) (hn4:n≤4096) :
  Calls prog 25 #[.pointer (some ⟨RB,0,none⟩),.slice la ll lc] w (fun e w'=>∃ (l:List Nat) (wa:Option Addr) (wc:Nat) (ss2:List Int) (Kn:List (Nat×World)),IsH L (fun q:Nat=>(q:Int)∈ls) l∧e = .returned (.slice wa l.length wc)∧l.length≤n∧ss2.length=n∧(∀ x∈ss2,x∈s9∨x=r)∧(∀ q∈K,q∈Kn)∧bJ w0 Kn (fun W=>Row W wa (nI l))∧St w0 ((RB,[.slice (some ⟨OB,0,none⟩) n n,.slice (some ⟨SB,0,none⟩) n n,.int .i64 r],73)::(SB,zI ss2,3)::Ot) G Kn w'):=by
 refine (kD n L OB va vc RB SB r0 r s9 la ll lc ls Kt Ot G K w0 w hS0 hKt hOut hLs hll hlm hlt hq hLl hs9 hr hfr hn4).mono ?_
 rintro e w1 ⟨l,wa,wc,ss,hH,rfl,h1,h2,h3,hS⟩
 obtain ⟨K1,k1,g1,hS1⟩:=St.rowKeepN (o:=⟨.slice wa l.length wc,l.length,zI (nI l)⟩) hS
 exact ⟨l,wa,wc,ss,K1,hH,rfl,h1,h2,h3,k1,fun h9 hk9=>gJ (g1 h9 hk9),hS1⟩
theorem fG:aZ prog 25=true:=by kernel_rfl
theorem IsH.congr {L:List ArV} {P R:Nat→Prop} {l:List Nat} (h:IsH L P l) (e:∀ q,P q↔R q):IsH L R l:=⟨h.up,fun q=>by
 rw [h.at_]
 exact ⟨Hd.mono fun q h1=>(e q).1 h1,Hd.mono fun q h1=>(e q).2 h1⟩⟩
def ToK (L:List ArV) (x:Int) (lp:List Nat) (i p z:Nat) (tos:List Int):Prop:=∀ y:Int,y∈tos↔(∃ p2∈lp.take i,∃ t∈outs L p2,(t.s=x∨t.s = -2)∧t.q=y)∨∃ t∈(outs L p).take z,(t.s=x∨t.s = -2)∧t.q=y
section
variable {L:List ArV} {x:Int} {lp:List Nat} {i p z:Nat} {tos:List Int} {t:ArV}
theorem ToK.start:ToK L x lp 0 p 0 []:=fun y=>by simp
theorem ToK.any {p2:Nat} (h:ToK L x lp i p 0 tos):ToK L x lp i p2 0 tos:=fun y=>by rw [h y];simp
theorem ToK.yes (h:ToK L x lp i p z tos) (ht:(outs L p)[z]?=some t) (hs:t.s=x∨t.s = -2):ToK L x lp i p (z+1) (tos++[t.q]):=fun y=>by
 rw [List.mem_append,h y,List.mem_singleton,List.take_add_one,ht]
 constructor
 ·rintro ((h1 | ⟨t2,h2,h3⟩) | rfl)
  ·exact .inl h1
  ·exact .inr ⟨t2,List.mem_append_left _ h2,h3⟩
  ·exact .inr ⟨t,List.mem_append_right _ (by simp),hs,rfl⟩
 ·rintro (h1 | ⟨t2,h2,h3⟩)
  ·exact .inl (.inl h1)
  ·rcases List.mem_append.1 h2 with h2 | h2
   ·exact .inl (.inr ⟨t2,h2,h3⟩)
   ·obtain rfl:t2=t:=by simpa using h2
    exact .inr h3.2.symm
theorem ToK.no (h:ToK L x lp i p z tos) (ht:(outs L p)[z]?=some t) (hs:¬ (t.s=x∨t.s = -2)):ToK L x lp i p (z+1) tos:=fun y=>by
 rw [h y,List.take_add_one,ht]
 constructor
 ·rintro (h1 | ⟨t2,h2,h3⟩)
  ·exact .inl h1
  ·exact .inr ⟨t2,List.mem_append_left _ h2,h3⟩
 ·rintro (h1 | ⟨t2,h2,h3⟩)
  ·exact .inl h1
  ·rcases List.mem_append.1 h2 with h2 | h2
   ·exact .inr ⟨t2,h2,h3⟩
   ·obtain rfl:t2=t:=by simpa using h2
    exact absurd h3.1 hs
theorem ToK.next (h:ToK L x lp i p (outs L p).length tos) (hp:lp[i]?=some p):ToK L x lp (i+1) 0 0 tos:=fun y=>by
 rw [h y,List.take_of_length_le (Nat.le_refl _),List.take_add_one,hp]
 constructor
 ·rintro (⟨p2,h1,h2⟩ | h2)
  ·exact .inl ⟨p2,List.mem_append_left _ h1,h2⟩
  ·exact .inl ⟨p,List.mem_append_right _ (by simp),h2⟩
 ·rintro (⟨p2,h1,h2⟩ | ⟨t2,h2,_⟩)
  ·rcases List.mem_append.1 h1 with h1 | h1
   ·exact .inl ⟨p2,h1,h2⟩
   ·obtain rfl:p2=p:=by simpa using h1
    exact .inr h2
  ·cases h2
theorem ToK.end_ (h:ToK L x lp lp.length 0 0 tos) (q:Nat):(q:Int)∈tos↔By9 L x (fun q=>q∈lp) q:=by
 rw [h (q:Int),List.take_of_length_le (Nat.le_refl _)]
 constructor
 ·rintro (⟨p,h1,t,h2,h3,h4⟩ | ⟨t2,h2,_⟩)
  ·obtain ⟨h5,h6⟩:=List.mem_filter.1 h2
   exact ⟨p,h1,t,h5,of_decide_eq_true h6,h3,h4⟩
  ·cases h2
 ·rintro ⟨p,h1,t,h5,h6,h3,h4⟩
  exact .inl ⟨p,h1,t,List.mem_filter.2 ⟨h5,by simpa using h6⟩,h3,h4⟩
theorem ToK.inL (h:ToK L x lp i 0 0 tos) {y:Int} (hy:y∈tos):∃ t∈L,t.q=y:=by
 rcases (h y).1 hy with ⟨p,h1,t,h2,h3,h4⟩ | ⟨t2,h2,_⟩
 ·exact ⟨t,(List.mem_filter.1 h2).1,h4⟩
 ·cases h2
end
theorem iT (n:Nat) (L:List ArV) (OB:Nat) (va:Nat→Option Addr) (vc:Nat→Nat) (RB SB:Nat) (r0 r:Int) (s9:List Int) (la:Option Addr) (ll lc:Nat) (lp:List Nat) (x:Int) (Kt:List (Nat×World)) (Ot:Own) (G:aQ) (K:List (Nat×World)) (w0 w:World) (hS0:St w0 ((RB,[.slice (some ⟨OB,0,none⟩) n n,.slice (some ⟨SB,0,none⟩) n n,.int .i64 r0],73)::(SB,zI s9,3)::Ot) G K w) (hKt:∀ q∈Kt,q∈K) (hOut:bJ w0 Kt (fun W=>iF W OB n L va vc)) (hLs:bJ w0 Kt (fun W=>Row W la (nI lp))) (hll:lp.length=ll) (hln:ll≤n) (hlt:∀ p∈lp,p < n) (hq:∀ t∈L,0≤t.q∧t.q < (n:Int)) (hLl:L.length≤65536) (hs9:s9.length=n) (hr:IntKind.i64.wrap (r0+1)=r) (hfr:∀ x∈s9,x≠r) (hn4:n≤4096) :
  Calls prog 30 #[.pointer (some ⟨RB,0,none⟩),.int .i64 x,.slice la ll lc] w (fun e w'=>∃ (l:List Nat) (wa:Option Addr) (wc:Nat) (ss2:List Int) (Kn:List (Nat×World)),IsH L (By9 L x (fun q=>q∈lp)) l∧e = .returned (.slice wa l.length wc)∧l.length≤n∧ss2.length=n∧(∀ x∈ss2,x∈s9∨x=r)∧(∀ q∈K,q∈Kn)∧St w0 ((RB,[.slice (some ⟨OB,0,none⟩) n n,.slice (some ⟨SB,0,none⟩) n n,.int .i64 r],73)::(SB,zI ss2,3)::Ot) (⟨.slice wa l.length wc,l.length,zI (nI l),3,1⟩::G) Kn w'):=by
 refine bD (args:=[.pointer (some ⟨RB,0,none⟩),.int .i64 x,.slice la ll lc]) func30 rfl ntmps30 rfl ?_
 have hS:=hS0
 refine aC (aG (aB rfl rfl (aF (XF.thenN (aC (aG (aB rfl rfl (aF (XF.thenN (aC (aC ?_)))))))))))
 have hS':=hS.newG 3 1;clear hS;have hS:=hS';clear hS'
 refine aG (aA rfl rfl (bF underlying25 rfl rfl (aA rfl rfl (aF (XF.thenN (aL (cD (fun m l W=>∃ (i ml:Nat) (wa:Option Addr) (wc:Nat) (tos:List Int),i≤ll∧m=ll - i∧l=[(0,.pointer (some ⟨RB,0,none⟩)),(1,.int .i64 x),(7,.slice wa ml wc),(12,.slice la ll lc),(13,.int .i64 (ll:Int)),(14,.int .i64 (i:Int))]∧tos.length=ml∧ml≤i * 65536∧ToK L x lp i 0 0 tos∧St w0 ((RB,[.slice (some ⟨OB,0,none⟩) n n,.slice (some ⟨SB,0,none⟩) n n,.int .i64 r0],73)::(SB,zI s9,3)::Ot) (⟨.slice wa ml wc,ml,zI (tos),3,1⟩::G) K W) (ll - 0) ([(0,_),(1,_),(7,_),(12,_),(13,_),(14,_)]) ⟨rfl,rfl,rfl,rfl,rfl,rfl,trivial⟩ (⟨0,0,none,0,[],Nat.zero_le _,rfl,rfl,rfl,(by omega),ToK.start,hS.keep K (fun q hq=>by simp [hq])⟩) ?_)))))))
 clear hS
 rintro m l W ⟨i,ml,wa,wc,tos,hi,rfl,rfl,htl,hmb,hto,hS⟩
 refine aC (aG (bG rfl rfl rfl (aF (XF.thenN (aC (bA rfl (fun hc=>?_) (fun hc=>?_)))))))
 ·have hc15:=of_decide_eq_true hc;clear hc
  obtain ⟨p,hp⟩:∃ p,lp[i]?=some p:=⟨_,List.getElem?_eq_getElem (by omega)⟩
  have hpn:=hlt p (List.mem_of_getElem? hp)
  obtain ⟨b,off,y,hla,hy,hyc⟩:=(hLs (hS.keep K (fun q hq=>by simp [hq])) hKt).at1 (show i < (nI lp).length by rw [dP];omega)
  obtain rfl:y=(p:Int):=by unfold nI at hy;rw [List.getElem?_map,hp] at hy;exact (Option.some.inj hy).symm
  obtain ⟨hoc,_⟩:=hOut (hS.keep K (fun q hq=>by simp [hq])) hKt p hpn
  have hol9:(outs L p).length≤65536:=Nat.le_trans (List.length_filter_le _ _) hLl
  have hto2:ToK L x lp i p 0 tos:=hto.any
  have hmb2:ml≤i * 65536+0:=by rw [Nat.add_zero];exact hmb
  refine aO (XF.thenN (aC (aL (aC (aG ?_)))))
  refine aS (j:=i) (b:=b) (o:=off) (m:=ll) (c:=lc) underlying25 sizeOf3 (by show some (Value.slice _ _ _)=_;rw [hla]) rfl rfl (by omega) rfl rfl ?_
  refine aI isAgg3 rfl (hyc) rfl (aB rfl rfl (aF (XF.thenN (aC (aG (aA rfl rfl (aY rfl rfl (aH (o':=0) gH rfl rfl rfl (aI isAgg71 rfl (aE (hS.at_ 0 rfl) rfl) rfl (aA rfl rfl (aS (j:=p) (b:=OB) (o:=0) (m:=n) (c:=n) underlying71 sizeOf22 rfl rfl rfl (by omega) rfl rfl (aI isAgg22 rfl (hoc) rfl (bF underlying22 rfl rfl (aA rfl rfl (aF (XF.thenN (aL (cD (fun m l W=>∃ (z ml:Nat) (wa:Option Addr) (wc:Nat) (tos:List Int),z≤(outs L p).length∧m=(outs L p).length - z∧l=[(0,.pointer (some ⟨RB,0,none⟩)),(1,.int .i64 x),(7,.slice wa ml wc),(12,.slice la ll lc),(13,.int .i64 (ll:Int)),(14,.int .i64 (i:Int)),(24,.slice (va p) (outs L p).length (vc p)),(25,.int .i64 ((outs L p).length:Int)),(26,.int .i64 (z:Int))]∧tos.length=ml∧ml≤i * 65536+z∧ToK L x lp i p z tos∧St w0 ((RB,[.slice (some ⟨OB,0,none⟩) n n,.slice (some ⟨SB,0,none⟩) n n,.int .i64 r0],73)::(SB,zI s9,3)::Ot) (⟨.slice wa ml wc,ml,zI (tos),3,1⟩::G) K W) ((outs L p).length - 0) ([(0,_),(1,_),(7,_),(12,_),(13,_),(14,_),(24,_),(25,_),(26,_)]) ⟨rfl,rfl,rfl,rfl,rfl,rfl,rfl,rfl,rfl,trivial⟩ (⟨0,ml,wa,wc,tos,Nat.zero_le _,rfl,rfl,htl,hmb2,hto2,hS.keep K (fun q hq=>by simp [hq])⟩) ?_))))))))))))))))))
  clear hS
  have hil:i < ll:=by omega
  clear hmb hto hmb2 hto2 htl hi hoc hyc hy
  rintro m l W ⟨z,ml,wa,wc,tos,hz,rfl,rfl,htl,hmb,hto,hS⟩
  have hib:i * 65536≤4096 * 65536:=Nat.mul_le_mul_right _ (by omega)
  refine aC (aG (bG rfl rfl rfl (aF (XF.thenN (aC (bA rfl (fun hc=>?_) (fun hc=>?_)))))))
  ·have hc27:=of_decide_eq_true hc;clear hc
   obtain ⟨t,ht⟩:∃ t,(outs L p)[z]?=some t:=⟨_,List.getElem?_eq_getElem (by omega)⟩
   obtain ⟨b,off,haa,hcs⟩:=(hOut (hS.keep K (fun q hq=>by simp [hq])) hKt p hpn).2 z t ht
   have k1:=hcs
   refine aO (XF.thenN (aC (aL (aC (aG ?_)))))
   refine aS (j:=z) (b:=b) (o:=off) (m:=(outs L p).length) (c:=vc p) underlying22 sizeOf57 (by show some (Value.slice _ _ _)=_;rw [haa]) rfl rfl (by omega) rfl rfl ?_
   refine aM (vs:=[_,_,_]) isAgg57 sizeOf57 rfl k1 rfl (bH (cs:=[_,_,_]) hS zeroValue57 rfl rfl fun B1 W1 hS=>bI (i:=0) (vs:=[_,_,_]) (cs':=[_,_,_]) (O':=(_::_::_::Ot)) hS sizeOf57 rfl rfl rfl rfl rfl rfl rfl fun W2 hS=>aF (XF.thenN (aC (aG (aH (o':=1) eC rfl rfl rfl (aI isAgg3 rfl (aE (hS.at_ 0 rfl) rfl) rfl (aA rfl rfl (dZ rfl rfl rfl (aA rfl rfl (bM (d:=34) rfl (fun hc=>?_) (fun hc=>?_)))))))))))
   ·have hg34:=of_decide_eq_true hc;clear hc
    refine aJ (d:=34) rfl rfl rfl rfl (aJ (d:=34) rfl rfl rfl rfl (aJ (d:=34) rfl rfl rfl rfl (aR rfl rfl rfl (aF (XF.thenN (cT rfl (aG (aA rfl rfl (aH (o':=2) eO rfl rfl rfl (aI isAgg3 rfl (aE (hS.at_ 0 rfl) rfl) rfl (bC (us:=[(0,.int .i64 _)]) hS underlying25 sizeOf3 zeroValue3 rfl rfl rfl (dM _) rfl fun B3 W3 hS=>?_)))))))))))
    refine eD (i:=0) (news:=[_]) hS underlying25 kA rfl rfl (by show 0 < 1;decide) rfl rfl rfl rfl rfl (aK.own (j:=0) (m:=1) (hS.at_ 0 rfl) rfl) rfl rfl (by dsimp only;simp only [maxLen];omega) (by dsimp only;show _ * 8≤_;omega) rfl fun v4 W4 hS=>?_
    obtain ⟨wa9,wc9,e9,_⟩:=cN (hS.row 0 rfl)
    dsimp only at e9
    subst e9
    refine aB rfl rfl (aF (XF.blkN (XF.thenN (aG (aV rfl rfl (IntWalk.i64_in _ (by omega)) rfl (aA rfl rfl (aF ?_)))))))
    have hS9:=hS.tail.tail.castG (G':=(⟨.slice wa9 (ml+1) wc9,(ml+1),zI (tos++[t.q]),3,1⟩::G)) (by show GR.mk _ _ (zI tos++[Value.int .i64 _]) _ _::_=_;rw [lT])
    exact XF.round ((outs L p).length - (z+1)) [(0,_),(1,_),(7,_),(12,_),(13,_),(14,_),(24,_),(25,_),(26,_)] (by omega) ⟨rfl,rfl,rfl,rfl,rfl,rfl,rfl,rfl,rfl,trivial⟩ ⟨z+1,ml+1,wa9,wc9,tos++[t.q],by omega,rfl,rfl,by simp [htl],by omega,hto.yes ht (.inl (by simpa using hg34)),hS9.keep K (fun q hq=>by simp [hq])⟩
   ·have hg34:=of_decide_eq_false hc;clear hc
    refine aD (d:=34) rfl rfl (aH (o':=1) eC rfl rfl rfl (aD (d:=34) rfl rfl (aI isAgg3 rfl (aE (hS.at_ 0 rfl) rfl) rfl (aD (d:=34) rfl rfl (dZ rfl rfl rfl (aW rfl rfl rfl (aF (XF.thenN (bA rfl (fun hc=>?_) (fun hc=>?_))))))))))
    ·have hc38:=of_decide_eq_true hc;clear hc
     refine aG (aA rfl rfl (aH (o':=2) eO rfl rfl rfl (aI isAgg3 rfl (aE (hS.at_ 0 rfl) rfl) rfl (bC (us:=[(0,.int .i64 _)]) hS underlying25 sizeOf3 zeroValue3 rfl rfl rfl (dM _) rfl fun B5 W5 hS=>?_))))
     refine eD (i:=0) (news:=[_]) hS underlying25 kA rfl rfl (by show 0 < 1;decide) rfl rfl rfl rfl rfl (aK.own (j:=0) (m:=1) (hS.at_ 0 rfl) rfl) rfl rfl (by dsimp only;simp only [maxLen];omega) (by dsimp only;show _ * 8≤_;omega) rfl fun v6 W6 hS=>?_
     obtain ⟨wa9,wc9,e9,_⟩:=cN (hS.row 0 rfl)
     dsimp only at e9
     subst e9
     refine aB rfl rfl (aF (XF.blkN (XF.thenN (aG (aV rfl rfl (IntWalk.i64_in _ (by omega)) rfl (aA rfl rfl (aF ?_)))))))
     have hS9:=hS.tail.tail.castG (G':=(⟨.slice wa9 (ml+1) wc9,(ml+1),zI (tos++[t.q]),3,1⟩::G)) (by show GR.mk _ _ (zI tos++[Value.int .i64 _]) _ _::_=_;rw [lT])
     exact XF.round ((outs L p).length - (z+1)) [(0,_),(1,_),(7,_),(12,_),(13,_),(14,_),(24,_),(25,_),(26,_)] (by omega) ⟨rfl,rfl,rfl,rfl,rfl,rfl,rfl,rfl,rfl,trivial⟩ ⟨z+1,ml+1,wa9,wc9,tos++[t.q],by omega,rfl,rfl,by simp [htl],by omega,hto.yes ht (.inr (by simpa using hc38)),hS9.keep K (fun q hq=>by simp [hq])⟩
    ·have hc38:=of_decide_eq_false hc;clear hc
     refine aO (XF.blkN (XF.thenN (aG (aV rfl rfl (IntWalk.i64_in _ (by omega)) rfl (aA rfl rfl (aF ?_))))))
     exact XF.round ((outs L p).length - (z+1)) [(0,_),(1,_),(7,_),(12,_),(13,_),(14,_),(24,_),(25,_),(26,_)] (by omega) ⟨rfl,rfl,rfl,rfl,rfl,rfl,rfl,rfl,rfl,trivial⟩ ⟨z+1,ml,wa,wc,tos,by omega,rfl,rfl,htl,by omega,hto.no ht (fun h9=>h9.elim (fun h8=>absurd h8 (by simpa using hg34)) (fun h8=>absurd h8 (by simpa using hc38))),hS.tail.keep K (fun q hq=>by simp [hq])⟩
  ·have hc27:=of_decide_eq_false hc;clear hc
   obtain rfl:z=(outs L p).length:=by omega
   refine bS (XF.thenX (XF.thenX (XF.blkX (XF.blkN (XF.thenN (aG (aV rfl rfl (IntWalk.i64_in _ (by omega)) rfl (aA rfl rfl (aF ?_)))))))))
   exact XF.round (ll - (i+1)) [(0,_),(1,_),(7,_),(12,_),(13,_),(14,_)] (by omega) ⟨rfl,rfl,rfl,rfl,rfl,rfl,trivial⟩ ⟨i+1,ml,wa,wc,tos,by omega,rfl,rfl,htl,by omega,hto.next hp,hS.keep K (fun q hq=>by simp [hq])⟩
 ·have hc15:=of_decide_eq_false hc;clear hc
  obtain rfl:i=ll:=by omega
  have hib:i * 65536≤4096 * 65536:=Nat.mul_le_mul_right _ (by omega)
  have hto9:ToK L x lp lp.length 0 0 tos:=by rw [hll];exact hto
  obtain ⟨K1,k1,g1,hS1⟩:=St.rowKeepN (o:=⟨.slice wa ml wc,ml,zI tos⟩) (hS.keep K (fun q hq=>by simp [hq]))
  clear hS;have hS:=hS1;clear hS1
  refine bS (XF.thenX (XF.thenX (XF.blkX (XF.thenN (aC (aG (aA rfl rfl (aA rfl rfl ?_))))))))
  refine aP (vs:=[_,_]) fG rfl (kD n L OB va vc RB SB r0 r s9 wa ml wc tos K1 Ot G K1 w0 _ (hS.keep K1 (fun q hq=>by simp [hq])) (fun q hq=>hq) (hOut.moreN (fun q hq=>k1 q (hKt q hq))) (fun h9 hk9=>gJ (g1 h9 hk9)) htl (by omega) (fun y hy=>(by obtain ⟨t,h1,h2⟩:=hto9.inL hy;have:=hq t h1;omega)) hq hLl hs9 hr hfr hn4) rfl ?_
  rintro e W9 ⟨l2,wa2,wc2,ss2,hH,rfl,hle2,hsl2,hsf2,hS9⟩
  refine ⟨_,rfl,?_⟩
  clear hS;have hS:=hS9;clear hS9
  refine aB rfl rfl (aF (XF.thenN (bK (XF.res (bY results30 rfl) ?_))))
  exact ⟨l2,wa2,wc2,ss2,K1,hH.congr hto9.end_,rfl,hle2,hsl2,hsf2,k1,hS.keep K1 (fun q hq=>by simp [hq])⟩
theorem sJ (n:Nat) (L:List ArV) (OB:Nat) (va:Nat→Option Addr) (vc:Nat→Nat) (RB SB:Nat) (r0 r:Int) (s9:List Int) (la:Option Addr) (ll lc:Nat) (lp:List Nat) (x:Int) (Kt:List (Nat×World)) (Ot:Own) (G:aQ) (K:List (Nat×World)) (w0 w:World) (hS0:St w0 ((RB,[.slice (some ⟨OB,0,none⟩) n n,.slice (some ⟨SB,0,none⟩) n n,.int .i64 r0],73)::(SB,zI s9,3)::Ot) G K w) (hKt:∀ q∈Kt,q∈K) (hOut:bJ w0 Kt (fun W=>iF W OB n L va vc)) (hLs:bJ w0 Kt (fun W=>Row W la (nI lp))) (hll:lp.length=ll) (hln:ll≤n) (hlt:∀ p∈lp,p < n) (hq:∀ t∈L,0≤t.q∧t.q < (n:Int)) (hLl:L.length≤65536) (hs9:s9.length=n) (hr:IntKind.i64.wrap (r0+1)=r) (hfr:∀ x∈s9,x≠r) (hn4:n≤4096) :
  Calls prog 30 #[.pointer (some ⟨RB,0,none⟩),.int .i64 x,.slice la ll lc] w (fun e w'=>∃ (l:List Nat) (wa:Option Addr) (wc:Nat) (ss2:List Int) (Kn:List (Nat×World)),IsH L (By9 L x (fun q=>q∈lp)) l∧e = .returned (.slice wa l.length wc)∧l.length≤n∧ss2.length=n∧(∀ x∈ss2,x∈s9∨x=r)∧(∀ q∈K,q∈Kn)∧bJ w0 Kn (fun W=>Row W wa (nI l))∧St w0 ((RB,[.slice (some ⟨OB,0,none⟩) n n,.slice (some ⟨SB,0,none⟩) n n,.int .i64 r],73)::(SB,zI ss2,3)::Ot) G Kn w'):=by
 refine (iT n L OB va vc RB SB r0 r s9 la ll lc lp x Kt Ot G K w0 w hS0 hKt hOut hLs hll hln hlt hq hLl hs9 hr hfr hn4).mono ?_
 rintro e w1 ⟨l,wa,wc,ss,K2,hH,rfl,h1,h2,h3,k2,hS⟩
 obtain ⟨K1,k1,g1,hS1⟩:=St.rowKeepN (o:=⟨.slice wa l.length wc,l.length,zI (nI l)⟩) hS
 exact ⟨l,wa,wc,ss,K1,hH,rfl,h1,h2,h3,fun q hq=>k1 q (k2 q hq),fun h9 hk9=>gJ (g1 h9 hk9),hS1⟩
theorem pG:aZ prog 23=true:=by kernel_rfl
theorem iH:aZ prog 24=true:=by kernel_rfl
theorem pH:aZ prog 29=true:=by kernel_rfl
theorem lU:aZ prog 30=true:=by kernel_rfl
def qK (a:NfV) (x:Int) (l:List Int):Int:=if cR a l≠0 then cR a l else if inQ x a.sy=true then 0 else 102
theorem eY {a:NfV} {l:List Int} (h:cR a l=0):dH a=0∧∀ y∈l,0≤y∧y < a.st:=by
 unfold cR at h
 split at h
 ·rename_i h1;exact absurd h h1
 ·split at h
  ·rename_i h1 h2
   refine ⟨Decidable.of_not_not h1,fun y hy=>?_⟩
   have:=List.all_eq_true.1 h2 y hy
   unfold inQ at this
   simpa using this
  ·cases h
theorem iU {n:Nat} {r:Int} (h:r≠0):∀ x∈List.replicate n (0:Int),x≠r:=fun x hx e=>h (by rw [← e];exact List.eq_of_mem_replicate hx)
theorem gB {L:List ArV} {x:Int} {P R:Nat→Prop} (h:∀ q,P q↔R q) (q:Nat):By9 L x P q↔By9 L x R q:=⟨By9.mono fun q h1=>(h q).1 h1,By9.mono fun q h1=>(h q).2 h1⟩
theorem kR {n:Nat} {k:Int} {L:List ArV} (h:fK n k L):∀ t∈L,0≤t.q∧t.q < (n:Int):=fun t ht=>(h t ht).2.1
theorem kE (a:NfV) (la:Option Addr) (ll lc:Nat) (ls:List Int) (Kt:List (Nat×World)) (Ot:Own) (G:aQ) (K:List (Nat×World)) (w0 w:World) (hS0:St w0 Ot G K w) (hKt:∀ q∈Kt,q∈K) (hA:bJ w0 Kt (fun W=>NIn W a)) (hLs:bJ w0 Kt (fun W=>Row W la ls)) (hll:ls.length=ll) (hlm:ll≤9223372036854775807) :
  Calls prog 8 #[a.val,.slice la ll lc] w (fun e w'=>∃ (l:List Nat) (wa:Option Addr) (wc:Nat) (Kn:List (Nat×World)),(cR a ls=0→IsH a.ar (fun q:Nat=>(q:Int)∈ls) l∧l.length≤4096)∧(cR a ls≠0→l=[])∧e = .returned (.tuple #[.slice wa l.length wc,.int .i64 (cR a ls)])∧(∀ q∈K,q∈Kn)∧bJ w0 Kn (fun W=>Row W wa (nI l))∧St w0 Ot G Kn w'):=by
 refine bD (args:=[a.val,.slice la ll lc]) func8 rfl ntmps8 rfl ?_
 have hS:=hS0
 refine aC (aG (bZ (cs:=[_,_,_,_,_]) hS rfl rfl rfl fun B1 W1 hS=>aB rfl rfl (aB rfl rfl (aF (XF.thenN (aC (aC (aG (aM (vs:=[_,_,_,_,_]) isAgg24 sizeOf24 rfl (aK.own (j:=0) (m:=5) (hS.at_ 0 rfl) rfl) rfl (aA rfl rfl (aP (vs:=[_,_]) pG rfl (kB a la ll lc ls _ (hA (hS.keep K (fun q hq=>by simp [hq])) hKt) (hLs (hS.keep K (fun q hq=>by simp [hq])) hKt) hll hlm) rfl ?_)))))))))))
 rintro e W9 ⟨rfl,hb9⟩
 refine ⟨_,rfl,?_⟩
 have hS':=hS.grow hb9;clear hS;have hS:=hS';clear hS'
 refine aB rfl rfl (aF (XF.thenN (aC (aG (aA rfl rfl (fB rfl rfl rfl (aF (XF.thenN (bA rfl (fun hc=>?_) (fun hc=>?_))))))))))
 ·have hc11:=of_decide_eq_true hc;clear hc
  refine aC (aG (aA rfl rfl (aB rfl rfl (aB rfl rfl (aF (XF.thenN (bK (XF.thenR (XF.res (kM results8 rfl rfl) ?_)))))))))
  exact ⟨[],none,0,K,fun h=>absurd h hc11,fun _=>rfl,rfl,fun q hq=>hq,fun _ _=>.inl rfl,(hS.keep K (fun q hq=>by simp [hq])).tail⟩
 ·have hc11:=of_decide_eq_false hc;clear hc
  have h0:cR a ls=0:=Decidable.of_not_not hc11
  obtain ⟨n,k,s,e9,hn,hk,hs0,he0,hn1,hn4,hk4,hsn,hen,hal,hO⟩:=gG (eY h0).1
  have hlen:=(hA (hS.keep K (fun q hq=>by simp [hq])) hKt).alen
  have hw1:IntKind.i64.wrap (0+1)=1:=by decide
  refine aO (XF.thenN (aC (aG (aM (vs:=[_,_,_,_,_]) isAgg24 sizeOf24 rfl (aK.own (j:=0) (m:=5) (hS.at_ 0 rfl) rfl) rfl (aP (vs:=[_]) iH rfl (iG a n (k:Int) Kt _ _ K w0 _ (hS.keep K (fun q hq=>by simp [hq])) hKt hA hn hn1 hn4 hal hO) rfl ?_)))))
  rintro e W9 ⟨RB,SB,OB,va,vc,K1,rfl,hk1,hOut,hS9⟩
  refine ⟨_,rfl,?_⟩
  clear hS;have hS:=hS9;clear hS9
  refine aA rfl rfl ?_
  refine aP (vs:=[_,_]) fG rfl (eE n a.ar OB va vc RB SB 0 1 (List.replicate n 0) la ll lc ls K1 _ G K1 w0 _ (hS.keep K1 (fun q hq=>by simp [hq])) (fun q hq=>hq) hOut (hLs.moreN (fun q hq=>hk1 q (hKt q hq))) hll hlm (fun y hy=>(by have:=(eY h0).2 y hy;omega)) (kR hO) (by omega) (by simp) hw1 (iU (by decide)) hn4) rfl ?_
  rintro e W9 ⟨l1,wa1,wc1,ss1,K2,hH1,rfl,hle1,hsl1,hsf1,hk2,hR1,hS9⟩
  refine ⟨_,rfl,?_⟩
  clear hS;have hS:=hS9;clear hS9
  refine aB rfl rfl (aB rfl rfl (aF (XF.thenN (bK (XF.res (kM results8 rfl rfl) ?_)))))
  exact ⟨l1,wa1,wc1,K2,fun _=>⟨hH1,by omega⟩,fun h=>absurd h0 h,by rw [h0],fun z hz=>hk2 z (hk1 z hz),hR1,(hS.keep K2 (fun q hq=>by simp [hq])).tail.tail.tail⟩
theorem iI (v0:Int) (v1:Int) (v2:Int):prog.built 57 [(0,.int .i64 v0),(1,.int .i64 v1),(2,.int .i64 v2)]=some #[.int .i64 v0,.int .i64 v1,.int .i64 v2]:=by kernel_rfl
theorem goes_52:aZ prog 52=true:=by kernel_rfl
theorem jF.app {W:World} {aa:Option Addr} {L:List ArV} {al:Nat} (h:jF W aa L) (hl:L.length=al):(aa=none∧al=0)∨∃ p,aa=some p∧∀ (j:Nat) u,(L.flatMap ArV.three)[j]?=some u→W.cell? (p.add j)=some u:=by
 cases aa with
 | none =>
  refine .inl ⟨rfl,?_⟩
  cases L with
  | nil=>exact hl.symm
  | cons r L=>obtain ⟨b,off,e,_⟩:=h 0 r rfl;cases e
 | some p =>
  refine .inr ⟨p,rfl,fun j u hj=>?_⟩
  have hlen:(L.flatMap ArV.three).length=L.length * 3:=by
   rw [List.length_flatMap]
   show (L.map fun _=>3).sum=_
   rw [List.map_const',List.sum_replicate_nat]
  have hj3:j < L.length * 3:=by rw [← hlen];exact (List.getElem?_eq_some_iff.1 hj).1
  obtain ⟨r,hr⟩:∃ r,L[j / 3]?=some r:=⟨_,List.getElem?_eq_getElem (by omega)⟩
  have hk:j % 3 < 3:=Nat.mod_lt _ (by omega)
  have hd:j / 3 * 3+j % 3=j:=Nat.div_add_mod' _ _
  have h3:=gA L (j / 3) (j % 3) hr hk
  rw [hd,hj] at h3
  obtain ⟨b,off,e,hc⟩:=h _ r hr
  have h4:=hc.get (j % 3) u h3.symm
  obtain rfl:p=⟨b,off,none⟩:=by injection e
  rw [Addr.add_lit]
  rw [← hd,← Nat.add_assoc];exact h4
theorem gX {L:List ArV}:(L.flatMap ArV.three).length=L.length * 3:=by
 rw [List.length_flatMap]
 show (L.map fun _=>3).sum=_
 rw [List.map_const',List.sum_replicate_nat]
theorem nT {L:List ArV}:∀ u∈L.flatMap ArV.three,u.oneCell'=true:=fun u hu=>by
 obtain ⟨r,_,h⟩:=List.mem_flatMap.1 hu
 simp at h
 rcases h with rfl | rfl | rfl<;>rfl
theorem mW {a:Option Addr} {m c:Nat} {L:List ArV} {W:World} (h:kC ⟨.slice a m c,m,L.flatMap ArV.three⟩ W):jF W a L:=fun i r hi=>by
 obtain ⟨a2,c2,e,hc,hx⟩:=h
 dsimp only at e hx
 obtain rfl:a=a2:=by injection e
 have h3:∀ (j:Nat) v,r.three[j]?=some v→(L.flatMap ArV.three)[i * 3+j]?=some v:=fun j v hj=>by
  rw [gA _ i j hi (List.getElem?_eq_some_iff.1 hj).1];exact hj
 obtain ⟨b,rfl,_⟩:=hx (i * 3+0) _ (h3 0 _ rfl)
 refine ⟨b,0,rfl,aK.of fun j v hj=>?_⟩
 obtain ⟨b2,e9,h9⟩:=hx _ _ (h3 j v hj)
 obtain rfl:b=b2:=by simpa using e9
 rw [Nat.add_assoc];exact h9
def eP (L:List ArV) (i:Nat):List ArV:=(L.take i).map ArV.flip++L.drop i
theorem qL {L:List ArV} {i:Nat}:(eP L i).length=L.length:=by unfold eP;simp;omega
theorem sK {L:List ArV} {i:Nat} {t:ArV} (h:L[i]?=some t):(eP L i)[i]?=some t:=by
 unfold eP
 have hi:=(List.getElem?_eq_some_iff.1 h).1
 rw [List.getElem?_append_right (by simp;omega),List.getElem?_drop]
 simp only [List.length_map,List.length_take]
 rw [show i+(i - min i L.length)=i by omega];exact h
theorem qM {L:List ArV} {i:Nat} {t:ArV} (h:L[i]?=some t):bP ((eP L i).flatMap ArV.three) (0+i * 3) t.flip.three=(eP L (i+1)).flatMap ArV.three:=by
 have hi:=(List.getElem?_eq_some_iff.1 h).1
 have e1:eP L i=(L.take i).map ArV.flip++t::L.drop (i+1):=by
  unfold eP
  rw [List.drop_eq_getElem_cons hi]
  congr 2
  exact (List.getElem?_eq_some_iff.1 h).2
 have e2:eP L (i+1)=(L.take i).map ArV.flip++t.flip::L.drop (i+1):=by
  unfold eP
  rw [List.take_add_one,h];simp
 rw [e1,e2,List.flatMap_append,List.flatMap_append,List.flatMap_cons,List.flatMap_cons]
 have h9:=jC (((L.take i).map ArV.flip).flatMap ArV.three) t.three t.flip.three ((L.drop (i+1)).flatMap ArV.three) rfl
 rw [gX,List.length_map,List.length_take,Nat.min_eq_left (by omega)] at h9
 rw [Nat.zero_add,← List.append_assoc,← List.append_assoc]
 exact h9
theorem qN {L:List ArV}:eP L L.length=L.map ArV.flip:=by unfold eP;simp
theorem flip_ok {n:Nat} {k:Int} {L:List ArV} (h:fK n k L):fK n k (L.map ArV.flip):=fun t ht=>by
 obtain ⟨s,hs,rfl⟩:=List.mem_map.1 ht
 have:=h s hs
 exact ⟨this.2.1,this.1,this.2.2⟩
theorem qO (aa:Option Addr) (al ac:Nat) (L:List ArV) (Kt:List (Nat×World)) (Ot:Own) (G:aQ) (K:List (Nat×World)) (w0 w:World) (hS0:St w0 Ot G K w) (hKt:∀ q∈Kt,q∈K) (hA:bJ w0 Kt (fun W=>jF W aa L)) (hl:L.length=al) (hal:al≤65536) :
  Calls prog 52 #[.slice aa al ac] w (fun e w'=>∃ (wa:Option Addr) (wc:Nat),e = .returned (.slice wa al wc)∧St w0 Ot (⟨.slice wa al wc,al,L.flatMap ArV.three,57,3⟩::G) K w'):=by
 refine bD (args:=[.slice aa al ac]) func52 rfl ntmps52 rfl ?_
 have hS:=hS0
 have hA0:=hA hS0 hKt
 refine aC (aG (aB rfl rfl (aF (XF.thenN (aC (aC (aG (aA rfl rfl (opV (qE underlying22 rfl) rfl (aF (XF.thenN (bA rfl (fun hc=>?_) (fun hc=>?_)))))))))))))
 ·have hc4:=hc;clear hc
  have h0:aa=none:=by simpa using hc4
  subst h0
  obtain rfl:al=0:=(hA0.app hl).elim (fun h=>h.2) (fun ⟨p,e,_⟩=>absurd e (by simp))
  obtain rfl:L=[]:=List.eq_nil_of_length_eq_zero hl
  refine aC (aG (aB rfl rfl (aF (XF.thenN (bK (XF.thenR (XF.res (bY results52 rfl) ?_)))))))
  exact ⟨none,0,rfl,hS.newG 57 3⟩
 ·have hc4:=hc;clear hc
  refine aO (XF.thenN (aC (aG (qD hS underlying22 sizeOf57 rfl fun v1 W1 hS=>aA rfl rfl ?_))))
  refine nH (i:=0) (news:=(L.flatMap ArV.three)) hS underlying22 nS rfl rfl (by show 0 < 3;decide) rfl rfl rfl rfl rfl ((hA (hS.keep K (fun q hq=>by simp [hq])) hKt).app hl) (by rw [gX,hl];exact rfl) (nT) (by dsimp only;simp only [maxLen];omega) (by dsimp only;show _ * 24≤_;omega) rfl fun v2 W2 hS=>?_
  have hlen9:=hl
  obtain ⟨wa9,wc9,e9,_⟩:=cN (hS.row 0 rfl)
  dsimp only at e9
  subst e9
  refine aB rfl rfl (aF (XF.thenN (bK (XF.res (bY results52 rfl) ?_))))
  have hS9:=hS.castG (G':=(⟨.slice wa9 al wc9,al,L.flatMap ArV.three,57,3⟩::G)) (by show GR.mk _ _ ([]++_) _ _::_=_;simp)
  exact ⟨wa9,wc9,by simp,hS9.keep K (fun q hq=>by simp [hq])⟩
theorem nU (st sy s0 e0:Int) (aa:Option Addr) (al ac:Nat) (L:List ArV) (Kt:List (Nat×World)) (Ot:Own) (G:aQ) (K:List (Nat×World)) (w0 w:World) (hS0:St w0 Ot G K w) (hKt:∀ q∈Kt,q∈K) (hA:bJ w0 Kt (fun W=>jF W aa L)) (hl:L.length=al) (hal:al≤65536) :
  Calls prog 43 #[.agg #[.int .i64 st,.int .i64 sy,.int .i64 s0,.int .i64 e0,.slice aa al ac]] w (fun e w'=>∃ (wa:Option Addr) (wc:Nat),e = .returned (NfV.val ⟨st,sy,e0,s0,wa,al,wc,L.map ArV.flip⟩)∧St w0 Ot (⟨.slice wa al wc,al,(L.map ArV.flip).flatMap ArV.three,57,3⟩::G) K w'):=by
 refine bD (args:=[.agg #[.int .i64 st,.int .i64 sy,.int .i64 s0,.int .i64 e0,.slice aa al ac]]) func43 rfl ntmps43 rfl ?_
 have hS:=hS0
 refine aC (aG (bZ (cs:=[_,_,_,_,_]) hS rfl rfl rfl fun B1 W1 hS=>bH (cs:=[_,_,_,_,_]) hS zeroValue24 rfl rfl fun B2 W2 hS=>aF (XF.thenN (aC (aG (aH (o':=3) eA rfl rfl rfl (aI isAgg3 rfl (aE (hS.at_ 1 rfl) rfl) rfl (aH (o':=2) dN rfl rfl rfl (aI isAgg3 rfl (aE (hS.at_ 1 rfl) rfl) rfl (aH (o':=2) dN rfl rfl rfl (bO (i:=1) (cs':=[_,_,_,_,_]) (O':=(_::_::Ot)) hS sizeOf3 rfl rfl rfl rfl rfl rfl rfl fun W3 hS=>aH (o':=3) eA rfl rfl rfl (bO (i:=1) (cs':=[_,_,_,_,_]) (O':=(_::_::Ot)) hS sizeOf3 rfl rfl rfl rfl rfl rfl rfl fun W4 hS=>aF (XF.thenN (aC (aG (aH (o':=4) dR rfl rfl rfl (aI isAgg22 rfl (aE (hS.at_ 1 rfl) rfl) rfl (aP (vs:=[_]) goes_52 rfl (qO aa al ac L Kt _ G K w0 _ (hS.keep K (fun q hq=>by simp [hq])) hKt hA hl hal) rfl ?_))))))))))))))))))
 rintro e W9 ⟨wa,wc,rfl,hS9⟩
 refine ⟨_,rfl,?_⟩
 clear hS;have hS:=hS9;clear hS9
 refine aH (o':=4) dR rfl rfl rfl (bO (i:=1) (cs':=[_,_,_,_,_]) (O':=(_::_::Ot)) hS sizeOf22 rfl rfl rfl rfl rfl rfl rfl fun W5 hS=>aF (XF.thenN (aC (aC (aG (aH (o':=4) dR rfl rfl rfl (aI isAgg22 rfl (aE (hS.at_ 1 rfl) rfl) rfl (bF underlying22 rfl rfl (aA rfl rfl (aF (XF.thenN (aL (cD (fun m l W=>∃ (i:Nat),i≤al∧m=al - i∧l=[(1,.pointer (some ⟨B1,0,none⟩)),(2,.pointer (some ⟨B2,0,none⟩)),(16,.slice wa al wc),(17,.int .i64 (al:Int)),(18,.int .i64 (i:Int))]∧St w0 ((B2,[.int .i64 0,.int .i64 0,.int .i64 0,.int .i64 0,.slice none 0 0],24)::(B1,[.int .i64 st,.int .i64 sy,.int .i64 e0,.int .i64 s0,.slice wa al wc],24)::Ot) (⟨.slice wa al wc,al,(eP L i).flatMap ArV.three,57,3⟩::G) K W) (al - 0) ([(1,_),(2,_),(16,_),(17,_),(18,_)]) ⟨rfl,rfl,rfl,rfl,rfl,trivial⟩ (⟨0,Nat.zero_le _,rfl,rfl,hS.keep K (fun q hq=>by simp [hq])⟩) ?_)))))))))))))
 clear hS
 rintro m l W ⟨i,hi,rfl,rfl,hS⟩
 refine aC (aG (bG rfl rfl rfl (aF (XF.thenN (aC (bA rfl (fun hc=>?_) (fun hc=>?_)))))))
 ·have hc19:=of_decide_eq_true hc;clear hc
  obtain ⟨t,ht⟩:∃ t,L[i]?=some t:=⟨_,List.getElem?_eq_getElem (by omega)⟩
  obtain ⟨cb,rfl⟩:=iA (hS.row 0 rfl) (by omega)
  have k1:aK W cb (0+i * 3) t.three:=aK.of fun j v hj=>eM (hS.row 0 rfl) (by dsimp only;rw [Nat.zero_add,gA _ i j (sK ht) (List.getElem?_eq_some_iff.1 hj).1];exact hj)
  refine aO (XF.thenN (aC (aL (aC (aG (aA rfl rfl (aS (j:=i) (b:=cb) (o:=0) (m:=al) (c:=wc) underlying22 sizeOf57 rfl rfl rfl (by omega) rfl rfl (aM (vs:=[_,_,_]) isAgg57 sizeOf57 rfl k1 rfl (bH (cs:=[_,_,_]) hS zeroValue57 rfl rfl fun B6 W6 hS=>aB rfl rfl (bI (i:=0) (vs:=[_,_,_]) (cs':=[_,_,_]) (O':=(_::_::_::Ot)) hS sizeOf57 rfl rfl rfl rfl rfl rfl rfl fun W7 hS=>aF (XF.thenN (aG (aH (o':=4) dR rfl rfl rfl (aI isAgg22 rfl (aE (hS.at_ 2 rfl) rfl) rfl (aA rfl rfl (aH (o':=2) eO rfl rfl rfl (aI isAgg3 rfl (aE (hS.at_ 0 rfl) rfl) rfl (aH (o':=1) eC rfl rfl rfl (aI isAgg3 rfl (aE (hS.at_ 0 rfl) rfl) rfl (aH (o':=0) jI rfl rfl rfl ?_))))))))))))))))))))
  refine aI isAgg3 rfl (aE (hS.at_ 0 rfl) rfl) rfl (dB (us:=[(0,.int .i64 _),(1,.int .i64 _),(2,.int .i64 _)]) rfl (iI _ _ _) rfl (aS (j:=i) (b:=cb) (o:=0) (m:=al) (c:=wc) underlying22 sizeOf57 rfl rfl rfl (by omega) rfl rfl ?_))
  refine mP (vs:=t.flip.three) (xs':=(eP L (i+1)).flatMap ArV.three) hS sizeOf57 rfl rfl rfl (by omega) (by rw [gX,qL];show 0+i * 3+3≤_;omega) (qM ht) fun W94 hS=>?_
  refine aF (XF.blkN (XF.thenN (aG (aV rfl rfl (IntWalk.i64_in _ (by omega)) rfl (aA rfl rfl (aF ?_))))))
  exact XF.round (al - (i+1)) [(1,_),(2,_),(16,_),(17,_),(18,_)] (by omega) ⟨rfl,rfl,rfl,rfl,rfl,trivial⟩ ⟨i+1,by omega,rfl,rfl,hS.tail.keep K (fun q hq=>by simp [hq])⟩
 ·have hc19:=of_decide_eq_false hc;clear hc
  obtain rfl:i=L.length:=by omega
  rw [qN] at hS
  refine bS (XF.thenX (XF.thenX (XF.blkX (XF.thenN (aC (aG (aM (vs:=[_,_,_,_,_]) isAgg24 sizeOf24 rfl (aK.own (j:=0) (m:=5) (hS.at_ 1 rfl) rfl) rfl (bI (i:=0) (vs:=[_,_,_,_,_]) (cs':=[_,_,_,_,_]) (O':=(_::_::Ot)) hS sizeOf24 rfl rfl rfl rfl rfl rfl rfl fun W8 hS=>aF (XF.thenN (bK (XF.res (resC1 (vs:=[_,_,_,_,_]) results43 isAgg24 sizeOf24 rfl (aK.own (j:=0) (m:=5) (hS.at_ 0 rfl) rfl)) ?_)))))))))))
  exact ⟨wa,wc,rfl,(hS.keep K (fun q hq=>by simp [hq])).tail.tail⟩
theorem goes_50:aZ prog 50=true:=by kernel_rfl
theorem sM {k:Int} (h1:0≤k) (h2:k≤9223372036854775808):IntKind.i64.wrap k=k∨IntKind.i64.wrap k < 0:=by
 rcases (by omega:k=9223372036854775808∨k≤9223372036854775807) with rfl | h
 ·right;decide
 ·left;exact IntWalk.i64_in _ (by omega)
def dO (a:NfV) (ws:List Int):Int:=if dH a≠0 then dH a else if ws.all (fun s=>inQ s a.sy)=true then 0 else 102
def AccN (a:NfV) (ws:List Int):Prop:=dV a.ar (Hd a.ar (fun q=>(q:Int)=a.s0)) ws a.e0.toNat
theorem dC {L:List ArV} {P R:Nat→Prop} (h:∀ q,P q↔R q) (q:Nat):Hd L P q↔Hd L R q:=⟨Hd.mono fun q h1=>(h q).1 h1,Hd.mono fun q h1=>(h q).2 h1⟩
theorem kF {w:World} {a:NfV} (h:NIn w a):bJ w [] (fun W=>NIn W a):=fun h9 _=>h.below h9.below
theorem qP (a:Option Addr) (n c:Nat) (xs:List Int) (y:Int) (w:World) (hA:Row w a xs) (hn:xs.length=n) (hmx:n≤9223372036854775807) :
  Calls prog 50 #[.slice a n c,.int .i64 y] w (fun e w'=>∃ j:Int,e = .returned (.int .i64 j)∧(0≤j↔y∈xs)∧Below w.heap.size w w'):=by
 refine bD (args:=[.slice a n c,.int .i64 y]) func50 rfl ntmps50 rfl ?_
 have hS:=St.start w
 refine aC (aG (aB rfl rfl (aF (XF.thenN (aC (aC (aG (aA rfl rfl (bF underlying25 rfl rfl (aA rfl rfl (aF (XF.thenN (aL (cD (fun m l W=>∃ i:Nat,i≤n∧m=n - i∧l=[(0,.slice a n c),(1,.int .i64 y),(7,.int .i64 (n:Int)),(8,.int .i64 (i:Int))]∧y∉xs.take i∧St w [] [] [] W) (n - 0) ([(0,_),(1,_),(7,_),(8,_)]) ⟨rfl,rfl,rfl,rfl,trivial⟩ (⟨0,Nat.zero_le _,rfl,rfl,by simp,hS.clear⟩) ?_))))))))))))))
 clear hS
 rintro m l W ⟨i,hi,rfl,rfl,hno,hS⟩
 refine aC (aG (bG rfl rfl rfl (aF (XF.thenN (aC (bA rfl (fun hc=>?_) (fun hc=>?_)))))))
 ·have hc9:=of_decide_eq_true hc;clear hc
  obtain ⟨b,off,z,rfl,hz,hzc⟩:=hA.at1 (show i < xs.length by omega)
  have k2:=hS.old hzc
  refine aO (XF.thenN (aC (aL (aC (aG (aA rfl rfl (aB rfl rfl (aF (XF.thenN (aC (aG (aA rfl rfl (aA rfl rfl (aA rfl rfl (aS  underlying25 sizeOf3 rfl rfl rfl (by omega) rfl rfl (aI isAgg3 rfl (k2) rfl (dZ rfl rfl rfl (aF (XF.thenN (bA rfl (fun hc=>?_) (fun hc=>?_)))))))))))))))))))))
  ·have hc16:=of_decide_eq_true hc;clear hc
   refine aC (aG (aA rfl rfl (aB rfl rfl (aF (XF.thenN (bK (XF.blkR (XF.thenR (XF.thenR (XF.blkR (XF.thenR (XF.res (bY results50 rfl) ?_))))))))))))
   have hyz:y=z:=by simpa using hc16
   exact ⟨_,rfl,⟨fun _=>by rw [hyz];exact List.mem_of_getElem? hz,fun _=>by omega⟩,hS.below⟩
  ·have hc16:=of_decide_eq_false hc;clear hc
   refine aO (XF.blkN (XF.thenN (aG (aV rfl rfl (IntWalk.i64_in _ (by omega)) rfl (aA rfl rfl (aF ?_))))))
   have hyz:¬ y=z:=by simpa using hc16
   exact XF.round (n - (i+1)) [(0,_),(1,_),(7,_),(8,_)] (by omega) ⟨rfl,rfl,rfl,rfl,trivial⟩ ⟨i+1,by omega,rfl,rfl,by rw [List.take_add_one,hz];simp [hno,hyz],hS.clear⟩
 ·have hc9:=of_decide_eq_false hc;clear hc
  rw [List.take_of_length_le (by omega)] at hno
  refine bS (XF.thenX (XF.thenX (XF.blkX (XF.thenN (aC (aG (aB rfl rfl (aF (XF.thenN (bK (XF.res (bY results50 rfl) ?_)))))))))))
  exact ⟨_,rfl,⟨fun h=>absurd h (by decide),fun h=>absurd h hno⟩,hS.below⟩
theorem lV (a:Option Addr) (n c:Nat) (xs:List Int) (y:Int) (w:World) (hA:Row w a xs) (hn:xs.length=n) (hmx:n≤9223372036854775807) :
  Calls prog 36 #[.slice a n c,.int .i64 y] w (fun e w'=>e = .returned (.bool (decide (y∈xs)))∧Below w.heap.size w w'):=by
 refine bD (args:=[.slice a n c,.int .i64 y]) func36 rfl ntmps36 rfl ?_
 have hS:=St.start w
 refine aC (aG (aB rfl rfl (aF (XF.thenN (aC (aG (aA rfl rfl (aA rfl rfl (aP (vs:=[_,_]) goes_50 rfl (qP a n c xs y _ (hA.below hS.below) hn hmx) rfl ?_)))))))))
 rintro e W9 ⟨j,rfl,hj,hb9⟩
 refine ⟨_,rfl,?_⟩
 have hS':=hS.grow hb9;clear hS;have hS:=hS';clear hS'
 refine eQ rfl rfl rfl (aB rfl rfl (aF (XF.thenN (bK (XF.res (bY results36 rfl) ?_)))))
 exact ⟨eN (decide_eq_decide.2 hj),hS.below⟩
theorem goes_43:aZ prog 43=true:=by kernel_rfl
def InI (M:List ArV) (K:Int) (p:Nat) (gs az bs:List Int) (z:Nat):Prop:=(∀ y∈bs,y∈az∨∃ t∈(outs M p).take z,t.s ≠ -1∧0 < K∧y=t.q)∧(∀ y∈az,y∈bs)∧∀ t∈(outs M p).take z,t.s ≠ -1→0 < K→t.q∈bs∨0≤gs.getD t.q.toNat 0
section
variable {M L:List ArV} {K:Int} {p z:Nat} {gs az bs:List Int} {t:ArV}
theorem InI.start:InI M K p gs az az 0:=⟨fun y hy=>.inl hy,fun y hy=>hy,fun t ht=>by cases ht⟩
theorem InI.yes (h:InI M K p gs az bs z) (ht:(outs M p)[z]?=some t) (h1:t.s ≠ -1) (h2:0 < K):InI M K p gs az (bs++[t.q]) (z+1):=by
 refine ⟨fun y hy=>?_,fun y hy=>List.mem_append_left _ (h.2.1 y hy),fun t2 ht2 e1 e2=>?_⟩
 ·rw [List.take_add_one,ht]
  rcases List.mem_append.1 hy with hy | hy
  ·rcases h.1 y hy with h3 | ⟨t2,h3,h4⟩
   ·exact .inl h3
   ·exact .inr ⟨t2,List.mem_append_left _ h3,h4⟩
  ·exact .inr ⟨t,List.mem_append_right _ (by simp),h1,h2,by simpa using hy⟩
 ·rw [List.take_add_one,ht] at ht2
  rcases List.mem_append.1 ht2 with h3 | h3
  ·exact (h.2.2 t2 h3 e1 e2).imp (fun h=>List.mem_append_left _ h) id
  ·obtain rfl:t2=t:=by simpa using h3
   exact .inl (List.mem_append_right _ (by simp))
theorem InI.no (h:InI M K p gs az bs z) (ht:(outs M p)[z]?=some t) (h1:t.s ≠ -1→0 < K→0≤gs.getD t.q.toNat 0):InI M K p gs az bs (z+1):=by
 refine ⟨fun y hy=>?_,h.2.1,fun t2 ht2 e1 e2=>?_⟩
 ·rw [List.take_add_one,ht]
  rcases h.1 y hy with h3 | ⟨t2,h3,h4⟩
  ·exact .inl h3
  ·exact .inr ⟨t2,List.mem_append_left _ h3,h4⟩
 ·rw [List.take_add_one,ht] at ht2
  rcases List.mem_append.1 ht2 with h3 | h3
  ·exact h.2.2 t2 h3 e1 e2
  ·obtain rfl:t2=t:=by simpa using h3
   exact .inr (h1 e1 e2)
theorem InI.done {N n i:Nat} {fs gs az bs:List Int} {lv:List Nat} (h:InI (L.map ArV.flip) K p (gs.set p (n:Int)) az bs (outs (L.map ArV.flip) p).length) (hm:MdI L K N fs gs n lv i az) (hO:fK N K L) (hs:lv[i]?=some p) (hN:p < N) (h0:gs.getD p 0 < 0):MdI L K N fs (gs.set p (n:Int)) n lv (i+1) bs:=by
 unfold InI at h
 rw [List.take_of_length_le (Nat.le_refl _)] at h
 refine hm.new hO hs hN h0 (fun y hy=>?_) h.2.1 (fun t ht e1 e2 e3=>?_)
 ·rcases h.1 y hy with h1 | ⟨t,h1,h2,h3,h4⟩
  ·exact .inl h1
  ·obtain ⟨h5,h6⟩:=List.mem_filter.1 h1
   obtain ⟨s,hs2,rfl⟩:=List.mem_map.1 h5
   exact .inr ⟨s,hs2,of_decide_eq_true h6,h2,h3,h4⟩
 ·exact h.2.2 t.flip (List.mem_filter.2 ⟨List.mem_map_of_mem ht,decide_eq_true (show t.flip.f=_ from e1)⟩) e2 e3
end
def fJ (n i:Nat):List Int:=List.replicate i (-1)++List.replicate (n - i) 0
theorem qQ {n i:Nat} (h:i≤n):(fJ n i).length=n:=by unfold fJ;simp;omega
theorem qR {n i:Nat} (h:i < n):(fJ n i).set i (-1)=fJ n (i+1):=by
 unfold fJ
 rw [List.set_append_right _ _ (by simp),List.length_replicate,Nat.sub_self,show n - i=(n - (i+1))+1 by omega,List.replicate_succ,List.set_cons_zero,List.replicate_succ' (n:=i),List.append_assoc]
 rfl
theorem qS {n:Nat}:fJ n n=List.replicate n (-1):=by unfold fJ;simp
theorem nV {n:Nat}:fJ n 0=List.replicate n 0:=by unfold fJ;simp
theorem mX (n s0 e0:Nat) (sy:Int) (aa:Option Addr) (al ac:Nat) (L:List ArV) (Kt:List (Nat×World)) (Ot:Own) (G:aQ) (K:List (Nat×World)) (w0 w:World) (hS0:St w0 Ot G K w) (hKt:∀ q∈Kt,q∈K) (hA:bJ w0 Kt (fun W=>jF W aa L)) (hl:L.length=al) (hal:al≤65536) (hn1:1≤n) (hn4:n≤4096) (hs0:s0 < n) (he0:e0 < n) (hO:fK n sy L) :
  Calls prog 37 #[.agg #[.int .i64 (n:Int),.int .i64 sy,.int .i64 (s0:Int),.int .i64 (e0:Int),.slice aa al ac]] w (fun e w'=>∃ (FB:Nat) (fs:List Int) (Kn:List (Nat×World)),e = .returned (.slice (some ⟨FB,0,none⟩) n n)∧FarOk L sy e0 n fs∧(∀ p,p < n→fs.getD p 0≤8193)∧(∀ q∈K,q∈Kn)∧St w0 ((FB,zI fs,3)::Ot) G Kn w'):=by
 refine bD (args:=[.agg #[.int .i64 (n:Int),.int .i64 sy,.int .i64 (s0:Int),.int .i64 (e0:Int),.slice aa al ac]]) func37 rfl ntmps37 rfl ?_
 have hS:=hS0
 have hflO:=flip_ok hO
 have hfll:(L.map ArV.flip).length≤65536:=by rw [List.length_map];omega
 refine aC (aG (bZ (cs:=[_,_,_,_,_]) hS rfl rfl rfl fun B1 W1 hS=>aB rfl rfl (aF (XF.thenN (aC (aG (aM (vs:=[_,_,_,_,_]) isAgg24 sizeOf24 rfl (aK.own (j:=0) (m:=5) (hS.at_ 0 rfl) rfl) rfl (aP (vs:=[_]) goes_43 rfl (nU (n:Int) sy (s0:Int) (e0:Int) aa al ac L Kt _ G K w0 _ (hS.keep K (fun q hq=>by simp [hq])) hKt hA hl hal) rfl ?_))))))))
 rintro e W8 ⟨wa,wc,rfl,hS9⟩
 refine ⟨_,rfl,?_⟩
 obtain ⟨K1,k1,g1,hS1⟩:=St.rowKeepN (o:=⟨.slice wa al wc,al,(L.map ArV.flip).flatMap ArV.three⟩) hS9
 clear hS hS9;have hS:=hS1;clear hS1
 refine aP (vs:=[_]) iH rfl (iG ⟨(n:Int),sy,(e0:Int),(s0:Int),wa,al,wc,L.map ArV.flip⟩ n sy K1 _ G K1 w0 _ hS (fun q hq=>hq) (fun h9 hk9=>⟨mW (g1 h9 hk9),by show (L.map ArV.flip).length=al;rw [List.length_map];exact hl,by show al≤_;omega⟩) rfl hn1 hn4 hal hflO) rfl ?_
 rintro e W9 ⟨RB,SB,OB,va,vc,K2,rfl,hk2,hOut,hS9⟩
 change bJ w0 K2 (fun W=>iF W OB n (L.map ArV.flip) va vc) at hOut
 refine ⟨_,rfl,?_⟩
 clear hS;have hS:=hS9;clear hS9
 refine aB rfl rfl (aF (XF.thenN (aC (aG (aH (o':=0) dQ rfl rfl rfl (aI isAgg3 rfl (aE (hS.at_ 2 rfl) rfl) rfl ?_))))))
 refine op_make (m:=n) (cs:=zI (fJ n 0)) hS underlying25 kA rfl rfl rfl (by omega) (by omega) (by rw [nV];exact madeI n) (by show (8:Int) * _≤_;omega) (by omega) rfl fun B2 W2 hS=>?_
 refine aB rfl rfl (aF (XF.thenN (aC (aC ?_))))
 obtain ⟨FB,hFB⟩:∃ FB,FB=B2:=⟨_,rfl⟩
 rw [← hFB] at hS ⊢
 refine aG (aA rfl rfl (bF underlying25 rfl rfl (aA rfl rfl (aF (XF.thenN (aL (cD (fun m l W=>∃ (i:Nat),i≤n∧m=n - i∧l=[(1,.pointer (some ⟨B1,0,none⟩)),(3,.pointer (some ⟨RB,0,none⟩)),(4,.slice (some ⟨FB,0,none⟩) n n),(20,.int .i64 (n:Int)),(21,.int .i64 (i:Int))]∧St w0 ((FB,zI (fJ n i),3)::(RB,[.slice (some ⟨OB,0,none⟩) n n,.slice (some ⟨SB,0,none⟩) n n,.int .i64 0],73)::(SB,zI (List.replicate n 0),3)::(B1,[.int .i64 (n:Int),.int .i64 sy,.int .i64 (s0:Int),.int .i64 (e0:Int),.slice aa al ac],24)::Ot) G K2 W) (n - 0) ([(1,_),(3,_),(4,_),(20,_),(21,_)]) ⟨rfl,rfl,rfl,rfl,rfl,trivial⟩ (⟨0,Nat.zero_le _,rfl,rfl,hS.keep K2 (fun q hq=>by simp [hq])⟩) ?_)))))))
 clear hS
 rintro m l W ⟨i,hi,rfl,rfl,hS⟩
 refine aC (aG (bG rfl rfl rfl (aF (XF.thenN (aC (bA rfl (fun hc=>?_) (fun hc=>?_)))))))
 ·have hc22:=of_decide_eq_true hc;clear hc
  refine aO (XF.thenN (aC (aL (aC (aG (aA rfl rfl (aB rfl rfl (aF (XF.thenN (aG (aA rfl rfl (aA rfl rfl (aS (j:=i) underlying25 sizeOf3 rfl rfl (rfl) (by omega) rfl rfl ?_)))))))))))))
  refine bO (i:=0) (cs':=zI (fJ n (i+1))) (O':=((FB,_,_)::_::_::_::Ot)) hS sizeOf3 rfl rfl rfl rfl (Nat.ble_eq_true_of_le (by rw [fY,qQ (by omega)];omega)) (by rw [nQ,qR (by omega)]) rfl fun W94 hS=>?_
  refine aF (XF.blkN (XF.thenN (aG (aV rfl rfl (IntWalk.i64_in _ (by omega)) rfl (aA rfl rfl (aF ?_))))))
  exact XF.round (n - (i+1)) [(1,_),(3,_),(4,_),(20,_),(21,_)] (by omega) ⟨rfl,rfl,rfl,rfl,rfl,trivial⟩ ⟨i+1,by omega,rfl,rfl,hS.keep K2 (fun q hq=>by simp [hq])⟩
 ·have hc22:=of_decide_eq_false hc;clear hc
  obtain rfl:n=i:=by omega
  rw [qS] at hS
  refine bS (XF.thenX (XF.thenX (XF.blkX (XF.thenN (aC (aG (aA rfl rfl (aH (o':=3) eA rfl rfl rfl (aI isAgg3 rfl (aE (hS.at_ 3 rfl) rfl) rfl (bC (us:=[(0,.int .i64 _)]) hS underlying25 sizeOf3 zeroValue3 rfl rfl rfl (dM _) rfl fun B3 W3 hS=>?_))))))))))
  obtain ⟨K3,k3,g3,hS2⟩:=(hS.keep K2 (fun q hq=>by simp [hq])).ownKeepN
  clear hS;have hS:=(hS2.perm (by first | exact (List.Perm.swap _ _ _).trans ((List.Perm.swap _ _ _).cons _)));clear hS2
  refine aP (vs:=[_,_]) fG rfl (eE n (L.map ArV.flip) OB va vc RB SB 0 1 (List.replicate n 0) (some ⟨B3,0,none⟩) 1 1 [(e0:Int)] K3 _ G K3 w0 _ hS (fun q hq=>hq) (hOut.moreN k3) (fun h9 hk9=>.inr ⟨_,0,rfl,fun j hj=>by obtain rfl:j=0:=(by simpa using hj);exact aE (g3 h9 hk9) rfl⟩) rfl (by decide) (fun y hy=>(by obtain rfl:y=(e0:Int):=(by simpa using hy);omega)) (kR hflO) hfll (by simp) (by decide) (iU (by decide)) hn4) rfl ?_
  rintro e W9 ⟨lv1,wa1,wc1,ss1,K4,hH1,rfl,hle1,hsl1,hsf1,hk4,hR1,hS9⟩
  refine ⟨_,rfl,?_⟩
  clear hS;have hS:=hS9.perm (by first | exact ((List.Perm.swap _ _ _).cons _).trans (List.Perm.swap _ _ _));clear hS9
  refine aB rfl rfl (aF (XF.thenN (aC (aC (aG (aB rfl rfl (aF (XF.thenN (aL ?_)))))))))
  refine cD (fun m l W=>∃ (c:Nat) (fs:List Int) (lv:List Nat) (la:Option Addr) (lc:Nat) (ss:List Int) (Kk:List (Nat×World)),m=lvM fs lv∧l=[(1,.pointer (some ⟨B1,0,none⟩)),(3,.pointer (some ⟨RB,0,none⟩)),(4,.slice (some ⟨FB,0,none⟩) n n),(6,.slice la lv.length lc),(7,.int .i64 (c:Int))]∧LvI L sy e0 n fs c lv∧c+lvM fs lv≤2 * n+1∧lv.length≤n∧ss.length=n∧(∀ y∈ss,0≤y∧y≤(c:Int)+1)∧(∀ q∈K2,q∈Kk)∧bJ w0 Kk (fun W=>Row W la (nI lv))∧St w0 ((FB,zI fs,3)::(RB,[.slice (some ⟨OB,0,none⟩) n n,.slice (some ⟨SB,0,none⟩) n n,.int .i64 ((c:Int)+1)],73)::(SB,zI ss,3)::(B1,[.int .i64 (n:Int),.int .i64 sy,.int .i64 (s0:Int),.int .i64 (e0:Int),.slice aa al ac],24)::Ot) G Kk W) (_) ([(1,_),(3,_),(4,_),(6,_),(7,_)]) ⟨rfl,rfl,rfl,rfl,rfl,trivial⟩ (⟨0,List.replicate n (-1),lv1,wa1,wc1,ss1,K4,rfl,rfl,LvI.start he0 hO (fun q=>by rw [hH1.at_];exact dC (fun q=>by simp) q),by have:=uN_le (fs:=List.replicate n (-1));rw [List.length_replicate] at this;unfold lvM;split<;>omega,hle1,hsl1,fun y hy=>(hsf1 y hy).elim (fun h=>by rw [List.eq_of_mem_replicate h];decide) (fun h=>by rw [h];decide),fun q hq=>hk4 q (k3 q hq),hR1,hS.keep K4 (fun q hq=>by simp [hq])⟩) ?_
  clear hS
  rintro m l W ⟨c,fs,lv,la,lc,ss,Kk,rfl,rfl,hLv,hcm,hll,hsl,hss,hkk,hRl,hS⟩
  refine aC (aC (aG (aA rfl rfl (bF underlying25 rfl rfl (eG rfl rfl rfl (aF (XF.thenN (bA rfl (fun hc=>?_) (fun hc=>?_)))))))))
  ·have hc35:=of_decide_eq_true hc;clear hc
   refine aO (XF.thenN (aC (aL (aC (aG (aB rfl rfl (aF (XF.thenN (aC (aC ?_))))))))))
   have hlv:=LvI.neg hLv
   have hS':=hS.newG 3 1;clear hS;have hS:=hS';clear hS'
   refine aG (aA rfl rfl (bF underlying25 rfl rfl (aA rfl rfl (aF (XF.thenN (aL (cD (fun m l W=>∃ (i ml:Nat) (wa9:Option Addr) (wc9:Nat) (az gs:List Int),i≤lv.length∧m=lv.length - i∧l=[(1,.pointer (some ⟨B1,0,none⟩)),(3,.pointer (some ⟨RB,0,none⟩)),(4,.slice (some ⟨FB,0,none⟩) n n),(7,.int .i64 (c:Int)),(8,.slice wa9 ml wc9),(38,.slice la lv.length lc),(39,.int .i64 (lv.length:Int)),(40,.int .i64 (i:Int))]∧az.length=ml∧ml≤i * 65536∧MdI L sy n fs gs c lv i az∧St w0 ((FB,zI gs,3)::(RB,[.slice (some ⟨OB,0,none⟩) n n,.slice (some ⟨SB,0,none⟩) n n,.int .i64 ((c:Int)+1)],73)::(SB,zI ss,3)::(B1,[.int .i64 (n:Int),.int .i64 sy,.int .i64 (s0:Int),.int .i64 (e0:Int),.slice aa al ac],24)::Ot) (⟨.slice wa9 ml wc9,ml,zI (az),3,1⟩::G) Kk W) (lv.length - 0) ([(1,_),(3,_),(4,_),(7,_),(8,_),(38,_),(39,_),(40,_)]) ⟨rfl,rfl,rfl,rfl,rfl,rfl,rfl,rfl,trivial⟩ (⟨0,0,none,0,[],fs,Nat.zero_le _,rfl,rfl,rfl,by omega,MdI.start hLv.len hlv,hS.keep Kk (fun q hq=>by simp [hq])⟩) ?_)))))))
   clear hS
   rintro m l W ⟨i,ml,wa9,wc9,az,gs,hi,rfl,rfl,hal9,hml,hmd,hS⟩
   refine aC (aG (bG rfl rfl rfl (aF (XF.thenN (aC (bA rfl (fun hc=>?_) (fun hc=>?_)))))))
   ·have hc41:=of_decide_eq_true hc;clear hc
    obtain ⟨p,hp⟩:∃ p,lv[i]?=some p:=⟨_,List.getElem?_eq_getElem (by omega)⟩
    have hpn:=(hLv.lev p (List.mem_of_getElem? hp)).1
    obtain ⟨b,off,y,hla,hy,hyc⟩:=(hRl (hS.keep Kk (fun q hq=>by simp [hq])) (fun q hq=>hq)).at1 (show i < (nI lv).length by rw [dP];omega)
    obtain rfl:y=(p:Int):=by unfold nI at hy;rw [List.getElem?_map,hp] at hy;exact (Option.some.inj hy).symm
    obtain ⟨hoc,_⟩:=hOut (hS.keep Kk (fun q hq=>by simp [hq])) hkk p hpn
    have hol9:(outs (L.map ArV.flip) p).length≤65536:=Nat.le_trans (List.length_filter_le _ _) hfll
    have hgl:=hmd.len
    refine aO (XF.thenN (aC (aL (aC (aG ?_)))))
    refine aS (j:=i) (b:=b) (o:=off) (m:=lv.length) (c:=lc) underlying25 sizeOf3 (by show some (Value.slice _ _ _)=_;rw [hla]) rfl rfl (by omega) rfl rfl ?_
    refine aI isAgg3 rfl (hyc) rfl (aB rfl rfl (aF (XF.thenN (aC (aC (aG (aA rfl rfl (aA rfl rfl (aS (j:=p) underlying25 sizeOf3 rfl rfl (rfl) (by omega) rfl rfl (aI isAgg3 rfl (aE (hS.at_ 0 rfl) (iE (by omega))) rfl (eQ rfl rfl rfl (aF (XF.thenN (bA rfl (fun hc=>?_) (fun hc=>?_)))))))))))))))
    ·have hc48:=of_decide_eq_true hc;clear hc
     refine bS (XF.thenX (XF.blkX (XF.thenN (aG (aV rfl rfl (IntWalk.i64_in _ (by omega)) rfl (aA rfl rfl (aF ?_)))))))
     have h0:0≤gs.getD p 0:=by simpa using hc48
     exact XF.round (lv.length - (i+1)) [(1,_),(3,_),(4,_),(7,_),(8,_),(38,_),(39,_),(40,_)] (by omega) ⟨rfl,rfl,rfl,rfl,rfl,rfl,rfl,rfl,trivial⟩ ⟨i+1,ml,wa9,wc9,az,gs,by omega,rfl,rfl,hal9,Nat.le_trans hml (Nat.mul_le_mul_right _ (Nat.le_succ _)),hmd.old hp hpn h0,hS.keep Kk (fun q hq=>by simp [hq])⟩
    ·have hc48:=of_decide_eq_false hc;clear hc
     have h0:gs.getD p 0 < 0:=Int.not_le.1 (by simpa using hc48)
     refine aO (XF.thenN (aC (aG (aA rfl rfl (aA rfl rfl (aA rfl rfl (aS (j:=p) underlying25 sizeOf3 rfl rfl (rfl) (by omega) rfl rfl ?_)))))))
     refine bO (i:=0) (cs':=zI (gs.set p (c:Int))) (O':=((FB,_,_)::_::_::_::Ot)) hS sizeOf3 rfl rfl rfl rfl (Nat.ble_eq_true_of_le (by rw [fY];omega)) nQ rfl fun W94 hS=>?_
     have hoc2:=(hOut (hS.keep Kk (fun q hq=>by simp [hq])) hkk p hpn).1
     refine aF (XF.thenN (aC (aG (aA rfl rfl (aY rfl rfl (aH (o':=0) gH rfl rfl rfl (aI isAgg71 rfl (aE (hS.at_ 1 rfl) rfl) rfl (aA rfl rfl (aS (j:=p) (b:=OB) (o:=0) (m:=n) (c:=n) underlying71 sizeOf22 rfl rfl rfl (by omega) rfl rfl (aI isAgg22 rfl (hoc2) rfl (bF underlying22 rfl rfl (aA rfl rfl (aF (XF.thenN (aL (cD (fun m l W=>∃ (z ml:Nat) (wa9:Option Addr) (wc9:Nat) (bs:List Int),z≤(outs (L.map ArV.flip) p).length∧m=(outs (L.map ArV.flip) p).length - z∧l=[(1,.pointer (some ⟨B1,0,none⟩)),(3,.pointer (some ⟨RB,0,none⟩)),(4,.slice (some ⟨FB,0,none⟩) n n),(7,.int .i64 (c:Int)),(8,.slice wa9 ml wc9),(38,.slice la lv.length lc),(39,.int .i64 (lv.length:Int)),(40,.int .i64 (i:Int)),(59,.slice (va p) (outs (L.map ArV.flip) p).length (vc p)),(60,.int .i64 ((outs (L.map ArV.flip) p).length:Int)),(61,.int .i64 (z:Int))]∧bs.length=ml∧ml≤i * 65536+z∧InI (L.map ArV.flip) sy p (gs.set p (c:Int)) az bs z∧St w0 ((FB,zI (gs.set p (c:Int)),3)::(RB,[.slice (some ⟨OB,0,none⟩) n n,.slice (some ⟨SB,0,none⟩) n n,.int .i64 ((c:Int)+1)],73)::(SB,zI ss,3)::(B1,[.int .i64 (n:Int),.int .i64 sy,.int .i64 (s0:Int),.int .i64 (e0:Int),.slice aa al ac],24)::Ot) (⟨.slice wa9 ml wc9,ml,zI (bs),3,1⟩::G) Kk W) ((outs (L.map ArV.flip) p).length - 0) ([(1,_),(3,_),(4,_),(7,_),(8,_),(38,_),(39,_),(40,_),(59,_),(60,_),(61,_)]) ⟨rfl,rfl,rfl,rfl,rfl,rfl,rfl,rfl,rfl,rfl,rfl,trivial⟩ (⟨0,ml,wa9,wc9,az,Nat.zero_le _,rfl,rfl,hal9,Nat.le_trans hml (Nat.le_add_right _ _),InI.start,hS.keep Kk (fun q hq=>by simp [hq])⟩) ?_))))))))))))))))
     clear hS
     clear hml hal9 hoc hoc2 hyc hy
     rintro m l W ⟨z,ml,wa9,wc9,bs,hz,rfl,rfl,hbl,hml,hin,hS⟩
     have hib:i * 65536≤4096 * 65536:=Nat.mul_le_mul_right _ (by omega)
     refine aC (aG (bG rfl rfl rfl (aF (XF.thenN (aC (bA rfl (fun hc=>?_) (fun hc=>?_)))))))
     ·have hc62:=of_decide_eq_true hc;clear hc
      obtain ⟨t,ht⟩:∃ t,(outs (L.map ArV.flip) p)[z]?=some t:=⟨_,List.getElem?_eq_getElem (by omega)⟩
      obtain ⟨b,off,haa,hcs⟩:=(hOut (hS.keep Kk (fun q hq=>by simp [hq])) hkk p hpn).2 z t ht
      have k1:=hcs
      have htm:=(List.mem_filter.1 (List.mem_of_getElem? ht)).1
      obtain ⟨hq0,hq1⟩:=(hflO t htm).2.1
      obtain ⟨qn,hqn⟩:∃ k:Nat,t.q=(k:Int):=⟨t.q.toNat,by omega⟩
      have hqn2:t.q.toNat=qn:=by omega
      have hsl9:(gs.set p (c:Int)).length=n:=by rw [List.length_set];exact hgl
      refine aO (XF.thenN (aC (aL (aC (aG ?_)))))
      refine aS (j:=z) (b:=b) (o:=off) (m:=(outs (L.map ArV.flip) p).length) (c:=vc p) underlying22 sizeOf57 (by show some (Value.slice _ _ _)=_;rw [haa]) rfl rfl (by omega) rfl rfl ?_
      refine aM (vs:=[_,_,_]) isAgg57 sizeOf57 rfl k1 rfl (bH (cs:=[_,_,_]) hS zeroValue57 rfl rfl fun B4 W4 hS=>bI (i:=0) (vs:=[_,_,_]) (cs':=[_,_,_]) (O':=(_::_::_::_::_::Ot)) hS sizeOf57 rfl rfl rfl rfl rfl rfl rfl fun W5 hS=>aF (XF.thenN (aC (aG (aH (o':=1) eC rfl rfl rfl (aI isAgg3 rfl (aE (hS.at_ 0 rfl) rfl) rfl (fB rfl rfl rfl (aA rfl rfl (bM (d:=68) rfl (fun hc=>?_) (fun hc=>?_))))))))))
      ·have hg68:=of_decide_eq_true hc;clear hc
       refine aD (d:=68) rfl rfl (aH (o':=1) gE rfl rfl rfl (aD (d:=68) rfl rfl (aI isAgg3 rfl (aE (hS.at_ 4 rfl) rfl) rfl (aD (d:=68) rfl rfl (eG rfl rfl rfl (aR rfl rfl rfl (aA rfl rfl (bM (d:=73) rfl (fun hc=>?_) (fun hc=>?_)))))))))
       ·have hg73:=of_decide_eq_true hc;clear hc
        refine aD (d:=73) rfl rfl (aA rfl rfl (aD (d:=73) rfl rfl (aH (o':=2) eO rfl rfl rfl (aD (d:=73) rfl rfl (aI isAgg3 rfl (aE (hS.at_ 0 rfl) rfl) rfl (aD (d:=73) rfl rfl (aS (j:=qn) underlying25 sizeOf3 rfl rfl (hqn) (by omega) rfl rfl (aD (d:=73) rfl rfl (aI isAgg3 rfl (aE (hS.at_ 1 rfl) (iE (by omega))) rfl (aD (d:=73) rfl rfl (bG rfl rfl rfl (aR rfl rfl rfl (aF (XF.thenN (bA rfl (fun hc=>?_) (fun hc=>?_))))))))))))))))
        ·have hc80:=of_decide_eq_true hc;clear hc
         refine aG (aA rfl rfl (aH (o':=2) eO rfl rfl rfl (aI isAgg3 rfl (aE (hS.at_ 0 rfl) rfl) rfl (bC (us:=[(0,.int .i64 _)]) hS underlying25 sizeOf3 zeroValue3 rfl rfl rfl (dM _) rfl fun B6 W6 hS=>?_))))
         refine eD (i:=0) (news:=[_]) hS underlying25 kA rfl rfl (by show 0 < 1;decide) rfl rfl rfl rfl rfl (aK.own (j:=0) (m:=1) (hS.at_ 0 rfl) rfl) rfl rfl (by dsimp only;simp only [maxLen];omega) (by dsimp only;show _ * 8≤_;omega) rfl fun v7 W7 hS=>?_
         obtain ⟨wa8,wc8,e9,_⟩:=cN (hS.row 0 rfl)
         dsimp only at e9
         subst e9
         refine aB rfl rfl (aF (XF.blkN (XF.thenN (aG (aV rfl rfl (IntWalk.i64_in _ (by omega)) rfl (aA rfl rfl (aF ?_)))))))
         have hS9:=hS.tail.tail.castG (G':=(⟨.slice wa8 (ml+1) wc8,(ml+1),zI (bs++[t.q]),3,1⟩::G)) (by show GR.mk _ _ (zI bs++[Value.int .i64 _]) _ _::_=_;rw [lT])
         exact XF.round ((outs (L.map ArV.flip) p).length - (z+1)) [(1,_),(3,_),(4,_),(7,_),(8,_),(38,_),(39,_),(40,_),(59,_),(60,_),(61,_)] (by omega) ⟨rfl,rfl,rfl,rfl,rfl,rfl,rfl,rfl,rfl,rfl,rfl,trivial⟩ ⟨z+1,ml+1,wa8,wc8,bs++[t.q],by omega,rfl,rfl,by simp [hbl],by omega,hin.yes ht (by simpa using hg68) (by simpa using hg73),hS9.keep Kk (fun q hq=>by simp [hq])⟩
        ·have hc80:=of_decide_eq_false hc;clear hc
         refine aO (XF.blkN (XF.thenN (aG (aV rfl rfl (IntWalk.i64_in _ (by omega)) rfl (aA rfl rfl (aF ?_))))))
         exact XF.round ((outs (L.map ArV.flip) p).length - (z+1)) [(1,_),(3,_),(4,_),(7,_),(8,_),(38,_),(39,_),(40,_),(59,_),(60,_),(61,_)] (by omega) ⟨rfl,rfl,rfl,rfl,rfl,rfl,rfl,rfl,rfl,rfl,rfl,trivial⟩ ⟨z+1,ml,wa9,wc9,bs,by omega,rfl,rfl,hbl,by omega,hin.no ht (fun _ _=>by rw [hqn2];exact Int.not_lt.1 (by simpa using hc80)),hS.tail.keep Kk (fun q hq=>by simp [hq])⟩
       ·have hg73:=of_decide_eq_false hc;clear hc
        refine aJ (d:=73) rfl rfl rfl rfl (aJ (d:=73) rfl rfl rfl rfl (aJ (d:=73) rfl rfl rfl rfl (aJ (d:=73) rfl rfl rfl rfl (aJ (d:=73) rfl rfl rfl rfl (aJ (d:=73) rfl rfl rfl rfl (aW rfl rfl rfl (aF (XF.thenN (bT rfl (aO (XF.blkN (XF.thenN (aG (aV rfl rfl (IntWalk.i64_in _ (by omega)) rfl (aA rfl rfl (aF ?_))))))))))))))))
        exact XF.round ((outs (L.map ArV.flip) p).length - (z+1)) [(1,_),(3,_),(4,_),(7,_),(8,_),(38,_),(39,_),(40,_),(59,_),(60,_),(61,_)] (by omega) ⟨rfl,rfl,rfl,rfl,rfl,rfl,rfl,rfl,rfl,rfl,rfl,trivial⟩ ⟨z+1,ml,wa9,wc9,bs,by omega,rfl,rfl,hbl,by omega,hin.no ht (fun _ h9=>absurd h9 (by simpa using hg73)),hS.tail.keep Kk (fun q hq=>by simp [hq])⟩
      ·have hg68:=of_decide_eq_false hc;clear hc
       refine aJ (d:=68) rfl rfl rfl rfl (aJ (d:=68) rfl rfl rfl rfl (aJ (d:=68) rfl rfl rfl rfl (aW rfl rfl rfl (aA rfl rfl (aJ (d:=73) rfl rfl rfl rfl (aJ (d:=73) rfl rfl rfl rfl (aJ (d:=73) rfl rfl rfl rfl (aJ (d:=73) rfl rfl rfl rfl (aJ (d:=73) rfl rfl rfl rfl (aJ (d:=73) rfl rfl rfl rfl (aW rfl rfl rfl (aF (XF.thenN (bT rfl (aO (XF.blkN (XF.thenN (aG (aV rfl rfl (IntWalk.i64_in _ (by omega)) rfl (aA rfl rfl (aF ?_)))))))))))))))))))))
       exact XF.round ((outs (L.map ArV.flip) p).length - (z+1)) [(1,_),(3,_),(4,_),(7,_),(8,_),(38,_),(39,_),(40,_),(59,_),(60,_),(61,_)] (by omega) ⟨rfl,rfl,rfl,rfl,rfl,rfl,rfl,rfl,rfl,rfl,rfl,trivial⟩ ⟨z+1,ml,wa9,wc9,bs,by omega,rfl,rfl,hbl,by omega,hin.no ht (fun h9 _=>absurd (by simpa using hg68) h9),hS.tail.keep Kk (fun q hq=>by simp [hq])⟩
     ·have hc62:=of_decide_eq_false hc;clear hc
      obtain rfl:z=(outs (L.map ArV.flip) p).length:=by omega
      have hmd2:=hin.done hmd hO hp hpn h0
      refine bS (XF.thenX (XF.thenX (XF.blkX (XF.blkN (XF.thenN (aG (aV rfl rfl (IntWalk.i64_in _ (by omega)) rfl (aA rfl rfl (aF ?_)))))))))
      exact XF.round (lv.length - (i+1)) [(1,_),(3,_),(4,_),(7,_),(8,_),(38,_),(39,_),(40,_)] (by omega) ⟨rfl,rfl,rfl,rfl,rfl,rfl,rfl,rfl,trivial⟩ ⟨i+1,ml,wa9,wc9,bs,gs.set p (c:Int),by omega,rfl,rfl,hbl,by omega,hmd2,hS.keep Kk (fun q hq=>by simp [hq])⟩
   ·have hc41:=of_decide_eq_false hc;clear hc
    obtain rfl:i=lv.length:=by omega
    have hib:lv.length * 65536≤4096 * 65536:=Nat.mul_le_mul_right _ (by omega)
    have hc9:c≤8193:=by omega
    obtain ⟨K5,k5,g5,hS1⟩:=St.rowKeepN (o:=⟨.slice wa9 ml wc9,ml,zI az⟩) (hS.keep Kk (fun q hq=>by simp [hq]))
    clear hS;have hS:=hS1;clear hS1
    refine bS (XF.thenX (XF.thenX (XF.blkX (XF.thenN (aG (aA rfl rfl (aA rfl rfl ?_)))))))
    have hS2:=(hS.keep K5 (fun q hq=>by simp [hq])).perm ((List.Perm.swap _ _ _).trans ((List.Perm.swap _ _ _).cons _))
    clear hS;have hS:=hS2;clear hS2
    refine aP (vs:=[_,_]) fG rfl (eE n (L.map ArV.flip) OB va vc RB SB ((c:Int)+1) ((c:Int)+2) ss wa9 ml wc9 az K5 _ G K5 w0 _ hS (fun q hq=>hq) (hOut.moreN (fun q hq=>k5 q (hkk q hq))) (fun h9 hk9=>gJ (g5 h9 hk9)) hal9 (by omega) (fun y hy=>(by obtain ⟨p,rfl,h8,_⟩:=hmd.inn y hy;omega)) (kR hflO) hfll hsl (by rw [IntWalk.i64_in _ (by omega)];omega) (fun y hy=>(by have:=hss y hy;omega)) hn4) rfl ?_
    rintro e W9 ⟨lw,wa8,wc8,ss2,K6,hH,rfl,hle2,hsl2,hsf2,hk6,hR2,hS9⟩
    refine ⟨_,rfl,?_⟩
    clear hS;have hS:=hS9.perm (((List.Perm.swap _ _ _).cons _).trans (List.Perm.swap _ _ _));clear hS9
    refine aB rfl rfl (aF (XF.blkN (XF.thenN (aG (aA rfl rfl (aV rfl rfl (IntWalk.i64_in _ (by omega)) rfl (aB rfl rfl (aF ?_))))))))
    have hlv9:lv≠[]:=by rintro rfl;simp at hc35
    have hless:=hmd.less hlv9 hH.at_
    exact XF.round (lvM gs lw) [(1,_),(3,_),(4,_),(6,_),(7,_)] hless ⟨rfl,rfl,rfl,rfl,rfl,trivial⟩ ⟨c+1,gs,lw,wa8,wc8,ss2,K6,rfl,rfl,hmd.done hLv hO hH.at_,by omega,hle2,hsl2,fun y hy=>(hsf2 y hy).elim (fun h=>by have:=hss y h;omega) (fun h=>by omega),fun q hq=>hk6 q (k5 q (hkk q hq)),hR2,hS.keep K6 (fun q hq=>by simp [hq])⟩
  ·have hc35:=of_decide_eq_false hc;clear hc
   have hl0:lv=[]:=List.eq_nil_of_length_eq_zero (by have h7:=Int.not_lt.1 (show ¬ (0:Int) < (lv.length:Int) from (by simpa using hc35));omega)
   subst hl0
   refine bS (XF.thenX (XF.thenX (XF.blkX (XF.thenN (aC (aG (aA rfl rfl (aB rfl rfl (aF (XF.thenN (bK (XF.res (bY results37 rfl) ?_))))))))))))
   have hS9:=hS.keep Kk (fun q hq=>by simp [hq])
   exact ⟨FB,fs,Kk,rfl,hLv.end_ hO,fun p hp=>(hLv.val p hp).elim (fun h=>by omega) (fun ⟨m,h1,h2,_⟩=>by omega),fun q hq=>hkk q (hk2 q (k1 q hq)),(hS9.perm (((List.Perm.swap _ _ _).trans ((List.Perm.swap _ _ _).cons _)).trans (((List.Perm.swap _ _ _).cons _).cons _))).tail.tail.tail⟩
theorem pI:aZ prog 40=true:=by kernel_rfl
theorem goes_51:aZ prog 51=true:=by kernel_rfl
def kpN (fs:List Int) (n:Nat) (l:List Nat):List Nat:=l.filter (fun q=>decide (fs.getD q 0=(n:Int)))
section
variable {fs:List Int} {n:Nat} {l xs:List Nat} {i j q:Nat}
theorem pJ (h:∀ q∈l,fs.getD q 0=(n:Int)):kpN fs n l=l:=List.filter_eq_self.2 fun q hq=>decide_eq_true (h q hq)
theorem iJ:q∈kpN fs n l↔q∈l∧fs.getD q 0=(n:Int):=by unfold kpN;rw [List.mem_filter];simp
theorem kG (h:l[j]?=some q):kpN fs n (l.take (j+1))=kpN fs n (l.take j)++(if fs.getD q 0=(n:Int) then [q] else []):=by
 unfold kpN
 rw [List.take_add_one,h,List.filter_append]
 congr 1
 show List.filter _ [q]=_
 by_cases h1:fs.getD q 0=(n:Int)
 ·rw [if_pos h1,List.filter_cons_of_pos (by simpa using h1)];rfl
 ·rw [if_neg h1,List.filter_cons_of_neg (by simpa using h1)];rfl
structure DlI (fs:List Int) (n:Nat) (l xs:List Nat) (i j:Nat):Prop where
 len:xs.length=l.length
 lt:i < j
 le:j≤l.length
 kept:xs.take i=kpN fs n (l.take j)
 rest:xs.drop j=l.drop j
theorem DlI.start (h:l[i]?=some q) (hq:¬ fs.getD q 0=(n:Int)) (hp:∀ q∈l.take i,fs.getD q 0=(n:Int)):DlI fs n l l i (i+1) where
 len:=rfl
 lt:=Nat.lt_succ_self _
 le:=(List.getElem?_eq_some_iff.1 h).1
 kept:=by rw [kG h,if_neg hq,pJ hp,List.append_nil]
 rest:=rfl
theorem DlI.at_ (h:DlI fs n l xs i j) (hj:l[j]?=some q):xs[j]?=some q:=by
 have:=congrArg (fun z=>z[0]?) h.rest
 simp only [List.getElem?_drop,Nat.add_zero] at this
 rw [this];exact hj
theorem DlI.no (h:DlI fs n l xs i j) (hj:l[j]?=some q) (hq:¬ fs.getD q 0=(n:Int)):DlI fs n l xs i (j+1) where
 len:=h.len
 lt:=Nat.lt_succ_of_lt h.lt
 le:=(List.getElem?_eq_some_iff.1 hj).1
 kept:=by rw [kG hj,if_neg hq,List.append_nil];exact h.kept
 rest:=by rw [← List.drop_drop,← List.drop_drop,h.rest]
theorem DlI.yes (h:DlI fs n l xs i j) (hj:l[j]?=some q) (hq:fs.getD q 0=(n:Int)):DlI fs n l (xs.set i q) (i+1) (j+1) where
 len:=by rw [List.length_set];exact h.len
 lt:=Nat.succ_lt_succ h.lt
 le:=(List.getElem?_eq_some_iff.1 hj).1
 kept:=by
  have:=h.lt
  have:=h.le
  have:=h.len
  rw [kG hj,if_pos hq,← h.kept,List.take_add_one,List.take_set_of_le (Nat.le_refl _),List.getElem?_set_self (by omega)]
  rfl
 rest:=by
  have:=h.lt
  rw [List.drop_set_of_lt (by omega),← List.drop_drop,← List.drop_drop,h.rest]
theorem nI_set {i q:Nat}:(zI (nI xs)).set i (.int .i64 (q:Int))=zI (nI (xs.set i q)):=by unfold zI nI;rw [List.map_map,List.map_map,List.map_set];rfl
theorem nI_at {i q:Nat} (h:xs[i]?=some q):(zI (nI xs))[i]?=some (.int .i64 (q:Int)):=by unfold zI nI;rw [List.map_map,List.getElem?_map,h];rfl
theorem lW:∀ (new cs:List Value) (j:Nat),j≤cs.length→(bP cs j new).take j=cs.take j
 | [],cs,j,_=>rfl
 | v::new,cs,j,h=>by
  simp only [bP]
  have h1:∀ (k:Nat) (cs2:List Value) (nw:List Value),j≤k→(bP cs2 k nw).take j=cs2.take j:=by
   intro k cs2 nw
   induction nw generalizing k cs2 with
   | nil=>intro _;rfl
   | cons u nw ih=>intro hk;simp only [bP];rw [ih _ _ (by omega),List.take_set_of_le hk]
  rw [h1 _ _ _ (Nat.le_succ _),List.take_set_of_le (Nat.le_refl _)]
end
theorem pK (FX LX:Nat) (fa:Option Addr) (fn fc:Nat) (fs:List Int) (left:Nat) (q:Nat) (Kt:List (Nat×World)) (Ot:Own) (G:aQ) (K:List (Nat×World)) (w0 w:World) (hS0:St w0 ((FX,[.slice fa fn fc],25)::(LX,[.int .i64 ((left:Int)+1)],3)::Ot) G K w) (hKt:∀ q∈Kt,q∈K) (hFs:bJ w0 Kt (fun W=>Row W fa fs)) (hfn:fs.length=fn) (hl9:left≤1000000) (hq:q < fn) :
  Calls prog 40 #[.int .i64 (q:Int),.pointer (some ⟨FX,0,none⟩),.pointer (some ⟨LX,0,none⟩)] w (fun e w'=>e = .returned (.bool (decide (¬ fs.getD q 0=(left:Int))))∧St w0 ((FX,[.slice fa fn fc],25)::(LX,[.int .i64 ((left:Int)+1)],3)::Ot) G K w'):=by
 refine bD (args:=[.int .i64 (q:Int),.pointer (some ⟨FX,0,none⟩),.pointer (some ⟨LX,0,none⟩)]) func40 rfl ntmps40 rfl ?_
 have hS:=hS0
 obtain ⟨b2,off2,y2,hfa,hy2,hyc2⟩:=(hFs hS0 hKt).at1 (show q < fs.length by omega)
 have hy3:fs.getD q 0=y2:=by rw [List.getD_eq_getElem?_getD,hy2];rfl
 subst hfa
 refine aC (aG (aB rfl rfl (aF (XF.thenN (aC (regB (m:=8) cL hS (by kernel_rfl) (by kernel_rfl) rfl (fR 1 rfl 1 rfl rfl (fun w hw=>bE isAgg25 rfl ((aX hw 0).cell (Nat.zero_le _) (aE (hS.at_ 0 rfl) rfl))) rfl (fR 2 rfl 0 rfl rfl (fun w hw=>bL rfl) rfl (dL 3 rfl (isV _) (dA _) (rgV (li:=[(5,_),(6,_)]) rfl (bX rfl) ⟨bW 0 (bR rfl rfl rfl),bW 1 (bR rfl rfl rfl),trivial⟩ (fun w hw=>cI (j:=q) underlying25 sizeOf3 rfl rfl (rfl) (by omega) rfl) (bQ rfl)) (cW 4 rfl 7 2 rfl rfl rfl (fun w hw=>bE isAgg3 rfl ((aX hw 0).cell (Nat.zero_le _) (hyc2))) rfl (fR 5 rfl 2 rfl rfl (fun w hw=>bE isAgg3 rfl ((aX hw 0).cell (Nat.zero_le _) (aE (hS.at_ 1 rfl) rfl))) rfl (cW 6 rfl 9 4 rfl rfl rfl (fun w hw=>rN rfl rfl (IntWalk.i64_in _ (by omega))) rfl (dL 7 rfl (isV _) (dA _) (rgV (li:=[(8,_),(10,_)]) rfl (bX rfl) ⟨bW 3 (bR rfl rfl rfl),bW 5 (bR rfl rfl rfl),trivial⟩ (fun w hw=>lF rfl rfl) (bQ rfl)) (cW 8 rfl 11 6 rfl rfl rfl (fun w hw=>cH rfl) rfl (lJ ?_)))))))))))))))
 intro W1 hbR hS'
 clear hS;have hS:=hS';clear hS'
 refine bU (bU (bU (bU (bU (bU (bU (bU (fE (XF.thenN (bK (XF.res (bY results40 rfl) ?_)))))))))))
 have e9:(left:Int)+1 - 1=(left:Int):=by omega
 refine ⟨?_,hS.keep K (fun q hq=>by simp [hq])⟩
 rw [hy3,e9]
theorem nIxf_is (FX LX:Nat) (fa:Option Addr) (fn fc:Nat) (fs:List Int) (left:Nat) (wa:Option Addr) (m wc:Nat) (l:List Nat) (Kt:List (Nat×World)) (Ot:Own) (G:aQ) (K:List (Nat×World)) (w0 w:World) (hS0:St w0 ((FX,[.slice fa fn fc],25)::(LX,[.int .i64 ((left:Int)+1)],3)::Ot) (⟨.slice wa m wc,m,zI (nI l),3,1⟩::G) K w) (hKt:∀ q∈Kt,q∈K) (hFs:bJ w0 Kt (fun W=>Row W fa fs)) (hfn:fs.length=fn) (hl9:left≤1000000) (hm:l.length=m) (hlt:∀ q∈l,q < fn) (hm4:m≤4096) :
  Calls prog 51 #[.slice wa m wc,.func (.func 40) #[] #[.pointer (some ⟨FX,0,none⟩),.pointer (some ⟨LX,0,none⟩)]] w (fun e w'=>(∃ j:Int,e = .returned (.int .i64 j)∧((j = -1∧∀ q∈l,fs.getD q 0=(left:Int))∨∃ (i q:Nat),j=(i:Int)∧l[i]?=some q∧(¬ fs.getD q 0=(left:Int))∧∀ q∈l.take i,fs.getD q 0=(left:Int)))∧St w0 ((FX,[.slice fa fn fc],25)::(LX,[.int .i64 ((left:Int)+1)],3)::Ot) (⟨.slice wa m wc,m,zI (nI l),3,1⟩::G) K w'):=by
 refine bD (args:=[.slice wa m wc,.func (.func 40) #[] #[.pointer (some ⟨FX,0,none⟩),.pointer (some ⟨LX,0,none⟩)]]) func51 rfl ntmps51 rfl ?_
 have hS:=hS0
 refine aC (aG (aB rfl rfl (aF (XF.thenN (aC (aC (aG (aA rfl rfl (bF underlying25 rfl rfl (aA rfl rfl (aF (XF.thenN (aL (cD (fun m2 l2 W=>∃ (i:Nat),i≤m∧m2=m - i∧l2=[(0,.slice wa m wc),(1,.func (.func 40) #[] #[.pointer (some ⟨FX,0,none⟩),.pointer (some ⟨LX,0,none⟩)]),(7,.int .i64 (m:Int)),(8,.int .i64 (i:Int))]∧(∀ q∈l.take i,fs.getD q 0=(left:Int))∧St w0 ((FX,[.slice fa fn fc],25)::(LX,[.int .i64 ((left:Int)+1)],3)::Ot) (⟨.slice wa m wc,m,zI (nI l),3,1⟩::G) K W) (m - 0) ([(0,_),(1,_),(7,_),(8,_)]) ⟨rfl,rfl,rfl,rfl,trivial⟩ (⟨0,Nat.zero_le _,rfl,rfl,fun q hq=>(by cases hq),hS.keep K (fun q hq=>by simp [hq])⟩) ?_))))))))))))))
 clear hS
 rintro m2 l2 W ⟨i,hi,rfl,rfl,hall,hS⟩
 refine aC (aG (bG rfl rfl rfl (aF (XF.thenN (aC (bA rfl (fun hc=>?_) (fun hc=>?_)))))))
 ·have hc9:=of_decide_eq_true hc;clear hc
  obtain ⟨q,hq⟩:∃ q,l[i]?=some q:=⟨_,List.getElem?_eq_getElem (by omega)⟩
  have hqn:=hlt q (List.mem_of_getElem? hq)
  obtain ⟨sb,rfl⟩:=iA (hS.row 0 rfl) (by omega)
  have hmc:W.cell? ⟨sb,0+i * 1,none⟩=some (.int .i64 (q:Int)):=by
   rw [Nat.zero_add,Nat.mul_one]
   exact eM (hS.row 0 rfl) (nI_at hq)
  refine aO (XF.thenN (aC (aL (aC (aG (aA rfl rfl (aB rfl rfl (aF (XF.thenN (aC (aG (aA rfl rfl (aA rfl rfl (aA rfl rfl (aS (j:=i) (b:=sb) (o:=0) (m:=m) (c:=wc) underlying25 sizeOf3 rfl rfl rfl (by omega) rfl rfl (aI isAgg3 rfl (hmc) rfl (iC (vs:=[_]) (caps:=[_,_]) rfl pI rfl (pK FX LX fa fn fc fs left q Kt Ot _ K w0 _ (hS.keep K (fun q hq=>by simp [hq])) hKt hFs hfn hl9 hqn) rfl ?_)))))))))))))))))
  rintro e W9 ⟨rfl,hS9⟩
  refine ⟨_,rfl,?_⟩
  clear hS;have hS:=hS9;clear hS9
  refine aF (XF.thenN (bA rfl (fun hc=>?_) (fun hc=>?_)))
  ·have hc16:=hc;clear hc
   refine aC (aG (aA rfl rfl (aB rfl rfl (aF (XF.thenN (bK (XF.blkR (XF.thenR (XF.thenR (XF.blkR (XF.thenR (XF.res (bY results51 rfl) ?_))))))))))))
   have hq9:¬ fs.getD q 0=(left:Int):=by simpa using hc16
   exact ⟨⟨(i:Int),rfl,.inr ⟨i,q,rfl,hq,hq9,hall⟩⟩,hS.keep K (fun q hq=>by simp [hq])⟩
  ·have hc16:=hc;clear hc
   refine aO (XF.blkN (XF.thenN (aG (aV rfl rfl (IntWalk.i64_in _ (by omega)) rfl (aA rfl rfl (aF ?_))))))
   have hq9:fs.getD q 0=(left:Int):=by simpa using hc16
   exact XF.round (m - (i+1)) [(0,_),(1,_),(7,_),(8,_)] (by omega) ⟨rfl,rfl,rfl,rfl,trivial⟩ ⟨i+1,by omega,rfl,rfl,fun q2 hq2=>(by
    rw [List.take_add_one,hq] at hq2
    rcases List.mem_append.1 hq2 with h9 | h9
    ·exact hall q2 h9
    ·obtain rfl:q2=q:=by simpa using h9
     exact hq9),hS.keep K (fun q hq=>by simp [hq])⟩
 ·have hc9:=of_decide_eq_false hc;clear hc
  rw [List.take_of_length_le (by omega)] at hall
  refine bS (XF.thenX (XF.thenX (XF.blkX (XF.thenN (aC (aG (aB rfl rfl (aF (XF.thenN (bK (XF.res (bY results51 rfl) ?_)))))))))))
  exact ⟨⟨-1,rfl,.inl ⟨rfl,hall⟩⟩,hS.keep K (fun q hq=>by simp [hq])⟩
theorem nDel_is (FX LX:Nat) (fa:Option Addr) (fn fc:Nat) (fs:List Int) (left:Nat) (wa:Option Addr) (m wc:Nat) (l:List Nat) (Kt:List (Nat×World)) (Ot:Own) (G:aQ) (K:List (Nat×World)) (w0 w:World) (hS0:St w0 ((FX,[.slice fa fn fc],25)::(LX,[.int .i64 ((left:Int)+1)],3)::Ot) (⟨.slice wa m wc,m,zI (nI l),3,1⟩::G) K w) (hKt:∀ q∈Kt,q∈K) (hFs:bJ w0 Kt (fun W=>Row W fa fs)) (hfn:fs.length=fn) (hl9:left≤1000000) (hm:l.length=m) (hlt:∀ q∈l,q < fn) (hm4:m≤4096) :
  Calls prog 39 #[.slice wa m wc,.func (.func 40) #[] #[.pointer (some ⟨FX,0,none⟩),.pointer (some ⟨LX,0,none⟩)]] w (fun e w'=>∃ (wa2:Option Addr) (wc2:Nat),e = .returned (.slice wa2 (kpN fs left l).length wc2)∧St w0 ((FX,[.slice fa fn fc],25)::(LX,[.int .i64 ((left:Int)+1)],3)::Ot) (⟨.slice wa2 (kpN fs left l).length wc2,(kpN fs left l).length,zI (nI (kpN fs left l)),3,1⟩::G) K w'):=by
 refine bD (args:=[.slice wa m wc,.func (.func 40) #[] #[.pointer (some ⟨FX,0,none⟩),.pointer (some ⟨LX,0,none⟩)]]) func39 rfl ntmps39 rfl ?_
 have hS:=hS0
 refine aC (aG (aB rfl rfl (aF (XF.thenN (aC (aG (aA rfl rfl (aA rfl rfl (aP (vs:=[_,_]) goes_51 rfl (nIxf_is FX LX fa fn fc fs left wa m wc l Kt Ot _ K w0 _ (hS.keep K (fun q hq=>by simp [hq])) hKt hFs hfn hl9 hm hlt hm4) rfl ?_)))))))))
 rintro e W9 ⟨⟨j0,rfl,hj0⟩,hS9⟩
 refine ⟨_,rfl,?_⟩
 clear hS;have hS:=hS9;clear hS9
 refine aB rfl rfl (aF (XF.thenN (aC (aC (aG (aA rfl rfl (dZ rfl rfl rfl (aF (XF.thenN (bA rfl (fun hc=>?_) (fun hc=>?_)))))))))))
 ·have hc12:=of_decide_eq_true hc;clear hc
  have hk:kpN fs left l=l:=by
   rcases hj0 with ⟨_,h⟩ | ⟨i,q,h,_⟩
   ·exact pJ h
   ·have h7:j0 = -1:=by simpa using hc12
    omega
  refine aC (aG (aA rfl rfl (aB rfl rfl (aF (XF.thenN (bK (XF.thenR (XF.res (bY results39 rfl) ?_))))))))
  rw [hk,hm]
  exact ⟨wa,wc,rfl,hS.keep K (fun q hq=>by simp [hq])⟩
 ·have hc12:=of_decide_eq_false hc;clear hc
  obtain ⟨i,q,rfl,hiq,hnq,hpre⟩:∃ (i q:Nat),j0=(i:Int)∧l[i]?=some q∧(¬ fs.getD q 0=(left:Int))∧∀ q∈l.take i,fs.getD q 0=(left:Int):=by
   rcases hj0 with ⟨h,_⟩ | h
   ·have h7:¬ j0 = -1:=by simpa using hc12
    exact absurd h h7
   ·exact h
  have hil:=(List.getElem?_eq_some_iff.1 hiq).1
  obtain ⟨sb,rfl⟩:=iA (hS.row 0 rfl) (by omega)
  have hdl:=DlI.start hiq hnq hpre
  refine aO (XF.thenN (aC (aC (aG (aA rfl rfl (aV rfl rfl (IntWalk.i64_in _ (by omega)) rfl (aB rfl rfl (aF (XF.thenN (aL (cD (fun m2 l2 W=>∃ (i j:Nat) (xs:List Nat),m2=m - j∧l2=[(0,.slice (some ⟨sb,0,none⟩) m wc),(1,.func (.func 40) #[] #[.pointer (some ⟨FX,0,none⟩),.pointer (some ⟨LX,0,none⟩)]),(5,.int .i64 (i:Int)),(6,.int .i64 (j:Int))]∧DlI fs left l xs i j∧St w0 ((FX,[.slice fa fn fc],25)::(LX,[.int .i64 ((left:Int)+1)],3)::Ot) (⟨.slice (some ⟨sb,0,none⟩) m wc,m,zI (nI xs),3,1⟩::G) K W) (m - (i+1)) ([(0,_),(1,_),(5,_),(6,_)]) ⟨rfl,rfl,rfl,rfl,trivial⟩ (⟨i,i+1,l,rfl,rfl,hdl,hS.keep K (fun q hq=>by simp [hq])⟩) ?_)))))))))))
  clear hS
  clear hdl hpre hnq hiq hil hj0
  rintro m2 l2 W ⟨i,j,xs,rfl,rfl,hdl,hS⟩
  have hxl:=hdl.len
  have hij:=hdl.lt
  have hjl:=hdl.le
  refine aC (aC (aG (aA rfl rfl (aA rfl rfl (bF underlying25 rfl rfl (bG rfl rfl rfl (aF (XF.thenN (bA rfl (fun hc=>?_) (fun hc=>?_))))))))))
  ·have hc19:=of_decide_eq_true hc;clear hc
   obtain ⟨q,hq⟩:∃ q,l[j]?=some q:=⟨_,List.getElem?_eq_getElem (by omega)⟩
   have hqn:=hlt q (List.mem_of_getElem? hq)
   have hmc:W.cell? ⟨sb,0+j * 1,none⟩=some (.int .i64 (q:Int)):=by
    rw [Nat.zero_add,Nat.mul_one]
    exact eM (hS.row 0 rfl) (nI_at (hdl.at_ hq))
   refine aO (XF.thenN (aC (aL (aC (aG (aA rfl rfl (aA rfl rfl (aS (j:=j) (b:=sb) (o:=0) (m:=m) (c:=wc) underlying25 sizeOf3 rfl rfl rfl (by omega) rfl rfl (aI isAgg3 rfl (hmc) rfl (aB rfl rfl (aF (XF.thenN (aC (aG (aA rfl rfl (aA rfl rfl (iC (vs:=[_]) (caps:=[_,_]) rfl pI rfl (pK FX LX fa fn fc fs left q Kt Ot _ K w0 _ (hS.keep K (fun q hq=>by simp [hq])) hKt hFs hfn hl9 hqn) rfl ?_)))))))))))))))))
   rintro e W9 ⟨rfl,hS9⟩
   refine ⟨_,rfl,?_⟩
   clear hS;have hS:=hS9;clear hS9
   refine cP rfl rfl (aF (XF.thenN (bA rfl (fun hc=>?_) (fun hc=>?_))))
   ·have hc29:=hc;clear hc
    refine aC (aG (aA rfl rfl (aA rfl rfl (aA rfl rfl (aS (j:=i) (b:=sb) (o:=0) (m:=m) (c:=wc) underlying25 sizeOf3 rfl rfl rfl (by omega) (by rw [Nat.zero_add,Nat.mul_one]) rfl ?_)))))
    refine nN (xs':=zI (nI (xs.set i q))) hS sizeOf3 rfl rfl rfl (by omega) (by rw [fY,dP];omega) nI_set fun W94 hS=>?_
    refine aF (XF.thenN (aG (aA rfl rfl (aV rfl rfl (IntWalk.i64_in _ (by omega)) rfl (aB rfl rfl (aF (XF.blkN (XF.thenN (aG (aA rfl rfl (aV rfl rfl (IntWalk.i64_in _ (by omega)) rfl (aB rfl rfl (aF ?_)))))))))))))
    have hq9:fs.getD q 0=(left:Int):=by simpa using hc29
    exact XF.round (m - (j+1)) [(0,_),(1,_),(5,_),(6,_)] (by omega) ⟨rfl,rfl,rfl,rfl,trivial⟩ ⟨i+1,j+1,xs.set i q,rfl,rfl,hdl.yes hq hq9,hS.keep K (fun q hq=>by simp [hq])⟩
   ·have hc29:=hc;clear hc
    refine aO (XF.blkN (XF.thenN (aG (aA rfl rfl (aV rfl rfl (IntWalk.i64_in _ (by omega)) rfl (aB rfl rfl (aF ?_)))))))
    have hq9:¬ fs.getD q 0=(left:Int):=by simpa using hc29
    exact XF.round (m - (j+1)) [(0,_),(1,_),(5,_),(6,_)] (by omega) ⟨rfl,rfl,rfl,rfl,trivial⟩ ⟨i,j+1,xs,rfl,rfl,hdl.no hq hq9,hS.keep K (fun q hq=>by simp [hq])⟩
  ·have hc19:=of_decide_eq_false hc;clear hc
   obtain rfl:j=m:=by omega
   have hkp:xs.take i=kpN fs left l:=by rw [hdl.kept,List.take_of_length_le (by omega)]
   have hrowc:i < wc:=by
    obtain ⟨a8,c8,e8,hc8⟩:=cN (hS.row 0 rfl)
    dsimp only at e8 hc8
    injection e8 with _ _ e8
    omega
   refine bS (XF.thenX (XF.thenX (XF.blkX (XF.thenN (aC (aG (aA rfl rfl (aA rfl rfl (opV (lH (j:=i) underlying25 sizeOf3 rfl rfl rfl (by omega)) rfl ?_)))))))))
   rw [if_neg (show ¬ wc=i by omega)]
   refine nO (j:=i) (nn:=j - i) (xs':=bP (zI (nI xs)) i (List.replicate (j - i) (.int .i64 0))) hS underlying25 zeroValue3 rfl rfl (by show some (Value.slice _ _ _)=some (Value.slice _ _ _);congr 2;simp [Addr.add];try (intro h9;omega)) (by omega) (by omega) rfl fun W95 hS=>?_
   refine aF (XF.thenN (aC (aG (aA rfl rfl (aA rfl rfl (op_cut (k:=i) hS 0 underlying25 sizeOf3 rfl rfl rfl (rfl) (by omega) rfl ?_))))))
   intro hS';clear hS;have hS:=hS';clear hS'
   refine aB rfl rfl (aF (XF.thenN (bK (XF.res (bY results39 rfl) ?_))))
   have hlen9:(kpN fs left l).length=i:=by rw [← hkp,List.length_take];omega
   rw [hlen9]
   have hcs9:(bP (zI (nI xs)) i (List.replicate (j - i) (.int .i64 0))).take (i * 1)=zI (nI (kpN fs left l)):=by
    rw [Nat.mul_one,lW _ _ _ (by rw [fY,dP];omega),← hkp]
    unfold zI nI
    rw [List.map_map,List.map_map,List.map_take]
   have hS9:=hS.castG (G':=(⟨.slice (some ⟨sb,0,none⟩) i wc,i,zI (nI (kpN fs left l)),3,1⟩::G)) (by show GR.mk _ _ _ _ _::_=_;rw [hcs9])
   exact ⟨_,_,rfl,hS9.keep K (fun q hq=>by simp [hq])⟩
def LmI (S:ArV→Prop) (x:Int):Prop:=(x = -1∧∀ t,¬ S t)∨(0≤x∧(∃ t,S t∧x=max t.s 0)∧∀ t,S t→x≤max t.s 0)
theorem LmI.congr {S R:ArV→Prop} {x:Int} (h:LmI S x) (e:∀ t,S t↔R t):LmI R x:=by
 have:S=R:=funext fun t=>propext (e t)
 rw [← this];exact h
theorem LmI.add {S:ArV→Prop} {x:Int} {t:ArV} (h:LmI S x) (hx:x < 0∨max t.s 0 < x):LmI (fun u=>S u∨u=t) (max t.s 0):=by
 refine .inr ⟨by omega,⟨t,.inr rfl,rfl⟩,fun u hu=>?_⟩
 rcases hu with hu | rfl
 ·rcases h with ⟨h1,h2⟩ | ⟨h1,h2,h3⟩
  ·exact absurd hu (h2 u)
  ·have:=h3 u hu;omega
 ·exact Int.le_refl _
theorem LmI.stay {S:ArV→Prop} {x:Int} {t:ArV} (h:LmI S x) (h0:¬ x < 0) (h1:¬ max t.s 0 < x):LmI (fun u=>S u∨u=t) x:=by
 rcases h with ⟨h2,h3⟩ | ⟨h2,⟨u,h3,h4⟩,h5⟩
 ·omega
 ·refine .inr ⟨h2,⟨u,.inl h3,h4⟩,fun v hv=>?_⟩
  rcases hv with hv | rfl
  ·exact h5 v hv
  ·omega
def LkS (L:List ArV) (fs:List Int) (n:Nat) (lp:List Nat) (i p z:Nat) (t:ArV):Prop:=((∃ p2∈lp.take i,t∈outs L p2)∨t∈(outs L p).take z)∧t.s ≠ -1∧fs.getD t.q.toNat 0=(n:Int)
section
variable {L:List ArV} {fs:List Int} {n i p z:Nat} {lp:List Nat} {t:ArV} {x:Int}
theorem qT:LmI (LkS L fs n lp 0 p 0) (-1):=.inl ⟨rfl,fun t h=>by rcases h.1 with ⟨q,h1,_⟩ | h1<;>cases h1⟩
theorem lks_any {p2:Nat} (h:LmI (LkS L fs n lp i p 0) x):LmI (LkS L fs n lp i p2 0) x:=h.congr fun t=>by unfold LkS;simp
theorem sN (h:LmI (LkS L fs n lp i p z) x) (ht:(outs L p)[z]?=some t) (h1:t.s = -1∨fs.getD t.q.toNat 0≠(n:Int)):LmI (LkS L fs n lp i p (z+1)) x:=h.congr fun u=>by
 unfold LkS
 rw [List.take_add_one,ht]
 constructor
 ·rintro ⟨h2,h3⟩
  exact ⟨h2.imp id (List.mem_append_left _),h3⟩
 ·rintro ⟨h2 | h2,h3⟩
  ·exact ⟨.inl h2,h3⟩
  ·rcases List.mem_append.1 h2 with h2 | h2
   ·exact ⟨.inr h2,h3⟩
   ·obtain rfl:u=t:=by simpa using h2
    exact h1.elim (fun h=>absurd h h3.1) (fun h=>absurd h3.2 h)
theorem lX (h:LmI (fun u=>LkS L fs n lp i p z u∨u=t) x) (ht:(outs L p)[z]?=some t) (h1:t.s ≠ -1) (h2:fs.getD t.q.toNat 0=(n:Int)):LmI (LkS L fs n lp i p (z+1)) x:=h.congr fun u=>by
 unfold LkS
 rw [List.take_add_one,ht]
 constructor
 ·rintro (⟨h2,h3⟩ | rfl)
  ·exact ⟨h2.imp id (List.mem_append_left _),h3⟩
  ·exact ⟨.inr (List.mem_append_right _ (by simp)),h1,h2⟩
 ·rintro ⟨h2 | h2,h3⟩
  ·exact .inl ⟨.inl h2,h3⟩
  ·rcases List.mem_append.1 h2 with h2 | h2
   ·exact .inl ⟨.inr h2,h3⟩
   ·exact .inr (by simpa using h2)
theorem sO (h:LmI (LkS L fs n lp i p (outs L p).length) x) (hp:lp[i]?=some p):LmI (LkS L fs n lp (i+1) 0 0) x:=h.congr fun u=>by
 unfold LkS
 rw [List.take_of_length_le (Nat.le_refl _),List.take_add_one,hp]
 constructor
 ·rintro ⟨⟨p2,h1,h2⟩ | h2,h3⟩
  ·exact ⟨.inl ⟨p2,List.mem_append_left _ h1,h2⟩,h3⟩
  ·exact ⟨.inl ⟨p,List.mem_append_right _ (by simp),h2⟩,h3⟩
 ·rintro ⟨⟨p2,h1,h2⟩ | h2,h3⟩
  ·rcases List.mem_append.1 h1 with h1 | h1
   ·exact ⟨.inl ⟨p2,h1,h2⟩,h3⟩
   ·obtain rfl:p2=p:=by simpa using h1
    exact ⟨.inr h2,h3⟩
  ·cases h2
theorem lks_end (h:LmI (LkS L fs n lp lp.length 0 0) x):LmI (fun t=>(∃ p∈lp,t∈outs L p)∧t.s ≠ -1∧fs.getD t.q.toNat 0=(n:Int)) x:=h.congr fun u=>by
 unfold LkS
 rw [List.take_of_length_le (Nat.le_refl _)]
 constructor
 ·rintro ⟨h2 | h2,h3⟩
  ·exact ⟨h2,h3⟩
  ·cases h2
 ·rintro ⟨h2,h3⟩
  exact ⟨.inl h2,h3⟩
end
theorem lY (n:Nat) (L:List ArV) (OB:Nat) (va:Nat→Option Addr) (vc:Nat→Nat) (RB SB:Nat) (r0:Int) (la:Option Addr) (ll lc:Nat) (lp:List Nat) (fa:Option Addr) (fc:Nat) (fs:List Int) (left:Nat) (Kt:List (Nat×World)) (Ot:Own) (G:aQ) (K:List (Nat×World)) (w0 w:World) (hS0:St w0 ((RB,[.slice (some ⟨OB,0,none⟩) n n,.slice (some ⟨SB,0,none⟩) n n,.int .i64 r0],73)::Ot) G K w) (hKt:∀ q∈Kt,q∈K) (hOut:bJ w0 Kt (fun W=>iF W OB n L va vc)) (hLs:bJ w0 Kt (fun W=>Row W la (nI lp))) (hFs:bJ w0 Kt (fun W=>Row W fa fs)) (hll:lp.length=ll) (hln:ll≤n) (hlt:∀ p∈lp,p < n) (hq:∀ t∈L,0≤t.q∧t.q < (n:Int)) (hLl:L.length≤65536) (hfl:fs.length=n) (hn4:n≤4096) (hl9:left≤1000000) :
  Calls prog 38 #[.pointer (some ⟨RB,0,none⟩),.slice la ll lc,.slice fa n fc,.int .i64 ((left:Int)+1)] w (fun e w'=>∃ x:Int,e = .returned (.int .i64 x)∧LmI (fun t=>(∃ p∈lp,t∈outs L p)∧t.s ≠ -1∧fs.getD t.q.toNat 0=(left:Int)) x∧St w0 ((RB,[.slice (some ⟨OB,0,none⟩) n n,.slice (some ⟨SB,0,none⟩) n n,.int .i64 r0],73)::Ot) G K w'):=by
 refine bD (args:=[.pointer (some ⟨RB,0,none⟩),.slice la ll lc,.slice fa n fc,.int .i64 ((left:Int)+1)]) func38 rfl ntmps38 rfl ?_
 have hS:=hS0
 refine aC (aG (aB rfl rfl (aF (XF.thenN (aC (aG (aB rfl rfl (aF (XF.thenN (aC (aC (aG (aA rfl rfl (bF underlying25 rfl rfl (aA rfl rfl (aF (XF.thenN (aL (cD (fun m l W=>∃ (i:Nat) (x:Int),i≤ll∧m=ll - i∧l=[(0,.pointer (some ⟨RB,0,none⟩)),(2,.slice fa n fc),(3,.int .i64 ((left:Int)+1)),(9,.int .i64 x),(15,.slice la ll lc),(16,.int .i64 (ll:Int)),(17,.int .i64 (i:Int))]∧LmI (LkS L fs left lp i 0 0) x∧St w0 ((RB,[.slice (some ⟨OB,0,none⟩) n n,.slice (some ⟨SB,0,none⟩) n n,.int .i64 r0],73)::Ot) G K W) (ll - 0) ([(0,_),(2,_),(3,_),(9,_),(15,_),(16,_),(17,_)]) ⟨rfl,rfl,rfl,rfl,rfl,rfl,rfl,trivial⟩ (⟨0,-1,Nat.zero_le _,rfl,rfl,qT,hS.keep K (fun q hq=>by simp [hq])⟩) ?_)))))))))))))))))))
 clear hS
 rintro m l W ⟨i,x,hi,rfl,rfl,hlm,hS⟩
 refine aC (aG (bG rfl rfl rfl (aF (XF.thenN (aC (bA rfl (fun hc=>?_) (fun hc=>?_)))))))
 ·have hc18:=of_decide_eq_true hc;clear hc
  obtain ⟨p,hp⟩:∃ p,lp[i]?=some p:=⟨_,List.getElem?_eq_getElem (by omega)⟩
  have hpn:=hlt p (List.mem_of_getElem? hp)
  obtain ⟨b,off,y,hla,hy,hyc⟩:=(hLs (hS.keep K (fun q hq=>by simp [hq])) hKt).at1 (show i < (nI lp).length by rw [dP];omega)
  obtain rfl:y=(p:Int):=by unfold nI at hy;rw [List.getElem?_map,hp] at hy;exact (Option.some.inj hy).symm
  obtain ⟨hoc,_⟩:=hOut (hS.keep K (fun q hq=>by simp [hq])) hKt p hpn
  have hol9:(outs L p).length≤65536:=Nat.le_trans (List.length_filter_le _ _) hLl
  have hlm2:=lks_any (p2:=p) hlm
  refine aO (XF.thenN (aC (aL (aC (aG ?_)))))
  refine aS (j:=i) (b:=b) (o:=off) (m:=ll) (c:=lc) underlying25 sizeOf3 (by show some (Value.slice _ _ _)=_;rw [hla]) rfl rfl (by omega) rfl rfl ?_
  refine aI isAgg3 rfl (hyc) rfl (aB rfl rfl (aF (XF.thenN (aC (aG (aA rfl rfl (aY rfl rfl (aH (o':=0) gH rfl rfl rfl (aI isAgg71 rfl (aE (hS.at_ 0 rfl) rfl) rfl (aA rfl rfl (aS (j:=p) (b:=OB) (o:=0) (m:=n) (c:=n) underlying71 sizeOf22 rfl rfl rfl (by omega) rfl rfl (aI isAgg22 rfl (hoc) rfl (bF underlying22 rfl rfl (aA rfl rfl (aF (XF.thenN (aL (cD (fun m l W=>∃ (z:Nat) (x:Int),z≤(outs L p).length∧m=(outs L p).length - z∧l=[(0,.pointer (some ⟨RB,0,none⟩)),(2,.slice fa n fc),(3,.int .i64 ((left:Int)+1)),(9,.int .i64 x),(15,.slice la ll lc),(16,.int .i64 (ll:Int)),(17,.int .i64 (i:Int)),(27,.slice (va p) (outs L p).length (vc p)),(28,.int .i64 ((outs L p).length:Int)),(29,.int .i64 (z:Int))]∧LmI (LkS L fs left lp i p z) x∧St w0 ((RB,[.slice (some ⟨OB,0,none⟩) n n,.slice (some ⟨SB,0,none⟩) n n,.int .i64 r0],73)::Ot) G K W) ((outs L p).length - 0) ([(0,_),(2,_),(3,_),(9,_),(15,_),(16,_),(17,_),(27,_),(28,_),(29,_)]) ⟨rfl,rfl,rfl,rfl,rfl,rfl,rfl,rfl,rfl,rfl,trivial⟩ (⟨0,x,Nat.zero_le _,rfl,rfl,hlm2,hS.keep K (fun q hq=>by simp [hq])⟩) ?_))))))))))))))))))
  clear hS
  have hil:i < ll:=by omega
  clear hlm hlm2 hi hoc hyc hy
  rintro m l W ⟨z,x,hz,rfl,rfl,hlm,hS⟩
  refine aC (aG (bG rfl rfl rfl (aF (XF.thenN (aC (bA rfl (fun hc=>?_) (fun hc=>?_)))))))
  ·have hc30:=of_decide_eq_true hc;clear hc
   obtain ⟨t,ht⟩:∃ t,(outs L p)[z]?=some t:=⟨_,List.getElem?_eq_getElem (by omega)⟩
   obtain ⟨b,off,haa,hcs⟩:=(hOut (hS.keep K (fun q hq=>by simp [hq])) hKt p hpn).2 z t ht
   have k1:=hcs
   obtain ⟨hq0,hq1⟩:=hq t (List.mem_filter.1 (List.mem_of_getElem? ht)).1
   obtain ⟨qn,hqn⟩:∃ k:Nat,t.q=(k:Int):=⟨t.q.toNat,by omega⟩
   have hqn2:t.q.toNat=qn:=by omega
   refine aO (XF.thenN (aC (aL (aC (aG ?_)))))
   refine aS (j:=z) (b:=b) (o:=off) (m:=(outs L p).length) (c:=vc p) underlying22 sizeOf57 (by show some (Value.slice _ _ _)=_;rw [haa]) rfl rfl (by omega) rfl rfl ?_
   refine aM (vs:=[_,_,_]) isAgg57 sizeOf57 rfl k1 rfl (bH (cs:=[_,_,_]) hS zeroValue57 rfl rfl fun B1 W1 hS=>bI (i:=0) (vs:=[_,_,_]) (cs':=[_,_,_]) (O':=(_::_::Ot)) hS sizeOf57 rfl rfl rfl rfl rfl rfl rfl fun W2 hS=>aF (XF.thenN (aC (aC ?_))))
   obtain ⟨b2,off2,y2,hfa,hy2,hyc2⟩:=(hFs (hS.keep K (fun q hq=>by simp [hq])) hKt).at1 (show qn < fs.length by omega)
   have hy3:fs.getD qn 0=y2:=by rw [List.getD_eq_getElem?_getD,hy2];rfl
   refine aG (aH (o':=1) eC rfl rfl rfl (aI isAgg3 rfl (aE (hS.at_ 0 rfl) rfl) rfl (dZ rfl rfl rfl (aA rfl rfl (bM (d:=36) rfl (fun hc=>?_) (fun hc=>?_))))))
   ·have hg36:=of_decide_eq_true hc;clear hc
    refine aJ (d:=36) rfl rfl rfl rfl (aJ (d:=36) rfl rfl rfl rfl (aJ (d:=36) rfl rfl rfl rfl (aJ (d:=36) rfl rfl rfl rfl (aJ (d:=36) rfl rfl rfl rfl (aJ (d:=36) rfl rfl rfl rfl (aJ (d:=36) rfl rfl rfl rfl (aJ (d:=36) rfl rfl rfl rfl (aR rfl rfl rfl (aF (XF.thenN (cT rfl (bS (XF.thenX (XF.blkX (XF.thenN (aG (aV rfl rfl (IntWalk.i64_in _ (by omega)) rfl (aA rfl rfl (aF ?_)))))))))))))))))))
    exact XF.round ((outs L p).length - (z+1)) [(0,_),(2,_),(3,_),(9,_),(15,_),(16,_),(17,_),(27,_),(28,_),(29,_)] (by omega) ⟨rfl,rfl,rfl,rfl,rfl,rfl,rfl,rfl,rfl,rfl,trivial⟩ ⟨z+1,x,by omega,rfl,rfl,sN hlm ht (.inl (by simpa using hg36)),hS.tail.keep K (fun q hq=>by simp [hq])⟩
   ·have hg36:=of_decide_eq_false hc;clear hc
    refine aD (d:=36) rfl rfl (aA rfl rfl (aD (d:=36) rfl rfl (aH (o':=2) eO rfl rfl rfl (aD (d:=36) rfl rfl (aI isAgg3 rfl (aE (hS.at_ 0 rfl) rfl) rfl (aD (d:=36) rfl rfl ?_))))))
    refine aS (j:=qn) (b:=b2) (o:=off2) (m:=n) (c:=fc) underlying25 sizeOf3 (by show some (Value.slice _ _ _)=_;rw [hfa]) rfl hqn (by omega) rfl rfl ?_
    refine aD (d:=36) rfl rfl (aI isAgg3 rfl (hyc2) rfl (aD (d:=36) rfl rfl (aA rfl rfl (aD (d:=36) rfl rfl (lG rfl rfl (IntWalk.i64_in _ (by omega)) rfl (aD (d:=36) rfl rfl (fB rfl rfl rfl (aW rfl rfl rfl (aF (XF.thenN (bA rfl (fun hc=>?_) (fun hc=>?_))))))))))))
    ·have hc45:=of_decide_eq_true hc;clear hc
     refine bS (XF.thenX (XF.blkX (XF.thenN (aG (aV rfl rfl (IntWalk.i64_in _ (by omega)) rfl (aA rfl rfl (aF ?_)))))))
     exact XF.round ((outs L p).length - (z+1)) [(0,_),(2,_),(3,_),(9,_),(15,_),(16,_),(17,_),(27,_),(28,_),(29,_)] (by omega) ⟨rfl,rfl,rfl,rfl,rfl,rfl,rfl,rfl,rfl,rfl,trivial⟩ ⟨z+1,x,by omega,rfl,rfl,sN hlm ht (.inr (by rw [hqn2,hy3];simpa using hc45)),hS.tail.keep K (fun q hq=>by simp [hq])⟩
    ·have hc45:=of_decide_eq_false hc;clear hc
     have hs1:t.s ≠ -1:=by simpa using hg36
     have hs2:fs.getD t.q.toNat 0=(left:Int):=by rw [hqn2,hy3];simpa using hc45
     refine aO (XF.thenN (aC (aG (aH (o':=1) eC rfl rfl rfl (aI isAgg3 rfl (aE (hS.at_ 0 rfl) rfl) rfl (op_max rfl rfl rfl (aB rfl rfl (aF (XF.thenN (aC (aG (aA rfl rfl (bG rfl rfl rfl (aA rfl rfl (bM (d:=51) rfl (fun hc=>?_) (fun hc=>?_))))))))))))))))
     ·have hg51:=of_decide_eq_true hc;clear hc
      refine aJ (d:=51) rfl rfl rfl rfl (aJ (d:=51) rfl rfl rfl rfl (aJ (d:=51) rfl rfl rfl rfl (aR rfl rfl rfl (aF (XF.thenN (cT rfl (aG (aA rfl rfl (aB rfl rfl (aF (XF.blkN (XF.thenN (aG (aV rfl rfl (IntWalk.i64_in _ (by omega)) rfl (aA rfl rfl (aF ?_))))))))))))))))
      exact XF.round ((outs L p).length - (z+1)) [(0,_),(2,_),(3,_),(9,_),(15,_),(16,_),(17,_),(27,_),(28,_),(29,_)] (by omega) ⟨rfl,rfl,rfl,rfl,rfl,rfl,rfl,rfl,rfl,rfl,trivial⟩ ⟨z+1,max t.s 0,by omega,rfl,rfl,lX (hlm.add (.inl (by simpa using hg51))) ht hs1 hs2,hS.tail.keep K (fun q hq=>by simp [hq])⟩
     ·have hg51:=of_decide_eq_false hc;clear hc
      refine aD (d:=51) rfl rfl (aA rfl rfl (aD (d:=51) rfl rfl (aA rfl rfl (aD (d:=51) rfl rfl (bG rfl rfl rfl (aW rfl rfl rfl (aF (XF.thenN (bA rfl (fun hc=>?_) (fun hc=>?_))))))))))
      ·have hc55:=of_decide_eq_true hc;clear hc
       refine aG (aA rfl rfl (aB rfl rfl (aF (XF.blkN (XF.thenN (aG (aV rfl rfl (IntWalk.i64_in _ (by omega)) rfl (aA rfl rfl (aF ?_)))))))))
       exact XF.round ((outs L p).length - (z+1)) [(0,_),(2,_),(3,_),(9,_),(15,_),(16,_),(17,_),(27,_),(28,_),(29,_)] (by omega) ⟨rfl,rfl,rfl,rfl,rfl,rfl,rfl,rfl,rfl,rfl,trivial⟩ ⟨z+1,max t.s 0,by omega,rfl,rfl,lX (hlm.add (.inr (by simpa using hc55))) ht hs1 hs2,hS.tail.keep K (fun q hq=>by simp [hq])⟩
      ·have hc55:=of_decide_eq_false hc;clear hc
       refine aO (XF.blkN (XF.thenN (aG (aV rfl rfl (IntWalk.i64_in _ (by omega)) rfl (aA rfl rfl (aF ?_))))))
       exact XF.round ((outs L p).length - (z+1)) [(0,_),(2,_),(3,_),(9,_),(15,_),(16,_),(17,_),(27,_),(28,_),(29,_)] (by omega) ⟨rfl,rfl,rfl,rfl,rfl,rfl,rfl,rfl,rfl,rfl,trivial⟩ ⟨z+1,x,by omega,rfl,rfl,lX (hlm.stay (by simpa using hg51) (by simpa using hc55)) ht hs1 hs2,hS.tail.keep K (fun q hq=>by simp [hq])⟩
  ·have hc30:=of_decide_eq_false hc;clear hc
   obtain rfl:z=(outs L p).length:=by omega
   refine bS (XF.thenX (XF.thenX (XF.blkX (XF.blkN (XF.thenN (aG (aV rfl rfl (IntWalk.i64_in _ (by omega)) rfl (aA rfl rfl (aF ?_)))))))))
   exact XF.round (ll - (i+1)) [(0,_),(2,_),(3,_),(9,_),(15,_),(16,_),(17,_)] (by omega) ⟨rfl,rfl,rfl,rfl,rfl,rfl,rfl,trivial⟩ ⟨i+1,x,by omega,rfl,rfl,sO hlm hp,hS.keep K (fun q hq=>by simp [hq])⟩
 ·have hc18:=of_decide_eq_false hc;clear hc
  obtain rfl:i=ll:=by omega
  have hlm9:LmI (LkS L fs left lp lp.length 0 0) x:=by rw [hll];exact hlm
  refine bS (XF.thenX (XF.thenX (XF.blkX (XF.thenN (aC (aG (aA rfl rfl (aB rfl rfl (aF (XF.thenN (bK (XF.res (bY results38 rfl) ?_))))))))))))
  exact ⟨x,rfl,lks_end hlm9,hS.keep K (fun q hq=>by simp [hq])⟩
theorem goes_36:aZ prog 36=true:=by kernel_rfl
theorem iK {n:Nat} {k:Int} {L:List ArV} (ho:fK n k L):∀ (w:List Int) {P:Nat→Prop},(∀ q,P q→q < n)→∀ q,dV L P w q→q < n
 | [],_,h,q,hq=>h q hq
 | x::w,P,h,q,hq=>iK ho w (fun q h1=>jT ho (fun q h2=>by_lt ho h2) h1) q hq
theorem iL (a:NfV) (wa:Option Addr) (wl wc:Nat) (ws:List Int) (w:World) (hA0:NIn w a) (hW:Row w wa ws) (hwl:ws.length=wl) (hwm:wl≤9223372036854775807) :
  Calls prog 16 #[a.val,.slice wa wl wc] w (fun e w'=>∃ b:Bool,e = .returned (.tuple #[.bool b,.int .i64 (dO a ws)])∧(dO a ws=0→(b=true↔AccN a ws))∧(dO a ws≠0→b=false)∧Below w.heap.size w w'):=by
 refine bD (args:=[a.val,.slice wa wl wc]) func16 rfl ntmps16 rfl ?_
 have hS:=St.start w
 have hA:bJ w [] (fun W=>NIn W a):=kF hA0
 refine aC (aG (bZ (cs:=[_,_,_,_,_]) hS rfl rfl rfl fun B1 W1 hS=>aB rfl rfl (aB rfl rfl (aF (XF.thenN (aC (aC (aG (aM (vs:=[_,_,_,_,_]) isAgg24 sizeOf24 rfl (aK.own (j:=0) (m:=5) (hS.at_ 0 rfl) rfl) rfl (bV (vs:=[_]) hS lR rfl (lS a _ (hA0.below hS.below)) rfl fun W2 hS=>aB rfl rfl (aF (XF.thenN (aC (aG (aA rfl rfl (fB rfl rfl rfl (aF (XF.thenN (bA rfl (fun hc=>?_) (fun hc=>?_))))))))))))))))))))
 ·have hc16:=of_decide_eq_true hc;clear hc
  refine aC (aG (aA rfl rfl (aB rfl rfl (aB rfl rfl (aF (XF.thenN (bK (XF.thenR (XF.res (kM results16 rfl rfl) ?_)))))))))
  have h9:dO a ws=dH a:=by unfold dO;rw [if_pos hc16]
  exact ⟨false,by rw [h9],fun h=>absurd (h9▸h) hc16,fun _=>rfl,hS.below⟩
 ·have hc16:=of_decide_eq_false hc;clear hc
  refine aO (XF.thenN (aC (aC (aG (aA rfl rfl (bF underlying25 rfl rfl (aA rfl rfl (aF (XF.thenN (aL (cD (fun m l W=>∃ i:Nat,i≤wl∧m=wl - i∧l=[(1,.slice wa wl wc),(2,.pointer (some ⟨B1,0,none⟩)),(18,.slice wa wl wc),(19,.int .i64 (wl:Int)),(20,.int .i64 (i:Int))]∧(ws.take i).all (fun s=>inQ s a.sy)=true∧St w [(B1,a.cells,24)] [] [] W) (wl - 0) ([(1,_),(2,_),(18,_),(19,_),(20,_)]) ⟨rfl,rfl,rfl,rfl,rfl,trivial⟩ (⟨0,Nat.zero_le _,rfl,rfl,rfl,hS.clear⟩) ?_)))))))))))
  clear hS
  rintro m l W ⟨i,hi,rfl,rfl,hall,hS⟩
  refine aC (aG (bG rfl rfl rfl (aF (XF.thenN (aC (bA rfl (fun hc=>?_) (fun hc=>?_)))))))
  ·have hc21:=of_decide_eq_true hc;clear hc
   obtain ⟨b,off,y,hwa,hy,hyc⟩:=hW.at1 (show i < ws.length by omega)
   have k2:=hS.old hyc
   refine aO (XF.thenN (aC (aL (aC (aG ?_)))))
   refine aS (j:=i) (b:=b) (o:=off) (m:=wl) (c:=wc) underlying25 sizeOf3 (by show some (Value.slice _ _ _)=_;rw [hwa]) rfl rfl (by omega) rfl rfl ?_
   refine aI isAgg3 rfl (k2) rfl (aB rfl rfl (aF (XF.thenN (aC (aG (aM (vs:=[_,_,_,_,_]) isAgg24 sizeOf24 rfl (aK.own (j:=0) (m:=5) (hS.at_ 0 rfl) rfl) rfl (aA rfl rfl (bV (vs:=[_,_]) hS pH rfl (kY a y _) rfl fun W3 hS=>cP rfl rfl (aF (XF.thenN (bA rfl (fun hc=>?_) (fun hc=>?_))))))))))))
   ·have hc27:=hc;clear hc
    refine aC (aG (aB rfl rfl (aB rfl rfl (aF (XF.thenN (bK (XF.blkR (XF.thenR (XF.thenR (XF.blkR (XF.thenR (XF.res (kM results16 rfl rfl) ?_))))))))))))
    have h9:dO a ws=102:=by unfold dO;rw [if_neg hc16,if_neg (by rw [dE hy (by simpa using hc27)];decide)]
    exact ⟨false,by rw [h9],fun h=>absurd (h9▸h) (by decide),fun _=>rfl,hS.below⟩
   ·have hc27:=hc;clear hc
    refine aO (XF.blkN (XF.thenN (aG (aV rfl rfl (IntWalk.i64_in _ (by omega)) rfl (aA rfl rfl (aF ?_))))))
    exact XF.round (wl - (i+1)) [(1,_),(2,_),(18,_),(19,_),(20,_)] (by omega) ⟨rfl,rfl,rfl,rfl,rfl,trivial⟩ ⟨i+1,by omega,rfl,rfl,fX hy hall (by simpa using hc27),hS.clear⟩
  ·have hc21:=of_decide_eq_false hc;clear hc
   rw [List.take_of_length_le (by omega)] at hall
   have h0:dH a=0:=Decidable.of_not_not hc16
   have hE:dO a ws=0:=by unfold dO;rw [if_neg hc16,if_pos hall]
   obtain ⟨n,k,s,e9,hn,hk,hs0,he0,hn1,hn4,hk4,hsn,hen,hal,hO⟩:=gG h0
   have hlen:=hA0.alen
   have hw1:IntKind.i64.wrap (0+1)=1:=by decide
   have hKt:∀ q∈([]:List (Nat×World)),q∈([]:List (Nat×World)):=fun q hq=>hq
   refine bS (XF.thenX (XF.thenX (XF.blkX (XF.thenN (aC (aG (aM (vs:=[_,_,_,_,_]) isAgg24 sizeOf24 rfl (aK.own (j:=0) (m:=5) (hS.at_ 0 rfl) rfl) rfl (aP (vs:=[_]) iH rfl (iG a n (k:Int) [] _ [] [] w _ (hS.keep [] (fun q hq=>by cases hq)) hKt hA hn hn1 hn4 hal hO) rfl ?_))))))))
   rintro e W9 ⟨RB,SB,OB,va,vc,K1,rfl,hk1,hOut,hS9⟩
   refine ⟨_,rfl,?_⟩
   clear hS;have hS:=hS9;clear hS9
   refine aB rfl rfl (aF (XF.thenN (aC (aG (aA rfl rfl (aH (o':=2) dN rfl rfl rfl (aI isAgg3 rfl (aE (hS.at_ 2 rfl) rfl) rfl (bC (us:=[(0,.int .i64 _)]) hS underlying25 sizeOf3 zeroValue3 rfl rfl rfl (dM _) rfl fun B4 W4 hS=>?_))))))))
   obtain ⟨K2,k2,g2,hS2⟩:=(hS.keep K1 (fun q hq=>by simp [hq])).ownKeepN
   clear hS;have hS:=hS2;clear hS2
   refine aP (vs:=[_,_]) fG rfl (eE n a.ar OB va vc RB SB 0 1 (List.replicate n 0) (some ⟨B4,0,none⟩) 1 1 [a.s0] K2 _ [] K2 w _ hS (fun q hq=>hq) (hOut.moreN k2) (fun h9 hk9=>.inr ⟨_,0,rfl,fun i hi=>by obtain rfl:i=0:=(by simpa using hi);exact aE (g2 h9 hk9) rfl⟩) rfl (by decide) (fun y hy=>(by obtain rfl:y=a.s0:=(by simpa using hy);omega)) (kR hO) (by omega) (by simp) hw1 (iU (by decide)) hn4) rfl ?_
   rintro e W9 ⟨l1,wa1,wc1,ss1,K3,hH1,rfl,hle1,hsl1,hsf1,hk3,hR1,hS9⟩
   refine ⟨_,rfl,?_⟩
   clear hS;have hS:=hS9;clear hS9
   refine aB rfl rfl (aF (XF.thenN (aC (aC (aG (aA rfl rfl (bF underlying25 rfl rfl (aA rfl rfl (aF (XF.thenN (aL ?_)))))))))))
   refine cD (fun m l W=>∃ (i:Nat) (l9:List Nat) (la:Option Addr) (lc:Nat) (r0:Int) (ss:List Int) (Kk:List (Nat×World)),i≤wl∧m=wl - i∧l=[(2,.pointer (some ⟨B1,0,none⟩)),(9,.pointer (some ⟨RB,0,none⟩)),(10,.slice la l9.length lc),(36,.slice wa wl wc),(37,.int .i64 (wl:Int)),(38,.int .i64 (i:Int))]∧(∀ q:Nat,q∈l9↔dV a.ar (Hd a.ar (fun q:Nat=>(q:Int)=a.s0)) (ws.take i) q)∧l9.length≤n∧ss.length=n∧(i < wl→r0=(i:Int)+1∧∀ y∈ss,0≤y∧y≤(i:Int)+1)∧(∀ q∈K1,q∈Kk)∧bJ w Kk (fun W=>Row W la (nI l9))∧St w ((RB,[.slice (some ⟨OB,0,none⟩) n n,.slice (some ⟨SB,0,none⟩) n n,.int .i64 r0],73)::(SB,zI ss,3)::(B1,a.cells,24)::[]) [] Kk W) (wl - 0) ([(2,_),(9,_),(10,_),(36,_),(37,_),(38,_)]) ⟨rfl,rfl,rfl,rfl,rfl,rfl,trivial⟩ (⟨0,l1,wa1,wc1,1,ss1,K3,Nat.zero_le _,rfl,rfl,fun q=>(by rw [hH1.at_];exact dC (fun q=>by simp) q),hle1,hsl1,fun _=>⟨rfl,fun y hy=>(hsf1 y hy).elim (fun h=>by rw [List.eq_of_mem_replicate h];decide) (fun h=>by rw [h];decide)⟩,fun q hq=>hk3 q (k2 q hq),hR1,hS.keep K3 (fun q hq=>by simp [hq])⟩) ?_
   clear hS
   rintro m l W ⟨i,l9,la,lc,r0,ss,Kk,hi,rfl,rfl,hmem,hl9,hsl,hrr,hkk,hRl,hS⟩
   refine aC (aG (bG rfl rfl rfl (aF (XF.thenN (aC (bA rfl (fun hc=>?_) (fun hc=>?_)))))))
   ·have hc39:=of_decide_eq_true hc;clear hc
    have hrn:∀ q,dV a.ar (Hd a.ar (fun q:Nat=>(q:Int)=a.s0)) (ws.take i) q→q < n:=iK hO _ (fun q h=>jT hO (fun q h2=>by omega) h)
    obtain ⟨b,off,y,hwa,hy,hyc⟩:=hW.at1 (show i < ws.length by omega)
    have k9:=hS.old hyc
    obtain ⟨hr0,hss⟩:=hrr (by omega)
    have hwn:=sM (k:=(i:Int)+2) (by omega) (by omega)
    obtain ⟨r,hr⟩:∃ r,IntKind.i64.wrap (r0+1)=r:=⟨_,rfl⟩
    have hr2:IntKind.i64.wrap ((i:Int)+2)=r:=by rw [← hr,hr0];congr 1
    rw [hr2] at hwn
    refine aO (XF.thenN (aC (aL (aC (aG ?_)))))
    refine aS (j:=i) (b:=b) (o:=off) (m:=wl) (c:=wc) underlying25 sizeOf3 (by show some (Value.slice _ _ _)=_;rw [hwa]) rfl rfl (by omega) rfl rfl ?_
    refine aI isAgg3 rfl (k9) rfl (aB rfl rfl (aF (XF.thenN (aG (aA rfl rfl (aA rfl rfl (aA rfl rfl ?_)))))))
    refine aP (vs:=[_,_,_]) lU rfl (sJ n a.ar OB va vc RB SB r0 r ss la l9.length lc l9 y Kk _ [] Kk w _ (hS.keep Kk (fun q hq=>by simp [hq])) (fun q hq=>hq) (hOut.moreN hkk) hRl rfl hl9 (fun p hp=>(by
     have h7:=(hmem p).1 hp
     exact hrn p h7)) (kR hO) (by omega) hsl hr (fun z hz=>(by have:=hss z hz;omega)) hn4) rfl ?_
    rintro e W9 ⟨l2,wa2,wc2,ss2,K4,hH2,rfl,hle2,hsl2,hsf2,hk4,hR2,hS9⟩
    refine ⟨_,rfl,?_⟩
    clear hS;have hS:=hS9;clear hS9
    refine aB rfl rfl (aF (XF.blkN (XF.thenN (aG (aV rfl rfl (IntWalk.i64_in _ (by omega)) rfl (aA rfl rfl (aF ?_)))))))
    exact XF.round (wl - (i+1)) [(2,_),(9,_),(10,_),(36,_),(37,_),(38,_)] (by omega) ⟨rfl,rfl,rfl,rfl,rfl,rfl,trivial⟩ ⟨i+1,l2,wa2,wc2,r,ss2,K4,by omega,rfl,rfl,fun q=>(by
     rw [hH2.at_,List.take_add_one,hy]
     show _↔dV a.ar _ (ws.take i++[y]) q
     rw [runNP_snoc]
     exact dC (gB hmem) q),hle2,hsl2,fun h9=>⟨by have:=hwn;have h7:=IntWalk.i64_in ((i:Int)+2) (by omega);rw [hr2] at h7;omega,fun z hz=>(by
     have h7:=IntWalk.i64_in ((i:Int)+2) (by omega)
     rw [hr2] at h7
     rcases hsf2 z hz with h8 | h8
     ·have:=hss z h8;omega
     ·omega)⟩,fun z hz=>hk4 z (hkk z hz),hR2,hS.keep K4 (fun q hq=>by simp [hq])⟩
   ·have hc39:=of_decide_eq_false hc;clear hc
    rw [List.take_of_length_le (by omega)] at hmem
    refine bS (XF.thenX (XF.thenX (XF.blkX (XF.thenN (aC (aG (aA rfl rfl (aH (o':=3) eA rfl rfl rfl (aI isAgg3 rfl (aE (hS.at_ 2 rfl) rfl) rfl (bV (vs:=[_,_]) hS goes_36 rfl (lV la l9.length lc (nI l9) a.e0 _ (hRl (hS.keep Kk (fun q hq=>by simp [hq])) (fun q hq=>hq)) dP (by omega)) rfl fun W5 hS=>aB rfl rfl (aB rfl rfl (aF (XF.thenN (bK (XF.res (kM results16 rfl rfl) ?_)))))))))))))))
    exact ⟨_,by rw [hE],fun _=>(by
     rw [decide_eq_true_eq]
     unfold AccN
     rw [← hmem]
     unfold nI
     rw [List.mem_map]
     constructor
     ·rintro ⟨q,hq,e⟩
      rw [show a.e0.toNat=q by omega];exact hq
     ·intro h
      exact ⟨_,h,by omega⟩),fun h=>absurd hE h,hS.below⟩
end Go.Proofs.Ytpgmnbgkejiomaa
