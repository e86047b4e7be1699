import Derived.Lib.Strings
import Derived.Test.YtofaiolkihcfmaaGreatDoorLrF
set_option maxRecDepth 100000
set_option maxHeartbeats 4000000
set_option linter.unusedVariables false
set_option linter.unusedSimpArgs false
set_option linter.unusedSectionVars false
set_option linter.unnecessarySimpa false
namespace Go.Proofs.YtofaiolkihcfmaaGreatDoor
open Go.Proofs.Tryz
section
open Go.RowKit
theorem I8 {P:Program} {l:Fr} {W:World} {d:Nat} {ty:TypeId} {pos:String} {aft:Array Edge} {T e:TypeId} {x y z:Operand} {k1 k2:IntKind} {b o m c i j s:Nat} {i1 j1:Int} (hU:P.underlying T=some (.slice e)) (hs:∀ w,(sizeOf e).run P w = .ok s w) (hx:evL l x=some (.slice (some ⟨b,o,none⟩) m c)) (hy:evL l y=some (.int k1 i1)) (hz:evL l z=some (.int k2 j1)) (hi:i1=(i:Int)) (hj:j1=(j:Int)) (hij:i≤j) (hjc:j≤c) (hic:i < c) :
  gF P l ⟨some d,.slice T x (some y) (some z) none,ty,pos,aft,none⟩ W (.slice (some ⟨b,o+i * s,none⟩) (j - i) (c - i)) W:=fun ev he=>by
 subst hi;subst hj
 have h0:(0:Int)≤(i:Int):=by omega
 have h1:(i:Int)≤(j:Int):=by omega
 have h2:(j:Int)≤(c:Int):=by omega
 have h3:c≠i:=by omega
 have h4:i≤c:=by omega
 unfold execOp;simp only [Option.map_some,Option.map_none];rw [he x _ hx,he y _ hy,he z _ hz]
 simp [Instr.sliceAt,Instr.slice,Instr.sliceBounds,Instr.sliceBound,run_underlying hU,asIntOf,hij,hjc,h4,hs,h3,Addr.add_lit]
section
variable {n:Nat} {Q:Exit→Act→World→Prop} {l:Fr} {w0 W:World} {ops:Array Oper} {os:List Oper} {K:List (Nat×World)} {L:List Asr} {i:Nat}
variable {al:List Nat} {ca:Nat→Option Value→List Value} {ta:Nat→TypeId} {Os:Option Value→Own} {Gs:Option Value→cY} {lo ef jy:Nat} {s:Sg}
variable {d:Nat} {ty:TypeId} {pos:String} {aft_:Array Edge}
theorem sg_rowP {P:Program} {T e:TypeId} {sz j0 td:Nat} {z:Value} {p q:Asr} (hal:al.contains i=false) (hie:Nat.beq i ef=false) (hij:rW ops ef jy i=true) (hi:ops[i]?=some ⟨some d,.buildSlice T 1 #[(0,.tmp td)],ty,pos,aft_,none⟩) (hNo:pK al ef L) (hwt:bI ops i j0 td=true) (hja:al.contains j0=false) (hje:Nat.beq j0 ef=false) (hLp:atI L j0=p)
  (hU:P.underlying T=some (.slice e)) (hs:∀ w,(sizeOf e).run P w = .ok sz w) (hz:∀ w,(zeroValue e).run P w = .ok z w) (hm:Nat.ble (1 * sz) 16777216=true) (hm0:Nat.beq (1 * sz) 0=false)
  (hq:∀ (v:Value) (w:World),p v w→∃ cs:List Value,Instr.fill (fun i=>some (i * sz,sz)) ((Array.range (1 * sz)).map (z.cells[· % z.cells.size]!)) [(0,v)]=some cs.toArray∧∀ w2 B,p v w2→w2.heap[B]?=some (.cells cs.toArray e (0,0))→q (.slice (some ⟨B,0,none⟩) 1 1) w2) (hI:atI L i=q):SG P n ops Q l w0 K lo al ef jy ca ta Os Gs L i :=
 tM (fun h=>by rw [List.contains_iff_mem.2 h] at hal;cases hal) (fun e=>by rw [e,Nat.beq_refl] at hie;cases hie) (nK hij) hi hNo fun t0 a s w h0 hF hG he hD hD'=>by
  have hA:=(hD j0 td hwt).2.2.2 (fun h=>by rw [List.contains_iff_mem.2 h] at hja;cases hja) (fun e=>by rw [e,Nat.beq_refl] at hje;cases hje)
  rw [hLp] at hA
  obtain ⟨cs,hf,hk⟩:=hq _ w hA.here
  have h4:1 * sz≤16777216:=Nat.le_of_ble_eq_true hm
  have h5:1 * sz≠0:=fun e=>by rw [e] at hm0;cases hm0
  have h6:¬ (1 * sz > 2 ^ 24):=by omega
  have hB:Below w.heap.size w (w.alloc (.cells cs.toArray e)):=(Below.refl _ _).alloc (Nat.le_refl _) _
  refine gY hi rfl (v:=.slice (some ⟨w.heap.size,0,none⟩) 1 1) (w':=w.alloc (.cells cs.toArray e)) ?_ ⟨_,rfl,?_,hB⟩
  ·unfold execOp
   simp only []
   rw [show (Array.map (fun p=>(p.1,a.eval p.2)) #[((0:Nat),Operand.tmp td)])=[(0,a.eval (.tmp td))].toArray by simp]
   simp only [Instr.buildSlice,Sem.run_bind,run_underlying hU,Result.andThen_ok,hs,if_neg h6,if_neg h5,hz,Sem.run_pure,hf,newRow,run_newObj_alloc]
  ·rw [hI]
   intro w2 h2
   have hnew:=heap_alloc_new w (.cells cs.toArray e)
   have hold:eQ lo (XB (OE ca ta Os s) (Gs s.ev)) w w2:=(kJ hB).trans h2 (fun b hb=>.inl hb)
   refine hk w2 _ (hA w2 hold) ((h2.2.2 _ hG.2.1 (cQ hnew) (fun hx=>?_)).trans hnew)
   rcases hx with ⟨q,hq,e1⟩ | ⟨g,hg,hgb⟩
   ·have:=cQ (hG.1.own q hq).2;omega
   ·have:=(hG.1.glt hg hgb).2;omega
end
def uR (lo:Nat) (zs:List Int) (c:CV):Asr:=fun v w=>∃ a cc,v = .agg (List.toArray [.slice a zs.length cc,.int .i64 c.p,.slice c.wa c.wl c.wc])∧fT lo w a cc zs
def yY (lo:Nat) (zs:List Int) (c:CV):Asr:=fun v w=>∃ B2 a cc,v = .slice (some ⟨B2,0,none⟩) 1 1∧w.heap[B2]?=some (.cells (List.toArray [.slice a zs.length cc,.int .i64 c.p,.slice c.wa c.wl c.wc]) 69 (0,0))∧fT lo w a cc zs
theorem stab_crsN {lo:Nat} {zs:List Int} {c:CV}:kY (uR lo zs c):=fun v w w' ⟨a,cc,h1,h2⟩ hb=>⟨a,cc,h1,h2.below hb⟩
theorem bldCrs (a:Option Addr) (n cc:Nat) (p:Int) (wa:Option Addr) (wl wc:Nat):prog.built 69 [(0,.slice a n cc),(1,.agg #[.int .i64 p,.slice wa wl wc])]=some #[.slice a n cc,.int .i64 p,.slice wa wl wc]:=by kernel_rfl
theorem bld_crs {d j1 j2 t1 t2 lo:Nat} {ty:TypeId} {pos:String} {zs:List Int} {c:CV}:∀ (ev:Operand→Value) (w:World),kU [(j1,t1,jL lo zs),(j2,t2,isV (.agg #[.int .i64 c.p,.slice c.wa c.wl c.wc]))] ev w →
  ∃ v,(execOp ev ⟨some d,.build 69 #[(0,.tmp t1),(1,.tmp t2)],ty,pos,#[],none⟩).run prog w = .ok (.value v) w∧∀ w2,kU [(j1,t1,jL lo zs),(j2,t2,isV (.agg #[.int .i64 c.p,.slice c.wa c.wl c.wc]))] ev w2→uR lo zs c v w2:=fun ev w ⟨⟨a,cc,h1,h1r⟩,h2,_⟩=>by
 have e1:ev (.tmp t1)=_:=h1
 have e2:ev (.tmp t2)=_:=h2
 refine ⟨.agg (List.toArray [.slice a zs.length cc,.int .i64 c.p,.slice c.wa c.wl c.wc]),?_,fun w2 ⟨⟨a2,cc2,k1,k1r⟩,_,_⟩=>?_⟩
 ·have hr:=run_build w 69 #[(0,.slice a zs.length cc),(1,.agg #[.int .i64 c.p,.slice c.wa c.wl c.wc])] _ (P:=prog) (bldCrs a zs.length cc c.p c.wa c.wl c.wc)
  unfold execOp
  simp only [List.map_toArray,List.map_cons,List.map_nil,e1,e2]
  simp [hr]
 ·have k1':ev (.tmp t1)=_:=k1
  rw [e1] at k1'
  injection k1' with k1 _ k3
  subst k1;subst k3
  exact ⟨a,cc,rfl,k1r⟩
theorem bsCrs (a:Option Addr) (n cc:Nat) (p:Int) (wa:Option Addr) (wl wc:Nat):Instr.fill (fun i=>some (i * 3,3)) ((Array.range (1 * 3)).map ((Value.agg #[.slice none 0 0,.int .i64 0,.slice none 0 0]).cells[· % (Value.agg #[.slice none 0 0,.int .i64 0,.slice none 0 0]).cells.size]!)) [(0,.agg (List.toArray [.slice a n cc,.int .i64 p,.slice wa wl wc]))]=some (List.toArray [.slice a n cc,.int .i64 p,.slice wa wl wc]):=by kernel_rfl
theorem crs_row {lo:Nat} {zs:List Int} {c:CV}:∀ (v:Value) (w:World),uR lo zs c v w→∃ cs:List Value,Instr.fill (fun i=>some (i * 3,3)) ((Array.range (1 * 3)).map ((Value.agg #[.slice none 0 0,.int .i64 0,.slice none 0 0]).cells[· % (Value.agg #[.slice none 0 0,.int .i64 0,.slice none 0 0]).cells.size]!)) [(0,v)]=some cs.toArray∧∀ w2 B,uR lo zs c v w2→w2.heap[B]?=some (.cells cs.toArray 69 (0,0))→yY lo zs c (.slice (some ⟨B,0,none⟩) 1 1) w2:=fun v w ⟨a,cc,h1,h2⟩=>by
 subst h1
 exact ⟨_,bsCrs a zs.length cc c.p c.wa c.wl c.wc,fun w2 B ⟨a2,cc2,k1,k2⟩ hB=>by
  simp at k1
  obtain ⟨e1,e2⟩:=k1
  subst e1;subst e2
  exact ⟨B,a,cc,rfl,hB,k2⟩⟩
theorem Nl {B:Nat} {T:TypeId} {a1 a2:Option Addr} {c1 c2:Nat} {zs:List Int} {z:Int} {w:World} {lo:Nat} (hlo:lo≤w.heap.size) (hB:w.heap[B]?=some (.cells (List.toArray [.slice a1 zs.length c1,.slice a2 1 c2]) T (0,0))) (h1:Row w a1 zs) (h2:Row w a2 [z]) (hl:zs.length≤100) :
  Calls prog 17 #[.slice (some ⟨B,0,none⟩) 2 2] w (lV (jL lo (zs++[z])) w):=by
 refine (Aq B T [⟨a1,zs.length,c1,zs⟩,⟨a2,1,c2,[z]⟩] w hB (fun x hx=>?_) ?_ (by show 2≤65536;decide)).mono ?_
 ·rcases List.mem_cons.1 hx with rfl | hx
  ·exact ⟨h1,rfl⟩
  ·rw [List.mem_singleton] at hx;subst hx;exact ⟨h2,rfl⟩
 ·show zs.length+(1+0)≤65536;omega
 ·rintro e w' ⟨a,c,rfl,hr,hb⟩
  have e9:oM [⟨a1,zs.length,c1,zs⟩,⟨a2,1,c2,[z]⟩]=zs++[z]:=by simp [oM]
  rw [e9] at hr ⊢
  exact ⟨_,rfl,fun w2 hg=>⟨a,c,rfl,(hr.agree hg).mono hlo⟩,hb⟩
theorem Nm {lo:Nat} {l:NxL} {nb nc i:Nat} {W:World} {x:Int×Int×List Int} (h:dN lo l (.slice (some ⟨nb,0,none⟩) l.length nc) W) (hx:l[i]?=some x):Row W (some ⟨nb,0+i * 1,none⟩) [x.1]:=by
 have hc:W.cell? ⟨nb,i,none⟩=some (.int .i64 x.1):=dT h (by rw [List.getElem?_map,List.getElem?_map,hx];rfl)
 refine .inr ⟨nb,0+i * 1,rfl,fun j hj=>?_⟩
 match j,hj with
 | 0,_=>rw [Nat.zero_add,Nat.mul_one];exact hc
 | j+1,hj=>exact absurd hj (by simp)
theorem Nn {P:Program} {l:Fr} {W:World} {d:Nat} {ty:TypeId} {pos:String} {aft:Array Edge} {T e:TypeId} {x y z:Operand} {k1 k2:IntKind} {b o m c i s:Nat} {i1 j1:Int} (hU:P.underlying T=some (.slice e)) (hs:∀ w,(sizeOf e).run P w = .ok s w) (hx:evL l x=some (.slice (some ⟨b,o,none⟩) m c)) (hy:evL l y=some (.int k1 i1)) (hz:evL l z=some (.int k2 j1)) (hi:i1=(i:Int)) (hj:j1=(i:Int)+1) (hic:i < c) :
  gF P l ⟨some d,.slice T x (some y) (some z) none,ty,pos,aft,none⟩ W (.slice (some ⟨b,o+i * s,none⟩) 1 (c - i)) W:=by
 have h:=I8 (d:=d) (ty:=ty) (pos:=pos) (aft:=aft) (W:=W) (i:=i) (j:=i+1) hU hs hx hy hz hi (by omega) (by omega) (by omega) hic
 rwa [Nat.add_sub_cancel_left] at h
theorem eqText {ws vs:List Int} {p q:Int}:((⟨(fV p ws).toArray⟩:ByteArray).toList == (⟨(fV q vs).toArray⟩:ByteArray).toList)=decide ((p,ws)=(q,vs)):=by
 rw [Lib.toList_data,Lib.toList_data]
 by_cases h:(p,ws)=(q,vs)
 ·rw [decide_eq_true h]
  injection h with h1 h2
  subst h1;subst h2
  simp
 ·rw [decide_eq_false h]
  have h2:fV p ws≠fV q vs:=fun e=>h (by obtain ⟨h1,h2⟩:=Nk e;rw [h1,h2])
  simpa using h2
theorem Lk {P:Program} {n:Nat} {ops:Array Oper} {Q:Exit→Act→World→Prop} {os:List Oper} {l:Fr} {W:World} {d:Nat} {ty t u:TypeId} {pos:String} {aft:Array Edge} {x y:Operand} {ws vs:List Int} {p q:Int} (hx:evL l x=some (.string ⟨(fV p ws).toArray⟩)) (hy:evL l y=some (.string ⟨(fV q vs).toArray⟩)) (hd:Nat.blt d n=true)
  (h:cX P n ops Q os ((d,.bool (decide ((p,ws)=(q,vs))))::l) W):cX P n ops Q (⟨some d,.binOp .eql t x y u,ty,pos,aft,none⟩::os) l W :=
 opV (fun ev he=>gB (he x _ hx) (he y _ hy) rfl (by rw [← eqText];simp [binOp,Op.stringOp])) hd h
def hZ (k:Nat) (os:List Oper):List Oper:=os.take k++(os.drop k).map fun o=>{ o with dst:=none }
def Ll (k:Nat) (os:List Oper):Bool:=(os.take k).all fun o=>match o.guard with | none=>true | some (g,_)=>Nat.blt g k
section
variable {k:Nat} {os:List Oper}
theorem Dv:(hZ k os).length=os.length:=by unfold hZ;simp;omega
theorem I9:(hZ k os).toArray.size=os.toArray.size:=by simp [Dv]
theorem kL {i:Nat} (h:i < k):(hZ k os).toArray[i]?=os.toArray[i]?:=by
 simp only [List.getElem?_toArray]
 unfold hZ
 by_cases hi:i < os.length
 ·rw [List.getElem?_append_left (by simp;omega),List.getElem?_take,if_pos h]
 ·rw [List.getElem?_eq_none (by simp;omega),List.getElem?_eq_none (by omega)]
theorem Gz {i:Nat} (h:k≤i):(hZ k os).toArray[i]?=(os.toArray[i]?).map fun o=>{ o with dst:=none }:=by
 simp only [List.getElem?_toArray]
 unfold hZ
 by_cases hi:i < os.length
 ·rw [List.getElem?_append_right (by simp;omega),List.getElem?_map,List.getElem?_drop]
  congr 2
  simp;omega
 ·rw [List.getElem?_eq_none (by simp;omega),List.getElem?_eq_none (by omega)];rfl
theorem Ay (i:Nat):aft (hZ k os).toArray i=aft os.toArray i:=by
 unfold aft
 rcases Nat.lt_or_ge i k with h | h
 ·rw [kL h]
 ·rw [Gz h]
  cases os.toArray[i]?<;>rfl
theorem No {j d:Nat} (h:((hZ k os).toArray[j]?).bind (·.dst)=some d):j < k∧(os.toArray[j]?).bind (·.dst)=some d:=by
 rcases Nat.lt_or_ge j k with hj | hj
 ·rw [kL hj] at h;exact ⟨hj,h⟩
 ·rw [Gz hj] at h
  cases ho:os.toArray[j]? with
  | none=>rw [ho] at h;cases h
  | some o=>rw [ho] at h;cases h
theorem G1 {i j d:Nat} (hi:i < k) (h:bI (hZ k os).toArray i j d=true):j < k∧bI os.toArray i j d=true:=by
 unfold bI at h ⊢
 rw [kL hi] at h
 rw [Bool.and_eq_true,beq_iff_eq] at h ⊢
 obtain ⟨h1,h2⟩:=No h.2
 exact ⟨h1,h.1,h2⟩
theorem Rv {i d:Nat} (hi:i < k) (h:(os.toArray[i]?).bind (·.dst)=some d):freeT (hZ k os).toArray d=false:=by
 cases hf:freeT (hZ k os).toArray d with
 | false=>rfl
 | true =>
  unfold freeT at hf
  obtain ⟨o,ho,hod⟩:=Option.bind_eq_some_iff.1 h
  have h2:=kL (os:=os) hi
  rw [ho] at h2
  have:=Array.all_eq_true'.1 hf o (Array.mem_of_getElem? h2)
  rw [hod] at this
  simp at this
variable {P:Program} {Q:Exit→Act→World→Prop} {σ:Type}
theorem Ja {t0:Array Value} {G:σ→World→Prop} {I:σ→Nat→Value→World→Prop} {V:σ→Array Bool→Prop} {i:Nat} (hg:Ll k os=true) (hi:i < k) (h:Qn P (hZ k os).toArray Q t0 G I V i) :
  Dj P (freeT (hZ k os).toArray) os.toArray Q t0 G (fun s j v w=>j < k→I s j v w) V i:=fun s L a w hF hG hV hs hc hr hD=>by
 have key:=h s L a w hF hG hV (by rw [I9];exact hs) (fun j hj x hx=>hc j hj x (by rw [← Ay (k:=k)];exact hx)) ⟨hr.1,fun x hx=>hr.2 x (by rw [← Ay (k:=k)];exact hx)⟩ (fun j d hw=>by
  obtain ⟨h1,h2⟩:=G1 hi hw
  exact hD j d h2 h1)
 have e:wpOp P (hZ k os).toArray Q i=wpOp P os.toArray Q i:=by
  funext K a w
  unfold wpOp
  rw [kL hi]
  cases ho:os.toArray[i]? with
  | none=>rfl
  | some o =>
   have hy:Region.wanted o (yielded (hZ k os).toArray a.tmps)=Region.wanted o (yielded os.toArray a.tmps):=by
    unfold Region.wanted
    cases hgd:o.guard with
    | none=>rfl
    | some g =>
     obtain ⟨g,b⟩:=g
     have hm:o∈os.take k:=List.mem_of_getElem? (i:=i) (by rw [List.getElem?_take,if_pos hi];simpa using ho)
     have h3:=List.all_eq_true.1 hg o hm
     rw [hgd] at h3
     have h4:g < k:=Nat.lt_of_lt_of_le (Nat.lt_succ_self _) (Nat.le_of_ble_eq_true h3)
     show (yielded (hZ k os).toArray a.tmps g == some b)=(yielded os.toArray a.tmps g == some b)
     unfold yielded
     rw [kL h4]
   show (if Region.wanted o (yielded (hZ k os).toArray a.tmps) then _ else _)=_
   rw [hy]
 rw [e] at key
 refine wpOp_mono ?_ key
 rintro a' w' ⟨s',v,h1,h2,h3,h4,h5⟩
 rw [kL hi] at h1 h4
 refine ⟨s',v,h1,h2,h3,fun d hd _=>h4 d hd,fun j d _ hd hI hj=>h5 j d (by rw [kL hj];exact hd) (hI hj)⟩
end
section
variable {P:Program} {n:Nat} {Q:Exit→Act→World→Prop} {l:Fr} {w0 W:World} {ops:Array Oper} {os:List Oper} {K:List (Nat×World)} {L:List Asr} {i:Nat}
variable {al:List Nat} {ca:Nat→Option Value→List Value} {ta:Nat→TypeId} {Os:Option Value→Own} {Gs:Option Value→cY} {lo ef jy:Nat} {s:Sg}
theorem regSF {id k:Nat} (hm:P.follows .mixedOrders=true) (hlo:lo=W.heap.size) (hS:St w0 (Os none) (Gs none) K W) (hk:Nat.blt k os.length=true) (htl:vG os.toArray k=true) (ht:eP os.toArray n=true) (ht2:eP (hZ k os).toArray n=true) (hgd:Ll k os=true) (hal:al.all (fun a=>Nat.blt a k)=true) (hnd:al.Nodup) (hea:al.contains ef=false)
  (evE:Value→Option Value) (hev:(Nat.blt ef k=true∧evE=some)∨(Nat.ble os.length ef=true∧Nat.ble os.length jy=true∧evE=fun _=>none)) (hdst:(List.range k).all (fun j=>Nat.beq j ef || ((os.toArray[j]?).bind (·.dst)).isSome)=true)
  (h:BLS P n (hZ k os).toArray Q l w0 K lo al ef jy ca ta Os Gs (fun Lr=>∀ (Bf:Nat→Nat) (y:Value) (W':World) (Ks:List (Nat×World)),W.heap.size≤W'.heap.size→(∀ q∈Ks,lo≤q.1)→St w0 (al.map (fun a=>(Bf a,ca a (evE y),ta a))++Os (evE y)) (Gs (evE y)) (Ks++K) W' →
   (∀ {O2 G2 K2 W2},St w0 O2 G2 K2 W2→(∀ q∈Ks,q∈K2)→eQ lo (XB (al.map (fun a=>(Bf a,ca a (evE y),ta a))++Os (evE y)) (Gs (evE y))) W' W2) →
   kZ (os.take k) (In al ef jy lo (XB (al.map (fun a=>(Bf a,ca a (evE y),ta a))++Os (evE y)) (Gs (evE y))) Bf y 0 Lr.reverse) l (fun l' W'=>cX P n os.toArray Q (os.drop k) l' W') W') k [] 0):fG P n (.region id os.toArray true) Q l W:=by
 obtain ⟨Lr,h1,h2,hfin⟩:=Dd ht2 k 0 [] rfl (fun j _=>by rfl) (fun i hi=>by omega) h
 rw [Nat.zero_add] at h1 h2
 have hk':k < os.length:=Nat.lt_of_lt_of_le (Nat.lt_succ_self _) (Nat.le_of_ble_eq_true hk)
 have hal':∀ a∈al,a < k:=fun a ha=>Nat.lt_of_lt_of_le (Nat.lt_succ_self _) (Nat.le_of_ble_eq_true (List.all_eq_true.1 hal a ha))
 have hea':ef∉al:=fun h=>by rw [List.contains_iff_mem.2 h] at hea;cases hea
 intro a ha
 refine wp_region_any hm (mR (fr:=freeT (hZ k os).toArray) (t0:=a.tmps) (d0:=a.defers) (V:=VG al ef) (I:=fun s j v w=>j < k→IG al ef jy lo ca ta Os Gs Lr.reverse s j v w) (G:=GG w0 K lo ca ta Os Gs) (k:=k) (fun _ _ h1 h2=>Rv h1 h2) (by simpa using hk') htl (by rw [ha.size];exact ht) (fun i hi=>Ja hgd hi ((h2 i hi).step a ha)) ?_ _ ⟨none,[]⟩ _ _ _ (by simp) (jT _) (fun j hj=>by rw [Array.getD_eq_getD_getElem?,Array.getElem?_replicate] at hj;split at hj<;>simp at hj) (fun i _=>by rw [Array.getD_eq_getD_getElem?,Array.getElem?_replicate];split<;>rfl) ⟨rfl,rfl,fun _ _=>rfl,⟨by unfold OE;exact hS.drew,by rw [hlo];exact Nat.le_refl _,(fun q hq=>by cases hq)⟩,⟨fun a _=>?_,(fun q hq=>by cases hq),List.Pairwise.nil,?_⟩,fun i d _ hj=>?_⟩)
 ·intro s LB a' W' hR hdone hnot
  obtain ⟨hG,hG2,hG3⟩:=hR.glob
  obtain ⟨v1,v2,v3,v4⟩:=hR.cons
  obtain ⟨ev,bs⟩:=s
  have hall:∀ x∈al,(x,bAt bs x)∈bs:=fun x hx=>De ((v1 x hx).1 (hdone x (hal' x hx)))
  obtain ⟨y,hy⟩:∃ y,ev=evE y:=by
   rcases hev with ⟨e1,e2⟩ | ⟨e1,e3,e2⟩
   ·have h3:ev.isSome=true:=v4.1 (hdone ef (Nat.lt_of_lt_of_le (Nat.lt_succ_self _) (Nat.le_of_ble_eq_true e1)))
    obtain ⟨y,hy⟩:=Option.isSome_iff_exists.1 h3
    exact ⟨y,by rw [hy,e2]⟩
   ·refine ⟨undef,?_⟩
    rw [e2]
    have h3:=hnot ef (by have:=Nat.le_of_ble_eq_true e1;omega)
    cases ev with
    | none=>rfl
    | some v=>have:=v4.2 rfl;rw [h3] at this;cases this
  subst hy
  have hperm:bs.Perm (al.map (fun x=>(x,bAt bs x))):=by
   refine (List.perm_ext_iff_of_nodup (v3.imp (fun h e=>h (by rw [e]))) ?_).2 fun q=>?_
   ·refine List.Pairwise.map _ (fun x y (hxy:x≠y)=>?_) hnd
    intro e;exact hxy (congrArg Prod.fst e)
   ·constructor
    ·intro hq
     have h3:=hall q.1 (v2 q hq)
     have h4:=tN v3 hq h3 rfl
     rw [h4]
     exact List.mem_map.2 ⟨q.1,v2 q hq,rfl⟩
    ·intro hq
     obtain ⟨x,hx,rfl⟩:=List.mem_map.1 hq
     exact hall x hx
  have hO:(OE ca ta Os ⟨evE y,bs⟩).Perm (al.map (fun a=>(bAt bs a,ca a (evE y),ta a))++Os (evE y)):=by
   unfold OE
   refine List.Perm.append_right _ ?_
   have:=hperm.map (fun q:Nat×Nat=>(q.2,ca q.1 (evE y),ta q.1))
   rw [List.map_map] at this
   exact this
  have hG':=hG.perm hO
  have hX:∀ b,XB (OE ca ta Os ⟨evE y,bs⟩) (Gs (evE y)) b↔XB (al.map (fun a=>(bAt bs a,ca a (evE y),ta a))++Os (evE y)) (Gs (evE y)) b:=fun b=>by
   unfold XB
   constructor
   ·rintro (⟨p,hp,e⟩ | h);exact .inl ⟨p,hO.mem_iff.1 hp,e⟩;exact .inr h
   ·rintro (⟨p,hp,e⟩ | h);exact .inl ⟨p,hO.mem_iff.2 hp,e⟩;exact .inr h
  obtain ⟨Ks,c1,⟨qw,c2,c3⟩,c4⟩:=Io (((al.map (fun a=>(bAt bs a,ca a (evE y),ta a))++Os (evE y)).map (·.1))++(Gs (evE y)).filterMap (fun g=>g.v.ownBlock)) lo W'
  have hG4:=hG'.more Ks (fun q hq=>⟨(c1 q hq).2.1,fun p hp=>(c1 q hq).2.2 p.1 (List.mem_append_left _ (List.mem_map.2 ⟨p,hp,rfl⟩)),fun g hg b hb=>(c1 q hq).2.2 b (List.mem_append_right _ (List.mem_filterMap.2 ⟨g,hg,hb⟩))⟩)
  have hcov:∀ {O2 G2 K2 W2},St w0 O2 G2 K2 W2→(∀ q∈Ks,q∈K2)→eQ lo (XB (al.map (fun a=>(bAt bs a,ca a (evE y),ta a))++Os (evE y)) (Gs (evE y))) W' W2:=fun {O2 G2 K2 W2} h2 hq=>by
   refine ⟨⟨h2.below.os.trans hG.below.os.symm,h2.below.tape.trans hG.below.tape.symm,h2.below.output.trans hG.below.output.symm⟩,?_,fun b b1 b2 b3=>?_⟩
   ·have:=(h2.kept qw (hq qw c2)).1.1;rw [c3] at this;exact this
   ·obtain ⟨q,q1,q2,q3⟩:=c4 b b1 b2 (fun hb=>b3 (by
     rcases List.mem_append.1 hb with hb | hb
     ·obtain ⟨p,hp,rfl⟩:=List.mem_map.1 hb
      exact .inl ⟨p,hp,rfl⟩
     ·obtain ⟨g,hg,e⟩:=List.mem_filterMap.1 hb
      exact .inr ⟨g,hg,e⟩))
    exact ((h2.kept q (hq q q1)).1.2 b q2 q3).trans ((c1 q q1).2.1.2 b q2 q3).symm
  have htk:(os.take k).length=k:=by simp;omega
  refine nL (os.take k) (In al ef jy lo (XB (al.map (fun a=>(bAt bs a,ca a (evE y),ta a))++Os (evE y)) (Gs (evE y))) (bAt bs) y 0 Lr.reverse) l (fun i d hi hd'=>?_) (fun i hi hd'=>?_) (hR.size.trans ha.size) (hR.defers.trans ha.defers) ?_ (fun l' h ha'=>?_) (hfin (bAt bs) y W' Ks (by rw [← hlo];exact hG2) (fun q hq=>(c1 q hq).1) hG4 hcov)
  ·have hik:i < k:=by omega
   have hd2:(os.toArray[i]?).bind (·.dst)=some d:=by rw [List.getElem?_take,if_pos hik] at hd';simpa using hd'
   obtain ⟨i1,i2,i3,i4⟩:=hR.done i d hd2 (hdone i hik) hik
   rw [pL Lr.reverse 0 i (by simp;omega),Nat.add_zero]
   cases hc1:al.contains i with
   | true =>
    rw [cond_true]
    obtain ⟨B,hB,e⟩:=i1 (List.contains_iff_mem.1 hc1)
    have:=tN v3 hB (hall i (List.contains_iff_mem.1 hc1)) rfl
    show _=_
    rw [e,show B=bAt bs i from congrArg Prod.snd this]
   | false =>
    rw [cond_false]
    have hni:i∉al:=fun hm'=>by rw [List.contains_iff_mem.2 hm'] at hc1;cases hc1
    cases hc2:Nat.beq i ef with
    | true =>
     rw [cond_true]
     have h5:=i2 (Nat.eq_of_beq_eq_true hc2)
     rcases hev with ⟨e1,e2⟩ | ⟨e1,e3,e2⟩
     ·rw [e2] at h5
      exact (Option.some.inj h5).symm
     ·rw [e2] at h5;cases h5
    | false =>
     rw [cond_false]
     have hne:i≠ef:=fun e=>by rw [e,Nat.beq_refl] at hc2;cases hc2
     have h6:AwS lo (XB (al.map (fun a=>(bAt bs a,ca a (evE y),ta a))++Os (evE y)) (Gs (evE y))) (atI Lr.reverse i) (a'.tmps.getD d undef) W':=fun w2 hw2=>i4 hni hne w2 ⟨hw2.1,hw2.2.1,fun b b1 b2 b3=>hw2.2.2 b b1 b2 (fun hb=>b3 ((hX b).2 hb))⟩
     cases hc3:Nat.beq i jy with
     | true =>
      rw [cond_true]
      refine ⟨?_,h6⟩
      rcases hev with ⟨e1,e2⟩ | ⟨e1,e3,e2⟩
      ·exact i3 (Nat.eq_of_beq_eq_true hc3) y (by rw [e2])
      ·have:=Nat.le_of_ble_eq_true e3
       have:=Nat.eq_of_beq_eq_true hc3
       omega
     | false=>rw [cond_false];exact h6
  ·have hik:i < k:=by omega
   have h3:=List.all_eq_true.1 hdst i (List.mem_range.2 hik)
   rw [Bool.or_eq_true] at h3
   have hd2:(os.toArray[i]?).bind (·.dst)=none:=by rw [List.getElem?_take,if_pos hik] at hd';simpa using hd'
   rcases h3 with h3 | h3
   ·rw [pL Lr.reverse 0 i (by simp;omega),Nat.add_zero]
    have hc1:al.contains i=false:=by rw [Nat.eq_of_beq_eq_true h3];exact hea
    rw [hc1,cond_false,h3,cond_true]
    exact ⟨y,rfl⟩
   ·rw [hd2] at h3;cases h3
  ·intro t v hv hno
   rw [hR.frame t ?_]
   ·exact ha.at_ t v hv
   ·unfold freeT;rw [Array.all_eq_true'];intro o' ho'
    have ho2:o'∈hZ k os:=by simpa using ho'
    unfold hZ at ho2
    rcases List.mem_append.1 ho2 with ho2 | ho2
    ·simpa using hno o' ho2
    ·obtain ⟨o2,_,rfl⟩:=List.mem_map.1 ho2
     simp
  ·have:=h a' ha'
   simpa using this
 ·rw [Array.getD_eq_getD_getElem?,Array.getElem?_replicate]
  constructor
  ·intro h3;split at h3<;>simp at h3
  ·rintro ⟨B,hB⟩;cases hB
 ·rw [Array.getD_eq_getD_getElem?,Array.getElem?_replicate]
  constructor
  ·intro h3;split at h3<;>simp at h3
  ·intro h3;cases h3
 ·rw [Array.getD_eq_getD_getElem?,Array.getElem?_replicate] at hj
  split at hj<;>simp at hj
end
theorem Jb (v0a:Option Addr) (v0l:Nat) (v0c:Nat) (v10:Value) (v11:Value):prog.built 69 [(0,.slice v0a v0l v0c),(1,.agg #[v10,v11])]=some #[.slice v0a v0l v0c,v10,v11]:=by kernel_rfl
theorem Dw (v0a:Option Addr) (v0l:Nat) (v0c:Nat):Instr.fill (fun i=>some (i * 1,1)) ((Array.range (1 * 1)).map ((Value.cells (.slice none 0 0))[· % (Value.cells (.slice none 0 0)).size]!)) [(0,.slice v0a v0l v0c)]=some (List.toArray [.slice v0a v0l v0c]):=by kernel_rfl
theorem bs_70_1 (v00:Value) (v01:Value) (v02:Value):Instr.fill (fun i=>some (i * 3,3)) ((Array.range (1 * 3)).map ((Value.cells (.agg #[.slice none 0 0,.int .i64 0,.slice none 0 0]))[· % (Value.cells (.agg #[.slice none 0 0,.int .i64 0,.slice none 0 0])).size]!)) [(0,.agg #[v00,v01,v02])]=some (List.toArray [v00,v01,v02]):=by kernel_rfl
theorem bs_71_2 (v00:Value) (v01:Value) (v10:Value) (v11:Value):Instr.fill (fun i=>some (i * 2,2)) ((Array.range (2 * 2)).map ((Value.cells (.agg #[.int .i64 0,.slice none 0 0]))[· % (Value.cells (.agg #[.int .i64 0,.slice none 0 0])).size]!)) [(0,.agg #[v00,v01]),(1,.agg #[v10,v11])]=some (List.toArray [v00,v01,v10,v11]):=by kernel_rfl
theorem wM (w:World) (b o:Nat):(Instr.fieldAt 69 (.pointer (some ⟨b,o,none⟩)) 0).run prog w = .ok (.pointer (some ⟨b,o+0,none⟩)) w:=by
 simp [Instr.fieldAt,run_underlying underlying69,Instr.sureAddr,go_sem,Addr.add_lit]
theorem Dx (w:World) (b o:Nat):(Instr.fieldAt 69 (.pointer (some ⟨b,o,none⟩)) 1).run prog w = .ok (.pointer (some ⟨b,o+1,none⟩)) w:=by
 simp [Instr.fieldAt,run_underlying underlying69,Instr.sureAddr,go_sem,Addr.add_lit]
theorem goes_14:bW prog 14=true:=by kernel_rfl
theorem Jc:prog.info? 29=some Tryz.t29:=by kernel_rfl
theorem inf_69:prog.info? 69=some Tryz.t69:=by kernel_rfl
def nxP (rs:List RV):Nxt:=fun x=>match eS x.1 x.2 rs 0 with | none=>([],2) | some l=>(l,0)
theorem Az {p:PV} {c e:CV} {n:Int}:jY p [c,e] n=if stepE p c≠0 then stepE p c else if stepE p e≠0 then stepE p e else if n < 0∨64 < n then 5 else 0:=by
 by_cases h1:stepE p c≠0
 ·have h:mA p [c,e]=stepE p c:=if_pos h1
  unfold jY;rw [h,if_pos h1,if_pos h1]
 ·by_cases h2:stepE p e≠0
  ·have h:mA p [c,e]=stepE p e:=(if_neg h1).trans (if_pos h2)
   unfold jY;rw [h,if_neg h1,if_pos h2]
  ·have h:mA p [c,e]=0:=(if_neg h1).trans (if_neg h2)
   unfold jY;rw [h,if_neg h1,if_neg h2,if_neg (fun h=>h rfl)]
theorem Np {p:PV} {c e:CV} {n:Int} {nx:Nxt} {a b:Int×List Int} (h:jY p [c,e] n≠0):sV (stepE p c) (stepE p e) n nx a b=(jY p [c,e] n,[]):=by
 rw [Az] at h ⊢
 unfold sV
 have e1:gQ (stepE p c) (stepE p e) n=(if stepE p c≠0 then stepE p c else if stepE p e≠0 then stepE p e else if n < 0∨64 < n then 5 else 0):=by
  unfold gQ
  by_cases h1:stepE p c≠0
  ·rw [if_pos h1,if_pos h1]
  ·rw [if_neg h1] at h ⊢
   rw [if_neg h1]
   by_cases h2:stepE p e≠0
   ·rw [if_pos h2,if_pos h2]
   ·rw [if_neg h2] at h ⊢
    rw [if_neg h2]
    by_cases h3:n < 0∨64 < n
    ·rw [if_pos h3,if_pos h3]
    ·rw [if_neg h3] at h;exact absurd rfl h
 rw [e1,if_pos h]
theorem Rw {p:PV} {c e:CV} {n:Int} (h:jY p [c,e] n=0):stepE p c=0∧stepE p e=0∧0≤n∧n≤64:=by
 rw [Az] at h
 by_cases h1:stepE p c≠0
 ·rw [if_pos h1] at h;exact absurd h h1
 ·rw [if_neg h1] at h
  by_cases h2:stepE p e≠0
  ·rw [if_pos h2] at h;exact absurd h h2
  ·rw [if_neg h2] at h
   by_cases h3:n < 0∨64 < n
   ·rw [if_pos h3] at h;cases h
   ·exact ⟨Decidable.of_not_not h1,Decidable.of_not_not h2,by omega,by omega⟩
theorem Nq {e1 e2 n:Int} {nx:Nxt} {a b:Int×List Int} (h1:e1=0) (h2:e2=0) (h3:0≤n∧n≤64) (h:12 < n):sV e1 e2 n nx a b=(3,[]):=by
 have e:gQ e1 e2 n=3:=by unfold gQ;rw [if_neg (by omega),if_neg (by omega),if_neg (by omega),if_pos h]
 unfold sV;rw [e];rfl
theorem runs_in {e1 e2 n:Int} {nx:Nxt} {a b:Int×List Int} (h1:e1=0) (h2:e2=0) (h3:0≤n) (h:n≤12):sV e1 e2 n nx a b=if (iQ nx n.toNat a).1≠0 then ((iQ nx n.toNat a).1,[]) else (0,sU b (iQ nx n.toNat a).2):=by
 have e:gQ e1 e2 n=0:=by unfold gQ;rw [if_neg (by omega),if_neg (by omega),if_neg (by omega),if_neg (by omega)]
 unfold sV;rw [e,if_neg (fun h=>h rfl)]
theorem nx_at {p:PV} {c:CV} (h:stepE p c=0):nxE (eS c.p c.ws p.rs 0) (stepE p c)=nxP p.rs (c.p,c.ws):=by
 unfold nxP
 cases hn:eS c.p c.ws p.rs 0 with
 | none=>rw [yP h rfl]
 | some l=>rw [Gt h rfl]
def Dy (lo:Nat) (l:NxL) (ca:Option Addr) (cc:Nat) (cs:List CV) (W:World):Prop:=W.ownsRow lo 36 2 (.slice ca cs.length cc) cs.length (cs.flatMap pN)∧cs.map CV.pl=l.map (·.2)∧∀ c∈cs,Ap lo W c
theorem Dy.agree {lo:Nat} {l:NxL} {ca:Option Addr} {cc:Nat} {cs:List CV} {A W:World} (h:Dy lo l ca cc cs A) (hg:dD lo A W):Dy lo l ca cc cs W:=⟨eG h.1 hg,h.2.1,fun c hc=>⟨(h.2.2 c hc).1.agree hg,(h.2.2 c hc).2⟩⟩
theorem Rx {W:World} {lo b n c i:Nat} {T:TypeId} {ns:List CV} {r:CV} (h:W.ownsRow lo T 2 (.slice (some ⟨b,0,none⟩) n c) n (ns.flatMap pN)) (hi:ns[i]?=some r):aE W b (i * 2) (pN r):=by
 have key:∀ (l:List CV) (i:Nat),l[i]?=some r→((l.flatMap pN).drop (i * 2)).take 2=pN r:=by
  intro l
  induction l with
  | nil=>intro i h;simp at h
  | cons z l ih =>
   intro i h
   cases i with
   | zero=>simp at h;subst h;rfl
   | succ i =>
    have e:(i+1) * 2=2+i * 2:=by omega
    rw [List.flatMap_cons,e,← List.drop_drop]
    exact ih i (by simpa using h)
 have e5:=key ns i hi
 refine aE.of fun j v hj=>dT h ?_
 rw [← e5,List.getElem?_take] at hj
 split at hj
 ·rw [List.getElem?_drop] at hj;exact hj
 ·cases hj
theorem Dz {rs:List RV} {a:Int×List Int} {y:Int×Int×List Int} {k:Nat} (h:(nxP rs a).1[k]?=some y):∃ l,eS a.1 a.2 rs 0=some l∧y∈l:=by
 unfold nxP at h
 cases hn:eS a.1 a.2 rs 0 with
 | none=>rw [hn] at h;simp at h
 | some l=>rw [hn] at h;exact ⟨l,rfl,List.mem_of_getElem? h⟩
theorem cf_two {W:World} {B:Nat} {T:TypeId} {c e:CV} (h:W.heap[B]?=some (.cells (List.toArray [.int .i64 c.p,.slice c.wa c.wl c.wc,.int .i64 e.p,.slice e.wa e.wl e.wc]) T (0,0))):CfRow W (some ⟨B,0,none⟩) [c,e]:=fun i x hi=>by
 match i,hi with
 | 0,hi=>simp at hi;subst hi;exact ⟨B,0,rfl,aE.own (j:=0) (m:=2) h rfl⟩
 | 1,hi=>simp at hi;subst hi;exact ⟨B,0,rfl,aE.own (j:=2) (m:=2) h rfl⟩
 | i+2,hi=>simp at hi
theorem Nr (ds d:Nat) (s:SV) (st sy:Int) (ra:Option Addr) (rl rc:Nat) (rs:List RV) (w:World) (hs:SIn w ds s) (hrow:lD w ra rs) (hlen:rs.length=rl) (hin:∀ r∈rs,RIn w d r) (c e:CV) (n:Int) (hcn:CIn w c) (hen:CIn w e) (hcc:c.wl≤c.wc) (ht:Tabs w) :
  Calls prog 7 #[.agg #[.int .i64 s.f.tag,.int .i64 s.f.dim,.slice s.f.a s.f.len s.f.cap,.int .i64 st,.int .i64 sy,.slice ra rl rc],c.val,e.val,.int .i64 n] w (tV (sV (stepE ⟨s,st,sy,ra,rl,rc,rs⟩ c) (stepE ⟨s,st,sy,ra,rl,rc,rs⟩ e) n (nxP rs) (c.p,c.ws) (e.p,e.ws)) w):=by
 refine cH (args:=[.agg #[.int .i64 s.f.tag,.int .i64 s.f.dim,.slice s.f.a s.f.len s.f.cap,.int .i64 st,.int .i64 sy,.slice ra rl rc],c.val,e.val,.int .i64 n]) func7 rfl ntmps7 rfl ?_
 have hS:=St.start w
 have hpi:PvIn w ds d ⟨s,st,sy,ra,rl,rc,rs⟩:=⟨hs,hrow,hlen,hin⟩
 refine aL (aR (bK (cs:=[_,_,_,_,_,_]) hS rfl rfl rfl fun B1 W1 hS=>bK (cs:=[_,_]) hS rfl rfl rfl fun B2 W2 hS=>bK (cs:=[_,_]) hS rfl rfl rfl fun B3 W3 hS=>aA rfl rfl (aA rfl rfl (aQ (XF.thenN (aL (aL (aR (aS (vs:=[_,_,_,_,_,_]) isAgg28 sizeOf28 rfl (aE.own (j:=0) (m:=6) (hS.at_ 2 rfl) rfl) rfl (aG rfl rfl (aS (vs:=[_,_]) isAgg36 sizeOf36 rfl (aE.own (j:=0) (m:=2) (hS.at_ 1 rfl) rfl) rfl (aS (vs:=[_,_]) isAgg36 sizeOf36 rfl (aE.own (j:=0) (m:=2) (hS.at_ 0 rfl) rfl) rfl (cU (us:=[(0,.agg (List.toArray [_,_])),(1,.agg (List.toArray [_,_]))]) hS underlying71 sizeOf36 zeroValue36 rfl rfl rfl (bs_71_2 _ _ _ _) rfl fun B4 W4 hS=>?_)))))))))))))
 refine cF (vs:=[_,_,_]) hS goes_14 rfl (Dm ds d s st sy ra rl rc rs _ (SIn.below hS.below hs) (hrow.below hS.below) hlen (fun r hr=>(hin r hr).below hS.below) n _ 2 2 [c,e] (cf_two (hS.at_ 0 rfl)) rfl (fun x hx=>by rcases List.mem_cons.1 hx with rfl | hx;exact hcn.below hS.below;rw [List.mem_singleton] at hx;subst hx;exact hen.below hS.below) (by decide)) rfl fun W5 hS=>?_
 refine aA rfl rfl (aQ (XF.thenN (aL (aR (aG rfl rfl (dA rfl rfl rfl (aQ (XF.thenN (aZ rfl (fun hc=>?_) (fun hc=>?_))))))))))
 ·have hc29:=of_decide_eq_true hc;clear hc
  refine aL (aR (aG rfl rfl (aA rfl rfl (aA rfl rfl (aQ (XF.thenN (bJ (XF.thenR (XF.res (rK results7 rfl rfl) ?_)))))))))
  exact mM (Np hc29) hS.below
 ·have hc29:=of_decide_eq_false hc;clear hc
  have hte:jY ⟨s,st,sy,ra,rl,rc,rs⟩ [c,e] n=0:=Decidable.of_not_not hc29
  obtain ⟨hc0,he0,hn0,hn64⟩:=Rw hte
  refine bG (XF.thenN (aL (aL (aR (aG rfl rfl (dM rfl rfl rfl (aQ (XF.thenN (aZ rfl (fun hc=>?_) (fun hc=>?_))))))))))
  ·have hc32:=of_decide_eq_true hc;clear hc
   refine aL (aR (aA rfl rfl (aA rfl rfl (aQ (XF.thenN (bJ (XF.thenR (XF.res (rK results7 rfl rfl) ?_))))))))
   exact mM (Nq hc0 he0 ⟨hn0,hn64⟩ hc32) hS.below
  ·have hc32:=of_decide_eq_false hc;clear hc
   have hn12:n≤12:=by omega
   rw [runs_in hc0 he0 hn0 hn12]
   refine bG (XF.thenN (aL (aR (aS (vs:=[_,_]) isAgg36 sizeOf36 rfl (aE.own (j:=0) (m:=2) (hS.at_ 1 rfl) rfl) rfl (cF (vs:=[_]) hS Cx rfl (yW ⟨s,st,sy,ra,rl,rc,rs⟩ e _ (hen.below hS.below) he0 (ht.below hS.below)) rfl fun W6 hS=>aA rfl rfl (aQ (XF.thenN (aL (aR (aS (vs:=[_,_]) isAgg36 sizeOf36 rfl (aE.own (j:=0) (m:=2) (hS.at_ 2 rfl) rfl) rfl (cS (us:=[(0,.slice _ _ _),(1,.agg (List.toArray [_,_]))]) rfl (Jb _ _ _ _ _) rfl (cU (us:=[(0,.agg (List.toArray [_,_,_]))]) hS underlying70 sizeOf69 zeroValue69 rfl rfl rfl (bs_70_1 _ _ _) rfl fun B7 W7 hS=>aA rfl rfl (aQ (XF.thenN (aL (aL ?_))))))))))))))))
   have hS:=hS.ownG9 (n:=1) (size:=3) rfl (by decide)
   refine aR (aA rfl rfl (aQ (XF.thenN (bM ?_))))
   refine dK (fun m l W=>∃ (i:Nat) (ks:List KC) (v:Value) (Kk:List (Nat×World)),i≤ks.length∧0 < ks.length∧ks.length≤10000∧m=10001 - i∧l=[(3,.int .i64 n),(4,.pointer (some ⟨B1,0,none⟩)),(11,.string ⟨(fV e.p e.ws).toArray⟩),(12,v),(13,.int .i64 (i:Int))]∧vO (nxP rs) n.toNat (10001 - i) (ks.map KC.pl) i=iQ (nxP rs) n.toNat (c.p,c.ws)∧(∀ x∈ks,stepE ⟨s,st,sy,ra,rl,rc,rs⟩ x.c=0∧x.rs.length≤12)∧jJ w Kk (fun W2=>∀ x∈ks,KcOk w.heap.size W2 x)∧St w [(B1,[.int .i64 s.f.tag,.int .i64 s.f.dim,.slice s.f.a s.f.len s.f.cap,.int .i64 st,.int .i64 sy,.slice ra rl rc],28)] [⟨v,ks.length,ks.flatMap KC.c3,69,3⟩] Kk W) (10001 - 0) ([(3,_),(4,_),(11,_),(12,_),(13,_)]) ⟨rfl,rfl,rfl,rfl,rfl,trivial⟩ (⟨0,[⟨none,0,[],c⟩],_,[],Nat.zero_le _,(by show 0 < 1;decide),(by show 1≤10000;decide),rfl,rfl,rfl,(fun x hx=>by rw [List.mem_singleton] at hx;subst hx;exact ⟨hc0,by show 0≤12;decide⟩),(fun h2 hk x hx=>by rw [List.mem_singleton] at hx;subst hx;exact ⟨World.ownsRow_nil _ _ _ _,hcn.below h2.below,hcc⟩),hS.tail.tail.tail.clear⟩) ?_
   clear hS
   rintro m l W ⟨i,ks,v,Kk,hi,hpos,hmax,rfl,rfl,hrun,hpk,HK,hS⟩
   have hrw:W.ownsRow w.heap.size 69 3 v ks.length (ks.flatMap KC.c3):=hS.row 0 rfl
   obtain ⟨g9,c9,e9,_,_⟩:=hrw.form hpos
   subst e9
   refine aL (aL (aR (aG rfl rfl (aG rfl rfl (bX underlying70 rfl rfl (cN rfl rfl rfl (aG rfl rfl (bS (d:=42) rfl (fun hc=>?_) (fun hc=>?_)))))))))
   ·have hg42:=of_decide_eq_true hc;clear hc
    obtain ⟨x,hx⟩:∃ x,ks[i]?=some x:=⟨ks[i]'(by omega),List.getElem?_eq_getElem _⟩
    have k9:aE W g9 (0+i * 3) x.c3:=by rw [Nat.zero_add];exact yR hrw hx
    obtain ⟨hx0,hx12⟩:=hpk x (List.mem_of_getElem? hx)
    refine aC (d:=42) rfl rfl (aG rfl rfl (aC (d:=42) rfl rfl (aG rfl rfl (aC (d:=42) rfl rfl (cK  underlying70 sizeOf69 rfl rfl rfl (by omega) rfl rfl (aC (d:=42) rfl rfl (aP wM rfl (Nat.add_zero _) rfl (aC (d:=42) rfl rfl (aT isAgg29 rfl (k9.1) rfl (aC (d:=42) rfl rfl (bX underlying29 rfl rfl (aC (d:=42) rfl rfl (aG rfl rfl (aC (d:=42) rfl rfl (cN rfl rfl rfl (bC rfl rfl rfl (aQ (XF.thenN (aZ rfl (fun hc=>?_) (fun hc=>?_))))))))))))))))))))
    ·have hc51:=of_decide_eq_true hc;clear hc
     refine bG (XF.thenN (aL (bM (aL ?_))))
     have hS11:=hS
     refine Iu (al:=[]) (G:=fun _=>[⟨.slice (some ⟨g9,0,none⟩) ks.length c9,ks.length,ks.flatMap KC.c3,69,3⟩]) (E:=[]) (k:=13) (ds:=[16]) cE rfl hS rfl rfl (by kernel_rfl) (by kernel_rfl) rfl (by decide) rfl (aY 1 rfl (isV _) (syV bD [(4,_)] rfl rfl (fun _=>(aU rfl)) (fun _=>⟨cI rfl,trivial⟩) (fun s w hw=>bF (vs:=[_,_,_,_,_,_]) isAgg28 sizeOf28 rfl ((aE.own (j:=0) (m:=6) (hw.at_ 0 rfl) rfl))) (aH rfl)) (aY 2 rfl (isV _) (syV bD [(12,_)] rfl rfl (fun _=>(aU rfl)) (fun _=>⟨cI rfl,trivial⟩) (fun s w hw=>bE rfl) (aH rfl)) (aY 3 rfl (isV _) (syV bD [(13,_)] rfl rfl (fun _=>(aU rfl)) (fun _=>⟨cI rfl,trivial⟩) (fun s w hw=>bE rfl) (aH rfl)) (aY 4 rfl (isV _) (syV bD [(56,_),(57,_)] rfl rfl (fun _=>(aU rfl)) (fun _=>⟨aO 1 (dF rfl rfl (aB rfl rfl rfl)),aO 2 (dF rfl rfl (aB rfl rfl rfl)),trivial⟩) (fun s w hw=>bB  underlying70 sizeOf69 rfl rfl rfl (by omega) rfl) (aH rfl)) (aY 5 rfl (isV _) (syV bD [(58,_)] rfl rfl (fun _=>(aU rfl)) (fun _=>⟨aO 3 (dF rfl rfl (aB rfl rfl rfl)),trivial⟩) (fun s w hw=>aW Dx rfl rfl) (aH rfl)) ?_)))))
     refine aY 6 rfl (isV _) (syV bD [(59,_)] rfl rfl (fun _=>(aU rfl)) (fun _=>⟨aO 4 (dF rfl rfl (aB rfl rfl rfl)),trivial⟩) (fun s w hw=>bF (vs:=[_,_]) isAgg36 sizeOf36 rfl (by have h:=yR (hw.row 0 rfl) hx;rw [Nat.zero_add];exact h.2)) (aH rfl)) ?_
     refine aY 7 rfl (kK W.heap.size (nxP rs (x.c.p,x.c.ws))) (lF bD (fun s=>[isV _,isV _]) rfl rfl goes_16 (fun _=>aU rfl) (fun s=>⟨bZ (aO 0 (dF rfl rfl (aB rfl rfl rfl))),bZ (aO 5 (dF rfl rfl (aB rfl rfl rfl))),trivial⟩) (fun vs s w' hk hw hlo hh=>by have e:=cB (us:=[_,_]) hh;subst e;have hX9:=HK hw (fun q hq=>hq) x (List.mem_of_getElem? hx);exact Rq hlo (nx_at hx0) (stNextA (c:=x.c) (hpi.below hw.below) hX9.c hX9.cc)) (aH rfl)) ?_
     refine aY 8 rfl (kK W.heap.size (nxP rs (x.c.p,x.c.ws))) (syP (q:=kK W.heap.size (nxP rs (x.c.p,x.c.ws))) 6 61 rfl rfl (by kernel_rfl) (aB rfl rfl rfl) qM (aH rfl)) (aY 9 rfl (dN W.heap.size (nxP rs (x.c.p,x.c.ws)).1) (syP (q:=dN W.heap.size (nxP rs (x.c.p,x.c.ws)).1) 7 54 rfl rfl (by kernel_rfl) (aB rfl rfl rfl) (gZ Rr) (aH rfl)) (aY 10 rfl (eF W.heap.size (nxP rs (x.c.p,x.c.ws)).1) (syP (q:=eF W.heap.size (nxP rs (x.c.p,x.c.ws)).1) 7 54 rfl rfl (by kernel_rfl) (aB rfl rfl rfl) (gZ Rs) (aH rfl)) (aY 11 rfl (isV (.int .i64 (nxP rs (x.c.p,x.c.ws)).2)) (syP (q:=isV (.int .i64 (nxP rs (x.c.p,x.c.ws)).2)) 7 54 rfl rfl (by kernel_rfl) (aB rfl rfl rfl) (gZ Rt) (aH rfl)) (aY 12 rfl (dN W.heap.size (nxP rs (x.c.p,x.c.ws)).1) (syP (q:=dN W.heap.size (nxP rs (x.c.p,x.c.ws)).1) 8 62 rfl rfl (by kernel_rfl) (aB rfl rfl rfl) iT (aH rfl)) (aY 13 rfl (eF W.heap.size (nxP rs (x.c.p,x.c.ws)).1) (syP (q:=eF W.heap.size (nxP rs (x.c.p,x.c.ws)).1) 9 63 rfl rfl (by kernel_rfl) (aB rfl rfl rfl) iT (aH rfl)) (oH ?_))))))
     intro s8 W8 Ks8 hall8 hsz8 hKs8 hS' hcov8 hfx8 hno8
     clear hS;have hS:=hS'.castO (O':=[_]) rfl;clear hS'
     refine nM (L':=[AwS _ _ (isV _),AwS _ _ (isV _),AwS _ _ (isV _),AwS _ _ (isV _),AwS _ _ (isV _),AwS _ _ (isV _),AwS _ _ (kK W.heap.size (nxP rs (x.c.p,x.c.ws))),AwS _ _ (kK W.heap.size (nxP rs (x.c.p,x.c.ws))),AwS _ _ (dN W.heap.size (nxP rs (x.c.p,x.c.ws)).1),AwS _ _ (eF W.heap.size (nxP rs (x.c.p,x.c.ws)).1),AwS _ _ (isV (.int .i64 (nxP rs (x.c.p,x.c.ws)).2)),AwS _ _ (dN W.heap.size (nxP rs (x.c.p,x.c.ws)).1),AwS _ _ (eF W.heap.size (nxP rs (x.c.p,x.c.ws)).1)]) rfl (bP (bP (bP (bP (bP (bP ?_))))))
     refine cW ?_;intro _ _
     refine cW ?_;intro _ _
     refine cW ?_;intro _ _
     refine cW ?_;intro _ _
     refine bP ?_
     refine cW ?_;intro v11 h11
     refine cW ?_;intro v12 h12
     obtain ⟨cs,hc1,hc2,hc3⟩:=h12.here
     obtain ⟨ca,cac,rfl,_⟩:=eC hc1
     obtain ⟨na,nac,rfl,_⟩:=eC h11.here
     have HC:jJ w Ks8 (fun W2=>dN W.heap.size (nxP rs (x.c.p,x.c.ws)).1 (.slice na (nxP rs (x.c.p,x.c.ws)).1.length nac) W2∧Dy W.heap.size (nxP rs (x.c.p,x.c.ws)).1 ca cac cs W2):=fun h2 hk=>by
      have ha:=lH (hcov8 h2 hk) (fun b hb hx=>absurd (Du hS11 hx) (by omega))
      exact ⟨lG h11.here ha,Dy.agree ⟨hc1,hc2,hc3⟩ ha⟩
     obtain ⟨lo9,hlo9⟩:∃ n,n=W.heap.size:=⟨_,rfl⟩
     rw [← hlo9] at HC
     have hcn9:cs.length=(nxP rs (x.c.p,x.c.ws)).1.length:=by have h9:=congrArg List.length hc2;simpa using h9
     clear hc1 hc2 hc3 h11 h12
     refine cL (aA rfl rfl (aQ (XF.thenN (aL (aL (aR (aG rfl rfl (dA rfl rfl rfl (aQ (XF.thenN (aZ rfl (fun hc=>?_) (fun hc=>?_))))))))))))
     ·have hc66:=of_decide_eq_true hc;clear hc
      obtain ⟨f,hf⟩:∃ f,10001 - i=f+1:=⟨10000 - i,by omega⟩
      rw [hf,sT (x:=x.pl) (by rw [List.getElem?_map,hx];rfl) (by show ¬ n.toNat≤x.rs.length;omega) hc66] at hrun
      refine aL (aR (aG rfl rfl (aA rfl rfl (aA rfl rfl (aQ (XF.thenN (bJ (XF.thenR (XF.blkR (XF.thenR (XF.thenR (XF.blkR (XF.thenR (XF.res (rK results7 rfl rfl) ?_))))))))))))))
      exact mM (by rw [← hrun];exact if_pos hc66) hS.below
     ·have hc66:=of_decide_eq_false hc;clear hc
      refine bG (XF.thenN (aL (aR (aG rfl rfl (bX underlying71 rfl rfl (aG rfl rfl (aQ (XF.thenN (bM (dK (fun m l W=>∃ (k:Nat) (k2:List KC) (v2:Value) (K2:List (Nat×World)),k≤cs.length∧k2.length=ks.length+k∧k2.length≤10000∧m=cs.length - k∧l=[(3,.int .i64 n),(4,.pointer (some ⟨B1,0,none⟩)),(11,.string ⟨(fV e.p e.ws).toArray⟩),(12,v2),(13,.int .i64 (i:Int)),(14,.slice na (nxP rs (x.c.p,x.c.ws)).1.length nac),(68,.slice ca cs.length cac),(69,.int .i64 (cs.length:Int)),(70,.int .i64 (k:Int))]∧k2.map KC.pl=ks.map KC.pl++((nxP rs (x.c.p,x.c.ws)).1.take k).map (qX x.pl)∧(∀ x∈k2,stepE ⟨s,st,sy,ra,rl,rc,rs⟩ x.c=0∧x.rs.length≤12)∧k2[i]?=some x∧jJ w K2 (fun W2=>dN lo9 (nxP rs (x.c.p,x.c.ws)).1 (.slice na (nxP rs (x.c.p,x.c.ws)).1.length nac) W2∧Dy lo9 (nxP rs (x.c.p,x.c.ws)).1 ca cac cs W2)∧jJ w K2 (fun W2=>∀ x∈k2,KcOk w.heap.size W2 x)∧St w [(B1,[.int .i64 s.f.tag,.int .i64 s.f.dim,.slice s.f.a s.f.len s.f.cap,.int .i64 st,.int .i64 sy,.slice ra rl rc],28)] [⟨v2,k2.length,k2.flatMap KC.c3,69,3⟩] K2 W) (cs.length - 0) ([(3,_),(4,_),(11,_),(12,_),(13,_),(14,_),(68,_),(69,_),(70,_)]) ⟨rfl,rfl,rfl,rfl,rfl,rfl,rfl,rfl,rfl,trivial⟩ (⟨0,ks,_,_,Nat.zero_le _,rfl,hmax,rfl,rfl,by simp,hpk,hx,HC.more (fun q hq=>by simp [hq]),HK.more (fun q hq=>by simp [hq]),hS⟩) ?_))))))))))
      clear hS
      clear hrw k9 hS11 HC HK;rintro m l W ⟨k,k2,v2,K2,hk0,hlen2,hmax2,rfl,rfl,hpl2,hpk2,hx2,HC,HK,hS⟩
      refine aL (aR (cN rfl rfl rfl (aQ (XF.thenN (aL (aZ rfl (fun hc=>?_) (fun hc=>?_)))))))
      ·have hc71:=of_decide_eq_true hc;clear hc
       have hk:k < cs.length:=by omega
       obtain ⟨c1,hc1⟩:∃ c1,cs[k]?=some c1:=⟨cs[k],List.getElem?_eq_getElem hk⟩
       obtain ⟨y,hy⟩:∃ y,(nxP rs (x.c.p,x.c.ws)).1[k]?=some y:=⟨(nxP rs (x.c.p,x.c.ws)).1[k],List.getElem?_eq_getElem (by omega)⟩
       have hCW:=(HC.now hS).2
       have hyc:c1.pl=y.2:=by
        have h9:=congrArg (fun l=>l[k]?) hCW.2.1
        simp only [List.getElem?_map,hc1,hy,Option.map_some] at h9
        exact Option.some.inj h9
       obtain ⟨cb,d9,ec,_,_⟩:=hCW.1.form (show 0 < cs.length by omega)
       injection ec with ec1 ec2 ec3
       subst ec1;subst ec3
       have k16:aE W cb (0+k * 2) (pN c1):=by rw [Nat.zero_add];exact Rx hCW.1 hc1
       dsimp only [pN] at k16
       have hrw2:W.ownsRow w.heap.size 69 3 v2 k2.length (k2.flatMap KC.c3):=hS.row 0 rfl
       obtain ⟨g2,d2,e2,_,_⟩:=hrw2.form (show 0 < k2.length by omega)
       subst e2
       obtain ⟨nb,d8,en,hn1,_⟩:=World.ownsRow.form (show W.ownsRow lo9 3 1 (.slice na (nxP rs (x.c.p,x.c.ws)).1.length nac) (nxP rs (x.c.p,x.c.ws)).1.length (((nxP rs (x.c.p,x.c.ws)).1.map (·.1)).map (Value.int .i64)) from (HC.now hS).1) (show 0 < (nxP rs (x.c.p,x.c.ws)).1.length by omega)
       injection en with en1 en2 en3
       subst en1;subst en3
       refine bG (XF.thenN (aL (bM (aL (aR (aG rfl rfl (cK  underlying71 sizeOf36 rfl rfl rfl (by omega) rfl rfl (aS (vs:=[_,_]) isAgg36 sizeOf36 rfl (k16) rfl (bH (cs:=[_,_]) hS zeroValue36 rfl rfl fun B9 W9 hS=>aA rfl rfl (aV (i:=0) (vs:=[_,_]) (cs':=[_,_]) (O':=[_,_]) hS sizeOf36 rfl rfl rfl rfl rfl rfl rfl fun W10 hS=>aQ (XF.thenN (aL (aL (aR (aG rfl rfl (bX underlying70 rfl rfl (cM rfl rfl rfl (aQ (XF.thenN (aZ rfl (fun hc=>?_) (fun hc=>?_)))))))))))))))))))))
       ·have hc77:=of_decide_eq_true hc;clear hc
        have hm9:k2.length=10000:=by omega
        obtain ⟨f,hf⟩:∃ f,10001 - i=f+1:=⟨10000 - i,by omega⟩
        rw [hf,qF (x:=x.pl) (by rw [List.getElem?_map,hx];rfl) (by show ¬ n.toNat≤x.rs.length;omega) (fun h=>hc66 h) (by rw [List.length_map];show 10000 < ks.length+(nxP rs (x.c.p,x.c.ws)).1.length;omega)] at hrun
        refine aL (aR (aA rfl rfl (aA rfl rfl (aQ (XF.thenN (bJ (XF.thenR (XF.blkR (XF.thenR (XF.thenR (XF.blkR (XF.blkR (XF.thenR (XF.thenR (XF.blkR (XF.thenR (XF.res (rK results7 rfl rfl) ?_)))))))))))))))))
        exact mM (by rw [← hrun];rfl) hS.below
       ·have hc77:=of_decide_eq_false hc;clear hc
        refine bG (XF.thenN ?_)
        have hS19:=hS
        have hsz19:=hS.below.size
        refine regSF (ef:=18) (jy:=18) (ca:=Fy (fun _=>[])) (ta:=fun _=>0) (Os:=Fz _) (Gs:=uQ _) (al:=[]) (k:=16) cE rfl hS rfl (by kernel_rfl) (by kernel_rfl) (by kernel_rfl) (by kernel_rfl) rfl (by decide) rfl (fun _=>none) (.inr ⟨rfl,rfl,rfl⟩) rfl (dB 1 rfl rfl (isV _) (fun hNo=>sgV [(12,_)] rfl rfl rfl rfl hNo (aU rfl) ⟨cI rfl,trivial⟩ (fun ev w he hw=>bE rfl) (aH rfl)) (dB 2 rfl rfl (isV _) (fun hNo=>sgV [(12,_)] rfl rfl rfl rfl hNo (aU rfl) ⟨cI rfl,trivial⟩ (fun ev w he hw=>bE rfl) (aH rfl)) (dB 3 rfl rfl (isV _) (fun hNo=>sgV [(13,_)] rfl rfl rfl rfl hNo (aU rfl) ⟨cI rfl,trivial⟩ (fun ev w he hw=>bE rfl) (aH rfl)) (dB 4 rfl rfl (isV _) (fun hNo=>sgV [(79,_),(80,_)] rfl rfl rfl rfl hNo (aU rfl) ⟨aO 1 (aB rfl rfl rfl),aO 2 (aB rfl rfl rfl),trivial⟩ (fun ev w he hw=>bB (j:=i) underlying70 sizeOf69 rfl rfl (rfl) (by omega) rfl) (aH rfl)) (dB 5 rfl rfl (isV _) (fun hNo=>sgV [(81,_)] rfl rfl rfl rfl hNo (aU rfl) ⟨aO 3 (aB rfl rfl rfl),trivial⟩ (fun ev w he hw=>aW wM rfl (Nat.add_zero _)) (aH rfl)) ?_)))))
        refine dB 6 rfl rfl (isV (.slice x.ra x.rs.length x.rc)) (fun hNo=>sgV [(82,_)] rfl rfl rfl rfl hNo (aU rfl) ⟨aO 4 (aB rfl rfl rfl),trivial⟩ (fun ev w he hw=>bA isAgg29 rfl (by have h:=(yR (hw.row 0 rfl) hx2).1;rw [Nat.zero_add];exact h)) (aH rfl)) ?_
        refine dB 7 rfl rfl (isV _) (fun hNo=>sgV [(14,_)] rfl rfl rfl rfl hNo (aU rfl) ⟨cI rfl,trivial⟩ (fun ev w he hw=>bE rfl) (aH rfl)) (dB 8 rfl rfl (isV _) (fun hNo=>sgV [(17,_)] rfl rfl rfl rfl hNo (aU rfl) ⟨cI rfl,trivial⟩ (fun ev w he hw=>bE rfl) (aH rfl)) (dB 9 rfl rfl (isV _) (fun hNo=>sgV [(17,_)] rfl rfl rfl rfl hNo (aU rfl) ⟨cI rfl,trivial⟩ (fun ev w he hw=>bE rfl) (aH rfl)) (dB 10 rfl rfl (isV _) (fun hNo=>sgV [(86,_)] rfl rfl rfl rfl hNo (aU rfl) ⟨aO 8 (aB rfl rfl rfl),trivial⟩ (fun ev w he hw=>Pe rfl rfl (IntWalk.i64_in _ (by omega))) (aH rfl)) (dB 11 rfl rfl (isV (.slice (some ⟨nb,0+k * 1,none⟩) 1 (nac - k))) (fun hNo=>sgV [(84,_),(85,_),(87,_)] rfl rfl rfl rfl hNo (aU rfl) ⟨aO 6 (aB rfl rfl rfl),aO 7 (aB rfl rfl rfl),aO 9 (aB rfl rfl rfl),trivial⟩ (fun ev w he hw=>Nn (b:=nb) (o:=0) (m:=(nxP rs (x.c.p,x.c.ws)).1.length) (c:=nac) (i:=k) underlying29 sizeOf3 rfl rfl rfl rfl rfl (by omega)) (aH rfl)) (dB 12 rfl rfl (gR W10.heap.size 2 29 _) (fun hNo=>sg_rowV (us:=[.slice _ _ _,.slice _ _ _]) rfl rfl rfl rfl hNo (aU rfl) underlying40 sizeOf29 zeroValue29 rfl rfl ⟨bZ (aO 5 (aB rfl rfl rfl)),bZ (aO 10 (aB rfl rfl rfl)),trivial⟩ (K6 _ _ _ _ _ _) (aH rfl)) ?_)))))
        refine dB 13 rfl rfl (jL W10.heap.size (x.rs++[y.1])) (fun hNo=>Dc [gR W10.heap.size 2 29 _] rfl rfl rfl rfl hNo K7 (aU rfl) ⟨bZ (aO 11 (aB rfl rfl rfl)),trivial⟩ (fun vs ev w' he hSt hlo hh=>by
         obtain ⟨v1,rfl,B,rfl,hB1,hB2⟩:=holds1 hh
         exact Nl hlo hB2 (HK hSt (fun q hq=>hq) x (List.mem_of_getElem? hx2)).r.row (by have h:=Nm (HC hSt (fun q hq=>hq)).1 hy;exact h) (by omega)) (aH rfl)) ?_
        refine dB 14 rfl rfl (isV _) (fun hNo=>sgV [(18,_)] rfl rfl rfl rfl hNo (aU rfl) ⟨cI rfl,trivial⟩ (fun ev w he hw=>bF (vs:=[_,_]) isAgg36 sizeOf36 rfl ((aE.own (j:=0) (m:=2) (hw.at_ 0 rfl) rfl))) (aH rfl)) (dB 15 rfl rfl (uR W10.heap.size (x.rs++[y.1]) c1) (fun hNo=>sg_ofs [(12,90,jL W10.heap.size (x.rs++[y.1])),(13,91,isV _)] rfl rfl rfl rfl hNo ⟨⟨by kernel_rfl,aB rfl rfl rfl⟩,⟨by kernel_rfl,aB rfl rfl rfl⟩,trivial⟩ (by kernel_rfl) bld_crs (aH rfl)) (dB 16 rfl rfl (yY W10.heap.size (x.rs++[y.1]) c1) (fun hNo=>sg_rowP (j0:=14) rfl rfl rfl rfl hNo (by kernel_rfl) rfl rfl (aB rfl rfl rfl) underlying70 sizeOf69 zeroValue69 rfl rfl crs_row (aH rfl)) (wH ?_)))
        intro Bf11 y11 W11 Ks11 hsz11 hKs11 hS' hcov11
        clear hS;have hS:=hS'.castO (O':=[_,_]) rfl;clear hS'
        refine nM (L':=[AwS _ _ (isV _),AwS _ _ (isV _),AwS _ _ (isV _),AwS _ _ (isV _),AwS _ _ (isV _),AwS _ _ (isV (.slice x.ra x.rs.length x.rc)),AwS _ _ (isV _),AwS _ _ (isV _),AwS _ _ (isV _),AwS _ _ (isV _),AwS _ _ (isV (.slice (some ⟨nb,0+k * 1,none⟩) 1 (nac - k))),AwS _ _ (gR W10.heap.size 2 29 _),AwS _ _ (jL W10.heap.size (x.rs++[y.1])),AwS _ _ (isV _),AwS _ _ (uR W10.heap.size (x.rs++[y.1]) c1),AwS _ _ (yY W10.heap.size (x.rs++[y.1]) c1)]) rfl (bP (bP (bP (bP (bP (bP (bP (bP (bP (bP (bP ?_)))))))))))
        refine cW ?_;rintro v11_11 hA11_11
        refine cW ?_;rintro v11_12 hA11_12
        refine bP ?_
        refine cW ?_;rintro v11_14 hA11_14
        refine cW ?_;rintro vR hR;obtain ⟨BR,ar,rc9,rfl,hRB,hRn⟩:=hR.here;have HR:jJ w Ks11 (fun W2=>fT w.heap.size W2 ar rc9 (x.rs++[y.1])):=fun h2 hk=>(hRn.agree (lH (hcov11 h2 hk) (fun b hb hx=>absurd (Du hS19 hx) (by omega)))).mono hsz19
        refine cL ?_
        refine iO (i:=0) (news:=[.slice ar (x.rs++[y.1]).length rc9,.int .i64 c1.p,.slice c1.wa c1.wl c1.wc]) hS underlying70 inf_69 rfl rfl (by show 0 < 3;decide) rfl rfl rfl rfl rfl (.inr ⟨_,rfl,fun j u hj=>by rw [Addr.add_lit,Nat.zero_add];exact aK hRB hj⟩) (rfl) (by intro u hu;simp at hu;rcases hu with rfl | rfl | rfl<;>rfl) (by dsimp only;simp only [maxLen];omega) (by dsimp only;show _ * 56≤_;omega) rfl fun v12 W12 hS=>?_
        refine aA rfl rfl (aQ (XF.blkN (XF.thenN (aR (cR rfl rfl (IntWalk.i64_in _ (by omega)) rfl (aG rfl rfl (aQ ?_)))))))
        have hC9:=hCW.2.2 c1 (List.mem_of_getElem? hc1)
        obtain ⟨l9,hl9,hyl9⟩:=Dz hy
        have hv9:stepE ⟨s,st,sy,ra,rl,rc,rs⟩ c1=0:=yS hx0 hl9 hyl9 (fun r hr=>(hin r hr).len) hyc hC9.2
        have hnew:KC.pl ⟨ar,rc9,x.rs++[y.1],c1⟩=qX x.pl y:=by
         show (x.rs++[y.1],c1.pl)=(x.rs++[y.1],y.2)
         rw [hyc]
        exact XF.round (cs.length - (k+1)) [(3,_),(4,_),(11,_),(12,_),(13,_),(14,_),(68,_),(69,_),(70,_)] (by omega) ⟨rfl,rfl,rfl,rfl,rfl,rfl,rfl,rfl,rfl,trivial⟩ ⟨k+1,k2++[⟨ar,rc9,x.rs++[y.1],c1⟩],_,_,by omega,by rw [List.length_append,hlen2];simp;omega,by rw [List.length_append];simp;omega,rfl,rfl,by rw [List.map_append,hpl2,List.take_add_one,hy,List.map_append,List.append_assoc];show _++(_++[KC.pl _])=_++(_++[qX _ _]);rw [hnew],(fun z hz=>by
          rcases List.mem_append.1 hz with hz | hz
          ·exact hpk2 z hz
          ·rw [List.mem_singleton] at hz;subst hz;exact ⟨hv9,by show (x.rs++[y.1]).length≤12;rw [List.length_append];simp;omega⟩),by rw [List.getElem?_append_left (by omega)];exact hx2,HC.more (fun q hq=>by simp [hq]),(fun h2 hk z hz=>by
          rcases List.mem_append.1 hz with hz | hz
          ·exact HK h2 (fun q hq=>hk q (by simp [hq])) z hz
          ·rw [List.mem_singleton] at hz;subst hz
           have hC:=(HC h2 (fun q hq=>hk q (by simp [hq]))).2.2.2 c1 (List.mem_of_getElem? hc1)
           exact ⟨HR h2 (fun q hq=>hk q (by simp [hq])),⟨hC.1.row,hC.2.symm⟩,by have h9:=hC.1.cap;show c1.wl≤c1.wc;rw [hC.2];exact h9⟩),hS.tail.castG (by simp [uQ])⟩
      ·have hc71:=of_decide_eq_false hc;clear hc
       have ek:k=cs.length:=by omega
       rw [ek,hcn9,List.take_of_length_le (Nat.le_refl _)] at hpl2
       obtain ⟨f,hf⟩:∃ f,10001 - i=f+1:=⟨10000 - i,by omega⟩
       have ef:f=10001 - (i+1):=by omega
       rw [hf,qG (x:=x.pl) (by rw [List.getElem?_map,hx];rfl) (by show ¬ n.toNat≤x.rs.length;omega) (fun h=>hc66 h) (by rw [List.length_map];show ¬ 10000 < ks.length+(nxP rs (x.c.p,x.c.ws)).1.length;omega),ef] at hrun
       refine dE (XF.thenX (XF.thenX (XF.blkX (XF.blkN (XF.thenN (aR (aG rfl rfl (cR rfl rfl (IntWalk.i64_in _ (by omega)) rfl (aA rfl rfl (aQ ?_))))))))))
       exact XF.round (10001 - (i+1)) [(3,_),(4,_),(11,_),(12,_),(13,_)] (by omega) ⟨rfl,rfl,rfl,rfl,rfl,trivial⟩ ⟨i+1,k2,_,_,by omega,by omega,hmax2,rfl,rfl,by rw [hpl2];exact hrun,hpk2,HK.more (fun q hq=>by simp [hq]),hS⟩
    ·have hc51:=of_decide_eq_false hc;clear hc
     refine dE (XF.thenX (XF.thenX (XF.blkX (XF.thenN (aL ?_)))))
     have hfin:iQ (nxP rs) n.toNat (c.p,c.ws)=(0,ks.map KC.pl):=by rw [← hrun];first | exact nD (by rw [List.length_map];omega) | exact lK (x:=x.pl) (by rw [List.getElem?_map,hx];rfl) (by show n.toNat≤x.rs.length;omega)
     rw [hfin]
     refine aR (aA rfl rfl (aQ (XF.thenN (aL (aL ?_)))))
     have hS:=hS.newG 29 1
     refine aR (aG rfl rfl (bX underlying70 rfl rfl (aG rfl rfl (aQ (XF.thenN (bM (dK (fun m l W=>∃ (j:Nat) (ls:List LI) (u:Value) (K2:List (Nat×World)),j≤ks.length∧ls.length≤j∧m=ks.length - j∧l=[(11,.string ⟨(fV e.p e.ws).toArray⟩),(19,u),(96,.slice (some ⟨g9,0,none⟩) ks.length c9),(97,.int .i64 (ks.length:Int)),(98,.int .i64 (j:Int))]∧ls.map LI.xs=sU (e.p,e.ws) ((ks.map KC.pl).take j)∧jJ w K2 (fun W2=>(∀ x∈ks,KcOk w.heap.size W2 x)∧∀ x∈ls,fT w.heap.size W2 x.a x.c x.xs)∧St w [(B1,[.int .i64 s.f.tag,.int .i64 s.f.dim,.slice s.f.a s.f.len s.f.cap,.int .i64 st,.int .i64 sy,.slice ra rl rc],28)] [⟨u,ls.length,ls.map LI.val,29,1⟩,⟨.slice (some ⟨g9,0,none⟩) ks.length c9,ks.length,ks.flatMap KC.c3,69,3⟩] K2 W) (ks.length - 0) ([(11,_),(19,_),(96,_),(97,_),(98,_)]) ⟨rfl,rfl,rfl,rfl,rfl,trivial⟩ (⟨0,[],_,_,Nat.zero_le _,Nat.le_refl _,rfl,rfl,by simp [sU],(fun h2 hk=>⟨HK h2 (fun q hq=>hk q (by simp [hq])),fun x hx=>by cases hx⟩),hS⟩) ?_)))))))
     clear hS
     rintro m l W ⟨j,ls,u,K2,hj,hlj,rfl,rfl,hls,HL,hS⟩
     refine aL (aR (cN rfl rfl rfl (aQ (XF.thenN (aL (aZ rfl (fun hc=>?_) (fun hc=>?_)))))))
     ·have hc99:=of_decide_eq_true hc;clear hc
      obtain ⟨x5,hx5⟩:∃ x,ks[j]?=some x:=⟨ks[j]'(by omega),List.getElem?_eq_getElem _⟩
      have k24:aE W g9 (0+j * 3) x5.c3:=by rw [Nat.zero_add];exact yR (hS.row 1 rfl) hx5
      have hv5:=(hpk x5 (List.mem_of_getElem? hx5)).1
      refine bG (XF.thenN (aL (bM (aL (aR (cK (j:=j) underlying70 sizeOf69 rfl rfl (rfl) (by omega) rfl rfl (aS (vs:=[_,_,_]) isAgg69 sizeOf69 rfl (k24) rfl (bH (cs:=[_,_,_]) hS zeroValue69 rfl rfl fun B13 W13 hS=>aV (i:=0) (vs:=[_,_,_]) (cs':=[_,_,_]) (O':=[_,_]) hS sizeOf69 rfl rfl rfl rfl rfl rfl rfl fun W14 hS=>aQ (XF.thenN (aL (aR (aP (o':=1) Dx rfl rfl rfl (aS (vs:=[_,_]) isAgg36 sizeOf36 rfl (aE.own (j:=1) (m:=2) (hS.at_ 0 rfl) rfl) rfl (cF (vs:=[_]) hS Cx rfl (yW ⟨s,st,sy,ra,rl,rc,rs⟩ x5.c _ ((HL hS (fun q hq=>hq)).1 x5 (List.mem_of_getElem? hx5)).c hv5 (ht.below hS.below)) rfl fun W15 hS=>aG rfl rfl (Lk rfl rfl rfl (aQ (XF.thenN (aZ rfl (fun hc=>?_) (fun hc=>?_)))))))))))))))))))
      ·have hc106:=hc;clear hc
       refine aR (aG rfl rfl (aP (o':=0) wM rfl rfl rfl (aT isAgg29 rfl (aK (hS.at_ 0 rfl) rfl) rfl (cU (us:=[(0,.slice _ _ _)]) hS underlying40 sizeOf29 zeroValue29 rfl rfl rfl (Dw _ _ _) rfl fun B16 W16 hS=>?_))))
       refine iB (i:=0) (news:=[_]) hS underlying40 Jc rfl rfl (by show 0 < 1;decide) rfl rfl rfl rfl rfl (aE.own (j:=0) (m:=1) (hS.at_ 0 rfl) rfl) rfl rfl (by dsimp only;simp only [maxLen];omega) (by dsimp only;show _ * 24≤_;omega) rfl fun v17 W17 hS=>?_
       refine aA rfl rfl (aQ (XF.blkN (XF.thenN (aR (cR rfl rfl (IntWalk.i64_in _ (by omega)) rfl (aG rfl rfl (aQ ?_)))))))
       have heq:x5.pl.2=(e.p,e.ws):=by first | exact of_decide_eq_true hc106 | exact hc106
       exact XF.round (ks.length - (j+1)) [(11,_),(19,_),(96,_),(97,_),(98,_)] (by omega) ⟨rfl,rfl,rfl,rfl,rfl,trivial⟩ ⟨j+1,ls++[⟨x5.ra,x5.rc,x5.rs⟩],_,_,by omega,by rw [List.length_append];simp;omega,rfl,rfl,by rw [List.map_append,nW (x:=x5.pl) (by rw [List.getElem?_map,hx5];rfl),hls,if_pos heq];rfl,(fun h2 hk=>by
         have h:=HL h2 (fun q hq=>hk q (by simp [hq]))
         exact ⟨h.1,fun z hz=>by
          rcases List.mem_append.1 hz with hz | hz
          ·exact h.2 z hz
          ·rw [List.mem_singleton] at hz;subst hz;exact (h.1 x5 (List.mem_of_getElem? hx5)).r⟩),hS.tail.tail.castG (by simp [uQ])⟩
      ·have hc106:=hc;clear hc
       refine bG (XF.blkN (XF.thenN (aR (cR rfl rfl (IntWalk.i64_in _ (by omega)) rfl (aG rfl rfl (aQ ?_))))))
       have hne:¬ x5.pl.2=(e.p,e.ws):=by first | exact of_decide_eq_false hc106 | exact hc106
       exact XF.round (ks.length - (j+1)) [(11,_),(19,_),(96,_),(97,_),(98,_)] (by omega) ⟨rfl,rfl,rfl,rfl,rfl,trivial⟩ ⟨j+1,ls,_,_,by omega,by omega,rfl,rfl,by rw [nW (x:=x5.pl) (by rw [List.getElem?_map,hx5];rfl),hls,if_neg hne,List.append_nil],HL.more (fun q hq=>by simp [hq]),hS.tail.castG (by simp [uQ])⟩
     ·have hc99:=of_decide_eq_false hc;clear hc
      refine dE (XF.thenX (XF.thenX (XF.blkX (XF.thenN (aL (aR (aG rfl rfl (aA rfl rfl (aA rfl rfl (aQ (XF.thenN (bJ (XF.res (rK results7 rfl rfl) ?_)))))))))))))
      have hjl:j=ks.length:=by omega
      rw [hjl,List.take_of_length_le (by rw [List.length_map];exact Nat.le_refl _)] at hls
      exact ⟨hS.below,_,ls,rfl,hls,by omega,hS.row 0 rfl,(HL hS (fun q hq=>hq)).2⟩
   ·have hg42:=of_decide_eq_false hc;clear hc
    refine aF (d:=42) rfl rfl rfl rfl (aF (d:=42) rfl rfl rfl rfl (aF (d:=42) rfl rfl rfl rfl (aF (d:=42) rfl rfl rfl rfl (aF (d:=42) rfl rfl rfl rfl (aF (d:=42) rfl rfl rfl rfl (aF (d:=42) rfl rfl rfl rfl (aF (d:=42) rfl rfl rfl rfl (bV rfl rfl rfl (aQ (XF.thenN (vA rfl (dE (XF.thenX (XF.thenX (XF.blkX (XF.thenN (aL ?_)))))))))))))))))
    have hfin:iQ (nxP rs) n.toNat (c.p,c.ws)=(0,ks.map KC.pl):=by rw [← hrun];first | exact nD (by rw [List.length_map];omega) | exact lK (x:=x.pl) (by rw [List.getElem?_map,hx];rfl) (by show n.toNat≤x.rs.length;omega)
    rw [hfin]
    refine aR (aA rfl rfl (aQ (XF.thenN (aL (aL ?_)))))
    have hS:=hS.newG 29 1
    refine aR (aG rfl rfl (bX underlying70 rfl rfl (aG rfl rfl (aQ (XF.thenN (bM (dK (fun m l W=>∃ (j:Nat) (ls:List LI) (u:Value) (K2:List (Nat×World)),j≤ks.length∧ls.length≤j∧m=ks.length - j∧l=[(11,.string ⟨(fV e.p e.ws).toArray⟩),(19,u),(96,.slice (some ⟨g9,0,none⟩) ks.length c9),(97,.int .i64 (ks.length:Int)),(98,.int .i64 (j:Int))]∧ls.map LI.xs=sU (e.p,e.ws) ((ks.map KC.pl).take j)∧jJ w K2 (fun W2=>(∀ x∈ks,KcOk w.heap.size W2 x)∧∀ x∈ls,fT w.heap.size W2 x.a x.c x.xs)∧St w [(B1,[.int .i64 s.f.tag,.int .i64 s.f.dim,.slice s.f.a s.f.len s.f.cap,.int .i64 st,.int .i64 sy,.slice ra rl rc],28)] [⟨u,ls.length,ls.map LI.val,29,1⟩,⟨.slice (some ⟨g9,0,none⟩) ks.length c9,ks.length,ks.flatMap KC.c3,69,3⟩] K2 W) (ks.length - 0) ([(11,_),(19,_),(96,_),(97,_),(98,_)]) ⟨rfl,rfl,rfl,rfl,rfl,trivial⟩ (⟨0,[],_,_,Nat.zero_le _,Nat.le_refl _,rfl,rfl,by simp [sU],(fun h2 hk=>⟨HK h2 (fun q hq=>hk q (by simp [hq])),fun x hx=>by cases hx⟩),hS⟩) ?_)))))))
    clear hS
    rintro m l W ⟨j,ls,u,K2,hj,hlj,rfl,rfl,hls,HL,hS⟩
    refine aL (aR (cN rfl rfl rfl (aQ (XF.thenN (aL (aZ rfl (fun hc=>?_) (fun hc=>?_)))))))
    ·have hc99:=of_decide_eq_true hc;clear hc
     obtain ⟨x5,hx5⟩:∃ x,ks[j]?=some x:=⟨ks[j]'(by omega),List.getElem?_eq_getElem _⟩
     have k24:aE W g9 (0+j * 3) x5.c3:=by rw [Nat.zero_add];exact yR (hS.row 1 rfl) hx5
     have hv5:=(hpk x5 (List.mem_of_getElem? hx5)).1
     refine bG (XF.thenN (aL (bM (aL (aR (cK (j:=j) underlying70 sizeOf69 rfl rfl (rfl) (by omega) rfl rfl (aS (vs:=[_,_,_]) isAgg69 sizeOf69 rfl (k24) rfl (bH (cs:=[_,_,_]) hS zeroValue69 rfl rfl fun B18 W18 hS=>aV (i:=0) (vs:=[_,_,_]) (cs':=[_,_,_]) (O':=[_,_]) hS sizeOf69 rfl rfl rfl rfl rfl rfl rfl fun W19 hS=>aQ (XF.thenN (aL (aR (aP (o':=1) Dx rfl rfl rfl (aS (vs:=[_,_]) isAgg36 sizeOf36 rfl (aE.own (j:=1) (m:=2) (hS.at_ 0 rfl) rfl) rfl (cF (vs:=[_]) hS Cx rfl (yW ⟨s,st,sy,ra,rl,rc,rs⟩ x5.c _ ((HL hS (fun q hq=>hq)).1 x5 (List.mem_of_getElem? hx5)).c hv5 (ht.below hS.below)) rfl fun W20 hS=>aG rfl rfl (Lk rfl rfl rfl (aQ (XF.thenN (aZ rfl (fun hc=>?_) (fun hc=>?_)))))))))))))))))))
     ·have hc106:=hc;clear hc
      refine aR (aG rfl rfl (aP (o':=0) wM rfl rfl rfl (aT isAgg29 rfl (aK (hS.at_ 0 rfl) rfl) rfl (cU (us:=[(0,.slice _ _ _)]) hS underlying40 sizeOf29 zeroValue29 rfl rfl rfl (Dw _ _ _) rfl fun B21 W21 hS=>?_))))
      refine iB (i:=0) (news:=[_]) hS underlying40 Jc rfl rfl (by show 0 < 1;decide) rfl rfl rfl rfl rfl (aE.own (j:=0) (m:=1) (hS.at_ 0 rfl) rfl) rfl rfl (by dsimp only;simp only [maxLen];omega) (by dsimp only;show _ * 24≤_;omega) rfl fun v22 W22 hS=>?_
      refine aA rfl rfl (aQ (XF.blkN (XF.thenN (aR (cR rfl rfl (IntWalk.i64_in _ (by omega)) rfl (aG rfl rfl (aQ ?_)))))))
      have heq:x5.pl.2=(e.p,e.ws):=by first | exact of_decide_eq_true hc106 | exact hc106
      exact XF.round (ks.length - (j+1)) [(11,_),(19,_),(96,_),(97,_),(98,_)] (by omega) ⟨rfl,rfl,rfl,rfl,rfl,trivial⟩ ⟨j+1,ls++[⟨x5.ra,x5.rc,x5.rs⟩],_,_,by omega,by rw [List.length_append];simp;omega,rfl,rfl,by rw [List.map_append,nW (x:=x5.pl) (by rw [List.getElem?_map,hx5];rfl),hls,if_pos heq];rfl,(fun h2 hk=>by
        have h:=HL h2 (fun q hq=>hk q (by simp [hq]))
        exact ⟨h.1,fun z hz=>by
         rcases List.mem_append.1 hz with hz | hz
         ·exact h.2 z hz
         ·rw [List.mem_singleton] at hz;subst hz;exact (h.1 x5 (List.mem_of_getElem? hx5)).r⟩),hS.tail.tail.castG (by simp [uQ])⟩
     ·have hc106:=hc;clear hc
      refine bG (XF.blkN (XF.thenN (aR (cR rfl rfl (IntWalk.i64_in _ (by omega)) rfl (aG rfl rfl (aQ ?_))))))
      have hne:¬ x5.pl.2=(e.p,e.ws):=by first | exact of_decide_eq_false hc106 | exact hc106
      exact XF.round (ks.length - (j+1)) [(11,_),(19,_),(96,_),(97,_),(98,_)] (by omega) ⟨rfl,rfl,rfl,rfl,rfl,trivial⟩ ⟨j+1,ls,_,_,by omega,by omega,rfl,rfl,by rw [nW (x:=x5.pl) (by rw [List.getElem?_map,hx5];rfl),hls,if_neg hne,List.append_nil],HL.more (fun q hq=>by simp [hq]),hS.tail.castG (by simp [uQ])⟩
    ·have hc99:=of_decide_eq_false hc;clear hc
     refine dE (XF.thenX (XF.thenX (XF.blkX (XF.thenN (aL (aR (aG rfl rfl (aA rfl rfl (aA rfl rfl (aQ (XF.thenN (bJ (XF.res (rK results7 rfl rfl) ?_)))))))))))))
     have hjl:j=ks.length:=by omega
     rw [hjl,List.take_of_length_le (by rw [List.length_map];exact Nat.le_refl _)] at hls
     exact ⟨hS.below,_,ls,rfl,hls,by omega,hS.row 0 rfl,(HL hS (fun q hq=>hq)).2⟩
def pU (lo:Nat):Asr:=fun v _=>∀ b,v.ownBlock=some b→lo≤b
theorem ge_new {lo n:Nat} (h:lo≤n) (w:World):pU lo (.slice (some ⟨n,0,none⟩) 0 0) w:=fun b hb=>by
 have e1:some n=some b:=hb
 have:=Option.some.inj e1;omega
theorem Ry {lo n:Nat} {v v':Value} {w:World} (hge:pU lo v w) (h:lo≤n) (h4:v'.ownBlock=v.ownBlock∨v'.ownBlock=some n) (w2:World):pU lo v' w2:=fun b hb=>by
 rcases h4 with h5 | h5
 ·exact hge b (h5▸hb)
 ·rw [h5] at hb;have:=Option.some.inj hb;omega
theorem Jd {W:World} {base lo:Nat} {e:TypeId} {size:Nat} {v:Value} {n:Nat} {xs:List Value} (h:W.ownsRow base e size v n xs) (hb:∀ b,v.ownBlock=some b→lo≤b):W.ownsRow lo e size v n xs:=by
 refine ⟨h.1,?_⟩
 rcases h.2 with h2 | ⟨g,cap,cur,rfl,h3,h4⟩
 ·exact .inl h2
 ·exact .inr ⟨g,cap,cur,rfl,hb g rfl,h4⟩
theorem Rz {v u:Value} (h:Value.apart v u) {b:Nat} (hv:v.ownBlock=some b) (hu:u.ownBlock=some b):False:=h b hv hu
theorem St.dropG {w0 W:World} {O:Own} {g:GR} {G:cY} {K:List (Nat×World)} (h:St w0 O (g::G) K W):St w0 O G K W:=⟨h.below,h.own,h.dist,h.kept,fun q hq=>h.rows q (List.mem_cons_of_mem _ hq),(List.pairwise_cons.1 h.gdist).2⟩
def Je (base:cY) (e:TypeId) (sz i:Nat) (r:List (Nat×Nat×List Value)) (s:Sy):cY:=match s i with | some _=>base | none=>GCh base e sz r s
theorem D4 {base:cY} {e:TypeId} {sz i:Nat} {r:List (Nat×Nat×List Value)} {s:Sy} {v:Value} (h:s i=some v):Je base e sz i r s=base:=by unfold Je;rw [h]
theorem qO {base:cY} {e:TypeId} {sz i:Nat} {r:List (Nat×Nat×List Value)} {s:Sy} (h:s i=none):Je base e sz i r s=GCh base e sz r s:=by unfold Je;rw [h]
section
variable {P:Program} {n:Nat} {Q:Exit→Act→World→Prop} {l:Fr} {w0 W:World} {ops opf:Array Oper} {os:List Oper} {K:List (Nat×World)} {L:List Asr} {i:Nat}
variable {Ob:Own} {al:List AB} {G:Sy→cY} {E:List Nat} {lo:Nat} {s:Sy}
variable {d:Nat} {op:Op} {ty:TypeId} {pos:String} {aft_:Array Edge} {v:Value} {gd:Option (Nat×Bool)}
theorem Jf {T e:TypeId} {sz:Nat} (hie:E.contains i=true) (hi:ops[i]?=some ⟨some d,.buildSlice T 0 #[],ty,pos,aft_,none⟩) (hU:P.underlying T=some (.slice e)) (hs:∀ w,(sizeOf e).run P w = .ok sz w)
  (hA_:al.all (fun q => !Nat.beq q.a i)=true) (hst_:al.all (fun q => !Nat.beq q.st i)=true) (hG:∀ s v,Kn ops E i s→G (upd s i v)=⟨v,0,[],e,sz⟩::G s) (hL:atI L i=pU lo):SY P n ops opf Q l w0 K lo al Ob G E L i :=
 yI hie hi fun t0 a s w h0 hF hg hk hD hD'=>by
  have hA:=a_ne hA_
  have hst:=Ku hst_
  have hB:Below w.heap.size w (w.alloc (.cells #[] e)):=(Below.refl _ _).alloc (Nat.le_refl _) _
  have hO:∀ v,OY al Ob (upd s i v)=OY al Ob s:=fun v=>by unfold OY;rw [nN hA hst]
  refine gY hi rfl (v:=.slice (some ⟨w.heap.size,0,none⟩) 0 0) (w':=w.alloc (.cells #[] e)) (by
   unfold execOp
   have h0:Array.range 0=#[]:=by simp
   simp only [List.map_toArray,List.map_nil,Instr.buildSlice,Sem.run_bind,run_underlying hU,Result.andThen_ok,hs,Nat.zero_mul,Sem.run_pure,h0]
   simp [Instr.fill,newRow]) ⟨_,_,rfl,fun _ _=>rfl,?_,kJ hB,fun b hb=>?_,(by rw [hL];exact fun _ _=>ge_new hg.2 _)⟩
  ·rw [hO,hG _ _ hk]
   refine hg.1.adopt hB ?_
   have:=World.ownsRow_made (base:=w.heap.size) (e:=e) (size:=sz) w #[] 0 (Nat.le_refl _) (Nat.zero_le _) (by simp)
   simpa using this
  ·rw [hO,hG _ _ hk] at hb
   rcases hb with h | ⟨g,h,hgb⟩
   ·exact .inl (.inl h)
   ·rcases List.mem_cons.1 h with rfl | h
    ·have e1:Value.ownBlock (.slice (some ⟨w.heap.size,0,none⟩) 0 0)=some b:=hgb
     exact .inr (Nat.le_of_eq (Option.some.inj e1))
    ·exact .inl (.inr ⟨g,h,hgb⟩)
theorem sy_appG {t e:TypeId} {y:Operand} {tx j0 m c gi gn size:Nat} {ad:Option Addr} {gxs news:List Value} {inf:TypeInfo} {z:Value} (hf:Fst ops opf) (li:Fr) (hie:E.contains i=true) (hi:ops[i]?=some ⟨some d,.call { callee:=.builtin .append,args:=#[.tmp tx,y],argTypes:=#[t,t] },ty,pos,aft_,none⟩)
  (hU:P.underlying t=some (.slice e)) (hinf:P.info? e=some inf) (hz:inf.zero=some z) (hzs:z.cells.size=inf.size) (hsz:0 < inf.size) (hsize:size=inf.size) (hj0:E.contains j0=true) (hwx:bI ops i j0 tx=true) (hli:∀ s,uI n opf l (LS E s 0 L) i li) (hy:evL li y=some (.slice ad m c))
  (hA_:al.all (fun q => !Nat.beq q.a i)=true) (hst_:al.all (fun q => !Nat.beq q.st i)=true)
  (hG:∀ s v0,Kn ops E i s→s j0=some v0→(G s)[gi]?=some ⟨v0,gn,gxs,e,size⟩∧∀ v',G (upd s i v')=(G s).set gi ⟨v',gn+m,gxs++news,e,size⟩)
  (hc:∀ s w,St w0 Ob (G s) K w→(ad=none∧m=0)∨∃ p,ad=some p∧∀ (j:Nat) u,news[j]?=some u→w.cell? (p.add j)=some u) (hl:news.length=m * inf.size) (h1:∀ u∈news,u.oneCell'=true) (h63:gn+m≤maxLen) (hbytes:(gn+m) * inf.bytes≤140737488355328) (hLj:atI L j0=pU lo) (hL:atI L i=pU lo):SY P n ops opf Q l w0 K lo al Ob G E L i :=
 yI hie hi fun t0 a s w h0 hF hg hk hD hD'=>by
  subst hsize
  have hA:=a_ne hA_
  have hst:=Ku hst_
  have hsj:=(hD j0 tx hwx).1 (List.contains_iff_mem.1 hj0)
  obtain ⟨hgi,hset⟩:=hG s _ hk hsj
  have ey:=iJ h0 hF (fun j d h=>hD' j d (hf.waits h)) (hli s) y _ hy
  have hO:∀ v,OY al Ob (upd s i v)=OY al Ob s:=fun v=>by unfold OY;rw [nN hA hst]
  have hrow:=hg.1.row gi hgi
  have hge:pU lo (a.eval (.tmp tx)) w:=by have h9:=(hD j0 tx hwx).2;rw [hLj] at h9;exact h9.here
  have fin:∀ v' W',(Builtin.append_ #[t,t] ty #[a.eval (.tmp tx),.slice ad m c]).run P w = .ok v' W'→W'.ownsRow w0.heap.size e inf.size v' (gn+m) (gxs++news)→w.grownBy W' (a.eval (.tmp tx)).ownBlock→(v'.ownBlock=(a.eval (.tmp tx)).ownBlock∨v'.ownBlock=some w.heap.size) →
    wpOp P ops Q i (fun a' w'=>∃ v y,a'=a.put (some d) v∧(∀ d',some d=some d'→v=y)∧St w0 (OY al Ob (upd s i y)) (G (upd s i y)) K w'∧eQ 0 (XB (OY al Ob s) (G s)) w w'∧(∀ b,XB (OY al Ob (upd s i y)) (G (upd s i y)) b→XB (OY al Ob s) (G s) b∨w.heap.size≤b)∧AwS lo (XB (OY al Ob (upd s i y)) (G (upd s i y))) (atI L i) y w') a w:=fun v' W' hr h2 h3 h4=>by
   have hXg:∀ b,(a.eval (.tmp tx)).ownBlock=some b→XB (OY al Ob s) (G s) b:=fun b hb=>.inr ⟨_,List.mem_of_getElem? hgi,hb⟩
   refine gY (w':=W') (v:=v') hi (fR rfl) ?_ ⟨v',v',rfl,fun _ _=>rfl,?_,⟨⟨h3.os,h3.tape,h3.output⟩,h3.size,fun b _ hb hx=>h3.block b hb (fun e=>hx (hXg b e.symm))⟩,fun b hb=>?_,(by rw [hL];exact fun _ _=>Ry hge hg.2 h4 _)⟩
   ·unfold execOp
    simp only [resolve,invoke,builtin,Sem.run_bind,Sem.run_pure,Result.andThen_ok,List.map_toArray,List.map_cons,List.map_nil,ey,hr]
   ·rw [hO,hset]
    exact hg.1.setG gi hgi h2 h3 h4
   ·rw [hO,hset] at hb
    rcases hb with h | ⟨g,hg2,e1⟩
    ·exact .inl (.inl h)
    ·rcases List.mem_or_eq_of_mem_set hg2 with hg2 | rfl
     ·exact .inl (.inr ⟨g,hg2,e1⟩)
     ·rcases h4 with h5 | h5
      ·exact .inl (hXg b (h5▸e1))
      ·have e2:v'.ownBlock=some b:=e1
       rw [h5] at e2;exact .inr (Nat.le_of_eq (Option.some.inj e2))
  rcases hc s w (St.drops _ hg.1) with ⟨rfl,rfl⟩ | ⟨p,rfl,hcc⟩
  ·have hr:=jX (P:=P) (w:=w) w0.heap.size t ty e inf inf.size hU hinf (a.eval (.tmp tx)) gn gxs c hrow
   have hn:news=[]:=List.eq_nil_of_length_eq_zero (by simpa using hl)
   subst hn
   refine fin _ w hr (by rw [List.append_nil,Nat.add_zero];exact hrow) ⟨rfl,rfl,rfl,Nat.le_refl _,fun _ _ _=>rfl⟩ (.inl rfl)
  ·obtain ⟨v',W',hr,h2,h3,h4⟩:=gV (P:=P) (w:=w) w0.heap.size t ty e inf z hU hinf hz hzs hsz (a.eval (.tmp tx)) gn gxs hrow p m c news hl hcc h1 h63 hbytes hg.1.below.size
   exact fin v' W' hr h2 h3 h4
theorem R4 {t e:TypeId} {tyy tx j0 jy m gn size:Nat} {gxs news:List Value} {py:Asr} {inf:TypeInfo} {z:Value} (hie:E.contains i=true) (hi:ops[i]?=some ⟨some d,.call { callee:=.builtin .append,args:=#[.tmp tx,.tmp tyy],argTypes:=#[t,t] },ty,pos,aft_,none⟩)
  (hU:P.underlying t=some (.slice e)) (hinf:P.info? e=some inf) (hz:inf.zero=some z) (hzs:z.cells.size=inf.size) (hsz:0 < inf.size) (hsize:size=inf.size) (hj0:E.contains j0=true) (hwx:bI ops i j0 tx=true) (hwy:bI ops i jy tyy=true) (hLy:atI L jy=py)
  (hA_:al.all (fun q => !Nat.beq q.a i)=true) (hst_:al.all (fun q => !Nat.beq q.st i)=true)
  (hG:∀ s v0,Kn ops E i s→s j0=some v0→∃ r,G s=⟨v0,gn,gxs,e,size⟩::r∧∀ v',G (upd s i v')=r)
  (hc:∀ v w,py v w→∃ ad c,v = .slice ad m c∧((ad=none∧m=0)∨∃ p,ad=some p∧∀ (j:Nat) u,news[j]?=some u→w.cell? (p.add j)=some u)) (hl:news.length=m * inf.size) (h1:∀ u∈news,u.oneCell'=true) (h63:gn+m≤maxLen) (hbytes:(gn+m) * inf.bytes≤140737488355328) (hLj:atI L j0=pU lo) {q:Asr} (hq:∀ v w,w.ownsRow lo e size v (gn+m) (gxs++news)→q v w) (hL:atI L i=q):SY P n ops opf Q l w0 K lo al Ob G E L i :=
 yI hie hi fun t0 a s w h0 hF hg hk hD hD'=>by
  subst hsize
  have hA:=a_ne hA_
  have hst:=Ku hst_
  have hsj:=(hD j0 tx hwx).1 (List.contains_iff_mem.1 hj0)
  obtain ⟨r,hGs,hset⟩:=hG s _ hk hsj
  have hgi:(G s)[0]?=some ⟨a.eval (.tmp tx),gn,gxs,e,inf.size⟩:=by rw [hGs];rfl
  have hp1:=(hD jy tyy hwy).2
  rw [hLy] at hp1
  obtain ⟨ad,c,ey,hcc9⟩:=hc _ _ hp1.here
  have hO:∀ v,OY al Ob (upd s i v)=OY al Ob s:=fun v=>by unfold OY;rw [nN hA hst]
  have hrow:=hg.1.row 0 hgi
  have hge:pU lo (a.eval (.tmp tx)) w:=by have h9:=(hD j0 tx hwx).2;rw [hLj] at h9;exact h9.here
  have fin:∀ v' W',(Builtin.append_ #[t,t] ty #[a.eval (.tmp tx),.slice ad m c]).run P w = .ok v' W'→W'.ownsRow w0.heap.size e inf.size v' (gn+m) (gxs++news)→w.grownBy W' (a.eval (.tmp tx)).ownBlock→(v'.ownBlock=(a.eval (.tmp tx)).ownBlock∨v'.ownBlock=some w.heap.size) →
    wpOp P ops Q i (fun a' w'=>∃ v y,a'=a.put (some d) v∧(∀ d',some d=some d'→v=y)∧St w0 (OY al Ob (upd s i y)) (G (upd s i y)) K w'∧eQ 0 (XB (OY al Ob s) (G s)) w w'∧(∀ b,XB (OY al Ob (upd s i y)) (G (upd s i y)) b→XB (OY al Ob s) (G s) b∨w.heap.size≤b)∧AwS lo (XB (OY al Ob (upd s i y)) (G (upd s i y))) (atI L i) y w') a w:=fun v' W' hr h2 h3 h4=>by
   have hXg:∀ b,(a.eval (.tmp tx)).ownBlock=some b→XB (OY al Ob s) (G s) b:=fun b hb=>.inr ⟨_,List.mem_of_getElem? hgi,hb⟩
   refine gY (w':=W') (v:=v') hi (fR rfl) ?_ ⟨v',v',rfl,fun _ _=>rfl,?_,⟨⟨h3.os,h3.tape,h3.output⟩,h3.size,fun b _ hb hx=>h3.block b hb (fun e=>hx (hXg b e.symm))⟩,fun b hb=>?_,(by
    rw [hL]
    have h9:=hg.1.setG 0 hgi h2 h3 h4
    rw [hGs] at h9
    have hlo9:∀ b,v'.ownBlock=some b→lo≤b:=Ry hge hg.2 h4 w
    exact fun w2 hw2=>hq _ _ (Jd (eJ h2 (fun b hb=>hw2.2.2 b (hlo9 b hb) (h2.lt b hb).2 (fun hx=>by
     rw [hO,hset] at hx
     rcases hx with ⟨p,hp,e1⟩ | ⟨g,hg2,e1⟩
     ·exact ((h9.rows _ List.mem_cons_self).2 b hb).1 p hp e1
     ·exact Rz ((List.pairwise_cons.1 h9.gdist).1 g hg2) hb e1))) hlo9))⟩
   ·unfold execOp
    simp only [resolve,invoke,builtin,Sem.run_bind,Sem.run_pure,Result.andThen_ok,List.map_toArray,List.map_cons,List.map_nil,ey,hr]
   ·rw [hO,hset]
    have h9:=hg.1.setG 0 hgi h2 h3 h4
    rw [hGs] at h9
    exact h9.dropG
   ·rw [hO,hset] at hb
    rcases hb with h | ⟨g,hg2,e1⟩
    ·exact .inl (.inl h)
    ·exact .inl (.inr ⟨g,by rw [hGs];exact List.mem_cons_of_mem _ hg2,e1⟩)
  rcases hcc9 with ⟨rfl,rfl⟩ | ⟨p,rfl,hcc⟩
  ·have hr:=jX (P:=P) (w:=w) w0.heap.size t ty e inf inf.size hU hinf (a.eval (.tmp tx)) gn gxs c hrow
   have hn:news=[]:=List.eq_nil_of_length_eq_zero (by simpa using hl)
   subst hn
   refine fin _ w hr (by rw [List.append_nil,Nat.add_zero];exact hrow) ⟨rfl,rfl,rfl,Nat.le_refl _,fun _ _ _=>rfl⟩ (.inl rfl)
  ·obtain ⟨v',W',hr,h2,h3,h4⟩:=gV (P:=P) (w:=w) w0.heap.size t ty e inf z hU hinf hz hzs hsz (a.eval (.tmp tx)) gn gxs hrow p m c news hl hcc h1 h63 hbytes hg.1.below.size
   exact fin v' W' hr h2 h3 h4
end
end
section
open Go.RowKit Go.ChangeShapes Go.WideShapes Go.Deep Go.Joins
theorem ten_len {cs:List Value} (h:cs.length=10):∃ a b c d e f g i j k,cs=[a,b,c,d,e,f,g,i,j,k]:=by
 match cs,h with
 | [a,b,c,d,e,f,g,i,j,k],_=>exact ⟨a,b,c,d,e,f,g,i,j,k,rfl⟩
theorem sD {w:World} {b:Nat}:∀ (vs:List Value) (o:Nat),(∀ (j:Nat) u,vs[j]?=some u→w.cell? ⟨b,o+j,none⟩=some u)→aE w b o vs
 | [],_,_=>trivial
 | v::vs,o,h=>⟨h 0 v rfl,sD vs (o+1) fun j u hj=>by have:=h (j+1) u (by simpa using hj);rwa [show o+1+j=o+(j+1) by omega]⟩
section
variable {H:Type} {enc:TypeId×Value→H} {w:World} {base:Nat} {spare:Nat→Bool} {held:Bool}
theorem D5 {n:Nat} {v:Value} {x:DataW H×List MemPlace} (h:DataW.trod enc prog w base spare held n 29 [v]=some x) :
  ∃ (a:Option Addr) (len cap:Nat) (zs:List Int),v = .slice a len cap∧Row w a zs∧zs.length=len∧len≤cap∧cap≤maxLen:=by
 rcases open_ints (t:=29) (e:=3) (k:=.i64) (by kernel_rfl) (by kernel_rfl) (by kernel_rfl) h with ⟨hcs,_⟩ | ⟨x,len,cap,zs,hcs,_,hl,hm,hz,_,hcell,hwz⟩
 ·have hcs':v = .slice none 0 0:=by simpa using hcs
  subst hcs'
  exact ⟨none,0,0,[],rfl,.inl rfl,rfl,Nat.le_refl _,Nat.zero_le _⟩
 ·have hcs':v = .slice (some x) len cap:=by simpa using hcs
  subst hcs'
  have hzl:len≤zs.length:=by rw [hz];split<;>omega
  refine ⟨some x,len,cap,zs.take len,rfl,?_,by simp;omega,hl,hm⟩
  rcases Nat.eq_zero_or_pos len with h0 | h0
  ·subst h0;exact .inl (by simp)
  ·obtain ⟨b,off,spot⟩:=x
   have hc0:=hcell 0 (by omega)
   have hspot:spot=none:=by simpa [Addr.add] using World.cell?_spot hc0
   subst hspot
   refine .inr ⟨b,off,rfl,fun i hi=>?_⟩
   have hi1:i < len:=by simp at hi;omega
   have hi2:i < zs.length:=by omega
   have hc:=hcell i hi2
   have e:({ block:=b,off:=off }:Addr).add i=⟨b,off+i,none⟩:=by simp [Addr.add]
   rw [e] at hc
   rw [hc]
   simp [List.getD,List.getElem?_take,hi1]
theorem rule_in {n:Nat} {cs:List Value} {x:DataW H×List MemPlace} (h:DataW.trod enc prog w base spare held n 62 cs=some x):∃ r:RV,cs=r.ten∧RIn w n r:=by
 obtain ⟨xs,n',hn,_,hl,hlen,hg⟩:=DataW.trod_struct underlying62 h
 rw [show prog.cellsOf 62=10 by kernel_rfl] at hl
 obtain ⟨a,b,c,d,e,f,g,i,j,k,rfl⟩:=ten_len hl
 have hlen5:xs.length=5:=hlen
 have g0:=hg 0 _ rfl
 have g1:=hg 1 _ rfl
 have g2:=hg 2 _ rfl
 have g3:=hg 3 _ rfl
 have g4:=hg 4 _ rfl
 rw [show prog.cellsOf _=1 by kernel_rfl,List.getElem?_eq_getElem (by omega)] at g0 g1 g2 g3
 rw [show prog.cellsOf _=6 by kernel_rfl,List.getElem?_eq_getElem (by omega)] at g4
 obtain ⟨z0,e0,_,w0⟩:=DataW.trod_int (k:=.i64) (by kernel_rfl) g0
 obtain ⟨z1,e1,_,w1⟩:=DataW.trod_int (k:=.i64) (by kernel_rfl) g1
 obtain ⟨z2,e2,_,w2⟩:=DataW.trod_int (k:=.i64) (by kernel_rfl) g2
 simp at e0 e1 e2
 subst e0 e1 e2
 obtain ⟨ra,rl,rc,ws,rfl,hrow,hrl,_,_⟩:=D5 (v:=d) g3
 obtain ⟨s,e4,hs⟩:=Aw n' g4
 have e4':[e,f,g,i,j,k]=s.f.six:=by simpa using e4
 simp only [List.cons.injEq,and_true] at e4'
 obtain ⟨rfl,rfl,rfl,rfl,rfl,rfl⟩:=e4'
 exact ⟨⟨z0,z1,z2,ra,rl,rc,ws,s⟩,rfl,hrow,hrl,hs.more (by omega)⟩
theorem pds_in {n:Nat} {cs:List Value} {x:DataW H×List MemPlace} (h:DataW.trod enc prog w base spare held n 28 cs=some x):∃ p:PV,cs=p.six∧PvIn w n n p:=by
 obtain ⟨xs,n',hn,_,hl,hlen,hg⟩:=DataW.trod_struct underlying28 h
 rw [show prog.cellsOf 28=6 by kernel_rfl] at hl
 obtain ⟨a,b,c,d,e,f,rfl⟩:=Li hl
 have hlen4:xs.length=4:=hlen
 have g0:=hg 0 _ rfl
 have g1:=hg 1 _ rfl
 have g2:=hg 2 _ rfl
 have g3:=hg 3 _ rfl
 rw [show prog.cellsOf _=3 by kernel_rfl,List.getElem?_eq_getElem (by omega)] at g0
 rw [show prog.cellsOf _=1 by kernel_rfl,List.getElem?_eq_getElem (by omega)] at g1 g2 g3
 obtain ⟨s,es,hs⟩:=Gw n' g0
 have es':[a,b,c]=[.int .i64 s.f.tag,.int .i64 s.f.dim,.slice s.f.a s.f.len s.f.cap]:=by simpa using es
 simp only [List.cons.injEq,and_true] at es'
 obtain ⟨rfl,rfl,rfl⟩:=es'
 obtain ⟨z1,e1,_,w1⟩:=DataW.trod_int (k:=.i64) (by kernel_rfl) g1
 obtain ⟨z2,e2,_,w2⟩:=DataW.trod_int (k:=.i64) (by kernel_rfl) g2
 simp at e1 e2
 subst e1 e2
 rcases DataW.trod_slice underlying26 g3 with ⟨hcs,_⟩ | ⟨ad,len,cap,elems,rest,n2,hn2,hcs,_,hb,hle,hcap,hel,hi,_,_⟩
 ·simp at hcs
  subst hcs
  exact ⟨⟨s,z1,z2,none,0,0,[]⟩,rfl,hs.more (by omega),.inl rfl,rfl,fun r hr=>by cases hr⟩
 ·simp at hcs
  subst hcs
  rw [show prog.cellsOf 62=10 by kernel_rfl] at hi
  obtain ⟨rs,hrl,hrs⟩:=nO len (fun i (r:RV)=>(∀ (j:Nat) u,r.ten[j]?=some u→w.cell? (ad.add (i * 10+j))=some u)∧RIn w n2 r) (fun i hil=>by
   have hii:=hi i hil
   rw [List.getElem?_eq_getElem (by omega)] at hii
   obtain ⟨cs',hc,ht⟩:=Option.bind_eq_some_iff.1 hii
   obtain ⟨_,hcl,hat⟩:=World.cells?_some hc
   obtain ⟨r,rfl,hr⟩:=rule_in ht
   refine ⟨r,fun j u hj=>?_,hr⟩
   have hj10:j < 10:=(List.getElem?_eq_some_iff.1 hj).1
   have h0:=hat j (by omega)
   rw [Go.Deep.add_add] at h0
   rw [h0];exact hj)
  refine ⟨⟨s,z1,z2,some ad,len,cap,rs⟩,rfl,hs.more (by omega),?_,hrl,fun r hr=>?_⟩
  ·rcases Nat.eq_zero_or_pos len with h0 | h0
   ·exact .inl (List.length_eq_zero_iff.1 (by dsimp only;omega))
   ·obtain ⟨b,off,spot⟩:=ad
    have h1:=(hrs 0 (rs[0]'(by omega)) (List.getElem?_eq_getElem (by omega))).1 0 _ rfl
    have hspot:spot=none:=by simpa [Addr.add] using World.cell?_spot h1
    subst hspot
    refine .inr ⟨b,off,rfl,fun i r hir=>sD _ _ fun j u hj=>?_⟩
    have h3:=(hrs i r hir).1 j u hj
    have e:∀ k,({ block:=b,off:=off }:Addr).add k=⟨b,off+k,none⟩:=fun k=>by simp [Addr.add]
    rw [e,← Nat.add_assoc] at h3
    exact h3
  ·obtain ⟨i,hi',hic⟩:=List.mem_iff_getElem.1 hr
   have h4:=(hrs i r (by rw [← hic];exact List.getElem?_eq_getElem hi')).2
   exact ⟨h4.row,h4.len,h4.x.more (by omega)⟩
theorem conf_in {n:Nat} {cs:List Value} {x:DataW H×List MemPlace} (h:DataW.trod enc prog w base spare held n 36 cs=some x):∃ c:CV,cs=[.int .i64 c.p,.slice c.wa c.wl c.wc]∧CIn w c∧c.wl≤c.wc:=by
 obtain ⟨xs,n',hn,_,hl,hlen,hg⟩:=DataW.trod_struct underlying36 h
 rw [show prog.cellsOf 36=2 by kernel_rfl] at hl
 obtain ⟨a,b,rfl⟩:=two_len hl
 have hlen2:xs.length=2:=hlen
 have g0:=hg 0 _ rfl
 have g1:=hg 1 _ rfl
 rw [show prog.cellsOf _=1 by kernel_rfl,List.getElem?_eq_getElem (by omega)] at g0 g1
 obtain ⟨z0,e0,_,w0⟩:=DataW.trod_int (k:=.i64) (by kernel_rfl) g0
 simp at e0
 subst e0
 obtain ⟨ra,rl,rc,ws,rfl,hrow,hrl,hcap,_⟩:=D5 (v:=b) g1
 exact ⟨⟨z0,ra,rl,rc,ws⟩,rfl,⟨hrow,hrl⟩,hcap⟩
theorem A3 {r:Reach} {b0:Nat} {v:Value} {d:DataW H} {p:List MemPlace} (hv:Value.okWide prog w r b0 36 v) (h:DataW.Trod enc prog w base spare held 36 v d p) :
  ∃ (s:CV),v=s.val∧CIn w s∧s.wl≤s.wc:=by
 obtain ⟨cs,rfl,_⟩:=okWide_struct underlying36 hv
 obtain ⟨n,h⟩:=h
 obtain ⟨s,e,hs⟩:=conf_in (n:=n) h
 have e':cs.toList=_:=e
 exact ⟨s,by show Value.agg cs=Value.agg _;congr 1;exact Array.ext' e',hs⟩
end
end
section
open Go.RowKit
def uS (M:World→Prop):Prop:=∀ W W',M W→Below W.heap.size W W'→M W'
def sE (M:World→Prop) (t n:Int) (f:WF) (x:PF):Prop:=∀ W,M W→PIs W t n f x
def oI (M:World→Prop):PS→WF→PX→Prop
 | .one t n,f,.one a=>sE M t n f a
 | .two t n u m,f,.two a b=>f.pf=pC 0∧f.rl=0∧f.cl=0∧f.pl=2∧∃ blk off g h,f.pa=some ⟨blk,off,none⟩∧(∀ W,M W→W6 W blk off g∧W6 W blk (off+6) h)∧sE M t n g a∧sE M u m h b
 | _,_,_=>False
theorem oI.is {M:World→Prop} {S:PS} {f:WF} {x:PX} {w:World} (h:oI M S f x) (hM:M w):XIs w S f x:=by
 cases S<;>cases x<;>first | exact h.elim | exact (show sE M _ _ f _ from h) w hM | skip
 obtain ⟨h1,h2,h3,h4,blk,off,g,k,h5,h6,h7,h8⟩:=h
 exact ⟨h1,h2,h3,h4,blk,off,g,k,h5,(h6 w hM).1,(h6 w hM).2,h7 w hM,h8 w hM⟩
theorem oI.mono {M M':World→Prop} {S:PS} {f:WF} {x:PX} (h:oI M S f x) (hm:∀ W,M' W→M W):oI M' S f x:=by
 cases S<;>cases x<;>first | exact h.elim | exact (fun W hW=>(show sE M _ _ f _ from h) W (hm W hW)) | skip
 obtain ⟨h1,h2,h3,h4,blk,off,g,k,h5,h6,h7,h8⟩:=h
 exact ⟨h1,h2,h3,h4,blk,off,g,k,h5,fun W hW=>h6 W (hm W hW),fun W hW=>h7 W (hm W hW),fun W hW=>h8 W (hm W hW)⟩
theorem jM.far {lo:Nat} {A:World} {S:PS} {f:WF} {x:PX} (h:jM lo A S f x):oI (fun W=>dD lo A W) S f x:=by
 cases S<;>cases x<;>first | exact h.elim | exact (fun W hW=>(PNew.agree h hW).is) | skip
 obtain ⟨h1,h2,h3,h4,blk,g,k,h5,h0,h6,h7,h8,h9⟩:=h
 exact ⟨h1,h2,h3,h4,blk,0,g,k,h5,fun W hW=>⟨h6.agree h0 hW,h7.agree h0 hW⟩,fun W hW=>(h8.agree hW).is,fun W hW=>(h9.agree hW).is⟩
def R5 (M:World→Prop) (S:PS) (x:PX) (w:World) (e:Ending) (w':World):Prop:=∃ f:WF,e = .returned f.val∧oI (fun W=>M W∧dD w.heap.size w' W) S f x∧Below w.heap.size w w'
def tW (M:World→Prop) (lo:Nat) (S:PS) (x:PX):Asr:=fun v w=>∃ f:WF,v=f.val∧oI (fun W=>M W∧dD lo w W) S f x
theorem sF {M:World→Prop} {lo:Nat} {S:PS} {x:PX}:kY (tW M lo S x):=fun v w w' ⟨f,h1,h2⟩ hb=>⟨f,h1,h2.mono fun W hW=>⟨hW.1,(aN hb lo).trans hW.2⟩⟩
theorem sG {P:Program} {f:FuncId} {vs:Array Value} {M:World→Prop} {w:World} {S:PS} {x:PX} {lo:Nat} (hlo:lo≤w.heap.size) (h:Calls P f vs w (R5 M S x w)):Calls P f vs w (uZ (tW M lo S x) w):=h.mono fun e w' ⟨f,he,hn,hb⟩=>⟨f.val,he,⟨f,rfl,hn.mono fun W hW=>⟨hW.1,hW.2.mono hlo⟩⟩,hb⟩
theorem yZ {M:World→Prop} {w W:World} {t n:Int} {f:WF} {x:PF} (h:PNew w.heap.size W t n f x) (hb:Below w.heap.size w W):R5 M (.one t n) (.one x) w (.returned f.val) W:=⟨f,rfl,fun W2 hW=>(h.agree hW.2).is,hb⟩
section
variable {w W:World} {k:Nat} {n:Int} {f g:WF} {x y:PF}
theorem R6 (hx:PIs w 2 n f x) (hy:PIs w 2 n g y) (hf:f.z=false) (hg:g.z=false) (p0:0≤f.c) (p1:f.c≤n) (q0:0≤g.c) (q1:g.c≤n):PNew k W 2 n (vD (min f.c g.c)) (eO 2 n x y):=by
 obtain ⟨rfl,_,_⟩:=hx.k2 hf
 obtain ⟨rfl,_,_⟩:=hy.k2 hg
 rw [Hs]
 exact lW (.cost _ rfl (by omega) (by omega))
theorem R7 {m:Nat} {a:Option Addr} {cap:Nat} (hx:PIs w 4 m f x) (hy:PIs w 4 m g y) (hf:f.z=false) (hg:g.z=false) (hv:fN W a (eN f.cells g.cells)) (hl:∀ ad,a=some ad→k≤ad.block):PNew k W 4 m (oA a cap (eN f.cells g.cells)) (eO 4 m x y):=by
 obtain ⟨hx',h0⟩:=hx.k4 hf
 obtain ⟨hy',h1⟩:=hy.k4 hg
 have hv2:=xD h0 h1
 rw [hx',hy',Ht]
 exact nH (.cells m _ rfl rfl hv2) hv2.bits (by have:=hv2.le;have:=hv2.len;unfold maxLen;omega) hv hl
end
def zA (M:World→Prop) (lo:Nat) (S:PS) (x:PX):Asr:=fun v w=>∃ b,v = .slice (some ⟨b,0,none⟩) 2 2∧oI (fun W=>M W∧dD lo w W) S (pH b) x
theorem zK {M:World→Prop} {lo:Nat} {S:PS} {x:PX}:kY (zA M lo S x):=fun v w w' ⟨b,h1,h2⟩ hb=>⟨b,h1,h2.mono fun W hW=>⟨hW.1,(aN hb lo).trans hW.2⟩⟩
section
variable {n:Nat} {Q:Exit→Act→World→Prop} {l:Fr} {W:World} {ops:Array Oper} {L:List Asr} {i d:Nat} {ty:TypeId} {pos:String} {aft:Array Edge} {gd:Option (Nat×Bool)} {t k u m:Int} {x y:PF} {p q:Operand} {M:World→Prop}
theorem Ns (hi:ops[i]?=some ⟨some d,.buildSlice 51 2 (List.toArray [(0,p),(1,q)]),ty,pos,aft,gd⟩) (hw:gG ops L i ⟨some d,.buildSlice 51 2 (List.toArray [(0,p),(1,q)]),ty,pos,aft,gd⟩) (hp:uJ n ops l L i [p,q] [tW M W.heap.size (.one t k) (.one x),tW M W.heap.size (.one u m) (.one y)]) (hI:atI L i=zA M W.heap.size (.two t k u m) (.two x y)):RG prog n ops Q l W L i :=
 Cf [tW M W.heap.size (.one t k) (.one x),tW M W.heap.size (.one u m) (.one y)] hi hw underlying51 sizeOf53 zeroValue53 rfl rfl hp fun vs w hb hh=>by
  obtain ⟨v1,v2,rfl,⟨f,rfl,hf⟩,g,rfl,hg⟩:=rR hh
  refine ⟨f.six++g.six,vX _ _ _ _ _ _ _ _ _ _ _ _,fun B w' hB h1 h2=>?_⟩
  rw [hI]
  rcases Qh h1 with h | ⟨b,off,e,h3⟩
  ·cases h
  ·cases e
   have hlo:W.heap.size≤B:=by rw [← hB];exact hb.size
   exact ⟨B,rfl,rfl,rfl,rfl,rfl,B,0,f,g,rfl,fun W2 hW=>⟨(h3 0 f rfl).agree hlo hW.2,(h3 1 g rfl).agree hlo hW.2⟩,fun W2 hW=>(show sE _ t k f x from hf) W2 ⟨hW.1,(aN h2 _).trans hW.2⟩,fun W2 hW=>(show sE _ u m g y from hg) W2 ⟨hW.1,(aN h2 _).trans hW.2⟩⟩
end
theorem mU (M:World→Prop) (t n:Int) (sa:Option Addr) (sc:Nat) (f g:WF) (x y:PF) (w:World) (hp:cA t n 0=true) (hw:M w) (hfx:sE M t n f x) (hfy:sE M t n g y) :
  Calls prog 24 #[.agg #[.int .i64 t,.int .i64 n,.slice sa 0 sc],f.val,g.val] w (R5 M (.one t n) (.one (eO t n x y)) w):=by
 have hx:=hfx w hw
 have hy:=hfy w hw
 refine cH (args:=[.agg #[.int .i64 t,.int .i64 n,.slice sa 0 sc],f.val,g.val]) func24 rfl ntmps24 rfl ?_
 have hS:=St.start w
 refine aL (aR (bK (cs:=[_,_,_]) hS rfl rfl rfl fun B1 W1 hS=>bK (cs:=[_,_,_,_,_,_]) hS rfl rfl rfl fun B2 W2 hS=>bK (cs:=[_,_,_,_,_,_]) hS rfl rfl rfl fun B3 W3 hS=>bH (cs:=[_,_,_,_,_,_]) hS zeroValue53 rfl rfl fun B4 W4 hS=>aQ (XF.thenN (aL (aL (aR (aP (o':=0) dL rfl rfl rfl (aT isAgg4 rfl (aK (hS.at_ 2 rfl) rfl) rfl (aQ (XF.thenN (aZ rfl (fun hc=>?_) (fun hc=>?_))))))))))))
 ·have hc10:=hc;clear hc
  have hz:=hc10
  refine aL (aR (aS (vs:=[_,_,_,_,_,_]) isAgg53 sizeOf53 rfl (aE.own (j:=0) (m:=6) (hS.at_ 1 rfl) rfl) rfl (aV (i:=0) (vs:=[_,_,_,_,_,_]) (cs':=[_,_,_,_,_,_]) (O':=[_,_,_,_]) hS sizeOf53 rfl rfl rfl rfl rfl rfl rfl fun W5 hS=>aQ (XF.thenN (bJ (XF.thenR (XF.res (dO (vs:=[_,_,_,_,_,_]) results24 isAgg53 sizeOf53 rfl (aE.own (j:=0) (m:=6) (hS.at_ 0 rfl) rfl)) ?_)))))))
  exact ⟨g,rfl,fun W hM=>by rw [hx.zero hc10,nV];exact hfy W hM.1,hS.below⟩
 ·have hc10:=hc;clear hc
  have hf:=hc10
  refine bG (XF.thenN (aL (aL (aR (aP (o':=0) dL rfl rfl rfl (aT isAgg4 rfl (aK (hS.at_ 1 rfl) rfl) rfl (aQ (XF.thenN (aZ rfl (fun hc=>?_) (fun hc=>?_))))))))))
  ·have hc13:=hc;clear hc
   refine aL (aR (aS (vs:=[_,_,_,_,_,_]) isAgg53 sizeOf53 rfl (aE.own (j:=0) (m:=6) (hS.at_ 2 rfl) rfl) rfl (aV (i:=0) (vs:=[_,_,_,_,_,_]) (cs':=[_,_,_,_,_,_]) (O':=[_,_,_,_]) hS sizeOf53 rfl rfl rfl rfl rfl rfl rfl fun W6 hS=>aQ (XF.thenN (bJ (XF.thenR (XF.res (dO (vs:=[_,_,_,_,_,_]) results24 isAgg53 sizeOf53 rfl (aE.own (j:=0) (m:=6) (hS.at_ 0 rfl) rfl)) ?_)))))))
   exact ⟨f,rfl,fun W hM=>by rw [hy.zero hc13,qE hx.ok];exact hfx W hM.1,hS.below⟩
  ·have hc13:=hc;clear hc
   have hg:=hc13
   refine bG (XF.thenN (aL (aR (cS (us:=[]) rfl (iN) rfl (bH (cs:=[_,_,_,_,_,_]) hS zeroValue53 rfl rfl fun B7 W7 hS=>aV (i:=0) (vs:=[_,_,_,_,_,_]) (cs':=[_,_,_,_,_,_]) (O':=[_,_,_,_,_]) hS sizeOf53 rfl rfl rfl rfl rfl rfl rfl fun W8 hS=>aQ (XF.thenN (aL (aL (aR (aP (o':=0) dW rfl rfl rfl (aT isAgg22 rfl (aK (hS.at_ 4 rfl) rfl) rfl (aQ (XF.thenN (bM (aL (aR (cM rfl rfl rfl (aA rfl rfl (aQ (XF.thenN (aZ rfl (fun hc=>?_) (fun hc=>?_))))))))))))))))))))))
   ·have hc18:=of_decide_eq_true hc;clear hc
    have e2:t=2:=hc18
    subst e2
    obtain ⟨_,p0,p1⟩:=hx.k2 hf
    obtain ⟨_,q0,q1⟩:=hy.k2 hg
    refine aR (aP (o':=1) eL rfl rfl rfl (aT isAgg3 rfl (aK (hS.at_ 3 rfl) rfl) rfl (aP (o':=1) eL rfl rfl rfl (aT isAgg3 rfl (aK (hS.at_ 2 rfl) rfl) rfl (Rl rfl rfl rfl (aP (o':=1) eL rfl rfl rfl (fA (i:=0) (cs':=[_,_,_,_,_,_]) (O':=[_,_,_,_,_]) hS sizeOf3 rfl rfl rfl rfl rfl rfl rfl fun W9 hS=>aQ (XF.blkN (XF.thenN (aL (aR (aS (vs:=[_,_,_,_,_,_]) isAgg53 sizeOf53 rfl (aE.own (j:=0) (m:=6) (hS.at_ 0 rfl) rfl) rfl (aV (i:=1) (vs:=[_,_,_,_,_,_]) (cs':=[_,_,_,_,_,_]) (O':=[_,_,_,_,_]) hS sizeOf53 rfl rfl rfl rfl rfl rfl rfl fun W10 hS=>aQ (XF.thenN (bJ (XF.res (dO (vs:=[_,_,_,_,_,_]) results24 isAgg53 sizeOf53 rfl (aE.own (j:=0) (m:=6) (hS.at_ 1 rfl) rfl)) ?_))))))))))))))))
    exact yZ (R6 hx hy hf hg p0 p1 q0 q1) hS.below
   ·have hc18:=of_decide_eq_false hc;clear hc
    refine aL (aR (cM rfl rfl rfl (aA rfl rfl (aQ (XF.thenN (aZ rfl (fun hc=>?_) (fun hc=>?_)))))))
    ·have hc26:=of_decide_eq_true hc;clear hc
     have e3:t=3:=hc26
     subst e3
     obtain ⟨m,rfl,hm⟩:=vQ hp (.inl rfl)
     refine aR (aP (o':=1) dX rfl rfl rfl (aT isAgg3 rfl (aK (hS.at_ 4 rfl) rfl) rfl (aP (o':=2) dY rfl rfl rfl (aS (vs:=[_,_]) isAgg49 sizeOf49 rfl (aE.own (j:=2) (m:=2) (hS.at_ 3 rfl) rfl) rfl (aP (o':=2) dY rfl rfl rfl (aS (vs:=[_,_]) isAgg49 sizeOf49 rfl (aE.own (j:=2) (m:=2) (hS.at_ 2 rfl) rfl) rfl ?_))))))
     have hsz:=hS.below.size
     refine cO (vs:=[_,_,_]) hS goes_44 rfl (Oq _ _ _ _ _ _ _ _ _ _ (hx.at_.fat (by have:=hx.rows64 (l:=0);omega) |>.below hS.below) (hy.at_.fat (by have:=hy.rows64 (l:=0);omega) |>.below hS.below) _ rfl _ rfl _ rfl _ _ hx.at_.rl hy.at_.rl) rfl ?_
     rintro e W11 ⟨a1,c1,rfl,hv,hl,hb⟩
     refine ⟨_,rfl,hb,fun hS'=>?_⟩
     clear hS;have hS:=hS';clear hS'
     refine aG rfl rfl (bL rfl rfl rfl (bL rfl rfl rfl (aP (o':=2) dY rfl rfl rfl (aV (i:=0) (vs:=[_,_]) (cs':=[_,_,_,_,_,_]) (O':=[_,_,_,_,_]) hS sizeOf49 rfl rfl rfl rfl rfl rfl rfl fun W12 hS=>aQ (XF.blkN (XF.thenN (aL (aR (aS (vs:=[_,_,_,_,_,_]) isAgg53 sizeOf53 rfl (aE.own (j:=0) (m:=6) (hS.at_ 0 rfl) rfl) rfl (aV (i:=1) (vs:=[_,_,_,_,_,_]) (cs':=[_,_,_,_,_,_]) (O':=[_,_,_,_,_]) hS sizeOf53 rfl rfl rfl rfl rfl rfl rfl fun W13 hS=>aQ (XF.thenN (bJ (XF.res (dO (vs:=[_,_,_,_,_,_]) results24 isAgg53 sizeOf53 rfl (aE.own (j:=0) (m:=6) (hS.at_ 1 rfl) rfl)) ?_)))))))))))))
     exact yZ (Km hx hy hf hg (hv.agree (fun ad e=>(hl ad e).1) (hS.since 0 rfl)) (fun ad e=>Nat.le_trans hsz (hl ad e).1)) hS.below
    ·have hc26:=of_decide_eq_false hc;clear hc
     refine aL (aR (cM rfl rfl rfl (aA rfl rfl (aQ (XF.thenN (aZ rfl (fun hc=>?_) (fun hc=>?_)))))))
     ·have hc39:=of_decide_eq_true hc;clear hc
      have e4:t=4:=hc39
      subst e4
      obtain ⟨m,rfl,hm⟩:=vQ hp (.inr rfl)
      obtain ⟨hpx,vx⟩:=hx.k4 hf
      obtain ⟨hpy,vy⟩:=hy.k4 hg
      refine aL (aR (aA rfl rfl (aQ (XF.thenN (bM (dK (fun q l W=>∃ (k:Nat) (v:Value),k≤m∧q=m - k∧l=[(3,.pointer (some ⟨B1,0,none⟩)),(4,.pointer (some ⟨B2,0,none⟩)),(5,.pointer (some ⟨B3,0,none⟩)),(6,.pointer (some ⟨B4,0,none⟩)),(7,.pointer (some ⟨B7,0,none⟩)),(8,.int .i64 (k:Int))]∧St w [(B7,[.bool false,.int .i64 0,.int .u64 0,.slice none 0 0,v,.slice none 0 0],53),(B4,[.bool false,.int .i64 0,.int .u64 0,.slice none 0 0,.slice none 0 0,.slice none 0 0],53),(B3,[.bool g.z,.int .i64 g.c,.int .u64 (g.g:Int),.slice g.ra g.rl g.rc,.slice g.ca g.cl g.cc,.slice g.pa g.pl g.pc],53),(B2,[.bool f.z,.int .i64 f.c,.int .u64 (f.g:Int),.slice f.ra f.rl f.rc,.slice f.ca f.cl f.cc,.slice f.pa f.pl f.pc],53),(B1,[.int .i64 4,.int .i64 (m:Int),.slice sa 0 sc],25)] [⟨v,k,flat ((eN f.cells g.cells).take k),92,3⟩] [] W) (m - 0) ([(3,_),(4,_),(5,_),(6,_),(7,_),(8,_)]) ⟨rfl,rfl,rfl,rfl,rfl,rfl,trivial⟩ (⟨0,.slice none 0 0,Nat.zero_le _,rfl,rfl,hS.clear.newG _ _⟩) ?_))))))
      clear hS
      rintro q l W ⟨k,v,hkm,rfl,rfl,hS⟩
      refine aL (aL (aR (aG rfl rfl (aP (o':=1) dX rfl rfl rfl (aT isAgg3 rfl (aK (hS.at_ 4 rfl) rfl) rfl (cN rfl rfl rfl (aQ (XF.thenN (aZ rfl (fun hc=>?_) (fun hc=>?_))))))))))
      ·have hc44:=of_decide_eq_true hc;clear hc
       have hk:k < m:=by omega
       have hlx:=vx.len
       have hly:=vy.len
       obtain ⟨bx,offx,x1,ecx,hx1,hbx,c0,c1,c2⟩:=(hx.at_.cells.below hS.below).at_ (k:=k) (by omega)
       obtain ⟨ba,offa,y1,eca,hy1,hba,a0,a1,a2⟩:=(hy.at_.cells.below hS.below).at_ (k:=k) (by omega)
       have k0:aE W bx (offx+k * 3) [.int .u64 (x1.f:Int),.int .i64 x1.k,.int .i64 x1.v]:=⟨c0,c1,c2,trivial⟩
       have k1:aE W ba (offa+k * 3) [.int .u64 (y1.f:Int),.int .i64 y1.k,.int .i64 y1.v]:=⟨a0,a1,a2,trivial⟩
       have h1:(eN f.cells g.cells)[k]?=some (join x1 y1):=by unfold eN;rw [List.getElem?_zipWith,hx1,hy1]
       have hcl:=hx.at_.cl
       have hclg:=hy.at_.cl
       simp only [ecx,eca] at hS
       refine bG (XF.thenN (aL (bM ?_)))
       refine Ps (p:=14) (k:=16) (gi:=0) (m:=1) cE hS rfl rfl (by kernel_rfl) (by kernel_rfl) (by kernel_rfl) (fun d hd=>by cases hd) rfl rfl underlying50 H3 rfl rfl (by show 0 < 3;decide) rfl rfl rfl (by dsimp only;simp only [maxLen];omega) (by dsimp only;show _ * 24≤_;omega) ?_
       refine fU 1 rfl rfl (by kernel_rfl) (rgV (li:=[(7,_)]) rfl (aU rfl) ⟨cI rfl,trivial⟩ (fun w hw=>aW (o':=4) cZ rfl rfl) (aH rfl)) (fU 2 rfl rfl (by kernel_rfl) (rgV (li:=[(47,_)]) rfl (aU rfl) ⟨aO 0 (aB rfl rfl rfl),trivial⟩ (fun w hw=>bA isAgg50 rfl ((aN hw 0).cell (Nat.zero_le _) (aK (hS.at_ 0 rfl) rfl))) (aH rfl)) (fU 3 rfl rfl (by kernel_rfl) (rgV (li:=[(4,_)]) rfl (aU rfl) ⟨cI rfl,trivial⟩ (fun w hw=>aW (o':=4) cZ rfl rfl) (aH rfl)) (fU 4 rfl rfl (by kernel_rfl) (rgV (li:=[(49,_)]) rfl (aU rfl) ⟨aO 2 (aB rfl rfl rfl),trivial⟩ (fun w hw=>bA isAgg50 rfl ((aN hw 0).cell (Nat.zero_le _) (aK (hS.at_ 3 rfl) rfl))) (aH rfl)) (fU 5 rfl rfl (by kernel_rfl) (rgV (li:=[(8,_)]) rfl (aU rfl) ⟨cI rfl,trivial⟩ (fun w hw=>bE rfl) (aH rfl)) (fU 6 rfl rfl (by kernel_rfl) (rgV (li:=[(50,_),(51,_)]) rfl (aU rfl) ⟨aO 3 (aB rfl rfl rfl),aO 4 (aB rfl rfl rfl),trivial⟩ (fun w hw=>bB  underlying50 sizeOf92 rfl rfl rfl (by omega) rfl) (aH rfl)) (fU 7 rfl rfl (by kernel_rfl) (rgV (li:=[(52,_)]) rfl (aU rfl) ⟨aO 5 (aB rfl rfl rfl),trivial⟩ (fun w hw=>bF (vs:=[_,_,_]) isAgg92 sizeOf92 rfl (aE.agree (aN hw 0) (Nat.zero_le _) (by assumption))) (aH rfl)) (fU 8 rfl rfl (by kernel_rfl) (rgV (li:=[(5,_)]) rfl (aU rfl) ⟨cI rfl,trivial⟩ (fun w hw=>aW (o':=4) cZ rfl rfl) (aH rfl)) (fU 9 rfl rfl (by kernel_rfl) (rgV (li:=[(54,_)]) rfl (aU rfl) ⟨aO 7 (aB rfl rfl rfl),trivial⟩ (fun w hw=>bA isAgg50 rfl ((aN hw 0).cell (Nat.zero_le _) (aK (hS.at_ 2 rfl) rfl))) (aH rfl)) (fU 10 rfl rfl (by kernel_rfl) (rgV (li:=[(8,_)]) rfl (aU rfl) ⟨cI rfl,trivial⟩ (fun w hw=>bE rfl) (aH rfl)) (fU 11 rfl rfl (by kernel_rfl) (rgV (li:=[(55,_),(56,_)]) rfl (aU rfl) ⟨aO 8 (aB rfl rfl rfl),aO 9 (aB rfl rfl rfl),trivial⟩ (fun w hw=>bB  underlying50 sizeOf92 rfl rfl rfl (by omega) rfl) (aH rfl)) (fU 12 rfl rfl (by kernel_rfl) (rgV (li:=[(57,_)]) rfl (aU rfl) ⟨aO 10 (aB rfl rfl rfl),trivial⟩ (fun w hw=>bF (vs:=[_,_,_]) isAgg92 sizeOf92 rfl (aE.agree (aN hw 0) (Nat.zero_le _) (by assumption))) (aH rfl)) ?_)))))))))))
       refine fU 13 rfl rfl (by kernel_rfl) (cV [isV _,isV _] rfl J5 (aU rfl) ⟨bZ (aO 6 (aB rfl rfl rfl)),bZ (aO 11 (aB rfl rfl rfl)),trivial⟩ (fun vs w' hb hh=>by have e:=cB (us:=[_,_]) hh;subst e;exact (Rk x1 y1 (vx.oks k x1 hx1) (vy.oks k y1 hy1) _).mono fun e w2 h=>⟨_,h.1,rfl,h.2⟩) (aH rfl)) ?_
       refine Pr 14 rfl rfl (by kernel_rfl) (gR W.heap.size 1 92 _) (rO) (Cg (us:=[.agg (List.toArray [_,_,_])]) rfl (aU rfl) underlying50 sizeOf92 zeroValue92 rfl rfl ⟨bZ (aO 12 (aB rfl rfl rfl)),trivial⟩ (Cj _ _ _) (aH rfl)) (C1 15 rfl rfl (xN 16 rfl rfl (rgV (li:=[(7,_)]) rfl (aU rfl) ⟨cI rfl,trivial⟩ (fun w hw=>aW (o':=4) cZ rfl rfl) (aH rfl)) (lgV (li:=[(7,_)]) rfl (aU rfl) ⟨cI rfl,trivial⟩ (fun w=>aW (o':=4) cZ rfl rfl) (aH rfl) rfl) (C0 ⟨_,_,aO 1 (aB rfl rfl rfl),aO 13 (aB rfl rfl rfl),pG rfl rfl,?_⟩)))
       intro A14 v14 news14 W14 hbR hqA14 hS'
       clear hS;have hS:=hS';clear hS'
       cases hqA14
       refine aI (aI (aI (aI (aI (aI (aI (aI (aI (aI (aI (aI (aI ?_))))))))))))
       refine cW ?_;intro _ _
       refine aI (aI ?_)
       obtain ⟨g9,c9,e9,_,_⟩:=(hS.row 0 rfl).form (by show 0 < k+1;omega)
       dsimp only at e9
       subst e9
       refine cL (fA (i:=0) (cs':=[_,_,_,_,_,_]) (O':=[_,_,_,_,_]) hS sizeOf50 rfl rfl rfl rfl rfl rfl rfl fun W15 hS=>aQ (XF.blkN (XF.thenN (aR (aG rfl rfl (cR rfl rfl (IntWalk.i64_in _ (by omega)) rfl (aA rfl rfl (aQ ?_))))))))
       simp only [← ecx,← eca] at hS
       exact XF.round (m - (k+1)) [(3,_),(4,_),(5,_),(6,_),(7,_),(8,_)] (by omega) ⟨rfl,rfl,rfl,rfl,rfl,rfl,trivial⟩ ⟨k+1,_,by omega,rfl,rfl,by rw [Au h1];exact hS.clear⟩
      ·have hc44:=of_decide_eq_false hc;clear hc
       refine dE (XF.thenX (XF.thenX (XF.blkX (XF.blkN (XF.thenN (aL ?_))))))
       obtain rfl:k=m:=by omega
       have hrow:=hS.row 0 rfl
       have hln:(eN f.cells g.cells).length=k:=by unfold eN;rw [List.length_zipWith,vx.len,vy.len,Nat.min_self]
       have ht0:(eN f.cells g.cells).take k=eN f.cells g.cells:=List.take_of_length_le (by rw [hln];exact Nat.le_refl _)
       simp only [ht0] at hrow
       obtain ⟨hn,a9,c9,rfl,_,_⟩:=fF hrow
       clear hrow
       refine aR (aS (vs:=[_,_,_,_,_,_]) isAgg53 sizeOf53 rfl (aE.own (j:=0) (m:=6) (hS.at_ 0 rfl) rfl) rfl (aV (i:=1) (vs:=[_,_,_,_,_,_]) (cs':=[_,_,_,_,_,_]) (O':=[_,_,_,_,_]) hS sizeOf53 rfl rfl rfl rfl rfl rfl rfl fun W16 hS=>aQ (XF.thenN (bJ (XF.res (dO (vs:=[_,_,_,_,_,_]) results24 isAgg53 sizeOf53 rfl (aE.own (j:=0) (m:=6) (hS.at_ 1 rfl) rfl)) ?_)))))
       have hrow:=hS.row 0 rfl
       simp only [ht0] at hrow
       obtain ⟨_,a8,c8,e8,hr9,hf9⟩:=fF hrow
       cases e8
       refine ⟨oA a9 c9 (eN f.cells g.cells),?_,fun W2 hW=>((R7 (k:=w.heap.size) hx hy hf hg hr9 (fun ad e=>(hf9 ad e).1)).agree hW.2).is,hS.below⟩
       show _=Ending.returned (Value.agg #[.bool false,.int .i64 0,.int .u64 ((0:Nat):Int),.slice none 0 0,.slice a9 (eN f.cells g.cells).length c9,.slice none 0 0])
       rw [hln]
       rfl
     ·have hc39:=of_decide_eq_false hc;clear hc
      refine aL (aR (cM rfl rfl rfl (aA rfl rfl (aQ (XF.thenN (aZ rfl (fun hc=>absurd (of_decide_eq_true hc) (by exact jW hp)) (fun hc=>?_)))))))
      have hc:=of_decide_eq_false hc
      refine bG (XF.blkN (XF.thenN (aL (aR (aS (vs:=[_,_,_,_,_,_]) isAgg53 sizeOf53 rfl (aE.own (j:=0) (m:=6) (hS.at_ 0 rfl) rfl) rfl (aV (i:=1) (vs:=[_,_,_,_,_,_]) (cs':=[_,_,_,_,_,_]) (O':=[_,_,_,_,_]) hS sizeOf53 rfl rfl rfl rfl rfl rfl rfl fun W17 hS=>aQ (XF.thenN (bJ (XF.res (dO (vs:=[_,_,_,_,_,_]) results24 isAgg53 sizeOf53 rfl (aE.own (j:=0) (m:=6) (hS.at_ 1 rfl) rfl)) ?_)))))))))
      have e1:t=1:=by
       have:=(fK hp).2
       omega
      subst e1
      exact yZ (Kj hx hy hf hg) hS.below
theorem D6 (M:World→Prop) (hM:uS M) (t n u m:Int) (a1 a2:Option Addr) (c1 c2 b off sc:Nat) (w:World) (hs1:S3 w b off ⟨t,n,a1,0,c1⟩) (hs2:S3 w b (off+3) ⟨u,m,a2,0,c2⟩) (hp1:cA t n 0=true) (hp2:cA u m 0=true)(fra fca:Option Addr) (frc fcc fpc fb fo:Nat) (f1 f2:WF) (x1 x2:PF) (hf6:W6 w fb fo f1) (hf7:W6 w fb (fo+6) f2) (hx1:sE M t n f1 x1) (hx2:sE M u m f2 x2)(gra gca:Option Addr) (grc gcc gpc gb go:Nat) (g1 g2:WF) (y1 y2:PF) (hg6:W6 w gb go g1) (hg7:W6 w gb (go+6) g2) (hy1:sE M t n g1 y1) (hy2:sE M u m g2 y2) (hw:M w) :
  Calls prog 24 #[.agg #[.int .i64 5,.int .i64 0,.slice (some ⟨b,off,none⟩) 2 sc],.agg #[.bool false,.int .i64 0,.int .u64 0,.slice fra 0 frc,.slice fca 0 fcc,.slice (some ⟨fb,fo,none⟩) 2 fpc],.agg #[.bool false,.int .i64 0,.int .u64 0,.slice gra 0 grc,.slice gca 0 gcc,.slice (some ⟨gb,go,none⟩) 2 gpc]] w (R5 M (.two t n u m) (.two (eO t n x1 y1) (eO u m x2 y2)) w):=by
 refine cH (args:=[.agg #[.int .i64 5,.int .i64 0,.slice (some ⟨b,off,none⟩) 2 sc],.agg #[.bool false,.int .i64 0,.int .u64 0,.slice fra 0 frc,.slice fca 0 fcc,.slice (some ⟨fb,fo,none⟩) 2 fpc],.agg #[.bool false,.int .i64 0,.int .u64 0,.slice gra 0 grc,.slice gca 0 gcc,.slice (some ⟨gb,go,none⟩) 2 gpc]]) func24 rfl ntmps24 rfl ?_
 have hS:=St.start w
 refine aL (aR (bK (cs:=[_,_,_]) hS rfl rfl rfl fun B1 W1 hS=>bK (cs:=[_,_,_,_,_,_]) hS rfl rfl rfl fun B2 W2 hS=>bK (cs:=[_,_,_,_,_,_]) hS rfl rfl rfl fun B3 W3 hS=>bH (cs:=[_,_,_,_,_,_]) hS zeroValue53 rfl rfl fun B4 W4 hS=>aQ (XF.thenN (aL (aL (aR (aP (o':=0) dL rfl rfl rfl (aT isAgg4 rfl (aK (hS.at_ 2 rfl) rfl) rfl (aQ (XF.thenN (aZ rfl (fun hc=>absurd hc (by decide)) (fun hc=>?_))))))))))))
 skip
 refine bG (XF.thenN (aL (aL (aR (aP (o':=0) dL rfl rfl rfl (aT isAgg4 rfl (aK (hS.at_ 1 rfl) rfl) rfl (aQ (XF.thenN (aZ rfl (fun hc=>absurd hc (by decide)) (fun hc=>?_))))))))))
 skip
 refine bG (XF.thenN (aL (aR (cS (us:=[]) rfl (iN) rfl (bH (cs:=[_,_,_,_,_,_]) hS zeroValue53 rfl rfl fun B5 W5 hS=>aV (i:=0) (vs:=[_,_,_,_,_,_]) (cs':=[_,_,_,_,_,_]) (O':=[_,_,_,_,_]) hS sizeOf53 rfl rfl rfl rfl rfl rfl rfl fun W6 hS=>aQ (XF.thenN (aL (aL (aR (aP (o':=0) dW rfl rfl rfl (aT isAgg22 rfl (aK (hS.at_ 4 rfl) rfl) rfl (aQ (XF.thenN (bM (aL (aR (cM rfl rfl rfl (aA rfl rfl (aQ (XF.thenN (aZ rfl (fun hc=>absurd (of_decide_eq_true hc) (by omega)) (fun hc=>?_))))))))))))))))))))))
 have hc:=of_decide_eq_false hc
 refine aL (aR (cM rfl rfl rfl (aA rfl rfl (aQ (XF.thenN (aZ rfl (fun hc=>absurd (of_decide_eq_true hc) (by omega)) (fun hc=>?_)))))))
 have hc:=of_decide_eq_false hc
 refine aL (aR (cM rfl rfl rfl (aA rfl rfl (aQ (XF.thenN (aZ rfl (fun hc=>absurd (of_decide_eq_true hc) (by omega)) (fun hc=>?_)))))))
 have hc:=of_decide_eq_false hc
 refine aL (aR (cM rfl rfl rfl (aA rfl rfl (aQ (XF.thenN (aZ rfl (fun hc=>?_) (fun hc=>absurd (of_decide_eq_false hc) (by omega))))))))
 have hc:=of_decide_eq_true hc
 have hsz:=hS.below.size
 have k1:=aE.agree hS.agree (Nat.zero_le _) hs1.cells
 have k2:=aE.agree hS.agree (Nat.zero_le _) hs2.cells
 have kf1:=aE.agree hS.agree (Nat.zero_le _) hf6.cells
 have kf2:=aE.agree hS.agree (Nat.zero_le _) hf7.cells
 have kg1:=aE.agree hS.agree (Nat.zero_le _) hg6.cells
 have kg2:=aE.agree hS.agree (Nat.zero_le _) hg7.cells
 refine pB cE 28 hS rfl rfl (by kernel_rfl) (by kernel_rfl) (by kernel_rfl) (fun d hd=>by cases hd) (cC 1 rfl 3 rfl rfl (fun w hw=>aW (o':=2) dI rfl rfl) rfl (aX 2 rfl 65 0 rfl rfl rfl (fun w hw=>bA isAgg23 rfl ((aN hw 0).cell (Nat.zero_le _) (aK (hS.at_ 4 rfl) rfl))) rfl (aX 3 rfl 66 1 rfl rfl rfl (fun w hw=>bB (j:=0) underlying23 sizeOf25 rfl rfl rfl (by omega) (Nat.add_zero _)) rfl (aX 4 rfl 67 2 rfl rfl rfl (fun w hw=>bF (vs:=[_,_,_]) isAgg25 sizeOf25 rfl (aE.agree (aN hw 0) (Nat.zero_le _) (by assumption))) rfl (cC 5 rfl 4 rfl rfl (fun w hw=>aW (o':=5) cP rfl rfl) rfl (aX 6 rfl 69 4 rfl rfl rfl (fun w hw=>bA isAgg51 rfl ((aN hw 0).cell (Nat.zero_le _) (aK (hS.at_ 3 rfl) rfl))) rfl (aX 7 rfl 70 5 rfl rfl rfl (fun w hw=>bB (j:=0) underlying51 sizeOf53 rfl rfl rfl (by omega) (Nat.add_zero _)) rfl (aX 8 rfl 71 6 rfl rfl rfl (fun w hw=>bF (vs:=[_,_,_,_,_,_]) isAgg53 sizeOf53 rfl (aE.agree (aN hw 0) (Nat.zero_le _) (by assumption))) rfl (cC 9 rfl 5 rfl rfl (fun w hw=>aW (o':=5) cP rfl rfl) rfl (aX 10 rfl 73 8 rfl rfl rfl (fun w hw=>bA isAgg51 rfl ((aN hw 0).cell (Nat.zero_le _) (aK (hS.at_ 2 rfl) rfl))) rfl (aX 11 rfl 74 9 rfl rfl rfl (fun w hw=>bB (j:=0) underlying51 sizeOf53 rfl rfl rfl (by omega) (Nat.add_zero _)) rfl (aX 12 rfl 75 10 rfl rfl rfl (fun w hw=>bF (vs:=[_,_,_,_,_,_]) isAgg53 sizeOf53 rfl (aE.agree (aN hw 0) (Nat.zero_le _) (by assumption))) rfl ?_))))))))))))
 refine aM 13 rfl (tW M W6.heap.size (.one t n) (.one (eO t n x1 y1))) (sF) (cV [isV _,isV _,isV _] rfl Cu (aU rfl) ⟨bZ (aO 3 (aB rfl rfl rfl)),bZ (aO 7 (aB rfl rfl rfl)),bZ (aO 11 (aB rfl rfl rfl)),trivial⟩ (fun vs w' hb hh=>by have e:=cB (us:=[_,_,_]) hh;subst e;exact sG hb.size (mU M _ _ _ _ _ _ _ _ _ hp1 (hM _ _ hw (hS.below.trans (hb.mono hS.below.size))) hx1 hy1)) (aH rfl)) ?_
 refine cC 14 rfl 3 rfl rfl (fun w hw=>aW (o':=2) dI rfl rfl) rfl (aX 15 rfl 78 13 rfl rfl rfl (fun w hw=>bA isAgg23 rfl ((aN hw 0).cell (Nat.zero_le _) (aK (hS.at_ 4 rfl) rfl))) rfl (aX 16 rfl 79 14 rfl rfl rfl (fun w hw=>bB (j:=1) underlying23 sizeOf25 rfl rfl rfl (by omega) rfl) rfl (aX 17 rfl 80 15 rfl rfl rfl (fun w hw=>bF (vs:=[_,_,_]) isAgg25 sizeOf25 rfl (aE.agree (aN hw 0) (Nat.zero_le _) (by assumption))) rfl (cC 18 rfl 4 rfl rfl (fun w hw=>aW (o':=5) cP rfl rfl) rfl (aX 19 rfl 82 17 rfl rfl rfl (fun w hw=>bA isAgg51 rfl ((aN hw 0).cell (Nat.zero_le _) (aK (hS.at_ 3 rfl) rfl))) rfl (aX 20 rfl 83 18 rfl rfl rfl (fun w hw=>bB (j:=1) underlying51 sizeOf53 rfl rfl rfl (by omega) rfl) rfl (aX 21 rfl 84 19 rfl rfl rfl (fun w hw=>bF (vs:=[_,_,_,_,_,_]) isAgg53 sizeOf53 rfl (aE.agree (aN hw 0) (Nat.zero_le _) (by assumption))) rfl (cC 22 rfl 5 rfl rfl (fun w hw=>aW (o':=5) cP rfl rfl) rfl (aX 23 rfl 86 21 rfl rfl rfl (fun w hw=>bA isAgg51 rfl ((aN hw 0).cell (Nat.zero_le _) (aK (hS.at_ 2 rfl) rfl))) rfl (aX 24 rfl 87 22 rfl rfl rfl (fun w hw=>bB (j:=1) underlying51 sizeOf53 rfl rfl rfl (by omega) rfl) rfl (aX 25 rfl 88 23 rfl rfl rfl (fun w hw=>bF (vs:=[_,_,_,_,_,_]) isAgg53 sizeOf53 rfl (aE.agree (aN hw 0) (Nat.zero_le _) (by assumption))) rfl ?_)))))))))))
 refine aM 26 rfl (tW M W6.heap.size (.one u m) (.one (eO u m x2 y2))) (sF) (cV [isV _,isV _,isV _] rfl Cu (aU rfl) ⟨bZ (aO 16 (aB rfl rfl rfl)),bZ (aO 20 (aB rfl rfl rfl)),bZ (aO 24 (aB rfl rfl rfl)),trivial⟩ (fun vs w' hb hh=>by have e:=cB (us:=[_,_,_]) hh;subst e;exact sG hb.size (mU M _ _ _ _ _ _ _ _ _ hp2 (hM _ _ hw (hS.below.trans (hb.mono hS.below.size))) hx2 hy2)) (aH rfl)) ?_
 refine aM 27 rfl (zA M W6.heap.size (.two t n u m) (.two (eO t n x1 y1) (eO u m x2 y2))) (zK) (Ns rfl (aU rfl) ⟨bZ (aO 12 (aB rfl rfl rfl)),bZ (aO 25 (aB rfl rfl rfl)),trivial⟩ (aH rfl)) (cC 28 rfl 7 rfl rfl (fun w hw=>aW (o':=5) cP rfl rfl) rfl (dC ?_))
 intro W7 hbR hS'
 clear hS;have hS:=hS';clear hS'
 refine aI (aI (aI (aI (aI (aI (aI (aI (aI (aI (aI (aI ?_)))))))))))
 refine cW ?_;rintro _ ⟨v1,rfl,hn1⟩
 refine aI (aI (aI (aI (aI (aI (aI (aI (aI (aI (aI (aI ?_)))))))))))
 refine cW ?_;rintro _ ⟨v2,rfl,hn2⟩
 refine cW ?_;rintro _ ⟨b9,rfl,hn9⟩
 refine aI (cL (fA (i:=0) (cs':=[_,_,_,_,_,_]) (O':=[_,_,_,_,_]) hS sizeOf51 rfl rfl rfl rfl rfl rfl rfl fun W8 hS=>aQ (XF.blkN (XF.thenN (aL (aR (aS (vs:=[_,_,_,_,_,_]) isAgg53 sizeOf53 rfl (aE.own (j:=0) (m:=6) (hS.at_ 0 rfl) rfl) rfl (aV (i:=1) (vs:=[_,_,_,_,_,_]) (cs':=[_,_,_,_,_,_]) (O':=[_,_,_,_,_]) hS sizeOf53 rfl rfl rfl rfl rfl rfl rfl fun W9 hS=>aQ (XF.thenN (bJ (XF.res (dO (vs:=[_,_,_,_,_,_]) results24 isAgg53 sizeOf53 rfl (aE.own (j:=0) (m:=6) (hS.at_ 1 rfl) rfl)) ?_)))))))))))
 exact ⟨pH b9,rfl,hn9.mono fun W hW=>⟨hW.1,(hS.since 0 rfl).trans (hW.2.mono hsz)⟩,hS.below⟩
theorem oI.two {M:World→Prop} {t n u m:Int} {f:WF} {a b:PF} (h:oI M (.two t n u m) f (.two a b)):∃ (ra ca:Option Addr) (rc cc pc fb fo:Nat) (f1 f2:WF),f=⟨false,0,0,ra,0,rc,[],ca,0,cc,[],some ⟨fb,fo,none⟩,2,pc⟩∧(∀ W,M W→W6 W fb fo f1∧W6 W fb (fo+6) f2)∧sE M t n f1 a∧sE M u m f2 b:=by
 obtain ⟨h1,h2,h3,h4,blk,off,g,k,h5,h6,h7,h8⟩:=h
 obtain ⟨z,c,gg,ra,rl,rc,rows,ca,cl,cc,cells,pa,pl,pc⟩:=f
 simp only [WF.pf,pC,PF.mk.injEq] at h1
 obtain ⟨rfl,rfl,rfl,rfl,rfl⟩:=h1
 dsimp only at h2 h3 h4 h5
 subst h2;subst h3;subst h4;subst h5
 exact ⟨ra,ca,rc,cc,pc,blk,off,g,k,rfl,h6,h7,h8⟩
theorem Jh {M:World→Prop} {S:PS} {sf:SF} {f g:WF} {x y:PX} {w:World} (hM:uS M) (hs:SIs w S sf) (hok:S.ok) (hw:M w) (hx:oI M S f x) (hy:oI M S g y):Calls prog 24 #[sf.val,f.val,g.val] w (R5 M S (kT S x y) w):=by
 cases S<;>cases x<;>cases y<;>first | exact hx.elim | exact hy.elim | skip
 ·obtain ⟨a,c,rfl⟩:=hs
  exact mU M _ _ _ _ _ _ _ _ _ hok hw hx hy
 ·obtain ⟨b,off,c,a1,c1,a2,c2,rfl,h1,h2⟩:=hs
  obtain ⟨ra,ca,rc,cc,pc,fb,fo,f1,f2,rfl,h6,h8,h9⟩:=hx.two
  obtain ⟨ra',ca',rc',cc',pc',gb,go,g1,g2,rfl,h6',h8',h9'⟩:=hy.two
  exact D6 M hM _ _ _ _ _ _ _ _ _ _ _ _ h1 h2 hok.1 hok.2 _ _ _ _ _ _ _ _ _ _ _ (h6 w hw).1 (h6 w hw).2 h8 h9 _ _ _ _ _ _ _ _ _ _ _ (h6' w hw).1 (h6' w hw).2 h8' h9' hw
def MK (M:World→Prop) (K:List (Nat×World)) (W:World):Prop:=M W∧∀ q∈K,dD q.1 q.2 W
theorem MK.keep {M:World→Prop} {W W':World} {K:List (Nat×World)} (h:MK M K W) (hM:uS M) (hb:Below W.heap.size W W'):MK M K W':=⟨hM _ _ h.1 hb,fun q hq=>(h.2 q hq).trans (aN hb _)⟩
theorem Nt {M:World→Prop} (hM:uS M) (K:List (Nat×World)):uS (MK M K):=fun W W' h hb=>h.keep hM hb
theorem comb2 {S:PS} {x y:PX} (hx:OkX S x):[x,y].foldl (kT S) (kF S)=kT S x y:=by
 simp only [List.foldl_cons,List.foldl_nil,Hu hx]
theorem R8 {lo lo':Nat} {A W:World} (h:dD lo A W) (hl:lo≤lo'):dD lo' A W:=⟨h.1,fun k h1 h2=>h.2 k (Nat.le_trans hl h1) h2⟩
theorem R9 {w:World} {B:Nat} {f:WF} {o:Nat} (h:aE w B o f.six):W6 w B o f:=⟨h.1,h.2.1,h.2.2.1,h.2.2.2.1,h.2.2.2.2.1,h.2.2.2.2.2.1⟩
section
variable {P:Program} {d td:Nat} {ty:TypeId} {pos:String}
end
section
variable {S:PS} {px:RV→PX} {rs:List RV}
theorem rC:∀ {l m:List Int} {k:Nat} {st st1:StT} {n c:Int},rX S px rs l k st=(some st1,n,c)→rX S px rs (l++m) k st=rX S px rs m (k+l.length) st1
 | [],m,k,st,st1,n,c,h=>by
  simp only [rX,Prod.mk.injEq,Option.some.injEq] at h
  rw [h.1];rfl
 | i::l,m,k,st,st1,n,c,h=>by
  rw [List.cons_append]
  cases hs:fW S px rs i st with
  | error e=>rw [lZ hs] at h;cases h
  | ok st'=>rw [Dh hs] at h ⊢;rw [rC h,List.length_cons,show k+1+l.length=k+(l.length+1) by omega]
end
structure KR where
 a:Option Addr
 rc:Nat
 rs:List Int
 c:CV
 f:WF
abbrev KR.c9 (x:KR):List Value:=[.slice x.a x.rs.length x.rc,.int .i64 x.c.p,.slice x.c.wa x.c.wl x.c.wc,.bool x.f.z,.int .i64 x.f.c,.int .u64 (x.f.g:Int),.slice x.f.ra x.f.rl x.f.rc,.slice x.f.ca x.f.cl x.f.cc,.slice x.f.pa x.f.pl x.f.pc]
abbrev KR.pl (x:KR):Crs:=(x.rs,x.c.p,x.c.ws)
theorem mV {W:World} {lo b n c i:Nat} {T:TypeId} {ns:List KR} {r:KR} (h:W.ownsRow lo T 9 (.slice (some ⟨b,0,none⟩) n c) n (ns.flatMap KR.c9)) (hi:ns[i]?=some r):aE W b (i * 9) r.c9:=by
 have key:∀ (l:List KR) (i:Nat),l[i]?=some r→((l.flatMap KR.c9).drop (i * 9)).take 9=r.c9:=by
  intro l
  induction l with
  | nil=>intro i h;simp at h
  | cons z l ih =>
   intro i h
   cases i with
   | zero=>simp at h;subst h;rfl
   | succ i =>
    have e:(i+1) * 9=9+i * 9:=by omega
    rw [List.flatMap_cons,e,← List.drop_drop]
    exact ih i (by simpa using h)
 have e5:=key ns i hi
 refine aE.of fun j v hj=>dT h ?_
 rw [← e5,List.getElem?_take] at hj
 split at hj
 ·rw [List.getElem?_drop] at hj;exact hj
 ·cases hj
def gD (S:PS) (px:RV→PX) (rls:List RV) (is:List Int):PX:=is.foldl (fun a i=>match rls[i.toNat]? with | some r=>kO S a (px r) | none=>a) (rH S)
theorem A4 {S:PS} {px:RV→PX} {rls:List RV} {is:List Int} {n:Nat} {r:RV} (h:rls[n]?=some r):gD S px rls (is++[(n:Int)])=kO S (gD S px rls is) (px r):=by
 unfold gD
 rw [List.foldl_append]
 simp [h]
theorem Sa {S:PS} {px:RV→PX} {rls:List RV} (hS:S.ok) (hr:∀ r∈rls,OkX S (px r)) (is:List Int):OkX S (gD S px rls is):=by
 unfold gD
 have key:∀ (is:List Int) (a:PX),OkX S a→OkX S (is.foldl (fun a i=>match rls[i.toNat]? with | some r=>kO S a (px r) | none=>a) a):=by
  intro is
  induction is with
  | nil=>intro a h;exact h
  | cons i is ih =>
   intro a h
   rw [List.foldl_cons]
   refine ih _ ?_
   cases hi:rls[i.toNat]? with
   | none=>exact h
   | some r=>exact ext_okX hS h (hr r (List.mem_of_getElem? hi))
 exact key is _ (one_okX hS)
def runsF (e1 e2 n:Int) (nx:Nxt) (c d:Int×List Int):Int×List Crs :=
 if gQ e1 e2 n≠0 then (gQ e1 e2 n,[]) else
 if (iQ nx n.toNat c).1≠0 then ((iQ nx n.toNat c).1,[]) else (0,(iQ nx n.toNat c).2.filter (fun x=>decide (x.2=d)))
theorem runsE_F (e1 e2 n:Int) (nx:Nxt) (c d:Int×List Int):sV e1 e2 n nx c d=((runsF e1 e2 n nx c d).1,(runsF e1 e2 n nx c d).2.map (·.1)):=by
 unfold sV runsF
 split
 ·rfl
 ·split
  ·rfl
  ·rfl
theorem qP {d:Int×List Int} {l:List Crs} {i:Nat} {x:Crs} (hx:l[i]?=some x):(l.take (i+1)).filter (fun x=>decide (x.2=d))=(l.take i).filter (fun x=>decide (x.2=d))++(if x.2=d then [x] else []):=by
 rw [List.take_add_one,hx,List.filter_append]
 congr 1
 by_cases h:x.2=d
 ·rw [if_pos h];simp [h]
 ·rw [if_neg h];simp [h]
theorem G3 {e1 e2 n:Int} {nx:Nxt} {c d:Int×List Int} (h:e1≠0):runsF e1 e2 n nx c d=(e1,[]):=by
 have e:gQ e1 e2 n=e1:=by unfold gQ;rw [if_pos h]
 unfold runsF;rw [e,if_pos h]
theorem Sb {e1 e2 n:Int} {nx:Nxt} {c d:Int×List Int} (h1:e1=0) (h:e2≠0):runsF e1 e2 n nx c d=(e2,[]):=by
 have e:gQ e1 e2 n=e2:=by unfold gQ;rw [if_neg (by omega),if_pos h]
 unfold runsF;rw [e,if_pos h]
theorem Lm {e1 e2 n:Int} {nx:Nxt} {c d:Int×List Int} (h1:e1=0) (h2:e2=0) (h:n < 0∨64 < n):runsF e1 e2 n nx c d=(5,[]):=by
 have e:gQ e1 e2 n=5:=by unfold gQ;rw [if_neg (by omega),if_neg (by omega),if_pos h]
 unfold runsF;rw [e];rfl
theorem runsF_m {e1 e2 n:Int} {nx:Nxt} {c d:Int×List Int} (h1:e1=0) (h2:e2=0) (h3:0≤n∧n≤64) (h:12 < n):runsF e1 e2 n nx c d=(3,[]):=by
 have e:gQ e1 e2 n=3:=by unfold gQ;rw [if_neg (by omega),if_neg (by omega),if_neg (by omega),if_pos h]
 unfold runsF;rw [e];rfl
theorem Sc {e1 e2 n:Int} {nx:Nxt} {c d:Int×List Int} (h1:e1=0) (h2:e2=0) (h3:0≤n) (h:n≤12):runsF e1 e2 n nx c d=if (iQ nx n.toNat c).1≠0 then ((iQ nx n.toNat c).1,[]) else (0,(iQ nx n.toNat c).2.filter (fun x=>decide (x.2=d))):=by
 have e:gQ e1 e2 n=0:=by unfold gQ;rw [if_neg (by omega),if_neg (by omega),if_neg (by omega),if_neg (by omega)]
 unfold runsF;rw [e,if_neg (fun h=>h rfl)]
structure KNew (lo:Nat) (W:World) (S:PS) (px:RV→PX) (rls:List RV) (c:CV) (x:KR):Prop where
 r:fT lo W x.a x.rc x.rs
 c:x.c=c∨Ap lo W x.c
 x:jM lo W S x.f (gD S px rls x.rs)
theorem KNew.agree {lo:Nat} {A W:World} {S:PS} {px:RV→PX} {rls:List RV} {c:CV} {x:KR} (h:KNew lo A S px rls c x) (hg:dD lo A W):KNew lo W S px rls c x:=⟨h.r.agree hg,h.c.elim .inl (fun h=>.inr ⟨h.1.agree hg,h.2⟩),h.x.agree hg⟩
theorem KNew.cin {lo:Nat} {W:World} {S:PS} {px:RV→PX} {rls:List RV} {c:CV} {x:KR} (h:KNew lo W S px rls c x) (hc:CIn W c) (hcc:c.wl≤c.wc):CIn W x.c∧x.c.wl≤x.c.wc:=by
 rcases h.c with e | e
 ·rw [e];exact ⟨hc,hcc⟩
 ·exact ⟨⟨e.1.row,e.2.symm⟩,by have h9:=e.1.cap;rw [e.2];exact h9⟩
def RunsR (S:PS) (px:RV→PX) (rls:List RV) (c:CV) (X:Int×List Crs) (w:World) (e:Ending) (w':World):Prop:=Below w.heap.size w w'∧∃ (v:Value) (ks:List KR),e = .returned (.tuple #[v,.int .i64 X.1])∧ks.map KR.pl=X.2∧ks.length≤10000 ∧
 w'.ownsRow w.heap.size 79 9 v ks.length (ks.flatMap KR.c9)∧∀ x∈ks,KNew w.heap.size w' S px rls c x
theorem lM {S:PS} {px:RV→PX} {rls:List RV} {c:CV} {X:Int×List Crs} {w w':World} {e:Int} (h:X=(e,[])) (hb:Below w.heap.size w w'):RunsR S px rls c X w (.returned (.tuple #[.slice none 0 0,.int .i64 e])) w':=by
 subst h
 exact ⟨hb,.slice none 0 0,[],rfl,rfl,Nat.zero_le _,⟨rfl,.inl ⟨rfl,rfl⟩⟩,fun x hx=>by cases hx⟩
theorem A6 {w0 W:World} {O:Own} {base:cY} {e:TypeId} {sz i:Nat} {r:List (Nat×Nat×List Value)} {s:Sy} {K:List (Nat×World)} (h:St w0 O (Je base e sz i r s) K W):St w0 O base K W:=by
 unfold Je at h
 split at h
 ·exact h
 ·induction r with
  | nil=>exact h
  | cons q r ih =>
   unfold GCh at h
   split at h
   ·exact h.dropG
   ·exact ih h
theorem app_of9 {lo:Nat} {xs:List Int} {y:Int}:∀ (v:Value) (w:World),w.ownsRow lo 3 1 v (0+xs.length+1) (([]++xs.map (Value.int .i64))++[.int .i64 y])→jL lo (xs++[y]) v w:=fun v w h=>by
 have e1:([]++xs.map (Value.int .i64))++[.int .i64 y]=(xs++[y]).map (Value.int .i64):=by simp
 have e2:0+xs.length+1=(xs++[y]).length:=by simp
 rw [e1,e2] at h
 obtain ⟨a,c,rfl,_⟩:=eC h
 exact ⟨a,c,rfl,h⟩
theorem A7 {lo:Nat} {l:NxL} {nb nc i:Nat} {W:World} {x:Int×Int×List Int} (h:dN lo l (.slice (some ⟨nb,0,none⟩) l.length nc) W) (hx:l[i]?=some x):W.cell? ⟨nb,0+i * 1,none⟩=some (.int .i64 x.1):=by
 rw [Nat.zero_add,Nat.mul_one]
 exact dT h (by rw [List.getElem?_map,List.getElem?_map,hx];rfl)
def uT (lo:Nat) (zs:List Int) (c:CV) (S:PS) (z:PX):Asr:=fun v w=>∃ (a:Option Addr) (cc:Nat) (f:WF),v = .agg (List.toArray (KR.c9 ⟨a,cc,zs,c,f⟩))∧fT lo w a cc zs∧jM lo w S f z
def zB (lo:Nat) (zs:List Int) (c:CV) (S:PS) (z:PX):Asr:=fun v w=>∃ (B2:Nat) (a:Option Addr) (cc:Nat) (f:WF),v = .slice (some ⟨B2,0,none⟩) 1 1∧w.heap[B2]?=some (.cells (List.toArray (KR.c9 ⟨a,cc,zs,c,f⟩)) 79 (0,0))∧fT lo w a cc zs∧jM lo w S f z
theorem bldRun9 (x:KR):prog.built 79 [(0,.slice x.a x.rs.length x.rc),(1,.agg #[.int .i64 x.c.p,.slice x.c.wa x.c.wl x.c.wc]),(2,x.f.val)]=some (List.toArray x.c9):=by kernel_rfl
theorem Ji {f g:WF} (h:f.val=g.val):f.six=g.six:=by
 simp [WF.val] at h ⊢
 exact h
theorem Sd (x:KR):x.c9=[.slice x.a x.rs.length x.rc,.int .i64 x.c.p,.slice x.c.wa x.c.wl x.c.wc]++x.f.six:=rfl
theorem Se {d j1 j2 j3 t1 t2 t3 lo:Nat} {ty:TypeId} {pos:String} {zs:List Int} {c:CV} {S:PS} {z:PX}:∀ (ev:Operand→Value) (w:World),kU [(j1,t1,jL lo zs),(j2,t2,isV (.agg #[.int .i64 c.p,.slice c.wa c.wl c.wc])),(j3,t3,dP lo S z)] ev w →
  ∃ v,(execOp ev ⟨some d,.build 79 #[(0,.tmp t1),(1,.tmp t2),(2,.tmp t3)],ty,pos,#[],none⟩).run prog w = .ok (.value v) w∧∀ w2,kU [(j1,t1,jL lo zs),(j2,t2,isV (.agg #[.int .i64 c.p,.slice c.wa c.wl c.wc])),(j3,t3,dP lo S z)] ev w2→uT lo zs c S z v w2:=fun ev w ⟨⟨a,cc,h1,h1r⟩,h2,⟨f,h3,h3r⟩,_⟩=>by
 have e1:ev (.tmp t1)=_:=h1
 have e2:ev (.tmp t2)=_:=h2
 have e3:ev (.tmp t3)=_:=h3
 refine ⟨.agg (List.toArray (KR.c9 ⟨a,cc,zs,c,f⟩)),?_,fun w2 ⟨⟨a2,cc2,k1,k1r⟩,_,⟨f2,k3,k3r⟩,_⟩=>?_⟩
 ·have hr:=run_build w 79 #[(0,.slice a zs.length cc),(1,.agg #[.int .i64 c.p,.slice c.wa c.wl c.wc]),(2,f.val)] _ (P:=prog) (bldRun9 ⟨a,cc,zs,c,f⟩)
  unfold execOp
  simp only [List.map_toArray,List.map_cons,List.map_nil,e1,e2,e3]
  simp [hr]
 ·have k1':ev (.tmp t1)=_:=k1
  have k3':ev (.tmp t3)=_:=k3
  rw [e1] at k1'
  rw [e3] at k3'
  injection k1' with k1 _ k4
  subst k1;subst k4
  exact ⟨a,cc,f2,by rw [Sd,Sd];dsimp only;rw [Ji k3'],k1r,k3r⟩
theorem bsRun9 (x:KR):Instr.fill (fun i=>some (i * 9,9)) ((Array.range (1 * 9)).map ((Value.agg #[.slice none 0 0,.int .i64 0,.slice none 0 0,.bool false,.int .i64 0,.int .u64 0,.slice none 0 0,.slice none 0 0,.slice none 0 0]).cells[· % (Value.agg #[.slice none 0 0,.int .i64 0,.slice none 0 0,.bool false,.int .i64 0,.int .u64 0,.slice none 0 0,.slice none 0 0,.slice none 0 0]).cells.size]!)) [(0,.agg (List.toArray x.c9))]=some (List.toArray x.c9):=by kernel_rfl
theorem Nu {P:Program} {T e:TypeId} {sz jd td d lo:Nat} {ty:TypeId} {pos:String} {z:Value} {p q:Asr} (hU:P.underlying T=some (.slice e)) (hs:∀ w,(sizeOf e).run P w = .ok sz w) (hz:∀ w,(zeroValue e).run P w = .ok z w) (hm:Nat.ble (1 * sz) 16777216=true) (hm0:Nat.beq (1 * sz) 0=false)
  (hq:∀ (v:Value) (w:World),p v w→∃ cs:List Value,Instr.fill (fun i=>some (i * sz,sz)) ((Array.range (1 * sz)).map (z.cells[· % z.cells.size]!)) [(0,v)]=some cs.toArray∧∀ w2 B,p v w2→w2.heap[B]?=some (.cells cs.toArray e (0,0))→q (.slice (some ⟨B,0,none⟩) 1 1) w2) :
  ∀ (ev:Operand→Value) (w:World),lo≤w.heap.size→kU [(jd,td,p)] ev w→∃ v cs T',(execOp ev ⟨some d,.buildSlice T 1 #[(0,.tmp td)],ty,pos,#[],none⟩).run P w = .ok (.value v) (w.alloc (.cells cs T'))∧∀ w2,kU [(jd,td,p)] ev w2→w2.heap[w.heap.size]?=some (.cells cs T' (0,0))→q v w2:=fun ev w _ ⟨h1,_⟩=>by
 obtain ⟨cs,hf,hk⟩:=hq _ w h1
 have h4:1 * sz≤16777216:=Nat.le_of_ble_eq_true hm
 have h5:1 * sz≠0:=fun e=>by rw [e] at hm0;cases hm0
 have h6:¬ (1 * sz > 2 ^ 24):=by omega
 refine ⟨.slice (some ⟨w.heap.size,0,none⟩) 1 1,cs.toArray,e,?_,fun w2 ⟨k1,_⟩ h2=>hk w2 _ k1 h2⟩
 unfold execOp
 simp only []
 rw [show (Array.map (fun p=>(p.1,ev p.2)) #[((0:Nat),Operand.tmp td)])=[(0,ev (.tmp td))].toArray by simp]
 simp only [Instr.buildSlice,Sem.run_bind,run_underlying hU,Result.andThen_ok,hs,if_neg h6,if_neg h5,hz,Sem.run_pure,hf,newRow,run_newObj_alloc]
theorem Sf {lo:Nat} {zs:List Int} {c:CV} {S:PS} {z:PX}:∀ (v:Value) (w:World),uT lo zs c S z v w→∃ cs:List Value,Instr.fill (fun i=>some (i * 9,9)) ((Array.range (1 * 9)).map ((Value.agg #[.slice none 0 0,.int .i64 0,.slice none 0 0,.bool false,.int .i64 0,.int .u64 0,.slice none 0 0,.slice none 0 0,.slice none 0 0]).cells[· % (Value.agg #[.slice none 0 0,.int .i64 0,.slice none 0 0,.bool false,.int .i64 0,.int .u64 0,.slice none 0 0,.slice none 0 0,.slice none 0 0]).cells.size]!)) [(0,v)]=some cs.toArray∧∀ w2 B,uT lo zs c S z v w2→w2.heap[B]?=some (.cells cs.toArray 79 (0,0))→zB lo zs c S z (.slice (some ⟨B,0,none⟩) 1 1) w2:=fun v w ⟨a,cc,f,h1,h2,h3⟩=>by
 subst h1
 exact ⟨_,bsRun9 ⟨a,cc,zs,c,f⟩,fun w2 B ⟨a2,cc2,f2,k1,k2,k3⟩ hB=>by
  injection k1 with k1
  exact ⟨B,a2,cc2,f2,rfl,by rw [← k1];exact hB,k2,k3⟩⟩
theorem Sh {lo:Nat} {y:Int}:∀ (v:Value) (w:World),gR lo 1 3 [.int .i64 y] v w→∃ ad c,v = .slice ad 1 c∧((ad=none∧1=0)∨∃ p,ad=some p∧∀ (j:Nat) u,[Value.int .i64 y][j]?=some u→w.cell? (p.add j)=some u):=fun v w ⟨B,h1,_,h3⟩=>⟨_,_,h1,.inr ⟨_,rfl,fun j u hj=>by rw [Addr.add_lit,Nat.zero_add];exact aK h3 (by simpa using hj)⟩⟩
theorem Jj (v10:Value) (v11:Value) (v20:Value) (v21:Value) (v22:Value) (v23:Value) (v24:Value) (v25:Value):prog.built 79 [(1,.agg #[v10,v11]),(2,.agg #[v20,v21,v22,v23,v24,v25])]=some #[.slice none 0 0,v10,v11,v20,v21,v22,v23,v24,v25]:=by kernel_rfl
theorem D7 (v00:Value) (v01:Value) (v02:Value) (v03:Value) (v04:Value) (v05:Value) (v06:Value) (v07:Value) (v08:Value):Instr.fill (fun i=>some (i * 9,9)) ((Array.range (1 * 9)).map ((Value.cells (.agg #[.slice none 0 0,.int .i64 0,.slice none 0 0,.bool false,.int .i64 0,.int .u64 0,.slice none 0 0,.slice none 0 0,.slice none 0 0]))[· % (Value.cells (.agg #[.slice none 0 0,.int .i64 0,.slice none 0 0,.bool false,.int .i64 0,.int .u64 0,.slice none 0 0,.slice none 0 0,.slice none 0 0])).size]!)) [(0,.agg #[v00,v01,v02,v03,v04,v05,v06,v07,v08])]=some (List.toArray [v00,v01,v02,v03,v04,v05,v06,v07,v08]):=by kernel_rfl
theorem D8 (w:World) (b o:Nat):(Instr.fieldAt 79 (.pointer (some ⟨b,o,none⟩)) 0).run prog w = .ok (.pointer (some ⟨b,o+0,none⟩)) w:=by
 simp [Instr.fieldAt,run_underlying underlying79,Instr.sureAddr,go_sem,Addr.add_lit]
theorem D9 (w:World) (b o:Nat):(Instr.fieldAt 79 (.pointer (some ⟨b,o,none⟩)) 1).run prog w = .ok (.pointer (some ⟨b,o+1,none⟩)) w:=by
 simp [Instr.fieldAt,run_underlying underlying79,Instr.sureAddr,go_sem,Addr.add_lit]
theorem Ln (w:World) (b o:Nat):(Instr.fieldAt 79 (.pointer (some ⟨b,o,none⟩)) 2).run prog w = .ok (.pointer (some ⟨b,o+3,none⟩)) w:=by
 simp [Instr.fieldAt,run_underlying underlying79,Instr.sureAddr,go_sem,Addr.add_lit]
theorem Lo:bW prog 35=true:=by kernel_rfl
theorem Jk:prog.info? 79=some Tryz.t79:=by kernel_rfl
theorem vJ {w:World} {x e:CV} (h1:CIn w x) (h2:CIn w e) (hm:x.wl≤9223372036854775807):Calls prog 35 #[.agg #[.int .i64 x.p,.slice x.wa x.wl x.wc],.agg #[.int .i64 e.p,.slice e.wa e.wl e.wc]] w (uZ (isV (.bool (decide ((x.p,x.ws)=(e.p,e.ws))))) w) :=
 (M6 _ _ _ _ _ _ _ _ _ _ w h1.row h1.len h2.row h2.len hm).mono fun e w' ⟨he,hb⟩=>⟨_,he,rfl,hb⟩
theorem Lp (ds d:Nat) (s:SV) (st sy:Int) (ra:Option Addr) (rl rc:Nat) (rs:List RV) (w:World) (hs:SIn w ds s) (hrow:lD w ra rs) (hlen:rs.length=rl) (hin:∀ r∈rs,RIn w d r) (c e:CV) (n:Int) (S:PS) (px:RV→PX) (hcn:CIn w c) (hen:CIn w e) (hcc:c.wl≤c.wc) (hrd:stepE ⟨s,st,sy,ra,rl,rc,rs⟩ c=0→Ready w S px ⟨s,st,sy,ra,rl,rc,rs⟩ c) :
  Calls prog 18 #[.agg #[.int .i64 s.f.tag,.int .i64 s.f.dim,.slice s.f.a s.f.len s.f.cap,.int .i64 st,.int .i64 sy,.slice ra rl rc],c.val,e.val,.int .i64 n] w (RunsR S px rs c (runsF (stepE ⟨s,st,sy,ra,rl,rc,rs⟩ c) (stepE ⟨s,st,sy,ra,rl,rc,rs⟩ e) n (nxP rs) (c.p,c.ws) (e.p,e.ws)) w):=by
 refine cH (args:=[.agg #[.int .i64 s.f.tag,.int .i64 s.f.dim,.slice s.f.a s.f.len s.f.cap,.int .i64 st,.int .i64 sy,.slice ra rl rc],c.val,e.val,.int .i64 n]) func18 rfl ntmps18 rfl ?_
 have hS:=St.start w
 have hpi:PvIn w ds d ⟨s,st,sy,ra,rl,rc,rs⟩:=⟨hs,hrow,hlen,hin⟩
 refine aL (aR (bK (cs:=[_,_,_,_,_,_]) hS rfl rfl rfl fun B1 W1 hS=>bK (cs:=[_,_]) hS rfl rfl rfl fun B2 W2 hS=>bK (cs:=[_,_]) hS rfl rfl rfl fun B3 W3 hS=>aA rfl rfl (aA rfl rfl (aQ (XF.thenN (aL (aR (aS (vs:=[_,_,_,_,_,_]) isAgg28 sizeOf28 rfl (aE.own (j:=0) (m:=6) (hS.at_ 2 rfl) rfl) rfl (aS (vs:=[_,_]) isAgg36 sizeOf36 rfl (aE.own (j:=0) (m:=2) (hS.at_ 1 rfl) rfl) rfl (cF (vs:=[_,_]) hS wC rfl (tK ds d ⟨s,st,sy,ra,rl,rc,rs⟩ c _ (hpi.below hS.below) (hcn.below hS.below)) rfl fun W4 hS=>aA rfl rfl (aQ (XF.thenN (joinF (fun l W=>∃ z:Int,l=[(3,.int .i64 n),(4,.pointer (some ⟨B1,0,none⟩)),(5,.pointer (some ⟨B2,0,none⟩)),(6,.pointer (some ⟨B3,0,none⟩)),(10,.int .i64 z)]∧z=(if stepE ⟨s,st,sy,ra,rl,rc,rs⟩ c=0 then stepE ⟨s,st,sy,ra,rl,rc,rs⟩ e else stepE ⟨s,st,sy,ra,rl,rc,rs⟩ c)∧St w [(B3,[.int .i64 e.p,.slice e.wa e.wl e.wc],36),(B2,[.int .i64 c.p,.slice c.wa c.wl c.wc],36),(B1,[.int .i64 s.f.tag,.int .i64 s.f.dim,.slice s.f.a s.f.len s.f.cap,.int .i64 st,.int .i64 sy,.slice ra rl rc],28)] [] [] W) ?_ ?_)))))))))))))
 ·clear hS
  rintro _ W ⟨z,rfl,hz,hS⟩
  refine aL (aL (aR (aG rfl rfl (dA rfl rfl rfl (aQ (XF.thenN (aZ rfl (fun hc=>?_) (fun hc=>?_))))))))
  ·have hc30:=of_decide_eq_true hc;clear hc
   refine aL (aR (aG rfl rfl (aA rfl rfl (aA rfl rfl (aQ (XF.thenN (bJ (XF.thenR (XF.res (rK results18 rfl rfl) (lM ?_ hS.below))))))))))
   by_cases h1:stepE ⟨s,st,sy,ra,rl,rc,rs⟩ c=0
   ·rw [if_pos h1] at hz;subst hz;exact Sb h1 hc30
   ·rw [if_neg h1] at hz;subst hz;exact G3 h1
  ·have hc30:=of_decide_eq_false hc;clear hc
   have hz0:z=0:=Decidable.of_not_not hc30
   have hc0:stepE ⟨s,st,sy,ra,rl,rc,rs⟩ c=0:=by
    by_cases h1:stepE ⟨s,st,sy,ra,rl,rc,rs⟩ c=0
    ·exact h1
    ·rw [if_neg h1] at hz;omega
   have he0:stepE ⟨s,st,sy,ra,rl,rc,rs⟩ e=0:=by rw [if_pos hc0] at hz;omega
   refine bG (XF.thenN (aL (aL (aR (aG rfl rfl (cN rfl rfl rfl (aG rfl rfl (bS (d:=34) rfl (fun hc=>?_) (fun hc=>?_)))))))))
   ·have hg34:=of_decide_eq_true hc;clear hc
    refine aF (d:=34) rfl rfl rfl rfl (aF (d:=34) rfl rfl rfl rfl (bC rfl rfl rfl (aQ (XF.thenN (dJ rfl (aL (aR (aA rfl rfl (aA rfl rfl (aQ (XF.thenN (bJ (XF.thenR (XF.res (rK results18 rfl rfl) ?_))))))))))))))
    exact lM (Lm hc0 he0 (.inl hg34)) hS.below
   ·have hg34:=of_decide_eq_false hc;clear hc
    refine aC (d:=34) rfl rfl (aG rfl rfl (aC (d:=34) rfl rfl (dM rfl rfl rfl (bV rfl rfl rfl (aQ (XF.thenN (aZ rfl (fun hc=>?_) (fun hc=>?_))))))))
    ·have hc37:=of_decide_eq_true hc;clear hc
     refine aL (aR (aA rfl rfl (aA rfl rfl (aQ (XF.thenN (bJ (XF.thenR (XF.res (rK results18 rfl rfl) ?_))))))))
     exact lM (Lm hc0 he0 (.inr (by omega))) hS.below
    ·have hc37:=of_decide_eq_false hc;clear hc
     refine bG (XF.thenN (aL (aL (aR (aG rfl rfl (dM rfl rfl rfl (aQ (XF.thenN (aZ rfl (fun hc=>?_) (fun hc=>?_))))))))))
     ·have hc39:=of_decide_eq_true hc;clear hc
      refine aL (aR (aA rfl rfl (aA rfl rfl (aQ (XF.thenN (bJ (XF.thenR (XF.res (rK results18 rfl rfl) ?_))))))))
      exact lM (runsF_m hc0 he0 ⟨by omega,by omega⟩ (by omega)) hS.below
     ·have hc39:=of_decide_eq_false hc;clear hc
      have hn0:0≤n:=by omega
      have hn12:n≤12:=by omega
      have hrdy:=hrd hc0
      rw [Sc hc0 he0 hn0 hn12]
      refine bG (XF.thenN (aL (aR (aP (o':=0) jE rfl rfl rfl (aS (vs:=[_,_,_]) isAgg25 sizeOf25 rfl (aE.own (j:=0) (m:=3) (hS.at_ 2 rfl) rfl) rfl ?_)))))
      have hsz10:=hS.below.size
      refine cO (vs:=[_]) hS goes_32 rfl (OneR_ok S s.f _ (hrdy.si.below hS.below) hrdy.ok) rfl ?_
      rintro e W5 ⟨f1,rfl,hn1,hb⟩
      refine ⟨_,rfl,hb,fun hS'=>?_⟩
      clear hS;have hS:=hS';clear hS'
      refine aG rfl rfl (bL rfl rfl rfl (bL rfl rfl rfl (bH (cs:=[_,_,_,_,_,_]) hS zeroValue53 rfl rfl fun B6 W6 hS=>aV (i:=0) (vs:=[_,_,_,_,_,_]) (cs':=[_,_,_,_,_,_]) (O':=[_,_,_,_]) hS sizeOf53 rfl rfl rfl rfl rfl rfl rfl fun W7 hS=>aA rfl rfl (aQ (XF.thenN (aL (aR (aS (vs:=[_,_]) isAgg36 sizeOf36 rfl (aE.own (j:=0) (m:=2) (hS.at_ 2 rfl) rfl) rfl (aS (vs:=[_,_,_,_,_,_]) isAgg53 sizeOf53 rfl (aE.own (j:=0) (m:=6) (hS.at_ 0 rfl) rfl) rfl (cS (us:=[(1,.agg (List.toArray [_,_])),(2,.agg (List.toArray [_,_,_,_,_,_]))]) rfl (Jj _ _ _ _ _ _ _ _) rfl (cU (us:=[(0,.agg (List.toArray [_,_,_,_,_,_,_,_,_]))]) hS underlying75 sizeOf79 zeroValue79 rfl rfl rfl (D7 _ _ _ _ _ _ _ _ _) rfl fun B8 W8 hS=>aA rfl rfl (aQ (XF.thenN (aL (aL ?_)))))))))))))))
      have hS:=hS.ownG9 (n:=1) (size:=9) rfl (by decide)
      refine aR (aA rfl rfl (aQ (XF.thenN (bM ?_))))
      refine dK (fun m l W=>∃ (i:Nat) (ks:List KR) (v:Value) (Kk:List (Nat×World)),i≤ks.length∧0 < ks.length∧ks.length≤10000∧m=10001 - i∧l=[(3,.int .i64 n),(4,.pointer (some ⟨B1,0,none⟩)),(5,.pointer (some ⟨B2,0,none⟩)),(6,.pointer (some ⟨B3,0,none⟩)),(13,v),(14,.int .i64 (i:Int))]∧vO (nxP rs) n.toNat (10001 - i) (ks.map KR.pl) i=iQ (nxP rs) n.toNat (c.p,c.ws)∧(∀ x∈ks,stepE ⟨s,st,sy,ra,rl,rc,rs⟩ x.c=0∧x.rs.length≤n.toNat)∧jJ w Kk (fun W2=>∀ x∈ks,KNew w.heap.size W2 S px rs c x)∧St w [(B3,[.int .i64 e.p,.slice e.wa e.wl e.wc],36),(B2,[.int .i64 c.p,.slice c.wa c.wl c.wc],36),(B1,[.int .i64 s.f.tag,.int .i64 s.f.dim,.slice s.f.a s.f.len s.f.cap,.int .i64 st,.int .i64 sy,.slice ra rl rc],28)] [⟨v,ks.length,ks.flatMap KR.c9,79,9⟩] Kk W) (10001 - 0) ([(3,_),(4,_),(5,_),(6,_),(13,_),(14,_)]) ⟨rfl,rfl,rfl,rfl,rfl,rfl,trivial⟩ (⟨0,[⟨none,0,[],c,f1⟩],_,_,Nat.zero_le _,(by show 0 < 1;decide),(by show 1≤10000;decide),rfl,rfl,rfl,(fun x hx=>by rw [List.mem_singleton] at hx;subst hx;exact ⟨hc0,Nat.zero_le _⟩),(fun h2 hk x hx=>by rw [List.mem_singleton] at hx;subst hx;exact ⟨World.ownsRow_nil _ _ _ _,.inl rfl,(hn1.agree (h2.kept (_,_) (hk _ List.mem_cons_self)).1).mono hsz10⟩),hS.tail⟩) ?_
      clear hS
      rintro m l W ⟨i,ks,v,Kk,hi,hpos,hmax,rfl,rfl,hrun,hpk,HK,hS⟩
      have hrw:W.ownsRow w.heap.size 79 9 v ks.length (ks.flatMap KR.c9):=hS.row 0 rfl
      obtain ⟨g9,q9,e9,_,_⟩:=hrw.form hpos
      subst e9
      refine aL (aL (aR (aG rfl rfl (aG rfl rfl (bX underlying75 rfl rfl (cN rfl rfl rfl (aQ (XF.thenN (aZ rfl (fun hc=>?_) (fun hc=>?_))))))))))
      ·have hc53:=of_decide_eq_true hc;clear hc
       obtain ⟨x,hx⟩:∃ x,ks[i]?=some x:=⟨ks[i]'(by omega),List.getElem?_eq_getElem _⟩
       have k9:aE W g9 (0+i * 9) x.c9:=by rw [Nat.zero_add];exact mV hrw hx
       obtain ⟨hx0,hxn⟩:=hpk x (List.mem_of_getElem? hx)
       refine bG (XF.thenN (aL (bM (aL (aL (aR (aG rfl rfl (aG rfl rfl (cK (j:=i) underlying75 sizeOf79 rfl rfl (rfl) (by omega) rfl rfl (aP D8 rfl (Nat.add_zero _) rfl (aT isAgg29 rfl (k9.1) rfl (bX underlying29 rfl rfl (aG rfl rfl (cM rfl rfl rfl (aQ (XF.thenN (aZ rfl (fun hc=>?_) (fun hc=>?_))))))))))))))))))
       ·have hc63:=of_decide_eq_true hc;clear hc
        refine dE (XF.thenX (XF.blkO rfl (XF.thenX (XF.thenX (XF.blkX (XF.thenN (aL ?_)))))))
        have hfin:iQ (nxP rs) n.toNat (c.p,c.ws)=(0,ks.map KR.pl):=by rw [← hrun];first | exact nD (by rw [List.length_map];omega) | exact lK (x:=x.pl) (by rw [List.getElem?_map,hx];rfl) (by show n.toNat≤x.rs.length;omega)
        rw [hfin]
        refine aR (aA rfl rfl (aQ (XF.thenN (aL (aL ?_)))))
        have hS:=hS.newG 79 9
        refine aR (aA rfl rfl (aQ (XF.thenN (bM (dK (fun m l W=>∃ (j:Nat) (ls:List KR) (u:Value) (K2:List (Nat×World)),j≤ks.length∧ls.length≤j∧m=ks.length - j∧l=[(4,.pointer (some ⟨B1,0,none⟩)),(5,.pointer (some ⟨B2,0,none⟩)),(6,.pointer (some ⟨B3,0,none⟩)),(13,.slice (some ⟨g9,0,none⟩) ks.length q9),(19,u),(20,.int .i64 (j:Int))]∧ls.map KR.pl=((ks.map KR.pl).take j).filter (fun x=>decide (x.2=(e.p,e.ws)))∧(∀ x∈ls,x∈ks)∧jJ w K2 (fun W2=>∀ x∈ks,KNew w.heap.size W2 S px rs c x)∧St w [(B3,[.int .i64 e.p,.slice e.wa e.wl e.wc],36),(B2,[.int .i64 c.p,.slice c.wa c.wl c.wc],36),(B1,[.int .i64 s.f.tag,.int .i64 s.f.dim,.slice s.f.a s.f.len s.f.cap,.int .i64 st,.int .i64 sy,.slice ra rl rc],28)] [⟨u,ls.length,ls.flatMap KR.c9,79,9⟩,⟨.slice (some ⟨g9,0,none⟩) ks.length q9,ks.length,ks.flatMap KR.c9,79,9⟩] K2 W) (ks.length - 0) ([(4,_),(5,_),(6,_),(13,_),(19,_),(20,_)]) ⟨rfl,rfl,rfl,rfl,rfl,rfl,trivial⟩ (⟨0,[],_,_,Nat.zero_le _,Nat.le_refl _,rfl,rfl,by simp,(fun x hx=>by cases hx),HK.more (fun q hq=>by simp [hq]),hS⟩) ?_)))))
        clear hS
        rintro m l W ⟨j,ls,u,K2,hj,hlj,rfl,rfl,hls,hsub,HK,hS⟩
        refine aL (aL (aR (aG rfl rfl (aG rfl rfl (bX underlying75 rfl rfl (cN rfl rfl rfl (aQ (XF.thenN (aZ rfl (fun hc=>?_) (fun hc=>?_))))))))))
        ·have hc128:=of_decide_eq_true hc;clear hc
         obtain ⟨x5,hx5⟩:∃ x,ks[j]?=some x:=⟨ks[j]'(by omega),List.getElem?_eq_getElem _⟩
         have k29:aE W g9 (0+j * 9) x5.c9:=by rw [Nat.zero_add];exact mV (hS.row 1 rfl) hx5
         have hOK5:=((HK hS (fun q hq=>hq) x5 (List.mem_of_getElem? hx5)).cin (hcn.below hS.below) hcc).1
         have hm5:x5.c.wl≤9223372036854775807:=by have:=(wL (hpk x5 (List.mem_of_getElem? hx5)).1).cw;omega
         have k29c:aE W g9 (0+j * 9+1) [.int .i64 x5.c.p,.slice x5.c.wa x5.c.wl x5.c.wc]:=⟨k29.2.1,k29.2.2.1,trivial⟩
         refine bG (XF.thenN (aL (bM (aL (iE (m:=7) cE hS (by kernel_rfl) (by kernel_rfl) rfl (cC 1 rfl 13 rfl rfl (fun w hw=>bE rfl) rfl (cC 2 rfl 20 rfl rfl (fun w hw=>bE rfl) rfl (aM 3 rfl (isV _) (aJ _) (rgV (li:=[(131,_),(132,_)]) rfl (aU rfl) ⟨aO 0 (aB rfl rfl rfl),aO 1 (aB rfl rfl rfl),trivial⟩ (fun w hw=>bB (j:=j) underlying75 sizeOf79 rfl rfl (rfl) (by omega) rfl) (aH rfl)) (aX 4 rfl 133 2 rfl rfl rfl (fun w hw=>aW D9 rfl rfl) rfl (aX 5 rfl 134 3 rfl rfl rfl (fun w hw=>bF (vs:=[_,_]) isAgg36 sizeOf36 rfl (aE.agree (aN hw 0) (Nat.zero_le _) (k29c))) rfl (cC 6 rfl 6 rfl rfl (fun w hw=>bF (vs:=[_,_]) isAgg36 sizeOf36 rfl (aE.agree (aN hw 0) (Nat.zero_le _) (aE.own (j:=0) (m:=2) (hS.at_ 0 rfl) rfl))) rfl ?_)))))))))))
         refine aM 7 rfl (isV (.bool (decide (x5.pl.2=(e.p,e.ws))))) (aJ _) (cV [isV _,isV _] rfl Lo (aU rfl) ⟨bZ (aO 4 (aB rfl rfl rfl)),bZ (aO 5 (aB rfl rfl rfl)),trivial⟩ (fun vs w2 hb hh=>by have e:=cB (us:=[_,_]) hh;subst e;exact vJ (hOK5.below hb) ((hen.below hS.below).below hb) hm5) (aH rfl)) ?_
         refine dC ?_
         intro W9 hbR hS'
         clear hS;have hS:=hS';clear hS'
         refine aI (aI (aI (aI (aI (aI (aI (cL (XF.thenN (aZ rfl (fun hc=>?_) (fun hc=>?_))))))))))
         ·have hc137:=hc;clear hc
          have k30:aE W9 g9 (0+j * 9) x5.c9:=by rw [Nat.zero_add];exact mV (hS.row 1 rfl) hx5
          have heq:x5.pl.2=(e.p,e.ws):=of_decide_eq_true hc137
          refine aR (aG rfl rfl (aG rfl rfl (aG rfl rfl (cK (j:=j) underlying75 sizeOf79 rfl rfl (rfl) (by omega) rfl rfl (aS (vs:=[_,_,_,_,_,_,_,_,_]) isAgg79 sizeOf79 rfl (k30) rfl (cU (us:=[(0,.agg (List.toArray [_,_,_,_,_,_,_,_,_]))]) hS underlying75 sizeOf79 zeroValue79 rfl rfl rfl (D7 _ _ _ _ _ _ _ _ _) rfl fun B10 W10 hS=>?_))))))
          refine iB (i:=0) (news:=[_,_,_,_,_,_,_,_,_]) hS underlying75 Jk rfl rfl (by show 0 < 9;decide) rfl rfl rfl rfl rfl (aE.own (j:=0) (m:=9) (hS.at_ 0 rfl) rfl) rfl rfl (by dsimp only;simp only [maxLen];omega) (by dsimp only;show _ * 152≤_;omega) rfl fun v11 W11 hS=>?_
          refine aA rfl rfl (aQ (XF.blkN (XF.thenN (aR (aG rfl rfl (cR rfl rfl (IntWalk.i64_in _ (by omega)) rfl (aA rfl rfl (aQ ?_))))))))
          exact XF.round (ks.length - (j+1)) [(4,_),(5,_),(6,_),(13,_),(19,_),(20,_)] (by omega) ⟨rfl,rfl,rfl,rfl,rfl,rfl,trivial⟩ ⟨j+1,ls++[x5],_,_,by omega,by rw [List.length_append];simp;omega,rfl,rfl,by rw [List.map_append,qP (x:=x5.pl) (by rw [List.getElem?_map,hx5];rfl),hls,if_pos heq];rfl,(fun z hz=>by
             rcases List.mem_append.1 hz with hz | hz
             ·exact hsub z hz
             ·rw [List.mem_singleton] at hz;subst hz;exact List.mem_of_getElem? hx5),HK.more (fun q hq=>by simp [hq]),hS.tail.castG (by simp)⟩
         ·have hc137:=hc;clear hc
          have hne:¬ x5.pl.2=(e.p,e.ws):=of_decide_eq_false hc137
          refine bG (XF.blkN (XF.thenN (aR (aG rfl rfl (cR rfl rfl (IntWalk.i64_in _ (by omega)) rfl (aA rfl rfl (aQ ?_)))))))
          exact XF.round (ks.length - (j+1)) [(4,_),(5,_),(6,_),(13,_),(19,_),(20,_)] (by omega) ⟨rfl,rfl,rfl,rfl,rfl,rfl,trivial⟩ ⟨j+1,ls,_,_,by omega,by omega,rfl,rfl,by rw [qP (x:=x5.pl) (by rw [List.getElem?_map,hx5];rfl),hls,if_neg hne,List.append_nil],hsub,HK.more (fun q hq=>by simp [hq]),hS⟩
        ·have hc128:=of_decide_eq_false hc;clear hc
         refine dE (XF.thenX (XF.thenX (XF.blkX (XF.thenN (aL (aR (aG rfl rfl (aA rfl rfl (aA rfl rfl (aQ (XF.thenN (bJ (XF.res (rK results18 rfl rfl) ?_)))))))))))))
         have hjl:j=ks.length:=by omega
         rw [hjl,List.take_of_length_le (by rw [List.length_map];exact Nat.le_refl _)] at hls
         exact ⟨hS.below,_,ls,rfl,hls,by omega,hS.row 0 rfl,fun x hx=>HK hS (fun q hq=>hq) x (hsub x hx)⟩
       ·have hc63:=of_decide_eq_false hc;clear hc
        have hlt:¬ n.toNat≤x.rs.length:=by omega
        refine bG (XF.thenN (aL ?_))
        have hS16:=hS
        refine Iu (al:=[]) (G:=fun _=>[⟨.slice (some ⟨g9,0,none⟩) ks.length q9,ks.length,ks.flatMap KR.c9,79,9⟩]) (E:=[]) (k:=13) (ds:=[17]) cE rfl hS rfl rfl (by kernel_rfl) (by kernel_rfl) rfl (by decide) rfl (aY 1 rfl (isV _) (syV bD [(4,_)] rfl rfl (fun _=>(aU rfl)) (fun _=>⟨cI rfl,trivial⟩) (fun s w hw=>bF (vs:=[_,_,_,_,_,_]) isAgg28 sizeOf28 rfl ((aE.own (j:=0) (m:=6) (hw.at_ 2 rfl) rfl))) (aH rfl)) (aY 2 rfl (isV _) (syV bD [(13,_)] rfl rfl (fun _=>(aU rfl)) (fun _=>⟨cI rfl,trivial⟩) (fun s w hw=>bE rfl) (aH rfl)) (aY 3 rfl (isV _) (syV bD [(14,_)] rfl rfl (fun _=>(aU rfl)) (fun _=>⟨cI rfl,trivial⟩) (fun s w hw=>bE rfl) (aH rfl)) (aY 4 rfl (isV _) (syV bD [(66,_),(67,_)] rfl rfl (fun _=>(aU rfl)) (fun _=>⟨aO 1 (dF rfl rfl (aB rfl rfl rfl)),aO 2 (dF rfl rfl (aB rfl rfl rfl)),trivial⟩) (fun s w hw=>bB (j:=i) underlying75 sizeOf79 rfl rfl (rfl) (by omega) rfl) (aH rfl)) (aY 5 rfl (isV _) (syV bD [(68,_)] rfl rfl (fun _=>(aU rfl)) (fun _=>⟨aO 3 (dF rfl rfl (aB rfl rfl rfl)),trivial⟩) (fun s w hw=>aW D9 rfl rfl) (aH rfl)) ?_)))))
        refine aY 6 rfl (isV _) (syV bD [(69,_)] rfl rfl (fun _=>(aU rfl)) (fun _=>⟨aO 4 (dF rfl rfl (aB rfl rfl rfl)),trivial⟩) (fun s w hw=>bF (vs:=[_,_]) isAgg36 sizeOf36 rfl (by have h:=mV (hw.row 0 rfl) hx;rw [Nat.zero_add];exact ⟨h.2.1,h.2.2.1,trivial⟩)) (aH rfl)) ?_
        refine aY 7 rfl (kK W.heap.size (nxP rs (x.c.p,x.c.ws))) (lF bD (fun s=>[isV _,isV _]) rfl rfl goes_33 (fun _=>aU rfl) (fun s=>⟨bZ (aO 0 (dF rfl rfl (aB rfl rfl rfl))),bZ (aO 5 (dF rfl rfl (aB rfl rfl rfl))),trivial⟩) (fun vs s w' hk hw hlo hh=>by have e:=cB (us:=[_,_]) hh;subst e;have hX9:=(HK hw (fun q hq=>hq) x (List.mem_of_getElem? hx)).cin (hcn.below hw.below) hcc;exact Rq hlo (nx_at hx0) (stNextR (c:=x.c) (hpi.below hw.below) hX9.1 hX9.2)) (aH rfl)) ?_
        refine aY 8 rfl (kK W.heap.size (nxP rs (x.c.p,x.c.ws))) (syP (q:=kK W.heap.size (nxP rs (x.c.p,x.c.ws))) 6 71 rfl rfl (by kernel_rfl) (aB rfl rfl rfl) qM (aH rfl)) (aY 9 rfl (dN W.heap.size (nxP rs (x.c.p,x.c.ws)).1) (syP (q:=dN W.heap.size (nxP rs (x.c.p,x.c.ws)).1) 7 64 rfl rfl (by kernel_rfl) (aB rfl rfl rfl) (gZ Rr) (aH rfl)) (aY 10 rfl (eF W.heap.size (nxP rs (x.c.p,x.c.ws)).1) (syP (q:=eF W.heap.size (nxP rs (x.c.p,x.c.ws)).1) 7 64 rfl rfl (by kernel_rfl) (aB rfl rfl rfl) (gZ Rs) (aH rfl)) (aY 11 rfl (isV (.int .i64 (nxP rs (x.c.p,x.c.ws)).2)) (syP (q:=isV (.int .i64 (nxP rs (x.c.p,x.c.ws)).2)) 7 64 rfl rfl (by kernel_rfl) (aB rfl rfl rfl) (gZ Rt) (aH rfl)) (aY 12 rfl (dN W.heap.size (nxP rs (x.c.p,x.c.ws)).1) (syP (q:=dN W.heap.size (nxP rs (x.c.p,x.c.ws)).1) 8 72 rfl rfl (by kernel_rfl) (aB rfl rfl rfl) iT (aH rfl)) (aY 13 rfl (eF W.heap.size (nxP rs (x.c.p,x.c.ws)).1) (syP (q:=eF W.heap.size (nxP rs (x.c.p,x.c.ws)).1) 9 73 rfl rfl (by kernel_rfl) (aB rfl rfl rfl) iT (aH rfl)) (oH ?_))))))
        intro s12 W12 Ks12 hall12 hsz12 hKs12 hS' hcov12 hfx12 hno12
        clear hS;have hS:=hS'.castO (O':=[_,_,_]) rfl;clear hS'
        refine nM (L':=[AwS _ _ (isV _),AwS _ _ (isV _),AwS _ _ (isV _),AwS _ _ (isV _),AwS _ _ (isV _),AwS _ _ (isV _),AwS _ _ (kK W.heap.size (nxP rs (x.c.p,x.c.ws))),AwS _ _ (kK W.heap.size (nxP rs (x.c.p,x.c.ws))),AwS _ _ (dN W.heap.size (nxP rs (x.c.p,x.c.ws)).1),AwS _ _ (eF W.heap.size (nxP rs (x.c.p,x.c.ws)).1),AwS _ _ (isV (.int .i64 (nxP rs (x.c.p,x.c.ws)).2)),AwS _ _ (dN W.heap.size (nxP rs (x.c.p,x.c.ws)).1),AwS _ _ (eF W.heap.size (nxP rs (x.c.p,x.c.ws)).1)]) rfl (bP (bP (bP (bP (bP (bP ?_))))))
        refine cW ?_;intro _ _
        refine cW ?_;intro _ _
        refine cW ?_;intro _ _
        refine cW ?_;intro _ _
        refine bP ?_
        refine cW ?_;intro v11 h11
        refine cW ?_;intro v12 h12
        obtain ⟨cs,hc1,hc2,hc3⟩:=h12.here
        obtain ⟨ca,cac,rfl,_⟩:=eC hc1
        obtain ⟨na,nac,rfl,_⟩:=eC h11.here
        have HC:jJ w Ks12 (fun W2=>dN W.heap.size (nxP rs (x.c.p,x.c.ws)).1 (.slice na (nxP rs (x.c.p,x.c.ws)).1.length nac) W2∧Dy W.heap.size (nxP rs (x.c.p,x.c.ws)).1 ca cac cs W2):=fun h2 hk=>by
         have ha:=lH (hcov12 h2 hk) (fun b hb hx=>absurd (Du hS16 hx) (by omega))
         exact ⟨lG h11.here ha,Dy.agree ⟨hc1,hc2,hc3⟩ ha⟩
        obtain ⟨lo9,hlo9⟩:∃ n,n=W.heap.size:=⟨_,rfl⟩
        have hlo9':w.heap.size≤lo9:=by rw [hlo9];exact hS16.below.size
        rw [← hlo9] at HC
        have hcn9:cs.length=(nxP rs (x.c.p,x.c.ws)).1.length:=by have h9:=congrArg List.length hc2;simpa using h9
        clear hc1 hc2 hc3 h11 h12
        refine cL (aA rfl rfl (aQ (XF.thenN (aL (aL (aR (aG rfl rfl (dA rfl rfl rfl (aQ (XF.thenN (aZ rfl (fun hc=>?_) (fun hc=>?_))))))))))))
        ·have hc76:=of_decide_eq_true hc;clear hc
         obtain ⟨f,hf⟩:∃ f,10001 - i=f+1:=⟨10000 - i,by omega⟩
         rw [hf,sT (x:=x.pl) (by rw [List.getElem?_map,hx];rfl) hlt hc76] at hrun
         refine aL (aR (aG rfl rfl (aA rfl rfl (aA rfl rfl (aQ (XF.thenN (bJ (XF.thenR (XF.blkR (XF.thenR (XF.thenR (XF.blkR (XF.thenR (XF.res (rK results18 rfl rfl) ?_))))))))))))))
         exact lM (by rw [← hrun];exact if_pos hc76) hS.below
        ·have hc76:=of_decide_eq_false hc;clear hc
         refine bG (XF.thenN (aL (aR (aA rfl rfl (aQ (XF.thenN (bM (dK (fun m l W=>∃ (k:Nat) (k2:List KR) (v2:Value) (K2:List (Nat×World)),k≤(nxP rs (x.c.p,x.c.ws)).1.length∧k2.length=ks.length+k∧k2.length≤10000∧m=(nxP rs (x.c.p,x.c.ws)).1.length - k∧l=[(3,.int .i64 n),(4,.pointer (some ⟨B1,0,none⟩)),(5,.pointer (some ⟨B2,0,none⟩)),(6,.pointer (some ⟨B3,0,none⟩)),(13,v2),(14,.int .i64 (i:Int)),(15,.slice na (nxP rs (x.c.p,x.c.ws)).1.length nac),(16,.slice ca cs.length cac),(18,.int .i64 (k:Int))]∧k2.map KR.pl=ks.map KR.pl++((nxP rs (x.c.p,x.c.ws)).1.take k).map (qX x.pl)∧(∀ x∈k2,stepE ⟨s,st,sy,ra,rl,rc,rs⟩ x.c=0∧x.rs.length≤n.toNat)∧k2[i]?=some x∧jJ w K2 (fun W2=>dN lo9 (nxP rs (x.c.p,x.c.ws)).1 (.slice na (nxP rs (x.c.p,x.c.ws)).1.length nac) W2∧Dy lo9 (nxP rs (x.c.p,x.c.ws)).1 ca cac cs W2)∧jJ w K2 (fun W2=>∀ x∈k2,KNew w.heap.size W2 S px rs c x)∧St w [(B3,[.int .i64 e.p,.slice e.wa e.wl e.wc],36),(B2,[.int .i64 c.p,.slice c.wa c.wl c.wc],36),(B1,[.int .i64 s.f.tag,.int .i64 s.f.dim,.slice s.f.a s.f.len s.f.cap,.int .i64 st,.int .i64 sy,.slice ra rl rc],28)] [⟨v2,k2.length,k2.flatMap KR.c9,79,9⟩] K2 W) ((nxP rs (x.c.p,x.c.ws)).1.length - 0) ([(3,_),(4,_),(5,_),(6,_),(13,_),(14,_),(15,_),(16,_),(18,_)]) ⟨rfl,rfl,rfl,rfl,rfl,rfl,rfl,rfl,rfl,trivial⟩ (⟨0,ks,_,_,Nat.zero_le _,rfl,hmax,rfl,rfl,by simp,hpk,hx,HC.more (fun q hq=>by simp [hq]),HK.more (fun q hq=>by simp [hq]),hS⟩) ?_))))))))
         clear hS
         clear hrw k9 hS16 HC HK;rintro m l W ⟨k,k2,v2,K2,hk0,hlen2,hmax2,rfl,rfl,hpl2,hpk2,hx2,HC,HK,hS⟩
         refine aL (aL (aR (aG rfl rfl (aG rfl rfl (bX underlying29 rfl rfl (cN rfl rfl rfl (aQ (XF.thenN (aZ rfl (fun hc=>?_) (fun hc=>?_))))))))))
         ·have hc81:=of_decide_eq_true hc;clear hc
          have hk:k < (nxP rs (x.c.p,x.c.ws)).1.length:=by omega
          obtain ⟨c1,hc1⟩:∃ c1,cs[k]?=some c1:=⟨cs[k],List.getElem?_eq_getElem (by omega)⟩
          obtain ⟨y,hy⟩:∃ y,(nxP rs (x.c.p,x.c.ws)).1[k]?=some y:=⟨(nxP rs (x.c.p,x.c.ws)).1[k],List.getElem?_eq_getElem (by omega)⟩
          have hCW:=(HC.now hS).2
          have hyc:c1.pl=y.2:=by
           have h9:=congrArg (fun l=>l[k]?) hCW.2.1
           simp only [List.getElem?_map,hc1,hy,Option.map_some] at h9
           exact Option.some.inj h9
          obtain ⟨cb,d9,ec,_,_⟩:=hCW.1.form (show 0 < cs.length by omega)
          injection ec with ec1 ec2 ec3
          subst ec1;subst ec3
          have hrw2:W.ownsRow w.heap.size 79 9 v2 k2.length (k2.flatMap KR.c9):=hS.row 0 rfl
          obtain ⟨g2,d2,e2,_,_⟩:=hrw2.form (show 0 < k2.length by omega)
          subst e2
          obtain ⟨nb,d8,en,hn1,_⟩:=World.ownsRow.form (show W.ownsRow lo9 3 1 (.slice na (nxP rs (x.c.p,x.c.ws)).1.length nac) (nxP rs (x.c.p,x.c.ws)).1.length (((nxP rs (x.c.p,x.c.ws)).1.map (·.1)).map (Value.int .i64)) from (HC.now hS).1) (show 0 < (nxP rs (x.c.p,x.c.ws)).1.length by omega)
          injection en with en1 en2 en3
          subst en1;subst en3
          obtain ⟨l9,hl9,hyl9⟩:=Dz hy
          obtain ⟨yn,ry,hyn,ey,hya,hyl⟩:=pT hl9 y hyl9
          rw [Nat.zero_add] at ey
          have hry:=List.mem_of_getElem? hyn
          have hC9:=hCW.2.2 c1 (List.mem_of_getElem? hc1)
          have hv9:stepE ⟨s,st,sy,ra,rl,rc,rs⟩ c1=0:=yS hx0 hl9 hyl9 (fun r hr=>(hin r hr).len) hyc hC9.2
          subst ey
          obtain ⟨rb,ro,hra,hrt⟩:=hrow.at_ hyn
          have hynl:yn < rl:=by have:=(List.getElem?_eq_some_iff.1 hyn).1;omega
          subst hra
          clear hCW
          refine bG (XF.thenN (aL (bM (aL ?_))))
          have hS22:=hS
          have hsz22:=hS.below.size
          refine Iu (al:=[]) (G:=Je ([⟨.slice (some ⟨g2,0,none⟩) k2.length d2,k2.length,k2.flatMap KR.c9,79,9⟩]) 3 1 13 [(7,0+x.rs.length,[]++x.rs.map (Value.int .i64)),(1,0,[])]) (E:=[1,7,13]) (k:=37) (ds:=[13,121]) cE rfl hS rfl rfl (by kernel_rfl) (by kernel_rfl) rfl (by decide) rfl (aY 1 rfl (isV _) (syV bD [(13,_)] rfl rfl (fun _=>(aU rfl)) (fun _=>⟨cI rfl,trivial⟩) (fun s w hw=>bE rfl) (aH rfl)) ?_)
          refine aY 2 rfl (pU W.heap.size) (Jf rfl rfl underlying29 sizeOf3 rfl rfl (fun s v hk=>by rw [qO ((mS _ _ (by decide)).trans (hk.no 13 (by kernel_rfl))),yH ((mS _ _ (by decide)).trans (hk.no 7 (by kernel_rfl))),yG (pM _ _ _),qO (hk.no 13 (by kernel_rfl)),yH (hk.no 7 (by kernel_rfl)),yH hk.self];rfl) (aH rfl)) ?_
          refine aY 3 rfl (isV _) (syV bD [(13,_)] rfl rfl (fun _=>(aU rfl)) (fun _=>⟨cI rfl,trivial⟩) (fun s w hw=>bE rfl) (aH rfl)) (aY 4 rfl (isV _) (syV bD [(14,_)] rfl rfl (fun _=>(aU rfl)) (fun _=>⟨cI rfl,trivial⟩) (fun s w hw=>bE rfl) (aH rfl)) (aY 5 rfl (isV _) (syV bD [(86,_),(87,_)] rfl rfl (fun _=>(aU rfl)) (fun _=>⟨aO 2 (dF rfl rfl (aB rfl rfl rfl)),aO 3 (dF rfl rfl (aB rfl rfl rfl)),trivial⟩) (fun s w hw=>bB (j:=i) underlying75 sizeOf79 rfl rfl (rfl) (by omega) rfl) (aH rfl)) (aY 6 rfl (isV _) (syV bD [(88,_)] rfl rfl (fun _=>(aU rfl)) (fun _=>⟨aO 4 (dF rfl rfl (aB rfl rfl rfl)),trivial⟩) (fun s w hw=>aW D8 rfl (Nat.add_zero _)) (aH rfl)) ?_)))
          refine aY 7 rfl (isV (.slice x.a x.rs.length x.rc)) (syV bD [(89,_)] rfl rfl (fun _=>(aU rfl)) (fun _=>⟨aO 5 (dF rfl rfl (aB rfl rfl rfl)),trivial⟩) (fun s w hw=>bA isAgg29 rfl (by have h:=mV ((A6 hw).row 0 rfl) hx2;rw [Nat.zero_add];exact h.1)) (aH rfl)) ?_
          refine aY 8 rfl (pU W.heap.size) (sy_appG (tx:=85) (j0:=1) (gi:=0) (news:=x.rs.map (Value.int .i64)) bD [(90,_)] rfl rfl underlying29 qZ rfl rfl (by show 0 < 1;decide) rfl rfl (by kernel_rfl) (fun _=>⟨aO 6 (dF rfl rfl (aB rfl rfl rfl)),trivial⟩) rfl rfl rfl (fun s v0 hk h0=>⟨by rw [qO (hk.no 13 (by kernel_rfl)),yH hk.self,yG h0];rfl,fun v=>by rw [qO ((mS _ _ (by decide)).trans (hk.no 13 (by kernel_rfl))),yG (pM _ _ _),qO (hk.no 13 (by kernel_rfl)),yH hk.self,yG h0];rfl⟩) (fun s w hw=>Row.app (HK hw (fun q hq=>hq) x (List.mem_of_getElem? hx2)).r.row rfl) (by show (x.rs.map (Value.int .i64)).length=x.rs.length * 1;simp) (tP x.rs) (by simp only [maxLen];omega) (by show (0+x.rs.length) * 8≤_;omega) (aB rfl rfl rfl) (aH rfl)) ?_
          refine aY 9 rfl (isV _) (syV bD [(15,_)] rfl rfl (fun _=>(aU rfl)) (fun _=>⟨cI rfl,trivial⟩) (fun s w hw=>bE rfl) (aH rfl)) (aY 10 rfl (isV _) (syV bD [(18,_)] rfl rfl (fun _=>(aU rfl)) (fun _=>⟨cI rfl,trivial⟩) (fun s w hw=>bE rfl) (aH rfl)) (aY 11 rfl (isV _) (syV bD [(92,_),(93,_)] rfl rfl (fun _=>(aU rfl)) (fun _=>⟨aO 8 (dF rfl rfl (aB rfl rfl rfl)),aO 9 (dF rfl rfl (aB rfl rfl rfl)),trivial⟩) (fun s w hw=>bB (j:=k) underlying29 sizeOf3 rfl rfl (rfl) (by omega) rfl) (aH rfl)) (aY 12 rfl (isV (.int .i64 (yn:Int))) (syV bD [(94,_)] rfl rfl (fun _=>(aU rfl)) (fun _=>⟨aO 10 (dF rfl rfl (aB rfl rfl rfl)),trivial⟩) (fun s w hw=>bA isAgg3 rfl (A7 (HC hw (fun q hq=>hq)).1 hy)) (aH rfl)) (aY 13 rfl (gR W.heap.size 1 3 _) (sy_rowV bD (us:=[.int .i64 _]) rfl rfl (fun _=>(aU rfl)) underlying29 sizeOf3 zeroValue3 rfl rfl (fun _=>⟨bZ (aO 11 (dF rfl rfl (aB rfl rfl rfl))),trivial⟩) (qI _) (aH rfl)) ?_))))
          refine aY 14 rfl (jL W.heap.size (x.rs++[(yn:Int)])) (R4 (tx:=91) (tyy:=96) (j0:=7) (jy:=12) (m:=1) (news:=[.int .i64 (yn:Int)]) rfl rfl underlying29 qZ rfl rfl (by show 0 < 1;decide) rfl rfl (by kernel_rfl) (by kernel_rfl) (aB rfl rfl rfl) rfl rfl (fun s v0 hk h0=>⟨[⟨.slice (some ⟨g2,0,none⟩) k2.length d2,k2.length,k2.flatMap KR.c9,79,9⟩],by rw [qO hk.self,yG h0]<;>rfl,fun v=>by rw [D4 (pM _ _ _)]⟩) (Sh) (rfl) (by intro u hu;simp at hu;subst hu;rfl) (by simp only [maxLen];omega) (by show (0+x.rs.length+1) * 8≤_;omega) (aB rfl rfl rfl) (app_of9) (aH rfl)) ?_
          refine aY 15 rfl (isV _) (syV bD [(16,_)] rfl rfl (fun _=>(aU rfl)) (fun _=>⟨cI rfl,trivial⟩) (fun s w hw=>bE rfl) (aH rfl)) (aY 16 rfl (isV _) (syV bD [(18,_)] rfl rfl (fun _=>(aU rfl)) (fun _=>⟨cI rfl,trivial⟩) (fun s w hw=>bE rfl) (aH rfl)) (aY 17 rfl (isV _) (syV bD [(98,_),(99,_)] rfl rfl (fun _=>(aU rfl)) (fun _=>⟨aO 14 (dF rfl rfl (aB rfl rfl rfl)),aO 15 (dF rfl rfl (aB rfl rfl rfl)),trivial⟩) (fun s w hw=>bB (j:=k) underlying71 sizeOf36 rfl rfl (rfl) (by omega) rfl) (aH rfl)) ?_))
          refine aY 18 rfl (isV (.agg #[.int .i64 c1.p,.slice c1.wa c1.wl c1.wc])) (syV bD [(100,_)] rfl rfl (fun _=>(aU rfl)) (fun _=>⟨aO 16 (dF rfl rfl (aB rfl rfl rfl)),trivial⟩) (fun s w hw=>bF (vs:=[_,_]) isAgg36 sizeOf36 rfl (by have h:=Rx (HC hw (fun q hq=>hq)).2.1 hc1;rw [Nat.zero_add];exact h)) (aH rfl)) ?_
          refine aY 19 rfl (isV _) (syV bD [(4,_)] rfl rfl (fun _=>(aU rfl)) (fun _=>⟨cI rfl,trivial⟩) (fun s w hw=>aW (o':=0) jE rfl rfl) (aH rfl)) (aY 20 rfl (isV _) (syV bD [(102,_)] rfl rfl (fun _=>(aU rfl)) (fun _=>⟨aO 18 (dF rfl rfl (aB rfl rfl rfl)),trivial⟩) (fun s w hw=>bF (vs:=[_,_,_]) isAgg25 sizeOf25 rfl ((aE.own (j:=0) (m:=3) (hw.at_ 2 rfl) rfl))) (aH rfl)) (aY 21 rfl (isV _) (syV bD [(13,_)] rfl rfl (fun _=>(aU rfl)) (fun _=>⟨cI rfl,trivial⟩) (fun s w hw=>bE rfl) (aH rfl)) (aY 22 rfl (isV _) (syV bD [(14,_)] rfl rfl (fun _=>(aU rfl)) (fun _=>⟨cI rfl,trivial⟩) (fun s w hw=>bE rfl) (aH rfl)) (aY 23 rfl (isV _) (syV bD [(104,_),(105,_)] rfl rfl (fun _=>(aU rfl)) (fun _=>⟨aO 20 (dF rfl rfl (aB rfl rfl rfl)),aO 21 (dF rfl rfl (aB rfl rfl rfl)),trivial⟩) (fun s w hw=>bB (j:=i) underlying75 sizeOf79 rfl rfl (rfl) (by omega) rfl) (aH rfl)) (aY 24 rfl (isV _) (syV bD [(106,_)] rfl rfl (fun _=>(aU rfl)) (fun _=>⟨aO 22 (dF rfl rfl (aB rfl rfl rfl)),trivial⟩) (fun s w hw=>aW Ln rfl rfl) (aH rfl)) ?_)))))
          refine aY 25 rfl (isV x.f.val) (syV bD [(107,_)] rfl rfl (fun _=>(aU rfl)) (fun _=>⟨aO 23 (dF rfl rfl (aB rfl rfl rfl)),trivial⟩) (fun s w hw=>bF (vs:=x.f.six) isAgg53 sizeOf53 rfl (by have h:=mV ((A6 hw).row 0 rfl) hx2;rw [Nat.zero_add];exact h.2.2.2)) (aH rfl)) ?_
          refine aY 26 rfl (isV _) (syV bD [(4,_)] rfl rfl (fun _=>(aU rfl)) (fun _=>⟨cI rfl,trivial⟩) (fun s w hw=>aW (o':=5) eX rfl rfl) (aH rfl)) (aY 27 rfl (isV _) (syV bD [(109,_)] rfl rfl (fun _=>(aU rfl)) (fun _=>⟨aO 25 (dF rfl rfl (aB rfl rfl rfl)),trivial⟩) (fun s w hw=>bA isAgg26 rfl ((aK (hw.at_ 2 rfl) rfl))) (aH rfl)) (aY 28 rfl (isV _) (syV bD [(15,_)] rfl rfl (fun _=>(aU rfl)) (fun _=>⟨cI rfl,trivial⟩) (fun s w hw=>bE rfl) (aH rfl)) (aY 29 rfl (isV _) (syV bD [(18,_)] rfl rfl (fun _=>(aU rfl)) (fun _=>⟨cI rfl,trivial⟩) (fun s w hw=>bE rfl) (aH rfl)) (aY 30 rfl (isV _) (syV bD [(111,_),(112,_)] rfl rfl (fun _=>(aU rfl)) (fun _=>⟨aO 27 (dF rfl rfl (aB rfl rfl rfl)),aO 28 (dF rfl rfl (aB rfl rfl rfl)),trivial⟩) (fun s w hw=>bB (j:=k) underlying29 sizeOf3 rfl rfl (rfl) (by omega) rfl) (aH rfl)) (aY 31 rfl (isV (.int .i64 (yn:Int))) (syV bD [(113,_)] rfl rfl (fun _=>(aU rfl)) (fun _=>⟨aO 29 (dF rfl rfl (aB rfl rfl rfl)),trivial⟩) (fun s w hw=>bA isAgg3 rfl (A7 (HC hw (fun q hq=>hq)).1 hy)) (aH rfl)) (aY 32 rfl (isV _) (syV bD [(110,_),(114,_)] rfl rfl (fun _=>(aU rfl)) (fun _=>⟨aO 26 (dF rfl rfl (aB rfl rfl rfl)),aO 30 (dF rfl rfl (aB rfl rfl rfl)),trivial⟩) (fun s w hw=>bB (j:=yn) underlying26 sizeOf62 rfl rfl (rfl) (by omega) rfl) (aH rfl)) (aY 33 rfl (isV _) (syV bD [(115,_)] rfl rfl (fun _=>(aU rfl)) (fun _=>⟨aO 31 (dF rfl rfl (aB rfl rfl rfl)),trivial⟩) (fun s w hw=>aW tG rfl rfl) (aH rfl)) (aY 34 rfl (isV _) (syV bD [(116,_)] rfl rfl (fun _=>(aU rfl)) (fun _=>⟨aO 32 (dF rfl rfl (aB rfl rfl rfl)),trivial⟩) (fun s w hw=>bF (vs:=[_,_,_,_,_,_]) isAgg53 sizeOf53 rfl (aE.agree hw.agree (Nat.zero_le _) (hrt.2.2.2.2))) (aH rfl)) ?_))))))))
          refine aY 35 rfl (dP W.heap.size S (kO S (gD S px rs x.rs) (px ry))) (lF bD (fun s=>[isV _,isV _,isV _]) rfl rfl Cv (fun _=>aU rfl) (fun s=>⟨bZ (aO 19 (dF rfl rfl (aB rfl rfl rfl))),bZ (aO 24 (dF rfl rfl (aB rfl rfl rfl))),bZ (aO 33 (dF rfl rfl (aB rfl rfl rfl))),trivial⟩) (fun vs s w' hk hw hlo hh=>by have e:=cB (us:=[_,_,_]) hh;subst e;exact yE hlo (Rm (hrdy.si.below hw.below) hrdy.ok (HK hw (fun q hq=>hq) x (List.mem_of_getElem? hx2)).x.is ((hrdy.x ry hry).below hw.below))) (aH rfl)) ?_
          refine aY 36 rfl (uT W.heap.size (x.rs++[(yn:Int)]) c1 S (kO S (gD S px rs x.rs) (px ry))) (syPs [(13,97,jL W.heap.size (x.rs++[(yn:Int)])),(17,101,isV _),(34,118,dP W.heap.size S (kO S (gD S px rs x.rs) (px ry)))] rfl rfl ⟨⟨by kernel_rfl,aB rfl rfl rfl⟩,⟨by kernel_rfl,aB rfl rfl rfl⟩,⟨by kernel_rfl,aB rfl rfl rfl⟩,trivial⟩ Se (aH rfl)) ?_
          refine aY 37 rfl (zB W.heap.size (x.rs++[(yn:Int)]) c1 S (kO S (gD S px rs x.rs) (px ry))) (syNews [(35,119,uT W.heap.size (x.rs++[(yn:Int)]) c1 S (kO S (gD S px rs x.rs) (px ry)))] rfl rfl ⟨⟨by kernel_rfl,aB rfl rfl rfl⟩,trivial⟩ (Nu underlying75 sizeOf79 zeroValue79 rfl rfl Sf) (aH rfl)) ?_
          refine oH ?_
          intro s13 W13 Ks13 hall13 hsz13 hKs13 hS' hcov13 hfx13 hno13
          obtain ⟨v13_1,h13_1⟩:=hall13 1 rfl
          obtain ⟨v13_7,h13_7⟩:=hall13 7 rfl
          obtain ⟨v13_13,h13_13⟩:=hall13 13 rfl
          clear hS;have hS:=hS'.castO (O':=[_,_,_]) rfl;clear hS'
          have hS:=hS.castG (D4 h13_13)
          have hAG:∀ {O2:Own} {G2:cY} {K3:List (Nat×World)} {W2:World},St w O2 G2 K3 W2→(∀ q∈Ks13,q∈K3)→dD W.heap.size W13 W2:=fun h2 hk=>lH (hcov13 h2 hk) (fun b hb hx=>absurd (Du hS22 (by rw [D4 h13_13] at hx;exact hx)) (by omega))
          refine nM (L':=[AwS _ _ (isV _),isE s13 1,AwS _ _ (isV _),AwS _ _ (isV _),AwS _ _ (isV _),AwS _ _ (isV _),AwS _ _ (isV (.slice x.a x.rs.length x.rc)),isE s13 7,AwS _ _ (isV _),AwS _ _ (isV _),AwS _ _ (isV _),AwS _ _ (isV (.int .i64 (yn:Int))),AwS _ _ (gR W.heap.size 1 3 _),isE s13 13,AwS _ _ (isV _),AwS _ _ (isV _),AwS _ _ (isV _),AwS _ _ (isV (.agg #[.int .i64 c1.p,.slice c1.wa c1.wl c1.wc])),AwS _ _ (isV _),AwS _ _ (isV _),AwS _ _ (isV _),AwS _ _ (isV _),AwS _ _ (isV _),AwS _ _ (isV _),AwS _ _ (isV x.f.val),AwS _ _ (isV _),AwS _ _ (isV _),AwS _ _ (isV _),AwS _ _ (isV _),AwS _ _ (isV _),AwS _ _ (isV (.int .i64 (yn:Int))),AwS _ _ (isV _),AwS _ _ (isV _),AwS _ _ (isV _),AwS _ _ (dP W.heap.size S (kO S (gD S px rs x.rs) (px ry))),AwS _ _ (uT W.heap.size (x.rs++[(yn:Int)]) c1 S (kO S (gD S px rs x.rs) (px ry))),AwS _ _ (zB W.heap.size (x.rs++[(yn:Int)]) c1 S (kO S (gD S px rs x.rs) (px ry)))]) rfl (bP ?_)
          refine cW ?_;intro u hu;obtain rfl:=Option.some.inj (h13_1.symm.trans hu);clear hu
          refine bP (bP (bP (bP (bP ?_))))
          refine cW ?_;intro u hu;obtain rfl:=Option.some.inj (h13_7.symm.trans hu);clear hu
          refine bP (bP (bP (bP ?_)))
          refine cW ?_;intro _ _
          refine cW ?_;intro u hu;obtain rfl:=Option.some.inj (h13_13.symm.trans hu);clear hu
          refine bP (bP (bP (bP (bP (bP (bP (bP (bP (bP (bP (bP (bP (bP (bP (bP (bP (bP (bP (bP ?_)))))))))))))))))))
          refine cW ?_;intro _ _
          refine cW ?_;intro _ _
          refine cW ?_;rintro vR hR;obtain ⟨BR,ar,rc9,f9,rfl,hRB,hRn,hRx⟩:=hR.here
          have HR:jJ w Ks13 (fun W2=>fT w.heap.size W2 ar rc9 (x.rs++[(yn:Int)])∧jM w.heap.size W2 S f9 (kO S (gD S px rs x.rs) (px ry))):=fun h2 hk=>⟨(hRn.agree (hAG h2 hk)).mono hsz22,(hRx.agree (hAG h2 hk)).mono hsz22⟩
          clear hAG hRn hRx hR hS22
          refine cL ?_
          refine iO (i:=0) (news:=(KR.c9 ⟨ar,rc9,(x.rs++[(yn:Int)]),c1,f9⟩)) hS underlying75 Jk rfl rfl (by show 0 < 9;decide) rfl rfl rfl rfl rfl (.inr ⟨_,rfl,fun j u hj=>by rw [Addr.add_lit,Nat.zero_add];exact aK hRB hj⟩) (rfl) (by intro u hu;simp at hu;rcases hu with rfl | rfl | rfl | rfl | rfl | rfl | rfl | rfl | rfl<;>rfl) (by dsimp only;simp only [maxLen];omega) (by dsimp only;show _ * 152≤_;omega) rfl fun v14 W14 hS=>?_
          refine aA rfl rfl (aQ (XF.thenN (aL ?_)))
          obtain ⟨g3,q3,e3,_,_⟩:=(show W14.ownsRow w.heap.size 79 9 _ (k2.length+1) _ from hS.row 0 rfl).form (Nat.succ_pos _)
          subst e3
          refine aR (aG rfl rfl (bX underlying75 rfl rfl (dM rfl rfl rfl (aQ (XF.thenN (aZ rfl (fun hc=>?_) (fun hc=>?_)))))))
          ·have hc124:=of_decide_eq_true hc;clear hc
           obtain ⟨f,hf⟩:∃ f,10001 - i=f+1:=⟨10000 - i,by omega⟩
           rw [hf,qF (x:=x.pl) (by rw [List.getElem?_map,hx];rfl) hlt (fun h=>hc76 h) (by rw [List.length_map];show 10000 < ks.length+(nxP rs (x.c.p,x.c.ws)).1.length;omega)] at hrun
           refine aL (aR (aA rfl rfl (aA rfl rfl (aQ (XF.thenN (bJ (XF.blkR (XF.thenR (XF.thenR (XF.blkR (XF.blkR (XF.thenR (XF.thenR (XF.blkR (XF.thenR (XF.res (rK results18 rfl rfl) ?_))))))))))))))))
           exact lM (by rw [← hrun];rfl) hS.below
          ·have hc124:=of_decide_eq_false hc;clear hc
           refine bG (XF.blkN (XF.thenN (aR (aG rfl rfl (cR rfl rfl (IntWalk.i64_in _ (by omega)) rfl (aA rfl rfl (aQ ?_)))))))
           have hnew:KR.pl ⟨ar,rc9,(x.rs++[(yn:Int)]),c1,f9⟩=qX x.pl ((yn:Int),ry.q,ry.ws++x.c.ws.tail):=by
            show ((x.rs++[(yn:Int)]),c1.pl)=((x.rs++[(yn:Int)]),_)
            rw [hyc]
           exact XF.round ((nxP rs (x.c.p,x.c.ws)).1.length - (k+1)) [(3,_),(4,_),(5,_),(6,_),(13,_),(14,_),(15,_),(16,_),(18,_)] (by omega) ⟨rfl,rfl,rfl,rfl,rfl,rfl,rfl,rfl,rfl,trivial⟩ ⟨k+1,k2++[⟨ar,rc9,(x.rs++[(yn:Int)]),c1,f9⟩],_,_,by omega,by rw [List.length_append,hlen2];simp;omega,by rw [List.length_append];simp;omega,rfl,rfl,by rw [List.map_append,hpl2,List.take_add_one,hy,List.map_append,List.append_assoc];show _++(_++[KR.pl _])=_++(_++[qX _ _]);rw [hnew],(fun z hz=>by
             rcases List.mem_append.1 hz with hz | hz
             ·exact hpk2 z hz
             ·rw [List.mem_singleton] at hz;subst hz;exact ⟨hv9,by show (x.rs++[(yn:Int)]).length≤n.toNat;rw [List.length_append];simp;omega⟩),by rw [List.getElem?_append_left (by omega)];exact hx2,HC.more (fun q hq=>by simp [hq]),(fun h2 hk z hz=>by
             rcases List.mem_append.1 hz with hz | hz
             ·exact HK h2 (fun q hq=>hk q (by simp [hq])) z hz
             ·rw [List.mem_singleton] at hz;subst hz
              have hC:=(HC h2 (fun q hq=>hk q (by simp [hq]))).2.2.2 c1 (List.mem_of_getElem? hc1)
              obtain ⟨hR1,hR2⟩:=HR h2 (fun q hq=>hk q (by simp [hq]))
              exact ⟨hR1,.inr ⟨hC.1.mono hlo9',hC.2⟩,by show jM _ _ S f9 (gD S px rs (x.rs++[(yn:Int)]));rw [A4 hyn];exact hR2⟩),hS.castG (by simp)⟩
         ·have hc81:=of_decide_eq_false hc;clear hc
          have ek:k=(nxP rs (x.c.p,x.c.ws)).1.length:=by omega
          rw [ek,List.take_of_length_le (Nat.le_refl _)] at hpl2
          obtain ⟨f,hf⟩:∃ f,10001 - i=f+1:=⟨10000 - i,by omega⟩
          have ef:f=10001 - (i+1):=by omega
          rw [hf,qG (x:=x.pl) (by rw [List.getElem?_map,hx];rfl) hlt (fun h=>hc76 h) (by rw [List.length_map];show ¬ 10000 < ks.length+(nxP rs (x.c.p,x.c.ws)).1.length;omega),ef] at hrun
          refine dE (XF.thenX (XF.thenX (XF.blkX (XF.blkN (XF.thenN (aR (aG rfl rfl (cR rfl rfl (IntWalk.i64_in _ (by omega)) rfl (aA rfl rfl (aQ ?_))))))))))
          exact XF.round (10001 - (i+1)) [(3,_),(4,_),(5,_),(6,_),(13,_),(14,_)] (by omega) ⟨rfl,rfl,rfl,rfl,rfl,rfl,trivial⟩ ⟨i+1,k2,_,_,by omega,by omega,hmax2,rfl,rfl,by rw [hpl2];exact hrun,hpk2,HK,hS⟩
      ·have hc53:=of_decide_eq_false hc;clear hc
       refine dE (XF.thenX (XF.thenX (XF.blkX (XF.thenN (aL ?_)))))
       have hfin:iQ (nxP rs) n.toNat (c.p,c.ws)=(0,ks.map KR.pl):=by rw [← hrun];first | exact nD (by rw [List.length_map];omega) | exact lK (x:=x.pl) (by rw [List.getElem?_map,hx];rfl) (by show n.toNat≤x.rs.length;omega)
       rw [hfin]
       refine aR (aA rfl rfl (aQ (XF.thenN (aL (aL ?_)))))
       have hS:=hS.newG 79 9
       refine aR (aA rfl rfl (aQ (XF.thenN (bM (dK (fun m l W=>∃ (j:Nat) (ls:List KR) (u:Value) (K2:List (Nat×World)),j≤ks.length∧ls.length≤j∧m=ks.length - j∧l=[(4,.pointer (some ⟨B1,0,none⟩)),(5,.pointer (some ⟨B2,0,none⟩)),(6,.pointer (some ⟨B3,0,none⟩)),(13,.slice (some ⟨g9,0,none⟩) ks.length q9),(19,u),(20,.int .i64 (j:Int))]∧ls.map KR.pl=((ks.map KR.pl).take j).filter (fun x=>decide (x.2=(e.p,e.ws)))∧(∀ x∈ls,x∈ks)∧jJ w K2 (fun W2=>∀ x∈ks,KNew w.heap.size W2 S px rs c x)∧St w [(B3,[.int .i64 e.p,.slice e.wa e.wl e.wc],36),(B2,[.int .i64 c.p,.slice c.wa c.wl c.wc],36),(B1,[.int .i64 s.f.tag,.int .i64 s.f.dim,.slice s.f.a s.f.len s.f.cap,.int .i64 st,.int .i64 sy,.slice ra rl rc],28)] [⟨u,ls.length,ls.flatMap KR.c9,79,9⟩,⟨.slice (some ⟨g9,0,none⟩) ks.length q9,ks.length,ks.flatMap KR.c9,79,9⟩] K2 W) (ks.length - 0) ([(4,_),(5,_),(6,_),(13,_),(19,_),(20,_)]) ⟨rfl,rfl,rfl,rfl,rfl,rfl,trivial⟩ (⟨0,[],_,_,Nat.zero_le _,Nat.le_refl _,rfl,rfl,by simp,(fun x hx=>by cases hx),HK.more (fun q hq=>by simp [hq]),hS⟩) ?_)))))
       clear hS
       rintro m l W ⟨j,ls,u,K2,hj,hlj,rfl,rfl,hls,hsub,HK,hS⟩
       refine aL (aL (aR (aG rfl rfl (aG rfl rfl (bX underlying75 rfl rfl (cN rfl rfl rfl (aQ (XF.thenN (aZ rfl (fun hc=>?_) (fun hc=>?_))))))))))
       ·have hc128:=of_decide_eq_true hc;clear hc
        obtain ⟨x5,hx5⟩:∃ x,ks[j]?=some x:=⟨ks[j]'(by omega),List.getElem?_eq_getElem _⟩
        have k29:aE W g9 (0+j * 9) x5.c9:=by rw [Nat.zero_add];exact mV (hS.row 1 rfl) hx5
        have hOK5:=((HK hS (fun q hq=>hq) x5 (List.mem_of_getElem? hx5)).cin (hcn.below hS.below) hcc).1
        have hm5:x5.c.wl≤9223372036854775807:=by have:=(wL (hpk x5 (List.mem_of_getElem? hx5)).1).cw;omega
        have k29c:aE W g9 (0+j * 9+1) [.int .i64 x5.c.p,.slice x5.c.wa x5.c.wl x5.c.wc]:=⟨k29.2.1,k29.2.2.1,trivial⟩
        refine bG (XF.thenN (aL (bM (aL (iE (m:=7) cE hS (by kernel_rfl) (by kernel_rfl) rfl (cC 1 rfl 13 rfl rfl (fun w hw=>bE rfl) rfl (cC 2 rfl 20 rfl rfl (fun w hw=>bE rfl) rfl (aM 3 rfl (isV _) (aJ _) (rgV (li:=[(131,_),(132,_)]) rfl (aU rfl) ⟨aO 0 (aB rfl rfl rfl),aO 1 (aB rfl rfl rfl),trivial⟩ (fun w hw=>bB (j:=j) underlying75 sizeOf79 rfl rfl (rfl) (by omega) rfl) (aH rfl)) (aX 4 rfl 133 2 rfl rfl rfl (fun w hw=>aW D9 rfl rfl) rfl (aX 5 rfl 134 3 rfl rfl rfl (fun w hw=>bF (vs:=[_,_]) isAgg36 sizeOf36 rfl (aE.agree (aN hw 0) (Nat.zero_le _) (k29c))) rfl (cC 6 rfl 6 rfl rfl (fun w hw=>bF (vs:=[_,_]) isAgg36 sizeOf36 rfl (aE.agree (aN hw 0) (Nat.zero_le _) (aE.own (j:=0) (m:=2) (hS.at_ 0 rfl) rfl))) rfl ?_)))))))))))
        refine aM 7 rfl (isV (.bool (decide (x5.pl.2=(e.p,e.ws))))) (aJ _) (cV [isV _,isV _] rfl Lo (aU rfl) ⟨bZ (aO 4 (aB rfl rfl rfl)),bZ (aO 5 (aB rfl rfl rfl)),trivial⟩ (fun vs w2 hb hh=>by have e:=cB (us:=[_,_]) hh;subst e;exact vJ (hOK5.below hb) ((hen.below hS.below).below hb) hm5) (aH rfl)) ?_
        refine dC ?_
        intro W15 hbR hS'
        clear hS;have hS:=hS';clear hS'
        refine aI (aI (aI (aI (aI (aI (aI (cL (XF.thenN (aZ rfl (fun hc=>?_) (fun hc=>?_))))))))))
        ·have hc137:=hc;clear hc
         have k30:aE W15 g9 (0+j * 9) x5.c9:=by rw [Nat.zero_add];exact mV (hS.row 1 rfl) hx5
         have heq:x5.pl.2=(e.p,e.ws):=of_decide_eq_true hc137
         refine aR (aG rfl rfl (aG rfl rfl (aG rfl rfl (cK (j:=j) underlying75 sizeOf79 rfl rfl (rfl) (by omega) rfl rfl (aS (vs:=[_,_,_,_,_,_,_,_,_]) isAgg79 sizeOf79 rfl (k30) rfl (cU (us:=[(0,.agg (List.toArray [_,_,_,_,_,_,_,_,_]))]) hS underlying75 sizeOf79 zeroValue79 rfl rfl rfl (D7 _ _ _ _ _ _ _ _ _) rfl fun B16 W16 hS=>?_))))))
         refine iB (i:=0) (news:=[_,_,_,_,_,_,_,_,_]) hS underlying75 Jk rfl rfl (by show 0 < 9;decide) rfl rfl rfl rfl rfl (aE.own (j:=0) (m:=9) (hS.at_ 0 rfl) rfl) rfl rfl (by dsimp only;simp only [maxLen];omega) (by dsimp only;show _ * 152≤_;omega) rfl fun v17 W17 hS=>?_
         refine aA rfl rfl (aQ (XF.blkN (XF.thenN (aR (aG rfl rfl (cR rfl rfl (IntWalk.i64_in _ (by omega)) rfl (aA rfl rfl (aQ ?_))))))))
         exact XF.round (ks.length - (j+1)) [(4,_),(5,_),(6,_),(13,_),(19,_),(20,_)] (by omega) ⟨rfl,rfl,rfl,rfl,rfl,rfl,trivial⟩ ⟨j+1,ls++[x5],_,_,by omega,by rw [List.length_append];simp;omega,rfl,rfl,by rw [List.map_append,qP (x:=x5.pl) (by rw [List.getElem?_map,hx5];rfl),hls,if_pos heq];rfl,(fun z hz=>by
            rcases List.mem_append.1 hz with hz | hz
            ·exact hsub z hz
            ·rw [List.mem_singleton] at hz;subst hz;exact List.mem_of_getElem? hx5),HK.more (fun q hq=>by simp [hq]),hS.tail.castG (by simp)⟩
        ·have hc137:=hc;clear hc
         have hne:¬ x5.pl.2=(e.p,e.ws):=of_decide_eq_false hc137
         refine bG (XF.blkN (XF.thenN (aR (aG rfl rfl (cR rfl rfl (IntWalk.i64_in _ (by omega)) rfl (aA rfl rfl (aQ ?_)))))))
         exact XF.round (ks.length - (j+1)) [(4,_),(5,_),(6,_),(13,_),(19,_),(20,_)] (by omega) ⟨rfl,rfl,rfl,rfl,rfl,rfl,trivial⟩ ⟨j+1,ls,_,_,by omega,by omega,rfl,rfl,by rw [qP (x:=x5.pl) (by rw [List.getElem?_map,hx5];rfl),hls,if_neg hne,List.append_nil],hsub,HK.more (fun q hq=>by simp [hq]),hS⟩
       ·have hc128:=of_decide_eq_false hc;clear hc
        refine dE (XF.thenX (XF.thenX (XF.blkX (XF.thenN (aL (aR (aG rfl rfl (aA rfl rfl (aA rfl rfl (aQ (XF.thenN (bJ (XF.res (rK results18 rfl rfl) ?_)))))))))))))
        have hjl:j=ks.length:=by omega
        rw [hjl,List.take_of_length_le (by rw [List.length_map];exact Nat.le_refl _)] at hls
        exact ⟨hS.below,_,ls,rfl,hls,by omega,hS.row 0 rfl,fun x hx=>HK hS (fun q hq=>hq) x (hsub x hx)⟩
 ·skip
  refine aL (aR (aG rfl rfl (cM rfl rfl rfl (aQ (XF.thenN (aZ rfl (fun hc=>?_) (fun hc=>?_)))))))
  ·have hc25:=of_decide_eq_true hc;clear hc
   refine aR (aS (vs:=[_,_,_,_,_,_]) isAgg28 sizeOf28 rfl (aE.own (j:=0) (m:=6) (hS.at_ 2 rfl) rfl) rfl (aS (vs:=[_,_]) isAgg36 sizeOf36 rfl (aE.own (j:=0) (m:=2) (hS.at_ 0 rfl) rfl) rfl (cF (vs:=[_,_]) hS wC rfl (tK ds d ⟨s,st,sy,ra,rl,rc,rs⟩ e _ (hpi.below hS.below) (hen.below hS.below)) rfl fun W18 hS=>aA rfl rfl (aQ ?_))))
   exact XF.join [(3,_),(4,_),(5,_),(6,_),(10,_)] ⟨rfl,rfl,rfl,rfl,rfl,trivial⟩ ⟨_,rfl,by rw [if_pos hc25],hS.clear⟩
  ·have hc25:=of_decide_eq_false hc;clear hc
   refine bG ?_
   exact XF.join [(3,_),(4,_),(5,_),(6,_),(10,_)] ⟨rfl,rfl,rfl,rfl,rfl,trivial⟩ ⟨_,rfl,by rw [if_neg hc25],hS.clear⟩
structure TV where
 f:Int
 g:Int
 t:Int
 x:WV
abbrev TV.nine (r:TV):List Value:=[.int .i64 r.f,.int .i64 r.g,.int .i64 r.t,.bool r.x.f.z,.int .i64 r.x.f.c,.int .u64 (r.x.f.g:Int),.slice r.x.f.ra r.x.f.rl r.x.f.rc,.slice r.x.f.ca r.x.f.cl r.x.f.cc,.slice r.x.f.pa r.x.f.pl r.x.f.pc]
def G4 (w:World) (a:Option Addr) (ts:List TV):Prop :=
 ts=[]∨∃ b off,a=some ⟨b,off,none⟩∧∀ (i:Nat) r,ts[i]?=some r→aE w b (off+i * 9) r.nine
structure AV where
 s:SV
 st:Int
 sy:Int
 fa:Option Addr
 fl:Nat
 fc:Nat
 fs:List Int
 ta:Option Addr
 tl:Nat
 tc:Nat
 ts:List TV
abbrev AV.seven (a:AV):List Value:=[.int .i64 a.s.f.tag,.int .i64 a.s.f.dim,.slice a.s.f.a a.s.f.len a.s.f.cap,.int .i64 a.st,.int .i64 a.sy,.slice a.fa a.fl a.fc,.slice a.ta a.tl a.tc]
structure AIn (w:World) (ds d:Nat) (a:AV):Prop where
 s:SIn w ds a.s
 frow:Row w a.fa a.fs
 flen:a.fs.length=a.fl
 trow:G4 w a.ta a.ts
 tlen:a.ts.length=a.tl
 tin:∀ t∈a.ts,WIn w d t.x
 fmax:a.fl≤9223372036854775807
 tmax:a.tl≤9223372036854775807
theorem G4.at_ {w:World} {a:Option Addr} {rs:List TV} (h:G4 w a rs) {i:Nat} {r:TV} (hi:rs[i]?=some r):∃ b off,a=some ⟨b,off,none⟩∧aE w b (off+i * 9) r.nine:=by
 rcases h with rfl | ⟨b,off,ha,hc⟩
 ·simp at hi
 ·exact ⟨b,off,ha,hc i r hi⟩
theorem G4.below {w w':World} {a:Option Addr} {rs:List TV} (h:G4 w a rs) (hb:Below w.heap.size w w'):G4 w' a rs:=by
 rcases h with h | ⟨b,off,rfl,hc⟩
 ·exact .inl h
 ·exact .inr ⟨b,off,rfl,fun i r hi=>aE.agree (aN hb 0) (Nat.zero_le _) (hc i r hi)⟩
def qT (S:PS) (px:RV→PX) (rls:List RV) (ls:List (List Int)):PX:=ls.foldl (fun a is=>kT S a (gD S px rls is)) (kF S)
theorem A8 {S:PS} {px:RV→PX} {rls:List RV} {ls:List (List Int)} {k:Nat} {is:List Int} (h:ls[k]?=some is):qT S px rls (ls.take (k+1))=kT S (qT S px rls (ls.take k)) (gD S px rls is):=by
 unfold qT;exact uP h
theorem sumX_ok {S:PS} {px:RV→PX} {rls:List RV} (hS:S.ok) (hr:∀ r∈rls,OkX S (px r)) (ls:List (List Int)):OkX S (qT S px rls ls):=by
 unfold qT
 have key:∀ (ls:List (List Int)) (a:PX),OkX S a→OkX S (ls.foldl (fun a is=>kT S a (gD S px rls is)) a):=by
  intro ls
  induction ls with
  | nil=>intro a h;exact h
  | cons i ls ih=>intro a h;rw [List.foldl_cons];exact ih _ (Pb hS h (Sa hS hr i))
 exact key ls _ Pa
def zC (S:PS) (px:RV→PX) (rls:List RV) (c:Int×List Int) (x:Crs):Prop:=rX S px rls x.1 0 (c.1,c.2,rH S)=(some (x.2.1,x.2.2,gD S px rls x.1),0,0)
theorem Jl {S:PS} {px:RV→PX} {rls:List RV} {c:Int×List Int} {x:Crs} {y:Int×Int×List Int} {l:NxL} (h:zC S px rls c x) (hl:eS x.2.1 x.2.2 rls 0=some l) (hy:y∈l):zC S px rls c (qX x y):=by
 obtain ⟨n,r,hn,rfl,ha,hlong⟩:=pT hl y hy
 rw [Nat.zero_add]
 unfold zC qX at *
 dsimp only
 rw [rC h]
 have hs:fW S px rls (n:Int) (x.2.1,x.2.2,gD S px rls x.1) = .ok (r.q,r.ws++x.2.2.tail,kO S (gD S px rls x.1) (px r)):=by
  rw [yB hn]
  dsimp only
  rw [if_neg (by rw [ha];simp),if_neg hlong]
 rw [Dh hs,A4 hn]
 rfl
theorem Lq {S:PS} {px:RV→PX} {rls:List RV} {c:Int×List Int} {n:Nat} {L:List Crs}:∀ (f:Nat) (all:List Crs) (i:Nat),(∀ x∈all,zC S px rls c x)→vO (nxP rls) n f all i=(0,L)→∀ x∈L,zC S px rls c x
 | 0,all,i,h,hb=>by
  have e:all=L:=congrArg (·.2) hb
  rw [← e];exact h
 | f+1,all,i,h,hb=>by
  cases hx:all[i]? with
  | none =>
   rw [nD (List.getElem?_eq_none_iff.1 hx)] at hb
   have e:all=L:=congrArg (·.2) hb
   rw [← e];exact h
  | some x =>
   by_cases h1:n≤x.1.length
   ·rw [lK hx h1] at hb
    have e:all=L:=congrArg (·.2) hb
    rw [← e];exact h
   ·by_cases h2:(nxP rls x.2).2≠0
    ·rw [sT hx h1 h2] at hb
     exact absurd (congrArg (·.1) hb) h2
    ·by_cases h3:10000 < all.length+(nxP rls x.2).1.length
     ·rw [qF hx h1 h2 h3] at hb
      exact absurd (congrArg (·.1) hb) (by intro h9;cases h9)
     ·rw [qG hx h1 h2 h3] at hb
      refine Lq f _ _ (fun z hz=>?_) hb
      rcases List.mem_append.1 hz with hz | hz
      ·exact h z hz
      ·obtain ⟨y,hy,rfl⟩:=List.mem_map.1 hz
       obtain ⟨k,hk⟩:=List.getElem?_of_mem hy
       obtain ⟨l,hl,hyl⟩:=Dz hk
       exact Jl (h x (List.mem_of_getElem? hx)) hl hyl
theorem Si {S:PS} {px:RV→PX} {rls:List RV} {c d:Int×List Int} {e1 e2 n:Int} {x:Crs} (hx:x∈(runsF e1 e2 n (nxP rls) c d).2):zC S px rls c x∧x.2=d:=by
 unfold runsF at hx
 by_cases h1:gQ e1 e2 n≠0
 ·rw [if_pos h1] at hx;cases hx
 ·rw [if_neg h1] at hx
  by_cases h2:(iQ (nxP rls) n.toNat c).1≠0
  ·rw [if_pos h2] at hx;cases hx
  ·rw [if_neg h2] at hx
   obtain ⟨h3,h4⟩:=List.mem_filter.1 hx
   refine ⟨?_,of_decide_eq_true h4⟩
   refine Lq (n:=n.toNat) 10001 [([],c)] 0 (fun z hz=>?_) (Prod.ext (Decidable.of_not_not h2) rfl) x h3
   rw [List.mem_singleton] at hz
   subst hz
   rfl
theorem Ls {e1 e2 n:Int} {nx:Nxt} {c d:Int×List Int} (h:(runsF e1 e2 n nx c d).1=0):e1=0:=by
 by_cases h1:e1=0
 ·exact h1
 ·rw [G3 h1] at h;exact absurd h h1
theorem G5 {e1 e2 n:Int} {rls:List RV} {c d:Int×List Int} (hn:n≤12) {x:Crs} (hx:x∈(runsF e1 e2 n (nxP rls) c d).2):x.1.length≤10001:=by
 have key:∀ (f:Nat) (all:List Crs) (i:Nat) (L:List Crs),(∀ x∈all,x.1.length≤n.toNat)→vO (nxP rls) n.toNat f all i=(0,L)→∀ x∈L,x.1.length≤n.toNat:=by
  intro f
  induction f with
  | zero =>
   intro all i L h hb
   have e:all=L:=congrArg (·.2) hb
   rw [← e];exact h
  | succ f ih =>
   intro all i L h hb
   cases hx:all[i]? with
   | none =>
    rw [nD (List.getElem?_eq_none_iff.1 hx)] at hb
    have e:all=L:=congrArg (·.2) hb
    rw [← e];exact h
   | some x =>
    by_cases h1:n.toNat≤x.1.length
    ·rw [lK hx h1] at hb
     have e:all=L:=congrArg (·.2) hb
     rw [← e];exact h
    ·by_cases h2:(nxP rls x.2).2≠0
     ·rw [sT hx h1 h2] at hb
      exact absurd (congrArg (·.1) hb) h2
     ·by_cases h3:10000 < all.length+(nxP rls x.2).1.length
      ·rw [qF hx h1 h2 h3] at hb
       exact absurd (congrArg (·.1) hb) (by intro h9;cases h9)
      ·rw [qG hx h1 h2 h3] at hb
       refine ih _ _ L (fun z hz=>?_) hb
       rcases List.mem_append.1 hz with hz | hz
       ·exact h z hz
       ·obtain ⟨y,hy,rfl⟩:=List.mem_map.1 hz
        show (x.1++[y.1]).length≤n.toNat
        rw [List.length_append];simp;omega
 unfold runsF at hx
 by_cases h1:gQ e1 e2 n≠0
 ·rw [if_pos h1] at hx;cases hx
 ·rw [if_neg h1] at hx
  by_cases h2:(iQ (nxP rls) n.toNat c).1≠0
  ·rw [if_pos h2] at hx;cases hx
  ·rw [if_neg h2] at hx
   obtain ⟨h3,h4⟩:=List.mem_filter.1 hx
   have:=key 10001 [([],c)] 0 _ (fun z hz=>by rw [List.mem_singleton] at hz;subst hz;exact Nat.zero_le _) (Prod.ext (Decidable.of_not_not h2) rfl) x h3
   omega
theorem Nv {e1 e2 n:Int} {nx:Nxt} {c d:Int×List Int} (h:(runsF e1 e2 n nx c d).1=0):n≤12:=by
 by_cases hn:n≤12
 ·exact hn
 ·have h9:gQ e1 e2 n≠0:=by
   unfold gQ
   by_cases h1:e1≠0
   ·rw [if_pos h1];exact h1
   ·rw [if_neg h1]
    by_cases h2:e2≠0
    ·rw [if_pos h2];exact h2
    ·rw [if_neg h2]
     by_cases h3:n < 0∨64 < n
     ·rw [if_pos h3];decide
     ·rw [if_neg h3,if_pos (by omega)];decide
  unfold runsF at h
  rw [if_pos h9] at h
  exact absurd h h9
def Ea (S:PS) (X:Int×PX) (w:World) (e:Ending) (w':World):Prop:=Below w.heap.size w w' ∧
 ((X.1≠0∧e = .returned (.tuple #[.agg #[.bool false,.int .i64 0,.int .u64 0,.slice none 0 0,.slice none 0 0,.slice none 0 0],.int .i64 X.1])) ∨
  (X.1=0∧∃ f:WF,e = .returned (.tuple #[f.val,.int .i64 0])∧oI (fun W=>dD w.heap.size w' W) S f X.2))
abbrev MT (Kk:List (Nat×World)):World→Prop:=MK (fun _=>True) Kk
theorem MT.of {w0 W:World} {O:Own} {G:cY} {K Kk:List (Nat×World)} (h:St w0 O G K W) (hk:∀ q∈Kk,q∈K):MT Kk W:=⟨trivial,fun q hq=>(h.kept q (hk q hq)).1⟩
theorem A9 (Kk:List (Nat×World)):uS (MT Kk):=Nt (fun _ _ _ _=>trivial) Kk
theorem MT.end_ {w0 W W2:World} {O:Own} {G:cY} {K Kk:List (Nat×World)} {n:Nat} (h:St w0 O G K W) (hk:∀ q∈Kk,q∈K) (hn:∀ q∈Kk,n≤q.1) (hg:dD n W W2):MT Kk W2:=⟨trivial,fun q hq=>(h.kept q (hk q hq)).1.trans (R8 hg (hn q hq))⟩
theorem Lt:bW prog 18=true:=by kernel_rfl
theorem Sj (ds d:Nat) (s:SV) (st sy:Int) (ra:Option Addr) (rl rc:Nat) (rs:List RV) (w:World) (hs:SIn w ds s) (hrow:lD w ra rs) (hlen:rs.length=rl) (hin:∀ r∈rs,RIn w d r) (c e:CV) (n:Int) (S:PS) (px:RV→PX) (hcn:CIn w c) (hen:CIn w e) (hcc:c.wl≤c.wc) (hrd:stepE ⟨s,st,sy,ra,rl,rc,rs⟩ c=0→Ready w S px ⟨s,st,sy,ra,rl,rc,rs⟩ c) :
  Calls prog 8 #[.agg #[.int .i64 s.f.tag,.int .i64 s.f.dim,.slice s.f.a s.f.len s.f.cap,.int .i64 st,.int .i64 sy,.slice ra rl rc],c.val,e.val,.int .i64 n] w (tV ((runsF (stepE ⟨s,st,sy,ra,rl,rc,rs⟩ c) (stepE ⟨s,st,sy,ra,rl,rc,rs⟩ e) n (nxP rs) (c.p,c.ws) (e.p,e.ws)).1,(runsF (stepE ⟨s,st,sy,ra,rl,rc,rs⟩ c) (stepE ⟨s,st,sy,ra,rl,rc,rs⟩ e) n (nxP rs) (c.p,c.ws) (e.p,e.ws)).2.map (·.1)) w):=by
 refine cH (args:=[.agg #[.int .i64 s.f.tag,.int .i64 s.f.dim,.slice s.f.a s.f.len s.f.cap,.int .i64 st,.int .i64 sy,.slice ra rl rc],c.val,e.val,.int .i64 n]) func8 rfl ntmps8 rfl ?_
 have hS:=St.start w
 have hpi:PvIn w ds d ⟨s,st,sy,ra,rl,rc,rs⟩:=⟨hs,hrow,hlen,hin⟩
 refine aL (aR (bK (cs:=[_,_,_,_,_,_]) hS rfl rfl rfl fun B1 W1 hS=>bK (cs:=[_,_]) hS rfl rfl rfl fun B2 W2 hS=>bK (cs:=[_,_]) hS rfl rfl rfl fun B3 W3 hS=>aA rfl rfl (aA rfl rfl (aQ (XF.thenN (aL (aR (aS (vs:=[_,_,_,_,_,_]) isAgg28 sizeOf28 rfl (aE.own (j:=0) (m:=6) (hS.at_ 2 rfl) rfl) rfl (aS (vs:=[_,_]) isAgg36 sizeOf36 rfl (aE.own (j:=0) (m:=2) (hS.at_ 1 rfl) rfl) rfl (aS (vs:=[_,_]) isAgg36 sizeOf36 rfl (aE.own (j:=0) (m:=2) (hS.at_ 0 rfl) rfl) rfl (aG rfl rfl ?_)))))))))))
 have hsz1:=hS.below.size
 refine cO (vs:=[_,_,_,_]) hS Lt rfl (Lp ds d s st sy ra rl rc rs _ (SIn.below hS.below hs) (hrow.below hS.below) hlen (fun r hr=>(hin r hr).below hS.below) c e n S px (hcn.below hS.below) (hen.below hS.below) hcc (fun h=>(hrd h).below hS.below)) rfl ?_
 rintro e W4 ⟨hb,vR,ks,rfl,hpl,hmx,hro,hkn⟩
 refine ⟨_,rfl,hb,fun hS'=>?_⟩
 clear hS;have hS:=hS';clear hS'
 obtain ⟨P9,hP9⟩:∃ P:Nat×World,P=(W3.heap.size,W4):=⟨_,rfl⟩
 obtain ⟨ra9,rc9,rfl,_⟩:=eC hro
 have hro9:∀ W2,dD P9.1 P9.2 W2→W2.ownsRow P9.1 79 9 (.slice ra9 ks.length rc9) ks.length (ks.flatMap KR.c9)∧∀ x∈ks,KNew P9.1 W2 S px rs c x:=by subst hP9;exact fun W2 hg=>⟨eG hro hg,fun x hx=>(hkn x hx).agree hg⟩
 have hfar:∀ x∈ks,oI (fun W=>dD P9.1 P9.2 W) S x.f (gD S px rs x.rs):=by subst hP9;exact fun x hx=>(hkn x hx).x.far
 have hsz9:w.heap.size≤P9.1:=by rw [hP9];exact hsz1
 clear hro hkn
 refine aG rfl rfl (bL rfl rfl rfl (bL rfl rfl rfl (aA rfl rfl (aA rfl rfl (aQ (XF.thenN (aL (aR (aA rfl rfl (aQ (XF.thenN (aL (aL ?_)))))))))))))
 have hS:=hS.newG 29 1
 refine aR (aA rfl rfl (aQ (XF.thenN (bM ?_))))
 refine dK (fun m l W=>∃ (i:Nat) (ls:List LI) (v:Value) (Kk:List (Nat×World)),i≤ks.length∧ls.length=i∧m=ks.length - i∧l=[(10,.slice ra9 ks.length rc9),(11,.int .i64 (runsF (stepE ⟨s,st,sy,ra,rl,rc,rs⟩ c) (stepE ⟨s,st,sy,ra,rl,rc,rs⟩ e) n (nxP rs) (c.p,c.ws) (e.p,e.ws)).1),(12,v),(13,.int .i64 (i:Int))]∧ls.map LI.xs=((ks.map KR.pl).take i).map (·.1)∧(∀ x∈ls,∃ z∈ks,x=⟨z.a,z.rc,z.rs⟩)∧P9∈Kk∧St w [] [⟨v,ls.length,ls.map LI.val,29,1⟩] Kk W) (ks.length - 0) ([(10,_),(11,_),(12,_),(13,_)]) ⟨rfl,rfl,rfl,rfl,trivial⟩ (⟨0,[],_,_,Nat.zero_le _,rfl,rfl,rfl,by simp,(fun x hx=>by cases hx),by rw [hP9];exact List.mem_cons_self,hS.tail.tail.tail⟩) ?_
 clear hS
 rintro m l W ⟨i,ls,v,Kk,hi,hli,rfl,rfl,hls,hsub,hPK,hS⟩
 refine aL (aL (aR (aG rfl rfl (aG rfl rfl (bX underlying75 rfl rfl (cN rfl rfl rfl (aQ (XF.thenN (aZ rfl (fun hc=>?_) (fun hc=>?_))))))))))
 ·have hc25:=of_decide_eq_true hc;clear hc
  obtain ⟨x,hx⟩:∃ x,ks[i]?=some x:=⟨ks[i]'(by omega),List.getElem?_eq_getElem _⟩
  have hr9:=(hro9 W (hS.kept P9 (hPK)).1).1
  obtain ⟨g9,q9,e9,_,_⟩:=hr9.form (show 0 < ks.length by omega)
  injection e9 with e91 e92 e93
  subst e91;subst e93
  have k9:aE W g9 (0+i * 9) x.c9:=by rw [Nat.zero_add];exact mV hr9 hx
  refine bG (XF.thenN (aL (bM (aR (aG rfl rfl (aG rfl rfl (aG rfl rfl (cK (j:=i) underlying75 sizeOf79 rfl rfl (rfl) (by omega) rfl rfl (aP D8 rfl (Nat.add_zero _) rfl (aT isAgg29 rfl (k9.1) rfl (cU (us:=[(0,.slice _ _ _)]) hS underlying40 sizeOf29 zeroValue29 rfl rfl rfl (Dw _ _ _) rfl fun B5 W5 hS=>?_)))))))))))
  refine iB (i:=0) (news:=[_]) hS underlying40 Jc rfl rfl (by show 0 < 1;decide) rfl rfl rfl rfl rfl (aE.own (j:=0) (m:=1) (hS.at_ 0 rfl) rfl) rfl rfl (by dsimp only;simp only [maxLen];omega) (by dsimp only;show _ * 24≤_;omega) rfl fun v6 W6 hS=>?_
  refine aA rfl rfl (aQ (XF.blkN (XF.thenN (aR (aG rfl rfl (cR rfl rfl (IntWalk.i64_in _ (by omega)) rfl (aA rfl rfl (aQ ?_))))))))
  exact XF.round (ks.length - (i+1)) [(10,_),(11,_),(12,_),(13,_)] (by omega) ⟨rfl,rfl,rfl,rfl,trivial⟩ ⟨i+1,ls++[⟨x.a,x.rc,x.rs⟩],_,_,by omega,by rw [List.length_append];simp;omega,rfl,rfl,by rw [List.map_append,hls,List.take_add_one,List.getElem?_map,hx,List.map_append];rfl,(fun z hz=>by
    rcases List.mem_append.1 hz with hz | hz
    ·exact hsub z hz
    ·rw [List.mem_singleton] at hz;exact ⟨x,List.mem_of_getElem? hx,hz⟩),hPK,hS.tail.castG (by simp)⟩
 ·have hc25:=of_decide_eq_false hc;clear hc
  have hil:i=ks.length:=by omega
  rw [hil,List.take_of_length_le (by rw [List.length_map];exact Nat.le_refl _),hpl] at hls
  refine dE (XF.thenX (XF.thenX (XF.blkX (XF.thenN (aL (aR (aG rfl rfl (aG rfl rfl (aA rfl rfl (aA rfl rfl (aQ (XF.thenN (bJ (XF.res (rK results8 rfl rfl) ?_))))))))))))))
  exact ⟨hS.below,_,ls,rfl,hls,by omega,hS.row 0 rfl,fun x hx=>by
   obtain ⟨z,hz,rfl⟩:=hsub x hx
   exact ((hro9 _ (hS.kept P9 hPK).1).2 z hz).r.mono hsz9⟩
theorem Sk {S:PS} {sf:SF} {w:World} (hs:SIs w S sf) (hok:S.ok):Calls prog 23 #[sf.val] w (xS S (kF S) 0 w):=Gv S sf w hs hok
theorem Sl (ds d:Nat) (s:SV) (st sy:Int) (ra:Option Addr) (rl rc:Nat) (rs:List RV) (w:World) (hs:SIn w ds s) (hrow:lD w ra rs) (hlen:rs.length=rl) (hin:∀ r∈rs,RIn w d r) (c e:CV) (n:Int) (S:PS) (px:RV→PX) (hcn:CIn w c) (hen:CIn w e) (hcc:c.wl≤c.wc) (hrd:stepE ⟨s,st,sy,ra,rl,rc,rs⟩ c=0→Ready w S px ⟨s,st,sy,ra,rl,rc,rs⟩ c) :
  Calls prog 10 #[.agg #[.int .i64 s.f.tag,.int .i64 s.f.dim,.slice s.f.a s.f.len s.f.cap,.int .i64 st,.int .i64 sy,.slice ra rl rc],c.val,e.val,.int .i64 n] w (Ea S ((runsF (stepE ⟨s,st,sy,ra,rl,rc,rs⟩ c) (stepE ⟨s,st,sy,ra,rl,rc,rs⟩ e) n (nxP rs) (c.p,c.ws) (e.p,e.ws)).1,qT S px rs ((runsF (stepE ⟨s,st,sy,ra,rl,rc,rs⟩ c) (stepE ⟨s,st,sy,ra,rl,rc,rs⟩ e) n (nxP rs) (c.p,c.ws) (e.p,e.ws)).2.map (·.1))) w):=by
 refine cH (args:=[.agg #[.int .i64 s.f.tag,.int .i64 s.f.dim,.slice s.f.a s.f.len s.f.cap,.int .i64 st,.int .i64 sy,.slice ra rl rc],c.val,e.val,.int .i64 n]) func10 rfl ntmps10 rfl ?_
 have hS:=St.start w
 have hpi:PvIn w ds d ⟨s,st,sy,ra,rl,rc,rs⟩:=⟨hs,hrow,hlen,hin⟩
 refine aL (aR (bK (cs:=[_,_,_,_,_,_]) hS rfl rfl rfl fun B1 W1 hS=>bK (cs:=[_,_]) hS rfl rfl rfl fun B2 W2 hS=>bK (cs:=[_,_]) hS rfl rfl rfl fun B3 W3 hS=>bH (cs:=[_,_,_,_,_,_]) hS zeroValue53 rfl rfl fun B4 W4 hS=>aA rfl rfl (aQ (XF.thenN (aL (aR (aS (vs:=[_,_,_,_,_,_]) isAgg28 sizeOf28 rfl (aE.own (j:=0) (m:=6) (hS.at_ 3 rfl) rfl) rfl (aS (vs:=[_,_]) isAgg36 sizeOf36 rfl (aE.own (j:=0) (m:=2) (hS.at_ 2 rfl) rfl) rfl (aS (vs:=[_,_]) isAgg36 sizeOf36 rfl (aE.own (j:=0) (m:=2) (hS.at_ 1 rfl) rfl) rfl (aG rfl rfl ?_))))))))))
 have hsz1:=hS.below.size
 refine cO (vs:=[_,_,_,_]) hS Lt rfl (Lp ds d s st sy ra rl rc rs _ (SIn.below hS.below hs) (hrow.below hS.below) hlen (fun r hr=>(hin r hr).below hS.below) c e n S px (hcn.below hS.below) (hen.below hS.below) hcc (fun h=>(hrd h).below hS.below)) rfl ?_
 rintro e W5 ⟨hb,vR,ks,rfl,hpl,hmx,hro,hkn⟩
 refine ⟨_,rfl,hb,fun hS'=>?_⟩
 clear hS;have hS:=hS';clear hS'
 obtain ⟨P9,hP9⟩:∃ P:Nat×World,P=(W4.heap.size,W5):=⟨_,rfl⟩
 obtain ⟨ra9,rc9,rfl,_⟩:=eC hro
 have hro9:∀ W2,dD P9.1 P9.2 W2→W2.ownsRow P9.1 79 9 (.slice ra9 ks.length rc9) ks.length (ks.flatMap KR.c9)∧∀ x∈ks,KNew P9.1 W2 S px rs c x:=by subst hP9;exact fun W2 hg=>⟨eG hro hg,fun x hx=>(hkn x hx).agree hg⟩
 have hfar:∀ x∈ks,oI (fun W=>dD P9.1 P9.2 W) S x.f (gD S px rs x.rs):=by subst hP9;exact fun x hx=>(hkn x hx).x.far
 have hsz9:w.heap.size≤P9.1:=by rw [hP9];exact hsz1
 clear hro hkn
 refine aG rfl rfl (bL rfl rfl rfl (bL rfl rfl rfl (aA rfl rfl (aA rfl rfl (aQ (XF.thenN (aL (aL (aR (aG rfl rfl (dA rfl rfl rfl (aQ (XF.thenN (aZ rfl (fun hc=>?_) (fun hc=>?_)))))))))))))))
 ·have hc24:=of_decide_eq_true hc;clear hc
  refine aL (aR (cS (us:=[]) rfl (iN) rfl (aG rfl rfl (aV (i:=0) (vs:=[_,_,_,_,_,_]) (cs':=[_,_,_,_,_,_]) (O':=[_,_,_,_]) hS sizeOf53 rfl rfl rfl rfl rfl rfl rfl fun W6 hS=>aA rfl rfl (aQ (XF.thenN (bJ (XF.thenR (XF.res (oK (vs:=[_,_,_,_,_,_]) results10 isAgg53 sizeOf53 rfl (aE.own (j:=0) (m:=6) (hS.at_ 0 rfl) rfl) rfl) ?_)))))))))
  exact ⟨hS.below,.inl ⟨hc24,rfl⟩⟩
 ·have hc24:=of_decide_eq_false hc;clear hc
  have hr0:(runsF (stepE ⟨s,st,sy,ra,rl,rc,rs⟩ c) (stepE ⟨s,st,sy,ra,rl,rc,rs⟩ e) n (nxP rs) (c.p,c.ws) (e.p,e.ws)).1=0:=Decidable.of_not_not hc24
  have hrdy:=hrd (Ls hr0)
  refine bG (XF.thenN (aL (aR (aP (o':=0) jE rfl rfl rfl (aS (vs:=[_,_,_]) isAgg25 sizeOf25 rfl (aE.own (j:=0) (m:=3) (hS.at_ 3 rfl) rfl) rfl ?_)))))
  have hsz4:=hS.below.size
  refine cO (vs:=[_]) hS goes_23 rfl (Sk (hrdy.si.below hS.below) hrdy.ok) rfl ?_
  rintro e W7 ⟨f1,rfl,hn1,hb⟩
  refine ⟨_,rfl,hb,fun hS'=>?_⟩
  clear hS;have hS:=hS';clear hS'
  obtain ⟨P8,hP8⟩:∃ P:Nat×World,P=(W5.heap.size,W7):=⟨_,rfl⟩
  have hsz8:w.heap.size≤P8.1:=by rw [hP8];exact hsz4
  have hf1:oI (MT [P8,P9]) S f1 (kF S):=hn1.far.mono (fun W hW=>by have h9:=hW.2 P8 List.mem_cons_self;rw [hP8] at h9;exact h9)
  refine aG rfl rfl (bL rfl rfl rfl (bL rfl rfl rfl (bH (cs:=[_,_,_,_,_,_]) hS zeroValue53 rfl rfl fun B8 W8 hS=>aV (i:=0) (vs:=[_,_,_,_,_,_]) (cs':=[_,_,_,_,_,_]) (O':=[_,_,_,_,_]) hS sizeOf53 rfl rfl rfl rfl rfl rfl rfl fun W9 hS=>aA rfl rfl (aQ (XF.thenN (aL (aL (aR (aA rfl rfl (aQ (XF.thenN (bM ?_))))))))))))
  refine dK (fun m l W=>∃ (i:Nat) (f:WF) (Kk K9:List (Nat×World)),i≤ks.length∧m=ks.length - i∧l=[(4,.pointer (some ⟨B1,0,none⟩)),(8,.pointer (some ⟨B4,0,none⟩)),(10,.slice ra9 ks.length rc9),(12,.pointer (some ⟨B8,0,none⟩)),(14,.int .i64 (i:Int))]∧oI (MT K9) S f (qT S px rs (((ks.map KR.pl).take i).map (·.1)))∧(∀ q∈K9,w.heap.size≤q.1∧q∈Kk)∧P9∈K9∧St w [(B8,f.six,53),(B4,[.bool false,.int .i64 0,.int .u64 0,.slice none 0 0,.slice none 0 0,.slice none 0 0],53),(B3,[.int .i64 e.p,.slice e.wa e.wl e.wc],36),(B2,[.int .i64 c.p,.slice c.wa c.wl c.wc],36),(B1,[.int .i64 s.f.tag,.int .i64 s.f.dim,.slice s.f.a s.f.len s.f.cap,.int .i64 st,.int .i64 sy,.slice ra rl rc],28)] [] Kk W) (ks.length - 0) ([(4,_),(8,_),(10,_),(12,_),(14,_)]) ⟨rfl,rfl,rfl,rfl,rfl,trivial⟩ (⟨0,f1,_,[P8,P9],Nat.zero_le _,rfl,rfl,by simpa [qT] using hf1,(fun q hq=>by simp at hq;rcases hq with rfl | rfl;exact ⟨hsz8,by rw [hP8];simp⟩;exact ⟨hsz9,by rw [hP9];simp⟩),by simp,hS⟩) ?_
  clear hS
  rintro m l W ⟨i,f,Kk,K9,hi,rfl,rfl,hf,hK9,hP,hS⟩
  have hPK:=(hK9 P9 hP).2
  refine aL (aL (aR (aG rfl rfl (aG rfl rfl (bX underlying75 rfl rfl (cN rfl rfl rfl (aQ (XF.thenN (aZ rfl (fun hc=>?_) (fun hc=>?_))))))))))
  ·have hc36:=of_decide_eq_true hc;clear hc
   obtain ⟨x,hx⟩:∃ x,ks[i]?=some x:=⟨ks[i]'(by omega),List.getElem?_eq_getElem _⟩
   have hr9:=(hro9 W (hS.kept P9 (hPK)).1).1
   obtain ⟨g9,q9,e9,_,_⟩:=hr9.form (show 0 < ks.length by omega)
   injection e9 with e91 e92 e93
   subst e91;subst e93
   have k9:aE W g9 (0+i * 9) x.c9:=by rw [Nat.zero_add];exact mV hr9 hx
   have hpl9:(((ks.map KR.pl).map (·.1)))[i]?=some x.rs:=by rw [List.getElem?_map,List.getElem?_map,hx];rfl
   refine bG (XF.thenN (aL (bM ?_)))
   have hsz8b:=hS.below.size
   refine pB cE 9 hS rfl rfl (by kernel_rfl) (by kernel_rfl) (by kernel_rfl) (fun d hd=>by cases hd) (cC 1 rfl 4 rfl rfl (fun w hw=>aW (o':=0) jE rfl rfl) rfl (aX 2 rfl 39 0 rfl rfl rfl (fun w hw=>bF (vs:=[_,_,_]) isAgg25 sizeOf25 rfl (aE.agree (aN hw 0) (Nat.zero_le _) (aE.own (j:=0) (m:=3) (hS.at_ 4 rfl) rfl))) rfl (cC 3 rfl 12 rfl rfl (fun w hw=>bF (vs:=[_,_,_,_,_,_]) isAgg53 sizeOf53 rfl (aE.agree (aN hw 0) (Nat.zero_le _) (aE.own (j:=0) (m:=6) (hS.at_ 0 rfl) rfl))) rfl (cC 4 rfl 10 rfl rfl (fun w hw=>bE rfl) rfl (cC 5 rfl 14 rfl rfl (fun w hw=>bE rfl) rfl (aM 6 rfl (isV _) (aJ _) (rgV (li:=[(42,_),(43,_)]) rfl (aU rfl) ⟨aO 3 (aB rfl rfl rfl),aO 4 (aB rfl rfl rfl),trivial⟩ (fun w hw=>bB (j:=i) underlying75 sizeOf79 rfl rfl (rfl) (by omega) rfl) (aH rfl)) (aX 7 rfl 44 5 rfl rfl rfl (fun w hw=>aW Ln rfl rfl) rfl (aX 8 rfl 45 6 rfl rfl rfl (fun w hw=>bF (vs:=[_,_,_,_,_,_]) isAgg53 sizeOf53 rfl (aE.agree (aN hw 0) (Nat.zero_le _) (k9.2.2.2))) rfl ?_))))))))
   refine aM 9 rfl (tW (MT K9) W.heap.size S (kT S (qT S px rs (((ks.map KR.pl).take i).map (·.1))) (gD S px rs x.rs))) (sF) (cV [isV _,isV _,isV _] rfl Cu (aU rfl) ⟨bZ (aO 1 (aB rfl rfl rfl)),bZ (aO 2 (aB rfl rfl rfl)),bZ (aO 7 (aB rfl rfl rfl)),trivial⟩ (fun vs w2 hb hh=>by have e:=cB (us:=[_,_,_]) hh;subst e;exact sG hb.size (Jh (A9 K9) ((hrdy.si.below hS.below).below hb) hrdy.ok (A9 K9 _ _ (MT.of hS (fun q hq=>(hK9 q hq).2)) hb) hf ((hfar x (List.mem_of_getElem? hx)).mono (fun W hW=>hW.2 P9 hP)))) (aH rfl)) ?_
   refine dC ?_
   intro W10 hbR hS'
   clear hS;have hS:=hS';clear hS'
   refine aI (aI (aI (aI (aI (aI (aI (aI ?_)))))))
   refine cW ?_;rintro _ ⟨f8,rfl,hf8⟩
   have hf9:oI (MT ((W.heap.size,W10)::K9)) S f8 (kT S (qT S px rs (((ks.map KR.pl).take i).map (·.1))) (gD S px rs x.rs)):=hf8.mono (fun W hW=>⟨⟨trivial,fun q hq=>hW.2 q (List.mem_cons_of_mem _ hq)⟩,hW.2 (_,_) List.mem_cons_self⟩)
   refine cL (aV (i:=0) (vs:=[_,_,_,_,_,_]) (cs':=[_,_,_,_,_,_]) (O':=[_,_,_,_,_]) hS sizeOf53 rfl rfl rfl rfl rfl rfl rfl fun W11 hS=>aQ (XF.blkN (XF.thenN (aR (aG rfl rfl (cR rfl rfl (IntWalk.i64_in _ (by omega)) rfl (aA rfl rfl (aQ ?_))))))))
   exact XF.round (ks.length - (i+1)) [(4,_),(8,_),(10,_),(12,_),(14,_)] (by omega) ⟨rfl,rfl,rfl,rfl,rfl,trivial⟩ ⟨i+1,f8,_,_::K9,by omega,rfl,rfl,by rw [List.map_take,A8 hpl9,← List.map_take];exact hf9,(fun q hq=>by
     rcases List.mem_cons.1 hq with rfl | hq
     ·exact ⟨hsz8b,by simp⟩
     ·exact ⟨(hK9 q hq).1,List.mem_cons_of_mem _ (hK9 q hq).2⟩),List.mem_cons_of_mem _ hP,hS⟩
  ·have hc36:=of_decide_eq_false hc;clear hc
   have hil:i=ks.length:=by omega
   rw [hil,List.take_of_length_le (by rw [List.length_map];exact Nat.le_refl _),hpl] at hf
   refine dE (XF.thenX (XF.thenX (XF.blkX (XF.thenN (aL (aR (aS (vs:=[_,_,_,_,_,_]) isAgg53 sizeOf53 rfl (aE.own (j:=0) (m:=6) (hS.at_ 0 rfl) rfl) rfl (aV (i:=1) (vs:=[_,_,_,_,_,_]) (cs':=[_,_,_,_,_,_]) (O':=[_,_,_,_,_]) hS sizeOf53 rfl rfl rfl rfl rfl rfl rfl fun W12 hS=>aA rfl rfl (aQ (XF.thenN (bJ (XF.res (oK (vs:=[_,_,_,_,_,_]) results10 isAgg53 sizeOf53 rfl (aE.own (j:=0) (m:=6) (hS.at_ 1 rfl) rfl) rfl) ?_))))))))))))
   exact ⟨hS.below,.inr ⟨hr0,f,rfl,hf.mono (fun W2 hg=>MT.end_ hS (fun q hq=>(hK9 q hq).2) (fun q hq=>(hK9 q hq).1) hg)⟩⟩
theorem G6 (S:PS) (sf:SF) (f0:WF) (w:World) (hs:SIs w S sf) (hok:S.ok) :
  Calls prog 20 #[nI sf f0] w (gO S (kF S) w):=by
 refine cH (args:=[nI sf f0]) func20 rfl ntmps20 rfl ?_
 have hS:=St.start w
 refine aL (aR (bK (cs:=[_,_,_,_,_,_,_,_,_]) hS rfl rfl rfl fun B1 W1 hS=>bH (cs:=[_,_,_,_,_,_]) hS zeroValue53 rfl rfl fun B2 W2 hS=>aQ (XF.thenN (aL (aR (aP (o':=0) wB rfl rfl rfl (aS (vs:=[_,_,_]) isAgg25 sizeOf25 rfl (aE.own (j:=0) (m:=3) (hS.at_ 1 rfl) rfl) rfl ?_)))))))
 have hsz9:=hS.below.size
 refine cO (vs:=[_]) hS J3 rfl (Fs S sf _ (hs.below hS.below) hok) rfl ?_
 rintro e W3 ⟨f9,rfl,hn9,hb⟩
 refine ⟨_,rfl,hb,fun hS'=>?_⟩
 clear hS;have hS:=hS';clear hS'
 refine aG rfl rfl (bL rfl rfl rfl (bL rfl rfl rfl (bH (cs:=[_,_,_,_,_,_]) hS zeroValue53 rfl rfl fun B4 W4 hS=>aV (i:=0) (vs:=[_,_,_,_,_,_]) (cs':=[_,_,_,_,_,_]) (O':=[_,_,_]) hS sizeOf53 rfl rfl rfl rfl rfl rfl rfl fun W5 hS=>aA rfl rfl (aQ (XF.thenN (aL (aR (aS (vs:=[_,_,_,_,_,_]) isAgg53 sizeOf53 rfl (aE.own (j:=0) (m:=6) (hS.at_ 0 rfl) rfl) rfl (aV (i:=1) (vs:=[_,_,_,_,_,_]) (cs':=[_,_,_,_,_,_]) (O':=[_,_,_]) hS sizeOf53 rfl rfl rfl rfl rfl rfl rfl fun W6 hS=>aQ (XF.thenN (bJ (XF.res (dO (vs:=[_,_,_,_,_,_]) results20 isAgg53 sizeOf53 rfl (aE.own (j:=0) (m:=6) (hS.at_ 1 rfl) rfl)) ?_))))))))))))
 exact ⟨f9,rfl,(hn9.agree (hS.since 0 rfl)).mono hsz9,hS.below⟩
theorem Eb (S:PS) (sf:SF) (f0:WF) (w:World) (hs:SIs w S sf) (hok:S.ok) (a:Option Addr) (c m:Nat) (fs:List WF) (xs:List PX) (hr:qS w a fs) (hx:XL w S fs xs) (hm:fs.length=m) (hmx:m≤9223372036854775807) (ht:Tabs w) :
  Calls prog 22 #[nI sf f0,.slice a m c] w (gO S (xs.foldl (kT S) (kF S)) w):=by
 refine cH (args:=[nI sf f0,.slice a m c]) func22 rfl ntmps22 rfl ?_
 have hS:=St.start w
 refine aL (aR (bK (cs:=[_,_,_,_,_,_,_,_,_]) hS rfl rfl rfl fun B1 W1 hS=>bH (cs:=[_,_,_,_,_,_]) hS zeroValue53 rfl rfl fun B2 W2 hS=>aQ (XF.thenN (aL (aR (aP (o':=0) wB rfl rfl rfl (aS (vs:=[_,_,_]) isAgg25 sizeOf25 rfl (aE.own (j:=0) (m:=3) (hS.at_ 1 rfl) rfl) rfl (aG rfl rfl ?_))))))))
 have hsz9:=hS.below.size
 refine cO (vs:=[_,_]) hS goes_41 rfl (Fq S sf _ (hs.below hS.below) hok a c m fs xs (hr.below hS.below) (hx.below hS.below) hm hmx (ht.below hS.below)) rfl ?_
 rintro e W3 ⟨f9,rfl,hn9,hb⟩
 refine ⟨_,rfl,hb,fun hS'=>?_⟩
 clear hS;have hS:=hS';clear hS'
 refine aG rfl rfl (bL rfl rfl rfl (bL rfl rfl rfl (bH (cs:=[_,_,_,_,_,_]) hS zeroValue53 rfl rfl fun B4 W4 hS=>aV (i:=0) (vs:=[_,_,_,_,_,_]) (cs':=[_,_,_,_,_,_]) (O':=[_,_,_]) hS sizeOf53 rfl rfl rfl rfl rfl rfl rfl fun W5 hS=>aA rfl rfl (aQ (XF.thenN (aL (aR (aS (vs:=[_,_,_,_,_,_]) isAgg53 sizeOf53 rfl (aE.own (j:=0) (m:=6) (hS.at_ 0 rfl) rfl) rfl (aV (i:=1) (vs:=[_,_,_,_,_,_]) (cs':=[_,_,_,_,_,_]) (O':=[_,_,_]) hS sizeOf53 rfl rfl rfl rfl rfl rfl rfl fun W6 hS=>aQ (XF.thenN (bJ (XF.res (dO (vs:=[_,_,_,_,_,_]) results22 isAgg53 sizeOf53 rfl (aE.own (j:=0) (m:=6) (hS.at_ 1 rfl) rfl)) ?_))))))))))))
 exact ⟨f9,rfl,(hn9.agree (hS.since 0 rfl)).mono hsz9,hS.below⟩
end
end Go.Proofs.YtofaiolkihcfmaaGreatDoor
