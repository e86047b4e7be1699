import Derived.Lib.OwnBridge
import Derived.WideKeyEntry
import Derived.DeepKeys4
import Derived.Lib.AppendZeros
import Derived.Lib.ItoaLen
import Derived.Lib.UnsafeStr
import Derived.Lib.AppendIntMem
import Derived.Test.YtafegfhpinpdoaaQfC
set_option maxRecDepth 100000
set_option maxHeartbeats 4000000
set_option linter.unusedVariables false
set_option linter.unusedSimpArgs false
set_option linter.unusedSectionVars false
set_option linter.unnecessarySimpa false
namespace Go.Proofs.Ytafegfhpinpdoaa
open Go.Proofs.Try
open Go.RowKit
section
variable {P:Program} {n:Nat} {Q:Exit→Act→World→Prop} {l:Fr} {w0 W:World} {ops:Array Oper} {os:List Oper} {K:List (Nat×World)} {L:List Asr} {i:Nat} {O:Own} {G:cR}
variable {al:List Nat} {zc:Nat→List Value} {ta:Nat→TypeId} {lo ef jy:Nat} {d:Nat} {ty:TypeId} {pos:String} {aft_:Array Edge} {v:Value}
def sQ (zc:Nat→List Value) (a:Nat):Option Value→List Value:=fun _=>zc a
def vW (zc:Nat→List Value) (a0 a:Nat):Option Value→List Value
 | none=>zc a
 | some y=>bif Nat.beq a a0 then eJ (zc a) 0 y.cells.toList else zc a
theorem caSt_at (zc:Nat→List Value) (a0:Nat) (y:Value):vW zc a0 a0 (some y)=eJ (zc a0) 0 y.cells.toList:=by
 show (bif Nat.beq a0 a0 then eJ (zc a0) 0 y.cells.toList else zc a0)=_
 rw [Nat.beq_refl,cond_true]
theorem caSt_ne (zc:Nat→List Value) {a0 a:Nat} (y:Value) (h:Nat.beq a a0=false):vW zc a0 a (some y)=zc a:=by
 show (bif Nat.beq a a0 then eJ (zc a) 0 y.cells.toList else zc a)=_
 rw [h,cond_false]
def Ez (O:Own):Option Value→Own:=fun _=>O
def pR (G:cR):Option Value→cR:=fun _=>G
theorem pY {B b:Nat} (hb:b≠B):∀ (vs:List Value) (j:Nat) (w:World),(setMany w B j vs).heap[b]?=w.heap[b]?
 | [],_,_=>rfl
 | v::vs,j,w=>by unfold setMany;rw [pY hb vs (j+1)];exact Below.heap_setCell _ _ _ _ hb
theorem nE:∀ (vs:List Value) (B j:Nat) (w:World),((setMany w B j vs).os=w.os∧(setMany w B j vs).tape=w.tape∧(setMany w B j vs).output=w.output)∧(setMany w B j vs).heap.size=w.heap.size
 | [],_,_,_=>⟨⟨rfl,rfl,rfl⟩,rfl⟩
 | v::vs,B,j,w=>by
  unfold setMany
  obtain ⟨⟨h1,h2,h3⟩,h4⟩:=nE vs B (j+1) (w.setCell ⟨B,j,none⟩ v)
  exact ⟨⟨h1,h2,h3⟩,h4.trans (by simp [World.setCell])⟩
theorem pZ {B j:Nat} {vs:List Value} {w:World} {X:Nat→Prop} (hX:X B):eP 0 X w (setMany w B j vs) :=
 ⟨(nE vs B j w).1,Nat.le_of_eq (nE vs B j w).2.symm,fun b _ _ hb=>pY (fun e=>hb (by rw [e];exact hX)) vs j w⟩
theorem rT {T:TypeId} {B j m:Nat} {vs cs:List Value} {U:TypeId} {w:World} {y:Value} (hsz:∀ w,(sizeOf T).run P w = .ok m w) (hc:y.cells=vs.toArray) (hl:vs.length=m) (h1:vs.all Value.oneCell'=true) (hB:w.heap[B]?=some (.cells cs.toArray U (0,0))) (hj:j+m≤cs.length) :
  (Instr.storeAt T (.pointer (some ⟨B,j,none⟩)) y).run P w = .ok () (setMany w B j vs):=by
 subst hl
 have hst:=jH (P:=P) vs 0 j w cs hB (by omega) (fun u hu=>List.all_eq_true.1 h1 u hu)
 rw [Nat.add_zero] at hst
 simp [Instr.storeAt,Instr.sureAddr,storeVar,hsz,hc,hst]
theorem C1 {o:Oper} {a:Act} {w w':World} {T:TypeId} {x y:Operand} {K':Act→World→Prop} (hi:ops[i]?=some o) (ho:o.op = .store T x y) (hod:o.dst=none) (hog:o.guard=none) (hr:(Instr.storeAt T (a.eval x) (a.eval y)).run P w = .ok () w') (hK:K' a w'):wpOp P ops Q i K' a w:=by
 unfold wpOp
 simp only [hi,lE hog,if_true]
 refine .inl ?_
 obtain ⟨dst,op,ty,pos,aft,gd⟩:=o
 simp only at ho hod
 subst ho;subst hod
 unfold Oper.wp execOp
 simp only [Sem.run_bind,hr,Result.andThen_ok,Sem.run_pure,Oper.upon_skip]
 exact hK
theorem eff_stA {T:TypeId} {tx tyy m:Nat} {py:Asr} (a0:Nat) (hal:al.contains ef=false) (hij:Nat.beq ef jy=false) (hi:ops[ef]?=some ⟨none,.store T (.tmp tx) (.tmp tyy),ty,pos,aft_,none⟩) (hjy:(ops[jy]?).bind (·.dst)=some tyy)
  (hwx:bO ops ef a0 tx=true) (ha0:al.contains a0=true) (hwy:bO ops ef jy tyy=true) (hja:al.contains jy=false) (hLy:atI L jy=py) (hsz:∀ w,(sizeOf T).run P w = .ok m w) (hzl:Nat.ble m (zc a0).length=true) (hpy:∀ v w,py v w→∃ vs:List Value,v.cells=vs.toArray∧vs.length=m∧vs.all Value.oneCell'=true):SG P n ops Q l w0 K lo al ef jy (vW zc a0) ta (Ez O) (pR G) L ef :=
 L6 hal hij hi fun t0 a bs w h0 hF hG hbs hD=>by
  obtain ⟨B,hB,ex⟩:=(hD a0 tx hwx).1 (List.contains_iff_mem.1 ha0)
  have hy:=((hD jy tyy hwy).2.2.2 (fun h=>by rw [List.contains_iff_mem.2 h] at hja;cases hja) (fun e=>by rw [e,Nat.beq_refl] at hij;cases hij)).here
  rw [hLy] at hy
  obtain ⟨vs,hc,hl,h1⟩:=hpy _ _ hy
  obtain ⟨k,hk⟩:=List.getElem?_of_mem hB
  have hkl:=(List.getElem?_eq_some_iff.1 hk).1
  have hOk:(OE (vW zc a0) ta (Ez O) ⟨none,bs⟩)[k]?=some (B,zc a0,ta a0):=by
   unfold OE
   rw [List.getElem?_append_left (by simpa using hkl),List.getElem?_map,hk]
   rfl
  have hXB:XB (OE (vW zc a0) ta (Ez O) ⟨none,bs⟩) (pR G none) B:=.inl ⟨_,List.mem_of_getElem? hOk,rfl⟩
  have hrun:=rT (P:=P) hsz hc hl h1 (hG.1.at_ k hOk) (j:=0) (by have:=Nat.le_of_ble_eq_true hzl;omega)
  have hO':OE (vW zc a0) ta (Ez O) ⟨some (a.eval (.tmp tyy)),bs⟩=(OE (vW zc a0) ta (Ez O) ⟨none,bs⟩).set k (B,eJ (zc a0) 0 vs,ta a0):=by
   unfold OE
   rw [List.set_append_left _ _ (by simpa using hkl)]
   congr 1
   apply List.ext_getElem?
   intro j
   rw [List.getElem?_set,List.getElem?_map,List.getElem?_map]
   by_cases hj:k=j
   ·subst hj
    rw [if_pos rfl,hk,if_pos (by simpa using hkl)]
    show some (B,vW zc a0 a0 (some (a.eval (.tmp tyy))),ta a0)=_
    rw [caSt_at,hc]
   ·rw [if_neg hj]
    cases hq:bs[j]? with
    | none=>rfl
    | some q =>
     have hne:q.1≠a0:=fun e=>by
      have hjl:=(List.getElem?_eq_some_iff.1 hq).1
      have e1:=(List.getElem?_eq_some_iff.1 hq).2
      have e2:=(List.getElem?_eq_some_iff.1 hk).2
      have hp:=List.pairwise_iff_getElem.1 hbs
      rcases Nat.lt_or_ge j k with h | h
      ·have:=hp j k hjl hkl h;rw [e1,e2] at this;exact this e
      ·have:=hp k j hkl hjl (by omega);rw [e1,e2] at this;exact this e.symm
     have hb:Nat.beq q.1 a0=false:=by
      cases hb:Nat.beq q.1 a0 with
      | true=>exact absurd (Nat.eq_of_beq_eq_true hb) hne
      | false=>rfl
     show some (q.2,vW zc a0 q.1 (some (a.eval (.tmp tyy))),ta q.1)=some (q.2,vW zc a0 q.1 none,ta q.1)
     rw [caSt_ne _ _ hb]
     rfl
  refine C1 hi rfl rfl rfl (by rw [ex];exact hrun) ⟨undef,a.eval (.tmp tyy),rfl,(fun d hd=>by cases hd),?_,pZ hXB,?_,fun d hd=>?_⟩
  ·rw [hO']
   exact hG.1.setMany k vs 0 hOk
  ·rintro b (⟨p,hp,rfl⟩ | h)
   ·rw [hO'] at hp
    rcases List.mem_or_eq_of_mem_set hp with hp | rfl
    ·exact .inl (.inl ⟨p,hp,rfl⟩)
    ·exact .inl hXB
   ·exact .inl (.inr h)
  ·rw [hjy] at hd;cases hd;rfl
end
theorem kY {w:World} {base size n:Nat} {e:TypeId} {v:Value} {xs:List Value} (h:w.ownsRow base e size v n xs):∃ a c,v = .slice a n c∧n≤c:=by
 rcases h.2 with ⟨rfl,rfl⟩ | ⟨g,cap,cur,rfl,_,_,hn,_⟩
 ·exact ⟨none,0,rfl,Nat.le_refl _⟩
 ·exact ⟨_,cap,rfl,hn⟩
theorem E0 {w:World} {base size n:Nat} {e:TypeId} {v:Value} {xs:List Value} (h:w.ownsRow base e size v n xs) (hn:0 < n):∃ b c,v = .slice (some ⟨b,0,none⟩) n c∧base≤b:=by
 rcases h.2 with ⟨rfl,rfl⟩ | ⟨g,cap,cur,rfl,hb,_,_,_⟩
 ·omega
 ·exact ⟨_,cap,rfl,hb⟩
theorem As {w:World} {base base' size n:Nat} {e:TypeId} {v:Value} {xs:List Value} (h:w.ownsRow base e size v n xs) (hb:base'≤base):w.ownsRow base' e size v n xs :=
 ⟨h.1,h.2.imp id fun ⟨g,cap,cur,e,hg,k⟩=>⟨g,cap,cur,e,Nat.le_trans hb hg,k⟩⟩
theorem lT {w W:World} {lo size n:Nat} {e:TypeId} {v:Value} {xs:List Value} (h:w.ownsRow lo e size v n xs) (hg:cZ lo w W):W.ownsRow lo e size v n xs:=by
 refine ⟨h.1,?_⟩
 rcases h.2 with h2 | ⟨g,cap,cur,rfl,hb,hh,k⟩
 ·exact .inl h2
 ·exact .inr ⟨g,cap,cur,rfl,hb,(hg.2 g hb (dI hh)).trans hh,k⟩
theorem fX {w:World} {base size n:Nat} {e:TypeId} {a:Option Addr} {c:Nat} {xs:List Value} (h:w.ownsRow base e size (.slice a n c) n xs):(a=none∧n=0)∨∃ b,a=some ⟨b,0,none⟩∧base≤b∧∀ (j:Nat) u,xs[j]?=some u→w.cell? ⟨b,j,none⟩=some u:=by
 rcases h.2 with ⟨e1,e2⟩ | ⟨g,cap,cur,e1,hb,hh,hn,hm,hs,ht⟩
 ·cases e1;exact .inl ⟨rfl,e2⟩
 ·cases e1
  refine .inr ⟨g,rfl,hb,fun j u hj=>?_⟩
  rw [← ht,List.getElem?_take] at hj
  split at hj
  ·simp only [World.cell?,hh]
   simpa using hj
  ·cases hj
theorem qA {os:List Oper} {L L':List Asr} {l:Fr} {K:Fr→World→Prop} {W:World} (h:L=L') (k:jS os L' l K W):jS os L l K W:=h▸k
theorem bF {os:List Oper} {L:List Asr} {l:Fr} {W:World} {lo:Nat} {X:Nat→Prop} {c:Value} {K:Fr→World→Prop} {dst:Nat} {op:Op} {ty:TypeId} {pos:String} {aft:Array Edge} {g:Option (Nat×Bool)} (h:jS os L ((dst,c)::l) K W):jS (⟨some dst,op,ty,pos,aft,g⟩::os) (AwS lo X (isV c)::L) l K W:=fun v hv=>by
 have:v=c:=hv.here
 subst this;exact h
theorem tO {os:List Oper} {L:List Asr} {l:Fr} {W:World} {p:Asr} {K:Fr→World→Prop} {op:Op} {ty:TypeId} {pos:String} {aft:Array Edge} {g:Option (Nat×Bool)} (h:jS os L l K W):jS (⟨none,op,ty,pos,aft,g⟩::os) (p::L) l K W:=fun _ _=>h
section
variable {w0 W:World} {O:Own} {G:cR} {K:List (Nat×World)}
theorem St.castO {O':Own} (h:St w0 O G K W) (e:O=O'):St w0 O' G K W:=e▸h
theorem St.castG {G':cR} (h:St w0 O G K W) (e:G=G'):St w0 O G' K W:=e▸h
def iT (w0:World) (Kk:List (Nat×World)) (p:World→Prop):Prop:=∀ {O2:Own} {G2:cR} {K2:List (Nat×World)} {W2:World},St w0 O2 G2 K2 W2→(∀ q∈Kk,q∈K2)→p W2
theorem iT.now {p:World→Prop} (h:iT w0 K p) (hS:St w0 O G K W):p W:=h hS (fun q hq=>hq)
theorem iT.one {p:World→Prop} {lo:Nat} {A:World} (h:∀ W2,cZ lo A W2→p W2):iT w0 [(lo,A)] p:=fun h2 hk=>h _ (h2.kept (lo,A) (hk _ List.mem_cons_self)).1
theorem iT.more {p:World→Prop} {Kk Kl:List (Nat×World)} (h:iT w0 Kk p) (k:∀ q∈Kk,q∈Kl):iT w0 Kl p:=fun h2 hk=>h h2 (fun q hq=>hk q (k q hq))
end
section
variable {P:Program} {n:Nat} {ops:Array Oper} {Q:Exit→Act→World→Prop} {l:Fr} {w0 W:World} {O:Own} {G:cR} {K:List (Nat×World)} {os:List Oper} {d:Nat} {ty:TypeId} {pos:String} {aft:Array Edge}
theorem mJ {f:FuncId} {args:Array Operand} {ts:Array TypeId} {vs:List Value} {R:Ending→World→Prop} (hgo:bW P f=true) (ha:args.toList.map (evL l)=vs.map some) (hc:Calls P f vs.toArray W R)
  (hd:Nat.blt d n=true)
  (h:∀ e W',R e W'→∃ v,e = .returned v∧cT P n ops Q os ((d,v)::l) W'):cT P n ops Q (⟨some d,.call { callee:=.value (.func f),args:=args,argTypes:=ts },ty,pos,aft,none⟩::os) l W:=fun a hl=>by
 refine wpList_plain rfl fun K' hK=>?_
 unfold Oper.wp
 rw [lX P a.eval W f args ts _ rfl rfl hgo,Oper.upon_enter]
 have hargs:args.map a.eval=vs.toArray:=by
  have key:∀ (xs:List Operand) (us:List Value),xs.map (evL l)=us.map some→xs.map a.eval=us:=by
   intro xs
   induction xs with
   | nil=>intro us h;cases us<;>simp at h ⊢
   | cons x xs ih =>
    intro us h
    cases us with
    | nil=>simp at h
    | cons u us =>
     simp only [List.map_cons,List.cons.injEq] at h
     simp only [List.map_cons,hl.ev x u h.1,ih us h.2]
  apply Array.ext'
  rw [Array.toList_map,key _ _ ha]
 rw [hargs]
 refine hc.mono ?_
 intro e W' hRe
 obtain ⟨v,rfl,hn⟩:=h e W' hRe
 exact hK _ _ (hn _ (hl.put hd))
end
section
variable {P:Program} {n:Nat} {Q:Exit→Act→World→Prop} {l:Fr} {w0 W:World} {ops:Array Oper} {os:List Oper} {K:List (Nat×World)} {L:List Asr} {i:Nat}
variable {O:Own} {Gs:List Value→cR} {efs:List Nat} {lo:Nat} {s:List Value}
variable {d:Nat} {op:Op} {ty:TypeId} {pos:String} {aft_:Array Edge} {v:Value} {gd:Option (Nat×Bool)}
variable {Goal:List Asr→Prop}
theorem hg0 {Gs:List Value→cR} {gi:Nat} {g:GR} (h:(Gs [])[gi]?=some g):∀ s,s.length=0→(Gs s)[gi]?=some g:=fun s hs=>by rw [List.eq_nil_of_length_eq_zero hs];exact h
theorem hg1 {Gs:List Value→cR} {gi:Nat} {g:GR} (h:∀ a,(Gs [a])[gi]?=some g):∀ s,s.length=1→(Gs s)[gi]?=some g:=fun s hs=>by obtain ⟨a,rfl⟩:=List.length_eq_one_iff.1 hs;exact h a
end
section
variable {P:Program} {ops:Array Oper} {Q:Exit→Act→World→Prop} {σ:Type}
structure RInvF (fr:Nat→Bool) (ops:Array Oper) (t0:Array Value) (d0:List Deferred) (G:σ→World→Prop) (I:σ→Nat→Value→World→Prop) (V:σ→Array Bool→Prop) (s:σ) (L:Array Bool) (a:Act) (w:World):Prop where
 size:a.tmps.size=t0.size
 defers:a.defers=d0
 frame:∀ t,fr t=true→a.tmps.getD t undef=t0.getD t undef
 glob:G s w
 cons:V s L
 done:∀ i d,(ops[i]?).bind (·.dst)=some d→L.getD i false=true→I s i (a.tmps.getD d undef) w
def E1 (P:Program) (fr:Nat→Bool) (ops:Array Oper) (Q:Exit→Act→World→Prop) (t0:Array Value) (G:σ→World→Prop) (I:σ→Nat→Value→World→Prop) (V:σ→Array Bool→Prop) (i:Nat):Prop :=
 ∀ s L (a:Act) w,(∀ t,fr t=true→a.eval (.tmp t)=t0.getD t undef)→G s w→V s L→L.size=ops.size→gE ops L→oL ops L i→(∀ j d,bO ops i j d=true→I s j (a.eval (.tmp d)) w) →
  wpOp P ops Q i (fun a' w'=>∃ s' v,a'=a.put ((ops[i]?).bind (·.dst)) v∧V s' (L.setIfInBounds i true)∧G s' w'∧(∀ d,(ops[i]?).bind (·.dst)=some d→I s' i v w')∧(∀ j d,j≠i→(ops[j]?).bind (·.dst)=some d→I s j (a.tmps.getD d undef) w→I s' j (a.tmps.getD d undef) w')) a w
theorem qB {fr:Nat→Bool} {t0:Array Value} {d0:List Deferred} {G:σ→World→Prop} {I:σ→Nat→Value→World→Prop} {V:σ→Array Bool→Prop} {k:Nat} (hfr:∀ i d,i < k→(ops[i]?).bind (·.dst)=some d→fr d=false) (hk:k < ops.size) (hl:tM ops k=true) (ht:dQ ops t0.size=true)
  (hstep:∀ i,i < k→E1 P fr ops Q t0 G I V i)
  (hfin:∀ s L a w,RInvF fr ops t0 d0 G I V s L a w→(∀ i,i < k→L.getD i false=true)→(∀ i,k≤i→L.getD i false=false)→wpList P ops Q (ops.toList.drop k) a w) :
  ∀ (fuel:Nat) (s:σ) (L:Array Bool) (a:Act) (w:World),L.size=ops.size→L.toList.count false≤fuel→gE ops L→(∀ i,k≤i→L.getD i false=false)→RInvF fr ops t0 d0 G I V s L a w→wpAny P .any ops Q fuel L a w:=by
 intro fuel
 induction fuel with
 | zero =>
  intro s L a w hs hc hcl hn h
  have:=eR _ _ (jO (by omega) (hn k (Nat.le_refl _)))
  omega
 | succ fuel ih =>
  intro s L a w hs hc hcl hn h
  by_cases hall:∀ i,i < k→L.getD i false=true
  ·have hcnt:ops.size - k≤L.toList.count false:=by
    have key:∀ (l:List Bool) (k:Nat),(∀ i,k≤i→i < l.length→l[i]?=some false)→l.length - k≤l.count false:=by
     intro l
     induction l with
     | nil=>intro k _;simp
     | cons b l ihl =>
      intro k hk
      cases k with
      | zero =>
       have h0:=hk 0 (Nat.le_refl _) (by simp)
       simp at h0;subst h0
       have:=ihl 0 (fun i _ hi=>by have:=hk (i+1) (by omega) (by simpa using hi);simpa using this)
       simp at this ⊢;omega
      | succ k =>
       have:=ihl k (fun i hi hi2=>by have:=hk (i+1) (by omega) (by simpa using hi2);simpa using this)
       rw [List.count_cons];simp;omega
    have:=key L.toList k (fun i h1 h2=>jO (by simpa using h2) (hn i h1))
    simpa [hs] using this
   exact oM (fun _ _=>trivial) hl ht (ops.size - k) k (fuel+1) L a w (by omega) (Nat.le_refl _) (by omega) hs hcl hall hn (hfin s L a w h hall hn)
  ·refine ⟨fun hr=>?_,fun i hi=>?_⟩
   ·exfalso;apply hall
    intro i hi
    have h1:=fV ht hs hr i (by omega)
    rw [Array.getD_eq_getD_getElem?,Array.getElem?_eq_getElem (by omega)] at h1 ⊢
    simpa using h1
   ·obtain ⟨his,hr⟩:=pJ hi hs
    have hik:i < k:=by
     rcases Nat.lt_or_ge i k with h1 | h1
     ·exact h1
     ·exfalso;apply hall
      intro x hx
      exact lM hcl hr x (qQ hl his h1 (by omega))
    have hc1:=eR _ _ (jO (by omega) hr.1)
    refine wpOp_mono ?_ (hstep i hik s L a w (fun t ht=>h.frame t ht) h.glob h.cons hs hcl hr (fun j d hw=>?_))
    ·rintro a' w' ⟨s',v,rfl,hV,hG,hI,hst⟩
     refine ih s' _ _ _ (by simpa using hs) ?_ (hcl.next hr (by omega)) (fun x hx=>by rw [getD_set_ne false (by omega)];exact hn x hx) ⟨by rw [kK];exact h.size,by rw [iC];exact h.defers,fun t hf=>?_,hG,hV,fun j d hd hj=>?_⟩
     ·rw [Array.toList_setIfInBounds];omega
     ·rw [eH ?_]
      ·exact h.frame t hf
      ·intro hd
       rw [hfr i t hik hd] at hf;cases hf
     ·by_cases hji:j=i
      ·subst hji
       rw [qE hd (by rw [h.size];exact (fU ht hd).1)]
       exact hI d hd
      ·rw [getD_set_ne false (Ne.symm hji)] at hj
       rw [eH (fun e=>hji ((fU ht e).2 j hd))]
       exact hst j d hji hd (h.done j d hd hj)
    ·have hj:j∈aft ops i:=by
      unfold bO at hw
      unfold aft
      cases ho:ops[i]? with
      | none=>simp [ho] at hw
      | some o =>
       simp only [ho,Bool.and_eq_true,beq_iff_eq] at hw
       obtain ⟨e,he,h2⟩:=Array.any_eq_true'.1 hw.1
       simp only [Bool.and_eq_true,beq_iff_eq] at h2
       exact List.mem_map.2 ⟨e,List.mem_filter.2 ⟨Array.mem_toList_iff.2 he,h2.2⟩,h2.1⟩
     have hd:(ops[j]?).bind (·.dst)=some d:=by
      unfold bO at hw
      rw [Bool.and_eq_true,beq_iff_eq] at hw
      exact hw.2
     exact h.done j d hd (hr.2 j hj)
end
abbrev Sy:=Nat→Option Value
def isE (s:Sy) (e:Nat):Asr:=fun v _=>s e=some v
def LS (E:List Nat) (s:Sy):Nat→List Asr→List Asr
 | _,[]=>[]
 | j,q::L=>(bif E.contains j then isE s j else q)::LS E s (j+1) L
theorem E2 {E:List Nat} {s:Sy}:∀ (L:List Asr) (j i:Nat),i < L.length→atI (LS E s j L) i=(bif E.contains (i+j) then isE s (i+j) else atI L i)
 | [],j,i,h=>by simp at h
 | q::L,j,0,h=>by rw [Nat.zero_add];rfl
 | q::L,j,i+1,h=>by
  show atI (LS E s (j+1) L) i=_
  rw [E2 L (j+1) i (by simpa using h),show i+1+j=i+(j+1) by omega]
  rfl
theorem yH {E:List Nat} {s:Sy}:∀ (L:List Asr) (j:Nat),(LS E s j L).length=L.length
 | [],_=>rfl
 | q::L,j=>by show (LS E s (j+1) L).length+1=_;rw [yH L (j+1)];rfl
theorem E3 {E:List Nat} {s:Sy} {L:List Asr} {j:Nat} {p:Asr} (hl:Nat.blt j L.length=true) (he:E.contains j=false) (h:atI L j=p):atI (LS E s 0 L) j=p:=by
 rw [E2 L 0 j (Nat.lt_of_lt_of_le (Nat.lt_succ_self _) (Nat.le_of_ble_eq_true hl)),Nat.add_zero,he,cond_false,h]
structure AB where
 a:Nat
 T:TypeId
 zs:List Value
 st:Nat
def blkNo:Value→Nat
 | .pointer (some p)=>p.block
 | _=>0
def AB.cs (q:AB) (s:Sy):List Value:=match s q.st with | none=>q.zs | some y=>eJ q.zs 0 y.cells.toList
def AS (al:List AB) (s:Sy):Own:=al.flatMap fun q=>match s q.a with | some v=>[(blkNo v,q.cs s,q.T)] | none=>[]
theorem AS_none (al:List AB):AS al (fun _=>none)=[]:=by
 unfold AS
 induction al with
 | nil=>rfl
 | cons q al ih=>rw [List.flatMap_cons,ih];rfl
section
variable {P:Program} {n:Nat} {Q:Exit→Act→World→Prop} {l:Fr} {w0 W:World} {ops opf:Array Oper} {os:List Oper} {K:List (Nat×World)} {L:List Asr} {i:Nat}
variable {Ob:Own} {al:List AB} {G:Sy→cR} {E:List Nat} {lo:Nat} {s:Sy}
abbrev OY (al:List AB) (Ob:Own) (s:Sy):Own:=AS al s++Ob
def GY0 (w0:World) (K:List (Nat×World)) (lo:Nat) (al:List AB) (Ob:Own) (G:Sy→cR) (s:Sy) (w:World):Prop:=St w0 (OY al Ob s) (G s) K w∧lo≤w.heap.size
def GY (w0:World) (K:List (Nat×World)) (lo:Nat) (al:List AB) (Ob:Own) (G:Sy→cR) (E:List Nat) (L:List Asr) (s:Sy) (w:World):Prop:=GY0 w0 K lo al Ob G s w∧∀ e∈E,∀ v,s e=some v→AwS lo (XB (OY al Ob s) (G s)) (atI L e) v w
def VY (E:List Nat) (s:Sy) (L:Array Bool):Prop:=(∀ e∈E,(L.getD e false=true↔(s e).isSome=true))∧∀ e,e∉E→s e=none
def IY (lo:Nat) (al:List AB) (Ob:Own) (G:Sy→cR) (E:List Nat) (L:List Asr) (s:Sy) (i:Nat) (v:Value) (w:World):Prop:=(i∈E→s i=some v)∧AwS lo (XB (OY al Ob s) (G s)) (atI L i) v w
structure Kn (ops:Array Oper) (E:List Nat) (i:Nat) (s:Sy):Prop where
 yes:∀ e,E.contains e=true→(earlyL ops i).contains e=true→∃ v,s e=some v
 no:∀ e,(earlyL ops e).contains i=true→s e=none
 out:∀ e,E.contains e=false→s e=none
 self:s i=none
def TrY (al:List AB) (Ob:Own) (G:Sy→cR) (i:Nat) (s s':Sy) (w w':World):Prop:=eP 0 (XB (OY al Ob s) (G s)) w w'∧(∀ b,XB (OY al Ob s') (G s') b→XB (OY al Ob s) (G s) b∨w.heap.size≤b)∧∀ j,j≠i→s' j=s j
def SY (P:Program) (n:Nat) (ops opf:Array Oper) (Q:Exit→Act→World→Prop) (l:Fr) (w0:World) (K:List (Nat×World)) (lo:Nat) (al:List AB) (Ob:Own) (G:Sy→cR) (E:List Nat) (L:List Asr) (i:Nat):Prop :=
 ∀ t0,Has n l t0→∀ s LB (a:Act) w,(∀ t,freeT opf t=true→a.eval (.tmp t)=t0.tmps.getD t undef)→GY0 w0 K lo al Ob G s w→VY E s LB→LB.size=ops.size→gE ops LB→oL ops LB i→(∀ j d,bO ops i j d=true→IY lo al Ob G E L s j (a.eval (.tmp d)) w) →
  wpOp P ops Q i (fun a' w'=>∃ s' v,a'=a.put ((ops[i]?).bind (·.dst)) v∧VY E s' (LB.setIfInBounds i true)∧GY0 w0 K lo al Ob G s' w'∧TrY al Ob G i s s' w w'∧(∀ d,(ops[i]?).bind (·.dst)=some d→IY lo al Ob G E L s' i v w')∧(i∈E→∀ y,s' i=some y→AwS lo (XB (OY al Ob s') (G s')) (atI L i) y w')) a w
theorem SY.step (h:SY P n ops opf Q l w0 K lo al Ob G E L i):∀ a,Has n l a→E1 P (freeT opf) ops Q a.tmps (GY w0 K lo al Ob G E L) (IY lo al Ob G E L) (VY E) i:=fun t0 h0 s LB a w hF hG hV hs hc hr hD=>by
 refine wpOp_mono ?_ (h t0 h0 s LB a w hF hG.1 hV hs hc hr hD)
 rintro a' w' ⟨s',v,h1,h2,h3,⟨t1,t2,t3⟩,h5,h6⟩
 refine ⟨s',v,h1,h2,⟨h3,fun e he y hy=>?_⟩,h5,fun j d hji hd hj=>⟨fun hjE=>?_,hj.2.next t1 t2⟩⟩
 ·by_cases hei:e=i
  ·subst hei;exact h6 he y hy
  ·rw [t3 e hei] at hy
   exact (hG.2 e he y hy).next t1 t2
 ·rw [t3 j hji];exact hj.1 hjE
theorem L7 (ht:dQ ops n=true) {j d:Nat} (hw:bO ops i j d=true):j < i:=by
 cases ho:ops[i]? with
 | none=>simp [bO,ho] at hw
 | some o =>
  simp only [bO,ho,Bool.and_eq_true,beq_iff_eq] at hw
  obtain ⟨e,he,h2⟩:=Array.any_eq_true'.1 hw.1
  simp only [Bool.and_eq_true,beq_iff_eq] at h2
  rw [← h2.1];exact kJ ht ho e he h2.2
theorem SY.ext {L1 L2:List Asr} (ht:dQ ops n=true) (hag:∀ j,j≤i→atI L1 j=atI L2 j) (h:SY P n ops opf Q l w0 K lo al Ob G E L1 i):SY P n ops opf Q l w0 K lo al Ob G E L2 i:=fun t0 h0 s LB a w hF hG hV hs hc hr hD=>by
 have h2:=h t0 h0 s LB a w hF hG hV hs hc hr (fun j d hw=>by unfold IY;rw [hag j (Nat.le_of_lt (L7 ht hw))];exact hD j d hw)
 unfold IY at h2
 rw [hag i (Nat.le_refl _)] at h2
 exact h2
theorem kn_of {LB:Array Bool} (hV:VY E s LB) (hs:LB.size=ops.size) (hc:gE ops LB) (hr:oL ops LB i):Kn ops E i s where
 yes e he h:=Option.isSome_iff_exists.1 ((hV.1 e (List.contains_iff_mem.1 he)).1 (lM hc hr e (List.contains_iff_mem.1 h)))
 no e h:=by
  cases hse:s e with
  | none=>rfl
  | some v =>
   have hE:e∈E:=Decidable.byContradiction fun hn=>by rw [hV.2 e hn] at hse;cases hse
   have hd:LB.getD e false=true:=(hV.1 e hE).2 (by rw [hse];rfl)
   have:=jB (D:=fun x=>LB.getD x false=true) (hc e hd) (fun j hj x hx=>hc j hj x hx) i (List.contains_iff_mem.1 h)
   rw [hr.1] at this;cases this
 out e h:=hV.2 e (fun hm=>by rw [List.contains_iff_mem.2 hm] at h;cases h)
 self:=by
  cases hse:s i with
  | none=>rfl
  | some v =>
   have hE:i∈E:=Decidable.byContradiction fun hn=>by rw [hV.2 i hn] at hse;cases hse
   have:=(hV.1 i hE).2 (by rw [hse];rfl)
   rw [hr.1] at this;cases this
theorem deps_LS {a:Act} {w:World} (hD:∀ j d,bO ops i j d=true→IY lo al Ob G E L s j (a.eval (.tmp d)) w):∀ j d,bO ops i j d=true→atI (LS E s 0 L) j (a.eval (.tmp d)) w:=fun j d hw=>by
 rcases Nat.lt_or_ge j L.length with hj | hj
 ·rw [E2 L 0 j hj,Nat.add_zero]
  cases hc:E.contains j with
  | true=>rw [cond_true];exact (hD j d hw).1 (List.contains_iff_mem.1 hc)
  | false=>rw [cond_false];exact (hD j d hw).2.here
 ·rw [Ar (by rw [yH];exact hj)];trivial
theorem joinF {x y:Code} (R:Fr→World→Prop) (h2:∀ l W,R l W→eC P n y Q l W) (h1:eC P n x (Exit.then (fun a' w'=>∃ l',R l' w'∧Has n l' a') Q) l W):eC P n (.seq x y) Q l W :=
 aO (fun a ha=>wp_mono (h1 a ha) (fun e a' w' h=>by
  cases e with
  | normal=>obtain ⟨l',hr,hh⟩:=h;exact h2 l' w' hr a' hh
  | _=>exact h))
theorem XF.join {R:Fr→World→Prop} (l':Fr) (hs:Bg l l') (hI:R l' W):XF (Exit.then (fun a' w'=>∃ l',R l' w'∧Has n l' a') Q) .normal n l W:=fun a ha=>⟨l',hI,ha.sub hs⟩
structure Fst (ops opf:Array Oper):Prop where
 same:∀ (i:Nat) (o:Oper),opf[i]?=some o→ops[i]?=some o
theorem hZ {os:List Oper} {k:Nat}:Fst os.toArray (os.take k).toArray:=⟨fun i o h=>by
 have h1:(os.take k)[i]?=some o:=by simpa using h
 rw [List.getElem?_take] at h1
 split at h1
 ·simpa using h1
 ·cases h1⟩
theorem Fst.waits (h:Fst ops opf) {i j d:Nat} (hw:bO opf i j d=true):bO ops i j d=true:=by
 unfold bO at hw ⊢
 rw [Bool.and_eq_true] at hw ⊢
 cases ho:opf[i]? with
 | none=>simp [ho] at hw
 | some o =>
  rw [ho] at hw
  rw [h.same i o ho]
  refine ⟨hw.1,?_⟩
  cases hj:opf[j]? with
  | none=>simp [hj] at hw
  | some o2=>rw [hj] at hw;rw [h.same j o2 hj];exact hw.2
variable {d:Nat} {op:Op} {ty:TypeId} {pos:String} {aft_:Array Edge} {v:Value} {gd:Option (Nat×Bool)}
theorem L8 {LB:Array Bool} (hV:VY E s LB) (hi:i∉E):VY E s (LB.setIfInBounds i true) :=
 ⟨fun e he=>by rw [getD_set_ne false (fun h=>hi (by rw [h];exact he))];exact hV.1 e he,hV.2⟩
theorem He (hie:E.contains i=false) (hi:ops[i]?=some ⟨some d,op,ty,pos,aft_,gd⟩)
  (h:∀ (t0 a:Act) s w,Has n l t0→(∀ t,freeT opf t=true→a.eval (.tmp t)=t0.tmps.getD t undef)→GY0 w0 K lo al Ob G s w→Kn ops E i s→(∀ j d,bO ops i j d=true→IY lo al Ob G E L s j (a.eval (.tmp d)) w)→(∀ j d,bO ops i j d=true→atI (LS E s 0 L) j (a.eval (.tmp d)) w) →
   wpOp P ops Q i (fun a' w'=>∃ v,a'=a.put (some d) v∧AwS lo (XB (OY al Ob s) (G s)) (atI L i) v w'∧Below w.heap.size w w') a w):SY P n ops opf Q l w0 K lo al Ob G E L i:=fun t0 h0 s LB a w hF hG hV hs hc hr hD=>by
 have hie':i∉E:=fun h=>by rw [List.contains_iff_mem.2 h] at hie;cases hie
 refine wpOp_mono ?_ (h t0 a s w h0 hF hG (kn_of hV hs hc hr) hD (deps_LS hD))
 rintro a' w' ⟨v,rfl,hA,hb⟩
 exact ⟨s,v,by rw [hi];rfl,L8 hV hie',⟨hG.1.grow hb,Nat.le_trans hG.2 hb.size⟩,⟨vU hb,fun b hb=>.inl hb,fun _ _=>rfl⟩,fun _ _=>⟨fun h=>absurd h hie',hA⟩,fun h=>absurd h hie'⟩
theorem syV (hf:Fst ops opf) (li:Fr) (hie:E.contains i=false) (hi:ops[i]?=some ⟨some d,op,ty,pos,aft_,gd⟩) (hw:∀ s,gT ops (LS E s 0 L) i ⟨some d,op,ty,pos,aft_,gd⟩) (hli:∀ s,wX n opf l (LS E s 0 L) i li)
  (hr:∀ s w,St w0 Ob (G s) K w→fZ P li ⟨some d,op,ty,pos,#[],none⟩ w v w) (hI:atI L i=isV v):SY P n ops opf Q l w0 K lo al Ob G E L i :=
 He hie hi fun t0 a s w h0 hF hG hk hD hD'=>by
  exact Ap hi ((hw s).yes hD') (by rw [fO a.eval _ _ _ _ pos _ #[] _ none];exact hr s w (St.drops _ hG.1) a.eval (nZ h0 hF (fun j d h=>hD' j d (hf.waits h)) (hli s))) ⟨v,rfl,by rw [hI];exact Ao,Below.refl _ _⟩
theorem sy_call {f:FuncId} {xs:List Operand} {ts:Array TypeId} (hf:Fst ops opf) (ps:Sy→List Asr) (hie:E.contains i=false) (hi:ops[i]?=some ⟨some d,.call { callee:=.value (.func f),args:=xs.toArray,argTypes:=ts },ty,pos,aft_,gd⟩) (hgo:bW P f=true)
  (hw:∀ s,gT ops (LS E s 0 L) i ⟨some d,.call { callee:=.value (.func f),args:=xs.toArray,argTypes:=ts },ty,pos,aft_,gd⟩) (hp:∀ s,wY n opf l (LS E s 0 L) i xs (ps s))
  {p:Asr} (hc:∀ vs s w,Kn ops E i s→St w0 Ob (G s) K w→lo≤w.heap.size→nM (ps s) vs w→Calls P f vs.toArray w (zM p w)) (hI:atI L i=p):SY P n ops opf Q l w0 K lo al Ob G E L i :=
 He hie hi fun t0 a s w h0 hF hG hk hD hD'=>by
  have h1:=hc (xs.map a.eval) s w hk (St.drops _ hG.1) hG.2 (jA h0 hF (fun j d h=>hD' j d (hf.waits h)) (hp s))
  rw [show (xs.map a.eval).toArray=xs.toArray.map a.eval by simp] at h1
  unfold wpOp
  simp only [hi,(hw s).yes hD',if_true]
  refine .inl ?_
  unfold Oper.wp
  rw [lX P a.eval w f xs.toArray ts _ rfl rfl hgo,Oper.upon_enter]
  refine h1.mono ?_
  rintro e w' ⟨v,rfl,hv,hb⟩
  refine ⟨v,by simp,?_,hb⟩
  rw [hI]
  intro w2 h2
  refine hv w2 ⟨h2.2.1,fun b h3 h4=>h2.2.2 b (Nat.le_trans hG.2 h3) h4 (fun hx=>?_)⟩
  rcases hx with ⟨q,hq,rfl⟩ | ⟨g,hg,hgb⟩
  ·have:=dI (hG.1.own q hq).2;omega
  ·have:=(hG.1.glt hg hgb).2;omega
def BLY (P:Program) (n:Nat) (ops opf:Array Oper) (Q:Exit→Act→World→Prop) (l:Fr) (w0:World) (K:List (Nat×World)) (lo:Nat) (al:List AB) (Ob:Own) (G:Sy→cR) (E:List Nat) (Goal:List Asr→Prop):Nat→List Asr→Nat→Prop
 | 0,Lr,_=>Goal Lr
 | m+1,Lr,k=>∃ q,SY P n ops opf Q l w0 K lo al Ob G E (q::Lr).reverse k∧BLY P n ops opf Q l w0 K lo al Ob G E Goal m (q::Lr) (k+1)
variable {Goal:List Asr→Prop}
theorem bly_nil {Lr:List Asr} {k:Nat} (h:Goal Lr):BLY P n ops opf Q l w0 K lo al Ob G E Goal 0 Lr k:=h
theorem iA {m k:Nat} {Lr:List Asr} (k':Nat) (hk:k+1=k') (q:Asr) (h:SY P n ops opf Q l w0 K lo al Ob G E (q::Lr).reverse k) (hr:BLY P n ops opf Q l w0 K lo al Ob G E Goal m (q::Lr) k'):BLY P n ops opf Q l w0 K lo al Ob G E Goal (m+1) Lr k:=by
 subst hk;exact ⟨q,h,hr⟩
theorem Hf (ht:dQ ops n=true):∀ (m k:Nat) (Lr:List Asr),Lr.length=k→(∀ i,i < k→SY P n ops opf Q l w0 K lo al Ob G E Lr.reverse i)→BLY P n ops opf Q l w0 K lo al Ob G E Goal m Lr k →
  ∃ Lr',Lr'.length=k+m∧(∀ i,i < k+m→SY P n ops opf Q l w0 K lo al Ob G E Lr'.reverse i)∧Goal Lr'
 | 0,k,Lr,hl,hg,h=>⟨Lr,hl,hg,h⟩
 | m+1,k,Lr,hl,hg,⟨q,hr,hn⟩=>by
  have hap:∀ j,j < k→atI Lr.reverse j=atI (q::Lr).reverse j:=fun j hj=>by rw [List.reverse_cons,kP (by simp;omega)]
  obtain ⟨L',h1,h3,h4⟩:=Hf ht m (k+1) (q::Lr) (by simp [hl]) (fun i hi=>by
   by_cases hik:i=k
   ·subst hik;exact hr
   ·exact SY.ext ht (fun j hj=>hap j (by omega)) (hg i (by omega))) hn
  exact ⟨L',by omega,fun i hi=>h3 i (by omega),h4⟩
def L9 (E:List Nat) (lo:Nat) (X:Nat→Prop) (s:Sy):Nat→List Asr→List Asr
 | _,[]=>[]
 | j,q::L=>(bif E.contains j then isE s j else AwS lo X q)::L9 E lo X s (j+1) L
theorem vX {X:Nat→Prop}:∀ (L:List Asr) (j i:Nat),i < L.length→atI (L9 E lo X s j L) i=(bif E.contains (i+j) then isE s (i+j) else AwS lo X (atI L i))
 | [],j,i,h=>by simp at h
 | q::L,j,0,h=>by rw [Nat.zero_add];rfl
 | q::L,j,i+1,h=>by
  show atI (L9 E lo X s (j+1) L) i=_
  rw [vX L (j+1) i (by simpa using h),show i+1+j=i+(j+1) by omega]
  rfl
theorem regY {id k:Nat} {ds:List Nat} {G0:cR} (hm:P.follows .mixedOrders=true) (hlo:lo=W.heap.size) (hS:St w0 Ob G0 K W) (hG0:G (fun _=>none)=G0) (hk:Nat.blt k os.length=true) (htl:tM os.toArray k=true) (ht:dQ os.toArray n=true) (hE:E.all (fun a=>Nat.blt a k)=true)
  (hdst:(List.range k).all (fun j=>E.contains j || ((os.toArray[j]?).bind (·.dst)).isSome)=true) (hds:(os.drop k).all (fun o=>match o.dst with | some d=>ds.contains d | none=>true)=true)
  (h:BLY P n os.toArray (os.take k).toArray Q l w0 K lo al Ob G E (fun Lr=>∀ (s:Sy) (W':World) (Ks:List (Nat×World)),(∀ e,E.contains e=true→∃ v,s e=some v)→W.heap.size≤W'.heap.size→(∀ q∈Ks,lo≤q.1)→St w0 (OY al Ob s) (G s) (Ks++K) W' →
   (∀ {O2 G2 K2 W2},St w0 O2 G2 K2 W2→(∀ q∈Ks,q∈K2)→eP lo (XB (OY al Ob s) (G s)) W' W2)→(∀ e,E.contains e=true→∀ v,s e=some v→AwS lo (XB (OY al Ob s) (G s)) (atI Lr.reverse e) v W')→(∀ e,E.contains e=false→s e=none) →
   jS (os.take k) (L9 E lo (XB (OY al Ob s) (G s)) s 0 Lr.reverse) (nQ ds l) (fun l' W'=>cT P n os.toArray Q (os.drop k) l' W') W') k [] 0):eC P n (.region id os.toArray true) Q l W:=by
 obtain ⟨Lr,h1,h2,hfin⟩:=Hf ht k 0 [] rfl (fun i hi=>by omega) h
 rw [Nat.zero_add] at h1 h2
 have hk':k < os.length:=Nat.lt_of_lt_of_le (Nat.lt_succ_self _) (Nat.le_of_ble_eq_true hk)
 have hE':∀ a∈E,a < k:=fun a ha=>Nat.lt_of_lt_of_le (Nat.lt_succ_self _) (Nat.le_of_ble_eq_true (List.all_eq_true.1 hE a ha))
 intro a ha
 have hrep:∀ (m j:Nat),(Array.replicate m false).getD j false=false:=fun m j=>by
  rw [Array.getD_eq_getD_getElem?,Array.getElem?_replicate];split<;>rfl
 refine wp_region_any hm (qB (fr:=freeT (os.take k).toArray) (t0:=a.tmps) (d0:=a.defers) (V:=VY E) (I:=IY lo al Ob G E Lr.reverse) (G:=GY w0 K lo al Ob G E Lr.reverse) (k:=k) (fun i d hik hd=>?_) (by simpa using hk') htl (by rw [ha.size];exact ht) (fun i hi=>(h2 i hi).step a ha) ?_ _ (fun _=>none) _ _ _ (by simp) (iD _) (fun j hj=>by rw [hrep] at hj;cases hj) (fun i _=>hrep _ _) ⟨rfl,rfl,fun _ _=>rfl,⟨⟨by unfold OY;rw [AS_none,hG0];exact hS.drew,by rw [hlo];exact Nat.le_refl _⟩,fun _ _ _ h=>(by cases h)⟩,⟨fun e he=>⟨fun h3=>(by rw [hrep] at h3;cases h3),fun h3=>(by cases h3)⟩,fun _ _=>rfl⟩,fun i d _ hj=>(by rw [hrep] at hj;cases hj)⟩)
 ·have hd2:(os[i]?).bind (·.dst)=some d:=by simpa using hd
  obtain ⟨o,ho,hod⟩:=Option.bind_eq_some_iff.1 hd2
  have hm2:o∈os.take k:=List.mem_of_getElem? (i:=i) (by rw [List.getElem?_take,if_pos hik];exact ho)
  cases hf:freeT (os.take k).toArray d with
  | false=>rfl
  | true =>
   unfold freeT at hf
   have:=Array.all_eq_true'.1 hf o (by simpa using hm2)
   rw [hod] at this
   simp at this
 intro s LB a' W' hR hdone hnot
 obtain ⟨⟨hG,hG2⟩,hG3⟩:=hR.glob
 obtain ⟨v1,v2⟩:=hR.cons
 have hall:∀ e,E.contains e=true→∃ v,s e=some v:=fun e he=>Option.isSome_iff_exists.1 ((v1 e (List.contains_iff_mem.1 he)).1 (hdone e (hE' e (List.contains_iff_mem.1 he))))
 obtain ⟨Ks,c1,⟨qw,c2,c3⟩,c4⟩:=Ey (((OY al Ob s).map (·.1))++(G s).filterMap (fun g=>g.v.ownBlock)) lo W'
 have hG4:=hG.more Ks (fun q hq=>⟨(c1 q hq).2.1,fun p hp=>(c1 q hq).2.2 p.1 (List.mem_append_left _ (List.mem_map.2 ⟨p,hp,rfl⟩)),fun g hg b hb=>(c1 q hq).2.2 b (List.mem_append_right _ (List.mem_filterMap.2 ⟨g,hg,hb⟩))⟩)
 have hcov:∀ {O2 G2 K2 W2},St w0 O2 G2 K2 W2→(∀ q∈Ks,q∈K2)→eP lo (XB (OY al Ob s) (G s)) W' W2:=fun {O2 G2 K2 W2} h2 hq=>by
  refine ⟨⟨h2.below.os.trans hG.below.os.symm,h2.below.tape.trans hG.below.tape.symm,h2.below.output.trans hG.below.output.symm⟩,?_,fun b b1 b2 b3=>?_⟩
  ·have:=(h2.kept qw (hq qw c2)).1.1;rw [c3] at this;exact this
  ·obtain ⟨q,q1,q2,q3⟩:=c4 b b1 b2 (fun hb=>b3 (by
    rcases List.mem_append.1 hb with hb | hb
    ·obtain ⟨p,hp,rfl⟩:=List.mem_map.1 hb
     exact .inl ⟨p,hp,rfl⟩
    ·obtain ⟨g,hg,e⟩:=List.mem_filterMap.1 hb
     exact .inr ⟨g,hg,e⟩))
   exact ((h2.kept q (hq q q1)).1.2 b q2 q3).trans ((c1 q q1).2.1.2 b q2 q3).symm
 have htk:(os.take k).length=k:=by simp;omega
 refine mH (os.take k) (L9 E lo (XB (OY al Ob s) (G s)) s 0 Lr.reverse) (nQ ds l) (fun i d hi hd'=>?_) (fun i hi hd'=>?_) (hR.size.trans ha.size) (hR.defers.trans ha.defers) ?_ (fun l' h ha'=>?_) (hfin s W' Ks hall (by rw [← hlo];exact hG2) (fun q hq=>(c1 q hq).1) hG4 hcov (fun e he v hv=>hG3 e (List.contains_iff_mem.1 he) v hv) (fun e he=>v2 e (fun hm=>by rw [List.contains_iff_mem.2 hm] at he;cases he)))
 ·have hik:i < k:=by omega
  have hd2:(os.toArray[i]?).bind (·.dst)=some d:=by rw [List.getElem?_take,if_pos hik] at hd';simpa using hd'
  obtain ⟨i1,i2⟩:=hR.done i d hd2 (hdone i hik)
  rw [vX Lr.reverse 0 i (by simp;omega),Nat.add_zero]
  cases hc1:E.contains i with
  | true=>rw [cond_true];exact i1 (List.contains_iff_mem.1 hc1)
  | false=>rw [cond_false];exact i2
 ·have hik:i < k:=by omega
  have h3:=List.all_eq_true.1 hdst i (List.mem_range.2 hik)
  have hd2:(os.toArray[i]?).bind (·.dst)=none:=by rw [List.getElem?_take,if_pos hik] at hd';simpa using hd'
  rw [hd2] at h3
  have hc:E.contains i=true:=by simpa using h3
  rw [vX Lr.reverse 0 i (by simp;omega),Nat.add_zero,hc,cond_true]
  exact hall i hc
 ·intro t v hv hno
  have hl:=kW hv (eQ hv)
  rw [hR.frame t ?_]
  ·exact ha.at_ t v hl
  ·unfold freeT;rw [Array.all_eq_true'];intro o' ho'
   have ho2:o'∈os.take k:=by simpa using ho'
   simpa using hno o' ho2
 ·have:=h a' ha'
  simpa using this
end
section
variable {P:Program} {n:Nat} {Q:Exit→Act→World→Prop} {l:Fr} {W:World} {ops:Array Oper} {os:List Oper} {d:Nat} {ty:TypeId} {pos:String} {aft:Array Edge} {x y:Operand} {k:IntKind} {a b:Int} {ts:Array TypeId}
theorem rn_min (hx:evL l x=some (.int k a)) (hy:evL l y=some (.int k b)):fZ P l ⟨some d,.call { callee:=.builtin .min,args:=#[x,y],argTypes:=ts },ty,pos,aft,none⟩ W (.int k (min a b)) W:=fun ev he=>by
 have e:(if b < a then b else a)=min a b:=by omega
 unfold execOp
 simp only [resolve,invoke,builtin,Sem.run_bind,Sem.run_pure,Result.andThen_ok,List.map_toArray,List.map_cons,List.map_nil,he x _ hx,he y _ hy,run_min_int2,e]
theorem E4 (hx:evL l x=some (.int k a)) (hy:evL l y=some (.int k b)) (hd:Nat.blt d n=true) (h:cT P n ops Q os ((d,.int k (min a b))::l) W):cT P n ops Q (⟨some d,.call { callee:=.builtin .min,args:=#[x,y],argTypes:=ts },ty,pos,aft,none⟩::os) l W:=opV (rn_min hx hy) hd h
end
section
variable {P:Program} {n:Nat} {ops:Array Oper} {Q:Exit→Act→World→Prop} {l:Fr} {w0 W:World} {os:List Oper} {d:Nat} {ty:TypeId} {pos:String} {aft:Array Edge}
theorem fL {x:Operand} {p:Addr} (hx:evL l x=some (.pointer (some p))):fZ P l ⟨some d,.nilCheck x,ty,pos,aft,none⟩ W (.pointer (some p)) W:=fun ev he=>by
 unfold execOp;simp only [];rw [he x _ hx];rfl
theorem eG {x:Operand} {p:Addr} (hx:evL l x=some (.pointer (some p))) (hd:Nat.blt d n=true) (h:cT P n ops Q os ((d,.pointer (some p))::l) W):cT P n ops Q (⟨some d,.nilCheck x,ty,pos,aft,none⟩::os) l W:=opV (fL hx) hd h
end
section
variable {P:Program} {n:Nat} {Q:Exit→Act→World→Prop} {l:Fr} {W:World} {ops:Array Oper} {os:List Oper} {d:Nat} {ty:TypeId} {pos:String} {aft:Array Edge} {x y:Operand} {k:IntKind} {a b:Int} {ts:Array TypeId}
end
def qC:List (Nat×Nat×Asr)→(Operand→Value)→World→Prop
 | [],_,_=>True
 | x::xs,ev,w=>x.2.2 (ev (.tmp x.2.1)) w∧qC xs ev w
def C2 (ops:Array Oper) (L:List Asr) (i:Nat):List (Nat×Nat×Asr)→Prop
 | []=>True
 | x::xs=>(bO ops i x.1 x.2.1=true∧atI L x.1=x.2.2)∧C2 ops L i xs
section
variable {P:Program} {ops opf:Array Oper} {Q:Exit→Act→World→Prop} {n:Nat} {l:Fr} {w0 W:World} {K:List (Nat×World)} {lo:Nat} {al:List AB} {Ob:Own} {G:Sy→cR} {E:List Nat} {L:List Asr} {i:Nat}
variable {d:Nat} {op:Op} {ty:TypeId} {pos:String} {aft_:Array Edge}
end
theorem Au {lo:Nat} {X:Nat→Prop} {w w':World} (h:eP lo X w w') (hx:∀ b,lo≤b→¬ X b):cZ lo w w':=⟨h.2.1,fun b h1 h2=>h.2.2 b h1 h2 (hx b h1)⟩
theorem Ma {w0 W:World} {O:Own} {G:cR} {K:List (Nat×World)} {b:Nat} (h:St w0 O G K W) (hx:XB O G b):b < W.heap.size:=by
 rcases hx with ⟨p,hp,rfl⟩ | ⟨g,hg,hb⟩
 ·exact dI (h.own p hp).2
 ·exact (h.glt hg hb).2
theorem St.headSl {w0 W:World} {O:Own} {G:cR} {K:List (Nat×World)} {v:Value} {n size:Nat} {xs:List Value} {e:TypeId} (h:St w0 O (⟨v,n,xs,e,size⟩::G) K W):∃ a c,v = .slice a n c:=by
 obtain ⟨a,c,e9,_⟩:=kY (h.row 0 rfl)
 exact ⟨a,c,e9⟩
section
variable {w0 W:World} {O:Own} {G:cR} {K:List (Nat×World)}
theorem C3 {w:World} {base n b k:Nat} {e:TypeId} {size:Nat} {c:Nat} {xs:List Value} {x:Value} (h:w.ownsRow base e size (.slice (some ⟨b,0,none⟩) n c) n xs) (hk:xs[k]?=some x):w.cell? ⟨b,k,none⟩=some x:=by
 rcases fX h with ⟨h1,_⟩ | ⟨b2,h1,_,h3⟩
 ·cases h1
 ·cases h1;exact h3 k x hk
variable {P:Program} {n:Nat} {ops:Array Oper} {Q:Exit→Act→World→Prop} {l:Fr} {os:List Oper} {d:Nat} {ty:TypeId} {pos:String} {aft:Array Edge}
theorem St.oneV (h:St w0 O G K W) (i:Nat) (g:GR) (hi:G[i]?=some g):g.v.oneCell'=true:=by
 rcases (h.rows g (List.mem_of_getElem? hi)).1.2 with ⟨h1,_⟩ | ⟨_,_,_,h1,_⟩<;>rw [h1]<;>rfl
end
section
variable {P:Program} {ops opf:Array Oper} {Q:Exit→Act→World→Prop} {n:Nat} {l:Fr} {w0 W:World} {K:List (Nat×World)} {lo:Nat} {al:List AB} {Ob:Own} {G:Sy→cR} {E:List Nat} {L:List Asr} {i:Nat}
variable {d:Nat} {op:Op} {ty:TypeId} {pos:String} {aft_:Array Edge}
end
abbrev Mb (sf:SF) (f0:WF):Value:=.agg #[.int .i64 sf.tag,.int .i64 sf.dim,.slice sf.a sf.len sf.cap,.bool f0.z,.int .i64 f0.c,.int .u64 (f0.g:Int),.slice f0.ra f0.rl f0.rc,.slice f0.ca f0.cl f0.cc,.slice f0.pa f0.pl f0.pc]
theorem Iw (S:PS) (sf:SF) (w:World) (hs:SIs w S sf) (hok:S.ok) :
  Calls prog 38 #[sf.val] w (fun e w'=>∃ f0:WF,e = .returned (Mb sf f0)∧kU w.heap.size w' S f0 (eN S)∧Below w.heap.size w w'):=by
 refine cG (args:=[sf.val]) func38 rfl ntmps38 rfl ?_
 have hS:=St.start w
 refine aO (aR (bQ (cs:=[_,_,_]) hS rfl rfl rfl fun B1 W1 hS=>bU (cs:=[_,_,_,_,_,_,_,_,_]) hS zeroValue74 rfl rfl fun B2 W2 hS=>aQ (XF.thenN (aO (aR (aU (vs:=[_,_,_]) isAgg25 sizeOf25 rfl (aK.own (j:=0) (m:=3) (hS.at_ 1 rfl) rfl) rfl ?_))))))
 have hsz:=hS.below.size
 refine dC (vs:=[_]) hS goes_56 rfl (Lt S sf _ (hs.below hS.below) hok) rfl ?_
 rintro e W3 ⟨f0,rfl,hn,hb⟩
 refine ⟨_,rfl,hb,fun hS'=>?_⟩
 clear hS;have hS:=hS';clear hS'
 refine aI rfl rfl (cI rfl rfl rfl (cI rfl rfl rfl (bU (cs:=[_,_,_,_,_,_]) hS zeroValue56 rfl rfl fun B4 W4 hS=>bB (i:=0) (vs:=[_,_,_,_,_,_]) (cs':=[_,_,_,_,_,_]) (O':=[_,_,_]) hS sizeOf56 rfl rfl rfl rfl rfl rfl rfl fun W5 hS=>aB rfl rfl (aQ (XF.thenN (aO (aR (aU (vs:=[_,_,_]) isAgg25 sizeOf25 rfl (aK.own (j:=0) (m:=3) (hS.at_ 2 rfl) rfl) rfl (aU (vs:=[_,_,_,_,_,_]) isAgg56 sizeOf56 rfl (aK.own (j:=0) (m:=6) (hS.at_ 0 rfl) rfl) rfl (cY (us:=[(0,.agg (List.toArray [_,_,_])),(1,.agg (List.toArray [_,_,_,_,_,_]))]) rfl (D9 _ _ _ _ _ _ _ _ _) rfl (bB (i:=1) (vs:=[_,_,_,_,_,_,_,_,_]) (cs':=[_,_,_,_,_,_,_,_,_]) (O':=[_,_,_]) hS sizeOf74 rfl rfl rfl rfl rfl rfl rfl fun W6 hS=>aQ (XF.thenN (bM (XF.res (dY (vs:=[_,_,_,_,_,_,_,_,_]) results38 isAgg74 sizeOf74 rfl (aK.own (j:=0) (m:=9) (hS.at_ 1 rfl) rfl)) ?_))))))))))))))
 exact ⟨f0,rfl,(hn.agree (hS.since 0 rfl)).mono hsz,hS.below⟩
theorem E5 (S:PS) (sf:SF) (f0:WF) (w:World) (hs:SIs w S sf) (hok:S.ok) :
  Calls prog 51 #[Mb sf f0] w (jG S (eV S) w):=by
 refine cG (args:=[Mb sf f0]) func51 rfl ntmps51 rfl ?_
 have hS:=St.start w
 refine aO (aR (bQ (cs:=[_,_,_,_,_,_,_,_,_]) hS rfl rfl rfl fun B1 W1 hS=>bU (cs:=[_,_,_,_,_,_]) hS zeroValue56 rfl rfl fun B2 W2 hS=>aQ (XF.thenN (aO (aR (aN (o':=0) fa_74_0 rfl rfl rfl (aU (vs:=[_,_,_]) isAgg25 sizeOf25 rfl (aK.own (j:=0) (m:=3) (hS.at_ 1 rfl) rfl) rfl ?_)))))))
 have hsz:=hS.below.size
 refine dC (vs:=[_]) hS goes_64 rfl (OneW_ok S sf _ (hs.below hS.below) hok) rfl ?_
 rintro e W3 ⟨f,rfl,hn,hb⟩
 refine ⟨_,rfl,hb,fun hS'=>?_⟩
 clear hS;have hS:=hS';clear hS'
 refine aI rfl rfl (cI rfl rfl rfl (cI rfl rfl rfl (bU (cs:=[_,_,_,_,_,_]) hS zeroValue56 rfl rfl fun B4 W4 hS=>bB (i:=0) (vs:=[_,_,_,_,_,_]) (cs':=[_,_,_,_,_,_]) (O':=[_,_,_]) hS sizeOf56 rfl rfl rfl rfl rfl rfl rfl fun W5 hS=>aB rfl rfl (aQ (XF.thenN (aO (aR (aU (vs:=[_,_,_,_,_,_]) isAgg56 sizeOf56 rfl (aK.own (j:=0) (m:=6) (hS.at_ 0 rfl) rfl) rfl (bB (i:=1) (vs:=[_,_,_,_,_,_]) (cs':=[_,_,_,_,_,_]) (O':=[_,_,_]) hS sizeOf56 rfl rfl rfl rfl rfl rfl rfl fun W6 hS=>aQ (XF.thenN (bM (XF.res (dY (vs:=[_,_,_,_,_,_]) results51 isAgg56 sizeOf56 rfl (aK.own (j:=0) (m:=6) (hS.at_ 1 rfl) rfl)) ?_))))))))))))
 exact ⟨f,rfl,(hn.agree (hS.since 0 rfl)).mono hsz,hS.below⟩
def RowN (lo:Nat) (W:World) (a:Option Addr) (c:Nat) (xs:List Int):Prop:=W.ownsRow lo 3 1 (.slice a xs.length c) xs.length (xs.map (Value.int .i64))
theorem RowN.row {lo:Nat} {W:World} {a:Option Addr} {c:Nat} {xs:List Int} (h:RowN lo W a c xs):Row W a xs:=by
 rcases fX h with ⟨_,h2⟩ | ⟨b,h1,_,h3⟩
 ·exact .inl (List.eq_nil_of_length_eq_zero h2)
 ·refine .inr ⟨b,0,h1,fun i hi=>?_⟩
  rw [Nat.zero_add]
  exact h3 i _ (by rw [List.getElem?_map,List.getElem?_eq_getElem hi];simp [List.getD,List.getElem?_eq_getElem hi])
abbrev StT:=Int×List Int×PX
section
variable {S:PS} {px:RV→PX} {rs:List RV} {i:Int} {l:List Int} {k:Nat} {st st':StT} {c:Int}
end
def kE (lo:Nat) (S:PS) (x:PX):Asr:=fun v w=>∃ b,v = .slice (some ⟨b,0,none⟩) 2 2∧kU lo w S (oI b) x
theorem kZ {lo:Nat} {S:PS} {x:PX}:kL (kE lo S x):=fun v w w' ⟨b,h1,h2⟩ hb=>⟨b,h1,h2.below hb⟩
theorem has_one {b:Act} {v:Value} (h:b.eval (.tmp 16)=v):∀ x u,evL [(16,v)] x=some u→b.eval x=u:=by
 intro x u hx
 cases x with
 | tmp t =>
  have hx':fD [(16,v)] t=some u:=hx
  unfold fD at hx'
  cases hb:Nat.beq 16 t with
  | true =>
   simp only [hb,cond_true,Option.some.injEq] at hx'
   rw [← Nat.eq_of_beq_eq_true hb,h,hx']
  | false =>
   simp only [hb,cond_false] at hx'
   cases hx'
 | const c=>exact Option.some.inj hx
 | global g=>exact Option.some.inj hx
 | func f=>exact Option.some.inj hx
section
variable {n:Nat} {Q:Exit→Act→World→Prop} {l:Fr} {W:World} {ops:Array Oper} {L:List Asr} {i d:Nat} {ty:TypeId} {pos:String} {aft:Array Edge} {gd:Option (Nat×Bool)} {t k u m:Int} {x y:PF} {p q:Operand}
theorem qR (hi:ops[i]?=some ⟨some d,.buildSlice 54 2 (List.toArray [(0,p),(1,q)]),ty,pos,aft,gd⟩) (hw:gT ops L i ⟨some d,.buildSlice 54 2 (List.toArray [(0,p),(1,q)]),ty,pos,aft,gd⟩) (hp:wY n ops l L i [p,q] [eY W.heap.size (.one t k) (.one x),eY W.heap.size (.one u m) (.one y)]) (hI:atI L i=kE W.heap.size (.two t k u m) (.two x y)):RG prog n ops Q l W L i :=
 zC [eY W.heap.size (.one t k) (.one x),eY W.heap.size (.one u m) (.one y)] hi hw underlying54 sizeOf56 zeroValue56 rfl rfl hp fun vs w hb hh=>by
  obtain ⟨v1,v2,rfl,⟨f,rfl,hf⟩,g,rfl,hg⟩:=Et hh
  refine ⟨f.six++g.six,F8 _ _ _ _ _ _ _ _ _ _ _ _,fun B w' hB h1 h2=>?_⟩
  rw [hI]
  rcases frow2 h1 with h | ⟨b,off,e,h3⟩
  ·cases h
  ·cases e
   exact ⟨B,rfl,vQ (h3 0 f rfl) (h3 1 g rfl) (by rw [← hB];exact hb.size) (PNew.below hf h2) (PNew.below hg h2)⟩
theorem Av {lo:Nat} {S:PS} {z:PX} (hi:ops[i]?=some ⟨some d,.build 56 (List.toArray [(4,.tmp 16)]),ty,pos,aft,gd⟩) (hw:gT ops L i ⟨some d,.build 56 (List.toArray [(4,.tmp 16)]),ty,pos,aft,gd⟩) (hp:OpG n ops l L i 16 (kE lo S z)) (hI:atI L i=eY lo S z):RG prog n ops Q l W L i:=fun a ha=>rD hi hw fun b w hF hG hD=>by
 obtain ⟨B,hv,hx⟩:=hp a ha b w hF hD
 refine ⟨(oI B).val,w,?_,by rw [hI];exact ⟨oI B,rfl,hx⟩,Below.refl _ _⟩
 rw [fO b.eval _ _ _ _ pos _ #[] _ none]
 exact nY (l:=[(16,.slice (some ⟨B,0,none⟩) 2 2)]) (us:=[(4,.slice (some ⟨B,0,none⟩) 2 2)]) rfl (Jz _ _ _) b.eval (has_one hv)
end
theorem oO (t n:Int) (sa:Option Addr) (sc:Nat) (w:World) (hp:bS t n 0=true) :
  Calls prog 44 #[.agg #[.int .i64 t,.int .i64 n,.slice sa 0 sc]] w (jG (.one t n) (.one dU) w):=by
 refine cG (args:=[.agg #[.int .i64 t,.int .i64 n,.slice sa 0 sc]]) func44 rfl ntmps44 rfl ?_
 have hS:=St.start w
 refine aO (aR (bQ (cs:=[_,_,_]) hS rfl rfl rfl fun B1 W1 hS=>bU (cs:=[_,_,_,_,_,_]) hS zeroValue56 rfl rfl fun B2 W2 hS=>aQ (XF.thenN (aO (aO (aR (aN (o':=0) dZ rfl rfl rfl (aT isAgg22 rfl (aJ (hS.at_ 1 rfl) rfl) rfl (cM rfl rfl rfl (aQ (XF.thenN (bC rfl (fun hc=>absurd (of_decide_eq_true hc) (by exact mF hp)) (fun hc=>?_)))))))))))))
 have hc:=of_decide_eq_false hc
 refine bH (XF.thenN (aO (aR (cY (us:=[(0,.bool _)]) rfl (vA _) rfl (bB (i:=0) (vs:=[_,_,_,_,_,_]) (cs':=[_,_,_,_,_,_]) (O':=[_,_]) hS sizeOf56 rfl rfl rfl rfl rfl rfl rfl fun W3 hS=>aQ (XF.thenN (bM (XF.res (dY (vs:=[_,_,_,_,_,_]) results44 isAgg56 sizeOf56 rfl (aK.own (j:=0) (m:=6) (hS.at_ 0 rfl) rfl)) ?_))))))))
 exact ⟨pV,rfl,mE _ _ _ _,hS.below⟩
theorem E6 (t n u m:Int) (a1 a2:Option Addr) (c1 c2 b off sc:Nat) (w:World) (hs1:S3 w b off ⟨t,n,a1,0,c1⟩) (hs2:S3 w b (off+3) ⟨u,m,a2,0,c2⟩) (hp1:bS t n 0=true) (hp2:bS u m 0=true) :
  Calls prog 44 #[.agg #[.int .i64 5,.int .i64 0,.slice (some ⟨b,off,none⟩) 2 sc]] w (jG (.two t n u m) (.two dU dU) w):=by
 refine cG (args:=[.agg #[.int .i64 5,.int .i64 0,.slice (some ⟨b,off,none⟩) 2 sc]]) func44 rfl ntmps44 rfl ?_
 have hS:=St.start w
 refine aO (aR (bQ (cs:=[_,_,_]) hS rfl rfl rfl fun B1 W1 hS=>bU (cs:=[_,_,_,_,_,_]) hS zeroValue56 rfl rfl fun B2 W2 hS=>aQ (XF.thenN (aO (aO (aR (aN (o':=0) dZ rfl rfl rfl (aT isAgg22 rfl (aJ (hS.at_ 1 rfl) rfl) rfl (cM rfl rfl rfl (aQ (XF.thenN (bC rfl (fun hc=>?_) (fun hc=>absurd (of_decide_eq_false hc) (by omega))))))))))))))
 have hc:=of_decide_eq_true hc
 refine aO ?_
 have hsz:=hS.below.size
 have k1:=aK.agree hS.agree (Nat.zero_le _) hs1.cells
 have k2:=aK.agree hS.agree (Nat.zero_le _) hs2.cells
 refine xI bY 12 hS rfl rfl (by kernel_rfl) (by kernel_rfl) (by kernel_rfl) (fun d hd=>by cases hd) (cB 1 rfl 1 rfl rfl (fun w hw=>aV (o':=2) dM rfl rfl) rfl (bD 2 rfl 6 0 rfl rfl rfl (fun w hw=>aX isAgg23 rfl ((aP hw 0).cell (Nat.zero_le _) (aJ (hS.at_ 1 rfl) rfl))) rfl (bD 3 rfl 7 1 rfl rfl rfl (fun w hw=>bA (j:=0) underlying23 sizeOf25 rfl rfl rfl (by omega) (Nat.add_zero _)) rfl (bD 4 rfl 8 2 rfl rfl rfl (fun w hw=>bL (vs:=[_,_,_]) isAgg25 sizeOf25 rfl (aK.agree (aP hw 0) (Nat.zero_le _) (by assumption))) rfl ?_))))
 refine aM 5 rfl (eY W2.heap.size (.one t n) (.one dU)) (eO) (cP [isV _] rfl zI (aS rfl) ⟨cD (aL 3 (aA rfl rfl rfl)),trivial⟩ (fun vs w' hb hh=>by have e:=bZ (us:=[_]) hh;subst e;exact fS hb.size (oO _ _ _ _ _ hp1)) (aD rfl)) ?_
 refine cB 6 rfl 1 rfl rfl (fun w hw=>aV (o':=2) dM rfl rfl) rfl (bD 7 rfl 11 5 rfl rfl rfl (fun w hw=>aX isAgg23 rfl ((aP hw 0).cell (Nat.zero_le _) (aJ (hS.at_ 1 rfl) rfl))) rfl (bD 8 rfl 12 6 rfl rfl rfl (fun w hw=>bA (j:=1) underlying23 sizeOf25 rfl rfl rfl (by omega) rfl) rfl (bD 9 rfl 13 7 rfl rfl rfl (fun w hw=>bL (vs:=[_,_,_]) isAgg25 sizeOf25 rfl (aK.agree (aP hw 0) (Nat.zero_le _) (by assumption))) rfl ?_)))
 refine aM 10 rfl (eY W2.heap.size (.one u m) (.one dU)) (eO) (cP [isV _] rfl zI (aS rfl) ⟨cD (aL 8 (aA rfl rfl rfl)),trivial⟩ (fun vs w' hb hh=>by have e:=bZ (us:=[_]) hh;subst e;exact fS hb.size (oO _ _ _ _ _ hp2)) (aD rfl)) ?_
 refine aM 11 rfl (kE W2.heap.size (.two t n u m) (.two dU dU)) (kZ) (qR rfl (aS rfl) ⟨cD (aL 4 (aA rfl rfl rfl)),cD (aL 9 (aA rfl rfl rfl)),trivial⟩ (aD rfl)) (aM 12 rfl (eY W2.heap.size (.two t n u m) (.two dU dU)) (eO) (Av rfl (aS rfl) (aL 10 (aA rfl rfl rfl)) (aD rfl)) (dB ?_))
 intro W3 hbR hS'
 clear hS;have hS:=hS';clear hS'
 refine aG (aG (aG (aG ?_)))
 refine dR ?_;rintro _ ⟨v1,rfl,hn1⟩
 refine aG (aG (aG (aG ?_)))
 refine dR ?_;rintro _ ⟨v2,rfl,hn2⟩
 refine dR ?_;rintro _ _
 refine dR ?_;rintro _ ⟨v3,rfl,hn3⟩
 refine cH (bB (i:=0) (vs:=[_,_,_,_,_,_]) (cs':=[_,_,_,_,_,_]) (O':=[_,_]) hS sizeOf56 rfl rfl rfl rfl rfl rfl rfl fun W4 hS=>aQ (XF.thenN (bM (XF.thenR (XF.res (dY (vs:=[_,_,_,_,_,_]) results44 isAgg56 sizeOf56 rfl (aK.own (j:=0) (m:=6) (hS.at_ 0 rfl) rfl)) ?_)))))
 exact ⟨v3,rfl,(hn3.agree (hS.since 0 rfl)).mono hsz,hS.below⟩
theorem Mc {S:PS} {sf:SF} {w:World} (hs:SIs w S sf) (hok:S.ok):Calls prog 44 #[sf.val] w (jG S (eN S) w):=by
 cases S with
 | one t n =>
  obtain ⟨a,c,rfl⟩:=hs
  exact oO _ _ _ _ _ hok
 | two t n u m =>
  obtain ⟨b,off,c,a1,c1,a2,c2,rfl,h1,h2⟩:=hs
  exact E6 _ _ _ _ _ _ _ _ _ _ _ _ h1 h2 hok.1 hok.2
theorem C4 (S:PS) (sf:SF) (w:World) (hs:SIs w S sf) (hok:S.ok) :
  Calls prog 24 #[sf.val] w (Ha S (eN S) 0 w):=by
 refine cG (args:=[sf.val]) func24 rfl ntmps24 rfl ?_
 have hS:=St.start w
 refine aO (aR (bQ (cs:=[_,_,_]) hS rfl rfl rfl fun B1 W1 hS=>bU (cs:=[_,_,_,_,_,_]) hS zeroValue56 rfl rfl fun B2 W2 hS=>aB rfl rfl (aQ (XF.thenN (aO (aO (aR (aU (vs:=[_,_,_]) isAgg25 sizeOf25 rfl (aK.own (j:=0) (m:=3) (hS.at_ 1 rfl) rfl) rfl (bT (vs:=[_]) hS rG rfl (yG (hs.below hS.below) hok) rfl fun W3 hS=>cN rfl rfl rfl (aQ (XF.thenN (bC rfl (fun hc=>absurd (of_decide_eq_true hc) (by omega)) (fun hc=>?_)))))))))))))
 have hc:=of_decide_eq_false hc
 refine bH (XF.thenN (aO (aR (aU (vs:=[_,_,_]) isAgg25 sizeOf25 rfl (aK.own (j:=0) (m:=3) (hS.at_ 1 rfl) rfl) rfl ?_))))
 have hsz:=hS.below.size
 refine dC (vs:=[_]) hS zI rfl (Mc (hs.below hS.below) hok) rfl ?_
 rintro e W4 ⟨f,rfl,hn,hb⟩
 refine ⟨_,rfl,hb,fun hS'=>?_⟩
 clear hS;have hS:=hS';clear hS'
 refine bB (i:=0) (vs:=[_,_,_,_,_,_]) (cs':=[_,_,_,_,_,_]) (O':=[_,_]) hS sizeOf56 rfl rfl rfl rfl rfl rfl rfl fun W5 hS=>aB rfl rfl (aQ (XF.thenN (bM (XF.res (jV (vs:=[_,_,_,_,_,_]) results24 isAgg56 sizeOf56 rfl (aK.own (j:=0) (m:=6) (hS.at_ 0 rfl) rfl) rfl) ?_))))
 exact ⟨f,rfl,(hn.agree (hS.since 0 rfl)).mono hsz,hS.below⟩
theorem Ix (t n:Int) (sa:Option Addr) (sc:Nat) (w:World) (hp:bS t n 0=true) (ht4:t≠4) :
  Calls prog 45 #[.agg #[.int .i64 t,.int .i64 n,.slice sa 0 sc]] w (jG (.one t n) (.one (fQ t n)) w):=by
 refine cG (args:=[.agg #[.int .i64 t,.int .i64 n,.slice sa 0 sc]]) func45 rfl ntmps45 rfl ?_
 have hS:=St.start w
 refine aO (aR (bQ (cs:=[_,_,_]) hS rfl rfl rfl fun B1 W1 hS=>bU (cs:=[_,_,_,_,_,_]) hS zeroValue56 rfl rfl fun B2 W2 hS=>aQ (XF.thenN (aO (aR (cY (us:=[]) rfl (qI) rfl (bU (cs:=[_,_,_,_,_,_]) hS zeroValue56 rfl rfl fun B3 W3 hS=>bB (i:=0) (vs:=[_,_,_,_,_,_]) (cs':=[_,_,_,_,_,_]) (O':=[_,_,_]) hS sizeOf56 rfl rfl rfl rfl rfl rfl rfl fun W4 hS=>aQ (XF.thenN (aO (aO (aR (aN (o':=0) dZ rfl rfl rfl (aT isAgg22 rfl (aJ (hS.at_ 2 rfl) rfl) rfl (aQ (XF.thenN (bI (aO (aR (cM rfl rfl rfl (aB rfl rfl (aQ (XF.thenN (bC rfl (fun hc=>?_) (fun hc=>?_))))))))))))))))))))))))
 ·have hc8:=of_decide_eq_true hc;clear hc
  have e3:t=3:=hc8
  subst e3
  obtain ⟨m,rfl,hm⟩:=Ct hp (.inl rfl)
  refine aR (aN (o':=1) eS rfl rfl rfl (aT isAgg3 rfl (aJ (hS.at_ 2 rfl) rfl) rfl ?_))
  have hsz:=hS.below.size
  refine dC (vs:=[_]) hS goes_59 rfl ((oneR_is m _ _ (rO hm).1 _ (rO hm).2).mono fun _ _ h=>Ch.ret h) rfl ?_
  rintro e W5 ⟨a1,c1,rfl,hv,hl,hb⟩
  refine ⟨_,rfl,hb,fun hS'=>?_⟩
  clear hS;have hS:=hS';clear hS'
  refine aI rfl rfl (cI rfl rfl rfl (cI rfl rfl rfl (aN (o':=2) gD rfl rfl rfl (bB (i:=0) (vs:=[_,_]) (cs':=[_,_,_,_,_,_]) (O':=[_,_,_]) hS sizeOf52 rfl rfl rfl rfl rfl rfl rfl fun W6 hS=>aQ (XF.blkN (XF.thenN (aO (aR (aU (vs:=[_,_,_,_,_,_]) isAgg56 sizeOf56 rfl (aK.own (j:=0) (m:=6) (hS.at_ 0 rfl) rfl) rfl (bB (i:=1) (vs:=[_,_,_,_,_,_]) (cs':=[_,_,_,_,_,_]) (O':=[_,_,_]) hS sizeOf56 rfl rfl rfl rfl rfl rfl rfl fun W7 hS=>aQ (XF.thenN (bM (XF.res (dY (vs:=[_,_,_,_,_,_]) results45 isAgg56 sizeOf56 rfl (aK.own (j:=0) (m:=6) (hS.at_ 1 rfl) rfl)) ?_)))))))))))))
  exact hY (Lp hm (hv.agree (fun ad e=>(hl ad e).1) (hS.since 0 rfl)) (fun ad e=>Nat.le_trans hsz (hl ad e).1)) hS.below
 ·have hc8:=of_decide_eq_false hc;clear hc
  refine aO (aR (cM rfl rfl rfl (aB rfl rfl (aQ (XF.thenN (bC rfl (fun hc=>absurd (of_decide_eq_true hc) (by exact ht4)) (fun hc=>?_)))))))
  have hc:=of_decide_eq_false hc
  refine aO (aR (cM rfl rfl rfl (aB rfl rfl (aQ (XF.thenN (bC rfl (fun hc=>absurd (of_decide_eq_true hc) (by exact mF hp)) (fun hc=>?_)))))))
  have hc:=of_decide_eq_false hc
  refine bH (XF.blkN (XF.thenN (aO (aR (aU (vs:=[_,_,_,_,_,_]) isAgg56 sizeOf56 rfl (aK.own (j:=0) (m:=6) (hS.at_ 0 rfl) rfl) rfl (bB (i:=1) (vs:=[_,_,_,_,_,_]) (cs':=[_,_,_,_,_,_]) (O':=[_,_,_]) hS sizeOf56 rfl rfl rfl rfl rfl rfl rfl fun W8 hS=>aQ (XF.thenN (bM (XF.res (dY (vs:=[_,_,_,_,_,_]) results45 isAgg56 sizeOf56 rfl (aK.own (j:=0) (m:=6) (hS.at_ 1 rfl) rfl)) ?_)))))))))
  exact hY (Lo hp hc8 ht4) hS.below
theorem Iy (t n u m:Int) (a1 a2:Option Addr) (c1 c2 b off sc:Nat) (w:World) (hs1:S3 w b off ⟨t,n,a1,0,c1⟩) (hs2:S3 w b (off+3) ⟨u,m,a2,0,c2⟩) (hp1:bS t n 0=true) (hp2:bS u m 0=true) (ih10:∀ W:World,Calls prog 45 #[.agg #[.int .i64 t,.int .i64 n,.slice a1 0 c1]] W (jG (.one t n) (.one (fQ t n)) W)) (ih20:∀ W:World,Calls prog 45 #[.agg #[.int .i64 u,.int .i64 m,.slice a2 0 c2]] W (jG (.one u m) (.one (fQ u m)) W)) :
  Calls prog 45 #[.agg #[.int .i64 5,.int .i64 0,.slice (some ⟨b,off,none⟩) 2 sc]] w (jG (.two t n u m) (.two (fQ t n) (fQ u m)) w):=by
 refine cG (args:=[.agg #[.int .i64 5,.int .i64 0,.slice (some ⟨b,off,none⟩) 2 sc]]) func45 rfl ntmps45 rfl ?_
 have hS:=St.start w
 refine aO (aR (bQ (cs:=[_,_,_]) hS rfl rfl rfl fun B1 W1 hS=>bU (cs:=[_,_,_,_,_,_]) hS zeroValue56 rfl rfl fun B2 W2 hS=>aQ (XF.thenN (aO (aR (cY (us:=[]) rfl (qI) rfl (bU (cs:=[_,_,_,_,_,_]) hS zeroValue56 rfl rfl fun B3 W3 hS=>bB (i:=0) (vs:=[_,_,_,_,_,_]) (cs':=[_,_,_,_,_,_]) (O':=[_,_,_]) hS sizeOf56 rfl rfl rfl rfl rfl rfl rfl fun W4 hS=>aQ (XF.thenN (aO (aO (aR (aN (o':=0) dZ rfl rfl rfl (aT isAgg22 rfl (aJ (hS.at_ 2 rfl) rfl) rfl (aQ (XF.thenN (bI (aO (aR (cM rfl rfl rfl (aB rfl rfl (aQ (XF.thenN (bC rfl (fun hc=>absurd (of_decide_eq_true hc) (by omega)) (fun hc=>?_))))))))))))))))))))))))
 have hc:=of_decide_eq_false hc
 refine aO (aR (cM rfl rfl rfl (aB rfl rfl (aQ (XF.thenN (bC rfl (fun hc=>absurd (of_decide_eq_true hc) (by omega)) (fun hc=>?_)))))))
 have hc:=of_decide_eq_false hc
 refine aO (aR (cM rfl rfl rfl (aB rfl rfl (aQ (XF.thenN (bC rfl (fun hc=>?_) (fun hc=>absurd (of_decide_eq_false hc) (by omega))))))))
 have hc:=of_decide_eq_true hc
 have hsz:=hS.below.size
 have k1:=aK.agree hS.agree (Nat.zero_le _) hs1.cells
 have k2:=aK.agree hS.agree (Nat.zero_le _) hs2.cells
 have ih1:=fun (W2:World) (_:Below W4.heap.size W4 W2)=>ih10 W2
 have ih2:=fun (W2:World) (_:Below W4.heap.size W4 W2)=>ih20 W2
 refine xI bY 12 hS rfl rfl (by kernel_rfl) (by kernel_rfl) (by kernel_rfl) (fun d hd=>by cases hd) (cB 1 rfl 1 rfl rfl (fun w hw=>aV (o':=2) dM rfl rfl) rfl (bD 2 rfl 35 0 rfl rfl rfl (fun w hw=>aX isAgg23 rfl ((aP hw 0).cell (Nat.zero_le _) (aJ (hS.at_ 2 rfl) rfl))) rfl (bD 3 rfl 36 1 rfl rfl rfl (fun w hw=>bA (j:=0) underlying23 sizeOf25 rfl rfl rfl (by omega) (Nat.add_zero _)) rfl (bD 4 rfl 37 2 rfl rfl rfl (fun w hw=>bL (vs:=[_,_,_]) isAgg25 sizeOf25 rfl (aK.agree (aP hw 0) (Nat.zero_le _) (by assumption))) rfl ?_))))
 refine aM 5 rfl (eY W4.heap.size (.one t n) (.one (fQ t n))) (eO) (cP [isV _] rfl zH (aS rfl) ⟨cD (aL 3 (aA rfl rfl rfl)),trivial⟩ (fun vs w' hb hh=>by have e:=bZ (us:=[_]) hh;subst e;exact fS hb.size (ih1 _ hb)) (aD rfl)) ?_
 refine cB 6 rfl 1 rfl rfl (fun w hw=>aV (o':=2) dM rfl rfl) rfl (bD 7 rfl 40 5 rfl rfl rfl (fun w hw=>aX isAgg23 rfl ((aP hw 0).cell (Nat.zero_le _) (aJ (hS.at_ 2 rfl) rfl))) rfl (bD 8 rfl 41 6 rfl rfl rfl (fun w hw=>bA (j:=1) underlying23 sizeOf25 rfl rfl rfl (by omega) rfl) rfl (bD 9 rfl 42 7 rfl rfl rfl (fun w hw=>bL (vs:=[_,_,_]) isAgg25 sizeOf25 rfl (aK.agree (aP hw 0) (Nat.zero_le _) (by assumption))) rfl ?_)))
 refine aM 10 rfl (eY W4.heap.size (.one u m) (.one (fQ u m))) (eO) (cP [isV _] rfl zH (aS rfl) ⟨cD (aL 8 (aA rfl rfl rfl)),trivial⟩ (fun vs w' hb hh=>by have e:=bZ (us:=[_]) hh;subst e;exact fS hb.size (ih2 _ hb)) (aD rfl)) ?_
 refine aM 11 rfl (kE W4.heap.size (.two t n u m) (.two (fQ t n) (fQ u m))) (kZ) (qR rfl (aS rfl) ⟨cD (aL 4 (aA rfl rfl rfl)),cD (aL 9 (aA rfl rfl rfl)),trivial⟩ (aD rfl)) (cB 12 rfl 3 rfl rfl (fun w hw=>aV (o':=5) cV rfl rfl) rfl (dB ?_))
 intro W5 hbR hS'
 clear hS;have hS:=hS';clear hS'
 refine aG (aG (aG (aG ?_)))
 refine dR ?_;rintro _ ⟨v1,rfl,hn1⟩
 refine aG (aG (aG (aG ?_)))
 refine dR ?_;rintro _ ⟨v2,rfl,hn2⟩
 refine dR ?_;rintro _ ⟨b9,rfl,hn9⟩
 refine aG (cH (dK (i:=0) (cs':=[_,_,_,_,_,_]) (O':=[_,_,_]) hS sizeOf54 rfl rfl rfl rfl rfl rfl rfl fun W6 hS=>aQ (XF.blkN (XF.thenN (aO (aR (aU (vs:=[_,_,_,_,_,_]) isAgg56 sizeOf56 rfl (aK.own (j:=0) (m:=6) (hS.at_ 0 rfl) rfl) rfl (bB (i:=1) (vs:=[_,_,_,_,_,_]) (cs':=[_,_,_,_,_,_]) (O':=[_,_,_]) hS sizeOf56 rfl rfl rfl rfl rfl rfl rfl fun W7 hS=>aQ (XF.thenN (bM (XF.res (dY (vs:=[_,_,_,_,_,_]) results45 isAgg56 sizeOf56 rfl (aK.own (j:=0) (m:=6) (hS.at_ 1 rfl) rfl)) ?_)))))))))))
 exact ⟨oI b9,rfl,(hn9.agree (hS.since 0 rfl)).mono hsz,hS.below⟩
theorem oneR_4 (m:Nat) (sa:Option Addr) (sc:Nat) (w:World) (hm:m≤64) :
  Calls prog 45 #[.agg #[.int .i64 4,.int .i64 (m:Int),.slice sa 0 sc]] w (jG (.one 4 m) (.one (fQ 4 m)) w):=by
 refine cG (args:=[.agg #[.int .i64 4,.int .i64 (m:Int),.slice sa 0 sc]]) func45 rfl ntmps45 rfl ?_
 have hS:=St.start w
 refine aO (aR (bQ (cs:=[_,_,_]) hS rfl rfl rfl fun B1 W1 hS=>bU (cs:=[_,_,_,_,_,_]) hS zeroValue56 rfl rfl fun B2 W2 hS=>aQ (XF.thenN (aO (aR (cY (us:=[]) rfl (qI) rfl (bU (cs:=[_,_,_,_,_,_]) hS zeroValue56 rfl rfl fun B3 W3 hS=>bB (i:=0) (vs:=[_,_,_,_,_,_]) (cs':=[_,_,_,_,_,_]) (O':=[_,_,_]) hS sizeOf56 rfl rfl rfl rfl rfl rfl rfl fun W4 hS=>aQ (XF.thenN (aO (aO (aR (aN (o':=0) dZ rfl rfl rfl (aT isAgg22 rfl (aJ (hS.at_ 2 rfl) rfl) rfl (aQ (XF.thenN (bI (aO (aR (cM rfl rfl rfl (aB rfl rfl (aQ (XF.thenN (bC rfl (fun hc=>absurd (of_decide_eq_true hc) (by omega)) (fun hc=>?_))))))))))))))))))))))))
 have hc:=of_decide_eq_false hc
 refine aO (aR (cM rfl rfl rfl (aB rfl rfl (aQ (XF.thenN (bC rfl (fun hc=>?_) (fun hc=>absurd (of_decide_eq_false hc) (by omega))))))))
 have hc:=of_decide_eq_true hc
 refine aO (aR (aB rfl rfl (aQ (XF.thenN (bI (cX (fun q l W=>∃ (k:Nat) (v:Value),k≤m∧q=m - k∧l=[(1,.pointer (some ⟨B1,0,none⟩)),(2,.pointer (some ⟨B2,0,none⟩)),(3,.pointer (some ⟨B3,0,none⟩)),(4,.int .i64 (k:Int))]∧St w [(B3,[.bool false,.int .i64 0,.int .u64 0,.slice none 0 0,v,.slice none 0 0],56),(B2,[.bool false,.int .i64 0,.int .u64 0,.slice none 0 0,.slice none 0 0,.slice none 0 0],56),(B1,[.int .i64 4,.int .i64 (m:Int),.slice sa 0 sc],25)] [⟨v,k,jE ((eM m).take k),89,3⟩] [] W) (m - 0) ([(1,_),(2,_),(3,_),(4,_)]) ⟨rfl,rfl,rfl,rfl,trivial⟩ (⟨0,.slice none 0 0,Nat.zero_le _,rfl,rfl,hS.clear.newG _ _⟩) ?_))))))
 clear hS
 rintro q l W ⟨k,v,hkm,rfl,rfl,hS⟩
 refine aO (aO (aR (aI rfl rfl (aN (o':=1) eS rfl rfl rfl (aT isAgg3 rfl (aJ (hS.at_ 2 rfl) rfl) rfl (cC rfl rfl rfl (aQ (XF.thenN (bC rfl (fun hc=>?_) (fun hc=>?_))))))))))
 ·have hc22:=of_decide_eq_true hc;clear hc
  have hk:k < m:=by omega
  refine bH (XF.thenN (aO (bI ?_)))
  refine Bn (p:=6) (k:=8) (gi:=0) (m:=1) bY hS rfl rfl (by kernel_rfl) (by kernel_rfl) (by kernel_rfl) (fun d hd=>by cases hd) rfl rfl underlying53 D6 rfl rfl (by show 0 < 3;decide) rfl rfl rfl (by dsimp only;simp only [maxLen];omega) (by dsimp only;show _ * 24≤_;omega) ?_
  refine cK 1 rfl rfl (by kernel_rfl) (rgV (li:=[(3,_)]) rfl (aS rfl) ⟨bP rfl,trivial⟩ (fun w hw=>aV (o':=4) dJ rfl rfl) (aD rfl)) (cK 2 rfl rfl (by kernel_rfl) (rgV (li:=[(25,_)]) rfl (aS rfl) ⟨aL 0 (aA rfl rfl rfl),trivial⟩ (fun w hw=>aX isAgg53 rfl ((aP hw 0).cell (Nat.zero_le _) (aJ (hS.at_ 0 rfl) rfl))) (aD rfl)) (cK 3 rfl rfl (by kernel_rfl) (rgV (li:=[(4,_)]) rfl (aS rfl) ⟨bP rfl,trivial⟩ (fun w hw=>aZ rfl) (aD rfl)) ?_))
  refine cK 4 rfl rfl (by kernel_rfl) (cP [isV _] rfl goes_60 (aS rfl) ⟨cD (aL 2 (aA rfl rfl rfl)),trivial⟩ (fun vs w' hb hh=>by have e:=bZ (us:=[_]) hh;subst e;exact (Bp (k:Int) k (2 ^ k) (by omega) rfl (by omega) _).mono fun e w2 h=>⟨_,h.1,rfl,h.2▸Below.refl _ _⟩) (aD rfl)) ?_
  refine cK 5 rfl rfl (by kernel_rfl) (rgV (li:=[(28,_)]) rfl (aS rfl) ⟨aL 3 (aA rfl rfl rfl),trivial⟩ (fun w hw=>nY (us:=[(0,.int .u64 _)]) rfl (J0 _)) (aD rfl)) (tD 6 rfl rfl (by kernel_rfl) (tC W.heap.size 1 89 _) (kN) (rF (us:=[.agg (List.toArray [_,_,_])]) rfl (aS rfl) underlying53 sizeOf89 zeroValue89 rfl rfl ⟨cD (aL 4 (aA rfl rfl rfl)),trivial⟩ (zE _ _ _) (aD rfl)) (oX 7 rfl rfl (iK 8 rfl rfl (rgV (li:=[(3,_)]) rfl (aS rfl) ⟨bP rfl,trivial⟩ (fun w hw=>aV (o':=4) dJ rfl rfl) (aD rfl)) (lgV (li:=[(3,_)]) rfl (aS rfl) ⟨bP rfl,trivial⟩ (fun w=>aV (o':=4) dJ rfl rfl) (aD rfl) rfl) (oW ⟨_,_,aL 1 (aA rfl rfl rfl),aL 5 (aA rfl rfl rfl),jM rfl rfl,?_⟩))))
  intro A5 v5 news5 W5 hbR hqA5 hS'
  clear hS;have hS:=hS';clear hS'
  cases hqA5
  refine aG (aG (aG (aG (aG ?_))))
  refine dR ?_;intro _ _
  refine aG (aG ?_)
  obtain ⟨g9,c9,e9,_,_⟩:=(hS.row 0 rfl).form (by show 0 < k+1;omega)
  dsimp only at e9
  subst e9
  refine cH (dK (i:=0) (cs':=[_,_,_,_,_,_]) (O':=[_,_,_]) hS sizeOf53 rfl rfl rfl rfl rfl rfl rfl fun W6 hS=>aQ (XF.blkN (XF.thenN (aR (aI rfl rfl (cE rfl rfl (IntWalk.i64_in _ (by omega)) rfl (aB rfl rfl (aQ ?_))))))))
  exact XF.round (m - (k+1)) [(1,_),(2,_),(3,_),(4,_)] (by omega) ⟨rfl,rfl,rfl,rfl,trivial⟩ ⟨k+1,_,by omega,rfl,rfl,by rw [Ii hk,xW];exact hS.clear⟩
 ·have hc22:=of_decide_eq_false hc;clear hc
  refine cW (XF.thenX (XF.thenX (XF.blkX (XF.blkN (XF.thenN (aO ?_))))))
  obtain rfl:k=m:=by omega
  have hrow:=hS.row 0 rfl
  have ht:(eM k).take k=eM k:=List.take_of_length_le (by rw [gK];exact Nat.le_refl _)
  simp only [ht] at hrow
  obtain ⟨hn,a9,c9,rfl,_,_⟩:=gJ hrow
  clear hrow
  refine aR (aU (vs:=[_,_,_,_,_,_]) isAgg56 sizeOf56 rfl (aK.own (j:=0) (m:=6) (hS.at_ 0 rfl) rfl) rfl (bB (i:=1) (vs:=[_,_,_,_,_,_]) (cs':=[_,_,_,_,_,_]) (O':=[_,_,_]) hS sizeOf56 rfl rfl rfl rfl rfl rfl rfl fun W7 hS=>aQ (XF.thenN (bM (XF.res (dY (vs:=[_,_,_,_,_,_]) results45 isAgg56 sizeOf56 rfl (aK.own (j:=0) (m:=6) (hS.at_ 1 rfl) rfl)) ?_)))))
  have hrow:=hS.row 0 rfl
  simp only [ht] at hrow
  obtain ⟨_,a8,c8,e8,hr9,hf9⟩:=gJ hrow
  cases e8
  have e9:(eM k).length=k:=gK k
  refine ⟨qO a9 c9 (eM k),?_,Lq hm hr9 (fun ad e=>(hf9 ad e).1),hS.below⟩
  show _=Ending.returned (Value.agg #[.bool false,.int .i64 0,.int .u64 ((0:Nat):Int),.slice none 0 0,.slice a9 (eM k).length c9,.slice none 0 0])
  rw [e9]
  rfl
theorem qS (t n:Int) (sa:Option Addr) (sc:Nat) (w:World) (hp:bS t n 0=true):Calls prog 45 #[.agg #[.int .i64 t,.int .i64 n,.slice sa 0 sc]] w (jG (.one t n) (.one (fQ t n)) w):=by
 by_cases h4:t=4
 ·subst h4
  obtain ⟨m,rfl,hm⟩:=Ct hp (.inr rfl)
  exact oneR_4 m sa sc w hm
 ·exact Ix t n sa sc w hp h4
theorem oneR_ok {S:PS} {sf:SF} {w:World} (hs:SIs w S sf) (hok:S.ok):Calls prog 45 #[sf.val] w (jG S (eV S) w):=by
 cases S with
 | one t n =>
  obtain ⟨a,c,rfl⟩:=hs
  exact qS _ _ _ _ _ hok
 | two t n u m =>
  obtain ⟨b,off,c,a1,c1,a2,c2,rfl,h1,h2⟩:=hs
  exact Iy _ _ _ _ _ _ _ _ _ _ _ _ h1 h2 hok.1 hok.2 (fun W=>qS _ _ _ _ _ hok.1) (fun W=>qS _ _ _ _ _ hok.2)
theorem OneR_ok (S:PS) (sf:SF) (w:World) (hs:SIs w S sf) (hok:S.ok) :
  Calls prog 25 #[sf.val] w (Ha S (eV S) 0 w):=by
 refine cG (args:=[sf.val]) func25 rfl ntmps25 rfl ?_
 have hS:=St.start w
 refine aO (aR (bQ (cs:=[_,_,_]) hS rfl rfl rfl fun B1 W1 hS=>bU (cs:=[_,_,_,_,_,_]) hS zeroValue56 rfl rfl fun B2 W2 hS=>aB rfl rfl (aQ (XF.thenN (aO (aO (aR (aU (vs:=[_,_,_]) isAgg25 sizeOf25 rfl (aK.own (j:=0) (m:=3) (hS.at_ 1 rfl) rfl) rfl (bT (vs:=[_]) hS rG rfl (yG (hs.below hS.below) hok) rfl fun W3 hS=>cN rfl rfl rfl (aQ (XF.thenN (bC rfl (fun hc=>absurd (of_decide_eq_true hc) (by omega)) (fun hc=>?_)))))))))))))
 have hc:=of_decide_eq_false hc
 refine bH (XF.thenN (aO (aR (aU (vs:=[_,_,_]) isAgg25 sizeOf25 rfl (aK.own (j:=0) (m:=3) (hS.at_ 1 rfl) rfl) rfl ?_))))
 have hsz:=hS.below.size
 refine dC (vs:=[_]) hS zH rfl (oneR_ok (hs.below hS.below) hok) rfl ?_
 rintro e W4 ⟨f,rfl,hn,hb⟩
 refine ⟨_,rfl,hb,fun hS'=>?_⟩
 clear hS;have hS:=hS';clear hS'
 refine bB (i:=0) (vs:=[_,_,_,_,_,_]) (cs':=[_,_,_,_,_,_]) (O':=[_,_]) hS sizeOf56 rfl rfl rfl rfl rfl rfl rfl fun W5 hS=>aB rfl rfl (aQ (XF.thenN (bM (XF.res (jV (vs:=[_,_,_,_,_,_]) results25 isAgg56 sizeOf56 rfl (aK.own (j:=0) (m:=6) (hS.at_ 0 rfl) rfl) rfl) ?_))))
 exact ⟨f,rfl,(hn.agree (hS.since 0 rfl)).mono hsz,hS.below⟩
set_option maxHeartbeats 1000000 in
theorem jn_00 (f f2:Int) (w:World):Calls prog 62 #[.agg #[.int .u64 f,.int .i64 0,.int .i64 0],.agg #[.int .u64 f2,.int .i64 0,.int .i64 0]] w fun e w'=>e = .returned (.agg #[.int .u64 (bits .or .u64 f f2),.int .i64 0,.int .i64 0])∧Below w.heap.size w w':=by
 go_enter func62,ntmps62
 go_wp2
 all_goals (try go_region)
 all_goals go_wp2
 all_goals refine bodyPost_ret (v:=.agg #[.int .u64 (bits .or .u64 f f2),.int .i64 0,.int .i64 0]) (by simp [results,results62,go_sem]) rfl ⟨rfl,?_⟩
 all_goals repeat (first | exact Below.refl _ _ | refine Below.drew ?_ | (refine Below.setCell ?_ (by simp) _) | (refine Below.alloc ?_ (by simp;try omega) _))
set_option maxHeartbeats 1000000 in
theorem jn_01 (f f2:Int) (v2:Int) (w:World):Calls prog 62 #[.agg #[.int .u64 f,.int .i64 0,.int .i64 0],.agg #[.int .u64 f2,.int .i64 1,.int .i64 v2]] w fun e w'=>e = .returned (.agg #[.int .u64 (bits .or .u64 f f2),.int .i64 1,.int .i64 v2])∧Below w.heap.size w w':=by
 go_enter func62,ntmps62
 go_wp2
 all_goals (try go_region)
 all_goals go_wp2
 all_goals refine bodyPost_ret (v:=.agg #[.int .u64 (bits .or .u64 f f2),.int .i64 1,.int .i64 v2]) (by simp [results,results62,go_sem]) rfl ⟨rfl,?_⟩
 all_goals repeat (first | exact Below.refl _ _ | refine Below.drew ?_ | (refine Below.setCell ?_ (by simp) _) | (refine Below.alloc ?_ (by simp;try omega) _))
set_option maxHeartbeats 1000000 in
theorem jn_02 (f f2:Int) (w:World):Calls prog 62 #[.agg #[.int .u64 f,.int .i64 0,.int .i64 0],.agg #[.int .u64 f2,.int .i64 2,.int .i64 0]] w fun e w'=>e = .returned (.agg #[.int .u64 0,.int .i64 2,.int .i64 0])∧Below w.heap.size w w':=by
 go_enter func62,ntmps62
 go_wp2
 all_goals (try go_region)
 all_goals go_wp2
 all_goals refine bodyPost_ret (v:=.agg #[.int .u64 0,.int .i64 2,.int .i64 0]) (by simp [results,results62,go_sem]) rfl ⟨rfl,?_⟩
 all_goals repeat (first | exact Below.refl _ _ | refine Below.drew ?_ | (refine Below.setCell ?_ (by simp) _) | (refine Below.alloc ?_ (by simp;try omega) _))
set_option maxHeartbeats 1000000 in
theorem jn_10 (f f2:Int) (v:Int) (w:World):Calls prog 62 #[.agg #[.int .u64 f,.int .i64 1,.int .i64 v],.agg #[.int .u64 f2,.int .i64 0,.int .i64 0]] w fun e w'=>e = .returned (.agg #[.int .u64 (bits .or .u64 f f2),.int .i64 1,.int .i64 v])∧Below w.heap.size w w':=by
 go_enter func62,ntmps62
 go_wp2
 all_goals (try go_region)
 all_goals go_wp2
 all_goals refine bodyPost_ret (v:=.agg #[.int .u64 (bits .or .u64 f f2),.int .i64 1,.int .i64 v]) (by simp [results,results62,go_sem]) rfl ⟨rfl,?_⟩
 all_goals repeat (first | exact Below.refl _ _ | refine Below.drew ?_ | (refine Below.setCell ?_ (by simp) _) | (refine Below.alloc ?_ (by simp;try omega) _))
set_option maxHeartbeats 1000000 in
theorem jn_11 (f f2:Int) (v:Int) (w:World):Calls prog 62 #[.agg #[.int .u64 f,.int .i64 1,.int .i64 v],.agg #[.int .u64 f2,.int .i64 1,.int .i64 v]] w fun e w'=>e = .returned (.agg #[.int .u64 (bits .or .u64 f f2),.int .i64 1,.int .i64 v])∧Below w.heap.size w w':=by
 go_enter func62,ntmps62
 go_wp2
 all_goals (try go_region)
 all_goals go_wp2
 all_goals refine bodyPost_ret (v:=.agg #[.int .u64 (bits .or .u64 f f2),.int .i64 1,.int .i64 v]) (by simp [results,results62,go_sem]) rfl ⟨rfl,?_⟩
 all_goals repeat (first | exact Below.refl _ _ | refine Below.drew ?_ | (refine Below.setCell ?_ (by simp) _) | (refine Below.alloc ?_ (by simp;try omega) _))
set_option maxHeartbeats 1000000 in
theorem jn_1x (f f2:Int) (v v2:Int) (hv:(v == v2)=false) (w:World):Calls prog 62 #[.agg #[.int .u64 f,.int .i64 1,.int .i64 v],.agg #[.int .u64 f2,.int .i64 1,.int .i64 v2]] w fun e w'=>e = .returned (.agg #[.int .u64 0,.int .i64 2,.int .i64 0])∧Below w.heap.size w w':=by
 go_enter func62,ntmps62
 go_wp2
 all_goals (try go_region)
 all_goals go_wp2
 all_goals refine bodyPost_ret (v:=.agg #[.int .u64 0,.int .i64 2,.int .i64 0]) (by simp [results,results62,go_sem]) rfl ⟨rfl,?_⟩
 all_goals repeat (first | exact Below.refl _ _ | refine Below.drew ?_ | (refine Below.setCell ?_ (by simp) _) | (refine Below.alloc ?_ (by simp;try omega) _))
set_option maxHeartbeats 1000000 in
theorem jn_12 (f f2:Int) (v:Int) (w:World):Calls prog 62 #[.agg #[.int .u64 f,.int .i64 1,.int .i64 v],.agg #[.int .u64 f2,.int .i64 2,.int .i64 0]] w fun e w'=>e = .returned (.agg #[.int .u64 0,.int .i64 2,.int .i64 0])∧Below w.heap.size w w':=by
 go_enter func62,ntmps62
 go_wp2
 all_goals (try go_region)
 all_goals go_wp2
 all_goals refine bodyPost_ret (v:=.agg #[.int .u64 0,.int .i64 2,.int .i64 0]) (by simp [results,results62,go_sem]) rfl ⟨rfl,?_⟩
 all_goals repeat (first | exact Below.refl _ _ | refine Below.drew ?_ | (refine Below.setCell ?_ (by simp) _) | (refine Below.alloc ?_ (by simp;try omega) _))
set_option maxHeartbeats 1000000 in
theorem jn_20 (f f2:Int) (w:World):Calls prog 62 #[.agg #[.int .u64 f,.int .i64 2,.int .i64 0],.agg #[.int .u64 f2,.int .i64 0,.int .i64 0]] w fun e w'=>e = .returned (.agg #[.int .u64 0,.int .i64 2,.int .i64 0])∧Below w.heap.size w w':=by
 go_enter func62,ntmps62
 go_wp2
 all_goals (try go_region)
 all_goals go_wp2
 all_goals refine bodyPost_ret (v:=.agg #[.int .u64 0,.int .i64 2,.int .i64 0]) (by simp [results,results62,go_sem]) rfl ⟨rfl,?_⟩
 all_goals repeat (first | exact Below.refl _ _ | refine Below.drew ?_ | (refine Below.setCell ?_ (by simp) _) | (refine Below.alloc ?_ (by simp;try omega) _))
set_option maxHeartbeats 1000000 in
theorem jn_21 (f f2:Int) (v2:Int) (w:World):Calls prog 62 #[.agg #[.int .u64 f,.int .i64 2,.int .i64 0],.agg #[.int .u64 f2,.int .i64 1,.int .i64 v2]] w fun e w'=>e = .returned (.agg #[.int .u64 0,.int .i64 2,.int .i64 0])∧Below w.heap.size w w':=by
 go_enter func62,ntmps62
 go_wp2
 all_goals (try go_region)
 all_goals go_wp2
 all_goals refine bodyPost_ret (v:=.agg #[.int .u64 0,.int .i64 2,.int .i64 0]) (by simp [results,results62,go_sem]) rfl ⟨rfl,?_⟩
 all_goals repeat (first | exact Below.refl _ _ | refine Below.drew ?_ | (refine Below.setCell ?_ (by simp) _) | (refine Below.alloc ?_ (by simp;try omega) _))
set_option maxHeartbeats 1000000 in
theorem jn_22 (f f2:Int) (w:World):Calls prog 62 #[.agg #[.int .u64 f,.int .i64 2,.int .i64 0],.agg #[.int .u64 f2,.int .i64 2,.int .i64 0]] w fun e w'=>e = .returned (.agg #[.int .u64 0,.int .i64 2,.int .i64 0])∧Below w.heap.size w w':=by
 go_enter func62,ntmps62
 go_wp2
 all_goals (try go_region)
 all_goals go_wp2
 all_goals refine bodyPost_ret (v:=.agg #[.int .u64 0,.int .i64 2,.int .i64 0]) (by simp [results,results62,go_sem]) rfl ⟨rfl,?_⟩
 all_goals repeat (first | exact Below.refl _ _ | refine Below.drew ?_ | (refine Below.setCell ?_ (by simp) _) | (refine Below.alloc ?_ (by simp;try omega) _))
theorem Md (a b:Cl) (ha:a.ok) (hb:b.ok) (w:World):Calls prog 62 #[a.val,b.val] w (Cb a b w):=by
 obtain ⟨f,k,v⟩:=a
 obtain ⟨f2,k2,v2⟩:=b
 obtain ⟨hf,hk⟩:=ha
 obtain ⟨hf2,hk2⟩:=hb
 simp only at hf hk hf2 hk2
 have ho:=or_cast f f2 hf hf2
 rcases mY hk with ⟨rfl,rfl⟩ | rfl | ⟨rfl,rfl⟩<;>rcases mY hk2 with ⟨rfl,rfl⟩ | rfl | ⟨rfl,rfl⟩
 ·exact (jn_00 f f2 w).mono (jI (by simp [joinK,ho]) (by simp [joinK]) (by simp [iP]))
 ·exact (jn_01 f f2 v2 w).mono (jI (by simp [joinK,ho]) (by simp [joinK]) (by simp [iP]))
 ·exact (jn_02 f f2 w).mono (jI (by simp [joinK]) (by simp [joinK]) (by simp [iP]))
 ·exact (jn_10 f f2 v w).mono (jI (by simp [joinK,ho]) (by simp [joinK]) (by simp [iP]))
 ·by_cases hv:v=v2
  ·subst hv
   exact (jn_11 f f2 v w).mono (jI (by simp [joinK,ho]) (by simp [joinK]) (by simp [iP]))
  ·exact (jn_1x f f2 v v2 (by simp [hv]) w).mono (jI (by simp [joinK,hv]) (by simp [joinK,hv]) (by simp [iP,hv]))
 ·exact (jn_12 f f2 v w).mono (jI (by simp [joinK]) (by simp [joinK]) (by simp [iP]))
 ·exact (jn_20 f f2 w).mono (jI (by simp [joinK]) (by simp [joinK]) (by simp [iP]))
 ·exact (jn_21 f f2 v2 w).mono (jI (by simp [joinK]) (by simp [joinK]) (by simp [iP]))
 ·exact (jn_22 f f2 w).mono (jI (by simp [joinK]) (by simp [joinK]) (by simp [iP]))
theorem has_bit {f k:Nat} (hk:k < 64):xA f (k:Int)=f.testBit k:=by
 unfold xA
 rw [decide_eq_true (by omega),decide_eq_true (by omega),Int.toNat_natCast]
 rfl
theorem yI {xs:List Cl} {k:Nat} {c:Cl} (h:xs[k]?=some c):jE (xs.take (k+1))=jE (xs.take k)++Ab c:=by
 rw [List.take_add_one,h];exact xW _ _
theorem E7 (a:Option Addr) (cap len:Nat) (row:List Cl) (c:Cl) (w:World) (hlen:row.length=len) (hm:len≤64) (hra:lS w a row) (hok:∀ (i:Nat) x,row[i]?=some x→x.ok) (hc:c.ok) :
  Calls prog 75 #[.slice a len cap,c.val] w (fun e w'=>e = .returned (ofC row c).val∧Below w.heap.size w w'):=by
 refine cG (args:=[.slice a len cap,c.val]) func75 rfl ntmps75 rfl ?_
 have hS:=St.start w
 refine aO (aR (bQ (cs:=[_,_,_]) hS rfl rfl rfl fun B1 W1 hS=>bU (cs:=[_,_,_]) hS zeroValue89 rfl rfl fun B2 W2 hS=>aQ (XF.thenN (aO (aR (aN (o':=1) fa_89_1 rfl rfl rfl (aT isAgg87 rfl (aJ (hS.at_ 1 rfl) rfl) rfl (aN (o':=2) fa_89_2 rfl rfl rfl (aT isAgg2 rfl (aJ (hS.at_ 1 rfl) rfl) rfl (cY (us:=[(1,.int .i64 _),(2,.int .i64 _)]) rfl (D7 _ _) rfl (bU (cs:=[_,_,_]) hS zeroValue89 rfl rfl fun B3 W3 hS=>bB (i:=0) (vs:=[_,_,_]) (cs':=[_,_,_]) (O':=[_,_,_]) hS sizeOf89 rfl rfl rfl rfl rfl rfl rfl fun W4 hS=>aQ (XF.thenN (aO (aO (aR (aB rfl rfl (aQ (XF.thenN (bI (cX (fun q l W=>∃ k:Nat,k≤len∧q=len - k∧l=[(0,.slice a len cap),(3,.pointer (some ⟨B1,0,none⟩)),(4,.pointer (some ⟨B2,0,none⟩)),(5,.pointer (some ⟨B3,0,none⟩)),(6,.int .i64 (k:Int))]∧St w [(B3,[.int .u64 ((lC row c k).f:Int),.int .i64 (lC row c k).k,.int .i64 (lC row c k).v],89),(B2,[.int .u64 0,.int .i64 0,.int .i64 0],89),(B1,[.int .u64 (c.f:Int),.int .i64 c.k,.int .i64 c.v],89)] [] [] W) (len - 0) ([(0,_),(3,_),(4,_),(5,_),(6,_)]) ⟨rfl,rfl,rfl,rfl,rfl,trivial⟩ (⟨0,Nat.zero_le _,rfl,rfl,hS.clear⟩) ?_))))))))))))))))))))
 clear hS
 rintro q l W ⟨k,hkm,rfl,rfl,hS⟩
 refine aO (aO (aR (aI rfl rfl (aI rfl rfl (bX underlying53 rfl rfl (cC rfl rfl rfl (aQ (XF.thenN (bC rfl (fun hc=>?_) (fun hc=>?_))))))))))
 ·have hc15:=of_decide_eq_true hc;clear hc
  have hk:k < len:=by omega
  obtain ⟨ba,offa,x,rfl,hx,hba,a0,a1,a2⟩:=(hra.below hS.below).at_ (k:=k) (by omega)
  have k1:aK W ba (offa+k * 3) [.int .u64 (x.f:Int),.int .i64 x.k,.int .i64 x.v]:=⟨a0,a1,a2,trivial⟩
  refine bH (XF.thenN (aO (bI (aO (aR (aN (o':=0) fa_89_0 rfl rfl rfl (aT isAgg49 rfl (aJ (hS.at_ 2 rfl) rfl) rfl (aI rfl rfl (dC (vs:=[_,_]) hS goes_84 rfl (zR c.f (k:Int) (c.f.testBit k) (has_bit (by omega)) hc.1 _) rfl ?_)))))))))
  rintro e W5 ⟨rfl,rfl⟩
  refine ⟨_,rfl,Below.refl _ _,fun hS'=>?_⟩
  clear hS;have hS:=hS';clear hS'
  refine aQ (XF.thenN (bC rfl (fun hc=>?_) (fun hc=>?_)))
  ·have hc21:=hc;clear hc
   refine xI bY 6 hS rfl rfl (by kernel_rfl) (by kernel_rfl) (by kernel_rfl) (fun d hd=>by cases hd) (cB 1 rfl 5 rfl rfl (fun w hw=>bL (vs:=[_,_,_]) isAgg89 sizeOf89 rfl (aK.agree (aP hw 0) (Nat.zero_le _) (aK.own (j:=0) (m:=3) (hS.at_ 0 rfl) rfl))) rfl (cB 2 rfl 0 rfl rfl (fun w hw=>aZ rfl) rfl (cB 3 rfl 6 rfl rfl (fun w hw=>aZ rfl) rfl (aM 4 rfl (isV _) (aH _) (rgV (li:=[(23,_),(24,_)]) rfl (aS rfl) ⟨aL 1 (aA rfl rfl rfl),aL 2 (aA rfl rfl rfl),trivial⟩ (fun w hw=>bA  underlying53 sizeOf89 rfl rfl rfl (by omega) rfl) (aD rfl)) (bD 5 rfl 25 3 rfl rfl rfl (fun w hw=>bL (vs:=[_,_,_]) isAgg89 sizeOf89 rfl (aK.agree (aP hw 0) (Nat.zero_le _) (by assumption))) rfl ?_)))))
   refine aM 6 rfl (isV (join (lC row c k) x).val) (aH _) (cP [isV _,isV _] rfl Gd (aS rfl) ⟨cD (aL 0 (aA rfl rfl rfl)),cD (aL 4 (aA rfl rfl rfl)),trivial⟩ (fun vs w' hb hh=>by have e:=bZ (us:=[_,_]) hh;subst e;exact (Md (lC row c k) x (uK hc hok k) (hok k x hx) _).mono fun e w2 h=>⟨_,h.1,rfl,h.2⟩) (aD rfl)) ?_
   refine dB ?_
   intro W6 hbR hS'
   clear hS;have hS:=hS';clear hS'
   refine aG (aG (aG (aG (aG (aG (cH (bB (i:=0) (vs:=[_,_,_]) (cs':=[_,_,_]) (O':=[_,_,_]) hS sizeOf89 rfl rfl rfl rfl rfl rfl rfl fun W7 hS=>aQ (XF.blkN (XF.thenN (aR (aI rfl rfl (cE rfl rfl (IntWalk.i64_in _ (by omega)) rfl (aB rfl rfl (aQ ?_))))))))))))))
   exact XF.round (len - (k+1)) [(0,_),(3,_),(4,_),(5,_),(6,_)] (by omega) ⟨rfl,rfl,rfl,rfl,rfl,trivial⟩ ⟨k+1,by omega,rfl,rfl,by rw [Cq hc21 hx];exact hS.clear⟩
  ·have hc21:=hc;clear hc
   refine bH (XF.blkN (XF.thenN (aR (aI rfl rfl (cE rfl rfl (IntWalk.i64_in _ (by omega)) rfl (aB rfl rfl (aQ ?_)))))))
   exact XF.round (len - (k+1)) [(0,_),(3,_),(4,_),(5,_),(6,_)] (by omega) ⟨rfl,rfl,rfl,rfl,rfl,trivial⟩ ⟨k+1,by omega,rfl,rfl,by rw [Ae hc21];exact hS.clear⟩
 ·have hc15:=of_decide_eq_false hc;clear hc
  refine cW (XF.thenX (XF.thenX (XF.blkX (XF.thenN (aO (aR (aU (vs:=[_,_,_]) isAgg89 sizeOf89 rfl (aK.own (j:=0) (m:=3) (hS.at_ 0 rfl) rfl) rfl (bB (i:=1) (vs:=[_,_,_]) (cs':=[_,_,_]) (O':=[_,_,_]) hS sizeOf89 rfl rfl rfl rfl rfl rfl rfl fun W8 hS=>aQ (XF.thenN (bM (XF.res (dY (vs:=[_,_,_]) results75 isAgg89 sizeOf89 rfl (aK.own (j:=0) (m:=3) (hS.at_ 1 rfl) rfl)) ?_)))))))))))
  have e1:row.length=k:=by omega
  exact ⟨by unfold ofC;rw [e1],hS.below⟩
section
variable {w W:World} {k:Nat} {n:Int} {f g:WF} {x y:PF}
theorem ext_f2R (hx:PIs w 2 n f x) (hy:PIs w 2 n g y) (hf:f.z=false) (hg:g.z=false) (p0:0≤f.c) (p1:f.c≤n) (q0:0≤g.c) (q1:g.c≤n):PNew k W 2 n (yD (min (f.c+g.c) n)) (iF 2 n x y):=by
 obtain ⟨rfl,_,_⟩:=hx.k2 hf
 obtain ⟨rfl,_,_⟩:=hy.k2 hg
 rw [Lg]
 exact oJ (.cost _ rfl (by omega) (by omega))
theorem ext_f4C {m:Nat} {a:Option Addr} {cap:Nat} (hx:PIs w 4 m f x) (hy:PIs w 4 m g y) (hf:f.z=false) (hg:g.z=false) (hv:lS W a (iE f.cells g.cells)) (hl:∀ ad,a=some ad→k≤ad.block):PNew k W 4 m (qO a cap (iE f.cells g.cells)) (iF 4 m x y):=by
 obtain ⟨hx',h0⟩:=hx.k4 hf
 obtain ⟨hy',h1⟩:=hy.k4 hg
 have hv2:=K8 h0 h1
 rw [hx',hy',Li]
 exact sO (.cells m _ rfl rfl hv2) hv2.bits (by have:=hv2.le;have:=hv2.len;unfold maxLen;omega) hv hl
end
theorem oP (t n:Int) (sa:Option Addr) (sc:Nat) (f g:WF) (x y:PF) (w:World) (hp:bS t n 0=true) (hx:PIs w t n f x) (hy:PIs w t n g y) :
  Calls prog 63 #[.agg #[.int .i64 t,.int .i64 n,.slice sa 0 sc],f.val,g.val] w (jG (.one t n) (.one (iF t n x y)) w):=by
 refine cG (args:=[.agg #[.int .i64 t,.int .i64 n,.slice sa 0 sc],f.val,g.val]) func63 rfl ntmps63 rfl ?_
 have hS:=St.start w
 refine aO (aR (bQ (cs:=[_,_,_]) hS rfl rfl rfl fun B1 W1 hS=>bQ (cs:=[_,_,_,_,_,_]) hS rfl rfl rfl fun B2 W2 hS=>bQ (cs:=[_,_,_,_,_,_]) hS rfl rfl rfl fun B3 W3 hS=>bU (cs:=[_,_,_,_,_,_]) hS zeroValue56 rfl rfl fun B4 W4 hS=>aQ (XF.thenN (aO (aO (aR (aN (o':=0) eD rfl rfl rfl (aT isAgg4 rfl (aJ (hS.at_ 2 rfl) rfl) rfl (aI rfl rfl (bG (d:=11) rfl (fun hc=>?_) (fun hc=>?_)))))))))))
 ·have hg11:=hc;clear hc
  have hz:=hg11
  refine aF (d:=11) rfl rfl rfl rfl (aF (d:=11) rfl rfl rfl rfl (aY rfl rfl rfl (aQ (XF.thenN (cU rfl (aO (aR (cY (us:=[(0,.bool _)]) rfl (vA _) rfl (bB (i:=0) (vs:=[_,_,_,_,_,_]) (cs':=[_,_,_,_,_,_]) (O':=[_,_,_,_]) hS sizeOf56 rfl rfl rfl rfl rfl rfl rfl fun W5 hS=>aQ (XF.thenN (bM (XF.thenR (XF.res (dY (vs:=[_,_,_,_,_,_]) results63 isAgg56 sizeOf56 rfl (aK.own (j:=0) (m:=6) (hS.at_ 0 rfl) rfl)) ?_)))))))))))))
  exact ext_zL hx hz hS.below
 ·have hg11:=hc;clear hc
  have hf:=hg11
  refine aC (d:=11) rfl rfl (aN (o':=0) eD rfl rfl rfl (aC (d:=11) rfl rfl (aT isAgg4 rfl (aJ (hS.at_ 1 rfl) rfl) rfl (bN rfl rfl rfl (aQ (XF.thenN (bC rfl (fun hc=>?_) (fun hc=>?_))))))))
  ·have hc14:=hc;clear hc
   refine aO (aR (cY (us:=[(0,.bool _)]) rfl (vA _) rfl (bB (i:=0) (vs:=[_,_,_,_,_,_]) (cs':=[_,_,_,_,_,_]) (O':=[_,_,_,_]) hS sizeOf56 rfl rfl rfl rfl rfl rfl rfl fun W6 hS=>aQ (XF.thenN (bM (XF.thenR (XF.res (dY (vs:=[_,_,_,_,_,_]) results63 isAgg56 sizeOf56 rfl (aK.own (j:=0) (m:=6) (hS.at_ 0 rfl) rfl)) ?_)))))))
   exact ext_zR hy hc14 hS.below
  ·have hc14:=hc;clear hc
   have hg:=hc14
   refine bH (XF.thenN (aO (aR (cY (us:=[]) rfl (qI) rfl (bU (cs:=[_,_,_,_,_,_]) hS zeroValue56 rfl rfl fun B7 W7 hS=>bB (i:=0) (vs:=[_,_,_,_,_,_]) (cs':=[_,_,_,_,_,_]) (O':=[_,_,_,_,_]) hS sizeOf56 rfl rfl rfl rfl rfl rfl rfl fun W8 hS=>aQ (XF.thenN (aO (aO (aR (aN (o':=0) dZ rfl rfl rfl (aT isAgg22 rfl (aJ (hS.at_ 4 rfl) rfl) rfl (aQ (XF.thenN (bI (aO (aR (cM rfl rfl rfl (aB rfl rfl (aQ (XF.thenN (bC rfl (fun hc=>?_) (fun hc=>?_))))))))))))))))))))))
   ·have hc19:=of_decide_eq_true hc;clear hc
    have e2:t=2:=hc19
    subst e2
    obtain ⟨_,p0,p1⟩:=hx.k2 hf
    obtain ⟨_,q0,q1⟩:=hy.k2 hg
    obtain ⟨d0,d1,_⟩:=qK hp
    refine aR (aN (o':=1) gC rfl rfl rfl (aT isAgg3 rfl (aJ (hS.at_ 3 rfl) rfl) rfl (aN (o':=1) gC rfl rfl rfl (aT isAgg3 rfl (aJ (hS.at_ 2 rfl) rfl) rfl (cE rfl rfl (IntWalk.i64_in _ (by omega)) rfl (aN (o':=1) eS rfl rfl rfl (aT isAgg3 rfl (aJ (hS.at_ 4 rfl) rfl) rfl (E4 rfl rfl rfl (aN (o':=1) gC rfl rfl rfl (dK (i:=0) (cs':=[_,_,_,_,_,_]) (O':=[_,_,_,_,_]) hS sizeOf3 rfl rfl rfl rfl rfl rfl rfl fun W9 hS=>aQ (XF.blkN (XF.thenN (aO (aR (aU (vs:=[_,_,_,_,_,_]) isAgg56 sizeOf56 rfl (aK.own (j:=0) (m:=6) (hS.at_ 0 rfl) rfl) rfl (bB (i:=1) (vs:=[_,_,_,_,_,_]) (cs':=[_,_,_,_,_,_]) (O':=[_,_,_,_,_]) hS sizeOf56 rfl rfl rfl rfl rfl rfl rfl fun W10 hS=>aQ (XF.thenN (bM (XF.res (dY (vs:=[_,_,_,_,_,_]) results63 isAgg56 sizeOf56 rfl (aK.own (j:=0) (m:=6) (hS.at_ 1 rfl) rfl)) ?_)))))))))))))))))))
    exact hY (ext_f2R hx hy hf hg p0 p1 q0 q1) hS.below
   ·have hc19:=of_decide_eq_false hc;clear hc
    refine aO (aR (cM rfl rfl rfl (aB rfl rfl (aQ (XF.thenN (bC rfl (fun hc=>?_) (fun hc=>?_)))))))
    ·have hc30:=of_decide_eq_true hc;clear hc
     have e3:t=3:=hc30
     subst e3
     obtain ⟨m,rfl,hm⟩:=Ct hp (.inl rfl)
     refine aR (aN (o':=1) eS rfl rfl rfl (aT isAgg3 rfl (aJ (hS.at_ 4 rfl) rfl) rfl (aN (o':=2) gD rfl rfl rfl (aU (vs:=[_,_]) isAgg52 sizeOf52 rfl (aK.own (j:=2) (m:=2) (hS.at_ 3 rfl) rfl) rfl (aN (o':=2) gD rfl rfl rfl (aU (vs:=[_,_]) isAgg52 sizeOf52 rfl (aK.own (j:=2) (m:=2) (hS.at_ 2 rfl) rfl) rfl ?_))))))
     have hsz:=hS.below.size
     refine dC (vs:=[_,_,_]) hS goes_74 rfl (extR_is _ _ _ _ _ _ _ _ _ _ (hx.at_.fat (by have:=hx.rows64 (l:=0);omega) |>.below hS.below) (hy.at_.fat (by have:=hy.rows64 (l:=0);omega) |>.below hS.below) _ rfl _ rfl _ rfl _ _ hx.at_.rl hy.at_.rl) rfl ?_
     rintro e W11 ⟨a1,c1,rfl,hv,hl,hb⟩
     refine ⟨_,rfl,hb,fun hS'=>?_⟩
     clear hS;have hS:=hS';clear hS'
     refine aI rfl rfl (cI rfl rfl rfl (cI rfl rfl rfl (aN (o':=2) gD rfl rfl rfl (bB (i:=0) (vs:=[_,_]) (cs':=[_,_,_,_,_,_]) (O':=[_,_,_,_,_]) hS sizeOf52 rfl rfl rfl rfl rfl rfl rfl fun W12 hS=>aQ (XF.blkN (XF.thenN (aO (aR (aU (vs:=[_,_,_,_,_,_]) isAgg56 sizeOf56 rfl (aK.own (j:=0) (m:=6) (hS.at_ 0 rfl) rfl) rfl (bB (i:=1) (vs:=[_,_,_,_,_,_]) (cs':=[_,_,_,_,_,_]) (O':=[_,_,_,_,_]) hS sizeOf56 rfl rfl rfl rfl rfl rfl rfl fun W13 hS=>aQ (XF.thenN (bM (XF.res (dY (vs:=[_,_,_,_,_,_]) results63 isAgg56 sizeOf56 rfl (aK.own (j:=0) (m:=6) (hS.at_ 1 rfl) rfl)) ?_)))))))))))))
     exact hY (ext_f3 hx hy hf hg (hv.agree (fun ad e=>(hl ad e).1) (hS.since 0 rfl)) (fun ad e=>Nat.le_trans hsz (hl ad e).1)) hS.below
    ·have hc30:=of_decide_eq_false hc;clear hc
     refine aO (aR (cM rfl rfl rfl (aB rfl rfl (aQ (XF.thenN (bC rfl (fun hc=>?_) (fun hc=>?_)))))))
     ·have hc43:=of_decide_eq_true hc;clear hc
      have e4:t=4:=hc43
      subst e4
      obtain ⟨m,rfl,hm⟩:=Ct hp (.inr rfl)
      obtain ⟨hpx,vx⟩:=hx.k4 hf
      obtain ⟨hpy,vy⟩:=hy.k4 hg
      refine aO (aR (aB rfl rfl (aQ (XF.thenN (bI (cX (fun q l W=>∃ (k:Nat) (v:Value),k≤m∧q=m - k∧l=[(3,.pointer (some ⟨B1,0,none⟩)),(4,.pointer (some ⟨B2,0,none⟩)),(5,.pointer (some ⟨B3,0,none⟩)),(6,.pointer (some ⟨B4,0,none⟩)),(7,.pointer (some ⟨B7,0,none⟩)),(8,.int .i64 (k:Int))]∧St w [(B7,[.bool false,.int .i64 0,.int .u64 0,.slice none 0 0,v,.slice none 0 0],56),(B4,[.bool false,.int .i64 0,.int .u64 0,.slice none 0 0,.slice none 0 0,.slice none 0 0],56),(B3,[.bool g.z,.int .i64 g.c,.int .u64 (g.g:Int),.slice g.ra g.rl g.rc,.slice g.ca g.cl g.cc,.slice g.pa g.pl g.pc],56),(B2,[.bool f.z,.int .i64 f.c,.int .u64 (f.g:Int),.slice f.ra f.rl f.rc,.slice f.ca f.cl f.cc,.slice f.pa f.pl f.pc],56),(B1,[.int .i64 4,.int .i64 (m:Int),.slice sa 0 sc],25)] [⟨v,k,jE ((iE f.cells g.cells).take k),89,3⟩] [] W) (m - 0) ([(3,_),(4,_),(5,_),(6,_),(7,_),(8,_)]) ⟨rfl,rfl,rfl,rfl,rfl,rfl,trivial⟩ (⟨0,.slice none 0 0,Nat.zero_le _,rfl,rfl,hS.clear.newG _ _⟩) ?_))))))
      clear hS
      rintro q l W ⟨k,v,hkm,rfl,rfl,hS⟩
      refine aO (aO (aR (aI rfl rfl (aN (o':=1) eS rfl rfl rfl (aT isAgg3 rfl (aJ (hS.at_ 4 rfl) rfl) rfl (cC rfl rfl rfl (aQ (XF.thenN (bC rfl (fun hc=>?_) (fun hc=>?_))))))))))
      ·have hc48:=of_decide_eq_true hc;clear hc
       have hk:k < m:=by omega
       have hlx:=vx.len
       have hly:=vy.len
       obtain ⟨ba,offa,y1,eca,hy1,hba,a0,a1,a2⟩:=(hy.at_.cells.below hS.below).at_ (k:=k) (by omega)
       have k1:aK W ba (offa+k * 3) [.int .u64 (y1.f:Int),.int .i64 y1.k,.int .i64 y1.v]:=⟨a0,a1,a2,trivial⟩
       have h1:(iE f.cells g.cells)[k]?=some (ofC f.cells y1):=by unfold iE;rw [List.getElem?_map,hy1];rfl
       have hcl:=hx.at_.cl
       have hclg:=hy.at_.cl
       simp only [eca] at hS
       refine bH (XF.thenN (aO (bI ?_)))
       refine Bn (p:=11) (k:=13) (gi:=0) (m:=1) bY hS rfl rfl (by kernel_rfl) (by kernel_rfl) (by kernel_rfl) (fun d hd=>by cases hd) rfl rfl underlying53 D6 rfl rfl (by show 0 < 3;decide) rfl rfl rfl (by dsimp only;simp only [maxLen];omega) (by dsimp only;show _ * 24≤_;omega) ?_
       refine cK 1 rfl rfl (by kernel_rfl) (rgV (li:=[(7,_)]) rfl (aS rfl) ⟨bP rfl,trivial⟩ (fun w hw=>aV (o':=4) dJ rfl rfl) (aD rfl)) (cK 2 rfl rfl (by kernel_rfl) (rgV (li:=[(51,_)]) rfl (aS rfl) ⟨aL 0 (aA rfl rfl rfl),trivial⟩ (fun w hw=>aX isAgg53 rfl ((aP hw 0).cell (Nat.zero_le _) (aJ (hS.at_ 0 rfl) rfl))) (aD rfl)) (cK 3 rfl rfl (by kernel_rfl) (rgV (li:=[(4,_)]) rfl (aS rfl) ⟨bP rfl,trivial⟩ (fun w hw=>aV (o':=4) dJ rfl rfl) (aD rfl)) (cK 4 rfl rfl (by kernel_rfl) (rgV (li:=[(53,_)]) rfl (aS rfl) ⟨aL 2 (aA rfl rfl rfl),trivial⟩ (fun w hw=>aX isAgg53 rfl ((aP hw 0).cell (Nat.zero_le _) (aJ (hS.at_ 3 rfl) rfl))) (aD rfl)) (cK 5 rfl rfl (by kernel_rfl) (rgV (li:=[(5,_)]) rfl (aS rfl) ⟨bP rfl,trivial⟩ (fun w hw=>aV (o':=4) dJ rfl rfl) (aD rfl)) (cK 6 rfl rfl (by kernel_rfl) (rgV (li:=[(55,_)]) rfl (aS rfl) ⟨aL 4 (aA rfl rfl rfl),trivial⟩ (fun w hw=>aX isAgg53 rfl ((aP hw 0).cell (Nat.zero_le _) (aJ (hS.at_ 2 rfl) rfl))) (aD rfl)) (cK 7 rfl rfl (by kernel_rfl) (rgV (li:=[(8,_)]) rfl (aS rfl) ⟨bP rfl,trivial⟩ (fun w hw=>aZ rfl) (aD rfl)) (cK 8 rfl rfl (by kernel_rfl) (rgV (li:=[(56,_),(57,_)]) rfl (aS rfl) ⟨aL 5 (aA rfl rfl rfl),aL 6 (aA rfl rfl rfl),trivial⟩ (fun w hw=>bA  underlying53 sizeOf89 rfl rfl rfl (by omega) rfl) (aD rfl)) (cK 9 rfl rfl (by kernel_rfl) (rgV (li:=[(58,_)]) rfl (aS rfl) ⟨aL 7 (aA rfl rfl rfl),trivial⟩ (fun w hw=>bL (vs:=[_,_,_]) isAgg89 sizeOf89 rfl (aK.agree (aP hw 0) (Nat.zero_le _) (by assumption))) (aD rfl)) ?_))))))))
       refine cK 10 rfl rfl (by kernel_rfl) (cP [isV _,isV _] rfl goes_75 (aS rfl) ⟨cD (aL 3 (aA rfl rfl rfl)),cD (aL 8 (aA rfl rfl rfl)),trivial⟩ (fun vs w' hb hh=>by have e:=bZ (us:=[_,_]) hh;subst e;exact (E7 f.ca f.cc f.cl f.cells y1 _ hx.at_.cl (by omega) ((hx.at_.cells.below hS.below).below hb) vx.oks (vy.oks k y1 hy1)).mono fun e w2 h=>⟨_,h.1,rfl,h.2⟩) (aD rfl)) ?_
       refine tD 11 rfl rfl (by kernel_rfl) (tC W.heap.size 1 89 _) (kN) (rF (us:=[.agg (List.toArray [_,_,_])]) rfl (aS rfl) underlying53 sizeOf89 zeroValue89 rfl rfl ⟨cD (aL 9 (aA rfl rfl rfl)),trivial⟩ (zE _ _ _) (aD rfl)) (oX 12 rfl rfl (iK 13 rfl rfl (rgV (li:=[(7,_)]) rfl (aS rfl) ⟨bP rfl,trivial⟩ (fun w hw=>aV (o':=4) dJ rfl rfl) (aD rfl)) (lgV (li:=[(7,_)]) rfl (aS rfl) ⟨bP rfl,trivial⟩ (fun w=>aV (o':=4) dJ rfl rfl) (aD rfl) rfl) (oW ⟨_,_,aL 1 (aA rfl rfl rfl),aL 10 (aA rfl rfl rfl),jM rfl rfl,?_⟩)))
       intro A14 v14 news14 W14 hbR hqA14 hS'
       clear hS;have hS:=hS';clear hS'
       cases hqA14
       refine aG (aG (aG (aG (aG (aG (aG (aG (aG (aG ?_)))))))))
       refine dR ?_;intro _ _
       refine aG (aG ?_)
       obtain ⟨g9,c9,e9,_,_⟩:=(hS.row 0 rfl).form (by show 0 < k+1;omega)
       dsimp only at e9
       subst e9
       refine cH (dK (i:=0) (cs':=[_,_,_,_,_,_]) (O':=[_,_,_,_,_]) hS sizeOf53 rfl rfl rfl rfl rfl rfl rfl fun W15 hS=>aQ (XF.blkN (XF.thenN (aR (aI rfl rfl (cE rfl rfl (IntWalk.i64_in _ (by omega)) rfl (aB rfl rfl (aQ ?_))))))))
       simp only [← eca] at hS
       exact XF.round (m - (k+1)) [(3,_),(4,_),(5,_),(6,_),(7,_),(8,_)] (by omega) ⟨rfl,rfl,rfl,rfl,rfl,rfl,trivial⟩ ⟨k+1,_,by omega,rfl,rfl,by rw [yI h1];exact hS.clear⟩
      ·have hc48:=of_decide_eq_false hc;clear hc
       refine cW (XF.thenX (XF.thenX (XF.blkX (XF.blkN (XF.thenN (aO ?_))))))
       obtain rfl:k=m:=by omega
       have hrow:=hS.row 0 rfl
       have hln:(iE f.cells g.cells).length=k:=by unfold iE;rw [List.length_map];exact vy.len
       have ht0:(iE f.cells g.cells).take k=iE f.cells g.cells:=List.take_of_length_le (by rw [hln];exact Nat.le_refl _)
       simp only [ht0] at hrow
       obtain ⟨hn,a9,c9,rfl,_,_⟩:=gJ hrow
       clear hrow
       refine aR (aU (vs:=[_,_,_,_,_,_]) isAgg56 sizeOf56 rfl (aK.own (j:=0) (m:=6) (hS.at_ 0 rfl) rfl) rfl (bB (i:=1) (vs:=[_,_,_,_,_,_]) (cs':=[_,_,_,_,_,_]) (O':=[_,_,_,_,_]) hS sizeOf56 rfl rfl rfl rfl rfl rfl rfl fun W16 hS=>aQ (XF.thenN (bM (XF.res (dY (vs:=[_,_,_,_,_,_]) results63 isAgg56 sizeOf56 rfl (aK.own (j:=0) (m:=6) (hS.at_ 1 rfl) rfl)) ?_)))))
       have hrow:=hS.row 0 rfl
       simp only [ht0] at hrow
       obtain ⟨_,a8,c8,e8,hr9,hf9⟩:=gJ hrow
       cases e8
       refine ⟨qO a9 c9 (iE f.cells g.cells),?_,ext_f4C hx hy hf hg hr9 (fun ad e=>(hf9 ad e).1),hS.below⟩
       show _=Ending.returned (Value.agg #[.bool false,.int .i64 0,.int .u64 ((0:Nat):Int),.slice none 0 0,.slice a9 (iE f.cells g.cells).length c9,.slice none 0 0])
       rw [hln]
       rfl
     ·have hc43:=of_decide_eq_false hc;clear hc
      refine aO (aR (cM rfl rfl rfl (aB rfl rfl (aQ (XF.thenN (bC rfl (fun hc=>absurd (of_decide_eq_true hc) (by exact mF hp)) (fun hc=>?_)))))))
      have hc:=of_decide_eq_false hc
      refine bH (XF.blkN (XF.thenN (aO (aR (aU (vs:=[_,_,_,_,_,_]) isAgg56 sizeOf56 rfl (aK.own (j:=0) (m:=6) (hS.at_ 0 rfl) rfl) rfl (bB (i:=1) (vs:=[_,_,_,_,_,_]) (cs':=[_,_,_,_,_,_]) (O':=[_,_,_,_,_]) hS sizeOf56 rfl rfl rfl rfl rfl rfl rfl fun W17 hS=>aQ (XF.thenN (bM (XF.res (dY (vs:=[_,_,_,_,_,_]) results63 isAgg56 sizeOf56 rfl (aK.own (j:=0) (m:=6) (hS.at_ 1 rfl) rfl)) ?_)))))))))
      have e1:t=1:=by
       have:=(fP hp).2
       omega
      subst e1
      exact hY (ext_f1 hx hy hf hg) hS.below
theorem E8 (t n u m:Int) (a1 a2:Option Addr) (c1 c2 b off sc:Nat) (w:World) (hs1:S3 w b off ⟨t,n,a1,0,c1⟩) (hs2:S3 w b (off+3) ⟨u,m,a2,0,c2⟩) (hp1:bS t n 0=true) (hp2:bS u m 0=true)(fra fca:Option Addr) (frc fcc fpc fb fo:Nat) (f1 f2:WF) (x1 x2:PF) (hf6:W6 w fb fo f1) (hf7:W6 w fb (fo+6) f2) (hx1:PIs w t n f1 x1) (hx2:PIs w u m f2 x2)(gra gca:Option Addr) (grc gcc gpc gb go:Nat) (g1 g2:WF) (y1 y2:PF) (hg6:W6 w gb go g1) (hg7:W6 w gb (go+6) g2) (hy1:PIs w t n g1 y1) (hy2:PIs w u m g2 y2) :
  Calls prog 63 #[.agg #[.int .i64 5,.int .i64 0,.slice (some ⟨b,off,none⟩) 2 sc],.agg #[.bool false,.int .i64 0,.int .u64 0,.slice fra 0 frc,.slice fca 0 fcc,.slice (some ⟨fb,fo,none⟩) 2 fpc],.agg #[.bool false,.int .i64 0,.int .u64 0,.slice gra 0 grc,.slice gca 0 gcc,.slice (some ⟨gb,go,none⟩) 2 gpc]] w (jG (.two t n u m) (.two (iF t n x1 y1) (iF u m x2 y2)) w):=by
 refine cG (args:=[.agg #[.int .i64 5,.int .i64 0,.slice (some ⟨b,off,none⟩) 2 sc],.agg #[.bool false,.int .i64 0,.int .u64 0,.slice fra 0 frc,.slice fca 0 fcc,.slice (some ⟨fb,fo,none⟩) 2 fpc],.agg #[.bool false,.int .i64 0,.int .u64 0,.slice gra 0 grc,.slice gca 0 gcc,.slice (some ⟨gb,go,none⟩) 2 gpc]]) func63 rfl ntmps63 rfl ?_
 have hS:=St.start w
 refine aO (aR (bQ (cs:=[_,_,_]) hS rfl rfl rfl fun B1 W1 hS=>bQ (cs:=[_,_,_,_,_,_]) hS rfl rfl rfl fun B2 W2 hS=>bQ (cs:=[_,_,_,_,_,_]) hS rfl rfl rfl fun B3 W3 hS=>bU (cs:=[_,_,_,_,_,_]) hS zeroValue56 rfl rfl fun B4 W4 hS=>aQ (XF.thenN (aO (aO (aR (aN (o':=0) eD rfl rfl rfl (aT isAgg4 rfl (aJ (hS.at_ 2 rfl) rfl) rfl (aI rfl rfl (bG (d:=11) rfl (fun hc=>absurd hc (by decide)) (fun hc=>?_)))))))))))
 skip
 refine aC (d:=11) rfl rfl (aN (o':=0) eD rfl rfl rfl (aC (d:=11) rfl rfl (aT isAgg4 rfl (aJ (hS.at_ 1 rfl) rfl) rfl (bN rfl rfl rfl (aQ (XF.thenN (bC rfl (fun hc=>absurd hc (by decide)) (fun hc=>?_))))))))
 skip
 refine bH (XF.thenN (aO (aR (cY (us:=[]) rfl (qI) rfl (bU (cs:=[_,_,_,_,_,_]) hS zeroValue56 rfl rfl fun B5 W5 hS=>bB (i:=0) (vs:=[_,_,_,_,_,_]) (cs':=[_,_,_,_,_,_]) (O':=[_,_,_,_,_]) hS sizeOf56 rfl rfl rfl rfl rfl rfl rfl fun W6 hS=>aQ (XF.thenN (aO (aO (aR (aN (o':=0) dZ rfl rfl rfl (aT isAgg22 rfl (aJ (hS.at_ 4 rfl) rfl) rfl (aQ (XF.thenN (bI (aO (aR (cM rfl rfl rfl (aB rfl rfl (aQ (XF.thenN (bC rfl (fun hc=>absurd (of_decide_eq_true hc) (by omega)) (fun hc=>?_))))))))))))))))))))))
 have hc:=of_decide_eq_false hc
 refine aO (aR (cM rfl rfl rfl (aB rfl rfl (aQ (XF.thenN (bC rfl (fun hc=>absurd (of_decide_eq_true hc) (by omega)) (fun hc=>?_)))))))
 have hc:=of_decide_eq_false hc
 refine aO (aR (cM rfl rfl rfl (aB rfl rfl (aQ (XF.thenN (bC rfl (fun hc=>absurd (of_decide_eq_true hc) (by omega)) (fun hc=>?_)))))))
 have hc:=of_decide_eq_false hc
 refine aO (aR (cM rfl rfl rfl (aB rfl rfl (aQ (XF.thenN (bC rfl (fun hc=>?_) (fun hc=>absurd (of_decide_eq_false hc) (by omega))))))))
 have hc:=of_decide_eq_true hc
 have hsz:=hS.below.size
 have k1:=aK.agree hS.agree (Nat.zero_le _) hs1.cells
 have k2:=aK.agree hS.agree (Nat.zero_le _) hs2.cells
 have kf1:=aK.agree hS.agree (Nat.zero_le _) hf6.cells
 have kf2:=aK.agree hS.agree (Nat.zero_le _) hf7.cells
 have kg1:=aK.agree hS.agree (Nat.zero_le _) hg6.cells
 have kg2:=aK.agree hS.agree (Nat.zero_le _) hg7.cells
 refine xI bY 28 hS rfl rfl (by kernel_rfl) (by kernel_rfl) (by kernel_rfl) (fun d hd=>by cases hd) (cB 1 rfl 3 rfl rfl (fun w hw=>aV (o':=2) dM rfl rfl) rfl (bD 2 rfl 66 0 rfl rfl rfl (fun w hw=>aX isAgg23 rfl ((aP hw 0).cell (Nat.zero_le _) (aJ (hS.at_ 4 rfl) rfl))) rfl (bD 3 rfl 67 1 rfl rfl rfl (fun w hw=>bA (j:=0) underlying23 sizeOf25 rfl rfl rfl (by omega) (Nat.add_zero _)) rfl (bD 4 rfl 68 2 rfl rfl rfl (fun w hw=>bL (vs:=[_,_,_]) isAgg25 sizeOf25 rfl (aK.agree (aP hw 0) (Nat.zero_le _) (by assumption))) rfl (cB 5 rfl 4 rfl rfl (fun w hw=>aV (o':=5) cV rfl rfl) rfl (bD 6 rfl 70 4 rfl rfl rfl (fun w hw=>aX isAgg54 rfl ((aP hw 0).cell (Nat.zero_le _) (aJ (hS.at_ 3 rfl) rfl))) rfl (bD 7 rfl 71 5 rfl rfl rfl (fun w hw=>bA (j:=0) underlying54 sizeOf56 rfl rfl rfl (by omega) (Nat.add_zero _)) rfl (bD 8 rfl 72 6 rfl rfl rfl (fun w hw=>bL (vs:=[_,_,_,_,_,_]) isAgg56 sizeOf56 rfl (aK.agree (aP hw 0) (Nat.zero_le _) (by assumption))) rfl (cB 9 rfl 5 rfl rfl (fun w hw=>aV (o':=5) cV rfl rfl) rfl (bD 10 rfl 74 8 rfl rfl rfl (fun w hw=>aX isAgg54 rfl ((aP hw 0).cell (Nat.zero_le _) (aJ (hS.at_ 2 rfl) rfl))) rfl (bD 11 rfl 75 9 rfl rfl rfl (fun w hw=>bA (j:=0) underlying54 sizeOf56 rfl rfl rfl (by omega) (Nat.add_zero _)) rfl (bD 12 rfl 76 10 rfl rfl rfl (fun w hw=>bL (vs:=[_,_,_,_,_,_]) isAgg56 sizeOf56 rfl (aK.agree (aP hw 0) (Nat.zero_le _) (by assumption))) rfl ?_))))))))))))
 refine aM 13 rfl (eY W6.heap.size (.one t n) (.one (iF t n x1 y1))) (eO) (cP [isV _,isV _,isV _] rfl uF (aS rfl) ⟨cD (aL 3 (aA rfl rfl rfl)),cD (aL 7 (aA rfl rfl rfl)),cD (aL 11 (aA rfl rfl rfl)),trivial⟩ (fun vs w' hb hh=>by have e:=bZ (us:=[_,_,_]) hh;subst e;exact fS hb.size (oP _ _ _ _ _ _ _ _ _ hp1 (hx1.below (hS.below.trans (hb.mono hS.below.size))) (hy1.below (hS.below.trans (hb.mono hS.below.size))))) (aD rfl)) ?_
 refine cB 14 rfl 3 rfl rfl (fun w hw=>aV (o':=2) dM rfl rfl) rfl (bD 15 rfl 79 13 rfl rfl rfl (fun w hw=>aX isAgg23 rfl ((aP hw 0).cell (Nat.zero_le _) (aJ (hS.at_ 4 rfl) rfl))) rfl (bD 16 rfl 80 14 rfl rfl rfl (fun w hw=>bA (j:=1) underlying23 sizeOf25 rfl rfl rfl (by omega) rfl) rfl (bD 17 rfl 81 15 rfl rfl rfl (fun w hw=>bL (vs:=[_,_,_]) isAgg25 sizeOf25 rfl (aK.agree (aP hw 0) (Nat.zero_le _) (by assumption))) rfl (cB 18 rfl 4 rfl rfl (fun w hw=>aV (o':=5) cV rfl rfl) rfl (bD 19 rfl 83 17 rfl rfl rfl (fun w hw=>aX isAgg54 rfl ((aP hw 0).cell (Nat.zero_le _) (aJ (hS.at_ 3 rfl) rfl))) rfl (bD 20 rfl 84 18 rfl rfl rfl (fun w hw=>bA (j:=1) underlying54 sizeOf56 rfl rfl rfl (by omega) rfl) rfl (bD 21 rfl 85 19 rfl rfl rfl (fun w hw=>bL (vs:=[_,_,_,_,_,_]) isAgg56 sizeOf56 rfl (aK.agree (aP hw 0) (Nat.zero_le _) (by assumption))) rfl (cB 22 rfl 5 rfl rfl (fun w hw=>aV (o':=5) cV rfl rfl) rfl (bD 23 rfl 87 21 rfl rfl rfl (fun w hw=>aX isAgg54 rfl ((aP hw 0).cell (Nat.zero_le _) (aJ (hS.at_ 2 rfl) rfl))) rfl (bD 24 rfl 88 22 rfl rfl rfl (fun w hw=>bA (j:=1) underlying54 sizeOf56 rfl rfl rfl (by omega) rfl) rfl (bD 25 rfl 89 23 rfl rfl rfl (fun w hw=>bL (vs:=[_,_,_,_,_,_]) isAgg56 sizeOf56 rfl (aK.agree (aP hw 0) (Nat.zero_le _) (by assumption))) rfl ?_)))))))))))
 refine aM 26 rfl (eY W6.heap.size (.one u m) (.one (iF u m x2 y2))) (eO) (cP [isV _,isV _,isV _] rfl uF (aS rfl) ⟨cD (aL 16 (aA rfl rfl rfl)),cD (aL 20 (aA rfl rfl rfl)),cD (aL 24 (aA rfl rfl rfl)),trivial⟩ (fun vs w' hb hh=>by have e:=bZ (us:=[_,_,_]) hh;subst e;exact fS hb.size (oP _ _ _ _ _ _ _ _ _ hp2 (hx2.below (hS.below.trans (hb.mono hS.below.size))) (hy2.below (hS.below.trans (hb.mono hS.below.size))))) (aD rfl)) ?_
 refine aM 27 rfl (kE W6.heap.size (.two t n u m) (.two (iF t n x1 y1) (iF u m x2 y2))) (kZ) (qR rfl (aS rfl) ⟨cD (aL 12 (aA rfl rfl rfl)),cD (aL 25 (aA rfl rfl rfl)),trivial⟩ (aD rfl)) (cB 28 rfl 7 rfl rfl (fun w hw=>aV (o':=5) cV rfl rfl) rfl (dB ?_))
 intro W7 hbR hS'
 clear hS;have hS:=hS';clear hS'
 refine aG (aG (aG (aG (aG (aG (aG (aG (aG (aG (aG (aG ?_)))))))))))
 refine dR ?_;rintro _ ⟨v1,rfl,hn1⟩
 refine aG (aG (aG (aG (aG (aG (aG (aG (aG (aG (aG (aG ?_)))))))))))
 refine dR ?_;rintro _ ⟨v2,rfl,hn2⟩
 refine dR ?_;rintro _ ⟨b9,rfl,hn9⟩
 refine aG (cH (dK (i:=0) (cs':=[_,_,_,_,_,_]) (O':=[_,_,_,_,_]) hS sizeOf54 rfl rfl rfl rfl rfl rfl rfl fun W8 hS=>aQ (XF.blkN (XF.thenN (aO (aR (aU (vs:=[_,_,_,_,_,_]) isAgg56 sizeOf56 rfl (aK.own (j:=0) (m:=6) (hS.at_ 0 rfl) rfl) rfl (bB (i:=1) (vs:=[_,_,_,_,_,_]) (cs':=[_,_,_,_,_,_]) (O':=[_,_,_,_,_]) hS sizeOf56 rfl rfl rfl rfl rfl rfl rfl fun W9 hS=>aQ (XF.thenN (bM (XF.res (dY (vs:=[_,_,_,_,_,_]) results63 isAgg56 sizeOf56 rfl (aK.own (j:=0) (m:=6) (hS.at_ 1 rfl) rfl)) ?_)))))))))))
 exact ⟨oI b9,rfl,(hn9.agree (hS.since 0 rfl)).mono hsz,hS.below⟩
theorem C5 {S:PS} {sf:SF} {f g:WF} {x y:PX} {w:World} (hs:SIs w S sf) (hok:S.ok) (hx:XIs w S f x) (hy:XIs w S g y):Calls prog 63 #[sf.val,f.val,g.val] w (jG S (Eo S x y) w):=by
 cases S<;>cases x<;>cases y<;>first | exact hx.elim | exact hy.elim | skip
 ·obtain ⟨a,c,rfl⟩:=hs
  exact oP _ _ _ _ _ _ _ _ _ hok hx hy
 ·obtain ⟨b,off,c,a1,c1,a2,c2,rfl,h1,h2⟩:=hs
  obtain ⟨ra,ca,rc,cc,pc,fb,fo,f1,f2,rfl,h6,h7,h8,h9⟩:=hx.two
  obtain ⟨ra',ca',rc',cc',pc',gb,go,g1,g2,rfl,h6',h7',h8',h9'⟩:=hy.two
  exact E8 _ _ _ _ _ _ _ _ _ _ _ _ h1 h2 hok.1 hok.2 _ _ _ _ _ _ _ _ _ _ _ h6 h7 h8 h9 _ _ _ _ _ _ _ _ _ _ _ h6' h7' h8' h9'
section
variable {P:Program} {n:Nat} {ops:Array Oper} {Q:Exit→Act→World→Prop} {l:Fr} {w0 W:World} {O:Own} {G:cR} {K:List (Nat×World)} {os:List Oper} {d:Nat} {ty:TypeId} {pos:String} {aft:Array Edge}
theorem E9 {T e:TypeId} {x y:Operand} {kk:IntKind} {a:Option Addr} {m c k s:Nat} {j:Int} (hU:P.underlying T=some (.slice e)) (hs:∀ w,(sizeOf e).run P w = .ok s w) (hx:evL l x=some (.slice a m c)) (hy:evL l y=some (.int kk j)) (hj:j=(k:Int)) (hk:k≤c) (h0:c≠0) (ha:∀ p,a=some p→∃ b o,p=⟨b,o,none⟩) :
  fZ P l ⟨some d,.slice T x none (some y) none,ty,pos,aft,none⟩ W (.slice a k c) W:=fun ev he=>by
 subst hj
 have h1:(0:Int)≤(k:Int):=by omega
 have h2:(k:Int)≤(c:Int):=by omega
 have hm:a.map (·.add 0)=a:=by
  cases a with
  | none=>rfl
  | some p=>obtain ⟨b,o,rfl⟩:=ha p rfl;rfl
 unfold execOp;simp only [Option.map_some,Option.map_none];rw [he x _ hx,he y _ hy]
 simp [Instr.sliceAt,Instr.slice,Instr.sliceBounds,Instr.sliceBound,run_underlying hU,asIntOf,hk,hs,h0]
 exact hm
theorem Fa {T e:TypeId} {x y:Operand} {kk:IntKind} {a:Option Addr} {m c k s:Nat} {j:Int} (hU:P.underlying T=some (.slice e)) (hs:∀ w,(sizeOf e).run P w = .ok s w) (hx:evL l x=some (.slice a m c)) (hy:evL l y=some (.int kk j)) (hj:j=(k:Int)) (hk:k≤c) (h0:c≠0) (ha:∀ p,a=some p→∃ b o,p=⟨b,o,none⟩) (hd:Nat.blt d n=true)
  (h:cT P n ops Q os ((d,.slice a k c)::l) W):cT P n ops Q (⟨some d,.slice T x none (some y) none,ty,pos,aft,none⟩::os) l W:=opV (E9 hU hs hx hy hj hk h0 ha) hd h
end
structure Ready (w:World) (S:PS) (px:RV→PX) (p:PV) (c:CV):Prop where
 chk:fA p c=0
 ok:S.ok
 si:SIs w S p.s.f
 w4:∀ r∈p.rs,r.wl≤4096
 c4:c.wl≤4096
 x:∀ r∈p.rs,XIs w S r.x.f (px r)
section
variable {w:World} {ds d:Nat} {S:PS} {px:RV→PX} {p:PV} {c:CV} {la:Option Addr} {ll lc:Nat} {is:List Int} {R:Option StT×Int×Int}
end
structure PdsOk (w:World) (S:PS) (px:RV→PX) (p:PV):Prop where
 chk:dX p=0
 ok:S.ok
 si:SIs w S p.s.f
 x:∀ r∈p.rs,XIs w S r.x.f (px r)
 rl:p.rl≤16384
 w4:∀ r∈p.rs,r.wl≤4096
 st:0≤p.st∧p.st≤4096
 sy:0≤p.sy∧p.sy≤4096
 rule:∀ r∈p.rs,fK p.st p.sy r=true
theorem Me {w:World} {ds d:Nat} {p:PV} (hp:PvIn w ds d p) (h:dX p=0):∃ S px,PdsOk w S px p:=by
 have h2:dD p.s=0∧p.rl≤16384∧(0≤p.st∧p.st≤4096)∧(0≤p.sy∧p.sy≤4096)∧p.rs.all (fK p.st p.sy)=true∧wtE p.s p.rs=0:=by
  have hd:=h
  unfold dX at hd
  split at hd
  ·rename_i hn;exact absurd hd hn
  ·rename_i hn
   split at hd
   ·cases hd
   ·rename_i hr
    split at hd
    ·cases hd
    ·rename_i ho
     split at hd
     ·rename_i ha;exact ⟨Decidable.of_not_not hn,by omega,by omega,by omega,ha,hd⟩
     ·cases hd
 obtain ⟨hs,hrl,hst,hsy,hr,hw⟩:=h2
 obtain ⟨S,hok,hsi,hx⟩:=L5 hp.s hs
 have hall:∀ r∈p.rs,iR p.s r.x=0:=by
  have key:∀ rs:List RV,wtE p.s rs=0→∀ r∈rs,iR p.s r.x=0:=by
   intro rs
   induction rs with
   | nil=>intro _ r hr;cases hr
   | cons a rs ih =>
    intro hz r hr
    unfold wtE at hz
    split at hz
    ·rename_i h0
     rcases List.mem_cons.1 hr with rfl | hr
     ·exact h0
     ·exact ih hz r hr
    ·rename_i h0;exact absurd hz h0
  exact key _ hw
 have hex:∀ r,∃ x,r∈p.rs→XIs w S r.x.f x:=fun r=>by
  by_cases hm:r∈p.rs
  ·have h0:=hall r hm
   have hokw:okW p.s r.x=true:=by
    unfold iR at h0
    rw [if_pos hs] at h0
    split at h0
    ·assumption
    ·cases h0
   obtain ⟨x,hxx⟩:=hx r.x d (hp.rin r hm).x hokw
   exact ⟨x,fun _=>hxx⟩
  ·exact ⟨eN S,fun h=>absurd h hm⟩
 refine ⟨S,fun r=>Classical.choose (hex r),h,hok,hsi,fun r hm=>Classical.choose_spec (hex r) hm,hrl,fun r hm=>?_,hst,hsy,fun r hm=>List.all_eq_true.1 hr r hm⟩
 have:=List.all_eq_true.1 hr r hm
 unfold fK at this
 simp only [Bool.and_eq_true,decide_eq_true_eq] at this
 exact this.2.2.2.1
structure TV where
 f:Int
 g:Int
 t:Int
 x:WV
abbrev TV.nine (r:TV):List Value:=[.int .i64 r.f,.int .i64 r.g,.int .i64 r.t,.bool r.x.f.z,.int .i64 r.x.f.c,.int .u64 (r.x.f.g:Int),.slice r.x.f.ra r.x.f.rl r.x.f.rc,.slice r.x.f.ca r.x.f.cl r.x.f.cc,.slice r.x.f.pa r.x.f.pl r.x.f.pc]
def qT (w:World) (a:Option Addr) (ts:List TV):Prop :=
 ts=[]∨∃ b off,a=some ⟨b,off,none⟩∧∀ (i:Nat) r,ts[i]?=some r→aK w b (off+i * 9) r.nine
structure AV where
 s:SV
 st:Int
 sy:Int
 fa:Option Addr
 fl:Nat
 fc:Nat
 fs:List Int
 ta:Option Addr
 tl:Nat
 tc:Nat
 ts:List TV
abbrev AV.val (a:AV):Value:=.agg #[.int .i64 a.s.f.tag,.int .i64 a.s.f.dim,.slice a.s.f.a a.s.f.len a.s.f.cap,.int .i64 a.st,.int .i64 a.sy,.slice a.fa a.fl a.fc,.slice a.ta a.tl a.tc]
structure AIn (w:World) (ds d:Nat) (a:AV):Prop where
 s:SIn w ds a.s
 frow:Row w a.fa a.fs
 flen:a.fs.length=a.fl
 trow:qT w a.ta a.ts
 tlen:a.ts.length=a.tl
 tin:∀ t∈a.ts,WIn w d t.x
 fmax:a.fl≤9223372036854775807
 tmax:a.tl≤9223372036854775807
theorem qT.at_ {w:World} {a:Option Addr} {rs:List TV} (h:qT w a rs) {i:Nat} {r:TV} (hi:rs[i]?=some r):∃ b off,a=some ⟨b,off,none⟩∧aK w b (off+i * 9) r.nine:=by
 rcases h with rfl | ⟨b,off,ha,hc⟩
 ·simp at hi
 ·exact ⟨b,off,ha,hc i r hi⟩
theorem qT.below {w w':World} {a:Option Addr} {rs:List TV} (h:qT w a rs) (hb:Below w.heap.size w w'):qT w' a rs:=by
 rcases h with h | ⟨b,off,rfl,hc⟩
 ·exact .inl h
 ·exact .inr ⟨b,off,rfl,fun i r hi=>aK.agree (aP hb 0) (Nat.zero_le _) (hc i r hi)⟩
theorem AIn.below {w w':World} {ds d:Nat} {a:AV} (h:AIn w ds d a) (hb:Below w.heap.size w w'):AIn w' ds d a:=⟨SIn.below hb h.s,h.frow.below hb,h.flen,h.trow.below hb,h.tlen,fun t ht=>WIn.below hb (h.tin t ht),h.fmax,h.tmax⟩
def mK (st:Int) (fs:List Int) (i:Nat):Bool:=inQ (fs.getD i 0) st && (decide (i=0) || decide (fs.getD (i - 1) 0 < fs.getD i 0))
def Iz (st:Int) (fs:List Int):Bool:=(List.range fs.length).all (mK st fs)
theorem Hg {st:Int} {fs:List Int} (h:∀ j,j < fs.length→mK st fs j=true):Iz st fs=true:=List.all_eq_true.2 fun j hj=>h j (List.mem_range.1 hj)
theorem Hh {st:Int} {fs:List Int} {i:Nat} (hi:i < fs.length) (h:mK st fs i=false):Iz st fs=false:=by
 cases hb:Iz st fs with
 | false=>rfl
 | true =>
  have:=List.all_eq_true.1 hb i (List.mem_range.2 hi)
  rw [h] at this;cases this
theorem jK {fs:List Int} {i:Nat} {y:Int} (h:fs[i]?=some y):fs.getD i 0=y:=by
 rw [List.getD_eq_getElem?_getD,h];rfl
theorem I0 {st:Int} {fs:List Int} {i:Nat} {y:Int} (h:fs[i]?=some y) (hq:inQ y st=false):mK st fs i=false:=by
 unfold mK;rw [jK h,hq];rfl
theorem vY {st:Int} {fs:List Int} {i:Nat} {y:Int} (h:fs[i]?=some y) (hq:inQ y st=true) (hi:i=0):mK st fs i=true:=by
 unfold mK;rw [jK h,hq,decide_eq_true hi];rfl
theorem sR {st:Int} {fs:List Int} {i:Nat} {y z:Int} (h:fs[i]?=some y) (hz:fs[i - 1]?=some z) (hq:inQ y st=true) (hi:0 < i):mK st fs i=decide (z < y):=by
 unfold mK;rw [jK h,jK hz,hq,decide_eq_false (show ¬ i=0 by omega)];rfl
theorem C6 {st:Int} {fs:List Int} {i:Nat} (h:∀ j,j < i→mK st fs j=true) (hi:mK st fs i=true):∀ j,j < i+1→mK st fs j=true:=fun j hj=>by
 rcases Nat.lt_or_ge j i with h1 | h1
 ·exact h j h1
 ·rw [show j=i by omega];exact hi
def trB (st sy:Int) (t:TV):Bool:=inQ t.f st && (inQ t.t st && (decide (-1≤t.g) && decide (t.g < sy)))
def fT (st sy:Int) (fs:List Int) (ts:List TV):Bool:=if st < 0∨4096 < st∨sy < 0∨4096 < sy then false else Iz st fs && ts.all (trB st sy)
def fM (a:AV):Int :=
 if dD a.s≠0 then dD a.s else if 65536 < a.tl then 3 else if fT a.st a.sy a.fs a.ts=false then 100 else if a.ts.all (fun t=>decide (iR a.s t.x=0))=true then 0 else 51
def I1 (st:Int) (t:TV):Bool:=decide (0≤t.g) && decide (st≤t.t)
def jT (p:PV) (a:AV) (r:Bool):Int :=
 if dX p≠0 then dX p else if fM a≠0 then fM a else if r=false∨a.sy≠p.sy∨a.st < p.st then 140 else if a.ts.all (I1 p.st)=true then 0 else 140
theorem sameSp9 {w:World} {S T:PS} {f g:SF} (h:SIs w S f) (h2:SIs w T g):∃ s t:SV,s.f=f∧t.f=g∧SIn w 2 s∧SIn w 2 t∧smS 3 s=true∧(eqS 2 s t=true↔S=T):=by
 have one:∀ {t n:Int} {f:SF},SIs w (.one t n) f→∃ (a:Option Addr) (c:Nat),f=⟨t,n,a,0,c⟩∧SIn w 2 (.mk ⟨t,n,a,0,c⟩ []):=by
  rintro t n f ⟨a,c,rfl⟩
  exact ⟨a,c,rfl,rfl,.inl rfl,by simp⟩
 have key:∀ {t n u m:Int} {f:SF},SIs w (.two t n u m) f→∃ (b off c c1 c2:Nat) (a1 a2:Option Addr),f=⟨5,0,some ⟨b,off,none⟩,2,c⟩∧SIn w 2 (.mk ⟨5,0,some ⟨b,off,none⟩,2,c⟩ [.mk ⟨t,n,a1,0,c1⟩ [],.mk ⟨u,m,a2,0,c2⟩ []]):=by
  rintro t n u m f ⟨b,off,c,a1,c1,a2,c2,rfl,h1,h2⟩
  refine ⟨b,off,c,c1,c2,a1,a2,rfl,rfl,.inr ⟨b,off,rfl,fun i p hi=>?_⟩,?_⟩
  ·match i,hi with
   | 0,hi=>simp at hi;subst hi;simpa [SV.f] using h1
   | 1,hi=>simp at hi;subst hi;simpa [SV.f] using h2
  ·intro p hp
   simp at hp
   rcases hp with rfl | rfl<;>exact ⟨rfl,.inl rfl,by simp⟩
 cases S with
 | one t n =>
  obtain ⟨a,c,rfl,k1⟩:=one h
  cases T with
  | one t2 n2 =>
   obtain ⟨a',c',rfl,k2⟩:=one h2
   exact ⟨_,_,rfl,rfl,k1,k2,by simp [smS,SV.f],by simp [eqS]⟩
  | two t2 n2 u2 m2 =>
   obtain ⟨b',off',c',c1',c2',a1',a2',rfl,k2⟩:=key h2
   exact ⟨_,_,rfl,rfl,k1,k2,by simp [smS,SV.f],by simp [eqS]⟩
 | two t n u m =>
  obtain ⟨b,off,c,c1,c2,a1,a2,rfl,k1⟩:=key h
  cases T with
  | one t2 n2 =>
   obtain ⟨a',c',rfl,k2⟩:=one h2
   exact ⟨_,_,rfl,rfl,k1,k2,by simp [smS,SV.f],by simp [eqS]⟩
  | two t2 n2 u2 m2 =>
   obtain ⟨b',off',c',c1',c2',a1',a2',rfl,k2⟩:=key h2
   refine ⟨_,_,rfl,rfl,k1,k2,by simp [smS,SV.f],?_⟩
   simp [eqS,and_assoc]
theorem Mf {w:World} {S T:PS} {f g:SF} (h:SIs w S f) (h2:SIs w T g) (r:Bool) (hr:r=true↔S=T):Calls prog 23 #[f.val,g.val] w fun e w'=>e = .returned (.bool r)∧Below w.heap.size w w':=by
 obtain ⟨s,t,rfl,rfl,k1,k2,k3,k4⟩:=sameSp9 h h2
 have h9:=pW 2 3 s t w k1 k2 k3
 rw [show eqS 2 s t=r from Bool.eq_iff_iff.2 (k4.trans hr.symm)] at h9
 exact h9
theorem bs_23_1 (v00:Value) (v01:Value) (v02:Value):Instr.fill (fun i=>some (i * 3,3)) ((Array.range (1 * 3)).map ((Value.cells (.agg #[.int .i64 0,.int .i64 0,.slice none 0 0]))[· % (Value.cells (.agg #[.int .i64 0,.int .i64 0,.slice none 0 0])).size]!)) [(0,.agg #[v00,v01,v02])]=some (List.toArray [v00,v01,v02]):=by kernel_rfl
theorem Hi:bW prog 39=true:=by kernel_rfl
theorem inf_25:prog.info? 25=some Try.t25:=by kernel_rfl
abbrev Hj (q:SF):List Value:=[.int .i64 q.tag,.int .i64 q.dim,.slice none 0 0]
theorem vZ (t n:Int) (a:Option Addr) (c:Nat) (w:World) :
  Calls prog 39 #[.agg #[.int .i64 t,.int .i64 n,.slice a 0 c]] w (fun e w'=>e = .returned (.agg #[.int .i64 t,.int .i64 n,.slice none 0 0])∧Below w.heap.size w w'):=by
 refine cG (args:=[.agg #[.int .i64 t,.int .i64 n,.slice a 0 c]]) func39 rfl ntmps39 rfl ?_
 have hS:=St.start w
 refine aO (aR (bQ (cs:=[_,_,_]) hS rfl rfl rfl fun B1 W1 hS=>bU (cs:=[_,_,_]) hS zeroValue25 rfl rfl fun B2 W2 hS=>aQ (XF.thenN (aO (aR (aB rfl rfl (aQ (XF.thenN (aO (aO (aR (aN (o':=2) dM rfl rfl rfl (aT isAgg23 rfl (aJ (hS.at_ 1 rfl) rfl) rfl (bX underlying23 rfl rfl (aI rfl rfl (aQ (XF.thenN (bI (cX (fun m l W=>l=[(1,.pointer (some ⟨B1,0,none⟩)),(2,.pointer (some ⟨B2,0,none⟩)),(3,.slice none 0 0),(8,.int .i64 0),(9,.int .i64 0)]∧St w [(B2,[.int .i64 0,.int .i64 0,.slice none 0 0],25),(B1,[.int .i64 t,.int .i64 n,.slice a 0 c],25)] [] [] W) (0) ([(1,_),(2,_),(3,_),(8,_),(9,_)]) ⟨rfl,rfl,rfl,rfl,rfl,trivial⟩ (⟨rfl,hS.clear⟩) ?_)))))))))))))))))))
 clear hS
 rintro m l W ⟨rfl,hS⟩
 refine aO (aR (cC rfl rfl rfl (aQ (XF.thenN (aO (bC rfl (fun hc=>absurd (of_decide_eq_true hc) (by decide)) (fun hc=>?_)))))))
 have hc:=of_decide_eq_false hc
 refine cW (XF.thenX (XF.thenX (XF.blkX (XF.thenN (aO (aR (aI rfl rfl (aN (o':=2) dM rfl rfl rfl (dK (i:=1) (cs':=[_,_,_]) (O':=[_,_]) hS sizeOf23 rfl rfl rfl rfl rfl rfl rfl fun W3 hS=>aQ (XF.thenN (aO (aR (aU (vs:=[_,_,_]) isAgg25 sizeOf25 rfl (aK.own (j:=0) (m:=3) (hS.at_ 1 rfl) rfl) rfl (bB (i:=0) (vs:=[_,_,_]) (cs':=[_,_,_]) (O':=[_,_]) hS sizeOf25 rfl rfl rfl rfl rfl rfl rfl fun W4 hS=>aQ (XF.thenN (bM (XF.res (dY (vs:=[_,_,_]) results39 isAgg25 sizeOf25 rfl (aK.own (j:=0) (m:=3) (hS.at_ 0 rfl) rfl)) ?_)))))))))))))))))
 exact ⟨rfl,hS.below⟩
theorem Fc (tag dim:Int) (sa:Option Addr) (slen scap:Nat) (fs:List SF) (w:World) (hrow:∀ (i:Nat) q,fs[i]?=some q→∃ b off,sa=some ⟨b,off,none⟩∧S3 w b (off+i * 3) q) (hlen:fs.length=slen) (h0:∀ q∈fs,q.len=0) (hm:slen≤2) :
  Calls prog 39 #[.agg #[.int .i64 tag,.int .i64 dim,.slice sa slen scap]] w (fun e w'=>∃ v,e = .returned (.agg #[.int .i64 tag,.int .i64 dim,v])∧w'.ownsRow w.heap.size 25 3 v slen (fs.flatMap Hj)∧Below w.heap.size w w'):=by
 refine cG (args:=[.agg #[.int .i64 tag,.int .i64 dim,.slice sa slen scap]]) func39 rfl ntmps39 rfl ?_
 have hS:=St.start w
 refine aO (aR (bQ (cs:=[_,_,_]) hS rfl rfl rfl fun B1 W1 hS=>bU (cs:=[_,_,_]) hS zeroValue25 rfl rfl fun B2 W2 hS=>aQ (XF.thenN (aO (aR (aB rfl rfl (aQ (XF.thenN (aO (aO ?_))))))))))
 have hS:=hS.newG 25 3
 refine aR (aN (o':=2) dM rfl rfl rfl (aT isAgg23 rfl (aJ (hS.at_ 1 rfl) rfl) rfl (bX underlying23 rfl rfl (aI rfl rfl (aQ (XF.thenN (bI (cX (fun m l W=>∃ (i:Nat) (v:Value),i≤slen∧m=slen - i∧l=[(1,.pointer (some ⟨B1,0,none⟩)),(2,.pointer (some ⟨B2,0,none⟩)),(3,v),(7,.slice sa slen scap),(8,.int .i64 (slen:Int)),(9,.int .i64 (i:Int))]∧St w [(B2,[.int .i64 0,.int .i64 0,.slice none 0 0],25),(B1,[.int .i64 tag,.int .i64 dim,.slice sa slen scap],25)] [⟨v,i,(fs.take i).flatMap Hj,25,3⟩] [] W) (slen - 0) ([(1,_),(2,_),(3,_),(7,_),(8,_),(9,_)]) ⟨rfl,rfl,rfl,rfl,rfl,rfl,trivial⟩ (⟨0,_,Nat.zero_le _,rfl,rfl,hS.clear⟩) ?_))))))))
 clear hS
 rintro m l W ⟨i,v,hi,rfl,rfl,hS⟩
 refine aO (aR (cC rfl rfl rfl (aQ (XF.thenN (aO (bC rfl (fun hc=>?_) (fun hc=>?_)))))))
 ·have hc10:=of_decide_eq_true hc;clear hc
  have hk:i < slen:=by omega
  obtain ⟨q,hq⟩:∃ q,fs[i]?=some q:=⟨fs[i]'(by omega),by simp [show i < fs.length by omega]⟩
  obtain ⟨b,off,rfl,hs3⟩:=hrow i q hq
  obtain ⟨t9,d9,a9,l9,c9⟩:=q
  obtain rfl:l9=0:=h0 _ (List.mem_of_getElem? hq)
  have k1:aK W b (off+i * 3) [.int .i64 t9,.int .i64 d9,.slice a9 0 c9]:=aK.agree hS.agree (Nat.zero_le _) hs3.cells
  refine bH (XF.thenN (aO (bI (aO (aR (cJ  underlying23 sizeOf25 rfl rfl rfl (by omega) rfl rfl (aU (vs:=[_,_,_]) isAgg25 sizeOf25 rfl (k1) rfl (bU (cs:=[_,_,_]) hS zeroValue25 rfl rfl fun B3 W3 hS=>bB (i:=0) (vs:=[_,_,_]) (cs':=[_,_,_]) (O':=[_,_,_]) hS sizeOf25 rfl rfl rfl rfl rfl rfl rfl fun W4 hS=>aQ (XF.thenN (aR (aI rfl rfl (aU (vs:=[_,_,_]) isAgg25 sizeOf25 rfl (aK.own (j:=0) (m:=3) (hS.at_ 0 rfl) rfl) rfl (bT (vs:=[_]) hS Hi rfl (vZ t9 d9 a9 c9 _) rfl fun W5 hS=>dE (us:=[(0,.agg (List.toArray [_,_,_]))]) hS underlying23 sizeOf25 zeroValue25 rfl rfl rfl (bs_23_1 _ _ _) rfl fun B6 W6 hS=>?_)))))))))))))
  refine iZ (i:=0) (news:=[_,_,_]) hS underlying23 inf_25 rfl rfl (by show 0 < 3;decide) rfl rfl rfl rfl rfl (aK.own (j:=0) (m:=3) (hS.at_ 0 rfl) rfl) rfl rfl (by dsimp only;simp only [maxLen];omega) (by dsimp only;show _ * 40≤_;omega) rfl fun v7 W7 hS=>?_
  refine aB rfl rfl (aQ (XF.blkN (XF.thenN (aR (cE rfl rfl (IntWalk.i64_in _ (by omega)) rfl (aI rfl rfl (aQ ?_)))))))
  exact XF.round (slen - (i+1)) [(1,_),(2,_),(3,_),(7,_),(8,_),(9,_)] (by omega) ⟨rfl,rfl,rfl,rfl,rfl,rfl,trivial⟩ ⟨i+1,_,by omega,rfl,rfl,hS.tail.tail.clear.castG (by simp [List.take_add_one,hq,Hj])⟩
 ·have hc10:=of_decide_eq_false hc;clear hc
  have hil:i=slen:=by omega
  rw [List.take_of_length_le (by omega),hil] at hS
  obtain ⟨a9,c9,rfl⟩:=hS.headSl
  refine cW (XF.thenX (XF.thenX (XF.blkX (XF.thenN (aO (aR (aI rfl rfl (aN (o':=2) dM rfl rfl rfl (dK (i:=1) (cs':=[_,_,_]) (O':=[_,_]) hS sizeOf23 rfl rfl rfl rfl rfl rfl rfl fun W8 hS=>aQ (XF.thenN (aO (aR (aU (vs:=[_,_,_]) isAgg25 sizeOf25 rfl (aK.own (j:=0) (m:=3) (hS.at_ 1 rfl) rfl) rfl (bB (i:=0) (vs:=[_,_,_]) (cs':=[_,_,_]) (O':=[_,_]) hS sizeOf25 rfl rfl rfl rfl rfl rfl rfl fun W9 hS=>aQ (XF.thenN (bM (XF.res (dY (vs:=[_,_,_]) results39 isAgg25 sizeOf25 rfl (aK.own (j:=0) (m:=3) (hS.at_ 0 rfl) rfl)) ?_)))))))))))))))))
  exact ⟨_,rfl,hS.row 0 rfl,hS.below⟩
section
variable {P:Program} {n:Nat} {Q:Exit→Act→World→Prop} {l:Fr} {w0 W:World} {ops:Array Oper} {os:List Oper} {O:Own} {G:cR} {K:List (Nat×World)} {L L2:List Asr} {i:Nat} {ty:TypeId} {pos:String}
def wA (ops:Array Oper) (k:Nat):Bool:=decide (k+1=ops.size) && (List.range k).all fun j=>(earlyL ops k).contains j
theorem wB {k:Nat} (h:wA ops k=true):k+1=ops.size:=by
 unfold wA at h
 exact of_decide_eq_true (Bool.and_eq_true_iff.1 h).1
theorem yJ {k:Nat} {o:Oper} {LB:Array Bool} (h:wA ops k=true) (ho:ops[k]?=some o) (hdep:∀ e∈o.after,Region.binds .any e=true→LB.getD e.on false=true) (hcl:∀ j,LB.getD j false=true→∀ x∈aft ops j,LB.getD x false=true):∀ j,j < k→LB.getD j false=true:=fun j hj=>by
 unfold wA at h
 have h2:=List.all_eq_true.1 (Bool.and_eq_true_iff.1 h).2 j (List.mem_range.2 hj)
 refine jB (D:=fun x=>LB.getD x false=true) (fun x hx=>?_) hcl j (List.contains_iff_mem.1 h2)
 obtain ⟨e,he,h5,h6⟩:=mT ho hx
 have h7:=hdep e he h6
 rw [h5] at h7
 exact h7
theorem tP {o:Oper} {LB:Array Bool} (hi:i < LB.size) (ho:ops[i]?=some o) (hdep:∀ e∈o.after,Region.binds .any e=true→LB.getD e.on false=true) (hcl:∀ j,LB.getD j false=true→∀ x∈aft ops j,LB.getD x false=true):∀ j,(LB.setIfInBounds i true).getD j false=true→∀ x∈aft ops j,(LB.setIfInBounds i true).getD x false=true:=fun j hj x hx=>by
 have hx2:LB.getD x false=true:=by
  by_cases hji:j=i
  ·subst hji
   obtain ⟨e,he,h5,h6⟩:=mT ho hx
   have h7:=hdep e he h6
   rw [h5] at h7
   exact h7
  ·rw [getD_set_ne false (Ne.symm hji)] at hj
   exact hcl j hj x hx
 by_cases hxi:x=i
 ·subst hxi
  rw [Array.getD_eq_getD_getElem?,Array.getElem?_setIfInBounds_self_of_lt hi];rfl
 ·rw [getD_set_ne false (Ne.symm hxi)];exact hx2
theorem xC {k:Nat} {dn:Nat→Bool} {t0:Array Value} {d0:List Deferred} {G:World→Prop} {I:Nat→Value→World→Prop} (hl:wA ops k=true) (ht:dQ ops t0.size=true) (hst:∀ i v w w',G w→I i v w→Below w.heap.size w w'→I i v w')
  (hstep:∀ i,i < k→dn i=false→gS P ops Q t0 G I i) (hfin:wU ops t0 d0 G I k (wpOp P ops Q k (Q .normal))) :
  ∀ (fuel:Nat) (L:Array Bool) (a:Act) (w:World),L.size=ops.size→L.getD k true=false→(∀ i,dn i=true→L.getD i false=true)→L.toList.count false≤fuel→(∀ j,L.getD j false=true→∀ x∈aft ops j,L.getD x false=true)→RInv ops t0 d0 G I L a w→wpAny P .any ops Q fuel L a w:=by
 have hk:k+1=ops.size:=wB hl
 have cnt:∀ (L:Array Bool) i,L.getD i true=false→L.toList[i]?=some false:=fun L i h1=>by
  rw [Array.getD_eq_getD_getElem?] at h1
  rw [Array.getElem?_toList]
  cases hL:L[i]? with
  | none=>rw [hL] at h1;cases h1
  | some b=>rw [hL] at h1;simpa using h1
 intro fuel
 induction fuel with
 | zero =>
  intro L a w hs hlk hlp hc hcl h
  have:=eR _ _ (cnt L k hlk)
  omega
 | succ fuel ih =>
  intro L a w hs hlk hlp hc hcl h
  refine ⟨fun hr=>?_,fun i hi=>?_⟩
  ·rw [fV ht hs hr k (by omega)] at hlk
   cases hlk
  ·obtain ⟨h1,o,ho,hdep⟩:=mem_ready.1 hi
   have his:i < ops.size:=(Array.getElem?_eq_some_iff.1 ho).1
   have hc1:=eR _ _ (cnt L i h1)
   have hip:dn i=false:=by
    cases hd:dn i with
    | false=>rfl
    | true =>
     have h3:=hlp i hd
     have h2:=cnt L i h1
     rw [Array.getElem?_toList] at h2
     rw [Array.getD_eq_getD_getElem?,h2] at h3
     cases h3
   by_cases hik:i=k
   ·subst hik
    have hall:∀ j,j < i→L.getD j false=true:=yJ hl ho (fun e he hb=>hdep e he hb) hcl
    refine wpOp_mono ?_ (hfin a w h.size h.defers h.frame h.glob fun j d hj hd=>h.done j d hd (hall j hj))
    intro a' w' hq
    have hnil:Region.ready .any ops (L.setIfInBounds i true)=[]:=by
     cases hr:Region.ready .any ops (L.setIfInBounds i true) with
     | nil=>rfl
     | cons j rest =>
      have hj:j∈Region.ready .any ops (L.setIfInBounds i true):=by rw [hr];exact List.mem_cons_self
      obtain ⟨h5,o',ho',_⟩:=mem_ready.1 hj
      have hjs:j < ops.size:=(Array.getElem?_eq_some_iff.1 ho').1
      by_cases hji:j=i
      ·subst hji
       rw [Array.getD_eq_getD_getElem?,Array.getElem?_eq_getElem (by simpa using (by omega:j < L.size))] at h5
       simp at h5
      ·rw [getD_set_ne true (Ne.symm hji)] at h5
       have h6:=hall j (by omega)
       rw [Array.getD_eq_getD_getElem?] at h5 h6
       rw [Array.getElem?_eq_getElem (by omega)] at h5 h6
       simp at h5 h6
       rw [h5] at h6
       cases h6
    cases fuel with
    | zero=>exact ⟨hnil,hq⟩
    | succ fuel=>exact ⟨fun _=>hq,by rw [hnil];simp⟩
   ·refine wpOp_mono ?_ (hstep i (by omega) hip a w h.frameE h.glob (h.deps hi))
    rintro a' w' ⟨⟨v,rfl,hI⟩,hG,hB⟩
    refine ih _ _ _ (by simpa using hs) (by rw [getD_set_ne true hik];exact hlk) (fun j hj=>?_) ?_ (tP (by omega) ho (fun e he hb=>hdep e he hb) hcl) (h.next ht h1 hst hI hG hB)
    ·have hij:i≠j:=fun e=>by subst e;rw [hip] at hj;cases hj
     rw [getD_set_ne false hij];exact hlp j hj
    ·rw [Array.toList_setIfInBounds]
     omega
theorem wC {k p dp:Nat} {t0:Array Value} {d0:List Deferred} {late:Nat→Bool} {o:Oper} {RA:World→Value→World→Prop} (hl:wA ops k=true) (ht:dQ ops t0.size=true) (hst:nK L) (hst2:nK L2) (hpk:p < k) (hp:ops[p]?=some o) (hod:o.dst=some dp) (hog:o.guard=none)
  (hearly:∀ j,j < k→j≠p→late j=false→j∈earlyL ops p)
  (hstep:∀ i,i < k→i≠p→gS P ops Q t0 (fun w=>Below W.heap.size W w) (atI L) i)
  (happ:∀ (a:Act) (w:World),(∀ t,freeT ops t=true→a.eval (.tmp t)=t0.getD t undef)→Below W.heap.size W w→(∀ j d,bO ops p j d=true→atI L j (a.eval (.tmp d)) w)→∃ v w',(execOp a.eval o).run P w = .ok (.value v) w'∧RA w v w')
  (hL2p:atI L2 p=anyA) (hpure:∀ i,i < k→i≠p→∀ v w w',atI L i v w→atI L2 i v w')
  (hlate:∀ v' W2 i,i < k→i≠p→late i=true→gS P ops Q t0 (fun w=>w=W2) (IP L2 p v') i)
  (hfin:∀ A v' W2,Below W.heap.size W A→RA A v' W2→wU ops t0 d0 (fun w=>w=W2) (IP L2 p v') k (wpOp P ops Q k (Q .normal))) :
  ∀ (fuel:Nat) (LB:Array Bool) (a:Act) (w:World),LB.size=ops.size→LB.getD k true=false→LB.toList.count false≤fuel→LB.getD p true=false→(∀ j,LB.getD j false=true→∀ x∈aft ops j,LB.getD x false=true)→RInv ops t0 d0 (fun w=>Below W.heap.size W w) (atI L) LB a w→wpAny P .any ops Q fuel LB a w:=by
 have hl0:=hl
 have hk:k+1=ops.size:=wB hl
 have cnt:∀ (L:Array Bool) i,L.getD i true=false→L.toList[i]?=some false:=fun L i h1=>by
  rw [Array.getD_eq_getD_getElem?] at h1
  rw [Array.getElem?_toList]
  cases hL:L[i]? with
  | none=>rw [hL] at h1;cases h1
  | some b=>rw [hL] at h1;simpa using h1
 intro fuel
 induction fuel with
 | zero =>
  intro LB a w hs hlk hc hlp hcl h
  have:=eR _ _ (cnt LB k hlk)
  omega
 | succ fuel ih =>
  intro LB a w hs hlk hc hlp hcl h
  refine ⟨fun hr=>?_,fun i hi=>?_⟩
  ·rw [fV ht hs hr k (by omega)] at hlk
   cases hlk
  ·obtain ⟨h1,o',ho,hdep⟩:=mem_ready.1 hi
   have his:i < ops.size:=(Array.getElem?_eq_some_iff.1 ho).1
   have hc1:=eR _ _ (cnt LB i h1)
   by_cases hik:i=k
   ·subst hik
    have h3:=yJ hl ho (fun e he hb=>hdep e he hb) hcl p hpk
    have h4:=cnt LB p hlp
    rw [Array.getElem?_toList] at h4
    rw [Array.getD_eq_getD_getElem?,h4] at h3
    cases h3
   ·by_cases hip:i=p
    ·subst hip
     rw [hp] at ho
     have ho':=(Option.some.inj ho).symm
     subst ho'
     obtain ⟨v',w',hr,hRA⟩:=happ a w h.frameE h.glob (h.deps hi)
     have step:wpOp P ops Q i (fun a2 w2=>a2=a.put (some dp) v'∧w2=w') a w:=by
      unfold wpOp
      simp only [hp,lE hog,if_true]
      refine .inl ?_
      unfold Oper.wp
      rw [hr]
      exact ⟨by rw [hod],rfl⟩
     refine wpOp_mono ?_ step
     rintro a2 w2 ⟨rfl,rfl⟩
     have hdst:(ops[i]?).bind (·.dst)=some dp:=by rw [hp];exact hod
     refine xC (t0:=t0) (d0:=d0) (dn:=fun j=>decide (j=i) || (decide (j < k) && !late j)) (G:=fun w=>w=w2) (I:=IP L2 i v') hl0 ht ?_ ?_ (hfin _ _ _ h.glob hRA) fuel _ _ _ (by simpa using hs) (by rw [getD_set_ne true hik];exact hlk) ?_ ?_ (tP (by omega) hp (fun e he hb=>hdep e he hb) hcl) ?_
     ·rintro j v w1 w3 _ ⟨h5,h6⟩ hb
      exact ⟨h5,kM hst2 _ _ _ _ h6 hb⟩
     ·intro j hj hd
      simp only [Bool.or_eq_false_iff,decide_eq_false_iff_not,Bool.and_eq_false_iff,Bool.not_eq_false'] at hd
      refine hlate v' w2 j hj hd.1 ?_
      rcases hd.2 with h5 | h5
      ·exact absurd hj h5
      ·exact h5
     ·intro j hd
      simp only [Bool.or_eq_true,decide_eq_true_eq,Bool.and_eq_true,Bool.not_eq_true'] at hd
      by_cases hji:j=i
      ·subst hji
       rw [Array.getD_eq_getD_getElem?,Array.getElem?_setIfInBounds_self_of_lt (by omega)];rfl
      ·rcases hd with hd | ⟨hd1,hd2⟩
       ·exact absurd hd hji
       ·rw [getD_set_ne false (Ne.symm hji)]
        refine jB (D:=fun x=>LB.getD x false=true) (fun x hx=>?_) (fun j hj x hx=>hcl j hj x hx) j (hearly j hd1 hji hd2)
        obtain ⟨e,he,h5,h6⟩:=mT hp hx
        have h7:=hdep e he h6
        rw [h5] at h7
        exact h7
     ·rw [Array.toList_setIfInBounds];omega
     ·refine ⟨by rw [kK];exact h.size,by rw [iC];exact h.defers,fun t hf=>?_,rfl,fun j d hd hj=>?_⟩
      ·rw [eH ?_]
       ·exact h.frame t hf
       ·intro e
        have:=Array.all_eq_true'.1 hf _ (Array.mem_of_getElem? hp)
        simp at this
        exact this (hod.trans e)
      ·by_cases hji:j=i
       ·subst hji
        rw [hdst] at hd
        rw [qE hd (by rw [h.size];exact (fU ht (hdst.trans hd)).1)]
        exact ⟨fun _=>rfl,by rw [hL2p];trivial⟩
       ·rw [getD_set_ne false (Ne.symm hji)] at hj
        rw [eH (fun e=>hji ((fU ht (hdst.trans e)).2 j hd))]
        have hjk:j < k:=by
         obtain ⟨o2,ho2,_⟩:=Option.bind_eq_some_iff.1 hd
         have h5:=(Array.getElem?_eq_some_iff.1 ho2).1
         have h6:j≠k:=fun e=>by
          subst e
          have h4:=cnt LB j hlk
          rw [Array.getElem?_toList] at h4
          rw [Array.getD_eq_getD_getElem?,h4] at hj
          cases hj
         omega
        exact ⟨fun e=>absurd e hji,hpure j hjk hji _ _ _ (h.done j d hd hj)⟩
    ·refine wpOp_mono ?_ (hstep i (by omega) hip a w h.frameE h.glob (h.deps hi))
     rintro a' w' ⟨⟨v,rfl,hI⟩,hG,hB⟩
     refine ih _ _ _ (by simpa using hs) (by rw [getD_set_ne true hik];exact hlk) ?_ (by rw [getD_set_ne true hip];exact hlp) (fun j hj x hx=>?_) (h.next ht h1 (fun i v w w' _ h hb=>kM hst i v w w' h hb) hI hG hB)
     ·rw [Array.toList_setIfInBounds]
      omega
     ·have hx2:LB.getD x false=true:=by
       by_cases hji:j=i
       ·subst hji
        obtain ⟨e,he,h5,h6⟩:=mT ho hx
        have h7:=hdep e he h6
        rw [h5] at h7
        exact h7
       ·rw [getD_set_ne false (Ne.symm hji)] at hj
        exact hcl j hj x hx
      by_cases hxi:x=i
      ·subst hxi
       rw [Array.getD_eq_getD_getElem?,Array.getElem?_setIfInBounds_self_of_lt (by omega)];rfl
      ·rw [getD_set_ne false (Ne.symm hxi)];exact hx2
theorem regBPC {id dp p k:Nat} {o:Oper} {t e tx tz:TypeId} {inf:TypeInfo} {z:Value} {gi m:Nat} {g:GR} {aftp:Array Edge} (hm:P.follows .mixedOrders=true) (hS:St w0 O G K W) (hk:os[k]?=some o) (hlen:os.length=k+1) (hl:wA os.toArray k=true) (ht:dQ os.toArray n=true) (hdst:(os.take k).all (fun o=>o.dst.isSome)=true) (hfree:∀ d,o.dst=some d→fD l d=none)
  (hp:os[p]?=some ⟨some dp,.call { callee:=.builtin .append,args:=#[.tmp tx,.tmp tz],argTypes:=#[t,t] },ty,pos,aftp,none⟩) (hpk:Nat.blt p k=true)
  (hU:P.underlying t=some (.slice e)) (hinf:P.info? e=some inf) (hz:inf.zero=some z) (hzs:z.cells.size=inf.size) (hsz:0 < inf.size)
  (hi:G[gi]?=some g) (he:g.e=e) (hgs:g.size=inf.size) (h63:g.n+m≤maxLen) (hbytes:(g.n+m) * inf.bytes≤140737488355328)
  (h:BLP P n os.toArray Q l W p (fun Lr L2r=>∃ (py:Asr) (q:List Value→World→Prop),OpG n os.toArray l Lr.reverse p tx (isV g.v)∧OpG n os.toArray l Lr.reverse p tz py∧Gm m inf.size q py ∧
   ∀ A v' news W',Below W.heap.size W A→q news A→St w0 O (G.set gi ⟨v',g.n+m,g.xs++news,e,g.size⟩) ((W.heap.size,A)::K) W'→jS (os.take k) (pvL v' p 0 L2r.reverse) l (fun l' W'=>cT P n os.toArray Q [o] l' W') W') k [] [] 0):eC P n (.region id os.toArray true) Q l W:=by
 obtain ⟨Lr,L2r,h1,h2,h3,h4,h5,py,q,hx,hy,hpy,hfin⟩:=zQ p ht k 0 [] [] rfl rfl (fun p hp=>by cases hp) (fun p hp=>by cases hp) (fun i hi=>by omega) h
 have hpk':p < k:=Nat.lt_of_lt_of_le (Nat.lt_succ_self _) (Nat.le_of_ble_eq_true hpk)
 subst he
 rw [Nat.zero_add] at h1 h2 h5
 have hpo:os.toArray[p]?=some ⟨some dp,.call { callee:=.builtin .append,args:=#[.tmp tx,.tmp tz],argTypes:=#[t,t] },ty,pos,aftp,none⟩:=by simpa using hp
 have hko:os.toArray[k]?=some o:=by simpa using hk
 have hL2p:atI L2r.reverse p=anyA:=by
  rcases (h5 p hpk').2 with h6 | h6
  ·exact h6.2
  ·exact absurd rfl h6.1
 intro a ha
 refine wp_region_any hm (wC (W:=W) (t0:=a.tmps) (d0:=a.defers) (L:=Lr.reverse) (L2:=L2r.reverse) (late:=fun j => !sE os.toArray p j)
  (RA:=fun A v' W'=>∃ news,q news A∧St w0 O (G.set gi ⟨v',g.n+m,g.xs++news,g.e,g.size⟩) ((W.heap.size,A)::K) W') hl (by rw [ha.size];exact ht) (kO fun q hq=>h3 q (List.mem_reverse.1 hq)) (kO fun q hq=>h4 q (List.mem_reverse.1 hq)) hpk' hpo rfl rfl ?_ ?_ ?_ hL2p ?_ ?_ ?_ _ _ _ _ (by simp) ?_ (iD _) ?_ (fun j hj=>by rw [Array.getD_eq_getD_getElem?,Array.getElem?_replicate] at hj;split at hj<;>simp at hj) (rB ((Below.refl _ _).drew)))
 ·intro j hj hjp he
  simp only [Bool.not_eq_false'] at he
  exact List.contains_iff_mem.1 he
 ·intro i hi hip
  rcases (h5 i hi).2 with h6 | h6
  ·exact absurd h6.1 hip
  ·exact h6.2.1 a ha
 ·intro b w hF hG hD
  have ex:b.eval (.tmp tx)=g.v:=hx a ha b w hF hD
  obtain ⟨bb,oo,c,cs,ey,hc,hcl,h1c,hq⟩:=hpy _ w (hy a ha b w hF hD)
  have hS2:=hS.call hG
  have hrow:=hS2.row gi hi
  rw [hgs] at hrow
  obtain ⟨v',W',hr,k2,k3,k4⟩:=nW (P:=P) (w:=w) w0.heap.size t ty g.e inf z hU hinf hz hzs hsz g.v g.n g.xs hrow ⟨bb,oo,none⟩ m c cs hcl (fun j u hj=>by rw [Addr.add_lit];exact hc.get j u hj) (fun u hu=>List.all_eq_true.1 h1c u hu) h63 hbytes hS2.below.size
  rw [← hgs] at k2
  refine ⟨v',W',?_,cs,hq,hS2.setG gi hi k2 k3 k4⟩
  unfold execOp
  simp only [resolve,invoke,builtin,Sem.run_bind,Sem.run_pure,Result.andThen_ok,List.map_toArray,List.map_cons,List.map_nil,ex,ey,hr]
 ·intro i hi hip v w w' hv
  exact (h5 i hi).1 v w w' hv
 ·intro v' W2 i hi hip hlt
  rcases (h5 i hi).2 with h6 | h6
  ·exact absurd h6.1 hip
  ·rcases h6.2.2 with h7 | h7
   ·rw [h7] at hlt;cases hlt
   ·exact h7 v' W2 a ha
 ·rintro A v' W2 hB ⟨news,hq,hS2⟩
  intro a' W' hs hd hf hG hI
  subst hG
  have hdst':∀ o∈os.take k,∃ d,o.dst=some d:=fun o ho=>Option.isSome_iff_exists.1 (List.all_eq_true.1 hdst o ho)
  have htk:(os.take k).length=k:=by simp;omega
  refine rE (os.take k) (pvL v' p 0 L2r.reverse) l (fun i d hi hd'=>?_) (hs.trans ha.size) (hd.trans ha.defers) ?_ hdst' (fun l' h ha'=>?_) (hfin A v' news W' hB hq hS2)
  ·have hik:i < k:=by omega
   have h6:=hI i d hik (by rw [List.getElem?_take,if_pos hik] at hd';simpa using hd')
   rw [zP L2r.reverse 0 i (by simp;omega)]
   by_cases hip:i+0=p
   ·rw [if_pos hip];exact h6.1 hip
   ·rw [if_neg hip];exact h6.2
  ·intro t' v hv hno
   rw [hf t' (by
    unfold freeT;rw [Array.all_eq_true'];intro o' ho'
    have ho2:o'∈os:=by simpa using ho'
    obtain ⟨j,hj⟩:=List.getElem?_of_mem ho2
    by_cases hjk:j < k
    ·have:o'∈os.take k:=List.mem_of_getElem? (by rw [List.getElem?_take,if_pos hjk];exact hj)
     simpa using hno o' this
    ·have hjl:=(List.getElem?_eq_some_iff.1 hj).1
     have:j=k:=by omega
     subst this
     rw [hk] at hj
     have e2:=Option.some.inj hj
     subst e2
     cases hx:o.dst with
     | none=>simp
     | some d=>simp;intro e;subst e;rw [hfree d hx] at hv;cases hv)]
   exact ha.at_ t' v hv
  ·have h6:=h a' ha'
   unfold wpOp
   rw [hko]
   exact h6
 ·rw [Array.getD_eq_getD_getElem?,Array.getElem?_replicate,if_pos (by simp;omega)];rfl
 ·rw [Array.getD_eq_getD_getElem?,Array.getElem?_replicate,if_pos (by simp;omega)];rfl
end
theorem bs_35_1 (v0:Bool):Instr.fill (fun i=>some (i * 1,1)) ((Array.range (1 * 1)).map ((Value.cells (.bool false))[· % (Value.cells (.bool false)).size]!)) [(0,.bool v0)]=some (List.toArray [.bool v0]):=by kernel_rfl
theorem Mg:prog.info? 4=some Try.t4:=by kernel_rfl
def yK (lo:Nat) (S:PS):Asr:=fun v w=>∃ s2:SF,v=s2.val∧∀ W2,cZ lo w W2→SIs W2 S s2
theorem I2 (S:PS) (sf:SF) (w:World) (hs:SIs w S sf) {lo:Nat} (hlo:lo≤w.heap.size):Calls prog 39 #[sf.val] w (zM (yK lo S) w):=by
 cases S with
 | one t n =>
  obtain ⟨a,c,rfl⟩:=hs
  refine (vZ t n a c w).mono fun e w' ⟨he,hb⟩=>⟨_,he,fun w3 hg=>⟨⟨t,n,none,0,0⟩,rfl,fun W2 h2=>⟨none,0,rfl⟩⟩,hb⟩
 | two t n u m =>
  obtain ⟨b,off,c,a1,c1,a2,c2,rfl,h1,h2⟩:=hs
  refine (Fc 5 0 (some ⟨b,off,none⟩) 2 c [⟨t,n,a1,0,c1⟩,⟨u,m,a2,0,c2⟩] w (fun i q hq=>?_) rfl (fun q hq=>?_) (Nat.le_refl _)).mono ?_
  ·match i,hq with
   | 0,hq=>cases hq;exact ⟨b,off,rfl,by rw [Nat.zero_mul,Nat.add_zero];exact h1⟩
   | 1,hq=>cases hq;exact ⟨b,off,rfl,by rw [Nat.one_mul];exact h2⟩
   | i+2,hq=>simp at hq
  ·simp at hq;rcases hq with rfl | rfl<;>rfl
  ·rintro e w' ⟨v,he,hr,hb⟩
   refine ⟨_,he,fun w3 hg=>?_,hb⟩
   obtain ⟨b9,c9,rfl,_⟩:=E0 hr (by omega)
   refine ⟨⟨5,0,some ⟨b9,0,none⟩,2,c9⟩,rfl,fun W2 h3=>?_⟩
   have h4:=lT (As (lT hr hg) hlo) h3
   have hc:∀ (j:Nat) x,([SF.mk t n a1 0 c1,⟨u,m,a2,0,c2⟩].flatMap Hj)[j]?=some x→W2.cell? ⟨b9,j,none⟩=some x:=fun j x hj=>C3 h4 hj
   exact ⟨b9,0,c9,none,0,none,0,rfl,⟨hc 0 _ rfl,hc 1 _ rfl,hc 2 _ rfl⟩,⟨hc 3 _ rfl,hc 4 _ rfl,hc 5 _ rfl⟩⟩
def BRow (w:World) (a:Option Addr) (fs:List Bool):Prop:=∀ (i:Nat) f,fs[i]?=some f→∃ b off,a=some ⟨b,off,none⟩∧w.cell? ⟨b,off+i * 1,none⟩=some (.bool f)
theorem BRow.below {w w':World} {a:Option Addr} {fs:List Bool} (h:BRow w a fs) (hb:Below w.heap.size w w'):BRow w' a fs:=fun i f hi=>by
 obtain ⟨b,off,e,h1⟩:=h i f hi
 exact ⟨b,off,e,(hb.cell (World.block_lt_of_cell? _ _ h1)).trans h1⟩
def Spc:Option PS→World→SF→Prop
 | none,_,f=>f=⟨0,0,none,0,0⟩
 | some S,w,f=>S.ok∧SIs w S f
theorem Spc.below {o:Option PS} {w w':World} {f:SF} (h:Spc o w f) (hb:Below w.heap.size w w'):Spc o w' f:=by
 cases o with
 | none=>exact h
 | some S=>exact ⟨h.1,h.2.below hb⟩
theorem Spc.sin {o:Option PS} {w:World} {f g:SF} (h:Spc o w f) (h2:Spc o w g):∃ s t:SV,s.f=f∧t.f=g∧SIn w 2 s∧SIn w 2 t∧smS 3 s=true∧eqS 2 s t=true:=by
 cases o with
 | none =>
  cases h;cases h2
  exact ⟨.mk ⟨0,0,none,0,0⟩ [],.mk ⟨0,0,none,0,0⟩ [],rfl,rfl,⟨rfl,.inl rfl,by simp⟩,⟨rfl,.inl rfl,by simp⟩,rfl,by simp [eqS]⟩
 | some S =>
  obtain ⟨hok,h⟩:=h
  obtain ⟨_,h2⟩:=h2
  cases S with
  | one t n =>
   obtain ⟨a,c,rfl⟩:=h
   obtain ⟨a',c',rfl⟩:=h2
   exact ⟨.mk ⟨t,n,a,0,c⟩ [],.mk ⟨t,n,a',0,c'⟩ [],rfl,rfl,⟨rfl,.inl rfl,by simp⟩,⟨rfl,.inl rfl,by simp⟩,by simp [smS,SV.f],by simp [eqS]⟩
  | two t n u m =>
   have key:∀ {f:SF},SIs w (.two t n u m) f→∃ (b off c c1 c2:Nat) (a1 a2:Option Addr),f=⟨5,0,some ⟨b,off,none⟩,2,c⟩∧SIn w 2 (.mk ⟨5,0,some ⟨b,off,none⟩,2,c⟩ [.mk ⟨t,n,a1,0,c1⟩ [],.mk ⟨u,m,a2,0,c2⟩ []]):=by
    rintro f ⟨b,off,c,a1,c1,a2,c2,rfl,h1,h2⟩
    refine ⟨b,off,c,c1,c2,a1,a2,rfl,rfl,.inr ⟨b,off,rfl,fun i p hi=>?_⟩,?_⟩
    ·match i,hi with
     | 0,hi=>simp at hi;subst hi;simpa [SV.f] using h1
     | 1,hi=>simp at hi;subst hi;simpa [SV.f] using h2
    ·intro p hp
     simp at hp
     rcases hp with rfl | rfl<;>exact ⟨rfl,.inl rfl,by simp⟩
   obtain ⟨b,off,c,c1,c2,a1,a2,rfl,k1⟩:=key h
   obtain ⟨b',off',c',c1',c2',a1',a2',rfl,k2⟩:=key h2
   exact ⟨_,_,rfl,rfl,k1,k2,by simp [smS,SV.f],by simp [eqS]⟩
theorem sameSpc {o:Option PS} {w:World} {f g:SF} (h:Spc o w f) (h2:Spc o w g):Calls prog 23 #[f.val,g.val] w fun e w'=>e = .returned (.bool true)∧Below w.heap.size w w':=by
 obtain ⟨s,t,rfl,rfl,k1,k2,k3,k4⟩:=h.sin h2
 have h9:=pW 2 3 s t w k1 k2 k3
 rw [k4] at h9
 exact h9
structure IV where
 a:Option Addr
 l:Nat
 c:Nat
 xs:List Int
abbrev IV.val (r:IV):Value:=.slice r.a r.l r.c
structure DV where
 sy:Int
 na:Option Addr
 nl:Nat
 nc:Nat
 ns:List IV
 aa:Option Addr
 al:Nat
 ac:Nat
 bs:List Bool
abbrev DV.cells (d:DV):List Value:=[.int .i64 d.sy,.slice d.na d.nl d.nc,.slice d.aa d.al d.ac]
abbrev DV.val (d:DV):Value:=.agg #[.int .i64 d.sy,.slice d.na d.nl d.nc,.slice d.aa d.al d.ac]
def I3 (w:World) (a:Option Addr) (ns:List IV):Prop:=∀ (i:Nat) r,ns[i]?=some r→∃ b off,a=some ⟨b,off,none⟩∧w.cell? ⟨b,off+i * 1,none⟩=some r.val
theorem I3.below {w w':World} {a:Option Addr} {ns:List IV} (h:I3 w a ns) (hb:Below w.heap.size w w'):I3 w' a ns:=fun i r hi=>by
 obtain ⟨b,off,e,h1⟩:=h i r hi
 exact ⟨b,off,e,(hb.cell (World.block_lt_of_cell? _ _ h1)).trans h1⟩
structure DIn (w:World) (d:DV):Prop where
 nrow:I3 w d.na d.ns
 nlen:d.ns.length=d.nl
 rin:∀ r∈d.ns,Row w r.a r.xs∧r.xs.length=r.l∧r.l≤9223372036854775807
 arow:BRow w d.aa d.bs
 alen:d.bs.length=d.al
 nmax:d.nl≤9223372036854775807
 amax:d.al≤9223372036854775807
theorem DIn.below {w w':World} {d:DV} (h:DIn w d) (hb:Below w.heap.size w w'):DIn w' d:=⟨h.nrow.below hb,h.nlen,fun r hr=>⟨(h.rin r hr).1.below hb,(h.rin r hr).2⟩,h.arow.below hb,h.alen,h.nmax,h.amax⟩
def pS (sy:Int) (n:Nat) (r:IV):Bool:=decide ((r.l:Int)=sy) && r.xs.all (fun y=>inQ y (n:Int))
def gW (d:DV):Int:=if d.sy < 0∨4096 < d.sy∨d.nl < 1∨1024 < d.nl∨d.al≠d.nl∨65536 < (d.nl:Int) * d.sy then 90 else if d.ns.all (pS d.sy d.nl)=true then 0 else 90
theorem Hk {n:Nat} {s:Int} (h1:n≤1024) (h2:0≤s) (h3:s≤4096):0≤(n:Int) * s∧(n:Int) * s≤4194304:=by
 refine ⟨Int.mul_nonneg (by omega) h2,?_⟩
 have h4:(n:Int) * s≤1024 * 4096:=Int.mul_le_mul (by omega) h3 h2 (by decide)
 omega
theorem iU (w:World) (b o:Nat):(Instr.fieldAt 37 (.pointer (some ⟨b,o,none⟩)) 0).run prog w = .ok (.pointer (some ⟨b,o+0,none⟩)) w:=by
 simp [Instr.fieldAt,run_underlying underlying37,Instr.sureAddr,go_sem,Addr.add_lit]
theorem eA (w:World) (b o:Nat):(Instr.fieldAt 37 (.pointer (some ⟨b,o,none⟩)) 1).run prog w = .ok (.pointer (some ⟨b,o+1,none⟩)) w:=by
 simp [Instr.fieldAt,run_underlying underlying37,Instr.sureAddr,go_sem,Addr.add_lit]
theorem nF (w:World) (b o:Nat):(Instr.fieldAt 37 (.pointer (some ⟨b,o,none⟩)) 2).run prog w = .ok (.pointer (some ⟨b,o+2,none⟩)) w:=by
 simp [Instr.fieldAt,run_underlying underlying37,Instr.sureAddr,go_sem,Addr.add_lit]
theorem dfaA_c (sy:Int) (na:Option Addr) (nl nc:Nat) (ns:List IV) (aa:Option Addr) (al ac:Nat) (bs:List Bool) (w:World) (hnr:I3 w na ns) (hnl:ns.length=nl) (hri:∀ r∈ns,Row w r.a r.xs∧r.xs.length=r.l∧r.l≤9223372036854775807) (hnm:nl≤9223372036854775807) (ham:al≤9223372036854775807) :
  Calls prog 37 #[.agg #[.int .i64 sy,.slice na nl nc,.slice aa al ac]] w (fun e w'=>e = .returned (.int .i64 (gW ⟨sy,na,nl,nc,ns,aa,al,ac,bs⟩))∧Below w.heap.size w w'):=by
 refine cG (args:=[.agg #[.int .i64 sy,.slice na nl nc,.slice aa al ac]]) func37 rfl ntmps37 rfl ?_
 have hS:=St.start w
 refine aO (aR (bQ (cs:=[_,_,_]) hS rfl rfl rfl fun B1 W1 hS=>aB rfl rfl (aQ (XF.thenN (aO (aR (aN (o':=1) eA rfl rfl rfl (aT isAgg34 rfl (aJ (hS.at_ 0 rfl) rfl) rfl (bX underlying34 rfl rfl (aB rfl rfl (aQ (XF.thenN (aO (aO (aR (aN (o':=0) iU rfl rfl rfl (aT isAgg3 rfl (aJ (hS.at_ 0 rfl) rfl) rfl (cC rfl rfl rfl (aI rfl rfl (bG (d:=14) rfl (fun hc=>?_) (fun hc=>?_)))))))))))))))))))))
 ·have hg14:=of_decide_eq_true hc;clear hc
  refine aF (d:=14) rfl rfl rfl rfl (aF (d:=14) rfl rfl rfl rfl (aF (d:=14) rfl rfl rfl rfl (aY rfl rfl rfl (aI rfl rfl (aF (d:=19) rfl rfl rfl rfl (aF (d:=19) rfl rfl rfl rfl (aY rfl rfl rfl (aI rfl rfl (aF (d:=23) rfl rfl rfl rfl (aF (d:=23) rfl rfl rfl rfl (aY rfl rfl rfl (aI rfl rfl (aF (d:=27) rfl rfl rfl rfl (aF (d:=27) rfl rfl rfl rfl (aF (d:=27) rfl rfl rfl rfl (aF (d:=27) rfl rfl rfl rfl (aF (d:=27) rfl rfl rfl rfl (aY rfl rfl rfl (aI rfl rfl (aF (d:=34) rfl rfl rfl rfl (aF (d:=34) rfl rfl rfl rfl (aF (d:=34) rfl rfl rfl rfl (aF (d:=34) rfl rfl rfl rfl (aF (d:=34) rfl rfl rfl rfl (aY rfl rfl rfl (aQ (XF.thenN (cU rfl (aO (aR (aB rfl rfl (aQ (XF.thenN (bM (XF.thenR ?_)))))))))))))))))))))))))))))))))))
  refine XF.res (bV results37 rfl) ?_
  exact ⟨cL (by unfold gW;dsimp only;rw [if_pos (by omega)]),hS.below⟩
 ·have hg14:=of_decide_eq_false hc;clear hc
  refine aC (d:=14) rfl rfl (aN (o':=0) iU rfl rfl rfl (aC (d:=14) rfl rfl (aT isAgg3 rfl (aJ (hS.at_ 0 rfl) rfl) rfl (aC (d:=14) rfl rfl (dS rfl rfl rfl (bN rfl rfl rfl (aI rfl rfl (bG (d:=19) rfl (fun hc=>?_) (fun hc=>?_)))))))))
  ·have hg19:=of_decide_eq_true hc;clear hc
   refine aF (d:=19) rfl rfl rfl rfl (aF (d:=19) rfl rfl rfl rfl (aY rfl rfl rfl (aI rfl rfl (aF (d:=23) rfl rfl rfl rfl (aF (d:=23) rfl rfl rfl rfl (aY rfl rfl rfl (aI rfl rfl (aF (d:=27) rfl rfl rfl rfl (aF (d:=27) rfl rfl rfl rfl (aF (d:=27) rfl rfl rfl rfl (aF (d:=27) rfl rfl rfl rfl (aF (d:=27) rfl rfl rfl rfl (aY rfl rfl rfl (aI rfl rfl (aF (d:=34) rfl rfl rfl rfl (aF (d:=34) rfl rfl rfl rfl (aF (d:=34) rfl rfl rfl rfl (aF (d:=34) rfl rfl rfl rfl (aF (d:=34) rfl rfl rfl rfl (aY rfl rfl rfl (aQ (XF.thenN (cU rfl (aO (aR (aB rfl rfl (aQ (XF.thenN (bM (XF.thenR (XF.res (bV results37 rfl) ?_)))))))))))))))))))))))))))))))
   exact ⟨cL (by unfold gW;dsimp only;rw [if_pos (by omega)]),hS.below⟩
  ·have hg19:=of_decide_eq_false hc;clear hc
   refine aC (d:=19) rfl rfl (aI rfl rfl (aC (d:=19) rfl rfl (cC rfl rfl rfl (bN rfl rfl rfl (aI rfl rfl (bG (d:=23) rfl (fun hc=>?_) (fun hc=>?_)))))))
   ·have hg23:=of_decide_eq_true hc;clear hc
    refine aF (d:=23) rfl rfl rfl rfl (aF (d:=23) rfl rfl rfl rfl (aY rfl rfl rfl (aI rfl rfl (aF (d:=27) rfl rfl rfl rfl (aF (d:=27) rfl rfl rfl rfl (aF (d:=27) rfl rfl rfl rfl (aF (d:=27) rfl rfl rfl rfl (aF (d:=27) rfl rfl rfl rfl (aY rfl rfl rfl (aI rfl rfl (aF (d:=34) rfl rfl rfl rfl (aF (d:=34) rfl rfl rfl rfl (aF (d:=34) rfl rfl rfl rfl (aF (d:=34) rfl rfl rfl rfl (aF (d:=34) rfl rfl rfl rfl (aY rfl rfl rfl (aQ (XF.thenN (cU rfl (aO (aR (aB rfl rfl (aQ (XF.thenN (bM (XF.thenR (XF.res (bV results37 rfl) ?_)))))))))))))))))))))))))))
    exact ⟨cL (by unfold gW;dsimp only;rw [if_pos (by omega)]),hS.below⟩
   ·have hg23:=of_decide_eq_false hc;clear hc
    refine aC (d:=23) rfl rfl (aI rfl rfl (aC (d:=23) rfl rfl (dS rfl rfl rfl (bN rfl rfl rfl (aI rfl rfl (bG (d:=27) rfl (fun hc=>?_) (fun hc=>?_)))))))
    ·have hg27:=of_decide_eq_true hc;clear hc
     refine aF (d:=27) rfl rfl rfl rfl (aF (d:=27) rfl rfl rfl rfl (aF (d:=27) rfl rfl rfl rfl (aF (d:=27) rfl rfl rfl rfl (aF (d:=27) rfl rfl rfl rfl (aY rfl rfl rfl (aI rfl rfl (aF (d:=34) rfl rfl rfl rfl (aF (d:=34) rfl rfl rfl rfl (aF (d:=34) rfl rfl rfl rfl (aF (d:=34) rfl rfl rfl rfl (aF (d:=34) rfl rfl rfl rfl (aY rfl rfl rfl (aQ (XF.thenN (cU rfl (aO (aR (aB rfl rfl (aQ (XF.thenN (bM (XF.thenR (XF.res (bV results37 rfl) ?_)))))))))))))))))))))))
     exact ⟨cL (by unfold gW;dsimp only;rw [if_pos (by omega)]),hS.below⟩
    ·have hg27:=of_decide_eq_false hc;clear hc
     refine aC (d:=27) rfl rfl (aN (o':=2) nF rfl rfl rfl (aC (d:=27) rfl rfl (aT isAgg35 rfl (aJ (hS.at_ 0 rfl) rfl) rfl (aC (d:=27) rfl rfl (bX underlying35 rfl rfl (aC (d:=27) rfl rfl (aI rfl rfl (aC (d:=27) rfl rfl (cN rfl rfl rfl (bN rfl rfl rfl (aI rfl rfl (bG (d:=34) rfl (fun hc=>?_) (fun hc=>?_)))))))))))))
     ·have hg34:=of_decide_eq_true hc;clear hc
      refine aF (d:=34) rfl rfl rfl rfl (aF (d:=34) rfl rfl rfl rfl (aF (d:=34) rfl rfl rfl rfl (aF (d:=34) rfl rfl rfl rfl (aF (d:=34) rfl rfl rfl rfl (aY rfl rfl rfl (aQ (XF.thenN (cU rfl (aO (aR (aB rfl rfl (aQ (XF.thenN (bM (XF.thenR (XF.res (bV results37 rfl) ?_))))))))))))))))
      exact ⟨cL (by unfold gW;dsimp only;rw [if_pos (by omega)]),hS.below⟩
     ·have hg34:=of_decide_eq_false hc;clear hc
      refine aC (d:=34) rfl rfl (aI rfl rfl (aC (d:=34) rfl rfl (aN (o':=0) iU rfl rfl rfl (aC (d:=34) rfl rfl (aT isAgg3 rfl (aJ (hS.at_ 0 rfl) rfl) rfl (aC (d:=34) rfl rfl ?_))))))
      refine zB rfl rfl (IntWalk.i64_in _ (by have h9:=Hk (n:=nl) (s:=sy) (by omega) (by omega) (by omega);omega)) rfl ?_
      refine aC (d:=34) rfl rfl (dS rfl rfl rfl (bN rfl rfl rfl (aQ (XF.thenN (bC rfl (fun hc=>?_) (fun hc=>?_))))))
      ·have hc40:=of_decide_eq_true hc;clear hc
       refine aO (aR (aB rfl rfl (aQ (XF.thenN (bM (XF.thenR (XF.res (bV results37 rfl) ?_)))))))
       exact ⟨cL (by unfold gW;dsimp only;rw [if_pos (by omega)]),hS.below⟩
      ·have hc40:=of_decide_eq_false hc;clear hc
       have h2:¬ (sy < 0∨4096 < sy∨nl < 1∨1024 < nl∨al≠nl∨65536 < (nl:Int) * sy):=by omega
       refine bH (XF.thenN (aO (aO (aR (aN (o':=1) eA rfl rfl rfl (aT isAgg34 rfl (aJ (hS.at_ 0 rfl) rfl) rfl (bX underlying34 rfl rfl (aI rfl rfl (aQ (XF.thenN (bI (cX (fun m l W=>∃ i:Nat,i≤nl∧m=nl - i∧l=[(1,.pointer (some ⟨B1,0,none⟩)),(3,.int .i64 (nl:Int)),(42,.slice na nl nc),(43,.int .i64 (nl:Int)),(44,.int .i64 (i:Int))]∧(ns.take i).all (pS sy nl)=true∧St w [(B1,[.int .i64 sy,.slice na nl nc,.slice aa al ac],37)] [] [] W) (nl - 0) ([(1,_),(3,_),(42,_),(43,_),(44,_)]) ⟨rfl,rfl,rfl,rfl,rfl,trivial⟩ (⟨0,Nat.zero_le _,rfl,rfl,rfl,hS.clear⟩) ?_))))))))))))
       clear hS
       rintro m l W ⟨i,hi,rfl,rfl,hall,hS⟩
       refine aO (aR (cC rfl rfl rfl (aQ (XF.thenN (aO (bC rfl (fun hc=>?_) (fun hc=>?_)))))))
       ·have hc45:=of_decide_eq_true hc;clear hc
        have hk:i < nl:=by omega
        obtain ⟨r,hr⟩:∃ r,ns[i]?=some r:=⟨ns[i]'(by omega),by simp [show i < ns.length by omega]⟩
        obtain ⟨b,off,rfl,hcs⟩:=hnr i r hr
        have k1:=hS.old hcs
        obtain ⟨hrr,hrl,hrm⟩:=hri r (List.mem_of_getElem? hr)
        obtain ⟨ra9,rl9,rc9,xs9⟩:=r
        dsimp only at hrr hrl hrm k1 hcs
        refine bH (XF.thenN (aO (bI (aO (aR (cJ  underlying34 sizeOf30 rfl rfl rfl (by omega) rfl rfl (aT isAgg30 rfl (k1) rfl (aB rfl rfl (aQ (XF.thenN (aO (aO (aR (aI rfl rfl (bX underlying30 rfl rfl (aN (o':=0) iU rfl rfl rfl (aT isAgg3 rfl (aJ (hS.at_ 0 rfl) rfl) rfl (cN rfl rfl rfl (aQ (XF.thenN (bC rfl (fun hc=>?_) (fun hc=>?_))))))))))))))))))))))
        ·have hc52:=of_decide_eq_true hc;clear hc
         refine aO (aR (aB rfl rfl (aQ (XF.thenN (bM (XF.thenR (XF.blkR (XF.thenR (XF.thenR (XF.blkR (XF.thenR (XF.res (bV results37 rfl) ?_))))))))))))
         exact ⟨cL (by unfold gW;dsimp only;rw [if_neg h2,if_neg (by rw [cF hr (by unfold pS;dsimp only;rw [decide_eq_false hc52];rfl)];decide)]),hS.below⟩
        ·have hc52:=of_decide_eq_false hc;clear hc
         have hls:(rl9:Int)=sy:=Decidable.of_not_not hc52
         refine bH (XF.thenN (aO (aR (aI rfl rfl (bX underlying30 rfl rfl (aI rfl rfl (aQ (XF.thenN (bI (cX (fun m l W=>∃ j:Nat,j≤rl9∧m=rl9 - j∧l=[(1,.pointer (some ⟨B1,0,none⟩)),(3,.int .i64 (nl:Int)),(42,.slice (some ⟨b,off,none⟩) nl nc),(43,.int .i64 (nl:Int)),(44,.int .i64 (i:Int)),(53,.slice ra9 rl9 rc9),(54,.int .i64 (rl9:Int)),(55,.int .i64 (j:Int))]∧(xs9.take j).all (fun y=>inQ y (nl:Int))=true∧St w [(B1,[.int .i64 sy,.slice (some ⟨b,off,none⟩) nl nc,.slice aa al ac],37)] [] [] W) (rl9 - 0) ([(1,_),(3,_),(42,_),(43,_),(44,_),(53,_),(54,_),(55,_)]) ⟨rfl,rfl,rfl,rfl,rfl,rfl,rfl,rfl,trivial⟩ (⟨0,Nat.zero_le _,rfl,rfl,rfl,hS.clear⟩) ?_))))))))))
         clear hS
         rintro m l W ⟨j,hj,rfl,rfl,hrow,hS⟩
         refine aO (aR (cC rfl rfl rfl (aQ (XF.thenN (aO (bC rfl (fun hc=>?_) (fun hc=>?_)))))))
         ·have hc56:=of_decide_eq_true hc;clear hc
          have hk2:j < rl9:=by omega
          obtain ⟨b2,off2,y,rfl,hy,hyc⟩:=hrr.at1 (show j < xs9.length by omega)
          have k2:=hS.old hyc
          refine bH (XF.thenN (aO (bI (aO (aR (cJ  underlying30 sizeOf3 rfl rfl rfl (by omega) rfl rfl (aT isAgg3 rfl (k2) rfl (aB rfl rfl (aQ (XF.thenN (aO (aR (aI rfl rfl (cC rfl rfl rfl (aI rfl rfl (bG (d:=61) rfl (fun hc=>?_) (fun hc=>?_)))))))))))))))))
          ·have hg61:=of_decide_eq_true hc;clear hc
           refine aF (d:=61) rfl rfl rfl rfl (aF (d:=61) rfl rfl rfl rfl (aF (d:=61) rfl rfl rfl rfl (aY rfl rfl rfl (aQ (XF.thenN (cU rfl (aO (aR (aB rfl rfl (aQ (XF.thenN (bM (XF.blkR (XF.thenR (XF.thenR (XF.blkR (XF.blkR (XF.thenR (XF.thenR (XF.blkR (XF.thenR (XF.res (bV results37 rfl) ?_))))))))))))))))))))))
           exact ⟨cL (by unfold gW;dsimp only;rw [if_neg h2,if_neg (by rw [cF hr (by unfold pS;dsimp only;rw [cF hy (by simp [inQ];omega),Bool.and_false])];decide)]),hS.below⟩
          ·have hg61:=of_decide_eq_false hc;clear hc
           refine aC (d:=61) rfl rfl (aI rfl rfl (aC (d:=61) rfl rfl (aI rfl rfl (aC (d:=61) rfl rfl (gV rfl rfl rfl (bN rfl rfl rfl (aQ (XF.thenN (bC rfl (fun hc=>?_) (fun hc=>?_))))))))))
           ·have hc65:=of_decide_eq_true hc;clear hc
            refine aO (aR (aB rfl rfl (aQ (XF.thenN (bM (XF.blkR (XF.thenR (XF.thenR (XF.blkR (XF.blkR (XF.thenR (XF.thenR (XF.blkR (XF.thenR (XF.res (bV results37 rfl) ?_)))))))))))))))
            exact ⟨cL (by unfold gW;dsimp only;rw [if_neg h2,if_neg (by rw [cF hr (by unfold pS;dsimp only;rw [cF hy (by simp [inQ];omega),Bool.and_false])];decide)]),hS.below⟩
           ·have hc65:=of_decide_eq_false hc;clear hc
            refine bH (XF.blkN (XF.thenN (aR (cE rfl rfl (IntWalk.i64_in _ (by omega)) rfl (aI rfl rfl (aQ ?_))))))
            exact XF.round (rl9 - (j+1)) [(1,_),(3,_),(42,_),(43,_),(44,_),(53,_),(54,_),(55,_)] (by omega) ⟨rfl,rfl,rfl,rfl,rfl,rfl,rfl,rfl,trivial⟩ ⟨j+1,by omega,rfl,rfl,cQ hy hrow (by simp [inQ];omega),hS.clear⟩
         ·have hc56:=of_decide_eq_false hc;clear hc
          rw [List.take_of_length_le (by omega)] at hrow
          refine cW (XF.thenX (XF.thenX (XF.blkX (XF.blkN (XF.thenN (aR (cE rfl rfl (IntWalk.i64_in _ (by omega)) rfl (aI rfl rfl (aQ ?_)))))))))
          exact XF.round (nl - (i+1)) [(1,_),(3,_),(42,_),(43,_),(44,_)] (by omega) ⟨rfl,rfl,rfl,rfl,rfl,trivial⟩ ⟨i+1,by omega,rfl,rfl,cQ hr hall (by unfold pS;dsimp only;rw [hrow,decide_eq_true hls];rfl),hS.clear⟩
       ·have hc45:=of_decide_eq_false hc;clear hc
        rw [List.take_of_length_le (by omega)] at hall
        refine cW (XF.thenX (XF.thenX (XF.blkX (XF.thenN (aO (aR (aB rfl rfl (aQ (XF.thenN (bM (XF.res (bV results37 rfl) ?_)))))))))))
        exact ⟨cL (by unfold gW;dsimp only;rw [if_neg h2,if_pos hall]),hS.below⟩
theorem dfaA_is (d:DV) (w:World) (h:DIn w d):Calls prog 37 #[d.val] w (fun e w'=>e = .returned (.int .i64 (gW d))∧Below w.heap.size w w'):=dfaA_c _ _ _ _ _ _ _ _ d.bs w h.nrow h.nlen h.rin h.nmax h.amax
theorem dfaR_c (sy:Int) (na:Option Addr) (nl nc:Nat) (ns:List IV) (aa:Option Addr) (al ac:Nat) (bs:List Bool) (w:World) (hnr:I3 w na ns) (hnl:ns.length=nl) (hri:∀ r∈ns,Row w r.a r.xs∧r.xs.length=r.l∧r.l≤9223372036854775807) (hnm:nl≤9223372036854775807) (ham:al≤9223372036854775807) :
  Calls prog 43 #[.agg #[.int .i64 sy,.slice na nl nc,.slice aa al ac]] w (fun e w'=>e = .returned (.int .i64 (gW ⟨sy,na,nl,nc,ns,aa,al,ac,bs⟩))∧Below w.heap.size w w'):=by
 refine cG (args:=[.agg #[.int .i64 sy,.slice na nl nc,.slice aa al ac]]) func43 rfl ntmps43 rfl ?_
 have hS:=St.start w
 refine aO (aR (bQ (cs:=[_,_,_]) hS rfl rfl rfl fun B1 W1 hS=>aB rfl rfl (aQ (XF.thenN (aO (aR (aN (o':=1) eA rfl rfl rfl (aT isAgg34 rfl (aJ (hS.at_ 0 rfl) rfl) rfl (bX underlying34 rfl rfl (aB rfl rfl (aQ (XF.thenN (aO (aO (aR (aN (o':=0) iU rfl rfl rfl (aT isAgg3 rfl (aJ (hS.at_ 0 rfl) rfl) rfl (cC rfl rfl rfl (aI rfl rfl (bG (d:=12) rfl (fun hc=>?_) (fun hc=>?_)))))))))))))))))))))
 ·have hg12:=of_decide_eq_true hc;clear hc
  refine aF (d:=12) rfl rfl rfl rfl (aF (d:=12) rfl rfl rfl rfl (aF (d:=12) rfl rfl rfl rfl (aY rfl rfl rfl (aI rfl rfl (aF (d:=17) rfl rfl rfl rfl (aF (d:=17) rfl rfl rfl rfl (aY rfl rfl rfl (aI rfl rfl (aF (d:=21) rfl rfl rfl rfl (aF (d:=21) rfl rfl rfl rfl (aY rfl rfl rfl (aI rfl rfl (aF (d:=25) rfl rfl rfl rfl (aF (d:=25) rfl rfl rfl rfl (aF (d:=25) rfl rfl rfl rfl (aF (d:=25) rfl rfl rfl rfl (aF (d:=25) rfl rfl rfl rfl (aY rfl rfl rfl (aI rfl rfl (aF (d:=32) rfl rfl rfl rfl (aF (d:=32) rfl rfl rfl rfl (aF (d:=32) rfl rfl rfl rfl (aF (d:=32) rfl rfl rfl rfl (aF (d:=32) rfl rfl rfl rfl (aY rfl rfl rfl (aQ (XF.thenN (cU rfl (aO (aR (aB rfl rfl (aQ (XF.thenN (bM (XF.thenR ?_)))))))))))))))))))))))))))))))))))
  refine XF.res (bV results43 rfl) ?_
  exact ⟨cL (by unfold gW;dsimp only;rw [if_pos (by omega)]),hS.below⟩
 ·have hg12:=of_decide_eq_false hc;clear hc
  refine aC (d:=12) rfl rfl (aN (o':=0) iU rfl rfl rfl (aC (d:=12) rfl rfl (aT isAgg3 rfl (aJ (hS.at_ 0 rfl) rfl) rfl (aC (d:=12) rfl rfl (dS rfl rfl rfl (bN rfl rfl rfl (aI rfl rfl (bG (d:=17) rfl (fun hc=>?_) (fun hc=>?_)))))))))
  ·have hg17:=of_decide_eq_true hc;clear hc
   refine aF (d:=17) rfl rfl rfl rfl (aF (d:=17) rfl rfl rfl rfl (aY rfl rfl rfl (aI rfl rfl (aF (d:=21) rfl rfl rfl rfl (aF (d:=21) rfl rfl rfl rfl (aY rfl rfl rfl (aI rfl rfl (aF (d:=25) rfl rfl rfl rfl (aF (d:=25) rfl rfl rfl rfl (aF (d:=25) rfl rfl rfl rfl (aF (d:=25) rfl rfl rfl rfl (aF (d:=25) rfl rfl rfl rfl (aY rfl rfl rfl (aI rfl rfl (aF (d:=32) rfl rfl rfl rfl (aF (d:=32) rfl rfl rfl rfl (aF (d:=32) rfl rfl rfl rfl (aF (d:=32) rfl rfl rfl rfl (aF (d:=32) rfl rfl rfl rfl (aY rfl rfl rfl (aQ (XF.thenN (cU rfl (aO (aR (aB rfl rfl (aQ (XF.thenN (bM (XF.thenR (XF.res (bV results43 rfl) ?_)))))))))))))))))))))))))))))))
   exact ⟨cL (by unfold gW;dsimp only;rw [if_pos (by omega)]),hS.below⟩
  ·have hg17:=of_decide_eq_false hc;clear hc
   refine aC (d:=17) rfl rfl (aI rfl rfl (aC (d:=17) rfl rfl (cC rfl rfl rfl (bN rfl rfl rfl (aI rfl rfl (bG (d:=21) rfl (fun hc=>?_) (fun hc=>?_)))))))
   ·have hg21:=of_decide_eq_true hc;clear hc
    refine aF (d:=21) rfl rfl rfl rfl (aF (d:=21) rfl rfl rfl rfl (aY rfl rfl rfl (aI rfl rfl (aF (d:=25) rfl rfl rfl rfl (aF (d:=25) rfl rfl rfl rfl (aF (d:=25) rfl rfl rfl rfl (aF (d:=25) rfl rfl rfl rfl (aF (d:=25) rfl rfl rfl rfl (aY rfl rfl rfl (aI rfl rfl (aF (d:=32) rfl rfl rfl rfl (aF (d:=32) rfl rfl rfl rfl (aF (d:=32) rfl rfl rfl rfl (aF (d:=32) rfl rfl rfl rfl (aF (d:=32) rfl rfl rfl rfl (aY rfl rfl rfl (aQ (XF.thenN (cU rfl (aO (aR (aB rfl rfl (aQ (XF.thenN (bM (XF.thenR (XF.res (bV results43 rfl) ?_)))))))))))))))))))))))))))
    exact ⟨cL (by unfold gW;dsimp only;rw [if_pos (by omega)]),hS.below⟩
   ·have hg21:=of_decide_eq_false hc;clear hc
    refine aC (d:=21) rfl rfl (aI rfl rfl (aC (d:=21) rfl rfl (dS rfl rfl rfl (bN rfl rfl rfl (aI rfl rfl (bG (d:=25) rfl (fun hc=>?_) (fun hc=>?_)))))))
    ·have hg25:=of_decide_eq_true hc;clear hc
     refine aF (d:=25) rfl rfl rfl rfl (aF (d:=25) rfl rfl rfl rfl (aF (d:=25) rfl rfl rfl rfl (aF (d:=25) rfl rfl rfl rfl (aF (d:=25) rfl rfl rfl rfl (aY rfl rfl rfl (aI rfl rfl (aF (d:=32) rfl rfl rfl rfl (aF (d:=32) rfl rfl rfl rfl (aF (d:=32) rfl rfl rfl rfl (aF (d:=32) rfl rfl rfl rfl (aF (d:=32) rfl rfl rfl rfl (aY rfl rfl rfl (aQ (XF.thenN (cU rfl (aO (aR (aB rfl rfl (aQ (XF.thenN (bM (XF.thenR (XF.res (bV results43 rfl) ?_)))))))))))))))))))))))
     exact ⟨cL (by unfold gW;dsimp only;rw [if_pos (by omega)]),hS.below⟩
    ·have hg25:=of_decide_eq_false hc;clear hc
     refine aC (d:=25) rfl rfl (aN (o':=2) nF rfl rfl rfl (aC (d:=25) rfl rfl (aT isAgg35 rfl (aJ (hS.at_ 0 rfl) rfl) rfl (aC (d:=25) rfl rfl (bX underlying35 rfl rfl (aC (d:=25) rfl rfl (aI rfl rfl (aC (d:=25) rfl rfl (cN rfl rfl rfl (bN rfl rfl rfl (aI rfl rfl (bG (d:=32) rfl (fun hc=>?_) (fun hc=>?_)))))))))))))
     ·have hg32:=of_decide_eq_true hc;clear hc
      refine aF (d:=32) rfl rfl rfl rfl (aF (d:=32) rfl rfl rfl rfl (aF (d:=32) rfl rfl rfl rfl (aF (d:=32) rfl rfl rfl rfl (aF (d:=32) rfl rfl rfl rfl (aY rfl rfl rfl (aQ (XF.thenN (cU rfl (aO (aR (aB rfl rfl (aQ (XF.thenN (bM (XF.thenR (XF.res (bV results43 rfl) ?_))))))))))))))))
      exact ⟨cL (by unfold gW;dsimp only;rw [if_pos (by omega)]),hS.below⟩
     ·have hg32:=of_decide_eq_false hc;clear hc
      refine aC (d:=32) rfl rfl (aI rfl rfl (aC (d:=32) rfl rfl (aN (o':=0) iU rfl rfl rfl (aC (d:=32) rfl rfl (aT isAgg3 rfl (aJ (hS.at_ 0 rfl) rfl) rfl (aC (d:=32) rfl rfl ?_))))))
      refine zB rfl rfl (IntWalk.i64_in _ (by have h9:=Hk (n:=nl) (s:=sy) (by omega) (by omega) (by omega);omega)) rfl ?_
      refine aC (d:=32) rfl rfl (dS rfl rfl rfl (bN rfl rfl rfl (aQ (XF.thenN (bC rfl (fun hc=>?_) (fun hc=>?_))))))
      ·have hc38:=of_decide_eq_true hc;clear hc
       refine aO (aR (aB rfl rfl (aQ (XF.thenN (bM (XF.thenR (XF.res (bV results43 rfl) ?_)))))))
       exact ⟨cL (by unfold gW;dsimp only;rw [if_pos (by omega)]),hS.below⟩
      ·have hc38:=of_decide_eq_false hc;clear hc
       have h2:¬ (sy < 0∨4096 < sy∨nl < 1∨1024 < nl∨al≠nl∨65536 < (nl:Int) * sy):=by omega
       refine bH (XF.thenN (aO (aO (aR (aB rfl rfl (aQ (XF.thenN (bI (cX (fun m l W=>∃ i:Nat,i≤nl∧m=nl - i∧l=[(1,.pointer (some ⟨B1,0,none⟩)),(3,.int .i64 (nl:Int)),(4,.int .i64 (i:Int))]∧(ns.take i).all (pS sy nl)=true∧St w [(B1,[.int .i64 sy,.slice na nl nc,.slice aa al ac],37)] [] [] W) (nl - 0) ([(1,_),(3,_),(4,_)]) ⟨rfl,rfl,rfl,trivial⟩ (⟨0,Nat.zero_le _,rfl,rfl,rfl,hS.clear⟩) ?_)))))))))
       clear hS
       rintro m l W ⟨i,hi,rfl,rfl,hall,hS⟩
       refine aO (aO (aR (aI rfl rfl (aI rfl rfl (cC rfl rfl rfl (aQ (XF.thenN (bC rfl (fun hc=>?_) (fun hc=>?_)))))))))
       ·have hc41:=of_decide_eq_true hc;clear hc
        have hk:i < nl:=by omega
        obtain ⟨r,hr⟩:∃ r,ns[i]?=some r:=⟨ns[i]'(by omega),by simp [show i < ns.length by omega]⟩
        obtain ⟨b,off,rfl,hcs⟩:=hnr i r hr
        have k1:=hS.old hcs
        obtain ⟨hrr,hrl,hrm⟩:=hri r (List.mem_of_getElem? hr)
        obtain ⟨ra9,rl9,rc9,xs9⟩:=r
        dsimp only at hrr hrl hrm k1 hcs
        refine bH (XF.thenN (aO (bI (aO (aO (gP (m:=9) bY hS (by kernel_rfl) (by kernel_rfl) rfl (cB 1 rfl 1 rfl rfl (fun w hw=>aV (o':=1) eA rfl rfl) rfl (bD 2 rfl 44 0 rfl rfl rfl (fun w hw=>aX isAgg34 rfl ((aP hw 0).cell (Nat.zero_le _) (aJ (hS.at_ 0 rfl) rfl))) rfl (cB 3 rfl 4 rfl rfl (fun w hw=>aZ rfl) rfl (aM 4 rfl (isV _) (aH _) (rgV (li:=[(45,_),(46,_)]) rfl (aS rfl) ⟨aL 1 (aA rfl rfl rfl),aL 2 (aA rfl rfl rfl),trivial⟩ (fun w hw=>bA  underlying34 sizeOf30 rfl rfl rfl (by omega) rfl) (aD rfl)) (bD 5 rfl 47 3 rfl rfl rfl (fun w hw=>aX isAgg30 rfl ((aP hw 0).cell (Nat.zero_le _) (k1))) rfl (bD 6 rfl 48 4 rfl rfl rfl (fun w hw=>mQ underlying30 rfl) rfl (cB 7 rfl 1 rfl rfl (fun w hw=>aV (o':=0) iU rfl rfl) rfl (bD 8 rfl 50 6 rfl rfl rfl (fun w hw=>aX isAgg3 rfl ((aP hw 0).cell (Nat.zero_le _) (aJ (hS.at_ 0 rfl) rfl))) rfl (aM 9 rfl (isV _) (aH _) (rgV (li:=[(49,_),(51,_)]) rfl (aS rfl) ⟨aL 5 (aA rfl rfl rfl),aL 7 (aA rfl rfl rfl),trivial⟩ (fun w hw=>zA rfl rfl) (aD rfl)) (dB ?_))))))))))))))))
        intro W2 hbR hS'
        clear hS;have hS:=hS';clear hS'
        refine aG (aG (aG (aG (aG (aG (aG (aG (aG (cH (XF.thenN (bC rfl (fun hc=>?_) (fun hc=>?_))))))))))))
        ·have hc52:=hc;clear hc
         have hls:=of_decide_eq_true hc52
         refine aO (aR (aB rfl rfl (aQ (XF.thenN (bM (XF.thenR (XF.blkR (XF.thenR (XF.thenR (XF.blkR (XF.thenR (XF.res (bV results43 rfl) ?_))))))))))))
         exact ⟨cL (by unfold gW;dsimp only;rw [if_neg h2,if_neg (by rw [cF hr (by unfold pS;dsimp only;rw [decide_eq_false hls];rfl)];decide)]),hS.below⟩
        ·have hc52:=hc;clear hc
         have hls:(rl9:Int)=sy:=Decidable.of_not_not (of_decide_eq_false hc52)
         refine bH (XF.thenN (aO (aR (aB rfl rfl (aQ (XF.thenN (bI (cX (fun m l W=>∃ j:Nat,j≤rl9∧m=rl9 - j∧l=[(1,.pointer (some ⟨B1,0,none⟩)),(3,.int .i64 (nl:Int)),(4,.int .i64 (i:Int)),(5,.int .i64 (j:Int))]∧(xs9.take j).all (fun y=>inQ y (nl:Int))=true∧St w [(B1,[.int .i64 sy,.slice (some ⟨b,off,none⟩) nl nc,.slice aa al ac],37)] [] [] W) (rl9 - 0) ([(1,_),(3,_),(4,_),(5,_)]) ⟨rfl,rfl,rfl,rfl,trivial⟩ (⟨0,Nat.zero_le _,rfl,rfl,rfl,hS.clear⟩) ?_))))))))
         clear hS
         rintro m l W ⟨j,hj,rfl,rfl,hrow,hS⟩
         refine aO (aO (aR (aI rfl rfl (aN (o':=0) iU rfl rfl rfl (aT isAgg3 rfl (aJ (hS.at_ 0 rfl) rfl) rfl (cC rfl rfl rfl (aQ (XF.thenN (bC rfl (fun hc=>?_) (fun hc=>?_))))))))))
         ·have hc56:=of_decide_eq_true hc;clear hc
          have hk2:j < rl9:=by omega
          obtain ⟨b2,off2,y,rfl,hy,hyc⟩:=hrr.at1 (show j < xs9.length by omega)
          have k2:=hS.old hyc
          have k3:=hS.old hcs
          refine bH (XF.thenN (aO (bI (aO (aR (aN (o':=1) eA rfl rfl rfl (aT isAgg34 rfl (aJ (hS.at_ 0 rfl) rfl) rfl (aI rfl rfl (cJ  underlying34 sizeOf30 rfl rfl rfl (by omega) rfl rfl (aT isAgg30 rfl (k3) rfl (aI rfl rfl (cJ  underlying30 sizeOf3 rfl rfl rfl (by omega) rfl rfl (aT isAgg3 rfl (k2) rfl (cC rfl rfl rfl (aI rfl rfl (bG (d:=68) rfl (fun hc=>?_) (fun hc=>?_)))))))))))))))))
          ·have hg68:=of_decide_eq_true hc;clear hc
           refine aF (d:=68) rfl rfl rfl rfl (aF (d:=68) rfl rfl rfl rfl (aF (d:=68) rfl rfl rfl rfl (aF (d:=68) rfl rfl rfl rfl (aF (d:=68) rfl rfl rfl rfl (aF (d:=68) rfl rfl rfl rfl (aF (d:=68) rfl rfl rfl rfl (aF (d:=68) rfl rfl rfl rfl (aF (d:=68) rfl rfl rfl rfl (aF (d:=68) rfl rfl rfl rfl (aY rfl rfl rfl (aQ (XF.thenN (cU rfl (aO (aR (aB rfl rfl (aQ (XF.thenN (bM (XF.blkR (XF.thenR (XF.thenR (XF.blkR (XF.blkR (XF.thenR (XF.thenR (XF.blkR (XF.thenR (XF.res (bV results43 rfl) ?_)))))))))))))))))))))))))))))
           exact ⟨cL (by unfold gW;dsimp only;rw [if_neg h2,if_neg (by rw [cF hr (by unfold pS;dsimp only;rw [cF hy (by simp [inQ];omega),Bool.and_false])];decide)]),hS.below⟩
          ·have hg68:=of_decide_eq_false hc;clear hc
           refine aC (d:=68) rfl rfl (aN (o':=1) eA rfl rfl rfl (aC (d:=68) rfl rfl (aT isAgg34 rfl (aJ (hS.at_ 0 rfl) rfl) rfl (aC (d:=68) rfl rfl (aI rfl rfl (aC (d:=68) rfl rfl (cJ  underlying34 sizeOf30 rfl rfl rfl (by omega) rfl rfl (aC (d:=68) rfl rfl (aT isAgg30 rfl (k3) rfl (aC (d:=68) rfl rfl (aI rfl rfl (aC (d:=68) rfl rfl (cJ  underlying30 sizeOf3 rfl rfl rfl (by omega) rfl rfl (aC (d:=68) rfl rfl (aT isAgg3 rfl (k2) rfl (aC (d:=68) rfl rfl (aI rfl rfl (aC (d:=68) rfl rfl (gV rfl rfl rfl (bN rfl rfl rfl (aQ (XF.thenN (bC rfl (fun hc=>?_) (fun hc=>?_))))))))))))))))))))))))
           ·have hc79:=of_decide_eq_true hc;clear hc
            refine aO (aR (aB rfl rfl (aQ (XF.thenN (bM (XF.blkR (XF.thenR (XF.thenR (XF.blkR (XF.blkR (XF.thenR (XF.thenR (XF.blkR (XF.thenR (XF.res (bV results43 rfl) ?_)))))))))))))))
            exact ⟨cL (by unfold gW;dsimp only;rw [if_neg h2,if_neg (by rw [cF hr (by unfold pS;dsimp only;rw [cF hy (by simp [inQ];omega),Bool.and_false])];decide)]),hS.below⟩
           ·have hc79:=of_decide_eq_false hc;clear hc
            refine bH (XF.blkN (XF.thenN (aR (aI rfl rfl (cE rfl rfl (IntWalk.i64_in _ (by omega)) rfl (aB rfl rfl (aQ ?_)))))))
            exact XF.round (rl9 - (j+1)) [(1,_),(3,_),(4,_),(5,_)] (by omega) ⟨rfl,rfl,rfl,rfl,trivial⟩ ⟨j+1,by omega,rfl,rfl,cQ hy hrow (by simp [inQ];omega),hS.clear⟩
         ·have hc56:=of_decide_eq_false hc;clear hc
          rw [List.take_of_length_le (by omega)] at hrow
          refine cW (XF.thenX (XF.thenX (XF.blkX (XF.blkN (XF.thenN (aR (aI rfl rfl (cE rfl rfl (IntWalk.i64_in _ (by omega)) rfl (aB rfl rfl (aQ ?_))))))))))
          exact XF.round (nl - (i+1)) [(1,_),(3,_),(4,_)] (by omega) ⟨rfl,rfl,rfl,trivial⟩ ⟨i+1,by omega,rfl,rfl,cQ hr hall (by unfold pS;dsimp only;rw [hrow,decide_eq_true hls];rfl),hS.clear⟩
       ·have hc41:=of_decide_eq_false hc;clear hc
        rw [List.take_of_length_le (by omega)] at hall
        refine cW (XF.thenX (XF.thenX (XF.blkX (XF.thenN (aO (aR (aB rfl rfl (aQ (XF.thenN (bM (XF.res (bV results43 rfl) ?_)))))))))))
        exact ⟨cL (by unfold gW;dsimp only;rw [if_neg h2,if_pos hall]),hS.below⟩
theorem dfaR_is (d:DV) (w:World) (h:DIn w d):Calls prog 43 #[d.val] w (fun e w'=>e = .returned (.int .i64 (gW d))∧Below w.heap.size w w'):=dfaR_c _ _ _ _ _ _ _ _ d.bs w h.nrow h.nlen h.rin h.nmax h.amax
end Go.Proofs.Ytafegfhpinpdoaa
