import Derived.Lib.OwnBridge
import Derived.Test.YtofaiolkihcfmaaGreatDoorLrD
set_option maxRecDepth 100000
set_option maxHeartbeats 4000000
set_option linter.unusedVariables false
set_option linter.unusedSimpArgs false
set_option linter.unusedSectionVars false
set_option linter.unnecessarySimpa false
namespace Go.Proofs.YtofaiolkihcfmaaGreatDoor
open Go.Proofs.Tryz
open Go.RowKit
section
variable {P:Program} {ops:Array Oper} {Q:Exit→Act→World→Prop} {σ:Type}
structure RInvG (ops:Array Oper) (t0:Array Value) (d0:List Deferred) (G:σ→World→Prop) (I:σ→Nat→Value→World→Prop) (V:σ→Array Bool→Prop) (s:σ) (L:Array Bool) (a:Act) (w:World):Prop where
 size:a.tmps.size=t0.size
 defers:a.defers=d0
 frame:∀ t,freeT ops t=true→a.tmps.getD t undef=t0.getD t undef
 glob:G s w
 cons:V s L
 done:∀ i d,(ops[i]?).bind (·.dst)=some d→L.getD i false=true→I s i (a.tmps.getD d undef) w
def gT (ops:Array Oper) (L:Array Bool):Prop:=∀ j,L.getD j false=true→∀ x∈aft ops j,L.getD x false=true
def oC (ops:Array Oper) (L:Array Bool) (i:Nat):Prop:=L.getD i false=false∧∀ x∈aft ops i,L.getD x false=true
def Qn (P:Program) (ops:Array Oper) (Q:Exit→Act→World→Prop) (t0:Array Value) (G:σ→World→Prop) (I:σ→Nat→Value→World→Prop) (V:σ→Array Bool→Prop) (i:Nat):Prop :=
 ∀ s L (a:Act) w,(∀ t,freeT ops t=true→a.eval (.tmp t)=t0.getD t undef)→G s w→V s L→L.size=ops.size→gT ops L→oC ops L i→(∀ j d,bI ops i j d=true→I s j (a.eval (.tmp d)) w) →
  wpOp P ops Q i (fun a' w'=>∃ s' v,a'=a.put ((ops[i]?).bind (·.dst)) v∧V s' (L.setIfInBounds i true)∧G s' w'∧(∀ d,(ops[i]?).bind (·.dst)=some d→I s' i v w')∧(∀ j d,(ops[j]?).bind (·.dst)=some d→I s j (a.tmps.getD d undef) w→I s' j (a.tmps.getD d undef) w')) a w
def vG (ops:Array Oper) (k:Nat):Bool:=(List.range ops.size).all fun j=>decide (j < k) || (List.range j).all fun i=>(earlyL ops j).contains i
theorem rV {k j i:Nat} (h:vG ops k=true) (hj:j < ops.size) (hk:k≤j) (hi:i < j):i∈earlyL ops j:=by
 have h1:=List.all_eq_true.1 h j (List.mem_range.2 hj)
 rw [Bool.or_eq_true,decide_eq_true_eq] at h1
 rcases h1 with h1 | h1
 ·omega
 ·exact List.contains_iff_mem.1 (List.all_eq_true.1 h1 i (List.mem_range.2 hi))
theorem tL {L:Array Bool} {i:Nat} (h:i∈Region.ready .any ops L) (hs:L.size=ops.size):i < ops.size∧oC ops L i:=by
 obtain ⟨h1,o,ho,hdep⟩:=mem_ready.1 h
 have his:i < ops.size:=(Array.getElem?_eq_some_iff.1 ho).1
 refine ⟨his,?_,fun x hx=>?_⟩
 ·rw [Array.getD_eq_getD_getElem?,Array.getElem?_eq_getElem (by omega)] at h1 ⊢
  simpa using h1
 ·obtain ⟨e,he,h5,h6⟩:=Cz ho hx
  have h7:=hdep e he h6
  rw [h5] at h7
  exact h7
theorem nJ {L:Array Bool} {i:Nat} (hi:i < L.size) (h:L.getD i false=false):L.toList[i]?=some false:=by
 rw [Array.getD_eq_getD_getElem?,Array.getElem?_eq_getElem hi] at h
 rw [Array.getElem?_toList,Array.getElem?_eq_getElem hi]
 simpa using h
theorem gT.next {L:Array Bool} {i:Nat} (h:gT ops L) (hr:oC ops L i) (hi:i < L.size):gT ops (L.setIfInBounds i true):=fun j hj x hx=>by
 have hx2:L.getD x false=true:=by
  by_cases hji:j=i
  ·subst hji;exact hr.2 x hx
  ·rw [getD_set_ne false (Ne.symm hji)] at hj
   exact h j hj x hx
 by_cases hxi:x=i
 ·subst hxi
  rw [Array.getD_eq_getD_getElem?,Array.getElem?_setIfInBounds_self_of_lt hi];rfl
 ·rw [getD_set_ne false (Ne.symm hxi)];exact hx2
theorem kI {L:Array Bool} {i:Nat} (h:gT ops L) (hr:oC ops L i):∀ x∈earlyL ops i,L.getD x false=true :=
 nZ (D:=fun x=>L.getD x false=true) hr.2 (fun j hj x hx=>h j hj x hx)
theorem xW (ht:∀ n,eP ops n=true→True) {k:Nat} (hl:vG ops k=true) {n0:Nat} (htd:eP ops n0=true):∀ (m j fuel:Nat) (L:Array Bool) (a:Act) (w:World),ops.size=j+m→k≤j→m≤fuel→L.size=ops.size→gT ops L→(∀ i,i < j→L.getD i false=true)→(∀ i,j≤i→L.getD i false=false) →
  wpList P ops Q (ops.toList.drop j) a w→wpAny P .any ops Q fuel L a w
 | 0,j,fuel,L,a,w,hm,hk,hf,hs,hc,hd,hn,h=>by
  have hnil:Region.ready .any ops L=[]:=by
   cases hr:Region.ready .any ops L with
   | nil=>rfl
   | cons i rest =>
    obtain ⟨h1,h2⟩:=tL (by rw [hr];exact List.mem_cons_self) hs
    have h3:=h2.1
    rw [hd i (by omega)] at h3
    cases h3
  rw [List.drop_of_length_le (by simp;omega)] at h
  cases fuel with
  | zero=>exact ⟨hnil,h⟩
  | succ fuel=>exact ⟨fun _=>h,by rw [hnil];simp⟩
 | m+1,j,0,L,a,w,hm,hk,hf,hs,hc,hd,hn,h=>by omega
 | m+1,j,fuel+1,L,a,w,hm,hk,hf,hs,hc,hd,hn,h=>by
  have hj:j < ops.size:=by omega
  have only:∀ i∈Region.ready .any ops L,i=j:=fun i hi=>by
   obtain ⟨h1,h2⟩:=tL hi hs
   rcases Nat.lt_trichotomy i j with h3 | h3 | h3
   ·have h4:=h2.1
    rw [hd i h3] at h4;cases h4
   ·exact h3
   ·have:=kI hc h2 j (rV hl h1 (by omega) h3)
    rw [hn j (Nat.le_refl _)] at this;cases this
  refine ⟨fun hr=>?_,fun i hi=>?_⟩
  ·have:=jS htd hs hr j hj
   have h2:=hn j (Nat.le_refl _)
   rw [Array.getD_eq_getD_getElem?,Array.getElem?_eq_getElem (by omega)] at this h2
   simp at this h2
   rw [this] at h2;cases h2
  ·obtain ⟨h1,h2⟩:=tL hi hs
   obtain rfl:=only i hi
   have e:ops.toList.drop i=ops[i]::ops.toList.drop (i+1):=by
    rw [List.drop_eq_getElem_cons (by simpa using hj)];simp
   rw [e] at h
   have key:wpOp P ops Q i (fun a' w'=>wpList P ops Q (ops.toList.drop (i+1)) a' w') a w:=by
    unfold wpOp
    rw [Array.getElem?_eq_getElem hj]
    exact h
   refine wpOp_mono ?_ key
   intro a' w' hq
   refine xW ht hl htd m (i+1) fuel _ a' w' (by omega) (by omega) (by omega) (by simpa using hs) (hc.next h2 (by omega)) (fun x hx=>?_) (fun x hx=>?_) hq
   ·by_cases hxi:x=i
    ·subst hxi
     rw [Array.getD_eq_getD_getElem?,Array.getElem?_setIfInBounds_self_of_lt (by omega)];rfl
    ·rw [getD_set_ne false (Ne.symm hxi)];exact hd x (by omega)
   ·rw [getD_set_ne false (by omega)];exact hn x (by omega)
theorem C9 {t0:Array Value} {d0:List Deferred} {G:σ→World→Prop} {I:σ→Nat→Value→World→Prop} {V:σ→Array Bool→Prop} {k:Nat} (hk:k < ops.size) (hl:vG ops k=true) (ht:eP ops t0.size=true)
  (hstep:∀ i,i < k→Qn P ops Q t0 G I V i)
  (hfin:∀ s L a w,RInvG ops t0 d0 G I V s L a w→(∀ i,i < k→L.getD i false=true)→(∀ i,k≤i→L.getD i false=false)→wpList P ops Q (ops.toList.drop k) a w) :
  ∀ (fuel:Nat) (s:σ) (L:Array Bool) (a:Act) (w:World),L.size=ops.size→L.toList.count false≤fuel→gT ops L→(∀ i,k≤i→L.getD i false=false)→RInvG ops t0 d0 G I V s L a w→wpAny P .any ops Q fuel L a w:=by
 intro fuel
 induction fuel with
 | zero =>
  intro s L a w hs hc hcl hn h
  have:=iL _ _ (nJ (by omega) (hn k (Nat.le_refl _)))
  omega
 | succ fuel ih =>
  intro s L a w hs hc hcl hn h
  by_cases hall:∀ i,i < k→L.getD i false=true
  ·have hcnt:ops.size - k≤L.toList.count false:=by
    have key:∀ (l:List Bool) (k:Nat),(∀ i,k≤i→i < l.length→l[i]?=some false)→l.length - k≤l.count false:=by
     intro l
     induction l with
     | nil=>intro k _;simp
     | cons b l ihl =>
      intro k hk
      cases k with
      | zero =>
       have h0:=hk 0 (Nat.le_refl _) (by simp)
       simp at h0;subst h0
       have:=ihl 0 (fun i _ hi=>by have:=hk (i+1) (by omega) (by simpa using hi);simpa using this)
       simp at this ⊢;omega
      | succ k =>
       have:=ihl k (fun i hi hi2=>by have:=hk (i+1) (by omega) (by simpa using hi2);simpa using this)
       rw [List.count_cons];simp;omega
    have:=key L.toList k (fun i h1 h2=>nJ (by simpa using h2) (hn i h1))
    simpa [hs] using this
   exact xW (fun _ _=>trivial) hl ht (ops.size - k) k (fuel+1) L a w (by omega) (Nat.le_refl _) (by omega) hs hcl hall hn (hfin s L a w h hall hn)
  ·refine ⟨fun hr=>?_,fun i hi=>?_⟩
   ·exfalso;apply hall
    intro i hi
    have h1:=jS ht hs hr i (by omega)
    rw [Array.getD_eq_getD_getElem?,Array.getElem?_eq_getElem (by omega)] at h1 ⊢
    simpa using h1
   ·obtain ⟨his,hr⟩:=tL hi hs
    have hik:i < k:=by
     rcases Nat.lt_or_ge i k with h1 | h1
     ·exact h1
     ·exfalso;apply hall
      intro x hx
      exact kI hcl hr x (rV hl his h1 (by omega))
    have hc1:=iL _ _ (nJ (by omega) hr.1)
    refine wpOp_mono ?_ (hstep i hik s L a w (fun t ht=>h.frame t ht) h.glob h.cons hs hcl hr (fun j d hw=>?_))
    ·rintro a' w' ⟨s',v,rfl,hV,hG,hI,hst⟩
     refine ih s' _ _ _ (by simpa using hs) ?_ (hcl.next hr (by omega)) (fun x hx=>by rw [getD_set_ne false (by omega)];exact hn x hx) ⟨by rw [oU];exact h.size,by rw [lU];exact h.defers,fun t hf=>?_,hG,hV,fun j d hd hj=>?_⟩
     ·rw [Array.toList_setIfInBounds];omega
     ·rw [iA ?_]
      ·exact h.frame t hf
      ·intro hd
       obtain ⟨o,ho,hd⟩:=Option.bind_eq_some_iff.1 hd
       have:=Array.all_eq_true'.1 hf o (Array.mem_of_getElem? ho)
       simp [hd] at this
     ·by_cases hji:j=i
      ·subst hji
       rw [xI hd (by rw [h.size];exact (kG ht hd).1)]
       exact hI d hd
      ·rw [getD_set_ne false (Ne.symm hji)] at hj
       rw [iA (fun e=>hji ((kG ht e).2 j hd))]
       exact hst j d hd (h.done j d hd hj)
    ·have:j∈aft ops i:=by
      unfold bI at hw
      unfold aft
      cases ho:ops[i]? with
      | none=>simp [ho] at hw
      | some o =>
       simp only [ho,Bool.and_eq_true,beq_iff_eq] at hw
       obtain ⟨e,he,h2⟩:=Array.any_eq_true'.1 hw.1
       simp only [Bool.and_eq_true,beq_iff_eq] at h2
       exact List.mem_map.2 ⟨e,List.mem_filter.2 ⟨Array.mem_toList_iff.2 he,h2.2⟩,h2.1⟩
     have hd:(ops[j]?).bind (·.dst)=some d:=by
      unfold bI at hw
      simp only [Bool.and_eq_true,beq_iff_eq] at hw
      exact hw.2
     exact h.done j d hd (hr.2 j this)
end
structure Sg where
 ev:Option Value
 bs:List (Nat×Nat)
def OE (ca:Nat→Option Value→List Value) (ta:Nat→TypeId) (Os:Option Value→Own) (s:Sg):Own:=s.bs.map (fun q=>(q.2,ca q.1 s.ev,ta q.1))++Os s.ev
def XB (O:Own) (G:cY) (b:Nat):Prop:=(∃ p∈O,p.1=b)∨(∃ g∈G,g.v.ownBlock=some b)
def eQ (lo:Nat) (X:Nat→Prop) (w w':World):Prop:=(w'.os=w.os∧w'.tape=w.tape∧w'.output=w.output)∧w.heap.size≤w'.heap.size∧∀ b,lo≤b→b < w.heap.size→¬ X b→w'.heap[b]?=w.heap[b]?
def AwS (lo:Nat) (X:Nat→Prop) (p:Asr):Asr:=fun v w=>∀ w',eQ lo X w w'→p v w'
section
variable {lo:Nat} {X X':Nat→Prop} {w w' w'':World} {p:Asr} {v c:Value}
theorem eQ.refl (lo:Nat) (X:Nat→Prop) (w:World):eQ lo X w w:=⟨⟨rfl,rfl,rfl⟩,Nat.le_refl _,fun _ _ _ _=>rfl⟩
theorem kJ (h:Below w.heap.size w w'):eQ lo X w w':=⟨⟨h.os,h.tape,h.output⟩,h.size,fun b _ hb _=>h.block b hb⟩
theorem eQ.trans (h:eQ lo X w w') (k:eQ lo X' w' w'') (hx:∀ b,X' b→X b∨w.heap.size≤b):eQ lo X w w'' :=
 ⟨⟨k.1.1.trans h.1.1,k.1.2.1.trans h.1.2.1,k.1.2.2.trans h.1.2.2⟩,Nat.le_trans h.2.1 k.2.1,fun b h1 h2 h3=>(k.2.2 b h1 (Nat.lt_of_lt_of_le h2 h.2.1) (fun hb=>(hx b hb).elim h3 (fun h4=>by omega))).trans (h.2.2 b h1 h2 h3)⟩
theorem eQ.mono (h:eQ 0 X w w'):eQ lo X w w':=⟨h.1,h.2.1,fun b _ hb hx=>h.2.2 b (Nat.zero_le _) hb hx⟩
theorem AwS.here (h:AwS lo X p v w):p v w:=h w (eQ.refl _ _ _)
theorem AwS.next (h:AwS lo X p v w) (hs:eQ 0 X w w') (hx:∀ b,X' b→X b∨w.heap.size≤b):AwS lo X' p v w':=fun w2 h2=>h w2 (hs.mono.trans h2 hx)
theorem Da:AwS lo X (isV c) c w:=fun _ _=>rfl
end
section
variable {P:Program} {n:Nat} {Q:Exit→Act→World→Prop} {l:Fr} {w0 W:World} {ops:Array Oper} {os:List Oper} {K:List (Nat×World)} {L:List Asr} {i:Nat}
variable {al:List Nat} {ca:Nat→Option Value→List Value} {ta:Nat→TypeId} {Os:Option Value→Own} {Gs:Option Value→cY} {lo ef jy:Nat} {s:Sg}
theorem St.drops {O:Own} {G:cY} {w:World}:∀ (A:Own),St w0 (A++O) G K w→St w0 O G K w
 | [],h=>h
 | _::A,h=>St.drops A h.tail
def GG (w0:World) (K:List (Nat×World)) (lo:Nat) (ca:Nat→Option Value→List Value) (ta:Nat→TypeId) (Os:Option Value→Own) (Gs:Option Value→cY) (s:Sg) (w:World):Prop:=St w0 (OE ca ta Os s) (Gs s.ev) K w∧lo≤w.heap.size∧∀ q∈s.bs,lo≤q.2
def VG (al:List Nat) (ef:Nat) (s:Sg) (L:Array Bool):Prop:=(∀ a∈al,L.getD a false=true↔∃ B,(a,B)∈s.bs)∧(∀ q∈s.bs,q.1∈al)∧s.bs.Pairwise (fun p q=>p.1≠q.1)∧(L.getD ef false=true↔s.ev.isSome=true)
def IG (al:List Nat) (ef jy lo:Nat) (ca:Nat→Option Value→List Value) (ta:Nat→TypeId) (Os:Option Value→Own) (Gs:Option Value→cY) (L:List Asr) (s:Sg) (i:Nat) (v:Value) (w:World):Prop :=
 (i∈al→∃ B,(i,B)∈s.bs∧v = .pointer (some ⟨B,0,none⟩))∧(i=ef→s.ev=some v)∧(i=jy→∀ y,s.ev=some y→v=y)∧(i∉al→i≠ef→AwS lo (XB (OE ca ta Os s) (Gs s.ev)) (atI L i) v w)
def Tr (ops:Array Oper) (jy:Nat) (ca:Nat→Option Value→List Value) (ta:Nat→TypeId) (Os:Option Value→Own) (Gs:Option Value→cY) (s s':Sg) (a:Act) (w w':World):Prop :=
 eQ 0 (XB (OE ca ta Os s) (Gs s.ev)) w w'∧(∀ b,XB (OE ca ta Os s') (Gs s'.ev) b→XB (OE ca ta Os s) (Gs s.ev) b∨w.heap.size≤b)∧(∀ q∈s.bs,q∈s'.bs)∧(s'.ev=s.ev∨(s.ev=none∧∃ y,s'.ev=some y∧∀ d,(ops[jy]?).bind (·.dst)=some d→a.eval (.tmp d)=y))
theorem Tr.refl {a:Act} {w w':World} (h:Below w.heap.size w w'):Tr ops jy ca ta Os Gs s s a w w':=⟨kJ h,fun b hb=>.inl hb,fun q hq=>hq,.inl rfl⟩
def SG (P:Program) (n:Nat) (ops:Array Oper) (Q:Exit→Act→World→Prop) (l:Fr) (w0:World) (K:List (Nat×World)) (lo:Nat) (al:List Nat) (ef jy:Nat) (ca:Nat→Option Value→List Value) (ta:Nat→TypeId) (Os:Option Value→Own) (Gs:Option Value→cY) (L:List Asr) (i:Nat):Prop :=
 ∀ t0,Has n l t0→∀ s LB (a:Act) w,(∀ t,freeT ops t=true→a.eval (.tmp t)=t0.tmps.getD t undef)→GG w0 K lo ca ta Os Gs s w→VG al ef s LB→LB.size=ops.size→gT ops LB→oC ops LB i→(∀ j d,bI ops i j d=true→IG al ef jy lo ca ta Os Gs L s j (a.eval (.tmp d)) w) →
  wpOp P ops Q i (fun a' w'=>∃ s' v,a'=a.put ((ops[i]?).bind (·.dst)) v∧VG al ef s' (LB.setIfInBounds i true)∧GG w0 K lo ca ta Os Gs s' w'∧Tr ops jy ca ta Os Gs s s' a w w'∧(∀ d,(ops[i]?).bind (·.dst)=some d→IG al ef jy lo ca ta Os Gs L s' i v w')) a w
theorem SG.step (h:SG P n ops Q l w0 K lo al ef jy ca ta Os Gs L i):∀ a,Has n l a→Qn P ops Q a.tmps (GG w0 K lo ca ta Os Gs) (IG al ef jy lo ca ta Os Gs L) (VG al ef) i:=fun t0 h0 s LB a w hF hG hV hs hc hr hD=>by
 refine wpOp_mono ?_ (h t0 h0 s LB a w hF hG hV hs hc hr hD)
 rintro a' w' ⟨s',v,h1,h2,h3,⟨t1,t2,t3,t4⟩,h5⟩
 refine ⟨s',v,h1,h2,h3,h5,fun j d hd hj=>⟨fun hj1=>?_,fun hj1=>?_,fun hj1 y hy=>?_,fun h6 h7=>(hj.2.2.2 h6 h7).next t1 t2⟩⟩
 ·obtain ⟨B,hB,e⟩:=hj.1 hj1
  exact ⟨B,t3 _ hB,e⟩
 ·rcases t4 with t4 | ⟨t4,_⟩
  ·rw [t4];exact hj.2.1 hj1
  ·have:=hj.2.1 hj1;rw [t4] at this;cases this
 ·rcases t4 with t4 | ⟨t4,y',t5,t6⟩
  ·rw [t4] at hy;exact hj.2.2.1 hj1 y hy
  ·rw [t5] at hy;cases hy
   subst hj1
   exact t6 d hd
theorem SG.ext {L1 L2:List Asr} (ht:eP ops n=true) (hag:∀ j,j≤i→atI L1 j=atI L2 j) (h:SG P n ops Q l w0 K lo al ef jy ca ta Os Gs L1 i):SG P n ops Q l w0 K lo al ef jy ca ta Os Gs L2 i:=fun t0 h0 s LB a w hF hG hV hs hc hr hD=>by
 have hlt:∀ j d,bI ops i j d=true→j < i:=fun j d hw=>by
  cases ho:ops[i]? with
  | none=>simp [bI,ho] at hw
  | some o =>
   simp only [bI,ho,Bool.and_eq_true,beq_iff_eq] at hw
   obtain ⟨e,he,h2⟩:=Array.any_eq_true'.1 hw.1
   simp only [Bool.and_eq_true,beq_iff_eq] at h2
   rw [← h2.1];exact jR ht ho e he h2.2
 have h2:=h t0 h0 s LB a w hF hG hV hs hc hr (fun j d hw=>by unfold IG;rw [hag j (Nat.le_of_lt (hlt j d hw))];exact hD j d hw)
 unfold IG at h2
 rw [hag i (Nat.le_refl _)] at h2
 exact h2
def oD (ops:Array Oper) (ef i:Nat):Bool:=Nat.ble ops.size ef || (earlyL ops ef).contains i
def rW (ops:Array Oper) (ef jy i:Nat):Bool := !Nat.beq i jy || oD ops ef i
theorem nK (h:rW ops ef jy i=true):i=jy→oD ops ef i=true:=fun e=>by
 unfold rW at h
 rw [e,Nat.beq_refl] at h
 rw [e];exact h
theorem Db {L:Array Bool} (hV:VG al ef s L) (hs:L.size=ops.size) (hc:gT ops L) (hi:L.getD i false=false) (he:oD ops ef i=true):s.ev=none:=by
 cases hev:s.ev with
 | none=>rfl
 | some v =>
  have hd:L.getD ef false=true:=hV.2.2.2.2 (by rw [hev];rfl)
  unfold oD at he
  rw [Bool.or_eq_true] at he
  rcases he with he | he
  ·have h1:ops.size≤ef:=Nat.le_of_ble_eq_true he
   rw [Array.getD_eq_getD_getElem?,Array.getElem?_eq_none (by omega)] at hd
   cases hd
  ·have:=nZ (D:=fun x=>L.getD x false=true) (hc ef hd) (fun j hj x hx=>hc j hj x hx) i (List.contains_iff_mem.1 he)
   rw [hi] at this;cases this
theorem Fw {t0:Act} (h0:Has n l t0) {a:Act} {w:World} (hF:∀ t,freeT ops t=true→a.eval (.tmp t)=t0.tmps.getD t undef) (hD:∀ j d,bI ops i j d=true→IG al ef jy lo ca ta Os Gs L s j (a.eval (.tmp d)) w)
  (hn:∀ j d,bI ops i j d=true→j∈al∨j=ef→atI L j=anyA):∀ j d,bI ops i j d=true→atI L j (a.eval (.tmp d)) w:=fun j d hw=>by
 by_cases h1:j∈al∨j=ef
 ·rw [hn j d hw h1];trivial
 ·rw [not_or] at h1
  exact ((hD j d hw).2.2.2 h1.1 h1.2).here
def pK (al:List Nat) (ef:Nat) (L:List Asr):Prop:=∀ j,j∈al∨j=ef→atI L j=anyA
theorem Qo {L:Array Bool} (hV:VG al ef s L) (hi:i∉al) (he:i≠ef):VG al ef s (L.setIfInBounds i true) :=
 ⟨fun a ha=>by rw [getD_set_ne false (fun e=>hi (by rw [e];exact ha))];exact hV.1 a ha,hV.2.1,hV.2.2.1,by rw [getD_set_ne false he];exact hV.2.2.2⟩
variable {d:Nat} {op:Op} {ty:TypeId} {pos:String} {aft_:Array Edge} {v:Value} {gd:Option (Nat×Bool)}
theorem tM (hal:i∉al) (hie:i≠ef) (hij:i=jy→oD ops ef i=true) (hi:ops[i]?=some ⟨some d,op,ty,pos,aft_,gd⟩) (hNo:pK al ef L)
  (h:∀ (t0 a:Act) s w,Has n l t0→(∀ t,freeT ops t=true→a.eval (.tmp t)=t0.tmps.getD t undef)→GG w0 K lo ca ta Os Gs s w→(oD ops ef i=true→s.ev=none)→(∀ j d,bI ops i j d=true→IG al ef jy lo ca ta Os Gs L s j (a.eval (.tmp d)) w)→(∀ j d,bI ops i j d=true→atI L j (a.eval (.tmp d)) w) →
   wpOp P ops Q i (fun a' w'=>∃ v,a'=a.put (some d) v∧AwS lo (XB (OE ca ta Os s) (Gs s.ev)) (atI L i) v w'∧Below w.heap.size w w') a w):SG P n ops Q l w0 K lo al ef jy ca ta Os Gs L i:=fun t0 h0 s LB a w hF hG hV hs hc hr hD=>by
 refine wpOp_mono ?_ (h t0 a s w h0 hF hG (fun he=>Db hV hs hc hr.1 he) hD (Fw h0 hF hD fun j d _ hj=>hNo j hj))
 rintro a' w' ⟨v,rfl,hA,hb⟩
 refine ⟨s,v,by rw [hi];rfl,Qo hV hal hie,⟨hG.1.grow hb,Nat.le_trans hG.2.1 hb.size,hG.2.2⟩,Tr.refl hb,fun _ _=>⟨fun h=>absurd h hal,fun h=>absurd h hie,(fun h y hy=>by rw [Db hV hs hc hr.1 (hij h)] at hy;cases hy),fun _ _=>hA⟩⟩
theorem gY {o:Oper} {a:Act} {w w':World} {K':Act→World→Prop} (hi:ops[i]?=some o) (hw:Region.wanted o (yielded ops a.tmps)=true) (hr:(execOp a.eval o).run P w = .ok (.value v) w') (hK:K' (a.put o.dst v) w'):wpOp P ops Q i K' a w:=by
 unfold wpOp
 simp only [hi,hw,if_true]
 refine .inl ?_
 unfold Oper.wp
 rw [hr]
 exact hK
theorem sgV (li:Fr) (hal:al.contains i=false) (hie:Nat.beq i ef=false) (hij:rW ops ef jy i=true) (hi:ops[i]?=some ⟨some d,op,ty,pos,aft_,gd⟩) (hNo:pK al ef L) (hw:gG ops L i ⟨some d,op,ty,pos,aft_,gd⟩) (hli:uI n ops l L i li)
  (hr:∀ ev w,(oD ops ef i=true→ev=none)→St w0 (Os ev) (Gs ev) K w→gF P li ⟨some d,op,ty,pos,#[],none⟩ w v w) (hI:atI L i=isV v):SG P n ops Q l w0 K lo al ef jy ca ta Os Gs L i :=
 tM (fun h=>by rw [List.contains_iff_mem.2 h] at hal;cases hal) (fun e=>by rw [e,Nat.beq_refl] at hie;cases hie) (nK hij) hi hNo fun t0 a s w h0 hF hG he hD hD'=>by
  have hS:St w0 (Os s.ev) (Gs s.ev) K w:=St.drops _ hG.1
  exact gY hi (hw.yes hD') (by rw [eK a.eval _ _ _ _ pos _ #[] _ none];exact hr s.ev w he hS a.eval (iJ h0 hF hD' hli)) ⟨v,rfl,by rw [hI];exact Da,Below.refl _ _⟩
theorem Dc {f:FuncId} {xs:List Operand} {ts:Array TypeId} (ps:List Asr) (hal:al.contains i=false) (hie:Nat.beq i ef=false) (hij:rW ops ef jy i=true) (hi:ops[i]?=some ⟨some d,.call { callee:=.value (.func f),args:=xs.toArray,argTypes:=ts },ty,pos,aft_,gd⟩) (hNo:pK al ef L) (hgo:bW P f=true)
  (hw:gG ops L i ⟨some d,.call { callee:=.value (.func f),args:=xs.toArray,argTypes:=ts },ty,pos,aft_,gd⟩) (hp:uJ n ops l L i xs ps)
  {p:Asr} (hc:∀ vs ev w,(oD ops ef i=true→ev=none)→St w0 (Os ev) (Gs ev) K w→lo≤w.heap.size→Holds ps vs w→Calls P f vs.toArray w (lV p w)) (hI:atI L i=p):SG P n ops Q l w0 K lo al ef jy ca ta Os Gs L i :=
 tM (fun h=>by rw [List.contains_iff_mem.2 h] at hal;cases hal) (fun e=>by rw [e,Nat.beq_refl] at hie;cases hie) (nK hij) hi hNo fun t0 a s w h0 hF hG he hD hD'=>by
  have hS:St w0 (Os s.ev) (Gs s.ev) K w:=St.drops _ hG.1
  have h1:=hc (xs.map a.eval) s.ev w he hS hG.2.1 (gW h0 hF hD' hp)
  rw [show (xs.map a.eval).toArray=xs.toArray.map a.eval by simp] at h1
  unfold wpOp
  simp only [hi,hw.yes hD',if_true]
  refine .inl ?_
  unfold Oper.wp
  rw [oX P a.eval w f xs.toArray ts _ rfl rfl hgo,Oper.upon_enter]
  refine h1.mono ?_
  rintro e w' ⟨v,rfl,hv,hb⟩
  refine ⟨v,by simp,?_,hb⟩
  rw [hI]
  intro w2 h2
  refine hv w2 ⟨h2.2.1,fun b h3 h4=>h2.2.2 b (Nat.le_trans hG.2.1 h3) h4 (fun hx=>?_)⟩
  rcases hx with ⟨q,hq,rfl⟩ | ⟨g,hg,hgb⟩
  ·have:=cQ (hG.1.own q hq).2;omega
  ·have:=(hG.1.glt hg hgb).2;omega
theorem sg_rowV {T e:TypeId} {m sz:Nat} {xs:List (Nat×Operand)} {us:List Value} {z:Value} {cs:List Value} (hal:al.contains i=false) (hie:Nat.beq i ef=false) (hij:rW ops ef jy i=true) (hi:ops[i]?=some ⟨some d,.buildSlice T m xs.toArray,ty,pos,aft_,gd⟩) (hNo:pK al ef L) (hw:gG ops L i ⟨some d,.buildSlice T m xs.toArray,ty,pos,aft_,gd⟩)
  (hU:P.underlying T=some (.slice e)) (hs:∀ w,(sizeOf e).run P w = .ok sz w) (hz:∀ w,(zeroValue e).run P w = .ok z w) (hm:Nat.ble (m * sz) 16777216=true) (hm0:Nat.beq (m * sz) 0=false) (hp:uJ n ops l L i (xs.map (·.2)) (us.map isV))
  (hf:Instr.fill (fun i=>some (i * sz,sz)) ((Array.range (m * sz)).map (z.cells[· % z.cells.size]!)) ((xs.map (·.1)).zip us)=some cs.toArray) (hI:atI L i=gR lo m e cs):SG P n ops Q l w0 K lo al ef jy ca ta Os Gs L i :=
 tM (fun h=>by rw [List.contains_iff_mem.2 h] at hal;cases hal) (fun e=>by rw [e,Nat.beq_refl] at hie;cases hie) (nK hij) hi hNo fun t0 a s w h0 hF hG he hD hD'=>by
  have hv:=cB (gW h0 hF hD' hp)
  have h4:m * sz≤16777216:=Nat.le_of_ble_eq_true hm
  have h5:m * sz≠0:=fun e=>by rw [e] at hm0;cases hm0
  have h6:¬ (m * sz > 2 ^ 24):=by omega
  have h7:xs.map (fun p=>(p.1,a.eval p.2))=(xs.map (·.1)).zip us:=by
   rw [← hv]
   clear hi hw hp hv hf
   induction xs with
   | nil=>rfl
   | cons x xs ih=>simp only [List.map_cons,List.zip_cons_cons,← ih]
  have hB:Below w.heap.size w (w.alloc (.cells cs.toArray e)):=(Below.refl _ _).alloc (Nat.le_refl _) _
  refine gY hi (hw.yes hD') (v:=.slice (some ⟨w.heap.size,0,none⟩) m m) (w':=w.alloc (.cells cs.toArray e)) ?_ ⟨_,rfl,?_,hB⟩
  ·unfold execOp
   simp only []
   rw [show (Array.map (fun p=>(p.1,a.eval p.2)) xs.toArray)=(xs.map (fun p=>(p.1,a.eval p.2))).toArray by simp,h7]
   simp only [Instr.buildSlice,Sem.run_bind,run_underlying hU,Result.andThen_ok,hs,if_neg h6,if_neg h5,hz,Sem.run_pure,hf,newRow,run_newObj_alloc]
  ·rw [hI]
   intro w2 h2
   have hnew:=heap_alloc_new w (.cells cs.toArray e)
   refine ⟨w.heap.size,rfl,hG.2.1,(h2.2.2 _ hG.2.1 (cQ hnew) (fun hx=>?_)).trans hnew⟩
   rcases hx with ⟨q,hq,e1⟩ | ⟨g,hg,hgb⟩
   ·have:=cQ (hG.1.own q hq).2;omega
   ·have:=(hG.1.glt hg hgb).2;omega
theorem Fx {T:TypeId} {z:Value} (hal:al.contains i=true) (hie:Nat.beq i ef=false) (hij:Nat.beq i jy=false) (hi:ops[i]?=some ⟨some d,.alloc T,ty,pos,aft_,none⟩) (hT:ta i=T) (hz:∀ w,(zeroValue T).run P w = .ok z w) (hc:∀ ev,(oD ops ef i=true→ev=none)→z.cells=(ca i ev).toArray):SG P n ops Q l w0 K lo al ef jy ca ta Os Gs L i:=fun t0 h0 s LB a w hF hG hV hs hcl hr hD=>by
 have hal':i∈al:=List.contains_iff_mem.1 hal
 have hie':i≠ef:=fun e=>by rw [e,Nat.beq_refl] at hie;cases hie
 have hcz:=hc s.ev (fun he=>Db hV hs hcl hr.1 he)
 have hB:Below w.heap.size w (w.alloc (.cells (ca i s.ev).toArray T)):=(Below.refl _ _).alloc (Nat.le_refl _) _
 have hnot:¬ ∃ B,(i,B)∈s.bs:=fun h=>by have:=(hV.1 i hal').2 h;rw [hr.1] at this;cases this
 refine gY hi rfl (v:=.pointer (some ⟨w.heap.size,0,none⟩)) (w':=w.alloc (.cells (ca i s.ev).toArray T)) (by unfold execOp;simp only [];simp [Instr.alloc,newVar,newRow,hz,hcz]) ?_
 have hX:∀ b,XB (OE ca ta Os ⟨s.ev,(i,w.heap.size)::s.bs⟩) (Gs s.ev) b→XB (OE ca ta Os s) (Gs s.ev) b∨w.heap.size≤b:=by
  rintro b (⟨q,hq,rfl⟩ | h)
  ·unfold OE at hq
   rw [List.map_cons,List.cons_append] at hq
   rcases List.mem_cons.1 hq with rfl | hq
   ·exact .inr (Nat.le_refl _)
   ·exact .inl (.inl ⟨q,hq,rfl⟩)
  ·exact .inl (.inr h)
 refine ⟨⟨s.ev,(i,w.heap.size)::s.bs⟩,_,by rw [hi];rfl,⟨fun a ha=>?_,fun q hq=>?_,List.Pairwise.cons (fun q hq e=>hnot ⟨q.2,by rw [show i=q.1 from e];exact hq⟩) hV.2.2.1,by rw [getD_set_ne false hie'];exact hV.2.2.2⟩,⟨?_,Nat.le_trans hG.2.1 hB.size,fun q hq=>?_⟩,⟨kJ hB,hX,fun q hq=>List.mem_cons_of_mem _ hq,.inl rfl⟩,fun _ _=>⟨fun _=>⟨w.heap.size,List.mem_cons_self,rfl⟩,fun h=>absurd h hie',fun h=>absurd hij (by rw [h,Nat.beq_refl];decide),fun h=>absurd hal' h⟩⟩
 ·by_cases hai:a=i
  ·subst hai
   rw [Array.getD_eq_getD_getElem?,Array.getElem?_setIfInBounds_self_of_lt (by rw [hs];exact (Array.getElem?_eq_some_iff.1 hi).1)]
   exact ⟨fun _=>⟨_,List.mem_cons_self⟩,fun _=>rfl⟩
  ·rw [getD_set_ne false (Ne.symm hai),hV.1 a ha]
   constructor
   ·rintro ⟨B,hB⟩;exact ⟨B,List.mem_cons_of_mem _ hB⟩
   ·rintro ⟨B,hB⟩
    rcases List.mem_cons.1 hB with h | h
    ·exact absurd (congrArg Prod.fst h) hai
    ·exact ⟨B,h⟩
 ·rcases List.mem_cons.1 hq with rfl | hq
  ·exact hal'
  ·exact hV.2.1 q hq
 ·have h1:=hG.1.alloc (ca i s.ev) (ta i)
  rw [hT] at h1
  unfold OE
  rw [List.map_cons,List.cons_append,hT]
  exact h1
 ·rcases List.mem_cons.1 hq with rfl | hq
  ·exact hG.2.1
  ·exact hG.2.2 q hq
theorem Qp {o:Oper} (hal:al.contains ef=false) (hij:Nat.beq ef jy=false) (hi:ops[ef]?=some o)
  (h:∀ (t0 a:Act) bs w,Has n l t0→(∀ t,freeT ops t=true→a.eval (.tmp t)=t0.tmps.getD t undef)→GG w0 K lo ca ta Os Gs ⟨none,bs⟩ w→bs.Pairwise (fun p q=>p.1≠q.1)→(∀ j d,bI ops ef j d=true→IG al ef jy lo ca ta Os Gs L ⟨none,bs⟩ j (a.eval (.tmp d)) w) →
   wpOp P ops Q ef (fun a' w'=>∃ v y,a'=a.put o.dst v∧(∀ d,o.dst=some d→v=y)∧St w0 (OE ca ta Os ⟨some y,bs⟩) (Gs (some y)) K w'∧eQ 0 (XB (OE ca ta Os ⟨none,bs⟩) (Gs none)) w w'∧(∀ b,XB (OE ca ta Os ⟨some y,bs⟩) (Gs (some y)) b→XB (OE ca ta Os ⟨none,bs⟩) (Gs none) b∨w.heap.size≤b)∧(∀ d,(ops[jy]?).bind (·.dst)=some d→a.eval (.tmp d)=y)) a w):SG P n ops Q l w0 K lo al ef jy ca ta Os Gs L ef:=fun t0 h0 s LB a w hF hG hV hs hc hr hD=>by
 have hal':ef∉al:=fun h=>by rw [List.contains_iff_mem.2 h] at hal;cases hal
 obtain ⟨ev,bs⟩:=s
 have hev:ev=none:=by
  cases ev with
  | none=>rfl
  | some v=>have:=hV.2.2.2.2 rfl;rw [hr.1] at this;cases this
 subst hev
 refine wpOp_mono ?_ (h t0 a bs w h0 hF hG hV.2.2.1 hD)
 rintro a' w' ⟨v,y,rfl,hvy,hSt,hsame,hX,hy⟩
 refine ⟨⟨some y,bs⟩,v,by rw [hi];rfl,⟨fun a ha=>by rw [getD_set_ne false (fun e=>hal' (by rw [e];exact ha))];exact hV.1 a ha,hV.2.1,hV.2.2.1,?_⟩,⟨hSt,Nat.le_trans hG.2.1 hsame.2.1,hG.2.2⟩,⟨hsame,hX,fun q hq=>hq,.inr ⟨rfl,y,rfl,hy⟩⟩,fun d hd=>⟨fun h=>absurd h hal',fun _=>?_,fun h=>absurd hij (by rw [h,Nat.beq_refl];decide),fun _ h=>absurd rfl h⟩⟩
 ·rw [Array.getD_eq_getD_getElem?,Array.getElem?_setIfInBounds_self_of_lt (by rw [hs];exact (Array.getElem?_eq_some_iff.1 hi).1)]
  exact ⟨fun _=>rfl,fun _=>rfl⟩
 ·rw [hi] at hd
  rw [hvy d hd]
theorem St.perm {O O':Own} {G:cY} {w:World} (h:St w0 O G K w) (hp:O.Perm O'):St w0 O' G K w where
 below:=h.below
 own:=fun p hp'=>h.own p (hp.mem_iff.2 hp')
 dist:=h.dist.perm hp (fun h=>Ne.symm h)
 kept:=fun q hq=>⟨(h.kept q hq).1,fun p hp'=>(h.kept q hq).2 p (hp.mem_iff.2 hp')⟩
 rows:=fun g hg=>⟨(h.rows g hg).1,fun b hb=>⟨fun p hp'=>((h.rows g hg).2 b hb).1 p (hp.mem_iff.2 hp'),((h.rows g hg).2 b hb).2⟩⟩
 gdist:=h.gdist
def oL (ds:List Nat):Fr→Fr
 | []=>[]
 | p::l=>bif ds.contains p.1 then oL ds l else p::oL ds l
theorem lY {ds:List Nat} {t:Nat} {v:Value}:∀ {l:Fr},look (oL ds l) t=some v→t∉ds→look l t=some v
 | [],h,_=>by cases h
 | p::l,h,ht=>by
  unfold oL at h
  unfold look
  cases hc:ds.contains p.1 with
  | true =>
   rw [hc,cond_true] at h
   cases hb:Nat.beq p.1 t with
   | true =>
    rw [Nat.eq_of_beq_eq_true hb] at hc
    exact absurd (List.contains_iff_mem.1 hc) ht
   | false=>rw [cond_false];exact lY h ht
  | false =>
   rw [hc,cond_false] at h
   unfold look at h
   cases hb:Nat.beq p.1 t with
   | true=>rw [hb,cond_true] at h;rw [cond_true];exact h
   | false=>rw [hb,cond_false] at h;rw [cond_false];exact lY h ht
theorem gC {ds:List Nat} {t:Nat} {v:Value}:∀ {l:Fr},look (oL ds l) t=some v→t∉ds
 | [],h=>by cases h
 | p::l,h=>by
  unfold oL at h
  cases hc:ds.contains p.1 with
  | true=>rw [hc,cond_true] at h;exact gC h
  | false =>
   rw [hc,cond_false] at h
   unfold look at h
   cases hb:Nat.beq p.1 t with
   | true =>
    intro hm
    rw [← Nat.eq_of_beq_eq_true hb] at hm
    rw [List.contains_iff_mem.2 hm] at hc;cases hc
   | false=>rw [hb,cond_false] at h;exact gC h
def In (al:List Nat) (ef jy lo:Nat) (X:Nat→Prop) (Bf:Nat→Nat) (y:Value):Nat→List Asr→List Asr
 | _,[]=>[]
 | j,q::L=>(bif al.contains j then isV (.pointer (some ⟨Bf j,0,none⟩)) else bif Nat.beq j ef then isV y else bif Nat.beq j jy then (fun v w=>v=y∧AwS lo X q v w) else AwS lo X q)::In al ef jy lo X Bf y (j+1) L
theorem pL {X:Nat→Prop} {Bf:Nat→Nat} {y:Value}:∀ (L:List Asr) (j i:Nat),i < L.length→atI (In al ef jy lo X Bf y j L) i=(bif al.contains (i+j) then isV (.pointer (some ⟨Bf (i+j),0,none⟩)) else bif Nat.beq (i+j) ef then isV y else bif Nat.beq (i+j) jy then (fun v w=>v=y∧AwS lo X (atI L i) v w) else AwS lo X (atI L i))
 | [],j,i,h=>by simp at h
 | q::L,j,0,h=>by rw [Nat.zero_add];rfl
 | q::L,j,i+1,h=>by
  show atI (In al ef jy lo X Bf y (j+1) L) i=_
  rw [pL L (j+1) i (by simpa using h),show i+1+j=i+(j+1) by omega]
  rfl
theorem Io:∀ (Bs:List Nat) (lo:Nat) (w:World),∃ Ks:List (Nat×World),(∀ q∈Ks,lo≤q.1∧dD q.1 q.2 w∧∀ B∈Bs,B < q.1∨q.2.heap.size≤B)∧(∃ q∈Ks,q.2=w)∧∀ b,lo≤b→b < w.heap.size→b∉Bs→∃ q∈Ks,q.1≤b∧b < q.2.heap.size
 | [],lo,w=>⟨[(lo,w)],fun q hq=>by
   simp only [List.mem_cons,List.not_mem_nil,or_false] at hq
   subst hq
   exact ⟨Nat.le_refl _,dD.refl _ _,fun B hB=>by cases hB⟩,⟨(lo,w),List.mem_cons_self,rfl⟩,fun b h1 h2 _=>⟨(lo,w),List.mem_cons_self,h1,h2⟩⟩
 | B::Bs,lo,w=>by
  by_cases hB:B < w.heap.size
  ·obtain ⟨A,hA,hA1⟩:=Mo w (B:=B) (lo:=lo) (Nat.le_of_lt hB)
   obtain ⟨K1,k1,_,k2⟩:=Io Bs lo A
   obtain ⟨K2,k3,⟨q0,k5,k6⟩,k4⟩:=Io Bs (max lo (B+1)) w
   refine ⟨K1++K2,fun q hq=>?_,⟨q0,List.mem_append_right _ k5,k6⟩,fun b h1 h2 h3=>?_⟩
   ·rcases List.mem_append.1 hq with hq | hq
    ·obtain ⟨e1,e2,e3⟩:=k1 q hq
     refine ⟨e1,e2.trans (hA1.mono e1),fun B' hB'=>?_⟩
     rcases List.mem_cons.1 hB' with rfl | hB'
     ·right;rw [← hA];exact e2.1
     ·exact e3 B' hB'
    ·obtain ⟨e1,e2,e3⟩:=k3 q hq
     refine ⟨by omega,e2,fun B' hB'=>?_⟩
     rcases List.mem_cons.1 hB' with rfl | hB'
     ·left;omega
     ·exact e3 B' hB'
   ·have h4:b≠B:=fun e=>h3 (by rw [e];exact List.mem_cons_self)
    have h5:b∉Bs:=fun e=>h3 (List.mem_cons_of_mem _ e)
    rcases Nat.lt_or_ge b B with h6 | h6
    ·obtain ⟨q,hq,h7⟩:=k2 b h1 (by omega) h5
     exact ⟨q,List.mem_append_left _ hq,h7⟩
    ·obtain ⟨q,hq,h7⟩:=k4 b (by omega) h2 h5
     exact ⟨q,List.mem_append_right _ hq,h7⟩
  ·obtain ⟨K1,k1,k5,k2⟩:=Io Bs lo w
   refine ⟨K1,fun q hq=>?_,k5,fun b h1 h2 h3=>k2 b h1 h2 (fun e=>h3 (List.mem_cons_of_mem _ e))⟩
   obtain ⟨e1,e2,e3⟩:=k1 q hq
   refine ⟨e1,e2,fun B' hB'=>?_⟩
   rcases List.mem_cons.1 hB' with rfl | hB'
   ·right;have:=e2.1;omega
   ·exact e3 B' hB'
theorem St.more {O:Own} {G:cY} {w:World} (h:St w0 O G K w) (Ks:List (Nat×World)) (hk:∀ q∈Ks,dD q.1 q.2 w∧(∀ p∈O,p.1 < q.1∨q.2.heap.size≤p.1)∧∀ g∈G,∀ b,g.v.ownBlock=some b→b < q.1∨q.2.heap.size≤b):St w0 O G (Ks++K) w where
 below:=h.below
 own:=h.own
 dist:=h.dist
 kept:=fun q hq=>by
  rcases List.mem_append.1 hq with hq | hq
  ·exact ⟨(hk q hq).1,(hk q hq).2.1⟩
  ·exact h.kept q hq
 rows:=fun g hg=>⟨(h.rows g hg).1,fun b hb=>⟨((h.rows g hg).2 b hb).1,fun q hq=>by
  rcases List.mem_append.1 hq with hq | hq
  ·exact (hk q hq).2.2 g hg b hb
  ·exact ((h.rows g hg).2 b hb).2 q hq⟩⟩
 gdist:=h.gdist
theorem wG:∀ {L:List Asr} {j:Nat},L.length≤j→atI L j=anyA
 | [],_,_=>rfl
 | _::L,0,h=>by simp at h
 | _::L,j+1,h=>wG (L:=L) (by simpa using h)
def BLS (P:Program) (n:Nat) (ops:Array Oper) (Q:Exit→Act→World→Prop) (l:Fr) (w0:World) (K:List (Nat×World)) (lo:Nat) (al:List Nat) (ef jy:Nat) (ca:Nat→Option Value→List Value) (ta:Nat→TypeId) (Os:Option Value→Own) (Gs:Option Value→cY) (Goal:List Asr→Prop):Nat→List Asr→Nat→Prop
 | 0,Lr,_=>Goal Lr
 | m+1,Lr,k=>∃ q,((k∈al∨k=ef)→q=anyA)∧(pK al ef (q::Lr).reverse→SG P n ops Q l w0 K lo al ef jy ca ta Os Gs (q::Lr).reverse k)∧BLS P n ops Q l w0 K lo al ef jy ca ta Os Gs Goal m (q::Lr) (k+1)
variable {Goal:List Asr→Prop}
theorem wH {Lr:List Asr} {k:Nat} (h:Goal Lr):BLS P n ops Q l w0 K lo al ef jy ca ta Os Gs Goal 0 Lr k:=h
theorem dB {m k:Nat} {Lr:List Asr} (k':Nat) (hk:k+1=k') (hne:(al.contains k || Nat.beq k ef)=false) (q:Asr) (h:pK al ef (q::Lr).reverse→SG P n ops Q l w0 K lo al ef jy ca ta Os Gs (q::Lr).reverse k) (hr:BLS P n ops Q l w0 K lo al ef jy ca ta Os Gs Goal m (q::Lr) k'):BLS P n ops Q l w0 K lo al ef jy ca ta Os Gs Goal (m+1) Lr k:=by
 subst hk
 refine ⟨q,fun hc=>?_,h,hr⟩
 rw [Bool.or_eq_false_iff] at hne
 rcases hc with hc | hc
 ·rw [List.contains_iff_mem.2 hc] at hne;cases hne.1
 ·rw [hc,Nat.beq_refl] at hne;cases hne.2
theorem wI {m k:Nat} {Lr:List Asr} (k':Nat) (hk:k+1=k') (h:SG P n ops Q l w0 K lo al ef jy ca ta Os Gs (anyA::Lr).reverse k) (hr:BLS P n ops Q l w0 K lo al ef jy ca ta Os Gs Goal m (anyA::Lr) k'):BLS P n ops Q l w0 K lo al ef jy ca ta Os Gs Goal (m+1) Lr k:=by
 subst hk;exact ⟨anyA,fun _=>rfl,fun _=>h,hr⟩
theorem Dd (ht:eP ops n=true):∀ (m k:Nat) (Lr:List Asr),Lr.length=k→pK al ef Lr.reverse→(∀ i,i < k→SG P n ops Q l w0 K lo al ef jy ca ta Os Gs Lr.reverse i)→BLS P n ops Q l w0 K lo al ef jy ca ta Os Gs Goal m Lr k →
  ∃ Lr',Lr'.length=k+m∧(∀ i,i < k+m→SG P n ops Q l w0 K lo al ef jy ca ta Os Gs Lr'.reverse i)∧Goal Lr'
 | 0,k,Lr,hl,hs,hg,h=>⟨Lr,hl,hg,h⟩
 | m+1,k,Lr,hl,hs,hg,⟨q,hq,hr,hn⟩=>by
  have hap:∀ j,j < k→atI Lr.reverse j=atI (q::Lr).reverse j:=fun j hj=>by rw [List.reverse_cons,jV (by simp;omega)]
  have hs':pK al ef (q::Lr).reverse:=fun j hj=>by
   rcases Nat.lt_trichotomy j k with h1 | h1 | h1
   ·rw [← hap j h1];exact hs j hj
   ·subst h1;rw [aH hl];exact hq hj
   ·exact wG (by simp;omega)
  obtain ⟨L',h1,h3,h4⟩:=Dd ht m (k+1) (q::Lr) (by simp [hl]) hs' (fun i hi=>by
   by_cases hik:i=k
   ·subst hik;exact hr hs'
   ·exact SG.ext ht (fun j hj=>hap j (by omega)) (hg i (by omega))) hn
  exact ⟨L',by omega,fun i hi=>h3 i (by omega),h4⟩
theorem nL {a:Act} {Kk:Fr→World→Prop} {G:Prop}:∀ (os:List Oper) (L:List Asr) (l:Fr),(∀ i d,i < os.length→(os[i]?).bind (·.dst)=some d→atI L i (a.tmps.getD d undef) W)→(∀ i,i < os.length→(os[i]?).bind (·.dst)=none→∃ v,atI L i v W)→a.tmps.size=n→a.defers=[] →
  (∀ t v,look l t=some v→(∀ o∈os,o.dst≠some t)→a.tmps.getD t undef=v)→(hK:∀ l',Kk l' W→Has n l' a→G)→kZ os L l Kk W→G
 | [],L,l,hI,_,hs,hd,hl,hK,h=>hK l h ⟨hs,hd,fun t v hv=>hl t v hv (fun o ho=>by cases ho)⟩
 | o::os,L,l,hI,hN,hs,hd,hl,hK,h=>by
  cases hod:o.dst with
  | none =>
   obtain ⟨v,hv⟩:=hN 0 (by simp) (by simp [hod])
   have h1:=h v hv
   rw [hod] at h1
   refine nL os L.tail _ (fun i e hi he=>by rw [oZ];exact hI (i+1) e (by simpa using hi) (by simpa using he)) (fun i hi he=>by rw [oZ];exact hN (i+1) (by simpa using hi) (by simpa using he)) hs hd ?_ hK h1
   intro t v hv hno
   refine hl t v hv (fun o' ho'=>?_)
   rcases List.mem_cons.1 ho' with rfl | ho'
   ·rw [hod];simp
   ·exact hno o' ho'
  | some d =>
   have h0:=hI 0 d (by simp) (by simp [hod])
   have h1:=h _ h0
   refine nL os L.tail _ (fun i e hi he=>by rw [oZ];exact hI (i+1) e (by simpa using hi) (by simpa using he)) (fun i hi he=>by rw [oZ];exact hN (i+1) (by simpa using hi) (by simpa using he)) hs hd ?_ hK h1
   intro t v hv hno
   rw [hod] at hv
   simp only [List.cons_append,List.nil_append] at hv
   unfold look at hv
   cases hb:Nat.beq d t with
   | true =>
    simp only [hb,cond_true,Option.some.injEq] at hv
    rw [← Nat.eq_of_beq_eq_true hb];exact hv
   | false =>
    simp only [hb,cond_false] at hv
    refine hl t v hv (fun o' ho'=>?_)
    rcases List.mem_cons.1 ho' with rfl | ho'
    ·rw [hod];intro e;rw [Option.some.inj e,Nat.beq_refl] at hb;cases hb
    ·exact hno o' ho'
def bAt (bs:List (Nat×Nat)) (a:Nat):Nat:=((bs.find? (fun q=>Nat.beq q.1 a)).map (·.2)).getD 0
theorem De:∀ {bs:List (Nat×Nat)} {a:Nat},(∃ B,(a,B)∈bs)→(a,bAt bs a)∈bs
 | [],_,⟨B,h⟩=>by cases h
 | q::bs,a,⟨B,h⟩=>by
  unfold bAt
  rw [List.find?_cons]
  cases hb:Nat.beq q.1 a with
  | true =>
   have:=Nat.eq_of_beq_eq_true hb
   subst this
   exact List.mem_cons_self
  | false =>
   rcases List.mem_cons.1 h with h | h
   ·rw [← h,Nat.beq_refl] at hb;cases hb
   ·exact List.mem_cons_of_mem _ (De ⟨B,h⟩)
theorem tN {bs:List (Nat×Nat)} (hp:bs.Pairwise (fun p q=>p.1≠q.1)) {p q:Nat×Nat} (h1:p∈bs) (h2:q∈bs) (he:p.1=q.1):p=q:=by
 induction hp with
 | nil=>cases h1
 | cons ha hb ih =>
  rcases List.mem_cons.1 h1 with h3 | h3<;>rcases List.mem_cons.1 h2 with h4 | h4
  ·rw [h3,h4]
  ·subst h3;exact absurd he (ha _ h4)
  ·subst h4;exact absurd he.symm (ha _ h3)
  ·exact ih h3 h4
theorem regS {id k:Nat} {ds:List Nat} (hm:P.follows .mixedOrders=true) (hlo:lo=W.heap.size) (hS:St w0 (Os none) (Gs none) K W) (hk:Nat.blt k os.length=true) (htl:vG os.toArray k=true) (ht:eP os.toArray n=true) (hal:al.all (fun a=>Nat.blt a k)=true) (hnd:al.Nodup) (hea:al.contains ef=false)
  (evE:Value→Option Value) (hev:(Nat.blt ef k=true∧evE=some)∨(Nat.ble os.length ef=true∧Nat.ble os.length jy=true∧evE=fun _=>none)) (hdst:(List.range k).all (fun j=>Nat.beq j ef || ((os.toArray[j]?).bind (·.dst)).isSome)=true) (hds:(os.drop k).all (fun o=>match o.dst with | some d=>ds.contains d | none=>true)=true)
  (h:BLS P n os.toArray Q l w0 K lo al ef jy ca ta Os Gs (fun Lr=>∀ (Bf:Nat→Nat) (y:Value) (W':World) (Ks:List (Nat×World)),W.heap.size≤W'.heap.size→(∀ q∈Ks,lo≤q.1)→St w0 (al.map (fun a=>(Bf a,ca a (evE y),ta a))++Os (evE y)) (Gs (evE y)) (Ks++K) W' →
   (∀ {O2 G2 K2 W2},St w0 O2 G2 K2 W2→(∀ q∈Ks,q∈K2)→eQ lo (XB (al.map (fun a=>(Bf a,ca a (evE y),ta a))++Os (evE y)) (Gs (evE y))) W' W2) →
   kZ (os.take k) (In al ef jy lo (XB (al.map (fun a=>(Bf a,ca a (evE y),ta a))++Os (evE y)) (Gs (evE y))) Bf y 0 Lr.reverse) (oL ds l) (fun l' W'=>cX P n os.toArray Q (os.drop k) l' W') W') k [] 0):fG P n (.region id os.toArray true) Q l W:=by
 obtain ⟨Lr,h1,h2,hfin⟩:=Dd ht k 0 [] rfl (fun j _=>by rfl) (fun i hi=>by omega) h
 rw [Nat.zero_add] at h1 h2
 have hk':k < os.length:=Nat.lt_of_lt_of_le (Nat.lt_succ_self _) (Nat.le_of_ble_eq_true hk)
 have hal':∀ a∈al,a < k:=fun a ha=>Nat.lt_of_lt_of_le (Nat.lt_succ_self _) (Nat.le_of_ble_eq_true (List.all_eq_true.1 hal a ha))
 have hea':ef∉al:=fun h=>by rw [List.contains_iff_mem.2 h] at hea;cases hea
 intro a ha
 refine wp_region_any hm (C9 (t0:=a.tmps) (d0:=a.defers) (V:=VG al ef) (I:=IG al ef jy lo ca ta Os Gs Lr.reverse) (G:=GG w0 K lo ca ta Os Gs) (k:=k) (by simpa using hk') htl (by rw [ha.size];exact ht) (fun i hi=>(h2 i hi).step a ha) ?_ _ ⟨none,[]⟩ _ _ _ (by simp) (jT _) (fun j hj=>by rw [Array.getD_eq_getD_getElem?,Array.getElem?_replicate] at hj;split at hj<;>simp at hj) (fun i _=>by rw [Array.getD_eq_getD_getElem?,Array.getElem?_replicate];split<;>rfl) ⟨rfl,rfl,fun _ _=>rfl,⟨by unfold OE;exact hS.drew,by rw [hlo];exact Nat.le_refl _,(fun q hq=>by cases hq)⟩,⟨fun a _=>?_,(fun q hq=>by cases hq),List.Pairwise.nil,?_⟩,fun i d _ hj=>?_⟩)
 ·intro s LB a' W' hR hdone hnot
  obtain ⟨hG,hG2,hG3⟩:=hR.glob
  obtain ⟨v1,v2,v3,v4⟩:=hR.cons
  obtain ⟨ev,bs⟩:=s
  have hall:∀ x∈al,(x,bAt bs x)∈bs:=fun x hx=>De ((v1 x hx).1 (hdone x (hal' x hx)))
  obtain ⟨y,hy⟩:∃ y,ev=evE y:=by
   rcases hev with ⟨e1,e2⟩ | ⟨e1,e3,e2⟩
   ·have h3:ev.isSome=true:=v4.1 (hdone ef (Nat.lt_of_lt_of_le (Nat.lt_succ_self _) (Nat.le_of_ble_eq_true e1)))
    obtain ⟨y,hy⟩:=Option.isSome_iff_exists.1 h3
    exact ⟨y,by rw [hy,e2]⟩
   ·refine ⟨undef,?_⟩
    rw [e2]
    have h3:=hnot ef (by have:=Nat.le_of_ble_eq_true e1;omega)
    cases ev with
    | none=>rfl
    | some v=>have:=v4.2 rfl;rw [h3] at this;cases this
  subst hy
  have hperm:bs.Perm (al.map (fun x=>(x,bAt bs x))):=by
   refine (List.perm_ext_iff_of_nodup (v3.imp (fun h e=>h (by rw [e]))) ?_).2 fun q=>?_
   ·refine List.Pairwise.map _ (fun x y (hxy:x≠y)=>?_) hnd
    intro e;exact hxy (congrArg Prod.fst e)
   ·constructor
    ·intro hq
     have h3:=hall q.1 (v2 q hq)
     have h4:=tN v3 hq h3 rfl
     rw [h4]
     exact List.mem_map.2 ⟨q.1,v2 q hq,rfl⟩
    ·intro hq
     obtain ⟨x,hx,rfl⟩:=List.mem_map.1 hq
     exact hall x hx
  have hO:(OE ca ta Os ⟨evE y,bs⟩).Perm (al.map (fun a=>(bAt bs a,ca a (evE y),ta a))++Os (evE y)):=by
   unfold OE
   refine List.Perm.append_right _ ?_
   have:=hperm.map (fun q:Nat×Nat=>(q.2,ca q.1 (evE y),ta q.1))
   rw [List.map_map] at this
   exact this
  have hG':=hG.perm hO
  have hX:∀ b,XB (OE ca ta Os ⟨evE y,bs⟩) (Gs (evE y)) b↔XB (al.map (fun a=>(bAt bs a,ca a (evE y),ta a))++Os (evE y)) (Gs (evE y)) b:=fun b=>by
   unfold XB
   constructor
   ·rintro (⟨p,hp,e⟩ | h);exact .inl ⟨p,hO.mem_iff.1 hp,e⟩;exact .inr h
   ·rintro (⟨p,hp,e⟩ | h);exact .inl ⟨p,hO.mem_iff.2 hp,e⟩;exact .inr h
  obtain ⟨Ks,c1,⟨qw,c2,c3⟩,c4⟩:=Io (((al.map (fun a=>(bAt bs a,ca a (evE y),ta a))++Os (evE y)).map (·.1))++(Gs (evE y)).filterMap (fun g=>g.v.ownBlock)) lo W'
  have hG4:=hG'.more Ks (fun q hq=>⟨(c1 q hq).2.1,fun p hp=>(c1 q hq).2.2 p.1 (List.mem_append_left _ (List.mem_map.2 ⟨p,hp,rfl⟩)),fun g hg b hb=>(c1 q hq).2.2 b (List.mem_append_right _ (List.mem_filterMap.2 ⟨g,hg,hb⟩))⟩)
  have hcov:∀ {O2 G2 K2 W2},St w0 O2 G2 K2 W2→(∀ q∈Ks,q∈K2)→eQ lo (XB (al.map (fun a=>(bAt bs a,ca a (evE y),ta a))++Os (evE y)) (Gs (evE y))) W' W2:=fun {O2 G2 K2 W2} h2 hq=>by
   refine ⟨⟨h2.below.os.trans hG.below.os.symm,h2.below.tape.trans hG.below.tape.symm,h2.below.output.trans hG.below.output.symm⟩,?_,fun b b1 b2 b3=>?_⟩
   ·have:=(h2.kept qw (hq qw c2)).1.1;rw [c3] at this;exact this
   ·obtain ⟨q,q1,q2,q3⟩:=c4 b b1 b2 (fun hb=>b3 (by
     rcases List.mem_append.1 hb with hb | hb
     ·obtain ⟨p,hp,rfl⟩:=List.mem_map.1 hb
      exact .inl ⟨p,hp,rfl⟩
     ·obtain ⟨g,hg,e⟩:=List.mem_filterMap.1 hb
      exact .inr ⟨g,hg,e⟩))
    exact ((h2.kept q (hq q q1)).1.2 b q2 q3).trans ((c1 q q1).2.1.2 b q2 q3).symm
  have htk:(os.take k).length=k:=by simp;omega
  refine nL (os.take k) (In al ef jy lo (XB (al.map (fun a=>(bAt bs a,ca a (evE y),ta a))++Os (evE y)) (Gs (evE y))) (bAt bs) y 0 Lr.reverse) (oL ds l) (fun i d hi hd'=>?_) (fun i hi hd'=>?_) (hR.size.trans ha.size) (hR.defers.trans ha.defers) ?_ (fun l' h ha'=>?_) (hfin (bAt bs) y W' Ks (by rw [← hlo];exact hG2) (fun q hq=>(c1 q hq).1) hG4 hcov)
  ·have hik:i < k:=by omega
   have hd2:(os.toArray[i]?).bind (·.dst)=some d:=by rw [List.getElem?_take,if_pos hik] at hd';simpa using hd'
   obtain ⟨i1,i2,i3,i4⟩:=hR.done i d hd2 (hdone i hik)
   rw [pL Lr.reverse 0 i (by simp;omega),Nat.add_zero]
   cases hc1:al.contains i with
   | true =>
    rw [cond_true]
    obtain ⟨B,hB,e⟩:=i1 (List.contains_iff_mem.1 hc1)
    have:=tN v3 hB (hall i (List.contains_iff_mem.1 hc1)) rfl
    show _=_
    rw [e,show B=bAt bs i from congrArg Prod.snd this]
   | false =>
    rw [cond_false]
    have hni:i∉al:=fun hm'=>by rw [List.contains_iff_mem.2 hm'] at hc1;cases hc1
    cases hc2:Nat.beq i ef with
    | true =>
     rw [cond_true]
     have h5:=i2 (Nat.eq_of_beq_eq_true hc2)
     rcases hev with ⟨e1,e2⟩ | ⟨e1,e3,e2⟩
     ·rw [e2] at h5
      exact (Option.some.inj h5).symm
     ·rw [e2] at h5;cases h5
    | false =>
     rw [cond_false]
     have hne:i≠ef:=fun e=>by rw [e,Nat.beq_refl] at hc2;cases hc2
     have h6:AwS lo (XB (al.map (fun a=>(bAt bs a,ca a (evE y),ta a))++Os (evE y)) (Gs (evE y))) (atI Lr.reverse i) (a'.tmps.getD d undef) W':=fun w2 hw2=>i4 hni hne w2 ⟨hw2.1,hw2.2.1,fun b b1 b2 b3=>hw2.2.2 b b1 b2 (fun hb=>b3 ((hX b).2 hb))⟩
     cases hc3:Nat.beq i jy with
     | true =>
      rw [cond_true]
      refine ⟨?_,h6⟩
      rcases hev with ⟨e1,e2⟩ | ⟨e1,e3,e2⟩
      ·exact i3 (Nat.eq_of_beq_eq_true hc3) y (by rw [e2])
      ·have:=Nat.le_of_ble_eq_true e3
       have:=Nat.eq_of_beq_eq_true hc3
       omega
     | false=>rw [cond_false];exact h6
  ·have hik:i < k:=by omega
   have h3:=List.all_eq_true.1 hdst i (List.mem_range.2 hik)
   rw [Bool.or_eq_true] at h3
   have hd2:(os.toArray[i]?).bind (·.dst)=none:=by rw [List.getElem?_take,if_pos hik] at hd';simpa using hd'
   rcases h3 with h3 | h3
   ·rw [pL Lr.reverse 0 i (by simp;omega),Nat.add_zero]
    have hc1:al.contains i=false:=by rw [Nat.eq_of_beq_eq_true h3];exact hea
    rw [hc1,cond_false,h3,cond_true]
    exact ⟨y,rfl⟩
   ·rw [hd2] at h3;cases h3
  ·intro t v hv hno
   have hl:=lY hv (gC hv)
   have hnt:=gC hv
   rw [hR.frame t ?_]
   ·exact ha.at_ t v hl
   ·unfold freeT;rw [Array.all_eq_true'];intro o' ho'
    have ho2:o'∈os:=by simpa using ho'
    rw [← List.take_append_drop k os] at ho2
    rcases List.mem_append.1 ho2 with ho2 | ho2
    ·simpa using hno o' ho2
    ·have h5:=List.all_eq_true.1 hds o' ho2
     cases hx:o'.dst with
     | none=>simp
     | some d =>
      rw [hx] at h5
      simp
      intro e;subst e
      exact hnt (List.contains_iff_mem.1 h5)
  ·have:=h a' ha'
   simpa using this
 ·rw [Array.getD_eq_getD_getElem?,Array.getElem?_replicate]
  constructor
  ·intro h3;split at h3<;>simp at h3
  ·rintro ⟨B,hB⟩;cases hB
 ·rw [Array.getD_eq_getD_getElem?,Array.getElem?_replicate]
  constructor
  ·intro h3;split at h3<;>simp at h3
  ·intro h3;cases h3
 ·rw [Array.getD_eq_getD_getElem?,Array.getElem?_replicate] at hj
  split at hj<;>simp at hj
end
section
variable {P:Program} {n:Nat} {Q:Exit→Act→World→Prop} {l:Fr} {w0 W:World} {ops:Array Oper} {os:List Oper} {K:List (Nat×World)} {L:List Asr} {i:Nat} {O:Own} {G:cY}
variable {al:List Nat} {zc:Nat→List Value} {ta:Nat→TypeId} {lo ef jy:Nat} {d:Nat} {ty:TypeId} {pos:String} {aft_:Array Edge} {v:Value}
def Fy (zc:Nat→List Value) (a:Nat):Option Value→List Value:=fun _=>zc a
def xX (zc:Nat→List Value) (a0 a:Nat):Option Value→List Value
 | none=>zc a
 | some y=>bif Nat.beq a a0 then jC (zc a) 0 y.cells.toList else zc a
theorem caSt_at (zc:Nat→List Value) (a0:Nat) (y:Value):xX zc a0 a0 (some y)=jC (zc a0) 0 y.cells.toList:=by
 show (bif Nat.beq a0 a0 then jC (zc a0) 0 y.cells.toList else zc a0)=_
 rw [Nat.beq_refl,cond_true]
theorem caSt_ne (zc:Nat→List Value) {a0 a:Nat} (y:Value) (h:Nat.beq a a0=false):xX zc a0 a (some y)=zc a:=by
 show (bif Nat.beq a a0 then jC (zc a) 0 y.cells.toList else zc a)=_
 rw [h,cond_false]
def Fz (O:Own):Option Value→Own:=fun _=>O
def uQ (G:cY):Option Value→cY:=fun _=>G
def Df (O:Own) (j jx B:Nat) (cs vs:List Value) (U:TypeId):Option Value→Own
 | none=>O
 | some _=>O.set j (B,jC cs jx vs,U)
theorem rB {B b:Nat} (hb:b≠B):∀ (vs:List Value) (j:Nat) (w:World),(setMany w B j vs).heap[b]?=w.heap[b]?
 | [],_,_=>rfl
 | v::vs,j,w=>by unfold setMany;rw [rB hb vs (j+1)];exact Below.heap_setCell _ _ _ _ hb
theorem oE:∀ (vs:List Value) (B j:Nat) (w:World),((setMany w B j vs).os=w.os∧(setMany w B j vs).tape=w.tape∧(setMany w B j vs).output=w.output)∧(setMany w B j vs).heap.size=w.heap.size
 | [],_,_,_=>⟨⟨rfl,rfl,rfl⟩,rfl⟩
 | v::vs,B,j,w=>by
  unfold setMany
  obtain ⟨⟨h1,h2,h3⟩,h4⟩:=oE vs B (j+1) (w.setCell ⟨B,j,none⟩ v)
  exact ⟨⟨h1,h2,h3⟩,h4.trans (by simp [World.setCell])⟩
theorem mQ {B j:Nat} {vs:List Value} {w:World} {X:Nat→Prop} (hX:X B):eQ 0 X w (setMany w B j vs) :=
 ⟨(oE vs B j w).1,Nat.le_of_eq (oE vs B j w).2.symm,fun b _ _ hb=>rB (fun e=>hb (by rw [e];exact hX)) vs j w⟩
theorem oF {T:TypeId} {B j m:Nat} {vs cs:List Value} {U:TypeId} {w:World} {y:Value} (hsz:∀ w,(sizeOf T).run P w = .ok m w) (hc:y.cells=vs.toArray) (hl:vs.length=m) (h1:vs.all Value.oneCell'=true) (hB:w.heap[B]?=some (.cells cs.toArray U (0,0))) (hj:j+m≤cs.length) :
  (Instr.storeAt T (.pointer (some ⟨B,j,none⟩)) y).run P w = .ok () (setMany w B j vs):=by
 subst hl
 have hst:=kB (P:=P) vs 0 j w cs hB (by omega) (fun u hu=>List.all_eq_true.1 h1 u hu)
 rw [Nat.add_zero] at hst
 simp [Instr.storeAt,Instr.sureAddr,storeVar,hsz,hc,hst]
theorem xY {o:Oper} {a:Act} {w w':World} {T:TypeId} {x y:Operand} {K':Act→World→Prop} (hi:ops[i]?=some o) (ho:o.op = .store T x y) (hod:o.dst=none) (hog:o.guard=none) (hr:(Instr.storeAt T (a.eval x) (a.eval y)).run P w = .ok () w') (hK:K' a w'):wpOp P ops Q i K' a w:=by
 unfold wpOp
 simp only [hi,fR hog,if_true]
 refine .inl ?_
 obtain ⟨dst,op,ty,pos,aft,gd⟩:=o
 simp only at ho hod
 subst ho;subst hod
 unfold Oper.wp execOp
 simp only [Sem.run_bind,hr,Result.andThen_ok,Sem.run_pure,Oper.upon_skip]
 exact hK
theorem eff_stA {T:TypeId} {tx tyy m:Nat} {py:Asr} (a0:Nat) (hal:al.contains ef=false) (hij:Nat.beq ef jy=false) (hi:ops[ef]?=some ⟨none,.store T (.tmp tx) (.tmp tyy),ty,pos,aft_,none⟩) (hjy:(ops[jy]?).bind (·.dst)=some tyy)
  (hwx:bI ops ef a0 tx=true) (ha0:al.contains a0=true) (hwy:bI ops ef jy tyy=true) (hja:al.contains jy=false) (hLy:atI L jy=py) (hsz:∀ w,(sizeOf T).run P w = .ok m w) (hzl:Nat.ble m (zc a0).length=true) (hpy:∀ v w,py v w→∃ vs:List Value,v.cells=vs.toArray∧vs.length=m∧vs.all Value.oneCell'=true):SG P n ops Q l w0 K lo al ef jy (xX zc a0) ta (Fz O) (uQ G) L ef :=
 Qp hal hij hi fun t0 a bs w h0 hF hG hbs hD=>by
  obtain ⟨B,hB,ex⟩:=(hD a0 tx hwx).1 (List.contains_iff_mem.1 ha0)
  have hy:=((hD jy tyy hwy).2.2.2 (fun h=>by rw [List.contains_iff_mem.2 h] at hja;cases hja) (fun e=>by rw [e,Nat.beq_refl] at hij;cases hij)).here
  rw [hLy] at hy
  obtain ⟨vs,hc,hl,h1⟩:=hpy _ _ hy
  obtain ⟨k,hk⟩:=List.getElem?_of_mem hB
  have hkl:=(List.getElem?_eq_some_iff.1 hk).1
  have hOk:(OE (xX zc a0) ta (Fz O) ⟨none,bs⟩)[k]?=some (B,zc a0,ta a0):=by
   unfold OE
   rw [List.getElem?_append_left (by simpa using hkl),List.getElem?_map,hk]
   rfl
  have hXB:XB (OE (xX zc a0) ta (Fz O) ⟨none,bs⟩) (uQ G none) B:=.inl ⟨_,List.mem_of_getElem? hOk,rfl⟩
  have hrun:=oF (P:=P) hsz hc hl h1 (hG.1.at_ k hOk) (j:=0) (by have:=Nat.le_of_ble_eq_true hzl;omega)
  have hO':OE (xX zc a0) ta (Fz O) ⟨some (a.eval (.tmp tyy)),bs⟩=(OE (xX zc a0) ta (Fz O) ⟨none,bs⟩).set k (B,jC (zc a0) 0 vs,ta a0):=by
   unfold OE
   rw [List.set_append_left _ _ (by simpa using hkl)]
   congr 1
   apply List.ext_getElem?
   intro j
   rw [List.getElem?_set,List.getElem?_map,List.getElem?_map]
   by_cases hj:k=j
   ·subst hj
    rw [if_pos rfl,hk,if_pos (by simpa using hkl)]
    show some (B,xX zc a0 a0 (some (a.eval (.tmp tyy))),ta a0)=_
    rw [caSt_at,hc]
   ·rw [if_neg hj]
    cases hq:bs[j]? with
    | none=>rfl
    | some q =>
     have hne:q.1≠a0:=fun e=>by
      have hjl:=(List.getElem?_eq_some_iff.1 hq).1
      have e1:=(List.getElem?_eq_some_iff.1 hq).2
      have e2:=(List.getElem?_eq_some_iff.1 hk).2
      have hp:=List.pairwise_iff_getElem.1 hbs
      rcases Nat.lt_or_ge j k with h | h
      ·have:=hp j k hjl hkl h;rw [e1,e2] at this;exact this e
      ·have:=hp k j hkl hjl (by omega);rw [e1,e2] at this;exact this e.symm
     have hb:Nat.beq q.1 a0=false:=by
      cases hb:Nat.beq q.1 a0 with
      | true=>exact absurd (Nat.eq_of_beq_eq_true hb) hne
      | false=>rfl
     show some (q.2,xX zc a0 q.1 (some (a.eval (.tmp tyy))),ta q.1)=some (q.2,xX zc a0 q.1 none,ta q.1)
     rw [caSt_ne _ _ hb]
     rfl
  refine xY hi rfl rfl rfl (by rw [ex];exact hrun) ⟨undef,a.eval (.tmp tyy),rfl,(fun d hd=>by cases hd),?_,mQ hXB,?_,fun d hd=>?_⟩
  ·rw [hO']
   exact hG.1.setMany k vs 0 hOk
  ·rintro b (⟨p,hp,rfl⟩ | h)
   ·rw [hO'] at hp
    rcases List.mem_or_eq_of_mem_set hp with hp | rfl
    ·exact .inl (.inl ⟨p,hp,rfl⟩)
    ·exact .inl hXB
   ·exact .inl (.inr h)
  ·rw [hjy] at hd;cases hd;rfl
theorem eff_stO {T U:TypeId} {x y:Operand} {B m:Nat} {cs vs:List Value} (j jx:Nat) (li:Fr) (hal:al.contains ef=false) (hij:Nat.beq ef jy=false) (hi:ops[ef]?=some ⟨none,.store T x y,ty,pos,aft_,none⟩) (hjn:(ops[jy]?).isNone=true) (hNo:pK al ef L) (hli:uI n ops l L ef li) (hx:evL li x=some (.pointer (some ⟨B,jx,none⟩))) (hy:evL li y=some v)
  (hO:O[j]?=some (B,cs,U)) (hsz:∀ w,(sizeOf T).run P w = .ok m w) (hc:v.cells=vs.toArray) (hl:vs.length=m) (h1:vs.all Value.oneCell'=true) (hjm:Nat.ble (jx+m) cs.length=true):SG P n ops Q l w0 K lo al ef jy (Fy zc) ta (Df O j jx B cs vs U) (uQ G) L ef :=
 Qp hal hij hi fun t0 a bs w h0 hF hG hbs hD=>by
  have hD':=Fw h0 hF hD (fun j d _ hj=>hNo j hj)
  have ex:=iJ h0 hF hD' hli x _ hx
  have ey:=iJ h0 hF hD' hli y _ hy
  have hOk:(OE (Fy zc) ta (Df O j jx B cs vs U) ⟨none,bs⟩)[bs.length+j]?=some (B,cs,U):=by
   unfold OE
   rw [List.getElem?_append_right (by simp)]
   simpa [Df] using hO
  have hXB:XB (OE (Fy zc) ta (Df O j jx B cs vs U) ⟨none,bs⟩) (uQ G none) B:=.inl ⟨_,List.mem_of_getElem? hOk,rfl⟩
  have hrun:=oF (P:=P) hsz hc hl h1 (hG.1.at_ _ hOk) (j:=jx) (Nat.le_of_ble_eq_true hjm)
  have hO':OE (Fy zc) ta (Df O j jx B cs vs U) ⟨some undef,bs⟩=(OE (Fy zc) ta (Df O j jx B cs vs U) ⟨none,bs⟩).set (bs.length+j) (B,jC cs jx vs,U):=by
   unfold OE
   rw [List.set_append_right _ _ (by simp)]
   congr 1
   simp [Df]
  refine xY hi rfl rfl rfl (by rw [ex,ey];exact hrun) ⟨undef,undef,rfl,(fun d hd=>by cases hd),?_,mQ hXB,?_,fun d hd=>?_⟩
  ·rw [hO']
   exact hG.1.setMany _ vs jx hOk
  ·rintro b (⟨p,hp,rfl⟩ | h)
   ·rw [hO'] at hp
    rcases List.mem_or_eq_of_mem_set hp with hp | rfl
    ·exact .inl (.inl ⟨p,hp,rfl⟩)
    ·exact .inl hXB
   ·exact .inl (.inr h)
  ·cases hjy:ops[jy]? with
   | none=>rw [hjy] at hd;cases hd
   | some o=>rw [hjy] at hjn;cases hjn
end
theorem eC {w:World} {base size n:Nat} {e:TypeId} {v:Value} {xs:List Value} (h:w.ownsRow base e size v n xs):∃ a c,v = .slice a n c∧n≤c:=by
 rcases h.2 with ⟨rfl,rfl⟩ | ⟨g,cap,cur,rfl,_,_,hn,_⟩
 ·exact ⟨none,0,rfl,Nat.le_refl _⟩
 ·exact ⟨_,cap,rfl,hn⟩
theorem Ip {w:World} {base size n:Nat} {e:TypeId} {v:Value} {xs:List Value} (h:w.ownsRow base e size v n xs) (hn:0 < n):∃ b c,v = .slice (some ⟨b,0,none⟩) n c∧base≤b:=by
 rcases h.2 with ⟨rfl,rfl⟩ | ⟨g,cap,cur,rfl,hb,_,_,_⟩
 ·omega
 ·exact ⟨_,cap,rfl,hb⟩
theorem lE {w:World} {base base' size n:Nat} {e:TypeId} {v:Value} {xs:List Value} (h:w.ownsRow base e size v n xs) (hb:base'≤base):w.ownsRow base' e size v n xs :=
 ⟨h.1,h.2.imp id fun ⟨g,cap,cur,e,hg,k⟩=>⟨g,cap,cur,e,Nat.le_trans hb hg,k⟩⟩
theorem eG {w W:World} {lo size n:Nat} {e:TypeId} {v:Value} {xs:List Value} (h:w.ownsRow lo e size v n xs) (hg:dD lo w W):W.ownsRow lo e size v n xs:=by
 refine ⟨h.1,?_⟩
 rcases h.2 with h2 | ⟨g,cap,cur,rfl,hb,hh,k⟩
 ·exact .inl h2
 ·exact .inr ⟨g,cap,cur,rfl,hb,(hg.2 g hb (cQ hh)).trans hh,k⟩
theorem iK {w:World} {base size n:Nat} {e:TypeId} {a:Option Addr} {c:Nat} {xs:List Value} (h:w.ownsRow base e size (.slice a n c) n xs):(a=none∧n=0)∨∃ b,a=some ⟨b,0,none⟩∧base≤b∧∀ (j:Nat) u,xs[j]?=some u→w.cell? ⟨b,j,none⟩=some u:=by
 rcases h.2 with ⟨e1,e2⟩ | ⟨g,cap,cur,e1,hb,hh,hn,hm,hs,ht⟩
 ·cases e1;exact .inl ⟨rfl,e2⟩
 ·cases e1
  refine .inr ⟨g,rfl,hb,fun j u hj=>?_⟩
  rw [← ht,List.getElem?_take] at hj
  split at hj
  ·simp only [World.cell?,hh]
   simpa using hj
  ·cases hj
theorem nM {os:List Oper} {L L':List Asr} {l:Fr} {K:Fr→World→Prop} {W:World} (h:L=L') (k:kZ os L' l K W):kZ os L l K W:=h▸k
theorem bP {os:List Oper} {L:List Asr} {l:Fr} {W:World} {lo:Nat} {X:Nat→Prop} {c:Value} {K:Fr→World→Prop} {dst:Nat} {op:Op} {ty:TypeId} {pos:String} {aft:Array Edge} {g:Option (Nat×Bool)} (h:kZ os L ((dst,c)::l) K W):kZ (⟨some dst,op,ty,pos,aft,g⟩::os) (AwS lo X (isV c)::L) l K W:=fun v hv=>by
 have:v=c:=hv.here
 subst this;exact h
theorem Kt {os:List Oper} {L:List Asr} {l:Fr} {W:World} {p:Asr} {K:Fr→World→Prop} {op:Op} {ty:TypeId} {pos:String} {aft:Array Edge} {g:Option (Nat×Bool)} (h:kZ os L l K W):kZ (⟨none,op,ty,pos,aft,g⟩::os) (p::L) l K W:=fun _ _=>h
theorem osSt_at {O:Own} {i j jx B:Nat} {cs vs:List Value} {U:TypeId} {ev:Option Value} {q:Nat×List Value×TypeId} (h:O[i]?=some q) (hij:Nat.beq i j=false):(Df O j jx B cs vs U ev)[i]?=some q:=by
 cases ev with
 | none=>exact h
 | some y =>
  have:j≠i:=fun e=>by rw [e,Nat.beq_refl] at hij;cases hij
  show (O.set j _)[i]?=_
  rw [List.getElem?_set,if_neg this];exact h
section
variable {w0 W:World} {O:Own} {G:cY} {K:List (Nat×World)}
theorem St.castO {O':Own} (h:St w0 O G K W) (e:O=O'):St w0 O' G K W:=e▸h
theorem St.castG {G':cY} (h:St w0 O G K W) (e:G=G'):St w0 O G' K W:=e▸h
def jJ (w0:World) (Kk:List (Nat×World)) (p:World→Prop):Prop:=∀ {O2:Own} {G2:cY} {K2:List (Nat×World)} {W2:World},St w0 O2 G2 K2 W2→(∀ q∈Kk,q∈K2)→p W2
theorem jJ.now {p:World→Prop} (h:jJ w0 K p) (hS:St w0 O G K W):p W:=h hS (fun q hq=>hq)
theorem jJ.one {p:World→Prop} {lo:Nat} {A:World} (h:∀ W2,dD lo A W2→p W2):jJ w0 [(lo,A)] p:=fun h2 hk=>h _ (h2.kept (lo,A) (hk _ List.mem_cons_self)).1
theorem jJ.more {p:World→Prop} {Kk Kl:List (Nat×World)} (h:jJ w0 Kk p) (k:∀ q∈Kk,q∈Kl):jJ w0 Kl p:=fun h2 hk=>h h2 (fun q hq=>hk q (k q hq))
theorem St.adopt {W':World} {e:TypeId} {size n:Nat} {v:Value} {xs:List Value} (h:St w0 O G K W) (hb:Below W.heap.size W W') (hr:W'.ownsRow W.heap.size e size v n xs):St w0 O (⟨v,n,xs,e,size⟩::G) K W':=by
 have h':=h.grow hb
 have hge:∀ b,v.ownBlock=some b→W.heap.size≤b:=fun b e1=>by
  rcases hr.2 with ⟨rfl,_⟩ | ⟨g,cap,cur,rfl,h3,_⟩
  ·cases e1
  ·cases e1;exact h3
 refine ⟨h'.below,h'.own,h'.dist,h'.kept,fun g hg=>?_,List.Pairwise.cons (fun q hq b e1 e2=>?_) h'.gdist⟩
 ·rcases List.mem_cons.1 hg with rfl | hg
  ·refine ⟨lE hr h.below.size,fun b e1=>⟨fun p hp e2=>?_,fun q hq=>.inr ?_⟩⟩
   ·have:=cQ (h.own p hp).2;have:=hge b e1;omega
   ·have:=(h.kept q hq).1.1;have:=hge b e1;omega
  ·exact h'.rows g hg
 ·have h3:=(h.glt hq e2).2
  have:=hge b e1;omega
theorem St.cut (h:St w0 O G K W) (i:Nat) {b c nn k:Nat} {xs:List Value} {e:TypeId} {size:Nat} (hi:G[i]?=some ⟨.slice (some ⟨b,0,none⟩) nn c,nn,xs,e,size⟩) (hk:k≤nn):St w0 O (G.set i ⟨.slice (some ⟨b,0,none⟩) k c,k,xs.take (k * size),e,size⟩) K W:=by
 have hg:=List.mem_of_getElem? hi
 have hrow:=(h.rows _ hg).1
 refine h.setG i hi (v':=.slice (some ⟨b,0,none⟩) k c) ?_ ⟨rfl,rfl,rfl,Nat.le_refl _,fun _ _ _=>rfl⟩ (.inl rfl)
 refine ⟨?_,?_⟩
 ·have h2:k * size≤nn * size:=Nat.mul_le_mul_right _ hk
  have:=hrow.1
  dsimp only at this ⊢;rw [List.length_take,this,Nat.min_eq_left h2]
 ·rcases hrow.2 with ⟨e1,_⟩ | ⟨g,cap,cur,e1,hg,hh,hn,hm,hs,ht⟩
  ·cases e1
  ·cases e1
   refine .inr ⟨b,c,cur,rfl,hg,hh,by dsimp only at hn;omega,hm,hs,?_⟩
   have h2:k * size≤nn * size:=Nat.mul_le_mul_right _ hk
   dsimp only at ht ⊢
   rw [← ht,List.take_take,Nat.min_eq_left h2]
theorem St.turned (h:St w0 O G K W) (i:Nat) {b c nn q:Nat} {zs:List Int} {e:TypeId} (hi:G[i]?=some ⟨.slice (some ⟨b,0,none⟩) nn c,nn,zs.map (Value.int .i64),e,1⟩):St w0 O (G.set i ⟨.slice (some ⟨b,0,none⟩) nn c,nn,zs.reverse.map (Value.int .i64),e,1⟩) K (Go.Sort.putRow (Value.int .i64) (Go.Sort.ahead W q) b 0 zs.reverse.toArray):=by
 have hg:=List.mem_of_getElem? hi
 have hrow:=(h.rows _ hg).1
 have hl:zs.length=nn:=by have:=hrow.1;simpa using this
 refine h.setG i hi (v':=.slice (some ⟨b,0,none⟩) nn c) ?_ ⟨rfl,rfl,rfl,by simp [Go.Sort.putRow,Go.Sort.mapBlock,Go.Sort.ahead],fun k hk hne=>?_⟩ (.inl rfl)
 ·have:=Go.Lib.ownsRow_putRow (q:=q) hrow (ys:=zs.reverse) (by simpa using hl) (Nat.le_refl _)
  rwa [List.take_of_length_le (by simp;omega)] at this
 ·have hne':b≠k:=fun e=>hne (by rw [e];rfl)
  simp [Go.Sort.putRow,Go.Sort.mapBlock,Go.Sort.ahead,Array.getElem?_modify,hne']
end
section
variable {P:Program} {n:Nat} {ops:Array Oper} {Q:Exit→Act→World→Prop} {l:Fr} {w0 W:World} {O:Own} {G:cY} {K:List (Nat×World)} {os:List Oper} {d:Nat} {ty:TypeId} {pos:String} {aft:Array Edge}
theorem oG {fn:Func} {r1 r2 t u:Nat} {T1 T2:TypeId} {B1 B2 o1 o2:Nat} {vs us:List Value} {x y:Value} (hf:fn.results=#[.cell r1 T1,.cell r2 T2,.tmp t,.tmp u]) (hT1:∀ w,(isAgg T1).run P w = .ok true w) (hS1:∀ w,(sizeOf T1).run P w = .ok vs.length w) (hl1:look l r1=some (.pointer (some ⟨B1,o1,none⟩))) (hc1:aE W B1 o1 vs)
  (hT2:∀ w,(isAgg T2).run P w = .ok true w) (hS2:∀ w,(sizeOf T2).run P w = .ok us.length w) (hl2:look l r2=some (.pointer (some ⟨B2,o2,none⟩))) (hc2:aE W B2 o2 us) (hx:look l t=some x) (hy:look l u=some y) :
  ∀ a,Has n l a→(results fn a.tmps).run P W = .ok (.tuple #[.agg vs.toArray,.agg us.toArray,x,y]) W:=fun a ha=>by
 have h1:=run_loadCells_list (P:=P) W ⟨B1,o1,none⟩ vs (fun j u hj=>by rw [Addr.add_lit];exact hc1.get j u hj)
 have h1':=run_loadCells_list (P:=P) W ⟨B2,o2,none⟩ us (fun j u hj=>by rw [Addr.add_lit];exact hc2.get j u hj)
 have h2:=ha.at_ r1 _ hl1
 have h2':=ha.at_ r2 _ hl2
 have h3:=ha.at_ t _ hx
 have h4:=ha.at_ u _ hy
 rw [Array.getD_eq_getD_getElem?] at h2 h2' h3 h4
 simp [results,hf,h2,h2',h3,h4,asAddr,loadVar,hT1,hS1,hT2,hS2,h1,h1']
theorem tO {f:FuncId} {args:Array Operand} {ts:Array TypeId} {vs:List Value} {R:Ending→World→Prop} (hgo:bW P f=true) (ha:args.toList.map (evL l)=vs.map some) (hc:Calls P f vs.toArray W R)
  (hd:Nat.blt d n=true)
  (h:∀ e W',R e W'→∃ v,e = .returned v∧cX P n ops Q os ((d,v)::l) W'):cX P n ops Q (⟨some d,.call { callee:=.value (.func f),args:=args,argTypes:=ts },ty,pos,aft,none⟩::os) l W:=fun a hl=>by
 refine wpList_plain rfl fun K' hK=>?_
 unfold Oper.wp
 rw [oX P a.eval W f args ts _ rfl rfl hgo,Oper.upon_enter]
 have hargs:args.map a.eval=vs.toArray:=by
  have key:∀ (xs:List Operand) (us:List Value),xs.map (evL l)=us.map some→xs.map a.eval=us:=by
   intro xs
   induction xs with
   | nil=>intro us h;cases us<;>simp at h ⊢
   | cons x xs ih =>
    intro us h
    cases us with
    | nil=>simp at h
    | cons u us =>
     simp only [List.map_cons,List.cons.injEq] at h
     simp only [List.map_cons,hl.ev x u h.1,ih us h.2]
  apply Array.ext'
  rw [Array.toList_map,key _ _ ha]
 rw [hargs]
 refine hc.mono ?_
 intro e W' hRe
 obtain ⟨v,rfl,hn⟩:=h e W' hRe
 exact hK _ _ (hn _ (hl.put hd))
theorem xZ {f:FuncId} {args:Array Operand} {ts:Array TypeId} {vs:List Value} {R:Ending→World→Prop} {e1:TypeId} {size m:Nat} {xs:List Value} (hS:St w0 O G K W) (hgo:bW P f=true) (ha:args.toList.map (evL l)=vs.map some) (hc:Calls P f vs.toArray W R)
  (hd:Nat.blt d n=true) (hR:∀ e W',R e W'→∃ v,e = .returned v∧Below W.heap.size W W'∧W'.ownsRow W.heap.size e1 size v m xs)
  (h:∀ v W',St w0 O (⟨v,m,xs,e1,size⟩::G) K W'→cX P n ops Q os ((d,v)::l) W'):cX P n ops Q (⟨some d,.call { callee:=.value (.func f),args:=args,argTypes:=ts },ty,pos,aft,none⟩::os) l W :=
 tO hgo ha hc hd fun e W' hRe=>by
  obtain ⟨v,h1,h2,h3⟩:=hR e W' hRe
  exact ⟨v,h1,h v W' (hS.adopt h2 h3)⟩
theorem Qq {f:FuncId} {x:Operand} {ts:Array TypeId} {v:Value} {nn:Nat} {zs:List Int} {e1:TypeId} (hS:St w0 O G K W) (i:Nat) (hgo:bW P f=true) (hx:evL l x=some v) (hi:G[i]?=some ⟨v,nn,zs.map (Value.int .i64),e1,1⟩)
  (hc:∀ (blk off cap:Nat) (zs:List Int) (w:World),Go.Sort.Holds (Value.int .i64) w blk off zs.toArray→zs.length≤9223372036854775807→Calls P f #[.slice (some ⟨blk,off,none⟩) zs.length cap] w fun e w'=>e = .returned (.tuple #[])∧∃ n,w'=Go.Sort.putRow (Value.int .i64) (Go.Sort.ahead w n) blk off zs.reverse.toArray)
  (hc0:∀ (a:Option Addr) (cap:Nat) (w:World),Calls P f #[.slice a 0 cap] w fun e w'=>e = .returned (.tuple #[])∧w'=w)
  (hd:Nat.blt d n=true) (h:∀ W',St w0 O (G.set i ⟨v,nn,zs.reverse.map (Value.int .i64),e1,1⟩) K W'→cX P n ops Q os ((d,.tuple #[])::l) W'):cX P n ops Q (⟨some d,.call { callee:=.value (.func f),args:=#[x],argTypes:=ts },ty,pos,aft,none⟩::os) l W:=by
 have hrow:W.ownsRow w0.heap.size e1 1 v nn (zs.map (Value.int .i64)):=hS.row i hi
 have hl:zs.length=nn:=by have:=hrow.1;simpa using this
 by_cases hv:v = .slice none 0 0
 ·subst hv
  have hn:nn=0:=by
   rcases hrow.2 with ⟨_,h0⟩ | ⟨g,cap,cur,e0,_⟩
   ·exact h0
   ·cases e0
  subst hn
  have hz:zs=[]:=List.eq_nil_of_length_eq_zero hl
  subst hz
  refine tO (vs:=[.slice none 0 0]) hgo (by simp [hx]) (hc0 none 0 W) hd ?_
  rintro e W' ⟨rfl,rfl⟩
  refine ⟨_,rfl,h W' ?_⟩
  rw [List.reverse_nil]
  have e2:G.set i ⟨.slice none 0 0,0,([]:List Int).map (Value.int .i64),e1,1⟩=G:=by
   apply List.ext_getElem?
   intro j
   rw [List.getElem?_set]
   by_cases hj:i=j
   ·subst hj;rw [if_pos rfl,hi];split<;>first | rfl | skip
    rename_i hlt;exact absurd (List.getElem?_eq_some_iff.1 hi).1 hlt
   ·rw [if_neg hj]
  rw [e2];exact hS
 ·obtain ⟨g,cap,rfl,h1,h2,h3,h4,h5,hH⟩:=Go.Lib.holds_of_ownsRow hrow hv
  subst h5
  refine tO (vs:=[.slice (some ⟨g,0,none⟩) zs.length cap]) hgo (by simp [hx]) (hc g 0 cap zs W hH (by simp only [maxLen] at h4;omega)) hd ?_
  rintro e W' ⟨rfl,q,rfl⟩
  exact ⟨_,rfl,h _ (hS.turned i hi)⟩
theorem M3 {T e:TypeId} {s:Nat} (hS:St w0 O G K W) (hU:P.underlying T=some (.slice e)) (hs:∀ w,(sizeOf e).run P w = .ok s w) (hd:Nat.blt d n=true)
  (h:∀ v W',St w0 O (⟨v,0,[],e,s⟩::G) K W'→cX P n ops Q os ((d,v)::l) W'):cX P n ops Q (⟨some d,.buildSlice T 0 #[],ty,pos,aft,none⟩::os) l W :=
 opV (W':=W.alloc (.cells #[] e)) (v:=.slice (some ⟨W.heap.size,0,none⟩) 0 0) (fun ev he=>by
  unfold execOp
  have h0:Array.range 0=#[]:=by simp
  simp only [List.map_toArray,List.map_nil,Instr.buildSlice,Sem.run_bind,run_underlying hU,Result.andThen_ok,hs,Nat.zero_mul,Sem.run_pure,h0]
  simp [Instr.fill,newRow]) hd (h _ _ (hS.adopt ((Below.refl _ _).alloc (Nat.le_refl _) _) (by
   have:=World.ownsRow_made (base:=W.heap.size) (e:=e) (size:=s) W #[] 0 (Nat.le_refl _) (Nat.zero_le _) (by simp)
   simpa using this)))
theorem Qr {T e:TypeId} {x y:Operand} {kk:IntKind} {k:Nat} {j:Int} {b c nn s:Nat} {xs:List Value} (hS:St w0 O G K W) (i:Nat) (hU:P.underlying T=some (.slice e)) (hs:∀ w,(sizeOf e).run P w = .ok s w) (hi:G[i]?=some ⟨.slice (some ⟨b,0,none⟩) nn c,nn,xs,e,s⟩) (hx:evL l x=some (.slice (some ⟨b,0,none⟩) nn c)) (hy:evL l y=some (.int kk j)) (hj:j=(k:Int)) (hk:k≤nn) (hd:Nat.blt d n=true)
  (h:St w0 O (G.set i ⟨.slice (some ⟨b,0,none⟩) k c,k,xs.take (k * s),e,s⟩) K W→cX P n ops Q os ((d,.slice (some ⟨b,0,none⟩) k c)::l) W):cX P n ops Q (⟨some d,.slice T x none (some y) none,ty,pos,aft,none⟩::os) l W :=
 opV (v:=.slice (some ⟨b,0,none⟩) k c) (fun ev he=>by
  subst hj
  have hc:nn≤c:=by
   rcases (hS.row i hi).2 with ⟨e1,_⟩ | ⟨g,cap,cur,e1,_,_,hn,_⟩
   ·cases e1
   ·cases e1;exact hn
  have h1:(0:Int)≤(k:Int):=by omega
  have h2:(k:Int)≤(c:Int):=by omega
  have h3:k≤c:=by omega
  unfold execOp;simp only [Option.map_some,Option.map_none];rw [he x _ hx,he y _ hy]
  simp [Instr.sliceAt,Instr.slice,Instr.sliceBounds,Instr.sliceBound,run_underlying hU,asIntOf,h3,hs]
  intro _;rfl) hd (h (hS.cut i hi hk))
theorem jX {w:World} (base:Nat) (t ty e:TypeId) (i:TypeInfo) (size:Nat) (ht:P.underlying t=some (.slice e)) (hi:P.info? e=some i)
  (v:Value) (n:Nat) (xs:List Value) (c:Nat) (hown:w.ownsRow base e size v n xs) :
  (Builtin.append_ #[t,t] ty #[v,.slice none 0 c]).run P w = .ok v w:=by
 rcases hown.2 with ⟨rfl,rfl⟩ | ⟨g,cap,cur,rfl,_,_,hnc,_⟩
 ·simp [Builtin.append_,run_underlying ht,sizeOf,typeInfo,hi,Builtin.lenOf,Builtin.firstCells]
 ·simp [Builtin.append_,run_underlying ht,sizeOf,typeInfo,hi,Builtin.lenOf,Builtin.firstCells,hnc,storeCells]
theorem iO {t e:TypeId} {x y:Operand} {i:Nat} {g:GR} {a:Option Addr} {m c:Nat} {news:List Value} {inf:TypeInfo} {z:Value} (hS:St w0 O G K W) (hU:P.underlying t=some (.slice e)) (hinf:P.info? e=some inf) (hz:inf.zero=some z) (hzs:z.cells.size=inf.size) (hsz:0 < inf.size)
  (hi:G[i]?=some g) (he:g.e=e) (hgs:g.size=inf.size) (hx:evL l x=some g.v) (hy:evL l y=some (.slice a m c)) (hc:(a=none∧m=0)∨∃ p,a=some p∧∀ (j:Nat) u,news[j]?=some u→W.cell? (p.add j)=some u) (hl:news.length=m * inf.size) (h1:∀ u∈news,u.oneCell'=true)
  (h63:g.n+m≤maxLen) (hbytes:(g.n+m) * inf.bytes≤140737488355328) (hd:Nat.blt d n=true)
  (h:∀ v' W',St w0 O (G.set i ⟨v',g.n+m,g.xs++news,e,g.size⟩) K W'→cX P n ops Q os ((d,v')::l) W') :
  cX P n ops Q (⟨some d,.call { callee:=.builtin .append,args:=#[x,y],argTypes:=#[t,t] },ty,pos,aft,none⟩::os) l W:=by
 subst he
 have hrow:=hS.row i hi
 rcases hc with ⟨rfl,rfl⟩ | ⟨p,rfl,hc⟩
 ·have hr:=jX (P:=P) w0.heap.size t ty g.e inf g.size hU hinf g.v g.n g.xs c hrow
  have hn:news=[]:=List.eq_nil_of_length_eq_zero (by simpa using hl)
  subst hn
  refine opV (W':=W) (v:=g.v) (fun ev hev=>?_) hd (h g.v W ?_)
  ·unfold execOp
   simp only [resolve,invoke,builtin,Sem.run_bind,Sem.run_pure,Result.andThen_ok,List.map_toArray,List.map_cons,List.map_nil,hev x _ hx,hev y _ hy,hr]
  ·rw [List.append_nil,Nat.add_zero]
   exact hS.setG i hi hrow ⟨rfl,rfl,rfl,Nat.le_refl _,fun _ _ _=>rfl⟩ (.inl rfl)
 ·rw [hgs] at hrow
  obtain ⟨v',W',hr,h2,h3,h4⟩:=gV (P:=P) (w:=W) w0.heap.size t ty g.e inf z hU hinf hz hzs hsz g.v g.n g.xs hrow p m c news hl hc h1 h63 hbytes hS.below.size
  rw [← hgs] at h2
  refine opV (W':=W') (v:=v') (fun ev hev=>?_) hd (h v' W' (hS.setG i hi h2 h3 h4))
  unfold execOp
  simp only [resolve,invoke,builtin,Sem.run_bind,Sem.run_pure,Result.andThen_ok,List.map_toArray,List.map_cons,List.map_nil,hev x _ hx,hev y _ hy,hr]
end
def fT (lo:Nat) (W:World) (a:Option Addr) (c:Nat) (xs:List Int):Prop:=W.ownsRow lo 3 1 (.slice a xs.length c) xs.length (xs.map (Value.int .i64))
theorem fT.row {lo:Nat} {W:World} {a:Option Addr} {c:Nat} {xs:List Int} (h:fT lo W a c xs):Row W a xs:=by
 rcases iK h with ⟨_,h2⟩ | ⟨b,h1,_,h3⟩
 ·exact .inl (List.eq_nil_of_length_eq_zero h2)
 ·refine .inr ⟨b,0,h1,fun i hi=>?_⟩
  rw [Nat.zero_add]
  exact h3 i _ (by rw [List.getElem?_map,List.getElem?_eq_getElem hi];simp [List.getD,List.getElem?_eq_getElem hi])
theorem fT.cap {lo:Nat} {W:World} {a:Option Addr} {c:Nat} {xs:List Int} (h:fT lo W a c xs):xs.length≤c:=by
 obtain ⟨a',c',e,h2⟩:=eC h
 cases e;exact h2
theorem fT.mono {lo lo':Nat} {W:World} {a:Option Addr} {c:Nat} {xs:List Int} (h:fT lo W a c xs) (hl:lo'≤lo):fT lo' W a c xs:=lE h hl
theorem fT.agree {lo:Nat} {A W:World} {a:Option Addr} {c:Nat} {xs:List Int} (h:fT lo A a c xs) (hg:dD lo A W):fT lo W a c xs:=eG h hg
theorem fT.below {lo:Nat} {A W:World} {a:Option Addr} {c:Nat} {xs:List Int} (h:fT lo A a c xs) (hb:Below A.heap.size A W):fT lo W a c xs:=h.agree (aN hb lo)
def Qs (p:Int) (xs:List Int) (w:World) (e:Ending) (w':World):Prop:=∃ a c,e = .returned (.agg #[.int .i64 p,.slice a xs.length c])∧fT w.heap.size w' a c xs∧Below w.heap.size w w'
theorem cret {w W:World} {O:Own} {K:List (Nat×World)} {p:Int} {a:Option Addr} {c n:Nat} {xs:List Value} {zs:List Int} (hS:St w O [⟨.slice a n c,n,xs,3,1⟩] K W) (hn:zs.length=n) (hx:xs=zs.map (Value.int .i64)):Qs p zs w (.returned (.agg #[.int .i64 p,.slice a n c])) W:=by
 subst hn;subst hx
 exact ⟨a,c,rfl,hS.row 0 rfl,hS.below⟩
theorem tP (xs:List Int):∀ u∈xs.map (Value.int .i64),u.oneCell'=true:=fun u hu=>by
 obtain ⟨z,_,rfl⟩:=List.mem_map.1 hu
 rfl
theorem Row.app {W:World} {a:Option Addr} {ws:List Int} {m:Nat} (h:Row W a ws) (hl:ws.length=m):(a=none∧m=0)∨∃ p,a=some p∧∀ (j:Nat) u,(ws.map (Value.int .i64))[j]?=some u→W.cell? (p.add j)=some u:=by
 rcases h with rfl | ⟨b,off,rfl,hc⟩
 ·cases a with
  | none=>exact .inl ⟨rfl,hl.symm⟩
  | some p=>exact .inr ⟨p,rfl,fun j u hj=>by simp at hj⟩
 ·refine .inr ⟨_,rfl,fun j u hj=>?_⟩
  rw [List.getElem?_map] at hj
  cases hz:ws[j]? with
  | none=>rw [hz] at hj;cases hj
  | some z =>
   rw [hz] at hj;cases hj
   have hj':=(List.getElem?_eq_some_iff.1 hz).1
   have:=hc j hj'
   rw [Addr.add_lit,this]
   simp [List.getD,hz]
theorem Row.tail1 {W:World} {a:Option Addr} {y:Int} {t:List Int} {c:Nat} (h:Row W a (y::t)) (hc:(y::t).length≤c):Row W (if c=1 then a else a.map (·.add (1 * 1))) t:=by
 rcases h with h | ⟨b,off,rfl,hc1⟩
 ·cases h
 ·by_cases h1:c=1
  ·subst h1
   refine .inl (List.eq_nil_of_length_eq_zero ?_)
   simp at hc;simpa using hc
  ·rw [if_neg h1]
   refine .inr ⟨b,off+1,by simp [Addr.add_lit],fun i hi=>?_⟩
   have:=hc1 (i+1) (by simp;omega)
   rw [show off+1+i=off+(i+1) by omega,this]
   simp
def iD (lo:Nat) (p:Int) (xs:List Int):Asr:=fun v w=>∃ a c,v = .agg #[.int .i64 p,.slice a xs.length c]∧fT lo w a c xs
theorem Dg {lo:Nat} {p:Int} {xs:List Int}:kY (iD lo p xs):=fun v w w' ⟨a,c,h1,h2⟩ hb=>⟨a,c,h1,h2.below hb⟩
theorem Iq {P:Program} {f:FuncId} {vs:Array Value} {w:World} {p:Int} {xs:List Int} {lo:Nat} (hlo:lo≤w.heap.size) (h:Calls P f vs w (Qs p xs w)):Calls P f vs w (uZ (iD lo p xs) w):=h.mono fun e w' ⟨a,c,he,hn,hb⟩=>⟨_,he,⟨a,c,rfl,hn.mono hlo⟩,hb⟩
theorem Qt (p:Int) (wa va:Option Addr) (wl vl wc vc:Nat) (ws vs:List Int) (w:World) (hrow:Row w wa ws) (hlen:ws.length=wl) (hrov:Row w va vs) (hlev:vs.length=vl) (hm:wl≤8192) (hm2:vl≤8192) :
  Calls prog 73 #[.int .i64 p,.slice wa wl wc,.slice va vl vc] w (Qs p (ws++vs) w):=by
 refine cH (args:=[.int .i64 p,.slice wa wl wc,.slice va vl vc]) func73 rfl ntmps73 rfl ?_
 have hS:=St.start w
 refine aL (aR (bH (cs:=[_,_]) hS zeroValue36 rfl rfl fun B1 W1 hS=>aQ (XF.thenN (aL (aR (aG rfl rfl (M3 hS underlying29 sizeOf3 rfl fun v2 W2 hS=>aG rfl rfl ?_)))))))
 refine iO (i:=0) (news:=ws.map (Value.int .i64)) hS underlying29 qZ rfl rfl (by show 0 < 1;decide) rfl rfl rfl rfl rfl (Row.app (hrow.below hS.below) hlen) (by show (ws.map (Value.int .i64)).length=wl * 1;simpa using hlen) (tP ws) (by dsimp only;simp only [maxLen];omega) (by dsimp only;show _ * 8≤_;omega) rfl fun v3 W3 hS=>?_
 refine aG rfl rfl ?_
 refine iO (i:=0) (news:=vs.map (Value.int .i64)) hS underlying29 qZ rfl rfl (by show 0 < 1;decide) rfl rfl rfl rfl rfl (Row.app (hrov.below hS.below) hlev) (by show (vs.map (Value.int .i64)).length=vl * 1;simpa using hlev) (tP vs) (by dsimp only;simp only [maxLen];omega) (by dsimp only;show _ * 8≤_;omega) rfl fun v4 W4 hS=>?_
 obtain ⟨a9,c9,e9,hc9⟩:=eC (v:=v4) (n:=0+wl+vl) (hS.row 0 rfl)
 subst e9
 refine cS (us:=[(0,.int .i64 _),(1,.slice _ _ _)]) rfl (rP _ _ _ _) rfl (aV (i:=0) (vs:=[_,_]) (cs':=[_,_]) (O':=[_]) hS sizeOf36 rfl rfl rfl rfl rfl rfl rfl fun W5 hS=>aQ (XF.thenN (bJ (XF.res (dO (vs:=[_,_]) results73 isAgg36 sizeOf36 rfl (aE.own (j:=0) (m:=2) (hS.at_ 0 rfl) rfl)) ?_))))
 exact cret hS (by simp [hlen,hlev]) (by simp)
theorem by_c (r0:RV) (p y:Int) (wa:Option Addr) (wl wc:Nat) (t:List Int) (w:World) (hr:Row w r0.wa r0.ws) (hrl:r0.ws.length=r0.wl) (hrow:Row w wa (y::t)) (hlen:(y::t).length=wl) (hcap:wl≤wc) (hm:r0.wl≤8192) (hm2:wl≤8192) :
  Calls prog 53 #[r0.val,.agg #[.int .i64 p,.slice wa wl wc]] w (Qs r0.q (r0.ws++t) w):=by
 refine cH (args:=[r0.val,.agg #[.int .i64 p,.slice wa wl wc]]) func53 rfl ntmps53 rfl ?_
 have hS:=St.start w
 refine aL (aR (bK (cs:=[_,_,_,_,_,_,_,_,_,_]) hS rfl rfl rfl fun B1 W1 hS=>bK (cs:=[_,_]) hS rfl rfl rfl fun B2 W2 hS=>bH (cs:=[_,_]) hS zeroValue36 rfl rfl fun B3 W3 hS=>aQ (XF.thenN (aL ?_))))
 have h1l:1≤wl:=by have:(y::t).length=t.length+1:=rfl;omega
 have h2l:t.length=wl - 1:=by have:(y::t).length=t.length+1:=rfl;omega
 have hsz:=hS.below.size
 refine pB cE 8 hS rfl rfl (by kernel_rfl) (by kernel_rfl) (by kernel_rfl) (fun d hd=>by cases hd) (cC 1 rfl 2 rfl rfl (fun w hw=>aW (o':=2) qJ rfl rfl) rfl (aX 2 rfl 5 0 rfl rfl rfl (fun w hw=>bA isAgg3 rfl ((aN hw 0).cell (Nat.zero_le _) (aK (hS.at_ 2 rfl) rfl))) rfl (cC 3 rfl 2 rfl rfl (fun w hw=>aW (o':=3) iC rfl rfl) rfl (aX 4 rfl 7 2 rfl rfl rfl (fun w hw=>bA isAgg29 rfl ((aN hw 0).cell (Nat.zero_le _) (aK (hS.at_ 2 rfl) rfl))) rfl (cC 5 rfl 3 rfl rfl (fun w hw=>aW (o':=1) dZ rfl rfl) rfl (aX 6 rfl 9 4 rfl rfl rfl (fun w hw=>bA isAgg29 rfl ((aN hw 0).cell (Nat.zero_le _) (aK (hS.at_ 1 rfl) rfl))) rfl (aX 7 rfl 10 5 rfl rfl rfl (fun w hw=>sY (j:=1) underlying29 sizeOf3 rfl rfl rfl (by omega)) rfl ?_)))))))
 refine aM 8 rfl (iD W3.heap.size r0.q (r0.ws++t)) (Dg) (cV [isV _,isV _,isV _] rfl goes_73 (aU rfl) ⟨bZ (aO 1 (aB rfl rfl rfl)),bZ (aO 3 (aB rfl rfl rfl)),bZ (aO 6 (aB rfl rfl rfl)),trivial⟩ (fun vs w' hb hh=>by have e:=cB (us:=[_,_,_]) hh;subst e;exact Iq (hb.mono (Nat.le_refl _)).size (Qt r0.q _ _ _ _ _ _ r0.ws t _ (hr.below (hS.below.trans (hb.mono hS.below.size))) hrl ((hrow.tail1 (by omega)).below (hS.below.trans (hb.mono hS.below.size))) h2l hm (by omega))) (aH rfl)) ?_
 refine dC ?_
 intro W4 hbR hS'
 clear hS;have hS:=hS';clear hS'
 refine aI (aI (aI (aI (aI (aI (aI ?_))))))
 refine cW ?_;rintro _ ⟨a9,c9,rfl,hn9⟩
 refine cL (aV (i:=0) (vs:=[_,_]) (cs':=[_,_]) (O':=[_,_,_]) hS sizeOf36 rfl rfl rfl rfl rfl rfl rfl fun W5 hS=>aQ (XF.thenN (bJ (XF.res (dO (vs:=[_,_]) results53 isAgg36 sizeOf36 rfl (aE.own (j:=0) (m:=2) (hS.at_ 0 rfl) rfl)) ?_))))
 exact ⟨a9,c9,rfl,(hn9.agree (hS.since 0 rfl)).mono hsz,hS.below⟩
theorem M4 {f:SF} {ps:List SV} {x:WV} (hp:cA f.tag f.dim f.len=true) (ho:okW (.mk f ps) x=true):fM f.tag f.dim x.f=true:=by
 have h:(if cA f.tag f.dim f.len=true then fM f.tag f.dim x.f else (match (generalizing:=false) ps with | [p,q]=>gN p q x.f x.ps | _=>false))=true:=ho
 rw [if_pos hp] at h
 exact h
theorem Qu {w:World} {d:Nat} {s:SV} (hs:SIn w d s) (hse:eI s=0):∃ S:PS,S.ok∧SIs w S s.f∧∀ (x:WV) (e:Nat),WIn w e x→okW s x=true→∃ y,XIs w S x.f y:=by
 match d,s,hs with
 | d+1,.mk f ps,hs =>
  by_cases hp:cA f.tag f.dim f.len=true
  ·obtain ⟨t,n,a,l,c⟩:=f
   dsimp only at hp
   obtain rfl:l=0:=(fK hp).1
   refine ⟨.one t n,hp,⟨a,c,rfl⟩,fun x e hx ho=>?_⟩
   match e,x,hx,ho with
   | e+1,.mk g qs,hx,ho =>
    exact ⟨.one g.pf,PIs.of hp hx.1 (M4 (f:=⟨t,n,a,0,c⟩) hp ho)⟩
  ·have hse':(if cA f.tag f.dim f.len=true then (0:Int) else if f.tag=5∧f.dim=0∧ps.length=2∧ps.all SV.pl=true then 0 else 50)=0:=hse
   rw [if_neg hp] at hse'
   split at hse'
   ·rename_i hq
    obtain ⟨h5,h0,h2,hall⟩:=hq
    obtain ⟨t,n,a,l,c⟩:=f
    dsimp only at h5 h0 hp
    subst h5;subst h0
    obtain ⟨p,q,rfl⟩:=rE h2
    have hl:2=l:=hs.1
    subst hl
    simp only [List.all_cons,List.all_nil,Bool.and_true,Bool.and_eq_true] at hall
    obtain ⟨_,b,off,ha,_,hp3,hq3,_,_⟩:=hs.two
    dsimp only at ha
    subst ha
    obtain ⟨⟨pt,pn,pa,pl,pc⟩,pps⟩:=p
    obtain ⟨⟨qt,qn,qa,ql,qc⟩,qps⟩:=q
    have e1:cA pt pn pl=true:=hall.1
    have e2:cA qt qn ql=true:=hall.2
    obtain rfl:pl=0:=(fK e1).1
    obtain rfl:ql=0:=(fK e2).1
    refine ⟨.two pt pn qt qn,⟨e1,e2⟩,⟨b,off,c,pa,pc,qa,qc,rfl,hp3,hq3⟩,fun x e hx ho=>?_⟩
    match e,x,hx,ho with
    | e+1,.mk g qs,hx,ho =>
     have ho':(if cA 5 0 2=true then fM 5 0 g else gN (.mk ⟨pt,pn,pa,0,pc⟩ pps) (.mk ⟨qt,qn,qa,0,qc⟩ qps) g qs)=true:=ho
     rw [if_neg (show ¬ cA 5 0 2=true from hp)] at ho'
     unfold gN at ho'
     simp only [Bool.and_eq_true,Bool.not_eq_true',decide_eq_true_eq] at ho'
     obtain ⟨hbare,hz,h2q,o1,o2⟩:=ho'
     obtain ⟨x1,x2,rfl⟩:=rE h2q
     obtain ⟨hpl,wb,wo,hpa,_,h6,h7,hx1,hx2⟩:=hx.two
     have hat:=hx.1
     have hg:g.c=0∧g.g=0∧g.rl=0∧g.cl=0:=by
      simp only [iI,iH,hz,Bool.not_false,Bool.true_and,Bool.and_eq_true,Bool.or_eq_true,decide_eq_true_eq] at hbare
      obtain ⟨k1,k2,k3,_⟩:=hbare
      exact ⟨k1.resolve_left (by decide),(k2.resolve_left (by decide)).1,(k2.resolve_left (by decide)).2,k3.resolve_left (by decide)⟩
     have hr0:g.rows=[]:=List.eq_nil_of_length_eq_zero (by have:=hat.rl;omega)
     have hc0:g.cells=[]:=List.eq_nil_of_length_eq_zero (by have:=hat.cl;omega)
     refine ⟨.two x1.f.pf x2.f.pf,?_,hg.2.2.1,hg.2.2.2,hpl,wb,wo,x1.f,x2.f,hpa,h6,h7,PIs.of e1 (WIn.at_ hx1) o1,PIs.of e2 (WIn.at_ hx2) o2⟩
     show (⟨g.z,g.c,g.g,g.rows,g.cells⟩:PF)=pC 0
     unfold pC
     rw [hz,hg.1,hg.2.1,hr0,hc0]
   ·cases hse'
def isX (S:PS) (x:PX):Asr:=fun v w=>∃ f:WF,v=f.val∧XIs w S f x
theorem F3 {S:PS} {x:PX}:kY (isX S x):=fun v w w' ⟨f,h1,h2⟩ hb=>⟨f,h1,h2.below hb⟩
def yA (S:PS) (xs:List PX):Asr:=fun v w=>∃ b fs,v = .slice (some ⟨b,0,none⟩) xs.length xs.length∧qS w (some ⟨b,0,none⟩) fs∧XL w S fs xs
theorem F4 {S:PS} {xs:List PX}:kY (yA S xs):=fun v w w' ⟨b,fs,h1,h2,h3⟩ hb=>⟨b,fs,h1,h2.below hb,h3.below hb⟩
section
variable {n:Nat} {Q:Exit→Act→World→Prop} {l:Fr} {W:World} {ops:Array Oper} {L:List Asr} {i d:Nat} {ty:TypeId} {pos:String} {aft:Array Edge} {gd:Option (Nat×Bool)} {S:PS} {x y z:PX} {p q r:Operand}
theorem Qv (hi:ops[i]?=some ⟨some d,.buildSlice 51 2 (List.toArray [(0,p),(1,q)]),ty,pos,aft,gd⟩) (hw:gG ops L i ⟨some d,.buildSlice 51 2 (List.toArray [(0,p),(1,q)]),ty,pos,aft,gd⟩) (hp:uJ n ops l L i [p,q] [isX S x,isX S y]) (hI:atI L i=yA S [x,y]):RG prog n ops Q l W L i :=
 Cf [isX S x,isX S y] hi hw underlying51 sizeOf53 zeroValue53 rfl rfl hp fun vs w hb hh=>by
  obtain ⟨v1,v2,rfl,⟨f,rfl,hf⟩,g,rfl,hg⟩:=rR hh
  exact ⟨f.six++g.six,vX _ _ _ _ _ _ _ _ _ _ _ _,fun B w' hB h1 h2=>by rw [hI];exact ⟨B,[f,g],rfl,Qh h1,Kq (hf.below h2) (Kq (hg.below h2) xl_nil)⟩⟩
end
section
variable {w:World} {S:PS} {sf:SF} {x y z:PX} {vs:List Value}
end
abbrev StT:=Int×List Int×PX
def fW (S:PS) (px:RV→PX) (rs:List RV) (i:Int) (st:StT):Except Int StT :=
 if i < 0 then .error 5 else match rs[i.toNat]? with
  | none=>.error 5
  | some r=>if kR r st.1 st.2.1=false then .error 121 else if 4096 < r.wl+(st.2.1.length - 1) then .error 2 else .ok (r.q,r.ws++st.2.1.tail,kO S st.2.2 (px r))
def rX (S:PS) (px:RV→PX) (rs:List RV):List Int→Nat→StT→Option StT×Int×Int
 | [],_,st=>(some st,0,0)
 | i::l,k,st=>match fW S px rs i st with
  | .error c=>(none,(k:Int),c)
  | .ok st'=>rX S px rs l (k+1) st'
section
variable {S:PS} {px:RV→PX} {rs:List RV} {i:Int} {l:List Int} {k:Nat} {st st':StT} {c:Int}
theorem lZ (h:fW S px rs i st = .error c):rX S px rs (i::l) k st=(none,(k:Int),c):=by simp only [rX,h]
theorem Dh (h:fW S px rs i st = .ok st'):rX S px rs (i::l) k st=rX S px rs l (k+1) st':=by simp only [rX,h]
theorem F5 (h:i < 0):fW S px rs i st = .error 5:=by unfold fW;rw [if_pos h]
theorem F6 (h:(rs.length:Int)≤i):fW S px rs i st = .error 5:=by
 unfold fW;rw [if_neg (by omega),List.getElem?_eq_none (by omega)]
theorem yB {n:Nat} {r:RV} (h:rs[n]?=some r):fW S px rs (n:Int) st=if kR r st.1 st.2.1=false then .error 121 else if 4096 < r.wl+(st.2.1.length - 1) then .error 2 else .ok (r.q,r.ws++st.2.1.tail,kO S st.2.2 (px r)):=by
 unfold fW;rw [if_neg (by omega),Int.toNat_natCast,h]
end
def yC (S:PS) (R:Option StT×Int×Int) (w:World) (e:Ending) (w':World):Prop:=Below w.heap.size w w'∧match R with
 | (none,n,c)=>e = .returned (.tuple #[.agg #[.int .i64 0,.slice none 0 0],.agg #[.bool false,.int .i64 0,.int .u64 0,.slice none 0 0,.slice none 0 0,.slice none 0 0],.int .i64 n,.int .i64 c])
 | (some st,_,_)=>∃ a c f,e = .returned (.tuple #[.agg #[.int .i64 st.1,.slice a st.2.1.length c],WF.val f,.int .i64 0,.int .i64 0])∧fT w.heap.size w' a c st.2.1∧jM w.heap.size w' S f st.2.2
theorem iS {S:PS} {n c:Int} {w w':World} (hb:Below w.heap.size w w'):yC S (none,n,c) w (.returned (.tuple #[.agg #[.int .i64 0,.slice none 0 0],.agg #[.bool false,.int .i64 0,.int .u64 0,.slice none 0 0,.slice none 0 0,.slice none 0 0],.int .i64 n,.int .i64 c])) w':=by
 unfold yC
 exact ⟨hb,rfl⟩
theorem yD {α:Type} {l:List α} {k:Nat} {y:α} (h:l[k]?=some y):l.drop k=y::l.drop (k+1):=by
 obtain ⟨hk,rfl⟩:=List.getElem?_eq_some_iff.1 h
 exact List.drop_eq_getElem_cons hk
theorem Qw (p q:Int) (us:List Int):us=[]∨(0 < us.length∧p≠q)∨∃ y t,us=y::t∧p=q:=by
 cases us with
 | nil=>exact .inl rfl
 | cons y t =>
  by_cases h:p=q
  ·exact .inr (.inr ⟨y,t,rfl,h⟩)
  ·exact .inr (.inl ⟨Nat.succ_pos _,h⟩)
theorem top_at {t:List Int} {y:Int}:((y::t).reverse.map (Value.int .i64))[t.length]?=some (.int .i64 y):=by simp
theorem top_cut {t rws:List Int} {y:Int}:((y::t).reverse.map (Value.int .i64)).take (t.length * 1)=(t.reverse++rws.reverse.take 0).map (Value.int .i64):=by simp
theorem Qx {t rws:List Int} {y:Int} {j n:Nat} (hy:rws[n - 1 - j]?=some y) (hn:rws.length=n) (hj:j < n):(t.reverse++rws.reverse.take j).map (Value.int .i64)++[.int .i64 y]=(t.reverse++rws.reverse.take (j+1)).map (Value.int .i64):=by
 have h:rws.reverse[j]?=some y:=by rw [List.getElem?_reverse (by omega),hn];exact hy
 rw [List.take_add_one,h]
 simp
theorem Ir {lo lo':Nat} {S:PS} {x:PX} {v:Value} {w:World} (h:dP lo S x v w) (hl:lo'≤lo):dP lo' S x v w:=by
 obtain ⟨f,e,h⟩:=h
 exact ⟨f,e,h.mono hl⟩
theorem isX_of {lo:Nat} {S:PS} {x:PX} {v:Value} {w w':World} (h:dP lo S x v w) (hb:Below w.heap.size w w'):isX S x v w':=by
 obtain ⟨f,e,h⟩:=h
 exact ⟨f,e,h.is.below hb⟩
theorem yE {P:Program} {f:FuncId} {vs:Array Value} {w:World} {S:PS} {x:PX} {lo:Nat} (hlo:lo≤w.heap.size) (h:Calls P f vs w (gO S x w)):Calls P f vs w (lV (dP lo S x) w):=h.mono fun e w2 ⟨g,he,hn,hb⟩=>⟨g.val,he,fun w3 hg=>⟨g,rfl,(hn.agree hg).mono hlo⟩,hb⟩
theorem times2 {w:World} {S:PS} {sf:SF} {f0:WF} {x y:PX} {vs:List Value} {lo:Nat} (hh:Holds [isV (nI sf f0),yA S [x,y]] vs w) (hs:SIs w S sf) (hok:S.ok) (ht:Tabs w) (hlo:lo≤w.heap.size):Calls prog 40 vs.toArray w (uZ (dP lo S (kO S x y)) w):=by
 obtain ⟨v1,v2,rfl,rfl,b,fs,rfl,hr,hx⟩:=rR hh
 match fs,hr,hx with
 | g0::ft,hr,hx =>
  refine (C8 S sf f0 w hs hok _ 2 2 g0 x ft [y] hr hx (by have:=hx.1;simpa using this) (by decide) (by decide) ht).mono ?_
  rintro e w' ⟨f,rfl,hn,hb⟩
  exact ⟨_,rfl,⟨f,rfl,hn.mono hlo⟩,hb⟩
 | [],hr,hx=>exact absurd hx.1 (by simp)
theorem Is {w:World} {a:Option Addr} {l c:Nat} {ws:List Int} (h:Row w a ws) (hl:ws.length=l) (hm:l≤8192):Calls prog 38 #[.slice a l c] w fun e w'=>∃ v,e = .returned v∧Below w.heap.size w w'∧w'.ownsRow w.heap.size 3 1 v l (ws.map (Value.int .i64)):=by
 cases a with
 | none =>
  have hw:ws=[]:=by
   rcases h with h | ⟨b,off,h,_⟩
   ·exact h
   ·cases h
  subst hw;subst hl
  refine (Tryz.slices_Clone_int_nil _ c w).mono ?_
  rintro e w' ⟨rfl,rfl⟩
  exact ⟨_,rfl,Below.refl _ _,World.ownsRow_nil _ _ _ _⟩
 | some p =>
  rcases h with rfl | ⟨b,off,h,hc⟩
  ·subst hl
   refine (Tryz.slices_Clone_int_zero p c w).mono ?_
   rintro e w' ⟨v,rfl,h1,_,h2⟩
   exact ⟨_,rfl,h2,h1⟩
  ·cases h
   refine (Tryz.slices_Clone_int b off l c ws w (by omega) (by omega) hc).mono ?_
   rintro e w' ⟨v,rfl,h1,_,h2⟩
   rw [List.take_of_length_le (by omega)] at h1
   exact ⟨_,rfl,h2,h1⟩
theorem runA_c (ds d:Nat) (S:PS) (px:RV→PX) (s:SV) (st sy:Int) (ra:Option Addr) (rl rc:Nat) (rs:List RV) (p:Int) (wa:Option Addr) (wl wc:Nat) (ws:List Int) (la:Option Addr) (ll lc:Nat) (is:List Int) (w:World) (hs:SIn w ds s) (hprow:lD w ra rs) (hplen:rs.length=rl) (hin:∀ r∈rs,RIn w d r) (hrow:Row w wa ws) (hlen:ws.length=wl) (hcap:wl≤wc) (hrla:Row w la is) (hll:is.length=ll) (hlm:ll≤9223372036854775807) (hsi:SIs w S s.f) (hok:S.ok) (hchk:stepE ⟨s,st,sy,ra,rl,rc,rs⟩ ⟨p,wa,wl,wc,ws⟩=0) (h4:∀ r∈rs,r.wl≤4096) (hw4:wl≤4096) (hx:∀ r∈rs,XIs w S r.x.f (px r)) (ht:Tabs w) :
  Calls prog 21 #[.agg #[.int .i64 s.f.tag,.int .i64 s.f.dim,.slice s.f.a s.f.len s.f.cap,.int .i64 st,.int .i64 sy,.slice ra rl rc],.agg #[.int .i64 p,.slice wa wl wc],.slice la ll lc] w (yC S (rX S px rs is 0 (p,ws,rH S)) w):=by
 refine cH (args:=[.agg #[.int .i64 s.f.tag,.int .i64 s.f.dim,.slice s.f.a s.f.len s.f.cap,.int .i64 st,.int .i64 sy,.slice ra rl rc],.agg #[.int .i64 p,.slice wa wl wc],.slice la ll lc]) func21 rfl ntmps21 rfl ?_
 have hS:=St.start w
 refine aL (aR (bK (cs:=[_,_,_,_,_,_]) hS rfl rfl rfl fun B1 W1 hS=>bK (cs:=[_,_]) hS rfl rfl rfl fun B2 W2 hS=>bH (cs:=[_,_]) hS zeroValue36 rfl rfl fun B3 W3 hS=>bH (cs:=[_,_,_,_,_,_]) hS zeroValue53 rfl rfl fun B4 W4 hS=>aA rfl rfl (aA rfl rfl (aQ (XF.thenN (aL (aL (aR (aS (vs:=[_,_,_,_,_,_]) isAgg28 sizeOf28 rfl (aE.own (j:=0) (m:=6) (hS.at_ 3 rfl) rfl) rfl (aS (vs:=[_,_]) isAgg36 sizeOf36 rfl (aE.own (j:=0) (m:=2) (hS.at_ 2 rfl) rfl) rfl (cF (vs:=[_,_]) hS Cw rfl (xV ds d ⟨s,st,sy,ra,rl,rc,rs⟩ ⟨p,wa,wl,wc,ws⟩ _ (PvIn.below ⟨hs,hprow,hplen,hin⟩ hS.below) (CIn.below ⟨hrow,hlen⟩ hS.below)) rfl fun W5 hS=>aA rfl rfl (aQ (XF.thenN (aL (aR (aG rfl rfl (dA rfl rfl rfl (aQ (XF.thenN (aZ rfl (fun hc=>absurd (of_decide_eq_true hc) (by exact fun h=>h hchk)) (fun hc=>?_)))))))))))))))))))))
 have hc:=of_decide_eq_false hc
 refine bG (XF.thenN (aL (aR (aP (o':=0) jE rfl rfl rfl (aS (vs:=[_,_,_]) isAgg25 sizeOf25 rfl (aE.own (j:=0) (m:=3) (hS.at_ 3 rfl) rfl) rfl (cO (vs:=[_]) hS J6 rfl (Al S s.f _ (hsi.below hS.below) hok) rfl ?_))))))
 rintro e W6 ⟨f0,rfl,hn0,hb⟩
 refine ⟨_,rfl,hb,fun hS'=>?_⟩
 clear hS;have hS:=hS';clear hS' hb
 refine bH (cs:=[_,_,_,_,_,_,_,_,_]) hS zeroValue81 rfl rfl fun B7 W7 hS=>aV (i:=0) (vs:=[_,_,_,_,_,_,_,_,_]) (cs':=[_,_,_,_,_,_,_,_,_]) (O':=[_,_,_,_,_]) hS sizeOf81 rfl rfl rfl rfl rfl rfl rfl fun W8 hS=>aQ (XF.thenN (aL ?_))
 have hsz5:=hS.below.size
 refine regS (ef:=5) (jy:=1) (ca:=xX (fun _=>[.bool false,.int .i64 0,.int .u64 0,.slice none 0 0,.slice none 0 0,.slice none 0 0]) 4) (ta:=fun _=>53) (Os:=Fz _) (Gs:=uQ _) (al:=[4]) (k:=6) (ds:=[13]) cE rfl hS rfl (by kernel_rfl) (by kernel_rfl) rfl (by decide) rfl (some) (.inl ⟨rfl,rfl⟩) rfl rfl (dB 1 rfl rfl (isV _) (fun hNo=>sgV [(11,_)] rfl rfl rfl rfl hNo (aU rfl) ⟨cI rfl,trivial⟩ (fun ev w he hw=>bF (vs:=[_,_,_,_,_,_,_,_,_]) isAgg81 sizeOf81 rfl ((aE.own (j:=0) (m:=9) (hw.at_ 0 rfl) rfl))) (aH rfl)) ?_)
 refine dB 2 rfl rfl (dP W8.heap.size S (rH S)) (fun hNo=>Dc [isV (nI s.f f0)] rfl rfl rfl rfl hNo goes_37 (aU rfl) ⟨bZ (aO 0 (aB rfl rfl rfl)),trivial⟩ (fun vs ev w' he hSt hlo hh=>by have e:=cB (us:=[_]) hh;subst e;exact yE hlo (Im S s.f f0 w' (hsi.below hSt.below) hok)) (aH rfl)) ?_
 refine dB 3 rfl rfl (isV _) (fun hNo=>sgV [(4,_)] rfl rfl rfl rfl hNo (aU rfl) ⟨cI rfl,trivial⟩ (fun ev w he hw=>aW (o':=0) iM rfl rfl) (aH rfl)) (dB 4 rfl rfl (isV _) (fun hNo=>sgV [(33,_)] rfl rfl rfl rfl hNo (aU rfl) ⟨aO 2 (aB rfl rfl rfl),trivial⟩ (fun ev w he hw=>bA isAgg3 rfl ((aK (hw.at_ 3 rfl) rfl))) (aH rfl)) ?_)
 refine wI 5 rfl (Fx rfl rfl rfl rfl rfl zeroValue53 (fun ev he=>by rw [he rfl];rfl)) ?_
 refine wI 6 rfl (eff_stA (py:=dP W8.heap.size S (rH S)) (m:=6) 4 rfl rfl rfl rfl (by kernel_rfl) rfl (by kernel_rfl) rfl rfl sizeOf53 rfl (fun v w ⟨f,e,_⟩=>⟨f.six,by rw [e];rfl,rfl,rfl⟩)) ?_
 refine wH ?_
 intro Bf9 y9 W9 Ks9 hsz9 hKs9 hS' hcov9
 clear hS;have hS:=hS'.castO (O':=[_,_,_,_,_,_]) rfl;clear hS'
 refine nM (L':=[AwS _ _ (isV _),(fun v w=>v=_∧AwS _ _ (dP W8.heap.size S (rH S)) v w),AwS _ _ (isV _),AwS _ _ (isV _),isV _,isV _]) rfl (bP ?_)
 refine cW ?_;rintro _ ⟨rfl,hA5⟩;obtain ⟨f1,e1,hn1⟩:=hA5.here;subst e1;have hcov5:=@hcov9
 refine bP (bP (aI (Kt (cL (aA rfl rfl (aQ (XF.thenN (aL (aR (aP (o':=1) dZ rfl rfl rfl (aT isAgg29 rfl (aK (hS.at_ 4 rfl) rfl) rfl (xZ (vs:=[_]) (xs:=ws.map (Value.int .i64)) (e1:=3) (size:=1) (m:=wl) hS goes_38 rfl (Is (c:=wc) (hrow.below hS.below) hlen (by omega)) rfl (fun e W2 h=>h) fun v10 W10 hS=>aA rfl rfl (aQ (XF.thenN (aL (aR (aG rfl rfl (Qq (zs:=ws) hS 0 J7 rfl rfl Tryz.slices_Reverse_int Tryz.slices_Reverse_int_empty rfl fun W11 hS=>aQ (XF.thenN (aL (aL (aR (aG rfl rfl (bX underlying29 rfl rfl ?_))))))))))))))))))))))))
 refine aG rfl rfl (aQ (XF.thenN (bM ?_)))
 refine dK (fun m l W=>∃ (k:Nat) (q:Int) (us:List Int) (x:PX) (f:WF) (v:Value) (Kk:List (Nat×World)),k≤ll∧m=ll - k∧l=[(3,.pointer (some ⟨B1,0,none⟩)),(6,.pointer (some ⟨B3,0,none⟩)),(7,.pointer (some ⟨B4,0,none⟩)),(11,.pointer (some ⟨B7,0,none⟩)),(12,.pointer (some ⟨(Bf9 4),0,none⟩)),(13,.int .i64 q),(14,v),(40,.slice la ll lc),(41,.int .i64 (ll:Int)),(42,.int .i64 (k:Int))]∧rX S px rs (is.drop k) k (q,us,x)=rX S px rs is 0 (p,ws,rH S)∧us.length≤4096∧jJ w Kk (fun W2=>dP w.heap.size S x f.val W2)∧St w [((Bf9 4),f.six,53),(B7,[.int .i64 s.f.tag,.int .i64 s.f.dim,.slice s.f.a s.f.len s.f.cap,.bool f0.z,.int .i64 f0.c,.int .u64 (f0.g:Int),.slice f0.ra f0.rl f0.rc,.slice f0.ca f0.cl f0.cc,.slice f0.pa f0.pl f0.pc],81),(B4,[.bool false,.int .i64 0,.int .u64 0,.slice none 0 0,.slice none 0 0,.slice none 0 0],53),(B3,[.int .i64 0,.slice none 0 0],36),(B2,[.int .i64 p,.slice wa wl wc],36),(B1,[.int .i64 s.f.tag,.int .i64 s.f.dim,.slice s.f.a s.f.len s.f.cap,.int .i64 st,.int .i64 sy,.slice ra rl rc],28)] [⟨v,us.length,us.reverse.map (Value.int .i64),3,1⟩] Kk W) (ll - 0) ([(3,_),(6,_),(7,_),(11,_),(12,_),(13,_),(14,_),(40,_),(41,_),(42,_)]) ⟨rfl,rfl,rfl,rfl,rfl,rfl,rfl,rfl,rfl,rfl,trivial⟩ (⟨0,p,ws,rH S,f1,_,Ks9,Nat.zero_le _,rfl,rfl,rfl,by omega,fun h2 hk=>Ir (hA5 _ (hcov5 h2 hk)) hsz5,(hS.keep Ks9 (fun q hq=>List.mem_append_left _ hq)).castG (by subst hlen;rfl)⟩) ?_
 clear hS
 rintro m l W ⟨k,q,us,x,f,v,Kk,hk,rfl,rfl,hrun,hus,hX,hS⟩
 obtain ⟨a,c,rfl,hac⟩:=eC (v:=v) (n:=us.length) (hS.row 0 rfl)
 refine aL (aR (cN rfl rfl rfl (aQ (XF.thenN (aL (aZ rfl (fun hc=>?_) (fun hc=>?_)))))))
 ·have hc43:=of_decide_eq_true hc;clear hc
  have hk1:k < ll:=by omega
  obtain ⟨b0,off0,y,rfl,hy,hyc⟩:=hrla.at1 (show k < is.length by omega)
  have k1:=hS.old hyc
  rw [yD hy] at hrun
  refine bG (XF.thenN (aL (bM (aL (aR (aG rfl rfl (cK  underlying29 sizeOf3 rfl rfl rfl (by omega) rfl rfl (aT isAgg3 rfl (by first | assumption | exact hS.old (by assumption)) rfl (aA rfl rfl (aA rfl rfl (aQ (XF.thenN (aL (aL (aR (aG rfl rfl (cN rfl rfl rfl (aG rfl rfl (bS (d:=49) rfl (fun hc=>?_) (fun hc=>?_))))))))))))))))))))
  ·have hg49:=of_decide_eq_true hc;clear hc
   refine aF (d:=49) rfl rfl rfl rfl (aF (d:=49) rfl rfl rfl rfl (aF (d:=49) rfl rfl rfl rfl (aF (d:=49) rfl rfl rfl rfl (aF (d:=49) rfl rfl rfl rfl (bC rfl rfl rfl (aQ (XF.thenN (dJ rfl (aL (aR (cS (us:=[]) rfl (pE) rfl (cS (us:=[]) rfl (iN) rfl (aG rfl rfl (aV (i:=3) (vs:=[_,_]) (cs':=[_,_]) (O':=[_,_,_,_,_,_]) hS sizeOf36 rfl rfl rfl rfl rfl rfl rfl fun W12 hS=>aV (i:=2) (vs:=[_,_,_,_,_,_]) (cs':=[_,_,_,_,_,_]) (O':=[_,_,_,_,_,_]) hS sizeOf53 rfl rfl rfl rfl rfl rfl rfl fun W13 hS=>aA rfl rfl (aA rfl rfl (aQ (XF.thenN (bJ (XF.thenR (XF.blkR (XF.thenR ?_)))))))))))))))))))))
   refine XF.thenR (XF.blkR (XF.thenR (XF.res (oG (vs:=[_,_]) (us:=[_,_,_,_,_,_]) results21 isAgg36 sizeOf36 rfl (aE.own (j:=0) (m:=2) (hS.at_ 3 rfl) rfl) isAgg53 sizeOf53 rfl (aE.own (j:=0) (m:=6) (hS.at_ 2 rfl) rfl) rfl rfl) ?_)))
   rw [← hrun,lZ (F5 hg49)]
   exact iS hS.below
  ·have hg49:=of_decide_eq_false hc;clear hc
   refine aC (d:=49) rfl rfl (aG rfl rfl (aC (d:=49) rfl rfl (aP (o':=5) eX rfl rfl rfl (aC (d:=49) rfl rfl (aT isAgg26 rfl (aK (hS.at_ 5 rfl) rfl) rfl (aC (d:=49) rfl rfl (bX underlying26 rfl rfl (aC (d:=49) rfl rfl (nY rfl rfl rfl (bV rfl rfl rfl (aQ (XF.thenN (aZ rfl (fun hc=>?_) (fun hc=>?_))))))))))))))
   ·have hc55:=of_decide_eq_true hc;clear hc
    refine aL (aR (cS (us:=[]) rfl (pE) rfl (cS (us:=[]) rfl (iN) rfl (aG rfl rfl (aV (i:=3) (vs:=[_,_]) (cs':=[_,_]) (O':=[_,_,_,_,_,_]) hS sizeOf36 rfl rfl rfl rfl rfl rfl rfl fun W14 hS=>aV (i:=2) (vs:=[_,_,_,_,_,_]) (cs':=[_,_,_,_,_,_]) (O':=[_,_,_,_,_,_]) hS sizeOf53 rfl rfl rfl rfl rfl rfl rfl fun W15 hS=>aA rfl rfl (aA rfl rfl (aQ (XF.thenN (bJ (XF.thenR (XF.blkR (XF.thenR (XF.thenR (XF.blkR (XF.thenR (XF.res (oG (vs:=[_,_]) (us:=[_,_,_,_,_,_]) results21 isAgg36 sizeOf36 rfl (aE.own (j:=0) (m:=2) (hS.at_ 3 rfl) rfl) isAgg53 sizeOf53 rfl (aE.own (j:=0) (m:=6) (hS.at_ 2 rfl) rfl) rfl rfl) ?_))))))))))))))))
    rw [← hrun,lZ (F6 (by omega))]
    exact iS hS.below
   ·have hc55:=of_decide_eq_false hc;clear hc
    obtain ⟨yn,rfl⟩:=Int.eq_ofNat_of_zero_le (show 0≤y by omega)
    have hyn:yn < rl:=by omega
    obtain ⟨r,hr⟩:∃ r,rs[yn]?=some r:=⟨rs[yn]'(by omega),by simp [show yn < rs.length by omega]⟩
    obtain ⟨b2,off2,rfl,hcs⟩:=hprow.at_ hr
    have hri:=hin r (List.mem_of_getElem? hr)
    have hrx:=hx r (List.mem_of_getElem? hr)
    have hr4:=h4 r (List.mem_of_getElem? hr)
    have hst:=yB (S:=S) (px:=px) (st:=(q,us,x)) hr
    obtain ⟨rp,rg,rq,rwa,rwl,rwc,rws,rx⟩:=r
    dsimp only at hst hr4 hrx
    dsimp only [RV.ten] at hcs
    have hrw:Row w rwa rws:=hri.row
    have hrwl:rws.length=rwl:=hri.len
    have k2:=aE.agree hS.agree (Nat.zero_le _) hcs
    refine bG (XF.thenN (aL (aR (aP (o':=5) eX rfl rfl rfl (aT isAgg26 rfl (aK (hS.at_ 5 rfl) rfl) rfl (aG rfl rfl (cK  underlying26 sizeOf62 rfl rfl rfl (by omega) rfl rfl (aS (vs:=[_,_,_,_,_,_,_,_,_,_]) isAgg62 sizeOf62 rfl (by assumption) rfl (aG rfl rfl (bX underlying29 rfl rfl (bH (cs:=[_,_,_,_,_,_,_,_,_,_]) hS zeroValue62 rfl rfl fun B16 W16 hS=>aV (i:=0) (vs:=[_,_,_,_,_,_,_,_,_,_]) (cs':=[_,_,_,_,_,_,_,_,_,_]) (O':=[_,_,_,_,_,_,_]) hS sizeOf62 rfl rfl rfl rfl rfl rfl rfl fun W17 hS=>aA rfl rfl (aQ (XF.thenN (aL (aL ?_)))))))))))))))
    rcases Qw rp q us with h1 | ⟨h1,h2⟩ | ⟨y2,t,h1,h2⟩
    ·subst h1
     have hE:fW S px rs (yn:Int) (q,[],x) = .error 121:=by rw [hst];simp [kR]
     refine iE (m:=18) cE hS (by kernel_rfl) (by kernel_rfl) rfl (cC 1 rfl 18 rfl rfl (fun w hw=>bE rfl) rfl (aM 2 rfl (isV (.bool true)) (aJ _) (kH (li:=[(66,_)]) rfl (aU rfl) ⟨aO 0 (aB rfl rfl rfl),trivial⟩ (fun w hw=>jD rfl rfl) (by simp) (aH rfl)) (aX 3 rfl 67 1 rfl rfl rfl (fun w hw=>bE rfl) rfl (aM 4 rfl (isV undef) (aJ _) (bT rfl (bU 68 rfl (aB rfl rfl rfl) rfl) (aH rfl)) (aM 5 rfl (isV undef) (aJ _) (bT rfl (bU 68 rfl (aB rfl rfl rfl) rfl) (aH rfl)) (aM 6 rfl (isV undef) (aJ _) (bT rfl (bU 68 rfl (aB rfl rfl rfl) rfl) (aH rfl)) (aM 7 rfl (isV undef) (aJ _) (bT rfl (bU 68 rfl (aB rfl rfl rfl) rfl) (aH rfl)) (aX 8 rfl 68 2 rfl rfl rfl (fun w hw=>dU rfl rfl) rfl (aX 9 rfl 73 7 rfl rfl rfl (fun w hw=>bE rfl) rfl (aM 10 rfl (isV undef) (aJ _) (bT rfl (bU 74 rfl (aB rfl rfl rfl) rfl) (aH rfl)) (aM 11 rfl (isV undef) (aJ _) (bT rfl (bU 74 rfl (aB rfl rfl rfl) rfl) (aH rfl)) (aM 12 rfl (isV undef) (aJ _) (bT rfl (bU 74 rfl (aB rfl rfl rfl) rfl) (aH rfl)) (aM 13 rfl (isV undef) (aJ _) (bT rfl (bU 74 rfl (aB rfl rfl rfl) rfl) (aH rfl)) (aM 14 rfl (isV undef) (aJ _) (bT rfl (bU 74 rfl (aB rfl rfl rfl) rfl) (aH rfl)) (aM 15 rfl (isV undef) (aJ _) (bT rfl (bU 74 rfl (aB rfl rfl rfl) rfl) (aH rfl)) (aM 16 rfl (isV undef) (aJ _) (bT rfl (bU 74 rfl (aB rfl rfl rfl) rfl) (aH rfl)) (aM 17 rfl (isV undef) (aJ _) (bT rfl (bU 74 rfl (aB rfl rfl rfl) rfl) (aH rfl)) (aX 18 rfl 74 8 rfl rfl rfl (fun w hw=>dU rfl rfl) rfl (dC ?_)))))))))))))))))))
     intro W18 hbR hS'
     clear hS;have hS:=hS';clear hS'
     refine aI (aI (aI (aI (aI (aI (aI (aI (aI (aI (aI (aI (aI (aI (aI (aI (aI (aI (cL (XF.thenN (dJ rfl ?_))))))))))))))))))))
     refine aL (aR (cS (us:=[]) rfl (pE) rfl (cS (us:=[]) rfl (iN) rfl (aG rfl rfl (aV (i:=4) (vs:=[_,_]) (cs':=[_,_]) (O':=[_,_,_,_,_,_,_]) hS sizeOf36 rfl rfl rfl rfl rfl rfl rfl fun W19 hS=>aV (i:=3) (vs:=[_,_,_,_,_,_]) (cs':=[_,_,_,_,_,_]) (O':=[_,_,_,_,_,_,_]) hS sizeOf53 rfl rfl rfl rfl rfl rfl rfl fun W20 hS=>aA rfl rfl (aA rfl rfl (aQ (XF.thenN (bJ (XF.thenR (XF.blkR (XF.thenR (XF.thenR (XF.blkR (XF.thenR (XF.res (oG (vs:=[_,_]) (us:=[_,_,_,_,_,_]) results21 isAgg36 sizeOf36 rfl (aE.own (j:=0) (m:=2) (hS.at_ 4 rfl) rfl) isAgg53 sizeOf53 rfl (aE.own (j:=0) (m:=6) (hS.at_ 3 rfl) rfl) rfl rfl) ?_))))))))))))))))
     rw [← hrun,lZ hE]
     exact iS hS.below
    ·have hE:fW S px rs (yn:Int) (q,us,x) = .error 121:=by rw [hst];simp [kR,h2]
     refine iE (m:=18) cE hS (by kernel_rfl) (by kernel_rfl) rfl (cC 1 rfl 18 rfl rfl (fun w hw=>bE rfl) rfl (aM 2 rfl (isV (.bool false)) (aJ _) (kH (li:=[(66,_)]) rfl (aU rfl) ⟨aO 0 (aB rfl rfl rfl),trivial⟩ (fun w hw=>jD rfl rfl) (by rw [decide_eq_false (by omega)]) (aH rfl)) (aX 3 rfl 67 1 rfl rfl rfl (fun w hw=>bE rfl) rfl (aM 4 rfl (isV _) (aJ _) (rgV (li:=[(17,_)]) rfl (bQ 68 rfl (aB rfl rfl rfl)) ⟨cI rfl,trivial⟩ (fun w hw=>aW (o':=0) mJ rfl rfl) (aH rfl)) (aM 5 rfl (isV _) (aJ _) (rgV (li:=[(69,_)]) rfl (bQ 68 rfl (aB rfl rfl rfl)) ⟨aO 3 (aB rfl rfl rfl),trivial⟩ (fun w hw=>bA isAgg3 rfl ((aN hw 0).cell (Nat.zero_le _) (aK (hS.at_ 0 rfl) rfl))) (aH rfl)) (aM 6 rfl (isV _) (aJ _) (rgV (li:=[(13,_)]) rfl (bQ 68 rfl (aB rfl rfl rfl)) ⟨cI rfl,trivial⟩ (fun w hw=>bE rfl) (aH rfl)) (aM 7 rfl (isV (.bool true)) (aJ _) (kH (li:=[(70,_),(71,_)]) rfl (bQ 68 rfl (aB rfl rfl rfl)) ⟨aO 4 (aB rfl rfl rfl),aO 5 (aB rfl rfl rfl),trivial⟩ (fun w hw=>rL rfl rfl) (by rw [decide_eq_true h2]) (aH rfl)) (aM 8 rfl (isV _) (aJ _) (rgV (li:=[(68,_),(72,_)]) rfl (aU rfl) ⟨aO 2 (aB rfl rfl rfl),aO 6 (aB rfl rfl rfl),trivial⟩ (fun w hw=>eD rfl rfl) (aH rfl)) (aX 9 rfl 73 7 rfl rfl rfl (fun w hw=>bE rfl) rfl (aM 10 rfl (isV undef) (aJ _) (bT rfl (bU 74 rfl (aB rfl rfl rfl) rfl) (aH rfl)) (aM 11 rfl (isV undef) (aJ _) (bT rfl (bU 74 rfl (aB rfl rfl rfl) rfl) (aH rfl)) (aM 12 rfl (isV undef) (aJ _) (bT rfl (bU 74 rfl (aB rfl rfl rfl) rfl) (aH rfl)) (aM 13 rfl (isV undef) (aJ _) (bT rfl (bU 74 rfl (aB rfl rfl rfl) rfl) (aH rfl)) (aM 14 rfl (isV undef) (aJ _) (bT rfl (bU 74 rfl (aB rfl rfl rfl) rfl) (aH rfl)) (aM 15 rfl (isV undef) (aJ _) (bT rfl (bU 74 rfl (aB rfl rfl rfl) rfl) (aH rfl)) (aM 16 rfl (isV undef) (aJ _) (bT rfl (bU 74 rfl (aB rfl rfl rfl) rfl) (aH rfl)) (aM 17 rfl (isV undef) (aJ _) (bT rfl (bU 74 rfl (aB rfl rfl rfl) rfl) (aH rfl)) (aX 18 rfl 74 8 rfl rfl rfl (fun w hw=>dU rfl rfl) rfl (dC ?_)))))))))))))))))))
     intro W21 hbR hS'
     clear hS;have hS:=hS';clear hS'
     refine aI (aI (aI (aI (aI (aI (aI (aI (aI (aI (aI (aI (aI (aI (aI (aI (aI (aI (cL (XF.thenN (dJ rfl ?_))))))))))))))))))))
     refine aL (aR (cS (us:=[]) rfl (pE) rfl (cS (us:=[]) rfl (iN) rfl (aG rfl rfl (aV (i:=4) (vs:=[_,_]) (cs':=[_,_]) (O':=[_,_,_,_,_,_,_]) hS sizeOf36 rfl rfl rfl rfl rfl rfl rfl fun W22 hS=>aV (i:=3) (vs:=[_,_,_,_,_,_]) (cs':=[_,_,_,_,_,_]) (O':=[_,_,_,_,_,_,_]) hS sizeOf53 rfl rfl rfl rfl rfl rfl rfl fun W23 hS=>aA rfl rfl (aA rfl rfl (aQ (XF.thenN (bJ (XF.thenR (XF.blkR (XF.thenR (XF.thenR (XF.blkR (XF.thenR (XF.res (oG (vs:=[_,_]) (us:=[_,_,_,_,_,_]) results21 isAgg36 sizeOf36 rfl (aE.own (j:=0) (m:=2) (hS.at_ 4 rfl) rfl) isAgg53 sizeOf53 rfl (aE.own (j:=0) (m:=6) (hS.at_ 3 rfl) rfl) rfl rfl) ?_))))))))))))))))
     rw [← hrun,lZ hE]
     exact iS hS.below
    ·subst h1
     have hlt:(y2::t).length=t.length+1:=rfl
     rcases iK (a:=a) (c:=c) (n:=(y2::t).length) (hS.row 0 rfl) with ⟨_,h0⟩ | ⟨b3,rfl,hb3,hcell⟩
     ·exact absurd h0 (by simp)
     have k3:W17.cell? ⟨b3,0+t.length * 1,none⟩=some (.int .i64 y2):=by rw [Nat.zero_add,Nat.mul_one];exact hcell _ _ top_at
     refine iE (m:=18) cE hS (by kernel_rfl) (by kernel_rfl) rfl (cC 1 rfl 18 rfl rfl (fun w hw=>bE rfl) rfl (aM 2 rfl (isV (.bool false)) (aJ _) (kH (li:=[(66,_)]) rfl (aU rfl) ⟨aO 0 (aB rfl rfl rfl),trivial⟩ (fun w hw=>jD rfl rfl) (by rw [decide_eq_false (by omega)]) (aH rfl)) (aX 3 rfl 67 1 rfl rfl rfl (fun w hw=>bE rfl) rfl (aM 4 rfl (isV _) (aJ _) (rgV (li:=[(17,_)]) rfl (bQ 68 rfl (aB rfl rfl rfl)) ⟨cI rfl,trivial⟩ (fun w hw=>aW (o':=0) mJ rfl rfl) (aH rfl)) (aM 5 rfl (isV _) (aJ _) (rgV (li:=[(69,_)]) rfl (bQ 68 rfl (aB rfl rfl rfl)) ⟨aO 3 (aB rfl rfl rfl),trivial⟩ (fun w hw=>bA isAgg3 rfl ((aN hw 0).cell (Nat.zero_le _) (aK (hS.at_ 0 rfl) rfl))) (aH rfl)) (aM 6 rfl (isV _) (aJ _) (rgV (li:=[(13,_)]) rfl (bQ 68 rfl (aB rfl rfl rfl)) ⟨cI rfl,trivial⟩ (fun w hw=>bE rfl) (aH rfl)) (aM 7 rfl (isV (.bool false)) (aJ _) (kH (li:=[(70,_),(71,_)]) rfl (bQ 68 rfl (aB rfl rfl rfl)) ⟨aO 4 (aB rfl rfl rfl),aO 5 (aB rfl rfl rfl),trivial⟩ (fun w hw=>rL rfl rfl) (by rw [decide_eq_false (fun h=>h h2)]) (aH rfl)) (aM 8 rfl (isV _) (aJ _) (rgV (li:=[(68,_),(72,_)]) rfl (aU rfl) ⟨aO 2 (aB rfl rfl rfl),aO 6 (aB rfl rfl rfl),trivial⟩ (fun w hw=>eD rfl rfl) (aH rfl)) (aX 9 rfl 73 7 rfl rfl rfl (fun w hw=>bE rfl) rfl (aM 10 rfl (isV _) (aJ _) (rgV (li:=[(17,_)]) rfl (bQ 74 rfl (aB rfl rfl rfl)) ⟨cI rfl,trivial⟩ (fun w hw=>aW (o':=1) tF rfl rfl) (aH rfl)) (aM 11 rfl (isV _) (aJ _) (rgV (li:=[(75,_)]) rfl (bQ 74 rfl (aB rfl rfl rfl)) ⟨aO 9 (aB rfl rfl rfl),trivial⟩ (fun w hw=>bA isAgg3 rfl ((aN hw 0).cell (Nat.zero_le _) (aK (hS.at_ 0 rfl) rfl))) (aH rfl)) (aM 12 rfl (isV _) (aJ _) (rgV (li:=[(14,_)]) rfl (bQ 74 rfl (aB rfl rfl rfl)) ⟨cI rfl,trivial⟩ (fun w hw=>bE rfl) (aH rfl)) (aM 13 rfl (isV _) (aJ _) (rgV (li:=[(18,_)]) rfl (bQ 74 rfl (aB rfl rfl rfl)) ⟨cI rfl,trivial⟩ (fun w hw=>bE rfl) (aH rfl)) (aM 14 rfl (isV _) (aJ _) (rgV (li:=[(78,_)]) rfl (bQ 74 rfl (aB rfl rfl rfl)) ⟨aO 12 (aB rfl rfl rfl),trivial⟩ (fun w hw=>Pf rfl rfl (IntWalk.i64_in _ (by omega))) (aH rfl)) (aM 15 rfl (isV _) (aJ _) (rgV (li:=[(77,_),(79,_)]) rfl (bQ 74 rfl (aB rfl rfl rfl)) ⟨aO 11 (aB rfl rfl rfl),aO 13 (aB rfl rfl rfl),trivial⟩ (fun w hw=>bB (j:=t.length) underlying29 sizeOf3 rfl rfl (by omega) (by omega) rfl) (aH rfl)) (aM 16 rfl (isV _) (aJ _) (rgV (li:=[(80,_)]) rfl (bQ 74 rfl (aB rfl rfl rfl)) ⟨aO 14 (aB rfl rfl rfl),trivial⟩ (fun w hw=>bA isAgg3 rfl ((aN hw 0).cell (Nat.zero_le _) (by assumption))) (aH rfl)) (aM 17 rfl (isV _) (aJ _) (rgV (li:=[(76,_),(81,_)]) rfl (bQ 74 rfl (aB rfl rfl rfl)) ⟨aO 10 (aB rfl rfl rfl),aO 15 (aB rfl rfl rfl),trivial⟩ (fun w hw=>rL rfl rfl) (aH rfl)) (aM 18 rfl (isV _) (aJ _) (rgV (li:=[(74,_),(82,_)]) rfl (aU rfl) ⟨aO 8 (aB rfl rfl rfl),aO 16 (aB rfl rfl rfl),trivial⟩ (fun w hw=>eD rfl rfl) (aH rfl)) (dC ?_)))))))))))))))))))
     intro W24 hbR hS'
     clear hS;have hS:=hS';clear hS'
     refine aI (aI (aI (aI (aI (aI (aI (aI (aI (aI (aI (aI (aI (aI (aI (aI (aI (aI (cL (XF.thenN (aZ rfl (fun hc=>?_) (fun hc=>?_)))))))))))))))))))))
     ·have hc83:=hc;clear hc
      have hne:=of_decide_eq_true hc83
      have hE:fW S px rs (yn:Int) (q,y2::t,x) = .error 121:=by rw [hst];simp [kR,h2,Ne.symm hne]
      refine aL (aR (cS (us:=[]) rfl (pE) rfl (cS (us:=[]) rfl (iN) rfl (aG rfl rfl (aV (i:=4) (vs:=[_,_]) (cs':=[_,_]) (O':=[_,_,_,_,_,_,_]) hS sizeOf36 rfl rfl rfl rfl rfl rfl rfl fun W25 hS=>aV (i:=3) (vs:=[_,_,_,_,_,_]) (cs':=[_,_,_,_,_,_]) (O':=[_,_,_,_,_,_,_]) hS sizeOf53 rfl rfl rfl rfl rfl rfl rfl fun W26 hS=>aA rfl rfl (aA rfl rfl (aQ (XF.thenN (bJ (XF.thenR (XF.blkR (XF.thenR (XF.thenR (XF.blkR (XF.thenR (XF.res (oG (vs:=[_,_]) (us:=[_,_,_,_,_,_]) results21 isAgg36 sizeOf36 rfl (aE.own (j:=0) (m:=2) (hS.at_ 4 rfl) rfl) isAgg53 sizeOf53 rfl (aE.own (j:=0) (m:=6) (hS.at_ 3 rfl) rfl) rfl rfl) ?_))))))))))))))))
      rw [← hrun,lZ hE]
      exact iS hS.below
     ·have hc83:=hc;clear hc
      have hgy:y2=rg:=(Decidable.of_not_not (of_decide_eq_false hc83)).symm
      have happ:kR ⟨rp,rg,rq,rwa,rwl,rwc,rws,rx⟩ q (y2::t)=true:=by simp [kR,h2,hgy]
      refine bG (XF.thenN (aL (aL (aR (aG rfl rfl (rM rfl rfl (IntWalk.i64_in _ (by omega)) rfl (aP (o':=3) iC rfl rfl rfl (aT isAgg29 rfl (aK (hS.at_ 0 rfl) rfl) rfl (bX underlying29 rfl rfl (cR rfl rfl (IntWalk.i64_in _ (by omega)) rfl (dM rfl rfl rfl (aQ (XF.thenN (aZ rfl (fun hc=>?_) (fun hc=>?_)))))))))))))))
      ·have hc93:=of_decide_eq_true hc;clear hc
       have hE:fW S px rs (yn:Int) (q,y2::t,x) = .error 2:=by rw [hst,if_neg (by rw [happ];simp),if_pos (by omega)]
       refine aL (aR (cS (us:=[]) rfl (pE) rfl (cS (us:=[]) rfl (iN) rfl (aG rfl rfl (aV (i:=4) (vs:=[_,_]) (cs':=[_,_]) (O':=[_,_,_,_,_,_,_]) hS sizeOf36 rfl rfl rfl rfl rfl rfl rfl fun W27 hS=>aV (i:=3) (vs:=[_,_,_,_,_,_]) (cs':=[_,_,_,_,_,_]) (O':=[_,_,_,_,_,_,_]) hS sizeOf53 rfl rfl rfl rfl rfl rfl rfl fun W28 hS=>aA rfl rfl (aA rfl rfl (aQ (XF.thenN (bJ (XF.thenR (XF.blkR (XF.thenR (XF.thenR (XF.blkR (XF.thenR (XF.res (oG (vs:=[_,_]) (us:=[_,_,_,_,_,_]) results21 isAgg36 sizeOf36 rfl (aE.own (j:=0) (m:=2) (hS.at_ 4 rfl) rfl) isAgg53 sizeOf53 rfl (aE.own (j:=0) (m:=6) (hS.at_ 3 rfl) rfl) rfl rfl) ?_))))))))))))))))
       rw [← hrun,lZ hE]
       exact iS hS.below
      ·have hc93:=of_decide_eq_false hc;clear hc
       have hO:fW S px rs (yn:Int) (q,y2::t,x) = .ok (rq,rws++t,kO S x (px ⟨rp,rg,rq,rwa,rwl,rwc,rws,rx⟩)):=by rw [hst,if_neg (by rw [happ];simp),if_neg (by omega)];rfl
       refine bG (XF.thenN (aL (aR (aG rfl rfl (aG rfl rfl (rM rfl rfl (IntWalk.i64_in _ (by omega)) rfl (Qr (k:=t.length) hS 0 underlying29 sizeOf3 rfl rfl rfl (by omega) (by omega) rfl ?_)))))))
       intro hS';clear hS;have hS:=hS';clear hS'
       refine aA rfl rfl (aQ (XF.thenN (aL (aL ?_))))
       have hS:=hS.castG (congrArg (fun z=>[GR.mk (.slice (some ⟨b3,0,none⟩) t.length c) t.length z 3 1]) (top_cut (rws:=rws)))
       refine aR (aP (o':=3) iC rfl rfl rfl (aT isAgg29 rfl (aK (hS.at_ 0 rfl) rfl) rfl (bX underlying29 rfl rfl (aG rfl rfl (aQ (XF.thenN (bM (dK (fun m2 l W=>∃ (j:Nat) (v:Value),j≤rwl∧m2=rwl - j∧l=[(3,.pointer (some ⟨B1,0,none⟩)),(6,.pointer (some ⟨B3,0,none⟩)),(7,.pointer (some ⟨B4,0,none⟩)),(11,.pointer (some ⟨B7,0,none⟩)),(12,.pointer (some ⟨(Bf9 4),0,none⟩)),(13,.int .i64 q),(14,v),(15,.int .i64 (k:Int)),(17,.pointer (some ⟨B16,0,none⟩)),(40,.slice (some ⟨b0,off0,none⟩) ll lc),(41,.int .i64 (ll:Int)),(42,.int .i64 (k:Int)),(103,.int .i64 (rwl:Int)),(104,.int .i64 (j:Int))]∧St w [(B16,[.int .i64 rp,.int .i64 rg,.int .i64 rq,.slice rwa rwl rwc,.bool rx.f.z,.int .i64 rx.f.c,.int .u64 (rx.f.g:Int),.slice rx.f.ra rx.f.rl rx.f.rc,.slice rx.f.ca rx.f.cl rx.f.cc,.slice rx.f.pa rx.f.pl rx.f.pc],62),((Bf9 4),f.six,53),(B7,[.int .i64 s.f.tag,.int .i64 s.f.dim,.slice s.f.a s.f.len s.f.cap,.bool f0.z,.int .i64 f0.c,.int .u64 (f0.g:Int),.slice f0.ra f0.rl f0.rc,.slice f0.ca f0.cl f0.cc,.slice f0.pa f0.pl f0.pc],81),(B4,[.bool false,.int .i64 0,.int .u64 0,.slice none 0 0,.slice none 0 0,.slice none 0 0],53),(B3,[.int .i64 0,.slice none 0 0],36),(B2,[.int .i64 p,.slice wa wl wc],36),(B1,[.int .i64 s.f.tag,.int .i64 s.f.dim,.slice s.f.a s.f.len s.f.cap,.int .i64 st,.int .i64 sy,.slice (some ⟨b2,off2,none⟩) rl rc],28)] [⟨v,t.length+j,(t.reverse++rws.reverse.take j).map (Value.int .i64),3,1⟩] Kk W) (rwl - 0) ([(3,_),(6,_),(7,_),(11,_),(12,_),(13,_),(14,_),(15,_),(17,_),(40,_),(41,_),(42,_),(103,_),(104,_)]) ⟨rfl,rfl,rfl,rfl,rfl,rfl,rfl,rfl,rfl,rfl,rfl,rfl,rfl,rfl,trivial⟩ (⟨0,_,Nat.zero_le _,rfl,rfl,hS.keep Kk (fun q hq=>List.mem_cons_of_mem _ hq)⟩) ?_))))))))
       clear hS
       rintro m2 l W ⟨j,v,hj,rfl,rfl,hS⟩
       refine aL (aR (cN rfl rfl rfl (aQ (XF.thenN (aL (aZ rfl (fun hc=>?_) (fun hc=>?_)))))))
       ·have hc105:=of_decide_eq_true hc;clear hc
        have hj1:j < rwl:=by omega
        obtain ⟨b4,off4,y4,rfl,hy4,hy4c⟩:=hrw.at1 (i:=rwl - 1 - j) (show rwl - 1 - j < rws.length by omega)
        have k4:=hS.old hy4c
        refine bG (XF.thenN (aL (bM (aL (aR (aG rfl rfl (aA rfl rfl (aQ (XF.thenN (aR (aG rfl rfl (aP (o':=3) iC rfl rfl rfl (aT isAgg29 rfl (aK (hS.at_ 0 rfl) rfl) rfl (aP (o':=3) iC rfl rfl rfl (aT isAgg29 rfl (aK (hS.at_ 0 rfl) rfl) rfl (bX underlying29 rfl rfl (rM rfl rfl (IntWalk.i64_in _ (by omega)) rfl (aG rfl rfl (rM rfl rfl (IntWalk.i64_in _ (by omega)) rfl (cK (j:=rwl - 1 - j) underlying29 sizeOf3 rfl rfl (by omega) (by omega) rfl rfl (aT isAgg3 rfl (by first | assumption | exact hS.old (by assumption)) rfl (cU (us:=[(0,.int .i64 _)]) hS underlying29 sizeOf3 zeroValue3 rfl rfl rfl (qI _) rfl fun B29 W29 hS=>?_))))))))))))))))))))))
        refine iB (i:=0) (news:=[_]) hS underlying29 qZ rfl rfl (by show 0 < 1;decide) rfl rfl rfl rfl rfl (aE.own (j:=0) (m:=1) (hS.at_ 0 rfl) rfl) rfl rfl (by simp only [maxLen];omega) (by show (t.length+j+1) * 8≤_;omega) rfl fun v30 W30 hS=>?_
        have hS:=hS.castG (congrArg (fun z=>[GR.mk v30 (t.length+(j+1)) z 3 1]) (Qx hy4 hrwl hj1))
        refine aA rfl rfl (aQ (XF.blkN (XF.thenN (aR (cR rfl rfl (IntWalk.i64_in _ (by omega)) rfl (aG rfl rfl (aQ ?_)))))))
        exact XF.round (rwl - (j+1)) [(3,_),(6,_),(7,_),(11,_),(12,_),(13,_),(14,_),(15,_),(17,_),(40,_),(41,_),(42,_),(103,_),(104,_)] (by omega) ⟨rfl,rfl,rfl,rfl,rfl,rfl,rfl,rfl,rfl,rfl,rfl,rfl,rfl,rfl,trivial⟩ ⟨j+1,_,by omega,rfl,rfl,hS.tail⟩
       ·have hc105:=of_decide_eq_false hc;clear hc
        have hjr:j=rwl:=by omega
        have hS:=hS.castG (G':=[⟨v,(rws++t).length,(rws++t).reverse.map (Value.int .i64),3,1⟩]) (by rw [show t.length+j=(rws++t).length by simp;omega,show t.reverse++rws.reverse.take j=(rws++t).reverse by rw [List.take_of_length_le (by simp;omega)];simp])
        refine dE (XF.thenX (XF.thenX (XF.blkX (XF.thenN ?_))))
        have hsz:=hS.below.size
        have hXw:=hX.now hS
        have hrxw:=hrx.below hS.below
        refine pB cE 9 hS rfl rfl (by kernel_rfl) (by kernel_rfl) (by kernel_rfl) (fun d hd=>by cases hd) (cC 1 rfl 17 rfl rfl (fun w hw=>aW (o':=2) qJ rfl rfl) rfl (aX 2 rfl 121 0 rfl rfl rfl (fun w hw=>bA isAgg3 rfl ((aN hw 0).cell (Nat.zero_le _) (aK (hS.at_ 0 rfl) rfl))) rfl (cC 3 rfl 11 rfl rfl (fun w hw=>bF (vs:=[_,_,_,_,_,_,_,_,_]) isAgg81 sizeOf81 rfl (aE.agree (aN hw 0) (Nat.zero_le _) (aE.own (j:=0) (m:=9) (hS.at_ 2 rfl) rfl))) rfl (aM 4 rfl (isX S x) (F3) (rgP (li:=[(12,_)]) rfl (aU rfl) ⟨cI rfl,trivial⟩ (fun w hw=>bF (vs:=[_,_,_,_,_,_]) isAgg53 sizeOf53 rfl (aE.agree (aN hw 0) (Nat.zero_le _) (aE.own (j:=0) (m:=6) (hS.at_ 1 rfl) rfl))) (fun w hw=>isX_of hXw hw) (aH rfl)) (cC 5 rfl 17 rfl rfl (fun w hw=>aW (o':=4) tG rfl rfl) rfl (aM 6 rfl (isX S (px ⟨rp,rg,rq,rwa,rwl,rwc,rws,rx⟩)) (F3) (rgP (li:=[(125,_)]) rfl (aU rfl) ⟨aO 4 (aB rfl rfl rfl),trivial⟩ (fun w hw=>bF (vs:=[_,_,_,_,_,_]) isAgg53 sizeOf53 rfl (aE.agree (aN hw 0) (Nat.zero_le _) (aE.own (j:=4) (m:=6) (hS.at_ 0 rfl) rfl))) (fun w hw=>⟨rx.f,rfl,hrxw.below hw⟩) (aH rfl)) (aM 7 rfl (yA S [x,px ⟨rp,rg,rq,rwa,rwl,rwc,rws,rx⟩]) (F4) (Qv rfl (aU rfl) ⟨bZ (aO 3 (aB rfl rfl rfl)),bZ (aO 5 (aB rfl rfl rfl)),trivial⟩ (aH rfl)) (aM 8 rfl (dP W.heap.size S (kO S x (px ⟨rp,rg,rq,rwa,rwl,rwc,rws,rx⟩))) (dQ) (cV [isV (nI s.f f0),yA S [x,px ⟨rp,rg,rq,rwa,rwl,rwc,rws,rx⟩]] rfl goes_40 (aU rfl) ⟨bZ (aO 2 (aB rfl rfl rfl)),bZ (aO 6 (aB rfl rfl rfl)),trivial⟩ (fun vs w' hb hh=>times2 hh (hsi.below (hS.below.trans (hb.mono hS.below.size))) hok (ht.below (hS.below.trans (hb.mono hS.below.size))) hb.size) (aH rfl)) (aX 9 rfl 122 1 rfl rfl rfl (fun w hw=>eM rfl) rfl (dC ?_))))))))))
        intro W31 hbR hS'
        clear hS;have hS:=hS';clear hS'
        refine aI (aI (aI ?_))
        refine cW ?_;rintro _ _
        refine aI ?_
        refine cW ?_;rintro _ _
        refine cW ?_;rintro _ _
        refine cW ?_;rintro _ ⟨f2,rfl,hn2⟩
        refine aI (cL (aV (i:=1) (vs:=[_,_,_,_,_,_]) (cs':=[_,_,_,_,_,_]) (O':=[_,_,_,_,_,_,_]) hS sizeOf53 rfl rfl rfl rfl rfl rfl rfl fun W32 hS=>aQ (XF.blkN (XF.thenN (aR (cR rfl rfl (IntWalk.i64_in _ (by omega)) rfl (aG rfl rfl (aQ ?_))))))))
        exact XF.round (ll - (k+1)) [(3,_),(6,_),(7,_),(11,_),(12,_),(13,_),(14,_),(40,_),(41,_),(42,_)] (by omega) ⟨rfl,rfl,rfl,rfl,rfl,rfl,rfl,rfl,rfl,rfl,trivial⟩ ⟨k+1,rq,rws++t,kO S x (px ⟨rp,rg,rq,rwa,rwl,rwc,rws,rx⟩),f2,v,[(_,_)],by omega,rfl,rfl,by rw [← hrun,Dh hO],by simp;omega,jJ.one (fun W2 hg=>⟨f2,rfl,(hn2.agree hg).mono hsz⟩),hS.tail.keep [_] (fun q hq=>by simp at hq;subst hq;exact List.mem_cons_self)⟩
 ·have hc43:=of_decide_eq_false hc;clear hc
  rw [List.drop_of_length_le (by omega)] at hrun
  refine dE (XF.thenX (XF.thenX (XF.blkX (XF.thenN (aL (aR (aG rfl rfl (Qq (zs:=us.reverse) hS 0 J7 rfl rfl Tryz.slices_Reverse_int Tryz.slices_Reverse_int_empty rfl fun W33 hS=>aQ (XF.thenN (aL (regS (ef:=4) (jy:=8) (ca:=Fy (fun _=>[])) (ta:=fun _=>0) (Os:=Df _ 3 0 B3 ([.int .i64 0,.slice none 0 0]) ([.int .i64 q,.slice a us.length c]) 36) (Gs:=uQ _) (al:=[]) (k:=5) (ds:=[8,9]) cE rfl hS rfl (by kernel_rfl) (by kernel_rfl) rfl (by decide) rfl (some) (.inl ⟨rfl,rfl⟩) rfl rfl (dB 1 rfl rfl (isV _) (fun hNo=>sgV [(13,_)] rfl rfl rfl rfl hNo (aU rfl) ⟨cI rfl,trivial⟩ (fun ev w he hw=>bE rfl) (aH rfl)) (dB 2 rfl rfl (isV _) (fun hNo=>sgV [(14,_)] rfl rfl rfl rfl hNo (aU rfl) ⟨cI rfl,trivial⟩ (fun ev w he hw=>bE rfl) (aH rfl)) (dB 3 rfl rfl (isV _) (fun hNo=>sgV [(132,_),(133,_)] rfl rfl rfl rfl hNo (aU rfl) ⟨aO 0 (aB rfl rfl rfl),aO 1 (aB rfl rfl rfl),trivial⟩ (fun ev w he hw=>oY (us:=[(0,.int .i64 _),(1,.slice _ _ _)]) rfl (rP _ _ _ _)) (aH rfl)) (dB 4 rfl rfl (isV _) (fun hNo=>sgV [(12,_)] rfl rfl rfl rfl hNo (aU rfl) ⟨cI rfl,trivial⟩ (fun ev w he hw=>bF (vs:=[_,_,_,_,_,_]) isAgg53 sizeOf53 rfl ((aE.own (j:=0) (m:=6) (hw.at_ 0 (osSt_at (i:=0) (j:=3) rfl rfl)) rfl))) (aH rfl)) ?_)))))))))))))))
  refine wI 5 rfl (eff_stO (m:=2) 3 0 [(6,_),(134,_)] rfl rfl rfl rfl (fun j hj=>by rcases hj with h | rfl<;>first | (cases h<;>rfl) | rfl) ⟨cI rfl,aO 2 (aB rfl rfl rfl),trivial⟩ rfl rfl rfl sizeOf36 rfl rfl rfl rfl) ?_
  refine wH ?_
  intro Bf34 y34 W34 Ks34 hsz34 hKs34 hS' hcov34
  clear hS;have hS:=hS'.castO (O':=[_,_,_,_,_,_]) rfl;clear hS'
  refine nM (L':=[AwS _ _ (isV _),AwS _ _ (isV _),AwS _ _ (isV _),AwS _ _ (isV _),isV _]) rfl (bP (bP (bP (bP (Kt (cL (aV (i:=2) (vs:=[_,_,_,_,_,_]) (cs':=[_,_,_,_,_,_]) (O':=[_,_,_,_,_,_]) hS sizeOf53 rfl rfl rfl rfl rfl rfl rfl fun W35 hS=>aA rfl rfl (aA rfl rfl (aQ (XF.thenN (bJ (XF.res (oG (vs:=[_,_]) (us:=[_,_,_,_,_,_]) results21 isAgg36 sizeOf36 rfl (aE.own (j:=0) (m:=2) (hS.at_ 3 rfl) rfl) isAgg53 sizeOf53 rfl (aE.own (j:=0) (m:=6) (hS.at_ 2 rfl) rfl) rfl rfl) ?_))))))))))))
  rw [← hrun]
  obtain ⟨f',e',h'⟩:=hX hS (fun q hq=>List.mem_append_right _ hq)
  exact ⟨hS.below,a,c,f',congrArg (fun z=>Ending.returned (.tuple #[.agg #[.int .i64 q,.slice a us.length c],z,.int .i64 0,.int .i64 0])) e',by have h9:=hS.row 0 rfl;simp only [List.reverse_reverse] at h9;exact h9,h'⟩
section
variable {P:Program} {n:Nat} {Q:Exit→Act→World→Prop} {l:Fr} {w0 W:World} {ops:Array Oper} {os:List Oper} {K:List (Nat×World)} {L:List Asr} {i:Nat}
variable {O:Own} {Gs:List Value→cY} {efs:List Nat} {lo:Nat} {s:List Value}
variable {d:Nat} {op:Op} {ty:TypeId} {pos:String} {aft_:Array Edge} {v:Value} {gd:Option (Nat×Bool)}
variable {Goal:List Asr→Prop}
def gsC (G:cY) (E:List (Nat×(Value→GR))) (s:List Value):cY:=(E.zip s).foldl (fun G p=>G.set p.1.1 (p.1.2 p.2)) G
theorem hg0 {Gs:List Value→cY} {gi:Nat} {g:GR} (h:(Gs [])[gi]?=some g):∀ s,s.length=0→(Gs s)[gi]?=some g:=fun s hs=>by rw [List.eq_nil_of_length_eq_zero hs];exact h
theorem hg1 {Gs:List Value→cY} {gi:Nat} {g:GR} (h:∀ a,(Gs [a])[gi]?=some g):∀ s,s.length=1→(Gs s)[gi]?=some g:=fun s hs=>by obtain ⟨a,rfl⟩:=List.length_eq_one_iff.1 hs;exact h a
theorem hgs0 {Gs:List Value→cY} {gi gn m size:Nat} {gxs cs:List Value} {e:TypeId} (h:∀ v',Gs [v']=(Gs []).set gi ⟨v',gn+m,gxs++cs,e,size⟩):∀ s v',s.length=0→Gs (s++[v'])=(Gs s).set gi ⟨v',gn+m,gxs++cs,e,size⟩:=fun s v' hs=>by rw [List.eq_nil_of_length_eq_zero hs];exact h v'
theorem Qy {w:World} {B m:Nat} {cs:List Value} {e:TypeId} (h:w.heap[B]?=some (.cells cs.toArray e (0,0))):((some ⟨B,0,none⟩:Option Addr)=none∧m=0)∨∃ p,(some ⟨B,0,none⟩:Option Addr)=some p∧∀ (j:Nat) u,cs[j]?=some u→w.cell? (p.add j)=some u :=
 .inr ⟨_,rfl,fun j u hj=>by
  rw [Addr.add_lit,Nat.zero_add]
  simp only [World.cell?,h]
  simpa using hj⟩
theorem Di {P:Program} {n:Nat} {l:Fr} {W:World} {fn:Func} {t u v:Nat} {x y z:Value} (hf:fn.results=#[.tmp t,.tmp u,.tmp v]) (hx:look l t=some x) (hy:look l u=some y) (hz:look l v=some z):∀ a,Has n l a→(results fn a.tmps).run P W = .ok (.tuple #[x,y,z]) W:=fun a ha=>by
 have h1:=ha.at_ t _ hx
 have h2:=ha.at_ u _ hy
 have h3:=ha.at_ v _ hz
 rw [Array.getD_eq_getD_getElem?] at h1 h2 h3
 simp [results,hf,h1,h2,h3]
end
section
variable {P:Program} {ops:Array Oper} {Q:Exit→Act→World→Prop} {σ:Type}
structure RInvF (fr:Nat→Bool) (ops:Array Oper) (t0:Array Value) (d0:List Deferred) (G:σ→World→Prop) (I:σ→Nat→Value→World→Prop) (V:σ→Array Bool→Prop) (s:σ) (L:Array Bool) (a:Act) (w:World):Prop where
 size:a.tmps.size=t0.size
 defers:a.defers=d0
 frame:∀ t,fr t=true→a.tmps.getD t undef=t0.getD t undef
 glob:G s w
 cons:V s L
 done:∀ i d,(ops[i]?).bind (·.dst)=some d→L.getD i false=true→I s i (a.tmps.getD d undef) w
def Dj (P:Program) (fr:Nat→Bool) (ops:Array Oper) (Q:Exit→Act→World→Prop) (t0:Array Value) (G:σ→World→Prop) (I:σ→Nat→Value→World→Prop) (V:σ→Array Bool→Prop) (i:Nat):Prop :=
 ∀ s L (a:Act) w,(∀ t,fr t=true→a.eval (.tmp t)=t0.getD t undef)→G s w→V s L→L.size=ops.size→gT ops L→oC ops L i→(∀ j d,bI ops i j d=true→I s j (a.eval (.tmp d)) w) →
  wpOp P ops Q i (fun a' w'=>∃ s' v,a'=a.put ((ops[i]?).bind (·.dst)) v∧V s' (L.setIfInBounds i true)∧G s' w'∧(∀ d,(ops[i]?).bind (·.dst)=some d→I s' i v w')∧(∀ j d,j≠i→(ops[j]?).bind (·.dst)=some d→I s j (a.tmps.getD d undef) w→I s' j (a.tmps.getD d undef) w')) a w
theorem mR {fr:Nat→Bool} {t0:Array Value} {d0:List Deferred} {G:σ→World→Prop} {I:σ→Nat→Value→World→Prop} {V:σ→Array Bool→Prop} {k:Nat} (hfr:∀ i d,i < k→(ops[i]?).bind (·.dst)=some d→fr d=false) (hk:k < ops.size) (hl:vG ops k=true) (ht:eP ops t0.size=true)
  (hstep:∀ i,i < k→Dj P fr ops Q t0 G I V i)
  (hfin:∀ s L a w,RInvF fr ops t0 d0 G I V s L a w→(∀ i,i < k→L.getD i false=true)→(∀ i,k≤i→L.getD i false=false)→wpList P ops Q (ops.toList.drop k) a w) :
  ∀ (fuel:Nat) (s:σ) (L:Array Bool) (a:Act) (w:World),L.size=ops.size→L.toList.count false≤fuel→gT ops L→(∀ i,k≤i→L.getD i false=false)→RInvF fr ops t0 d0 G I V s L a w→wpAny P .any ops Q fuel L a w:=by
 intro fuel
 induction fuel with
 | zero =>
  intro s L a w hs hc hcl hn h
  have:=iL _ _ (nJ (by omega) (hn k (Nat.le_refl _)))
  omega
 | succ fuel ih =>
  intro s L a w hs hc hcl hn h
  by_cases hall:∀ i,i < k→L.getD i false=true
  ·have hcnt:ops.size - k≤L.toList.count false:=by
    have key:∀ (l:List Bool) (k:Nat),(∀ i,k≤i→i < l.length→l[i]?=some false)→l.length - k≤l.count false:=by
     intro l
     induction l with
     | nil=>intro k _;simp
     | cons b l ihl =>
      intro k hk
      cases k with
      | zero =>
       have h0:=hk 0 (Nat.le_refl _) (by simp)
       simp at h0;subst h0
       have:=ihl 0 (fun i _ hi=>by have:=hk (i+1) (by omega) (by simpa using hi);simpa using this)
       simp at this ⊢;omega
      | succ k =>
       have:=ihl k (fun i hi hi2=>by have:=hk (i+1) (by omega) (by simpa using hi2);simpa using this)
       rw [List.count_cons];simp;omega
    have:=key L.toList k (fun i h1 h2=>nJ (by simpa using h2) (hn i h1))
    simpa [hs] using this
   exact xW (fun _ _=>trivial) hl ht (ops.size - k) k (fuel+1) L a w (by omega) (Nat.le_refl _) (by omega) hs hcl hall hn (hfin s L a w h hall hn)
  ·refine ⟨fun hr=>?_,fun i hi=>?_⟩
   ·exfalso;apply hall
    intro i hi
    have h1:=jS ht hs hr i (by omega)
    rw [Array.getD_eq_getD_getElem?,Array.getElem?_eq_getElem (by omega)] at h1 ⊢
    simpa using h1
   ·obtain ⟨his,hr⟩:=tL hi hs
    have hik:i < k:=by
     rcases Nat.lt_or_ge i k with h1 | h1
     ·exact h1
     ·exfalso;apply hall
      intro x hx
      exact kI hcl hr x (rV hl his h1 (by omega))
    have hc1:=iL _ _ (nJ (by omega) hr.1)
    refine wpOp_mono ?_ (hstep i hik s L a w (fun t ht=>h.frame t ht) h.glob h.cons hs hcl hr (fun j d hw=>?_))
    ·rintro a' w' ⟨s',v,rfl,hV,hG,hI,hst⟩
     refine ih s' _ _ _ (by simpa using hs) ?_ (hcl.next hr (by omega)) (fun x hx=>by rw [getD_set_ne false (by omega)];exact hn x hx) ⟨by rw [oU];exact h.size,by rw [lU];exact h.defers,fun t hf=>?_,hG,hV,fun j d hd hj=>?_⟩
     ·rw [Array.toList_setIfInBounds];omega
     ·rw [iA ?_]
      ·exact h.frame t hf
      ·intro hd
       rw [hfr i t hik hd] at hf;cases hf
     ·by_cases hji:j=i
      ·subst hji
       rw [xI hd (by rw [h.size];exact (kG ht hd).1)]
       exact hI d hd
      ·rw [getD_set_ne false (Ne.symm hji)] at hj
       rw [iA (fun e=>hji ((kG ht e).2 j hd))]
       exact hst j d hji hd (h.done j d hd hj)
    ·have hj:j∈aft ops i:=by
      unfold bI at hw
      unfold aft
      cases ho:ops[i]? with
      | none=>simp [ho] at hw
      | some o =>
       simp only [ho,Bool.and_eq_true,beq_iff_eq] at hw
       obtain ⟨e,he,h2⟩:=Array.any_eq_true'.1 hw.1
       simp only [Bool.and_eq_true,beq_iff_eq] at h2
       exact List.mem_map.2 ⟨e,List.mem_filter.2 ⟨Array.mem_toList_iff.2 he,h2.2⟩,h2.1⟩
     have hd:(ops[j]?).bind (·.dst)=some d:=by
      unfold bI at hw
      rw [Bool.and_eq_true,beq_iff_eq] at hw
      exact hw.2
     exact h.done j d hd (hr.2 j hj)
end
abbrev Sy:=Nat→Option Value
def upd (s:Sy) (i:Nat) (v:Value):Sy:=fun j=>bif Nat.beq j i then some v else s j
theorem pM (s:Sy) (i:Nat) (v:Value):upd s i v i=some v:=by unfold upd;rw [Nat.beq_refl];rfl
theorem mS (s:Sy) {i j:Nat} (v:Value) (h:j≠i):upd s i v j=s j:=by
 unfold upd
 cases hb:Nat.beq j i with
 | true=>exact absurd (Nat.eq_of_beq_eq_true hb) h
 | false=>rfl
def isE (s:Sy) (e:Nat):Asr:=fun v _=>s e=some v
def LS (E:List Nat) (s:Sy):Nat→List Asr→List Asr
 | _,[]=>[]
 | j,q::L=>(bif E.contains j then isE s j else q)::LS E s (j+1) L
theorem It {E:List Nat} {s:Sy}:∀ (L:List Asr) (j i:Nat),i < L.length→atI (LS E s j L) i=(bif E.contains (i+j) then isE s (i+j) else atI L i)
 | [],j,i,h=>by simp at h
 | q::L,j,0,h=>by rw [Nat.zero_add];rfl
 | q::L,j,i+1,h=>by
  show atI (LS E s (j+1) L) i=_
  rw [It L (j+1) i (by simpa using h),show i+1+j=i+(j+1) by omega]
  rfl
theorem Am {E:List Nat} {s:Sy}:∀ (L:List Asr) (j:Nat),(LS E s j L).length=L.length
 | [],_=>rfl
 | q::L,j=>by show (LS E s (j+1) L).length+1=_;rw [Am L (j+1)];rfl
theorem dF {E:List Nat} {s:Sy} {L:List Asr} {j:Nat} {p:Asr} (hl:Nat.blt j L.length=true) (he:E.contains j=false) (h:atI L j=p):atI (LS E s 0 L) j=p:=by
 rw [It L 0 j (Nat.lt_of_lt_of_le (Nat.lt_succ_self _) (Nat.le_of_ble_eq_true hl)),Nat.add_zero,he,cond_false,h]
structure AB where
 a:Nat
 T:TypeId
 zs:List Value
 st:Nat
def tQ:Value→Nat
 | .pointer (some p)=>p.block
 | _=>0
def AB.cs (q:AB) (s:Sy):List Value:=match s q.st with | none=>q.zs | some y=>jC q.zs 0 y.cells.toList
def AS (al:List AB) (s:Sy):Own:=al.flatMap fun q=>match s q.a with | some v=>[(tQ v,q.cs s,q.T)] | none=>[]
theorem AS_none (al:List AB):AS al (fun _=>none)=[]:=by
 unfold AS
 induction al with
 | nil=>rfl
 | cons q al ih=>rw [List.flatMap_cons,ih];rfl
theorem mK (q:AB) (al:List AB) (s:Sy):AS (q::al) s=(match s q.a with | some v=>[(tQ v,q.cs s,q.T)] | none=>[])++AS al s:=rfl
theorem AB.cs_upd {q:AB} {s:Sy} {i:Nat} {v:Value} (h:q.st≠i):q.cs (upd s i v)=q.cs s:=by unfold AB.cs;rw [mS _ _ h]
theorem nN {s:Sy} {i:Nat} {v:Value}:∀ {al:List AB},(∀ q∈al,q.a≠i)→(∀ q∈al,q.st≠i)→AS al (upd s i v)=AS al s
 | [],_,_=>rfl
 | q::al,h1,h2=>by
  rw [mK,mK,nN (fun x hx=>h1 x (List.mem_cons_of_mem _ hx)) (fun x hx=>h2 x (List.mem_cons_of_mem _ hx)),mS _ _ (h1 q List.mem_cons_self),AB.cs_upd (h2 q List.mem_cons_self)]
theorem F7 {s:Sy} {i:Nat} {v:Value} (hs:s i=none):∀ {al:List AB} {q:AB},q∈al→q.a=i→(al.map (·.a)).Nodup→(∀ q∈al,q.st≠i)→((tQ v,q.cs s,q.T)::AS al s).Perm (AS al (upd s i v))
 | [],_,h,_,_,_=>by cases h
 | x::al,q,h,hq,hn,hst=>by
  rw [List.map_cons,List.nodup_cons] at hn
  rw [mK,mK,AB.cs_upd (hst x List.mem_cons_self)]
  by_cases hx:x.a=i
  ·have hxq:q=x:=by
    rcases List.mem_cons.1 h with h | h
    ·exact h
    ·exact absurd (List.mem_map.2 ⟨q,h,by rw [hq,hx]⟩) hn.1
   subst hxq
   rw [nN (al:=al) (fun y hy e=>hn.1 (List.mem_map.2 ⟨y,hy,by rw [e,hx]⟩)) (fun y hy=>hst y (List.mem_cons_of_mem _ hy)),hx,pM,hs]
   exact List.Perm.refl _
  ·have hm:q∈al:=by
    rcases List.mem_cons.1 h with h | h
    ·subst h;exact absurd hq hx
    ·exact h
   rw [mS _ _ hx]
   refine List.Perm.trans ?_ (List.Perm.append_left _ (F7 hs hm hq hn.2 (fun y hy=>hst y (List.mem_cons_of_mem _ hy))))
   exact List.perm_middle.symm
theorem F8 {s:Sy} {i:Nat} {v y:Value} (hs:s i=none):∀ {al:List AB} {q:AB},q∈al→s q.a=some v→q.st=i→(al.map (·.st)).Nodup→(∀ q∈al,q.a≠i)→∃ k,(AS al s)[k]?=some (tQ v,q.zs,q.T)∧AS al (upd s i y)=(AS al s).set k (tQ v,jC q.zs 0 y.cells.toList,q.T)
 | [],_,h,_,_,_,_=>by cases h
 | x::al,q,h,hv,hq,hn,ha=>by
  rw [List.map_cons,List.nodup_cons] at hn
  rw [mK,mK,mS _ _ (ha x List.mem_cons_self)]
  by_cases hx:x.st=i
  ·have hxq:q=x:=by
    rcases List.mem_cons.1 h with h | h
    ·exact h
    ·exact absurd (List.mem_map.2 ⟨q,h,by rw [hq,hx]⟩) hn.1
   subst hxq
   rw [nN (al:=al) (fun y hy=>ha y (List.mem_cons_of_mem _ hy)) (fun y hy e=>hn.1 (List.mem_map.2 ⟨y,hy,by rw [e,hx]⟩)),hv]
   refine ⟨0,?_,?_⟩
   ·show some (tQ v,q.cs s,q.T)=_
    unfold AB.cs;rw [hx,hs]
   ·show (tQ v,q.cs (upd s i y),q.T)::AS al s=_
    unfold AB.cs;rw [hx,pM];rfl
  ·have hm:q∈al:=by
    rcases List.mem_cons.1 h with h | h
    ·subst h;exact absurd hq hx
    ·exact h
   obtain ⟨k,h1,h2⟩:=F8 (y:=y) hs hm hv hq hn.2 (fun y hy=>ha y (List.mem_cons_of_mem _ hy))
   rw [AB.cs_upd hx,h2]
   refine ⟨(match s x.a with | some v=>[(tQ v,x.cs s,x.T)] | none=>[]:Own).length+k,?_,?_⟩
   ·rw [List.getElem?_append_right (by omega),Nat.add_sub_cancel_left];exact h1
   ·rw [List.set_append_right _ _ (by omega),Nat.add_sub_cancel_left]
section
variable {P:Program} {n:Nat} {Q:Exit→Act→World→Prop} {l:Fr} {w0 W:World} {ops opf:Array Oper} {os:List Oper} {K:List (Nat×World)} {L:List Asr} {i:Nat}
variable {Ob:Own} {al:List AB} {G:Sy→cY} {E:List Nat} {lo:Nat} {s:Sy}
theorem yF {a b:Nat} (h:(!Nat.beq a b)=true):a≠b:=fun e=>by rw [e,Nat.beq_refl] at h;cases h
theorem Ku (h:al.all (fun q => !Nat.beq q.st i)=true):∀ q∈al,q.st≠i:=fun q hq=>yF (List.all_eq_true.1 h q hq)
theorem a_ne (h:al.all (fun q => !Nat.beq q.a i)=true):∀ q∈al,q.a≠i:=fun q hq=>yF (List.all_eq_true.1 h q hq)
def GCh (base:cY) (e:TypeId) (sz:Nat):List (Nat×Nat×List Value)→Sy→cY
 | [],_=>base
 | q::r,s=>match s q.1 with
  | some v=>⟨v,q.2.1,q.2.2,e,sz⟩::base
  | none=>GCh base e sz r s
theorem yG {base:cY} {e:TypeId} {sz i n:Nat} {xs:List Value} {r:List (Nat×Nat×List Value)} {v:Value} (h:s i=some v):GCh base e sz ((i,n,xs)::r) s=⟨v,n,xs,e,sz⟩::base:=by
 show (match s i with | some v=>_ | none=>_)=_
 rw [h]
theorem yH {base:cY} {e:TypeId} {sz i n:Nat} {xs:List Value} {r:List (Nat×Nat×List Value)} (h:s i=none):GCh base e sz ((i,n,xs)::r) s=GCh base e sz r s:=by
 show (match s i with | some v=>_ | none=>_)=_
 rw [h]
abbrev OY (al:List AB) (Ob:Own) (s:Sy):Own:=AS al s++Ob
def GY0 (w0:World) (K:List (Nat×World)) (lo:Nat) (al:List AB) (Ob:Own) (G:Sy→cY) (s:Sy) (w:World):Prop:=St w0 (OY al Ob s) (G s) K w∧lo≤w.heap.size
def GY (w0:World) (K:List (Nat×World)) (lo:Nat) (al:List AB) (Ob:Own) (G:Sy→cY) (E:List Nat) (L:List Asr) (s:Sy) (w:World):Prop:=GY0 w0 K lo al Ob G s w∧∀ e∈E,∀ v,s e=some v→AwS lo (XB (OY al Ob s) (G s)) (atI L e) v w
def VY (E:List Nat) (s:Sy) (L:Array Bool):Prop:=(∀ e∈E,(L.getD e false=true↔(s e).isSome=true))∧∀ e,e∉E→s e=none
def IY (lo:Nat) (al:List AB) (Ob:Own) (G:Sy→cY) (E:List Nat) (L:List Asr) (s:Sy) (i:Nat) (v:Value) (w:World):Prop:=(i∈E→s i=some v)∧AwS lo (XB (OY al Ob s) (G s)) (atI L i) v w
structure Kn (ops:Array Oper) (E:List Nat) (i:Nat) (s:Sy):Prop where
 yes:∀ e,E.contains e=true→(earlyL ops i).contains e=true→∃ v,s e=some v
 no:∀ e,(earlyL ops e).contains i=true→s e=none
 out:∀ e,E.contains e=false→s e=none
 self:s i=none
def TrY (al:List AB) (Ob:Own) (G:Sy→cY) (i:Nat) (s s':Sy) (w w':World):Prop:=eQ 0 (XB (OY al Ob s) (G s)) w w'∧(∀ b,XB (OY al Ob s') (G s') b→XB (OY al Ob s) (G s) b∨w.heap.size≤b)∧∀ j,j≠i→s' j=s j
def SY (P:Program) (n:Nat) (ops opf:Array Oper) (Q:Exit→Act→World→Prop) (l:Fr) (w0:World) (K:List (Nat×World)) (lo:Nat) (al:List AB) (Ob:Own) (G:Sy→cY) (E:List Nat) (L:List Asr) (i:Nat):Prop :=
 ∀ t0,Has n l t0→∀ s LB (a:Act) w,(∀ t,freeT opf t=true→a.eval (.tmp t)=t0.tmps.getD t undef)→GY0 w0 K lo al Ob G s w→VY E s LB→LB.size=ops.size→gT ops LB→oC ops LB i→(∀ j d,bI ops i j d=true→IY lo al Ob G E L s j (a.eval (.tmp d)) w) →
  wpOp P ops Q i (fun a' w'=>∃ s' v,a'=a.put ((ops[i]?).bind (·.dst)) v∧VY E s' (LB.setIfInBounds i true)∧GY0 w0 K lo al Ob G s' w'∧TrY al Ob G i s s' w w'∧(∀ d,(ops[i]?).bind (·.dst)=some d→IY lo al Ob G E L s' i v w')∧(i∈E→∀ y,s' i=some y→AwS lo (XB (OY al Ob s') (G s')) (atI L i) y w')) a w
theorem SY.step (h:SY P n ops opf Q l w0 K lo al Ob G E L i):∀ a,Has n l a→Dj P (freeT opf) ops Q a.tmps (GY w0 K lo al Ob G E L) (IY lo al Ob G E L) (VY E) i:=fun t0 h0 s LB a w hF hG hV hs hc hr hD=>by
 refine wpOp_mono ?_ (h t0 h0 s LB a w hF hG.1 hV hs hc hr hD)
 rintro a' w' ⟨s',v,h1,h2,h3,⟨t1,t2,t3⟩,h5,h6⟩
 refine ⟨s',v,h1,h2,⟨h3,fun e he y hy=>?_⟩,h5,fun j d hji hd hj=>⟨fun hjE=>?_,hj.2.next t1 t2⟩⟩
 ·by_cases hei:e=i
  ·subst hei;exact h6 he y hy
  ·rw [t3 e hei] at hy
   exact (hG.2 e he y hy).next t1 t2
 ·rw [t3 j hji];exact hj.1 hjE
theorem Qz (ht:eP ops n=true) {j d:Nat} (hw:bI ops i j d=true):j < i:=by
 cases ho:ops[i]? with
 | none=>simp [bI,ho] at hw
 | some o =>
  simp only [bI,ho,Bool.and_eq_true,beq_iff_eq] at hw
  obtain ⟨e,he,h2⟩:=Array.any_eq_true'.1 hw.1
  simp only [Bool.and_eq_true,beq_iff_eq] at h2
  rw [← h2.1];exact jR ht ho e he h2.2
theorem SY.ext {L1 L2:List Asr} (ht:eP ops n=true) (hag:∀ j,j≤i→atI L1 j=atI L2 j) (h:SY P n ops opf Q l w0 K lo al Ob G E L1 i):SY P n ops opf Q l w0 K lo al Ob G E L2 i:=fun t0 h0 s LB a w hF hG hV hs hc hr hD=>by
 have h2:=h t0 h0 s LB a w hF hG hV hs hc hr (fun j d hw=>by unfold IY;rw [hag j (Nat.le_of_lt (Qz ht hw))];exact hD j d hw)
 unfold IY at h2
 rw [hag i (Nat.le_refl _)] at h2
 exact h2
theorem kn_of {LB:Array Bool} (hV:VY E s LB) (hs:LB.size=ops.size) (hc:gT ops LB) (hr:oC ops LB i):Kn ops E i s where
 yes e he h:=Option.isSome_iff_exists.1 ((hV.1 e (List.contains_iff_mem.1 he)).1 (kI hc hr e (List.contains_iff_mem.1 h)))
 no e h:=by
  cases hse:s e with
  | none=>rfl
  | some v =>
   have hE:e∈E:=Decidable.byContradiction fun hn=>by rw [hV.2 e hn] at hse;cases hse
   have hd:LB.getD e false=true:=(hV.1 e hE).2 (by rw [hse];rfl)
   have:=nZ (D:=fun x=>LB.getD x false=true) (hc e hd) (fun j hj x hx=>hc j hj x hx) i (List.contains_iff_mem.1 h)
   rw [hr.1] at this;cases this
 out e h:=hV.2 e (fun hm=>by rw [List.contains_iff_mem.2 hm] at h;cases h)
 self:=by
  cases hse:s i with
  | none=>rfl
  | some v =>
   have hE:i∈E:=Decidable.byContradiction fun hn=>by rw [hV.2 i hn] at hse;cases hse
   have:=(hV.1 i hE).2 (by rw [hse];rfl)
   rw [hr.1] at this;cases this
theorem Kv {a:Act} {w:World} (hD:∀ j d,bI ops i j d=true→IY lo al Ob G E L s j (a.eval (.tmp d)) w):∀ j d,bI ops i j d=true→atI (LS E s 0 L) j (a.eval (.tmp d)) w:=fun j d hw=>by
 rcases Nat.lt_or_ge j L.length with hj | hj
 ·rw [It L 0 j hj,Nat.add_zero]
  cases hc:E.contains j with
  | true=>rw [cond_true];exact (hD j d hw).1 (List.contains_iff_mem.1 hc)
  | false=>rw [cond_false];exact (hD j d hw).2.here
 ·rw [wG (by rw [Am];exact hj)];trivial
theorem joinF {x y:Code} (R:Fr→World→Prop) (h2:∀ l W,R l W→fG P n y Q l W) (h1:fG P n x (Exit.then (fun a' w'=>∃ l',R l' w'∧Has n l' a') Q) l W):fG P n (.seq x y) Q l W :=
 aL (fun a ha=>wp_mono (h1 a ha) (fun e a' w' h=>by
  cases e with
  | normal=>obtain ⟨l',hr,hh⟩:=h;exact h2 l' w' hr a' hh
  | _=>exact h))
theorem XF.join {R:Fr→World→Prop} (l':Fr) (hs:Fd l l') (hI:R l' W):XF (Exit.then (fun a' w'=>∃ l',R l' w'∧Has n l' a') Q) .normal n l W:=fun a ha=>⟨l',hI,ha.sub hs⟩
structure Fst (ops opf:Array Oper):Prop where
 same:∀ (i:Nat) (o:Oper),opf[i]?=some o→ops[i]?=some o
theorem bD {os:List Oper} {k:Nat}:Fst os.toArray (os.take k).toArray:=⟨fun i o h=>by
 have h1:(os.take k)[i]?=some o:=by simpa using h
 rw [List.getElem?_take] at h1
 split at h1
 ·simpa using h1
 ·cases h1⟩
theorem Fst.waits (h:Fst ops opf) {i j d:Nat} (hw:bI opf i j d=true):bI ops i j d=true:=by
 unfold bI at hw ⊢
 rw [Bool.and_eq_true] at hw ⊢
 cases ho:opf[i]? with
 | none=>simp [ho] at hw
 | some o =>
  rw [ho] at hw
  rw [h.same i o ho]
  refine ⟨hw.1,?_⟩
  cases hj:opf[j]? with
  | none=>simp [hj] at hw
  | some o2=>rw [hj] at hw;rw [h.same j o2 hj];exact hw.2
variable {d:Nat} {op:Op} {ty:TypeId} {pos:String} {aft_:Array Edge} {v:Value} {gd:Option (Nat×Bool)}
theorem Q0 {LB:Array Bool} (hV:VY E s LB) (hi:i∉E):VY E s (LB.setIfInBounds i true) :=
 ⟨fun e he=>by rw [getD_set_ne false (fun h=>hi (by rw [h];exact he))];exact hV.1 e he,hV.2⟩
theorem vy_eff {LB:Array Bool} (hV:VY E s LB) (hs:LB.size=ops.size) (hi:i∈E) (hlt:i < ops.size) (v:Value):VY E (upd s i v) (LB.setIfInBounds i true):=by
 refine ⟨fun e he=>?_,fun e he=>?_⟩
 ·by_cases hei:e=i
  ·subst hei
   rw [pM,Array.getD_eq_getD_getElem?,Array.getElem?_setIfInBounds_self_of_lt (by omega)]
   exact ⟨fun _=>rfl,fun _=>rfl⟩
  ·rw [mS _ _ hei,getD_set_ne false (Ne.symm hei)];exact hV.1 e he
 ·rw [mS _ _ (fun h=>he (by rw [h];exact hi))];exact hV.2 e he
theorem qK (hie:E.contains i=false) (hi:ops[i]?=some ⟨some d,op,ty,pos,aft_,gd⟩)
  (h:∀ (t0 a:Act) s w,Has n l t0→(∀ t,freeT opf t=true→a.eval (.tmp t)=t0.tmps.getD t undef)→GY0 w0 K lo al Ob G s w→Kn ops E i s→(∀ j d,bI ops i j d=true→IY lo al Ob G E L s j (a.eval (.tmp d)) w)→(∀ j d,bI ops i j d=true→atI (LS E s 0 L) j (a.eval (.tmp d)) w) →
   wpOp P ops Q i (fun a' w'=>∃ v,a'=a.put (some d) v∧AwS lo (XB (OY al Ob s) (G s)) (atI L i) v w'∧Below w.heap.size w w') a w):SY P n ops opf Q l w0 K lo al Ob G E L i:=fun t0 h0 s LB a w hF hG hV hs hc hr hD=>by
 have hie':i∉E:=fun h=>by rw [List.contains_iff_mem.2 h] at hie;cases hie
 refine wpOp_mono ?_ (h t0 a s w h0 hF hG (kn_of hV hs hc hr) hD (Kv hD))
 rintro a' w' ⟨v,rfl,hA,hb⟩
 exact ⟨s,v,by rw [hi];rfl,Q0 hV hie',⟨hG.1.grow hb,Nat.le_trans hG.2 hb.size⟩,⟨kJ hb,fun b hb=>.inl hb,fun _ _=>rfl⟩,fun _ _=>⟨fun h=>absurd h hie',hA⟩,fun h=>absurd h hie'⟩
theorem syV (hf:Fst ops opf) (li:Fr) (hie:E.contains i=false) (hi:ops[i]?=some ⟨some d,op,ty,pos,aft_,gd⟩) (hw:∀ s,gG ops (LS E s 0 L) i ⟨some d,op,ty,pos,aft_,gd⟩) (hli:∀ s,uI n opf l (LS E s 0 L) i li)
  (hr:∀ s w,St w0 Ob (G s) K w→gF P li ⟨some d,op,ty,pos,#[],none⟩ w v w) (hI:atI L i=isV v):SY P n ops opf Q l w0 K lo al Ob G E L i :=
 qK hie hi fun t0 a s w h0 hF hG hk hD hD'=>by
  exact gY hi ((hw s).yes hD') (by rw [eK a.eval _ _ _ _ pos _ #[] _ none];exact hr s w (St.drops _ hG.1) a.eval (iJ h0 hF (fun j d h=>hD' j d (hf.waits h)) (hli s))) ⟨v,rfl,by rw [hI];exact Da,Below.refl _ _⟩
theorem syP (jd td:Nat) (hie:E.contains i=false) (hi:ops[i]?=some ⟨some d,op,ty,pos,aft_,none⟩) (hwy:bI ops i jd td=true) {p q:Asr} (hL:atI L jd=p)
  (hr:∀ (ev:Operand→Value) w,p (ev (.tmp td)) w→∃ v,(execOp ev ⟨some d,op,ty,pos,#[],none⟩).run P w = .ok (.value v) w∧∀ w2,p (ev (.tmp td)) w2→q v w2) (hI:atI L i=q):SY P n ops opf Q l w0 K lo al Ob G E L i :=
 qK hie hi fun t0 a s w h0 hF hG hk hD hD'=>by
  have h1:=(hD jd td hwy).2
  rw [hL] at h1
  obtain ⟨v,h2,h3⟩:=hr a.eval w h1.here
  exact gY hi (fR rfl) (by rw [eK a.eval _ _ _ _ pos _ #[] _ none];exact h2) ⟨v,rfl,by rw [hI];exact fun w2 h4=>h3 w2 (h1 w2 h4),Below.refl _ _⟩
theorem lF {f:FuncId} {xs:List Operand} {ts:Array TypeId} (hf:Fst ops opf) (ps:Sy→List Asr) (hie:E.contains i=false) (hi:ops[i]?=some ⟨some d,.call { callee:=.value (.func f),args:=xs.toArray,argTypes:=ts },ty,pos,aft_,gd⟩) (hgo:bW P f=true)
  (hw:∀ s,gG ops (LS E s 0 L) i ⟨some d,.call { callee:=.value (.func f),args:=xs.toArray,argTypes:=ts },ty,pos,aft_,gd⟩) (hp:∀ s,uJ n opf l (LS E s 0 L) i xs (ps s))
  {p:Asr} (hc:∀ vs s w,Kn ops E i s→St w0 Ob (G s) K w→lo≤w.heap.size→Holds (ps s) vs w→Calls P f vs.toArray w (lV p w)) (hI:atI L i=p):SY P n ops opf Q l w0 K lo al Ob G E L i :=
 qK hie hi fun t0 a s w h0 hF hG hk hD hD'=>by
  have h1:=hc (xs.map a.eval) s w hk (St.drops _ hG.1) hG.2 (gW h0 hF (fun j d h=>hD' j d (hf.waits h)) (hp s))
  rw [show (xs.map a.eval).toArray=xs.toArray.map a.eval by simp] at h1
  unfold wpOp
  simp only [hi,(hw s).yes hD',if_true]
  refine .inl ?_
  unfold Oper.wp
  rw [oX P a.eval w f xs.toArray ts _ rfl rfl hgo,Oper.upon_enter]
  refine h1.mono ?_
  rintro e w' ⟨v,rfl,hv,hb⟩
  refine ⟨v,by simp,?_,hb⟩
  rw [hI]
  intro w2 h2
  refine hv w2 ⟨h2.2.1,fun b h3 h4=>h2.2.2 b (Nat.le_trans hG.2 h3) h4 (fun hx=>?_)⟩
  rcases hx with ⟨q,hq,rfl⟩ | ⟨g,hg,hgb⟩
  ·have:=cQ (hG.1.own q hq).2;omega
  ·have:=(hG.1.glt hg hgb).2;omega
theorem yI {o:Oper} (hie:E.contains i=true) (hi:ops[i]?=some o)
  (h:∀ (t0 a:Act) s w,Has n l t0→(∀ t,freeT opf t=true→a.eval (.tmp t)=t0.tmps.getD t undef)→GY0 w0 K lo al Ob G s w→Kn ops E i s→(∀ j d,bI ops i j d=true→IY lo al Ob G E L s j (a.eval (.tmp d)) w)→(∀ j d,bI ops i j d=true→atI (LS E s 0 L) j (a.eval (.tmp d)) w) →
   wpOp P ops Q i (fun a' w'=>∃ v y,a'=a.put o.dst v∧(∀ d,o.dst=some d→v=y)∧St w0 (OY al Ob (upd s i y)) (G (upd s i y)) K w'∧eQ 0 (XB (OY al Ob s) (G s)) w w'∧(∀ b,XB (OY al Ob (upd s i y)) (G (upd s i y)) b→XB (OY al Ob s) (G s) b∨w.heap.size≤b)∧AwS lo (XB (OY al Ob (upd s i y)) (G (upd s i y))) (atI L i) y w') a w):SY P n ops opf Q l w0 K lo al Ob G E L i:=fun t0 h0 s LB a w hF hG hV hs hc hr hD=>by
 have hie':i∈E:=List.contains_iff_mem.1 hie
 refine wpOp_mono ?_ (h t0 a s w h0 hF hG (kn_of hV hs hc hr) hD (Kv hD))
 rintro a' w' ⟨v,y,rfl,hvy,hSt,hsame,hX,hA⟩
 refine ⟨upd s i y,v,by rw [hi];rfl,vy_eff hV hs hie' (Array.getElem?_eq_some_iff.1 hi).1 y,⟨hSt,Nat.le_trans hG.2 hsame.2.1⟩,⟨hsame,hX,fun j hj=>mS _ _ hj⟩,fun d hd=>?_,fun _ y2 h2=>?_⟩
 ·rw [hi] at hd
  have e:=hvy d hd
  subst e
  exact ⟨fun _=>pM _ _ _,hA⟩
 ·rw [pM] at h2;cases h2;exact hA
def An (lo:Nat):Asr:=fun v _=>∃ B,v = .pointer (some ⟨B,0,none⟩)∧lo≤B
theorem F9 {T:TypeId} {z:Value} (q:AB) (hie:E.contains i=true) (hi:ops[i]?=some ⟨some d,.alloc T,ty,pos,aft_,none⟩) (hz:∀ w,(zeroValue T).run P w = .ok z w) (hq:q∈al) (hqa:q.a=i) (hqT:q.T=T) (hqz:z.cells=q.zs.toArray) (hqs:(earlyL ops q.st).contains i=true∨E.contains q.st=false)
  (hn:(al.map (·.a)).Nodup) (hst_:al.all (fun q => !Nat.beq q.st i)=true) (hG:∀ s v,G (upd s i v)=G s) (hL:atI L i=An lo):SY P n ops opf Q l w0 K lo al Ob G E L i :=
 yI hie hi fun t0 a s w h0 hF hg hk hD hD'=>by
  have hst:=Ku hst_
  have hcs:q.cs s=q.zs:=by
   unfold AB.cs
   rw [show s q.st=none from hqs.elim (fun h=>hk.no _ h) (fun h=>hk.out _ h)]
  have hB:Below w.heap.size w (w.alloc (.cells q.zs.toArray T)):=(Below.refl _ _).alloc (Nat.le_refl _) _
  have hperm:=F7 (v:=.pointer (some ⟨w.heap.size,0,none⟩)) hk.self hq hqa hn hst
  rw [hcs,hqT] at hperm
  have h1:=hg.1.alloc q.zs T
  have hSt:=h1.perm (O':=OY al Ob (upd s i (.pointer (some ⟨w.heap.size,0,none⟩)))) (List.Perm.append_right Ob hperm)
  refine gY hi rfl (v:=.pointer (some ⟨w.heap.size,0,none⟩)) (w':=w.alloc (.cells q.zs.toArray T)) (by unfold execOp;simp only [];simp [Instr.alloc,newVar,newRow,hz,hqz]) ⟨_,_,rfl,fun _ _=>rfl,by rw [hG];exact hSt,kJ hB,fun b hb=>?_,by rw [hL];exact fun _ _=>⟨_,rfl,hg.2⟩⟩
  rw [hG] at hb
  rcases hb with ⟨p,hp,rfl⟩ | h
  ·have hp2:=(List.Perm.append_right Ob hperm).mem_iff.2 hp
   rw [List.cons_append] at hp2
   rcases List.mem_cons.1 hp2 with rfl | hp2
   ·exact .inr (Nat.le_refl _)
   ·exact .inl (.inl ⟨p,hp2,rfl⟩)
  ·exact .inl (.inr h)
theorem Ga {T:TypeId} {tx tyy m jy:Nat} {py:Asr} (q:AB) (hie:E.contains i=true) (hi:ops[i]?=some ⟨none,.store T (.tmp tx) (.tmp tyy),ty,pos,aft_,none⟩) (hq:q∈al) (hqs:q.st=i) (hqa:E.contains q.a=true) (hwx:bI ops i q.a tx=true) (hLa:atI L q.a=An lo) (hwy:bI ops i jy tyy=true) (hLy:atI L jy=py) (hL:atI L i=py)
  (hsz:∀ w,(sizeOf T).run P w = .ok m w) (hzl:Nat.ble m q.zs.length=true) (hpy:∀ v w,py v w→∃ vs:List Value,v.cells=vs.toArray∧vs.length=m∧vs.all Value.oneCell'=true)
  (hn:(al.map (·.st)).Nodup) (hst_:al.all (fun q => !Nat.beq q.a i)=true) (hG:∀ s v,G (upd s i v)=G s):SY P n ops opf Q l w0 K lo al Ob G E L i :=
 yI hie hi fun t0 a s w h0 hF hg hk hD hD'=>by
  have hst:=a_ne hst_
  have hx:=hD q.a tx hwx
  have hsa:=hx.1 (List.contains_iff_mem.1 hqa)
  have hptr:=hx.2.here
  rw [hLa] at hptr
  obtain ⟨B,ex,hBlo⟩:=hptr
  have hy:=(hD jy tyy hwy).2
  rw [hLy] at hy
  obtain ⟨vs,hc,hl,h1⟩:=hpy _ _ hy.here
  obtain ⟨k,hk1,hk2⟩:=F8 (y:=a.eval (.tmp tyy)) hk.self hq hsa hqs hn hst
  rw [ex] at hk1 hk2
  have hbn:tQ (.pointer (some ⟨B,0,none⟩))=B:=rfl
  rw [hbn] at hk1 hk2
  have hOk:(OY al Ob s)[k]?=some (B,q.zs,q.T):=by
   have:=(List.getElem?_eq_some_iff.1 hk1).1
   unfold OY
   rw [List.getElem?_append_left this];exact hk1
  have hXB:XB (OY al Ob s) (G s) B:=.inl ⟨_,List.mem_of_getElem? hOk,rfl⟩
  have hrun:=oF (P:=P) hsz hc hl h1 (hg.1.at_ k hOk) (j:=0) (by have:=Nat.le_of_ble_eq_true hzl;omega)
  have hO':OY al Ob (upd s i (a.eval (.tmp tyy)))=(OY al Ob s).set k (B,jC q.zs 0 vs,q.T):=by
   unfold OY
   rw [hk2,List.set_append_left _ _ (List.getElem?_eq_some_iff.1 hk1).1,hc]
  have hX:∀ b,XB (OY al Ob (upd s i (a.eval (.tmp tyy)))) (G (upd s i (a.eval (.tmp tyy)))) b→XB (OY al Ob s) (G s) b:=by
   rw [hG]
   rintro b (⟨p,hp,rfl⟩ | h)
   ·rw [hO'] at hp
    rcases List.mem_or_eq_of_mem_set hp with hp | rfl
    ·exact .inl ⟨p,hp,rfl⟩
    ·exact hXB
   ·exact .inr h
  have hsame:eQ 0 (XB (OY al Ob s) (G s)) w (setMany w B 0 vs):=mQ hXB
  refine xY hi rfl rfl rfl (by rw [ex];exact hrun) ⟨undef,a.eval (.tmp tyy),rfl,(fun d hd=>by cases hd),?_,hsame,fun b hb=>.inl (hX b hb),?_⟩
  ·rw [hG,hO']
   exact hg.1.setMany k vs 0 hOk
  ·rw [hL]
   exact hy.next hsame (fun b hb=>.inl (hX b hb))
def BLY (P:Program) (n:Nat) (ops opf:Array Oper) (Q:Exit→Act→World→Prop) (l:Fr) (w0:World) (K:List (Nat×World)) (lo:Nat) (al:List AB) (Ob:Own) (G:Sy→cY) (E:List Nat) (Goal:List Asr→Prop):Nat→List Asr→Nat→Prop
 | 0,Lr,_=>Goal Lr
 | m+1,Lr,k=>∃ q,SY P n ops opf Q l w0 K lo al Ob G E (q::Lr).reverse k∧BLY P n ops opf Q l w0 K lo al Ob G E Goal m (q::Lr) (k+1)
variable {Goal:List Asr→Prop}
theorem oH {Lr:List Asr} {k:Nat} (h:Goal Lr):BLY P n ops opf Q l w0 K lo al Ob G E Goal 0 Lr k:=h
theorem aY {m k:Nat} {Lr:List Asr} (k':Nat) (hk:k+1=k') (q:Asr) (h:SY P n ops opf Q l w0 K lo al Ob G E (q::Lr).reverse k) (hr:BLY P n ops opf Q l w0 K lo al Ob G E Goal m (q::Lr) k'):BLY P n ops opf Q l w0 K lo al Ob G E Goal (m+1) Lr k:=by
 subst hk;exact ⟨q,h,hr⟩
theorem Kx (ht:eP ops n=true):∀ (m k:Nat) (Lr:List Asr),Lr.length=k→(∀ i,i < k→SY P n ops opf Q l w0 K lo al Ob G E Lr.reverse i)→BLY P n ops opf Q l w0 K lo al Ob G E Goal m Lr k →
  ∃ Lr',Lr'.length=k+m∧(∀ i,i < k+m→SY P n ops opf Q l w0 K lo al Ob G E Lr'.reverse i)∧Goal Lr'
 | 0,k,Lr,hl,hg,h=>⟨Lr,hl,hg,h⟩
 | m+1,k,Lr,hl,hg,⟨q,hr,hn⟩=>by
  have hap:∀ j,j < k→atI Lr.reverse j=atI (q::Lr).reverse j:=fun j hj=>by rw [List.reverse_cons,jV (by simp;omega)]
  obtain ⟨L',h1,h3,h4⟩:=Kx ht m (k+1) (q::Lr) (by simp [hl]) (fun i hi=>by
   by_cases hik:i=k
   ·subst hik;exact hr
   ·exact SY.ext ht (fun j hj=>hap j (by omega)) (hg i (by omega))) hn
  exact ⟨L',by omega,fun i hi=>h3 i (by omega),h4⟩
def Q1 (E:List Nat) (lo:Nat) (X:Nat→Prop) (s:Sy):Nat→List Asr→List Asr
 | _,[]=>[]
 | j,q::L=>(bif E.contains j then isE s j else AwS lo X q)::Q1 E lo X s (j+1) L
theorem yJ {X:Nat→Prop}:∀ (L:List Asr) (j i:Nat),i < L.length→atI (Q1 E lo X s j L) i=(bif E.contains (i+j) then isE s (i+j) else AwS lo X (atI L i))
 | [],j,i,h=>by simp at h
 | q::L,j,0,h=>by rw [Nat.zero_add];rfl
 | q::L,j,i+1,h=>by
  show atI (Q1 E lo X s (j+1) L) i=_
  rw [yJ L (j+1) i (by simpa using h),show i+1+j=i+(j+1) by omega]
  rfl
theorem Iu {id k:Nat} {ds:List Nat} {G0:cY} (hm:P.follows .mixedOrders=true) (hlo:lo=W.heap.size) (hS:St w0 Ob G0 K W) (hG0:G (fun _=>none)=G0) (hk:Nat.blt k os.length=true) (htl:vG os.toArray k=true) (ht:eP os.toArray n=true) (hE:E.all (fun a=>Nat.blt a k)=true)
  (hdst:(List.range k).all (fun j=>E.contains j || ((os.toArray[j]?).bind (·.dst)).isSome)=true) (hds:(os.drop k).all (fun o=>match o.dst with | some d=>ds.contains d | none=>true)=true)
  (h:BLY P n os.toArray (os.take k).toArray Q l w0 K lo al Ob G E (fun Lr=>∀ (s:Sy) (W':World) (Ks:List (Nat×World)),(∀ e,E.contains e=true→∃ v,s e=some v)→W.heap.size≤W'.heap.size→(∀ q∈Ks,lo≤q.1)→St w0 (OY al Ob s) (G s) (Ks++K) W' →
   (∀ {O2 G2 K2 W2},St w0 O2 G2 K2 W2→(∀ q∈Ks,q∈K2)→eQ lo (XB (OY al Ob s) (G s)) W' W2)→(∀ e,E.contains e=true→∀ v,s e=some v→AwS lo (XB (OY al Ob s) (G s)) (atI Lr.reverse e) v W')→(∀ e,E.contains e=false→s e=none) →
   kZ (os.take k) (Q1 E lo (XB (OY al Ob s) (G s)) s 0 Lr.reverse) (oL ds l) (fun l' W'=>cX P n os.toArray Q (os.drop k) l' W') W') k [] 0):fG P n (.region id os.toArray true) Q l W:=by
 obtain ⟨Lr,h1,h2,hfin⟩:=Kx ht k 0 [] rfl (fun i hi=>by omega) h
 rw [Nat.zero_add] at h1 h2
 have hk':k < os.length:=Nat.lt_of_lt_of_le (Nat.lt_succ_self _) (Nat.le_of_ble_eq_true hk)
 have hE':∀ a∈E,a < k:=fun a ha=>Nat.lt_of_lt_of_le (Nat.lt_succ_self _) (Nat.le_of_ble_eq_true (List.all_eq_true.1 hE a ha))
 intro a ha
 have hrep:∀ (m j:Nat),(Array.replicate m false).getD j false=false:=fun m j=>by
  rw [Array.getD_eq_getD_getElem?,Array.getElem?_replicate];split<;>rfl
 refine wp_region_any hm (mR (fr:=freeT (os.take k).toArray) (t0:=a.tmps) (d0:=a.defers) (V:=VY E) (I:=IY lo al Ob G E Lr.reverse) (G:=GY w0 K lo al Ob G E Lr.reverse) (k:=k) (fun i d hik hd=>?_) (by simpa using hk') htl (by rw [ha.size];exact ht) (fun i hi=>(h2 i hi).step a ha) ?_ _ (fun _=>none) _ _ _ (by simp) (jT _) (fun j hj=>by rw [hrep] at hj;cases hj) (fun i _=>hrep _ _) ⟨rfl,rfl,fun _ _=>rfl,⟨⟨by unfold OY;rw [AS_none,hG0];exact hS.drew,by rw [hlo];exact Nat.le_refl _⟩,fun _ _ _ h=>(by cases h)⟩,⟨fun e he=>⟨fun h3=>(by rw [hrep] at h3;cases h3),fun h3=>(by cases h3)⟩,fun _ _=>rfl⟩,fun i d _ hj=>(by rw [hrep] at hj;cases hj)⟩)
 ·have hd2:(os[i]?).bind (·.dst)=some d:=by simpa using hd
  obtain ⟨o,ho,hod⟩:=Option.bind_eq_some_iff.1 hd2
  have hm2:o∈os.take k:=List.mem_of_getElem? (i:=i) (by rw [List.getElem?_take,if_pos hik];exact ho)
  cases hf:freeT (os.take k).toArray d with
  | false=>rfl
  | true =>
   unfold freeT at hf
   have:=Array.all_eq_true'.1 hf o (by simpa using hm2)
   rw [hod] at this
   simp at this
 intro s LB a' W' hR hdone hnot
 obtain ⟨⟨hG,hG2⟩,hG3⟩:=hR.glob
 obtain ⟨v1,v2⟩:=hR.cons
 have hall:∀ e,E.contains e=true→∃ v,s e=some v:=fun e he=>Option.isSome_iff_exists.1 ((v1 e (List.contains_iff_mem.1 he)).1 (hdone e (hE' e (List.contains_iff_mem.1 he))))
 obtain ⟨Ks,c1,⟨qw,c2,c3⟩,c4⟩:=Io (((OY al Ob s).map (·.1))++(G s).filterMap (fun g=>g.v.ownBlock)) lo W'
 have hG4:=hG.more Ks (fun q hq=>⟨(c1 q hq).2.1,fun p hp=>(c1 q hq).2.2 p.1 (List.mem_append_left _ (List.mem_map.2 ⟨p,hp,rfl⟩)),fun g hg b hb=>(c1 q hq).2.2 b (List.mem_append_right _ (List.mem_filterMap.2 ⟨g,hg,hb⟩))⟩)
 have hcov:∀ {O2 G2 K2 W2},St w0 O2 G2 K2 W2→(∀ q∈Ks,q∈K2)→eQ lo (XB (OY al Ob s) (G s)) W' W2:=fun {O2 G2 K2 W2} h2 hq=>by
  refine ⟨⟨h2.below.os.trans hG.below.os.symm,h2.below.tape.trans hG.below.tape.symm,h2.below.output.trans hG.below.output.symm⟩,?_,fun b b1 b2 b3=>?_⟩
  ·have:=(h2.kept qw (hq qw c2)).1.1;rw [c3] at this;exact this
  ·obtain ⟨q,q1,q2,q3⟩:=c4 b b1 b2 (fun hb=>b3 (by
    rcases List.mem_append.1 hb with hb | hb
    ·obtain ⟨p,hp,rfl⟩:=List.mem_map.1 hb
     exact .inl ⟨p,hp,rfl⟩
    ·obtain ⟨g,hg,e⟩:=List.mem_filterMap.1 hb
     exact .inr ⟨g,hg,e⟩))
   exact ((h2.kept q (hq q q1)).1.2 b q2 q3).trans ((c1 q q1).2.1.2 b q2 q3).symm
 have htk:(os.take k).length=k:=by simp;omega
 refine nL (os.take k) (Q1 E lo (XB (OY al Ob s) (G s)) s 0 Lr.reverse) (oL ds l) (fun i d hi hd'=>?_) (fun i hi hd'=>?_) (hR.size.trans ha.size) (hR.defers.trans ha.defers) ?_ (fun l' h ha'=>?_) (hfin s W' Ks hall (by rw [← hlo];exact hG2) (fun q hq=>(c1 q hq).1) hG4 hcov (fun e he v hv=>hG3 e (List.contains_iff_mem.1 he) v hv) (fun e he=>v2 e (fun hm=>by rw [List.contains_iff_mem.2 hm] at he;cases he)))
 ·have hik:i < k:=by omega
  have hd2:(os.toArray[i]?).bind (·.dst)=some d:=by rw [List.getElem?_take,if_pos hik] at hd';simpa using hd'
  obtain ⟨i1,i2⟩:=hR.done i d hd2 (hdone i hik)
  rw [yJ Lr.reverse 0 i (by simp;omega),Nat.add_zero]
  cases hc1:E.contains i with
  | true=>rw [cond_true];exact i1 (List.contains_iff_mem.1 hc1)
  | false=>rw [cond_false];exact i2
 ·have hik:i < k:=by omega
  have h3:=List.all_eq_true.1 hdst i (List.mem_range.2 hik)
  have hd2:(os.toArray[i]?).bind (·.dst)=none:=by rw [List.getElem?_take,if_pos hik] at hd';simpa using hd'
  rw [hd2] at h3
  have hc:E.contains i=true:=by simpa using h3
  rw [yJ Lr.reverse 0 i (by simp;omega),Nat.add_zero,hc,cond_true]
  exact hall i hc
 ·intro t v hv hno
  have hl:=lY hv (gC hv)
  rw [hR.frame t ?_]
  ·exact ha.at_ t v hl
  ·unfold freeT;rw [Array.all_eq_true'];intro o' ho'
   have ho2:o'∈os.take k:=by simpa using ho'
   simpa using hno o' ho2
 ·have:=h a' ha'
  simpa using this
end
section
variable {P:Program} {n:Nat} {Q:Exit→Act→World→Prop} {l:Fr} {w0 W:World} {ops opf:Array Oper} {os:List Oper} {K:List (Nat×World)} {L:List Asr} {i:Nat}
variable {O:Own} {Gs:List Value→cY} {efs:List Nat} {lo:Nat} {s:List Value}
def GCF (w0:World) (K:List (Nat×World)) (lo:Nat) (O:Own) (Gs:List Value→cY) (s:List Value) (w:World):Prop:=St w0 O (Gs s) K w∧lo≤w.heap.size
def VCF (efs:List Nat) (s:List Value) (L:Array Bool):Prop:=s.length≤efs.length∧∀ k e,efs[k]?=some e→(L.getD e false=true↔k < s.length)
def ICF (efs:List Nat) (lo:Nat) (O:Own) (Gs:List Value→cY) (L:List Asr) (s:List Value) (i:Nat) (v:Value) (w:World):Prop:=(∀ k:Nat,efs[k]?=some i→s[k]?=some v)∧(i∉efs→AwS lo (XB O (Gs s)) (atI L i) v w)
def SCF (P:Program) (n:Nat) (ops opf:Array Oper) (Q:Exit→Act→World→Prop) (l:Fr) (w0:World) (K:List (Nat×World)) (lo:Nat) (O:Own) (Gs:List Value→cY) (efs:List Nat) (L:List Asr) (i:Nat):Prop :=
 ∀ t0,Has n l t0→∀ s LB (a:Act) w,(∀ t,freeT opf t=true→a.eval (.tmp t)=t0.tmps.getD t undef)→GCF w0 K lo O Gs s w→VCF efs s LB→LB.size=ops.size→gT ops LB→oC ops LB i→(∀ j d,bI ops i j d=true→ICF efs lo O Gs L s j (a.eval (.tmp d)) w) →
  wpOp P ops Q i (fun a' w'=>∃ s' v,a'=a.put ((ops[i]?).bind (·.dst)) v∧VCF efs s' (LB.setIfInBounds i true)∧GCF w0 K lo O Gs s' w'∧(eQ 0 (XB O (Gs s)) w w'∧(∀ b,XB O (Gs s') b→XB O (Gs s) b∨w.heap.size≤b)∧(s'=s∨∃ u,s'=s++[u]∧efs[s.length]?=some i))∧(∀ d,(ops[i]?).bind (·.dst)=some d→ICF efs lo O Gs L s' i v w')) a w
theorem SCF.step (h:SCF P n ops opf Q l w0 K lo O Gs efs L i):∀ a,Has n l a→Dj P (freeT opf) ops Q a.tmps (GCF w0 K lo O Gs) (ICF efs lo O Gs L) (VCF efs) i:=fun t0 h0 s LB a w hF hG hV hs hc hr hD=>by
 refine wpOp_mono ?_ (h t0 h0 s LB a w hF hG hV hs hc hr hD)
 rintro a' w' ⟨s',v,h1,h2,h3,⟨t1,t2,t3⟩,h5⟩
 refine ⟨s',v,h1,h2,h3,h5,fun j d _ hd hj=>⟨fun k hk=>?_,fun h6=>(hj.2 h6).next t1 t2⟩⟩
 rcases t3 with rfl | ⟨u,rfl,hu⟩
 ·exact hj.1 k hk
 ·have h7:=hj.1 k hk
  rw [List.getElem?_append_left (List.getElem?_eq_some_iff.1 h7).1]
  exact h7
theorem SCF.ext {L1 L2:List Asr} (ht:eP ops n=true) (hag:∀ j,j≤i→atI L1 j=atI L2 j) (h:SCF P n ops opf Q l w0 K lo O Gs efs L1 i):SCF P n ops opf Q l w0 K lo O Gs efs L2 i:=fun t0 h0 s LB a w hF hG hV hs hc hr hD=>by
 have hlt:∀ j d,bI ops i j d=true→j < i:=fun j d hw=>by
  cases ho:ops[i]? with
  | none=>simp [bI,ho] at hw
  | some o =>
   simp only [bI,ho,Bool.and_eq_true,beq_iff_eq] at hw
   obtain ⟨e,he,h2⟩:=Array.any_eq_true'.1 hw.1
   simp only [Bool.and_eq_true,beq_iff_eq] at h2
   rw [← h2.1];exact jR ht ho e he h2.2
 have h2:=h t0 h0 s LB a w hF hG hV hs hc hr (fun j d hw=>by unfold ICF;rw [hag j (Nat.le_of_lt (hlt j d hw))];exact hD j d hw)
 unfold ICF at h2
 rw [hag i (Nat.le_refl _)] at h2
 exact h2
def Gb (efs:List Nat) (L:List Asr):Prop:=∀ j,j∈efs→atI L j=anyA
theorem yK {t0:Act} (h0:Has n l t0) {a:Act} {w:World} (hF:∀ t,freeT opf t=true→a.eval (.tmp t)=t0.tmps.getD t undef) (hD:∀ j d,bI ops i j d=true→ICF efs lo O Gs L s j (a.eval (.tmp d)) w)
  (hn:∀ j d,bI ops i j d=true→j∈efs→atI L j=anyA):∀ j d,bI ops i j d=true→atI L j (a.eval (.tmp d)) w:=fun j d hw=>by
 by_cases h1:j∈efs
 ·rw [hn j d hw h1];trivial
 ·exact ((hD j d hw).2 h1).here
theorem M5 {L:Array Bool} (hV:VCF efs s L) (hi:i∉efs):VCF efs s (L.setIfInBounds i true) :=
 ⟨hV.1,fun k e he=>by rw [getD_set_ne false (fun h=>hi (by rw [h];exact List.mem_of_getElem? he))];exact hV.2 k e he⟩
variable {d:Nat} {op:Op} {ty:TypeId} {pos:String} {aft_:Array Edge} {v:Value} {gd:Option (Nat×Bool)}
theorem Gc (hie:i∉efs) (hi:ops[i]?=some ⟨some d,op,ty,pos,aft_,gd⟩) (hNo:Gb efs L)
  (h:∀ (t0 a:Act) s w,Has n l t0→(∀ t,freeT opf t=true→a.eval (.tmp t)=t0.tmps.getD t undef)→GCF w0 K lo O Gs s w→(∀ j d,bI ops i j d=true→ICF efs lo O Gs L s j (a.eval (.tmp d)) w)→(∀ j d,bI ops i j d=true→atI L j (a.eval (.tmp d)) w) →
   wpOp P ops Q i (fun a' w'=>∃ v,a'=a.put (some d) v∧AwS lo (XB O (Gs s)) (atI L i) v w'∧Below w.heap.size w w') a w):SCF P n ops opf Q l w0 K lo O Gs efs L i:=fun t0 h0 s LB a w hF hG hV hs hc hr hD=>by
 refine wpOp_mono ?_ (h t0 a s w h0 hF hG hD (yK h0 hF hD fun j d _ hj=>hNo j hj))
 rintro a' w' ⟨v,rfl,hA,hb⟩
 refine ⟨s,v,by rw [hi];rfl,M5 hV hie,⟨hG.1.grow hb,Nat.le_trans hG.2 hb.size⟩,⟨kJ hb,fun b hb=>.inl hb,.inl rfl⟩,fun _ _=>⟨fun k hk=>absurd (List.mem_of_getElem? hk) hie,fun _=>hA⟩⟩
theorem Gd (hf:Fst ops opf) (li:Fr) (hie:efs.contains i=false) (hi:ops[i]?=some ⟨some d,op,ty,pos,aft_,gd⟩) (hNo:Gb efs L) (hw:gG ops L i ⟨some d,op,ty,pos,aft_,gd⟩) (hli:uI n opf l L i li)
  (hr:∀ s w,St w0 O (Gs s) K w→gF P li ⟨some d,op,ty,pos,#[],none⟩ w v w) (hI:atI L i=isV v):SCF P n ops opf Q l w0 K lo O Gs efs L i :=
 Gc (fun h=>by rw [List.contains_iff_mem.2 h] at hie;cases hie) hi hNo fun t0 a s w h0 hF hG hD hD'=>by
  have hS:St w0 O (Gs s) K w:=hG.1
  exact gY hi (hw.yes hD') (by rw [eK a.eval _ _ _ _ pos _ #[] _ none];exact hr s w hS a.eval (iJ h0 hF (fun j d h=>hD' j d (hf.waits h)) hli)) ⟨v,rfl,by rw [hI];exact Da,Below.refl _ _⟩
theorem tR {T e:TypeId} {m sz:Nat} {xs:List (Nat×Operand)} {us:List Value} {z:Value} {cs:List Value} (hf0:Fst ops opf) (hie:efs.contains i=false) (hi:ops[i]?=some ⟨some d,.buildSlice T m xs.toArray,ty,pos,aft_,gd⟩) (hNo:Gb efs L) (hw:gG ops L i ⟨some d,.buildSlice T m xs.toArray,ty,pos,aft_,gd⟩)
  (hU:P.underlying T=some (.slice e)) (hs:∀ w,(sizeOf e).run P w = .ok sz w) (hz:∀ w,(zeroValue e).run P w = .ok z w) (hm:Nat.ble (m * sz) 16777216=true) (hm0:Nat.beq (m * sz) 0=false) (hp:uJ n opf l L i (xs.map (·.2)) (us.map isV))
  (hf:Instr.fill (fun i=>some (i * sz,sz)) ((Array.range (m * sz)).map (z.cells[· % z.cells.size]!)) ((xs.map (·.1)).zip us)=some cs.toArray) (hI:atI L i=gR lo m e cs):SCF P n ops opf Q l w0 K lo O Gs efs L i :=
 Gc (fun h=>by rw [List.contains_iff_mem.2 h] at hie;cases hie) hi hNo fun t0 a s w h0 hF hG hD hD'=>by
  have hv:=cB (gW h0 hF (fun j d h=>hD' j d (hf0.waits h)) hp)
  have h4:m * sz≤16777216:=Nat.le_of_ble_eq_true hm
  have h5:m * sz≠0:=fun e=>by rw [e] at hm0;cases hm0
  have h6:¬ (m * sz > 2 ^ 24):=by omega
  have h7:xs.map (fun p=>(p.1,a.eval p.2))=(xs.map (·.1)).zip us:=by
   rw [← hv]
   clear hi hw hp hv hf
   induction xs with
   | nil=>rfl
   | cons x xs ih=>simp only [List.map_cons,List.zip_cons_cons,← ih]
  have hB:Below w.heap.size w (w.alloc (.cells cs.toArray e)):=(Below.refl _ _).alloc (Nat.le_refl _) _
  refine gY hi (hw.yes hD') (v:=.slice (some ⟨w.heap.size,0,none⟩) m m) (w':=w.alloc (.cells cs.toArray e)) ?_ ⟨_,rfl,?_,hB⟩
  ·unfold execOp
   simp only []
   rw [show (Array.map (fun p=>(p.1,a.eval p.2)) xs.toArray)=(xs.map (fun p=>(p.1,a.eval p.2))).toArray by simp,h7]
   simp only [Instr.buildSlice,Sem.run_bind,run_underlying hU,Result.andThen_ok,hs,if_neg h6,if_neg h5,hz,Sem.run_pure,hf,newRow,run_newObj_alloc]
  ·rw [hI]
   intro w2 h2
   have hnew:=heap_alloc_new w (.cells cs.toArray e)
   refine ⟨w.heap.size,rfl,hG.2,(h2.2.2 _ hG.2 (cQ hnew) (fun hx=>?_)).trans hnew⟩
   rcases hx with ⟨q,hq,e1⟩ | ⟨g,hg,hgb⟩
   ·have:=cQ (hG.1.own q hq).2;omega
   ·have:=(hG.1.glt hg hgb).2;omega
theorem Ky {t e:TypeId} {x:Operand} {tyy jy m:Nat} {gv:Value} {gn:Nat} {gxs cs:List Value} {inf:TypeInfo} {z:Value} (hf:Fst ops opf) (k gi:Nat) (li:Fr) (hek:efs[k]?=some i) (hearly:(efs.take k).all (fun j=>(earlyL ops i).contains j)=true) (hnd:efs.Nodup)
  (hi:ops[i]?=some ⟨some d,.call { callee:=.builtin .append,args:=#[x,.tmp tyy],argTypes:=#[t,t] },ty,pos,aft_,none⟩) (hNo:Gb efs L)
  (hU:P.underlying t=some (.slice e)) (hinf:P.info? e=some inf) (hz:inf.zero=some z) (hzs:z.cells.size=inf.size) (hsz:0 < inf.size)
  (hg:∀ s,s.length=k→(Gs s)[gi]?=some ⟨gv,gn,gxs,e,inf.size⟩) (hgs:∀ s v',s.length=k→Gs (s++[v'])=(Gs s).set gi ⟨v',gn+m,gxs++cs,e,inf.size⟩)
  (hli:uI n opf l L i li) (hx:evL li x=some gv) (hwy:bI ops i jy tyy=true) (hjy:efs.contains jy=false) (hLy:atI L jy=gR lo m e cs) (hl:cs.length=m * inf.size) (h1:cs.all Value.oneCell'=true) (h63:gn+m≤maxLen) (hbytes:(gn+m) * inf.bytes≤140737488355328):SCF P n ops opf Q l w0 K lo O Gs efs L i:=fun t0 h0 s LB a w hF hG hV hs hc hr hD=>by
 have hik:s.length=k:=by
  have h2:¬ k < s.length:=fun h=>by have:=(hV.2 k i hek).2 h;rw [hr.1] at this;cases this
  have h3:¬ s.length < k:=fun h=>by
   obtain ⟨e1,he1⟩:∃ e1,efs[s.length]?=some e1:=⟨efs[s.length]'(by have:=(List.getElem?_eq_some_iff.1 hek).1;omega),by simp⟩
   have h4:=List.all_eq_true.1 hearly e1 (List.mem_of_getElem? (i:=s.length) (by rw [List.getElem?_take,if_pos h];exact he1))
   have h5:=kI hc hr e1 (List.contains_iff_mem.1 h4)
   exact absurd ((hV.2 s.length e1 he1).1 h5) (by omega)
  omega
 have hD':=yK h0 hF hD (fun j d _ hj=>hNo j hj)
 have ex:=iJ h0 hF (fun j d h=>hD' j d (hf.waits h)) hli x _ hx
 have hy:=((hD jy tyy hwy).2 (fun h=>by rw [List.contains_iff_mem.2 h] at hjy;cases hjy)).here
 rw [hLy] at hy
 obtain ⟨B,ey,hB1,hB2⟩:=hy
 have hgi:=hg s hik
 have hrow:=hG.1.row gi hgi
 obtain ⟨v',W',hr2,h2,h3,h4⟩:=gV (P:=P) (w:=w) w0.heap.size t ty e inf z hU hinf hz hzs hsz gv gn gxs hrow ⟨B,0,none⟩ m m cs hl (fun j u hj=>by
  rw [Addr.add_lit,Nat.zero_add]
  simp only [World.cell?,hB2]
  simpa using hj) (fun u hu=>List.all_eq_true.1 h1 u hu) h63 hbytes hG.1.below.size
 have hSt:=hG.1.setG gi hgi h2 h3 h4
 refine gY (w':=W') (v:=v') hi (fR rfl) ?_ ?_
 ·unfold execOp
  simp only [resolve,invoke,builtin,Sem.run_bind,Sem.run_pure,Result.andThen_ok,List.map_toArray,List.map_cons,List.map_nil,ex,ey,hr2]
 ·have hXg:∀ b,gv.ownBlock=some b→XB O (Gs s) b:=fun b hb=>.inr ⟨_,List.mem_of_getElem? hgi,hb⟩
  refine ⟨s++[v'],v',by rw [hi];rfl,⟨?_,fun k' e' he'=>?_⟩,⟨by rw [hgs s v' hik];exact hSt,Nat.le_trans hG.2 h3.size⟩,⟨⟨⟨h3.os,h3.tape,h3.output⟩,h3.size,fun b _ hb hx=>h3.block b hb (fun e=>hx (hXg b e.symm))⟩,?_,.inr ⟨v',rfl,by rw [hik];exact hek⟩⟩,fun d hd=>⟨fun k' hk'=>?_,fun h=>absurd (List.mem_of_getElem? hek) h⟩⟩
  ·have:=(List.getElem?_eq_some_iff.1 hek).1
   rw [List.length_append];simp;omega
  ·rw [List.length_append,hik]
   by_cases hkk:k'=k
   ·subst hkk
    rw [hek] at he';cases he'
    rw [Array.getD_eq_getD_getElem?,Array.getElem?_setIfInBounds_self_of_lt (by rw [hs];exact (Array.getElem?_eq_some_iff.1 hi).1)]
    exact ⟨fun _=>by simp,fun _=>rfl⟩
   ·have hne:i≠e':=fun h=>hkk (by
     subst h
     have a1:=List.getElem?_eq_some_iff.1 hek
     have a2:=List.getElem?_eq_some_iff.1 he'
     exact (List.getElem_inj hnd).1 (a2.2.trans a1.2.symm))
    rw [getD_set_ne false hne,hV.2 k' e' he',hik]
    simp;omega
  ·intro b hb
   rcases hb with ⟨p,hp,rfl⟩ | ⟨g,hg2,e1⟩
   ·exact .inl (.inl ⟨p,hp,rfl⟩)
   ·rw [hgs s v' hik] at hg2
    rcases List.mem_or_eq_of_mem_set hg2 with hg2 | rfl
    ·exact .inl (.inr ⟨g,hg2,e1⟩)
    ·rcases h4 with h5 | h5
     ·exact .inl (hXg b (h5▸e1))
     ·have e2:v'.ownBlock=some b:=e1
      rw [h5] at e2;exact .inr (Nat.le_of_eq (Option.some.inj e2))
  ·have:k'=k:=by
    have a1:=List.getElem?_eq_some_iff.1 hek
    have a2:=List.getElem?_eq_some_iff.1 hk'
    exact (List.getElem_inj hnd).1 (a2.2.trans a1.2.symm)
   rw [this,← hik];simp
def Ge (P:Program) (n:Nat) (ops opf:Array Oper) (Q:Exit→Act→World→Prop) (l:Fr) (w0:World) (K:List (Nat×World)) (lo:Nat) (O:Own) (Gs:List Value→cY) (efs:List Nat) (Goal:List Asr→Prop):Nat→List Asr→Nat→Prop
 | 0,Lr,_=>Goal Lr
 | m+1,Lr,k=>∃ q,(k∈efs→q=anyA)∧(Gb efs (q::Lr).reverse→SCF P n ops opf Q l w0 K lo O Gs efs (q::Lr).reverse k)∧Ge P n ops opf Q l w0 K lo O Gs efs Goal m (q::Lr) (k+1)
variable {Goal:List Asr→Prop}
theorem Gf {Lr:List Asr} {k:Nat} (h:Goal Lr):Ge P n ops opf Q l w0 K lo O Gs efs Goal 0 Lr k:=h
theorem fO {m k:Nat} {Lr:List Asr} (k':Nat) (hk:k+1=k') (hne:efs.contains k=false) (q:Asr) (h:Gb efs (q::Lr).reverse→SCF P n ops opf Q l w0 K lo O Gs efs (q::Lr).reverse k) (hr:Ge P n ops opf Q l w0 K lo O Gs efs Goal m (q::Lr) k'):Ge P n ops opf Q l w0 K lo O Gs efs Goal (m+1) Lr k:=by
 subst hk
 refine ⟨q,fun hc=>?_,h,hr⟩
 rw [List.contains_iff_mem.2 hc] at hne;cases hne
theorem Gg {m k:Nat} {Lr:List Asr} (k':Nat) (hk:k+1=k') (h:SCF P n ops opf Q l w0 K lo O Gs efs (anyA::Lr).reverse k) (hr:Ge P n ops opf Q l w0 K lo O Gs efs Goal m (anyA::Lr) k'):Ge P n ops opf Q l w0 K lo O Gs efs Goal (m+1) Lr k:=by
 subst hk;exact ⟨anyA,fun _=>rfl,fun _=>h,hr⟩
theorem Gh (ht:eP ops n=true):∀ (m k:Nat) (Lr:List Asr),Lr.length=k→Gb efs Lr.reverse→(∀ i,i < k→SCF P n ops opf Q l w0 K lo O Gs efs Lr.reverse i)→Ge P n ops opf Q l w0 K lo O Gs efs Goal m Lr k →
  ∃ Lr',Lr'.length=k+m∧(∀ i,i < k+m→SCF P n ops opf Q l w0 K lo O Gs efs Lr'.reverse i)∧Goal Lr'
 | 0,k,Lr,hl,hs,hg,h=>⟨Lr,hl,hg,h⟩
 | m+1,k,Lr,hl,hs,hg,⟨q,hq,hr,hn⟩=>by
  have hap:∀ j,j < k→atI Lr.reverse j=atI (q::Lr).reverse j:=fun j hj=>by rw [List.reverse_cons,jV (by simp;omega)]
  have hs':Gb efs (q::Lr).reverse:=fun j hj=>by
   rcases Nat.lt_trichotomy j k with h1 | h1 | h1
   ·rw [← hap j h1];exact hs j hj
   ·subst h1;rw [aH hl];exact hq hj
   ·exact wG (by simp;omega)
  obtain ⟨L',h1,h3,h4⟩:=Gh ht m (k+1) (q::Lr) (by simp [hl]) hs' (fun i hi=>by
   by_cases hik:i=k
   ·subst hik;exact hr hs'
   ·exact SCF.ext ht (fun j hj=>hap j (by omega)) (hg i (by omega))) hn
  exact ⟨L',by omega,fun i hi=>h3 i (by omega),h4⟩
def Gi (efs:List Nat) (lo:Nat) (X:Nat→Prop) (s:List Value):Nat→List Asr→List Asr
 | _,[]=>[]
 | j,q::L=>(match efs.idxOf? j with | some k=>isV (s.getD k undef) | none=>AwS lo X q)::Gi efs lo X s (j+1) L
theorem Ao {X:Nat→Prop}:∀ (L:List Asr) (j i:Nat),i < L.length→atI (Gi efs lo X s j L) i=(match efs.idxOf? (i+j) with | some k=>isV (s.getD k undef) | none=>AwS lo X (atI L i))
 | [],j,i,h=>by simp at h
 | q::L,j,0,h=>by rw [Nat.zero_add];rfl
 | q::L,j,i+1,h=>by
  show atI (Gi efs lo X s (j+1) L) i=_
  rw [Ao L (j+1) i (by simpa using h),show i+1+j=i+(j+1) by omega]
  rfl
theorem regCF {id k:Nat} {ds:List Nat} (hm:P.follows .mixedOrders=true) (hlo:lo=W.heap.size) (hS:St w0 O (Gs []) K W) (hk:Nat.blt k os.length=true) (htl:vG os.toArray k=true) (ht:eP os.toArray n=true) (hef:efs.all (fun a=>Nat.blt a k)=true) (hnd:efs.Nodup)
  (hdst:(List.range k).all (fun j=>((os.toArray[j]?).bind (·.dst)).isSome)=true) (hds:(os.drop k).all (fun o=>match o.dst with | some d=>ds.contains d | none=>true)=true)
  (h:Ge P n os.toArray (os.take k).toArray Q l w0 K lo O Gs efs (fun Lr=>∀ (s:List Value) (W':World) (Ks:List (Nat×World)),s.length=efs.length→W.heap.size≤W'.heap.size→(∀ q∈Ks,lo≤q.1)→St w0 O (Gs s) (Ks++K) W' →
   (∀ {O2 G2 K2 W2},St w0 O2 G2 K2 W2→(∀ q∈Ks,q∈K2)→eQ lo (XB O (Gs s)) W' W2) →
   kZ (os.take k) (Gi efs lo (XB O (Gs s)) s 0 Lr.reverse) (oL ds l) (fun l' W'=>cX P n os.toArray Q (os.drop k) l' W') W') k [] 0):fG P n (.region id os.toArray true) Q l W:=by
 obtain ⟨Lr,h1,h2,hfin⟩:=Gh ht k 0 [] rfl (fun j _=>by rfl) (fun i hi=>by omega) h
 rw [Nat.zero_add] at h1 h2
 have hk':k < os.length:=Nat.lt_of_lt_of_le (Nat.lt_succ_self _) (Nat.le_of_ble_eq_true hk)
 have hef':∀ a∈efs,a < k:=fun a ha=>Nat.lt_of_lt_of_le (Nat.lt_succ_self _) (Nat.le_of_ble_eq_true (List.all_eq_true.1 hef a ha))
 intro a ha
 have hrep:∀ (m j:Nat),(Array.replicate m false).getD j false=false:=fun m j=>by
  rw [Array.getD_eq_getD_getElem?,Array.getElem?_replicate];split<;>rfl
 refine wp_region_any hm (mR (fr:=freeT (os.take k).toArray) (t0:=a.tmps) (d0:=a.defers) (V:=VCF efs) (I:=ICF efs lo O Gs Lr.reverse) (G:=GCF w0 K lo O Gs) (k:=k) (fun i d hik hd=>?_) (by simpa using hk') htl (by rw [ha.size];exact ht) (fun i hi=>(h2 i hi).step a ha) ?_ _ [] _ _ _ (by simp) (jT _) (fun j hj=>by rw [hrep] at hj;cases hj) (fun i _=>hrep _ _) ⟨rfl,rfl,fun _ _=>rfl,⟨hS.drew,by rw [hlo];exact Nat.le_refl _⟩,⟨Nat.zero_le _,fun k' e he=>⟨fun h3=>(by rw [hrep] at h3;cases h3),fun h3=>absurd h3 (Nat.not_lt_zero _)⟩⟩,fun i d _ hj=>(by rw [hrep] at hj;cases hj)⟩)
 ·have hd2:(os[i]?).bind (·.dst)=some d:=by simpa using hd
  obtain ⟨o,ho,hod⟩:=Option.bind_eq_some_iff.1 hd2
  have hm2:o∈os.take k:=List.mem_of_getElem? (i:=i) (by rw [List.getElem?_take,if_pos hik];exact ho)
  cases hf:freeT (os.take k).toArray d with
  | false=>rfl
  | true =>
   unfold freeT at hf
   have:=Array.all_eq_true'.1 hf o (by simpa using hm2)
   rw [hod] at this
   simp at this
 intro s LB a' W' hR hdone hnot
 obtain ⟨hG,hG2⟩:=hR.glob
 obtain ⟨v1,v2⟩:=hR.cons
 have hlen:s.length=efs.length:=by
  rcases Nat.lt_or_ge s.length efs.length with h3 | h3
  ·have h4:=(v2 s.length efs[s.length] (by simp)).1 (hdone _ (hef' _ (List.getElem_mem h3)))
   omega
  ·omega
 obtain ⟨Ks,c1,⟨qw,c2,c3⟩,c4⟩:=Io ((O.map (·.1))++(Gs s).filterMap (fun g=>g.v.ownBlock)) lo W'
 have hG4:=hG.more Ks (fun q hq=>⟨(c1 q hq).2.1,fun p hp=>(c1 q hq).2.2 p.1 (List.mem_append_left _ (List.mem_map.2 ⟨p,hp,rfl⟩)),fun g hg b hb=>(c1 q hq).2.2 b (List.mem_append_right _ (List.mem_filterMap.2 ⟨g,hg,hb⟩))⟩)
 have hcov:∀ {O2 G2 K2 W2},St w0 O2 G2 K2 W2→(∀ q∈Ks,q∈K2)→eQ lo (XB O (Gs s)) W' W2:=fun {O2 G2 K2 W2} h2 hq=>by
  refine ⟨⟨h2.below.os.trans hG.below.os.symm,h2.below.tape.trans hG.below.tape.symm,h2.below.output.trans hG.below.output.symm⟩,?_,fun b b1 b2 b3=>?_⟩
  ·have:=(h2.kept qw (hq qw c2)).1.1;rw [c3] at this;exact this
  ·obtain ⟨q,q1,q2,q3⟩:=c4 b b1 b2 (fun hb=>b3 (by
    rcases List.mem_append.1 hb with hb | hb
    ·obtain ⟨p,hp,rfl⟩:=List.mem_map.1 hb
     exact .inl ⟨p,hp,rfl⟩
    ·obtain ⟨g,hg,e⟩:=List.mem_filterMap.1 hb
     exact .inr ⟨g,hg,e⟩))
   exact ((h2.kept q (hq q q1)).1.2 b q2 q3).trans ((c1 q q1).2.1.2 b q2 q3).symm
 have htk:(os.take k).length=k:=by simp;omega
 refine nL (os.take k) (Gi efs lo (XB O (Gs s)) s 0 Lr.reverse) (oL ds l) (fun i d hi hd'=>?_) (fun i hi hd'=>?_) (hR.size.trans ha.size) (hR.defers.trans ha.defers) ?_ (fun l' h ha'=>?_) (hfin s W' Ks hlen (by rw [← hlo];exact hG2) (fun q hq=>(c1 q hq).1) hG4 hcov)
 ·have hik:i < k:=by omega
  have hd2:(os.toArray[i]?).bind (·.dst)=some d:=by rw [List.getElem?_take,if_pos hik] at hd';simpa using hd'
  obtain ⟨i1,i2⟩:=hR.done i d hd2 (hdone i hik)
  rw [Ao Lr.reverse 0 i (by simp;omega),Nat.add_zero]
  cases hc1:efs.idxOf? i with
  | some k' =>
   have he:efs[k']?=some i:=by
    have:=List.findIdx?_eq_some_iff_getElem.1 hc1
    obtain ⟨h3,h4,_⟩:=this
    rw [List.getElem?_eq_getElem h3]
    simpa using h4
   show _=_
   have h5:=i1 k' he
   simp [List.getD,h5]
  | none =>
   have hni:i∉efs:=fun hm'=>by
    have:=List.findIdx?_eq_none_iff.1 hc1 i hm'
    simp at this
   exact i2 hni
 ·have hik:i < k:=by omega
  have h3:=List.all_eq_true.1 hdst i (List.mem_range.2 hik)
  have hd2:(os.toArray[i]?).bind (·.dst)=none:=by rw [List.getElem?_take,if_pos hik] at hd';simpa using hd'
  rw [hd2] at h3;cases h3
 ·intro t v hv hno
  have hl:=lY hv (gC hv)
  rw [hR.frame t ?_]
  ·exact ha.at_ t v hl
  ·unfold freeT;rw [Array.all_eq_true'];intro o' ho'
   have ho2:o'∈os.take k:=by simpa using ho'
   simpa using hno o' ho2
 ·have:=h a' ha'
  simpa using this
end
def CV.pl (c:CV):Int×List Int:=(c.p,c.ws)
theorem Kz (v00:Value) (v01:Value):Instr.fill (fun i=>some (i * 2,2)) ((Array.range (1 * 2)).map ((Value.cells (.agg #[.int .i64 0,.slice none 0 0]))[· % (Value.cells (.agg #[.int .i64 0,.slice none 0 0])).size]!)) [(0,.agg #[v00,v01])]=some (List.toArray [v00,v01]):=by kernel_rfl
theorem Q2:prog.info? 36=some Tryz.t36:=by kernel_rfl
def eS (p:Int) (ws:List Int):List RV→Nat→Option (List (Int×Int×List Int))
 | [],_=>some []
 | r::rs,i=>if kR r p ws=true then (if 4096 < r.wl+(ws.length - 1) then none else (eS p ws rs (i+1)).map (((i:Int),r.q,r.ws++ws.tail) :: ·)) else eS p ws rs (i+1)
def pN (c:CV):List Value:=[.int .i64 c.p,.slice c.wa c.wl c.wc]
def Ap (lo:Nat) (W:World) (c:CV):Prop:=fT lo W c.wa c.wc c.ws∧c.wl=c.ws.length
theorem Gj {P:Program} {f:FuncId} {vs:Array Value} {w:World} {p:Int} {xs:List Int} {lo:Nat} (hlo:lo≤w.heap.size) (h:Calls P f vs w (Qs p xs w)):Calls P f vs w (lV (iD lo p xs) w):=h.mono fun e w2 ⟨a,c,he,hn,hb⟩=>⟨_,he,fun w3 hg=>⟨a,c,rfl,(hn.agree hg).mono hlo⟩,hb⟩
def Dk (R:Option (List (Int×Int×List Int))) (w:World) (e:Ending) (w':World):Prop:=Below w.heap.size w w'∧match R with
 | none=>e = .returned (.tuple #[.slice none 0 0,.slice none 0 0,.int .i64 2])
 | some l=>∃ (v8 v9:Value) (cs:List CV),e = .returned (.tuple #[v8,v9,.int .i64 0])∧w'.ownsRow w.heap.size 3 1 v8 l.length ((l.map (·.1)).map (Value.int .i64))∧w'.ownsRow w.heap.size 36 2 v9 cs.length (cs.flatMap pN)∧cs.map CV.pl=l.map (·.2)∧∀ c∈cs,Ap w.heap.size w' c
theorem Dl {w w':World} (hb:Below w.heap.size w w'):Dk none w (.returned (.tuple #[.slice none 0 0,.slice none 0 0,.int .i64 2])) w':=⟨hb,rfl⟩
theorem Iv {p:Int} {ws t:List Int} {y:Int} {r:RV} {rs:List RV} {i:Nat} {acc:List (Int×Int×List Int)} {R:Option (List (Int×Int×List Int))} (h:(eS p ws (r::rs) i).map (acc ++ ·)=R) (ha:kR r p ws=true) (hy:ws=y::t) (hl:¬ 4096 < r.wl+(ws.length - 1)):(eS p ws rs (i+1)).map ((acc++[((i:Int),r.q,r.ws++t)]) ++ ·)=R:=by
 rw [← h]
 simp only [eS]
 rw [if_pos ha,if_neg hl,hy]
 cases eS p (y::t) rs (i+1)<;>simp
theorem nextR_c (ds d:Nat) (s:SV) (st sy:Int) (ra:Option Addr) (rl rc:Nat) (rs:List RV) (p:Int) (wa:Option Addr) (wl wc:Nat) (ws:List Int) (w:World) (hs:SIn w ds s) (hprow:lD w ra rs) (hplen:rs.length=rl) (hin:∀ r∈rs,RIn w d r) (hrow:Row w wa ws) (hlen:ws.length=wl) (hcap:wl≤wc) (hchk:stepE ⟨s,st,sy,ra,rl,rc,rs⟩ ⟨p,wa,wl,wc,ws⟩=0) (hrm:rl≤16384) (h4:∀ r∈rs,r.wl≤4096) (hw4:wl≤4096) :
  Calls prog 33 #[.agg #[.int .i64 s.f.tag,.int .i64 s.f.dim,.slice s.f.a s.f.len s.f.cap,.int .i64 st,.int .i64 sy,.slice ra rl rc],.agg #[.int .i64 p,.slice wa wl wc]] w (Dk (eS p ws rs 0) w):=by
 refine cH (args:=[.agg #[.int .i64 s.f.tag,.int .i64 s.f.dim,.slice s.f.a s.f.len s.f.cap,.int .i64 st,.int .i64 sy,.slice ra rl rc],.agg #[.int .i64 p,.slice wa wl wc]]) func33 rfl ntmps33 rfl ?_
 have hS:=St.start w
 refine aL (aR (bK (cs:=[_,_,_,_,_,_]) hS rfl rfl rfl fun B1 W1 hS=>bK (cs:=[_,_]) hS rfl rfl rfl fun B2 W2 hS=>aA rfl rfl (aA rfl rfl (aA rfl rfl (aQ (XF.thenN (aL (aR (aS (vs:=[_,_,_,_,_,_]) isAgg28 sizeOf28 rfl (aE.own (j:=0) (m:=6) (hS.at_ 1 rfl) rfl) rfl (aS (vs:=[_,_]) isAgg36 sizeOf36 rfl (aE.own (j:=0) (m:=2) (hS.at_ 0 rfl) rfl) rfl (cF (vs:=[_,_]) hS wC rfl (tK ds d ⟨s,st,sy,ra,rl,rc,rs⟩ ⟨p,wa,wl,wc,ws⟩ _ (PvIn.below ⟨hs,hprow,hplen,hin⟩ hS.below) (CIn.below ⟨hrow,hlen⟩ hS.below)) rfl fun W3 hS=>aA rfl rfl (aQ (XF.thenN (aL (aL (aR (aG rfl rfl (dA rfl rfl rfl (aQ (XF.thenN (aZ rfl (fun hc=>absurd (of_decide_eq_true hc) (by exact fun h=>h hchk)) (fun hc=>?_))))))))))))))))))))))
 have hc:=of_decide_eq_false hc
 refine bG (XF.thenN (aL (aR (aA rfl rfl (aQ (XF.thenN (aL (aR (aA rfl rfl (aQ (XF.thenN (aL (aL ?_)))))))))))))
 have hS:=(hS.newG 36 2).newG 3 1
 refine aR (aA rfl rfl (aQ (XF.thenN (bM ?_))))
 refine dK (fun m l W=>∃ (i:Nat) (v8 v9:Value) (acc:List (Int×Int×List Int)) (cs:List CV) (Kk:List (Nat×World)),i≤rl∧m=rl - i∧l=[(2,.pointer (some ⟨B1,0,none⟩)),(3,.pointer (some ⟨B2,0,none⟩)),(8,v8),(9,v9),(10,.int .i64 (i:Int))]∧(eS p ws (rs.drop i) i).map (acc ++ ·)=eS p ws rs 0∧acc.length≤i∧cs.map CV.pl=acc.map (·.2)∧jJ w Kk (fun W2=>∀ c∈cs,Ap w.heap.size W2 c)∧St w [(B2,[.int .i64 p,.slice wa wl wc],36),(B1,[.int .i64 s.f.tag,.int .i64 s.f.dim,.slice s.f.a s.f.len s.f.cap,.int .i64 st,.int .i64 sy,.slice ra rl rc],28)] [⟨v8,acc.length,(acc.map (·.1)).map (Value.int .i64),3,1⟩,⟨v9,cs.length,cs.flatMap pN,36,2⟩] Kk W) (rl - 0) ([(2,_),(3,_),(8,_),(9,_),(10,_)]) ⟨rfl,rfl,rfl,rfl,rfl,trivial⟩ (⟨0,_,_,[],[],[],Nat.zero_le _,rfl,rfl,by rw [List.drop_zero];cases eS p ws rs 0<;>rfl,Nat.le_refl _,rfl,(fun _ _ c hc=>by cases hc),hS.clear⟩) ?_
 clear hS
 rintro m l W ⟨i,v8,v9,acc,cs,Kk,hi,rfl,rfl,hrun,hacc,hcs9,hX,hS⟩
 refine aL (aL (aR (aG rfl rfl (aP (o':=5) eX rfl rfl rfl (aT isAgg26 rfl (aK (hS.at_ 1 rfl) rfl) rfl (bX underlying26 rfl rfl (cN rfl rfl rfl (aQ (XF.thenN (aZ rfl (fun hc=>?_) (fun hc=>?_)))))))))))
 ·have hc22:=of_decide_eq_true hc;clear hc
  have hk:i < rl:=by omega
  obtain ⟨r,hr⟩:∃ r,rs[i]?=some r:=⟨rs[i]'(by omega),by simp [show i < rs.length by omega]⟩
  obtain ⟨b,off,rfl,hcs⟩:=hprow.at_ hr
  have k1:=aE.agree hS.agree (Nat.zero_le _) hcs
  have hri:=hin r (List.mem_of_getElem? hr)
  have hr4:=h4 r (List.mem_of_getElem? hr)
  have hcl:cs.length=acc.length:=by have:=congrArg List.length hcs9;simpa using this
  rw [yD hr] at hrun
  refine bG (XF.thenN (aL (bM (aL (aL (iE (m:=8) cE hS (by kernel_rfl) (by kernel_rfl) rfl (cC 1 rfl 2 rfl rfl (fun w hw=>aW (o':=5) eX rfl rfl) rfl (aX 2 rfl 25 0 rfl rfl rfl (fun w hw=>bA isAgg26 rfl ((aN hw 0).cell (Nat.zero_le _) (aK (hS.at_ 1 rfl) rfl))) rfl (cC 3 rfl 10 rfl rfl (fun w hw=>bE rfl) rfl (aM 4 rfl (isV _) (aJ _) (rgV (li:=[(26,_),(27,_)]) rfl (aU rfl) ⟨aO 1 (aB rfl rfl rfl),aO 2 (aB rfl rfl rfl),trivial⟩ (fun w hw=>bB  underlying26 sizeOf62 rfl rfl rfl (by omega) rfl) (aH rfl)) (aX 5 rfl 28 3 rfl rfl rfl (fun w hw=>bF (vs:=[_,_,_,_,_,_,_,_,_,_]) isAgg62 sizeOf62 rfl (aE.agree (aN hw 0) (Nat.zero_le _) (by assumption))) rfl (cC 6 rfl 3 rfl rfl (fun w hw=>bF (vs:=[_,_]) isAgg36 sizeOf36 rfl (aE.agree (aN hw 0) (Nat.zero_le _) (aE.own (j:=0) (m:=2) (hS.at_ 0 rfl) rfl))) rfl ?_))))))))))))
  refine aM 7 rfl (isV (.bool (kR r p ws))) (aJ _) (cV [isV _,isV _] rfl goes_52 (aU rfl) ⟨bZ (aO 4 (aB rfl rfl rfl)),bZ (aO 5 (aB rfl rfl rfl)),trivial⟩ (fun vs w' hb hh=>by have e:=cB (us:=[_,_]) hh;subst e;exact (M2 r p _ _ _ ws _ (hrow.below (hS.below.trans (hb.mono hS.below.size))) hlen).mono fun e w2 h=>⟨_,h.1,rfl,h.2⟩) (aH rfl)) ?_
  refine aX 8 rfl 31 6 rfl rfl rfl (fun w hw=>jU rfl) rfl (dC ?_)
  intro W4 hbR hS'
  clear hS;have hS:=hS';clear hS'
  refine aI (aI (aI (aI (aI (aI (aI (aI (cL (XF.thenN (aZ rfl (fun hc=>?_) (fun hc=>?_)))))))))))
  ·have hc32:=hc;clear hc
   refine dE (XF.thenX (XF.blkX (XF.thenN (aR (aG rfl rfl (cR rfl rfl (IntWalk.i64_in _ (by omega)) rfl (aA rfl rfl (aQ ?_))))))))
   exact XF.round (rl - (i+1)) [(2,_),(3,_),(8,_),(9,_),(10,_)] (by omega) ⟨rfl,rfl,rfl,rfl,rfl,trivial⟩ ⟨i+1,v8,v9,acc,cs,_,by omega,rfl,rfl,by rw [← hrun];simp only [eS];rw [if_neg (by simpa using hc32)],by omega,hcs9,hX.more (fun q hq=>by simp [hq]),hS⟩
  ·have hc32:=hc;clear hc
   have happ:kR r p ws=true:=by simpa using hc32
   obtain ⟨y,t,hyt⟩:∃ y t,ws=y::t:=by
    cases ws with
    | nil=>simp [kR] at happ
    | cons y t=>exact ⟨y,t,rfl⟩
   have hlt:wl=t.length+1:=by rw [← hlen,hyt];rfl
   have hl2:(r.ws++t).length=r.wl+t.length:=by rw [List.length_append,hri.len]
   refine bG (XF.thenN (aL ?_))
   have hsz10:=hS.below.size
   refine regS (ef:=9) (jy:=9) (ca:=Fy (fun _=>[.int .i64 0,.slice none 0 0])) (ta:=fun _=>36) (Os:=Fz _) (Gs:=uQ _) (al:=[7]) (k:=8) (ds:=[]) cE rfl hS rfl (by kernel_rfl) (by kernel_rfl) rfl (by decide) rfl (fun _=>none) (.inr ⟨rfl,rfl,rfl⟩) rfl rfl (dB 1 rfl rfl (isV _) (fun hNo=>sgV [(2,_)] rfl rfl rfl rfl hNo (aU rfl) ⟨cI rfl,trivial⟩ (fun ev w he hw=>aW (o':=5) eX rfl rfl) (aH rfl)) (dB 2 rfl rfl (isV _) (fun hNo=>sgV [(33,_)] rfl rfl rfl rfl hNo (aU rfl) ⟨aO 0 (aB rfl rfl rfl),trivial⟩ (fun ev w he hw=>bA isAgg26 rfl ((aK (hw.at_ 1 rfl) rfl))) (aH rfl)) (dB 3 rfl rfl (isV _) (fun hNo=>sgV [(10,_)] rfl rfl rfl rfl hNo (aU rfl) ⟨cI rfl,trivial⟩ (fun ev w he hw=>bE rfl) (aH rfl)) (dB 4 rfl rfl (isV _) (fun hNo=>sgV [(34,_),(35,_)] rfl rfl rfl rfl hNo (aU rfl) ⟨aO 1 (aB rfl rfl rfl),aO 2 (aB rfl rfl rfl),trivial⟩ (fun ev w he hw=>bB  underlying26 sizeOf62 rfl rfl rfl (by omega) rfl) (aH rfl)) (dB 5 rfl rfl (isV _) (fun hNo=>sgV [(36,_)] rfl rfl rfl rfl hNo (aU rfl) ⟨aO 3 (aB rfl rfl rfl),trivial⟩ (fun ev w he hw=>bF (vs:=[_,_,_,_,_,_,_,_,_,_]) isAgg62 sizeOf62 rfl (aE.agree hw.agree (Nat.zero_le _) (hcs))) (aH rfl)) (dB 6 rfl rfl (isV _) (fun hNo=>sgV [(3,_)] rfl rfl rfl rfl hNo (aU rfl) ⟨cI rfl,trivial⟩ (fun ev w he hw=>bF (vs:=[_,_]) isAgg36 sizeOf36 rfl ((aE.own (j:=0) (m:=2) (hw.at_ 0 rfl) rfl))) (aH rfl)) ?_))))))
   refine dB 7 rfl rfl (iD W4.heap.size r.q (r.ws++t)) (fun hNo=>Dc [isV _,isV _] rfl rfl rfl rfl hNo goes_53 (aU rfl) ⟨bZ (aO 4 (aB rfl rfl rfl)),bZ (aO 5 (aB rfl rfl rfl)),trivial⟩ (fun vs ev w' he hSt hlo hh=>by have e:=cB (us:=[_,_]) hh;subst e;exact Gj hlo (by_c r p y _ _ _ t w' (hri.row.below hSt.below) hri.len (by rw [← hyt];exact hrow.below hSt.below) (by rw [← hyt];exact hlen) hcap (by omega) (by omega))) (aH rfl)) ?_
   refine wI 8 rfl (Fx rfl rfl rfl rfl rfl zeroValue36 (fun ev he=>rfl)) (wH ?_)
   intro Bf5 y5 W5 Ks5 hsz5 hKs5 hS' hcov5
   clear hS;have hS:=hS'.castO (O':=[_,_,_]) rfl;clear hS'
   refine nM (L':=[AwS _ _ (isV _),AwS _ _ (isV _),AwS _ _ (isV _),AwS _ _ (isV _),AwS _ _ (isV _),AwS _ _ (isV _),AwS _ _ (iD W4.heap.size r.q (r.ws++t)),isV _]) rfl (bP (bP (bP (bP (bP (bP ?_))))))
   refine cW ?_;rintro v hA10;obtain ⟨a2,c2,rfl,hn2⟩:=hA10.here;have hcov10:=@hcov5
   refine aI (cL (aV (i:=0) (vs:=[_,_]) (cs':=[_,_]) (O':=[_,_,_]) hS sizeOf36 rfl rfl rfl rfl rfl rfl rfl fun W6 hS=>aQ (XF.thenN (aL (aL (aR (aS (vs:=[_,_]) isAgg36 sizeOf36 rfl (aE.own (j:=0) (m:=2) (hS.at_ 0 rfl) rfl) rfl (cF (vs:=[_]) hS goes_54 rfl (long_is ⟨r.q,a2,(r.ws++t).length,c2,r.ws++t⟩ _) rfl fun W7 hS=>aQ (XF.thenN (aZ rfl (fun hc=>?_) (fun hc=>?_)))))))))))
   ·have hc41:=hc;clear hc
    refine aL (aR (aA rfl rfl (aA rfl rfl (aA rfl rfl (aQ (XF.thenN (bJ (XF.thenR (XF.blkR (XF.thenR (XF.thenR (XF.blkR (XF.thenR (XF.res (Di results33 rfl rfl rfl) ?_))))))))))))))
    have hlo2:4096 < (r.ws++t).length:=of_decide_eq_true hc41
    rw [← hrun]
    simp only [eS]
    rw [if_pos happ,if_pos (by omega)]
    exact Dl hS.below
   ·have hc41:=hc;clear hc
    have hlo2:¬ 4096 < (r.ws++t).length:=of_decide_eq_false hc41
    refine bG (XF.thenN (regCF (Gs:=gsC _ [(0,fun v=>⟨v,acc.length+1,(acc.map (·.1)).map (Value.int .i64)++[.int .i64 (i:Int)],3,1⟩)]) (efs:=[3]) (k:=7) (ds:=[8,9,49]) cE rfl hS rfl (by kernel_rfl) (by kernel_rfl) rfl (by decide) rfl rfl (fO 1 rfl rfl (isV _) (fun hNo=>Gd bD [(8,_)] rfl rfl hNo (aU rfl) ⟨cI rfl,trivial⟩ (fun s w hw=>bE rfl) (aH rfl)) (fO 2 rfl rfl (isV _) (fun hNo=>Gd bD [(10,_)] rfl rfl hNo (aU rfl) ⟨cI rfl,trivial⟩ (fun s w hw=>bE rfl) (aH rfl)) (fO 3 rfl rfl (gR W7.heap.size 1 3 _) (fun hNo=>tR bD (us:=[.int .i64 _]) rfl rfl hNo (aU rfl) underlying29 sizeOf3 zeroValue3 rfl rfl ⟨bZ (aO 1 (aB rfl rfl rfl)),trivial⟩ (qI _) (aH rfl)) ?_)))))
    refine Gg 4 rfl (Ky (efs:=[3]) (jy:=2) (m:=1) bD 0 0 [(42,_)] rfl rfl (by decide) rfl (fun j hj=>by simp at hj;subst hj;rfl) underlying29 qZ rfl rfl (by show 0 < 1;decide) (hg0 rfl) (hgs0 (fun _=>rfl)) ⟨aO 0 (aB rfl rfl rfl),trivial⟩ rfl (by kernel_rfl) rfl rfl rfl rfl (by simp only [maxLen];omega) (by show (acc.length+1) * 8≤_;omega)) ?_
    refine fO 5 rfl rfl (isV _) (fun hNo=>Gd bD [(9,_)] rfl rfl hNo (aU rfl) ⟨cI rfl,trivial⟩ (fun s w hw=>bE rfl) (aH rfl)) (fO 6 rfl rfl (isV _) (fun hNo=>Gd bD [(11,_)] rfl rfl hNo (aU rfl) ⟨cI rfl,trivial⟩ (fun s w hw=>bF (vs:=[_,_]) isAgg36 sizeOf36 rfl ((aE.own (j:=0) (m:=2) (hw.at_ 0 rfl) rfl))) (aH rfl)) (fO 7 rfl rfl (gR W7.heap.size 1 36 _) (fun hNo=>tR bD (us:=[.agg (List.toArray [_,_])]) rfl rfl hNo (aU rfl) underlying71 sizeOf36 zeroValue36 rfl rfl ⟨bZ (aO 5 (aB rfl rfl rfl)),trivial⟩ (Kz _ _) (aH rfl)) (Gf ?_)))
    intro s8 W8 Ks8 hlen8 hsz8 hKs8 hS' hcov8
    obtain ⟨v8_3,rfl⟩:=List.length_eq_one_iff.1 hlen8
    clear hS;have hS:=hS'.castG (G':=[_,_]) rfl;clear hS'
    refine nM (L':=[AwS _ _ (isV _),AwS _ _ (isV _),AwS _ _ (gR W7.heap.size 1 3 _),isV _,AwS _ _ (isV _),AwS _ _ (isV _),AwS _ _ (gR W7.heap.size 1 36 _)]) rfl (bP (bP ?_))
    refine cW ?_;rintro _ hA8_2;obtain ⟨BR2,rfl,hlo2,hrow2⟩:=hA8_2.here
    refine aI (bP (bP ?_))
    refine cW ?_;rintro _ hA8_6;obtain ⟨BR6,rfl,hlo6,hrow6⟩:=hA8_6.here
    refine cL ?_
    refine iO (i:=1) (news:=[.int .i64 r.q,.slice a2 (r.ws++t).length c2]) hS underlying71 Q2 rfl rfl (by show 0 < 2;decide) rfl rfl rfl rfl rfl (Qy hrow6) (rfl) (fun u hu=>by simp at hu;rcases hu with rfl | rfl<;>rfl) (by dsimp only;simp only [maxLen];omega) (by dsimp only;show (cs.length+1) * 32≤_;omega) rfl fun v9 W9 hS=>?_
    refine aA rfl rfl (aA rfl rfl (aQ (XF.blkN (XF.thenN (aR (aG rfl rfl (cR rfl rfl (IntWalk.i64_in _ (by omega)) rfl (aA rfl rfl (aQ ?_)))))))))
    exact XF.round (rl - (i+1)) [(2,_),(3,_),(8,_),(9,_),(10,_)] (by omega) ⟨rfl,rfl,rfl,rfl,rfl,trivial⟩ ⟨i+1,_,_,acc++[((i:Int),r.q,r.ws++t)],cs++[⟨r.q,a2,(r.ws++t).length,c2,r.ws++t⟩],_,by omega,rfl,rfl,Iv hrun happ hyt (by omega),by simp;omega,by simp [hcs9,CV.pl],(fun h2 hk c hc=>by
      rcases List.mem_append.1 hc with hc | hc
      ·exact hX h2 (fun q hq=>hk q (by simp [hq])) c hc
      ·simp at hc;subst hc
       obtain ⟨a3,c3,e3,h3⟩:=hA10 _ (hcov10 h2 (fun q hq=>hk q (by simp [hq])))
       simp at e3
       obtain ⟨rfl,rfl⟩:=e3
       exact ⟨h3.mono hsz10,by simp⟩),hS.tail.castG (by simp [pN])⟩
 ·have hc22:=of_decide_eq_false hc;clear hc
  refine dE (XF.thenX (XF.thenX (XF.blkX (XF.thenN (aL (aR (aG rfl rfl (aG rfl rfl (aA rfl rfl (aA rfl rfl (aA rfl rfl (aQ (XF.thenN (bJ (XF.res (Di results33 rfl rfl rfl) ?_)))))))))))))))
  rw [List.drop_of_length_le (by omega)] at hrun
  rw [← hrun]
  exact ⟨hS.below,v8,v9,cs,rfl,by simpa using hS.row 0 rfl,hS.row 1 rfl,by simpa using hcs9,hX.now hS⟩
def CfRow (w:World) (a:Option Addr) (cs:List CV):Prop:=∀ (i:Nat) c,cs[i]?=some c→∃ b off,a=some ⟨b,off,none⟩∧aE w b (off+i * 2) (pN c)
def mA (p:PV):List CV→Int
 | []=>0
 | c::r=>if stepE p c≠0 then stepE p c else mA p r
def jY (p:PV) (cs:List CV) (n:Int):Int:=if mA p cs≠0 then mA p cs else if n < 0∨64 < n then 5 else 0
theorem dropC {α:Type} {cs:List α} {i:Nat} {c:α} (h:cs[i]?=some c):cs.drop i=c::cs.drop (i+1):=by
 obtain ⟨hi,e⟩:=List.getElem?_eq_some_iff.1 h
 rw [List.drop_eq_getElem_cons hi,e]
theorem Dm (ds d:Nat) (s:SV) (st sy:Int) (ra:Option Addr) (rl rc:Nat) (rs:List RV) (w:World) (hs:SIn w ds s) (hrow:lD w ra rs) (hlen:rs.length=rl) (hin:∀ r∈rs,RIn w d r) (n:Int) (la:Option Addr) (ll lc:Nat) (cs:List CV) (hcs:CfRow w la cs) (hcl:cs.length=ll) (hci:∀ c∈cs,CIn w c) (hcm:ll≤9223372036854775807) :
  Calls prog 14 #[.agg #[.int .i64 s.f.tag,.int .i64 s.f.dim,.slice s.f.a s.f.len s.f.cap,.int .i64 st,.int .i64 sy,.slice ra rl rc],.int .i64 n,.slice la ll lc] w (fun e w'=>e = .returned (.int .i64 (jY ⟨s,st,sy,ra,rl,rc,rs⟩ cs n))∧Below w.heap.size w w'):=by
 refine cH (args:=[.agg #[.int .i64 s.f.tag,.int .i64 s.f.dim,.slice s.f.a s.f.len s.f.cap,.int .i64 st,.int .i64 sy,.slice ra rl rc],.int .i64 n,.slice la ll lc]) func14 rfl ntmps14 rfl ?_
 have hS:=St.start w
 have hpi:PvIn w ds d ⟨s,st,sy,ra,rl,rc,rs⟩:=⟨hs,hrow,hlen,hin⟩
 refine aL (aR (bK (cs:=[_,_,_,_,_,_]) hS rfl rfl rfl fun B1 W1 hS=>aA rfl rfl (aQ (XF.thenN (aL (aL (aR (aG rfl rfl (bX underlying71 rfl rfl (aG rfl rfl (aQ (XF.thenN (bM (dK (fun m l W=>∃ i:Nat,i≤ll∧m=ll - i∧l=[(1,.int .i64 n),(3,.pointer (some ⟨B1,0,none⟩)),(10,.slice la ll lc),(11,.int .i64 (ll:Int)),(12,.int .i64 (i:Int))]∧mA ⟨s,st,sy,ra,rl,rc,rs⟩ (cs.drop i)=mA ⟨s,st,sy,ra,rl,rc,rs⟩ cs∧St w [(B1,[.int .i64 s.f.tag,.int .i64 s.f.dim,.slice s.f.a s.f.len s.f.cap,.int .i64 st,.int .i64 sy,.slice ra rl rc],28)] [] [] W) (ll - 0) ([(1,_),(3,_),(10,_),(11,_),(12,_)]) ⟨rfl,rfl,rfl,rfl,rfl,trivial⟩ (⟨0,Nat.zero_le _,rfl,rfl,rfl,hS.clear⟩) ?_))))))))))))))
 clear hS
 rintro m l W ⟨i,hi,rfl,rfl,hrun,hS⟩
 refine aL (aR (cN rfl rfl rfl (aQ (XF.thenN (aL (aZ rfl (fun hc=>?_) (fun hc=>?_)))))))
 ·have hc13:=of_decide_eq_true hc;clear hc
  have hk:i < ll:=by omega
  obtain ⟨c,hc⟩:∃ c,cs[i]?=some c:=⟨cs[i]'(by omega),List.getElem?_eq_getElem _⟩
  obtain ⟨b,off,rfl,hcc⟩:=hcs i c hc
  have hci9:=hci c (List.mem_of_getElem? hc)
  have k1:=aE.agree hS.agree (Nat.zero_le _) hcc
  rw [dropC hc] at hrun
  simp only [mA] at hrun
  dsimp only [pN] at k1
  refine bG (XF.thenN (aL (bM (aL (aR (cK  underlying71 sizeOf36 rfl rfl rfl (by omega) rfl rfl (aS (vs:=[_,_]) isAgg36 sizeOf36 rfl (k1) rfl (bH (cs:=[_,_]) hS zeroValue36 rfl rfl fun B2 W2 hS=>aV (i:=0) (vs:=[_,_]) (cs':=[_,_]) (O':=[_,_]) hS sizeOf36 rfl rfl rfl rfl rfl rfl rfl fun W3 hS=>aQ (XF.thenN (aL (aR (aS (vs:=[_,_,_,_,_,_]) isAgg28 sizeOf28 rfl (aE.own (j:=0) (m:=6) (hS.at_ 1 rfl) rfl) rfl (aS (vs:=[_,_]) isAgg36 sizeOf36 rfl (aE.own (j:=0) (m:=2) (hS.at_ 0 rfl) rfl) rfl (cF (vs:=[_,_]) hS Cw rfl (xV ds d ⟨s,st,sy,ra,rl,rc,rs⟩ c _ (hpi.below hS.below) (hci9.below hS.below)) rfl fun W4 hS=>aA rfl rfl (aQ (XF.thenN (aL (aR (aG rfl rfl (dA rfl rfl rfl (aQ (XF.thenN (aZ rfl (fun hc=>?_) (fun hc=>?_))))))))))))))))))))))))
  ·have hc20:=of_decide_eq_true hc;clear hc
   refine aL (aR (aG rfl rfl (aA rfl rfl (aQ (XF.thenN (bJ (XF.blkR (XF.thenR (XF.thenR (XF.blkR (XF.thenR (XF.res (cJ results14 rfl) ?_))))))))))))
   rw [if_pos hc20] at hrun
   exact ⟨dR (by unfold jY;rw [← hrun,if_pos hc20]),hS.below⟩
  ·have hc20:=of_decide_eq_false hc;clear hc
   rw [if_neg hc20] at hrun
   refine bG (XF.blkN (XF.thenN (aR (cR rfl rfl (IntWalk.i64_in _ (by omega)) rfl (aG rfl rfl (aQ ?_))))))
   exact XF.round (ll - (i+1)) [(1,_),(3,_),(10,_),(11,_),(12,_)] (by omega) ⟨rfl,rfl,rfl,rfl,rfl,trivial⟩ ⟨i+1,by omega,rfl,rfl,hrun,hS.tail.clear⟩
 ·have hc13:=of_decide_eq_false hc;clear hc
  rw [List.drop_of_length_le (by omega)] at hrun
  simp only [mA] at hrun
  have h0:¬ mA ⟨s,st,sy,ra,rl,rc,rs⟩ cs≠0:=fun h=>h hrun.symm
  refine dE (XF.thenX (XF.thenX (XF.blkX (XF.thenN (aL (aL (aR (aG rfl rfl (cN rfl rfl rfl (aG rfl rfl (bS (d:=25) rfl (fun hc=>?_) (fun hc=>?_))))))))))))
  ·have hg25:=of_decide_eq_true hc;clear hc
   refine aF (d:=25) rfl rfl rfl rfl (aF (d:=25) rfl rfl rfl rfl (bC rfl rfl rfl (aQ (XF.thenN (dJ rfl (aL (aR (aA rfl rfl (aQ (XF.thenN (bJ (XF.thenR (XF.res (cJ results14 rfl) ?_)))))))))))))
   exact ⟨dR (by unfold jY;rw [if_neg h0,if_pos (.inl (by omega))]),hS.below⟩
  ·have hg25:=of_decide_eq_false hc;clear hc
   refine aC (d:=25) rfl rfl (aG rfl rfl (aC (d:=25) rfl rfl (dM rfl rfl rfl (bV rfl rfl rfl (aQ (XF.thenN (aZ rfl (fun hc=>?_) (fun hc=>?_))))))))
   ·have hc28:=of_decide_eq_true hc;clear hc
    refine aL (aR (aA rfl rfl (aQ (XF.thenN (bJ (XF.thenR (XF.res (cJ results14 rfl) ?_)))))))
    exact ⟨dR (by unfold jY;rw [if_neg h0,if_pos (.inr (by omega))]),hS.below⟩
   ·have hc28:=of_decide_eq_false hc;clear hc
    refine bG (XF.thenN (aL (aR (aA rfl rfl (aQ (XF.thenN (bJ (XF.res (cJ results14 rfl) ?_))))))))
    exact ⟨dR (by unfold jY;rw [if_neg h0,if_neg (by omega)]),hS.below⟩
theorem Q3 (n:Int) (w:World) :
  Calls prog 6 #[.int .i64 n] w (fun e w'=>e = .returned (.int .i64 (if 4 < n∧n≤64 then 4 else n))∧Below w.heap.size w w'):=by
 refine cH (args:=[.int .i64 n]) func6 rfl ntmps6 rfl ?_
 have hS:=St.start w
 refine aL (aR (aA rfl rfl (aQ (XF.thenN (aL (aL (aR (aG rfl rfl (dM rfl rfl rfl (aG rfl rfl (bS (d:=5) rfl (fun hc=>?_) (fun hc=>?_))))))))))))
 ·have hg5:=of_decide_eq_true hc;clear hc
  refine aC (d:=5) rfl rfl (aG rfl rfl (aC (d:=5) rfl rfl (Cd rfl rfl rfl (bC rfl rfl rfl (aQ (XF.thenN (aZ rfl (fun hc=>?_) (fun hc=>?_))))))))
  ·have hc8:=of_decide_eq_true hc;clear hc
   refine aL (aR (aA rfl rfl (aQ (XF.thenN (bJ (XF.thenR (XF.res (cJ results6 rfl) ?_)))))))
   exact ⟨dR (by rw [if_pos (by omega)]),hS.below⟩
  ·have hc8:=of_decide_eq_false hc;clear hc
   refine bG (XF.thenN (aL (aR (aG rfl rfl (aA rfl rfl (aQ (XF.thenN (bJ (XF.res (cJ results6 rfl) ?_)))))))))
   exact ⟨dR (by rw [if_neg (by omega)]),hS.below⟩
 ·have hg5:=of_decide_eq_false hc;clear hc
  refine aF (d:=5) rfl rfl rfl rfl (aF (d:=5) rfl rfl rfl rfl (bV rfl rfl rfl (aQ (XF.thenN (vA rfl (bG (XF.thenN (aL (aR (aG rfl rfl (aA rfl rfl (aQ (XF.thenN (bJ (XF.res (cJ results6 rfl) ?_)))))))))))))))
  exact ⟨dR (by rw [if_neg (by omega)]),hS.below⟩
theorem M6 (p q:Int) (wa va:Option Addr) (wl wc vl vc:Nat) (ws vs:List Int) (w:World) (hrw:Row w wa ws) (hwl:ws.length=wl) (hrv:Row w va vs) (hvl:vs.length=vl) (hm:wl≤9223372036854775807) :
  Calls prog 35 #[.agg #[.int .i64 p,.slice wa wl wc],.agg #[.int .i64 q,.slice va vl vc]] w (fun e w'=>e = .returned (.bool (decide ((p,ws)=(q,vs))))∧Below w.heap.size w w'):=by
 refine cH (args:=[.agg #[.int .i64 p,.slice wa wl wc],.agg #[.int .i64 q,.slice va vl vc]]) func35 rfl ntmps35 rfl ?_
 have hS:=St.start w
 refine aL (aR (bK (cs:=[_,_]) hS rfl rfl rfl fun B1 W1 hS=>bK (cs:=[_,_]) hS rfl rfl rfl fun B2 W2 hS=>aA rfl rfl (aQ (XF.thenN (aL (aL (aR (aP (o':=0) iM rfl rfl rfl (aT isAgg3 rfl (aK (hS.at_ 1 rfl) rfl) rfl (aP (o':=0) iM rfl rfl rfl (aT isAgg3 rfl (aK (hS.at_ 0 rfl) rfl) rfl (dA rfl rfl rfl (aG rfl rfl (bS (d:=11) rfl (fun hc=>?_) (fun hc=>?_)))))))))))))))
 ·have hg11:=of_decide_eq_true hc;clear hc
  refine aF (d:=11) rfl rfl rfl rfl (aF (d:=11) rfl rfl rfl rfl (aF (d:=11) rfl rfl rfl rfl (aF (d:=11) rfl rfl rfl rfl (aF (d:=11) rfl rfl rfl rfl (aF (d:=11) rfl rfl rfl rfl (aF (d:=11) rfl rfl rfl rfl (bC rfl rfl rfl (aQ (XF.thenN (dJ rfl (aL (aR (aA rfl rfl (aQ (XF.thenN (bJ (XF.thenR (XF.res (cJ results35 rfl) ?_))))))))))))))))))
  exact ⟨bY (by rw [decide_eq_false (fun h=>by injection h with h1 h2;exact absurd h1 (by simpa using hg11))]),hS.below⟩
 ·have hg11:=of_decide_eq_false hc;clear hc
  refine aC (d:=11) rfl rfl (aP (o':=1) dZ rfl rfl rfl (aC (d:=11) rfl rfl (aT isAgg29 rfl (aK (hS.at_ 1 rfl) rfl) rfl (aC (d:=11) rfl rfl (bX underlying29 rfl rfl (aC (d:=11) rfl rfl (aP (o':=1) dZ rfl rfl rfl (aC (d:=11) rfl rfl (aT isAgg29 rfl (aK (hS.at_ 0 rfl) rfl) rfl (aC (d:=11) rfl rfl (bX underlying29 rfl rfl (aC (d:=11) rfl rfl (dA rfl rfl rfl (bV rfl rfl rfl (aQ (XF.thenN (aZ rfl (fun hc=>?_) (fun hc=>?_))))))))))))))))))
  ·have hc19:=of_decide_eq_true hc;clear hc
   refine aL (aR (aA rfl rfl (aQ (XF.thenN (bJ (XF.thenR (XF.res (cJ results35 rfl) ?_)))))))
   exact ⟨bY (by rw [decide_eq_false (fun h=>by injection h with h1 h2;rw [h2] at hwl;exact absurd (hwl.symm.trans hvl) (by omega))]),hS.below⟩
  ·have hc19:=of_decide_eq_false hc;clear hc
   have hpq:p=q:=by simpa using hg11
   have hll:wl=vl:=by omega
   refine bG (XF.thenN (aL (aL (aR (aA rfl rfl (aQ (XF.thenN (bM (dK (fun m l W=>∃ i:Nat,i≤wl∧m=wl - i∧l=[(2,.pointer (some ⟨B1,0,none⟩)),(3,.pointer (some ⟨B2,0,none⟩)),(5,.int .i64 (i:Int))]∧ws.take i=vs.take i∧St w [(B2,[.int .i64 q,.slice va vl vc],36),(B1,[.int .i64 p,.slice wa wl wc],36)] [] [] W) (wl - 0) ([(2,_),(3,_),(5,_)]) ⟨rfl,rfl,rfl,trivial⟩ (⟨0,Nat.zero_le _,rfl,rfl,rfl,hS.clear⟩) ?_)))))))))
   clear hS
   rintro m l W ⟨i,hi,rfl,rfl,htk,hS⟩
   refine aL (aL (aR (aG rfl rfl (aP (o':=1) dZ rfl rfl rfl (aT isAgg29 rfl (aK (hS.at_ 1 rfl) rfl) rfl (bX underlying29 rfl rfl (cN rfl rfl rfl (aQ (XF.thenN (aZ rfl (fun hc=>?_) (fun hc=>?_)))))))))))
   ·have hc24:=of_decide_eq_true hc;clear hc
    have hk:i < wl:=by omega
    obtain ⟨b1,o1,y,rfl,hy,hyc⟩:=hrw.at1 (show i < ws.length by omega)
    obtain ⟨b2,o2,z,rfl,hz,hzc⟩:=hrv.at1 (show i < vs.length by omega)
    have k1:=hS.old hyc
    have k2:=hS.old hzc
    refine bG (XF.thenN (aL (bM (aL (iE (m:=11) cE hS (by kernel_rfl) (by kernel_rfl) rfl (cC 1 rfl 2 rfl rfl (fun w hw=>aW (o':=1) dZ rfl rfl) rfl (aX 2 rfl 27 0 rfl rfl rfl (fun w hw=>bA isAgg29 rfl ((aN hw 0).cell (Nat.zero_le _) (aK (hS.at_ 1 rfl) rfl))) rfl (cC 3 rfl 5 rfl rfl (fun w hw=>bE rfl) rfl (aM 4 rfl (isV _) (aJ _) (rgV (li:=[(28,_),(29,_)]) rfl (aU rfl) ⟨aO 1 (aB rfl rfl rfl),aO 2 (aB rfl rfl rfl),trivial⟩ (fun w hw=>bB  underlying29 sizeOf3 rfl rfl rfl (by omega) rfl) (aH rfl)) (aX 5 rfl 30 3 rfl rfl rfl (fun w hw=>bA isAgg3 rfl ((aN hw 0).cell (Nat.zero_le _) (k1))) rfl (cC 6 rfl 3 rfl rfl (fun w hw=>aW (o':=1) dZ rfl rfl) rfl (aX 7 rfl 32 5 rfl rfl rfl (fun w hw=>bA isAgg29 rfl ((aN hw 0).cell (Nat.zero_le _) (aK (hS.at_ 0 rfl) rfl))) rfl (cC 8 rfl 5 rfl rfl (fun w hw=>bE rfl) rfl (aM 9 rfl (isV _) (aJ _) (rgV (li:=[(33,_),(34,_)]) rfl (aU rfl) ⟨aO 6 (aB rfl rfl rfl),aO 7 (aB rfl rfl rfl),trivial⟩ (fun w hw=>bB  underlying29 sizeOf3 rfl rfl rfl (by omega) rfl) (aH rfl)) (aX 10 rfl 35 8 rfl rfl rfl (fun w hw=>bA isAgg3 rfl ((aN hw 0).cell (Nat.zero_le _) (k2))) rfl (aM 11 rfl (isV _) (aJ _) (rgV (li:=[(31,_),(36,_)]) rfl (aU rfl) ⟨aO 4 (aB rfl rfl rfl),aO 9 (aB rfl rfl rfl),trivial⟩ (fun w hw=>rL rfl rfl) (aH rfl)) (dC ?_)))))))))))))))))
    intro W3 hbR hS'
    clear hS;have hS:=hS';clear hS'
    refine aI (aI (aI (aI (aI (aI (aI (aI (aI (aI (aI (cL (XF.thenN (aZ rfl (fun hc=>?_) (fun hc=>?_))))))))))))))
    ·have hc37:=hc;clear hc
     refine aL (aR (aA rfl rfl (aQ (XF.thenN (bJ (XF.blkR (XF.thenR (XF.thenR (XF.blkR (XF.thenR (XF.res (cJ results35 rfl) ?_)))))))))))
     exact ⟨bY (by rw [decide_eq_false (fun h=>by injection h with h1 h2;rw [h2,hz] at hy;injection hy with hy;exact absurd hy.symm (by simpa using hc37))]),hS.below⟩
    ·have hc37:=hc;clear hc
     have hyz:y=z:=by simpa using hc37
     refine bG (XF.blkN (XF.thenN (aR (aG rfl rfl (cR rfl rfl (IntWalk.i64_in _ (by omega)) rfl (aA rfl rfl (aQ ?_)))))))
     exact XF.round (wl - (i+1)) [(2,_),(3,_),(5,_)] (by omega) ⟨rfl,rfl,rfl,trivial⟩ ⟨i+1,by omega,rfl,rfl,by rw [List.take_add_one,List.take_add_one,htk,hy,hz,hyz],hS.clear⟩
   ·have hc24:=of_decide_eq_false hc;clear hc
    refine dE (XF.thenX (XF.thenX (XF.blkX (XF.thenN (aL (aR (aA rfl rfl (aQ (XF.thenN (bJ (XF.res (cJ results35 rfl) ?_)))))))))))
    rw [List.take_of_length_le (by omega),List.take_of_length_le (by omega)] at htk
    exact ⟨bY (by rw [hpq,htk,decide_eq_true rfl]),hS.below⟩
end Go.Proofs.YtofaiolkihcfmaaGreatDoor
