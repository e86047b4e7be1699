import Derived.Laws.BytesArg
import Derived.Maps.OwnSet
import Derived.Deep.AppendSrc
import Derived.Test.YtmgnkpibpjgncaaGreatDoorMeE
set_option maxRecDepth 100000
set_option maxHeartbeats 4000000
set_option linter.unusedVariables false
set_option linter.unusedVariables false
set_option linter.unusedSimpArgs false
set_option linter.unusedSectionVars false
set_option linter.unnecessarySimpa false
namespace Go.Proofs.YtmgnkpibpjgncaaGreatDoor
open Go.Proofs.Tryz
open Go Go.RowKit
section
variable {P:Program} {n:Nat} {Q:Exit→Act→World→Prop} {l:Fr} {w0 W:World} {O:Own} {G:cU} {K:List (Nat×World)}
abbrev Mks:=List (Nat×Own)
abbrev Ie (s:Mks):Own:=s.flatMap (·.2)
def MkI (mk:List Nat) (vals:Nat→Value) (Pm:Nat→Value→Own→Prop) (s:Mks) (i:Nat) (v:Value) (w:World):Prop :=
 (i∉mk→v=vals i)∧(i∈mk→∃ ON,(i,ON)∈s∧Pm i v ON)
def MkV (mk:List Nat) (s:Mks) (L:Array Bool):Prop:=(∀ i∈mk,L.getD i false=true↔∃ ON,(i,ON)∈s)∧(∀ q∈s,q.1∈mk)∧s.Pairwise (fun p q=>p.1≠q.1)
theorem regMk {id k:Nat} {ops:Array Oper} {mk:List Nat} {vals:Nat→Value} {Pm:Nat→Value→Own→Prop} (Gp:Mks→World→Prop) (hm:P.follows .mixedOrders=true) (hS:Gp [] W.drew) (hk:k < ops.size) (hl:wQ ops k=true) (ht:dO ops n=true)
  (hpure:∀ i,i < k→i∉mk→∀ (s:Mks) (a0 a:Act) (w:World),Has n l a0→(∀ t,freeT ops t=true→a.eval (.tmp t)=a0.tmps.getD t undef)→Gp s w→(∀ j d,aY ops i j d=true→MkI mk vals Pm s j (a.eval (.tmp d)) w)→∃ o,ops[i]?=some o∧o.guard=none∧(execOp a.eval o).run P w = .ok (.value (vals i)) w)
  (hmake:∀ i,i∈mk→∀ (s:Mks) (a0 a:Act) (w:World),Has n l a0→(∀ t,freeT ops t=true→a.eval (.tmp t)=a0.tmps.getD t undef)→Gp s w→(∀ ON,(i,ON)∉s)→(∀ j d,aY ops i j d=true→MkI mk vals Pm s j (a.eval (.tmp d)) w)→wpOp P ops Q i (fun a' w'=>∃ v ON,a'=a.put ((ops[i]?).bind (·.dst)) v∧Pm i v ON∧Gp ((i,ON)::s) w') a w)
  (hmk:∀ i∈mk,i < k)
  (h:∀ (s:Mks) (a:Act) (w:World),Gp s w→a.tmps.size=n→a.defers=[]→(∀ t v,freeT ops t=true→look l t=some v→a.tmps.getD t undef=v)→(∀ i d,i < k→i∉mk→(ops[i]?).bind (·.dst)=some d→a.tmps.getD d undef=vals i)→(∀ i∈mk,∃ ON,(i,ON)∈s)→(∀ i d,i∈mk→(ops[i]?).bind (·.dst)=some d→∃ ON,(i,ON)∈s∧Pm i (a.tmps.getD d undef) ON)→(∀ q∈s,q.1∈mk)→s.Pairwise (fun p q=>p.1≠q.1)→wpList P ops Q (ops.toList.drop k) a w):eR P n (.region id ops true) Q l W:=fun a0 ha0=>by
 refine wp_region_any hm (uH (G:=fun s w=>Gp s w) (I:=MkI mk vals Pm) (V:=MkV mk) (t0:=a0.tmps) (d0:=a0.defers) hk hl (by rw [ha0.size];exact ht) (fun i hi=>?_) (fun s L a w hR hall hnot=>?_) _ [] _ _ _ (by simp) (iK _) ?_ ?_ ⟨rfl,rfl,fun _ _=>rfl,?_,?_,?_⟩)
 ·intro s L a w hF hG hV hs hcl hr hD
  by_cases him:i∈mk
  ·have hnew:∀ ON',(i,ON')∉s:=fun ON' h9=>by
    have:=(hV.1 i him).2 ⟨ON',h9⟩
    rw [hr.1] at this;cases this
   refine wpOp_mono ?_ (hmake i him s a0 a w ha0 hF hG hnew hD)
   rintro a' w' ⟨v,ON,rfl,hP,hS'⟩
   have hsz:i < ops.size:=Nat.lt_trans (hmk i him) hk
   refine ⟨(i,ON)::s,v,rfl,⟨fun j hj=>?_,fun q hq=>?_,List.Pairwise.cons (fun q hq e=>hnew q.2 (by rw [show i=q.1 from e];exact hq)) hV.2.2⟩,hS',fun d hd=>⟨fun h9=>absurd him h9,fun _=>⟨ON,List.mem_cons_self,hP⟩⟩,fun j d hd hj=>⟨hj.1,fun hjm=>?_⟩⟩
   ·by_cases hji:j=i
    ·subst hji
     rw [oK (by rw [hs];exact hsz)]
     exact ⟨fun _=>⟨ON,List.mem_cons_self⟩,fun _=>rfl⟩
    ·rw [cX (Ne.symm hji),hV.1 j hj]
     exact ⟨fun ⟨N',h9⟩=>⟨N',List.mem_cons_of_mem _ h9⟩,fun ⟨N',h9⟩=>by
      rcases List.mem_cons.1 h9 with h9 | h9
      ·exact absurd (congrArg Prod.fst h9) hji
      ·exact ⟨N',h9⟩⟩
   ·rcases List.mem_cons.1 hq with rfl | hq
    ·exact him
    ·exact hV.2.1 q hq
   ·obtain ⟨N',h1,h2⟩:=hj.2 hjm
    exact ⟨N',List.mem_cons_of_mem _ h1,h2⟩
  ·obtain ⟨o,ho,hgd,hrun⟩:=hpure i hi him s a0 a w ha0 hF hG hD
   unfold wpOp
   simp only [ho,fC hgd,if_true]
   refine .inl ?_
   unfold Oper.wp
   rw [hrun]
   refine ⟨s,_,rfl,⟨fun j hj=>?_,hV.2⟩,hG,fun d hd=>⟨fun _=>rfl,fun h9=>absurd h9 him⟩,fun j d hd hj=>hj⟩
   rw [cX (fun e=>him (by rw [e];exact hj))]
   exact hV.1 j hj
 ·have hd:∀ i d,i < k→(ops[i]?).bind (·.dst)=some d→MkI mk vals Pm s i (a.tmps.getD d undef) w:=fun i d hi hd=>hR.done i d hd (hall i hi)
  exact h s a w hR.glob (by rw [hR.size,ha0.size]) (by rw [hR.defers,ha0.defers]) (fun t v ht' hv=>by rw [hR.frame t ht'];exact ha0.at_ t v hv) (fun i d hi him hd'=>(hd i d hi hd').1 him) (fun i him=>(hR.cons.1 i him).1 (hall i (hmk i him))) (fun i d him hd'=>(hd i d (hmk i him) hd').2 him) hR.cons.2.1 hR.cons.2.2
 ·intro j hj
  rw [Array.getD_eq_getD_getElem?,Array.getElem?_replicate] at hj
  split at hj<;>simp at hj
 ·intro i _
  rw [Array.getD_eq_getD_getElem?,Array.getElem?_replicate]
  split<;>rfl
 ·exact hS
 ·refine ⟨fun i _=>?_,fun q hq=>(by cases hq),List.Pairwise.nil⟩
  rw [Array.getD_eq_getD_getElem?,Array.getElem?_replicate]
  constructor
  ·intro h9;split at h9<;>simp at h9
  ·rintro ⟨_,h9⟩;cases h9
 ·intro i d hd h9
  rw [Array.getD_eq_getD_getElem?,Array.getElem?_replicate] at h9
  split at h9<;>simp at h9
theorem Nb {ops:Array Oper} {i d:Nat} {f:FuncId} {xs:List Operand} {ts:Array TypeId} {ty:TypeId} {pos:String} {aft:Array Edge} {a:Act} {w:World} {vs:List Value} {R:Value→Own→World→Prop} (hi:ops[i]?=some ⟨some d,.call { callee:=.value (.func f),args:=xs.toArray,argTypes:=ts },ty,pos,aft,none⟩) (hgo:bP P f=true) (hx:xs.map a.eval=vs)
  (hc:Calls P f vs.toArray w fun e w'=>∃ v ON,e = .returned v∧R v ON w'):wpOp P ops Q i (fun a' w'=>∃ v ON,a'=a.put ((ops[i]?).bind (·.dst)) v∧R v ON w') a w:=by
 unfold wpOp
 simp only [hi,fC (show (⟨some d,.call { callee:=.value (.func f),args:=xs.toArray,argTypes:=ts },ty,pos,aft,none⟩:Oper).guard=none from rfl),if_true]
 refine .inl ?_
 unfold Oper.wp
 rw [nT P a.eval w f xs.toArray ts _ rfl rfl hgo,Oper.upon_enter]
 rw [show xs.toArray.map a.eval=vs.toArray by rw [← hx];simp]
 refine hc.mono ?_
 rintro e w' ⟨v,ON,rfl,h9⟩
 exact ⟨v,ON,by simp,h9⟩
theorem If {ops:Array Oper} {i B j:Nat} {T U:TypeId} {x y:Operand} {ty:TypeId} {pos:String} {aft:Array Edge} {a:Act} {w:World} {cs:List Value} {v:Value} {R:Act→World→Prop} (hi:ops[i]?=some ⟨none,.store T x y,ty,pos,aft,none⟩) (hsz:∀ w,(sizeOf T).run P w = .ok 1 w) (hx:a.eval x = .pointer (some ⟨B,j,none⟩)) (hy:a.eval y=v) (hv:v.oneCell'=true) (hB:w.heap[B]?=some (.cells cs.toArray U (0,0))) (hj:j < cs.length)
  (h:R (a.put none undef) (w.setCell ⟨B,j,none⟩ v)):wpOp P ops Q i R a w:=by
 unfold wpOp
 simp only [hi,fC (show (⟨none,.store T x y,ty,pos,aft,none⟩:Oper).guard=none from rfl),if_true]
 refine .inl ?_
 unfold Oper.wp execOp
 simp only []
 rw [hx,hy]
 have hcells:v.cells=#[v]:=by cases v<;>first | rfl | cases hv
 have hst:=iV (P:=P) [v] 0 j w cs hB (by simp;omega) (fun u hu=>by simp at hu;subst hu;exact hv)
 simp only [Nat.add_zero,setMany] at hst
 have:(Instr.storeAt T (.pointer (some ⟨B,j,none⟩)) v).run P w = .ok () (w.setCell ⟨B,j,none⟩ v):=by
  simp [Instr.storeAt,Instr.sureAddr,storeVar,hsz,hcells,hst]
 simp only [Sem.run_bind,this,Result.andThen_ok,Sem.run_pure,Oper.upon_skip]
 exact h
theorem St.drop8 {x1 x2 x3 x4 x5 x6 x7 y:Nat×List Value×TypeId} (h:St w0 (x1::x2::x3::x4::x5::x6::x7::y::O) G K W):St w0 (x1::x2::x3::x4::x5::x6::x7::O) G K W:=(h.perm (List.perm_middle (l₁:=[x1,x2,x3,x4,x5,x6,x7]))).tail
def Tw (a:Act):Fr→Prop
 | []=>True
 | p::r=>a.tmps.getD p.1 undef=p.2∧Tw a r
theorem Tw.has {a:Act} (hs:a.tmps.size=n) (hd:a.defers=[]):∀ {l:Fr},Tw a l→Has n l a
 | l,h=>⟨hs,hd,by
  induction l with
  | nil=>intro t v hv;cases hv
  | cons p r ih =>
   intro t v hv
   unfold look at hv
   cases hb:Nat.beq p.1 t with
   | true =>
    simp only [hb,cond_true,Option.some.injEq] at hv
    rw [← Nat.eq_of_beq_eq_true hb,← hv];exact h.1
   | false =>
    simp only [hb,cond_false] at hv
    exact ih h.2 t v hv⟩
end
theorem xA (v00:Value) (v01:Value) (v02:Value) (v03:Value) (v04:Value) (v05:Value) (v06:Value) (v07:Value) (v08:Value) (v10:Value) (v11:Value) (v12:Value) (v13:Value) (v14:Value) (v15:Value) (v16:Value) (v2:Bool) (v3:Option Nat):prog.built 109 [(0,.agg #[v00,v01,v02,v03,v04,v05,v06,v07,v08]),(1,.agg #[v10,v11,v12,v13,v14,v15,v16]),(2,.bool v2),(3,.map v3)]=some #[v00,v01,v02,v03,v04,v05,v06,v07,v08,v10,v11,v12,v13,v14,v15,v16,.bool v2,.map v3,.pointer none,.pointer none]:=by kernel_rfl
theorem kH (w:World) (b o:Nat):(Instr.fieldAt 109 (.pointer (some ⟨b,o,none⟩)) 4).run prog w = .ok (.pointer (some ⟨b,o+18,none⟩)) w:=by
 simp [Instr.fieldAt,run_underlying underlying109,Instr.sureAddr,go_sem,Addr.add_lit]
theorem rE (w:World) (b o:Nat):(Instr.fieldAt 109 (.pointer (some ⟨b,o,none⟩)) 5).run prog w = .ok (.pointer (some ⟨b,o+19,none⟩)) w:=by
 simp [Instr.fieldAt,run_underlying underlying109,Instr.sureAddr,go_sem,Addr.add_lit]
theorem Nc:bP prog 93=true:=by kernel_rfl
theorem gA.skip {n:Nat} {w w':World} {S:PS} {f:WF} {x:PX} (h:gA n w S f x) (hc:∀ (a:Addr) v,n≤a.block→w.cell? a=some v→w'.cell? a=some v):gA n w' S f x:=by
 have hW:∀ {b o:Nat} {g:WF},n≤b→W6 w b o g→W6 w' b o g:=fun hb h=>⟨hc _ _ hb h.1,hc _ _ hb h.2.1,hc _ _ hb h.2.2.1,hc _ _ hb h.2.2.2.1,hc _ _ hb h.2.2.2.2.1,hc _ _ hb h.2.2.2.2.2⟩
 have hP:∀ {t d:Int} {g:WF} {a:PF},PNew n w t d g a→PNew n w' t d g a:=fun {t d g a} h=>by
  refine ⟨⟨⟨?_,h.is.at_.rl,h.is.at_.g64,h.is.at_.r64,?_,h.is.at_.cl,h.is.at_.bits,h.is.at_.cmax⟩,h.is.pf,h.is.ok,h.is.pl⟩,h.ra,h.ca⟩
  ·rcases h.is.at_.rows with h1 | ⟨b,off,e,h1⟩
   ·exact .inl h1
   ·exact .inr ⟨b,off,e,fun i v hv=>hc _ _ (show n≤b from h.ra _ e) (h1 i v hv)⟩
  ·rcases h.is.at_.cells with h1 | ⟨b,off,e,h1⟩
   ·exact .inl h1
   ·exact .inr ⟨b,off,e,fun i v hv=>⟨hc _ _ (show n≤b from h.ca _ e) (h1 i v hv).1,hc _ _ (show n≤b from h.ca _ e) (h1 i v hv).2.1,hc _ _ (show n≤b from h.ca _ e) (h1 i v hv).2.2⟩⟩
 cases S<;>cases x<;>first | exact h.elim | exact hP h | skip
 obtain ⟨h1,h2,h3,h4,blk,g,k,h5,h0,h6,h7,h8,h9⟩:=h
 exact ⟨h1,h2,h3,h4,blk,g,k,h5,h0,hW h0 h6,hW h0 h7,hP h8,hP h9⟩
def oL (W:World) (n:Nat):World:={ W with heap:=W.heap.extract 0 n }
theorem iJ {W:World} {n:Nat} (h:n≤W.heap.size):(oL W n).heap.size=n:=by simp [oL];omega
theorem uV {W:World} {n k:Nat} (h:n≤W.heap.size) (hk:k < n):(oL W n).heap[k]?=W.heap[k]?:=by
 rw [Array.getElem?_eq_getElem (by rw [iJ h];exact hk),Array.getElem?_eq_getElem (by omega)]
 simp [oL]
theorem St.markCut {w0 W:World} {O:Own} {K:List (Nat×World)} {n1 n2:Nat} (h:St w0 O [] K W) (hn:n2≤W.heap.size) (hO:∀ p∈O,p.1 < n1∨n2≤p.1):St w0 O [] ((n1,oL W n2)::K) W where
 below:=h.below
 own:=h.own
 dist:=h.dist
 kept:=fun q hq=>by
  rcases List.mem_cons.1 hq with rfl | hq
  ·refine ⟨⟨by rw [iJ hn];exact hn,fun k _ hk=>?_⟩,fun p hp=>by rw [iJ hn];exact hO p hp⟩
   rw [iJ hn] at hk
   exact (uV hn hk).symm
  ·exact h.kept q hq
 rows:=fun g hg=>by cases hg
 gdist:=List.Pairwise.nil
abbrev uW (f0:WF) (a:AV) (bk:Bool) (bm:Nat):List Value:=[.int .i64 a.s.f.tag,.int .i64 a.s.f.dim,.slice a.s.f.a a.s.f.len a.s.f.cap,.bool f0.z,.int .i64 f0.c,.int .u64 (f0.g:Int),.slice f0.ra f0.rl f0.rc,.slice f0.ca f0.cl f0.cc,.slice f0.pa f0.pl f0.pc,.int .i64 a.s.f.tag,.int .i64 a.s.f.dim,.slice a.s.f.a a.s.f.len a.s.f.cap,.int .i64 a.st,.int .i64 a.sy,.slice a.fa a.fl a.fc,.slice a.ta a.tl a.tc,.bool bk,.map (some bm),.pointer none,.pointer none]
def K5 (S:PS) (a:AV) (lo:Nat):Asr:=fun v w=>∃ f0,v=iA a.s.f f0∧gA lo w S f0 (bW S)
theorem Ig {S:PS} {a:AV} {lo:Nat}:iD (K5 S a lo):=fun v w w' ⟨f0,h1,h2⟩ hb=>⟨f0,h1,h2.below hb⟩
def K6 (lo:Nat):Asr:=fun v w=>∃ bm,v = .map (some bm)∧lo≤bm∧w.heap[bm]?=some (.map #[] 0)
theorem Ih {lo:Nat}:iD (K6 lo):=fun v w w' ⟨bm,h1,h2,h3⟩ hb=>⟨bm,h1,h2,(hb.block _ (bV h3)).trans h3⟩
def Tx (S:PS) (a:AV) (bk:Bool) (lo:Nat):Asr:=fun v w=>∃ f0 bm,v = .agg (uW f0 a bk bm).toArray∧lo≤bm∧w.heap[bm]?=some (.map #[] 0)∧gA lo w S f0 (bW S)
theorem K7 {S:PS} {a:AV} {bk:Bool} {lo:Nat}:iD (Tx S a bk lo):=fun v w w' ⟨f0,bm,h1,h2,h3,h4⟩ hb=>⟨f0,bm,h1,h2,(hb.block _ (bV h3)).trans h3,h4.below hb⟩
def Nd (S:PS) (a:AV) (bk:Bool) (lo:Nat):Asr:=fun v w=>∃ (RB:Nat) (f0:WF) (bm:Nat) (w9:World),v = .pointer (some ⟨RB,0,none⟩)∧lo≤bm∧bm < RB∧RB=w9.heap.size∧w9.heap[bm]?=some (.map #[] 0)∧gA lo w9 S f0 (bW S)∧(∀ p,p < RB→w.heap[p]?=w9.heap[p]?)∧w.heap[RB]?=some (.cells (uW f0 a bk bm).toArray 109 (0,0))
theorem Ag {S:PS} {a:AV} {bk:Bool} {lo:Nat}:iD (Nd S a bk lo):=fun v w w' ⟨RB,f0,bm,w9,h1,h2,h3,h4,h5,h6,h7,h8⟩ hb=>⟨RB,f0,bm,w9,h1,h2,h3,h4,h5,h6,fun p hp=>(hb.block p (Nat.lt_trans hp (bV h8))).trans (h7 p hp),(hb.block _ (bV h8)).trans h8⟩
theorem rd_zero {w0 W w9:World} {S:PS} {f0:WF} {K:List (Nat×World)} {lo bm RB:Nat} (hX:gA lo w9 S f0 (bW S)) (h9:RB=w9.heap.size) (hm:w9.heap[bm]?=some (.map #[] 0)) (hbm:bm < RB) (hp:∀ p,p < RB→W.heap[p]?=w9.heap[p]?) (hRB:RB < W.heap.size):jF w0 ((lo,oL W bm)::(bm+1,oL W RB)::K) (fun W2=>XIs W2 S f0 (bW S)):=fun {O2 G2 K2 W2} h2 hk=>by
 refine (hX.skip (w':=W2) fun a v hb hv=>?_).is
 have hlt:a.block < RB:=by rw [h9];exact kW hv
 have hne:a.block≠bm:=fun e=>by
  unfold World.cell? at hv
  rw [e,hm] at hv
  cases hv
 have key:W2.heap[a.block]?=w9.heap[a.block]?:=by
  rcases Nat.lt_or_ge a.block bm with h3 | h3
  ·have h4:=(h2.kept _ (hk _ List.mem_cons_self)).1.2 a.block hb (by dsimp only;rw [iJ (by omega)];exact h3)
   rw [h4]
   exact (uV (by omega) h3).trans (hp _ hlt)
  ·have h4:=(h2.kept _ (hk _ (List.mem_cons_of_mem _ List.mem_cons_self))).1.2 a.block (by dsimp only;omega) (by dsimp only;rw [iJ (by omega)];exact hlt)
   rw [h4]
   exact (uV (by omega) hlt).trans (hp _ hlt)
 exact (World.cell?_of_block key).trans hv
abbrev VecP (n:Nat) (v:Value) (ON:Own):Prop:=∃ VB IB WB,v = .pointer (some ⟨VB,0,none⟩)∧ON=[(VB,gT (.slice none 0 0) n IB WB,139),(IB,List.replicate n (Value.bool false),4),(WB,wC (List.replicate n (⟨false,0,0,none,0,0,[],none,0,0,[],none,0,0⟩:WF)),44)]
abbrev vecO (n VB IB WB:Nat):Own:=[(VB,gT (.slice none 0 0) n IB WB,139),(IB,List.replicate n (Value.bool false),4),(WB,wC (List.replicate n (⟨false,0,0,none,0,0,[],none,0,0,[],none,0,0⟩:WF)),44)]
theorem Ah {w0 W:World} {O:Own} {G:cU} {K:List (Nat×World)} {n i:Nat} (hS:St w0 O G K W) (hn:n≤4096) {R:Nat→Value→Own→Prop} (hR:∀ v ON,VecP n v ON→R i v ON):Calls prog 93 #[.int .i64 (n:Int)] W fun e w'=>∃ v ON,e = .returned v∧R i v ON∧St w0 (ON++O) G K w':=by
 refine (P5 n W hn).mono ?_
 rintro e w' ⟨VB,IB,WB,rfl,l1,l2,l3,h1,h2,h3,hb⟩
 exact ⟨_,_,rfl,hR _ _ ⟨VB,IB,WB,rfl,rfl⟩,vec_own hS (hS.grow hb) l1 l2 l3 h1 h2 h3⟩
theorem Ty {s:Mks} {A X R:Own} (hm:∀ q∈s,q.1∈[4,7,10]) (hd:s.Pairwise (fun p q=>p.1≠q.1)) (h4:(4,A)∈s) (h7:(7,X)∈s) (h10:(10,R)∈s):(Ie s).Perm (A++(X++R)):=by
 have huniq:∀ p∈s,∀ q∈s,p.1=q.1→p=q:=by
  clear hm h4 h7 h10
  induction hd with
  | nil=>intro p hp;cases hp
  | cons h1 _ ih =>
   intro p hp q hq e
   rcases List.mem_cons.1 hp with h5 | h5<;>rcases List.mem_cons.1 hq with h6 | h6
   ·rw [h5,h6]
   ·rw [h5] at e;exact absurd e (h1 _ h6)
   ·rw [h6] at e;exact absurd e.symm (h1 _ h5)
   ·exact ih p h5 q h6 e
 have hnd:s.Nodup:=hd.imp (fun h e=>h (by rw [e]))
 have hp:s.Perm [(4,A),(7,X),(10,R)]:=(List.perm_ext_iff_of_nodup hnd (by simp)).2 fun q=>by
  constructor
  ·intro hq
   have h9:=hm q hq
   simp only [List.mem_cons,List.not_mem_nil,or_false] at h9 ⊢
   rcases h9 with h9 | h9 | h9
   ·exact .inl (huniq q hq _ h4 h9)
   ·exact .inr (.inl (huniq q hq _ h7 h9))
   ·exact .inr (.inr (huniq q hq _ h10 h9))
  ·intro hq
   simp only [List.mem_cons,List.not_mem_nil,or_false] at hq
   rcases hq with rfl | rfl | rfl<;>assumption
 have h9:=hp.flatMap_right (f:=fun q=>q.2)
 simpa [Ie] using h9
theorem Fa (S:PS) (a:AV) (bk:Bool) (n:Nat) (Ot:Own) (K:List (Nat×World)) (w0:World) (w:World) (hS0:St w0 Ot [] K w) (hsi:SIs w0 S a.s.f) (hok:S.ok) (hst:a.st=(n:Int)) (hn:n≤4096) :
  Calls prog 53 #[a.val,.bool bk] w (fun e w'=>∃ (RB VA IA WA VX IX WX bm:Nat) (f0:WF) (Kr:List (Nat×World)),e = .returned (.pointer (some ⟨RB,0,none⟩))∧(∀ q∈K,q∈Kr)∧jF w0 Kr (fun W2=>XIs W2 S f0 (bW S))∧w0.heap.size≤bm∧w'.heap[bm]?=some (.map #[] 0)∧(∀ q∈Kr,bm < q.1∨q.2.heap.size≤bm)∧St w0 ((VA,gT (.slice none 0 0) n IA WA,139)::(IA,List.replicate n (Value.bool false),4)::(WA,wC (List.replicate n (⟨false,0,0,none,0,0,[],none,0,0,[],none,0,0⟩:WF)),44)::(VX,gT (.slice none 0 0) n IX WX,139)::(IX,List.replicate n (Value.bool false),4)::(WX,wC (List.replicate n (⟨false,0,0,none,0,0,[],none,0,0,[],none,0,0⟩:WF)),44)::(RB,rdC f0 a bk bm VA VX,109)::Ot) [] Kr w'):=by
 refine cD (args:=[a.val,.bool bk]) func53 rfl ntmps53 rfl ?_
 have hS:=hS0
 refine aM (aQ (bY (cs:=[_,_,_,_,_,_,_]) hS rfl rfl rfl fun B1 W1 hS=>aC rfl rfl (aN (XF.thenN (aM ?_)))))
 have hSb:=hS
 refine lQ (m:=9) cF hS (by kernel_rfl) (by kernel_rfl) rfl (cL 1 rfl 2 rfl rfl (fun w hw=>aV (o':=0) kF rfl rfl) rfl (bC 2 rfl 6 0 rfl rfl rfl (fun w hw=>bD (vs:=[_,_,_]) isAgg25 sizeOf25 rfl (aF.agree (aP hw 0) (Nat.zero_le _) (aF.own (j:=0) (m:=3) (hS.at_ 0 rfl) rfl))) rfl ?_))
 refine aL 3 rfl (K5 S a W1.heap.size) (Ig) (dB [isV _] rfl Lz (aS rfl) ⟨cH (aO 1 (aA rfl rfl rfl)),trivial⟩ (fun vs w' hb hh=>by have e:=cI (us:=[_]) hh;subst e;exact (C0 S a.s.f w' (hsi.below (hS.below.trans (hb.mono hS.below.size))) hok).mono fun e w2 ⟨f0,h1,h2,h3⟩=>⟨_,h1,⟨f0,rfl,h2.mono hb.size⟩,h3⟩) (aG rfl)) ?_
 refine cL 4 rfl 2 rfl rfl (fun w hw=>bD (vs:=[_,_,_,_,_,_,_]) isAgg29 sizeOf29 rfl (aF.agree (aP hw 0) (Nat.zero_le _) (aF.own (j:=0) (m:=7) (hS.at_ 0 rfl) rfl))) rfl (cL 5 rfl 1 rfl rfl (fun w hw=>bA rfl) rfl ?_)
 refine aL 6 rfl (K6 W1.heap.size) (Ih) (E5 [] rfl trivial (fun ev w9 hb9 hd9=>⟨.map (some w9.heap.size),w9.alloc (.map #[] 0),by unfold execOp;simp [Instr.makeMap,Result.andThen],⟨w9.heap.size,rfl,hb9.size,heap_alloc_new w9 _⟩,(Below.refl _ _).alloc (Nat.le_refl _) _⟩) (aG rfl)) ?_
 refine aL 7 rfl (Tx S a bk W1.heap.size) (K7) (E5 [(2,8,K5 S a W1.heap.size),(3,9,isV a.val),(4,10,isV (.bool bk)),(5,11,K6 W1.heap.size)] rfl ⟨⟨by kernel_rfl,aA rfl rfl rfl⟩,⟨by kernel_rfl,aA rfl rfl rfl⟩,⟨by kernel_rfl,aA rfl rfl rfl⟩,⟨by kernel_rfl,aA rfl rfl rfl⟩,trivial⟩ (fun ev w9 hb9 hd9=>by
  obtain ⟨⟨f0,e1,h1⟩,e2,e3,⟨bm,e4,h4,h5⟩,_⟩:=hd9
  have e2:ev (.tmp 9)=a.val:=e2
  have e3:ev (.tmp 10) = .bool bk:=e3
  have e1:ev (.tmp 8)=iA a.s.f f0:=e1
  have e4:ev (.tmp 11) = .map (some bm):=e4
  have hr9:=run_build w9 109 #[(0,iA a.s.f f0),(1,a.val),(2,.bool bk),(3,.map (some bm))] _ (P:=prog) (xA _ _ _ _ _ _ _ _ _ _ _ _ _ _ _ _  bk (some bm))
  exact ⟨_,w9,by unfold execOp;simp only [List.map_toArray,List.map_cons,List.map_nil,e1,e2,e3,e4];simp [hr9],⟨f0,bm,rfl,h4,h5,h1⟩,Below.refl _ _⟩) (aG rfl)) ?_
 refine aL 8 rfl (Nd S a bk W1.heap.size) (Ag) (E5 [(6,12,Tx S a bk W1.heap.size)] rfl ⟨⟨by kernel_rfl,aA rfl rfl rfl⟩,trivial⟩ (fun ev w9 hb9 hd9=>by
  obtain ⟨⟨f0,bm,e1,h1,h2,h3⟩,_⟩:=hd9
  have e1:ev (.tmp 12) = .agg (uW f0 a bk bm).toArray:=e1
  exact ⟨.pointer (some ⟨w9.heap.size,0,none⟩),w9.alloc (.cells (uW f0 a bk bm).toArray 109),by unfold execOp;simp only [];rw [e1];simp [Instr.box,newVar,newRow];rfl,⟨w9.heap.size,f0,bm,w9,rfl,h1,bV h2,rfl,h2,h3,fun p hp=>Below.heap_alloc w9 _ _ hp,heap_alloc_new w9 _⟩,(Below.refl _ _).alloc (Nat.le_refl _) _⟩) (aG rfl)) ?_
 refine aL 9 rfl (Nd S a bk W1.heap.size) (Ag) (E5 [(7,13,Nd S a bk W1.heap.size)] rfl ⟨⟨by kernel_rfl,aA rfl rfl rfl⟩,trivial⟩ (fun ev w9 hb9 hd9=>⟨ev (.tmp 13),w9,by unfold execOp;rfl,hd9.1,Below.refl _ _⟩) (aG rfl)) ?_
 refine dW ?_
 intro W2 hbR hS'
 clear hS;have hS:=hS';clear hS'
 refine aJ (aJ ?_)
 refine dH ?_;intro _ _
 refine aJ (aJ ?_)
 refine dH ?_;intro _ _
 refine dH ?_;intro _ _
 refine dH ?_;intro _ _
 refine dH ?_;rintro _ ⟨RB,f0,bm,w9,rfl,hm1,hm2,hm3,hm4,hX9,hp9,hR9⟩
 refine cQ (XF.thenN (aM ?_))
 have hlt9:=bV hR9
 have hRB0:W1.heap.size≤RB:=by omega
 have hltO:=hSb.own_lt
 have hS8:St w0 ((RB,uW f0 a bk bm,109)::(B1,a.seven,29)::Ot) [] K W2:=hSb.adoptL (N:=[(RB,uW f0 a bk bm,109)]) (hS.keep K (fun q hq=>by simp [hq])) (fun p hp=>by simp at hp;subst hp;exact ⟨hRB0,hR9⟩) (by simp)
 have hS7:=(hS8.markCut (n1:=bm+1) (n2:=RB) (Nat.le_of_lt hlt9) (fun p hp=>by
  rcases List.mem_cons.1 hp with rfl | hp
  ·exact .inr (Nat.le_refl _)
  ·have:=hltO p hp;exact .inl (by omega))).markCut (n1:=W1.heap.size) (n2:=bm) (by omega) (fun p hp=>by
  rcases List.mem_cons.1 hp with rfl | hp
  ·exact .inr (by dsimp only;omega)
  ·exact .inl (hltO p hp))
 clear hS;have hS:=hS7;clear hS7
 have H0:jF w0 ((W1.heap.size,oL W2 bm)::(bm+1,oL W2 RB)::K) (fun W2=>XIs W2 S f0 (bW S)):=rd_zero hX9 hm3 hm4 hm2 hp9 hlt9
 have hbm0:W2.heap[bm]?=some (.map #[] 0):=(hp9 bm hm2).trans hm4
 obtain ⟨Kr,hKr⟩:∃ k,k=(W1.heap.size,oL W2 bm)::(bm+1,oL W2 RB)::K:=⟨_,rfl⟩
 rw [← hKr] at hS H0
 have hS:=hS.markCut (n1:=bm) (n2:=bm+1) (by omega) (fun p hp=>by
  rcases List.mem_cons.1 hp with rfl | hp
  ·exact .inr hm2
  ·have:=hltO p hp;exact .inl (by omega))
 obtain ⟨Kq,hKq⟩:∃ k,k=(bm,oL W2 (bm+1))::Kr:=⟨_,rfl⟩
 rw [← hKq] at hS
 obtain ⟨W9,hW9⟩:∃ w,w=W2:=⟨_,rfl⟩
 rw [← hW9] at hKq hbm0 hlt9 hKr
 refine regMk (mk:=[4,7,10]) (k:=11) (vals:=fun i=>match i with | 0=>.pointer (some ⟨RB,0,none⟩) | 1=>.pointer (some ⟨RB,0,none⟩) | 2=>.pointer (some ⟨B1,0+3,none⟩) | 3=>.int .i64 (n:Int) | 5=>.pointer (some ⟨B1,0+3,none⟩) | 6=>.int .i64 (n:Int) | 8=>.pointer (some ⟨RB,0,none⟩) | _=>.pointer (some ⟨RB,0+18,none⟩)) (Pm:=fun i v ON=>i≠10→VecP n v ON) (fun s w=>St w0 (Ie s++((if s.any (fun q=>Nat.beq q.1 10) then [] else [(RB,uW f0 a bk bm,109)])++(B1,a.seven,29)::Ot)) [] Kq w∧∀ ON,(10,ON)∈s→∃ VA IA WA,(4,vecO n VA IA WA)∈s∧ON=[(RB,(uW f0 a bk bm).set 18 (.pointer (some ⟨VA,0,none⟩)),109)]) cF ⟨hS.grow (Below.refl _ _).drew,fun ON h=>by cases h⟩ (Nat.le_of_ble_eq_true (by kernel_rfl)) (by kernel_rfl) (by kernel_rfl) ?_ ?_ (by decide) ?_
 ·intro i hi hin s a0 c9 w ha0 hF9 hG hD
  have hfr:∀ t v,freeT _ t=true→look _ t=some v→c9.eval (.tmp t)=v:=fun t v h1 h2=>(hF9 t h1).trans (ha0.at_ t v h2)
  have hown:∃ N,St w0 (N++((B1,a.seven,29)::Ot)) [] Kq w:=⟨Ie s++(if s.any (fun q=>Nat.beq q.1 10) then [] else [(RB,uW f0 a bk bm,109)]),by rw [List.append_assoc];exact hG.1⟩
  obtain ⟨N9,hS9⟩:=hown
  have hB9:=hS9.own (B1,a.seven,29) (by simp)
  match i,hi,hin with
  | 0,_,_=>exact ⟨_,rfl,rfl,by
   exact bA (l:=[(5,.pointer (some ⟨RB,0,none⟩))]) rfl c9.eval (uU (hfr 5 _ (by kernel_rfl) rfl))⟩
  | 1,_,_=>exact ⟨_,rfl,rfl,by
   exact bA (l:=[(5,.pointer (some ⟨RB,0,none⟩))]) rfl c9.eval (uU (hfr 5 _ (by kernel_rfl) rfl))⟩
  | 2,_,_=>exact ⟨_,rfl,rfl,by
   exact aV (l:=[(2,.pointer (some ⟨B1,0,none⟩))]) fQ rfl rfl c9.eval (uU (hfr 2 _ (by kernel_rfl) rfl))⟩
  | 5,_,_=>exact ⟨_,rfl,rfl,by
   exact aV (l:=[(2,.pointer (some ⟨B1,0,none⟩))]) fQ rfl rfl c9.eval (uU (hfr 2 _ (by kernel_rfl) rfl))⟩
  | 3,_,_=>exact ⟨_,rfl,rfl,by
   have h9:=(hD 2 16 (by kernel_rfl)).1 (by decide)
   have hc9:=aH (j:=3) hB9.2 rfl
   rw [hst] at hc9
   exact aZ (l:=[(16,.pointer (some ⟨B1,0+3,none⟩))]) isAgg3 rfl hc9 c9.eval (uU h9)⟩
  | 6,_,_=>exact ⟨_,rfl,rfl,by
   have h9:=(hD 5 19 (by kernel_rfl)).1 (by decide)
   have hc9:=aH (j:=3) hB9.2 rfl
   rw [hst] at hc9
   exact aZ (l:=[(19,.pointer (some ⟨B1,0+3,none⟩))]) isAgg3 rfl hc9 c9.eval (uU h9)⟩
  | 8,_,_=>exact ⟨_,rfl,rfl,by
   have h9:=(hD 0 14 (by kernel_rfl)).1 (by decide)
   exact cT (l:=[(14,.pointer (some ⟨RB,0,none⟩))]) rfl c9.eval (uU h9)⟩
  | 9,_,_=>exact ⟨_,rfl,rfl,by
   have h9:=(hD 8 22 (by kernel_rfl)).1 (by decide)
   exact aV (l:=[(22,.pointer (some ⟨RB,0,none⟩))]) kH rfl rfl c9.eval (uU h9)⟩
  | 4,_,h9=>exact absurd (by decide) h9
  | 7,_,h9=>exact absurd (by decide) h9
  | 10,_,h9=>exact absurd (by decide) h9
  | i+11,h9,_=>omega
 ·intro i him s a0 c9 w ha0 hF9 hG hnew hD
  have hcase:i=4∨i=7∨i=10:=by simpa using him
  rcases hcase with rfl | rfl | rfl
  ·have h9:=(hD 3 17 (by kernel_rfl)).1 (by decide)
   refine Nb rfl Nc (vs:=[.int .i64 (n:Int)]) (by simp only [List.map_cons,List.map_nil,h9]) ((Ah hG.1 hn (R:=fun i v ON=>i≠10→VecP n v ON) (i:=4) (fun v ON h _=>h)).mono ?_)
   rintro e w' ⟨v,ON,rfl,hP,hS9⟩
   refine ⟨v,ON,rfl,hP,?_,fun ON' h=>?_⟩
   ·show St w0 ((List.flatMap (·.2) ((4,ON)::s))++_) _ _ _
    rw [List.flatMap_cons,List.append_assoc]
    exact hS9
   ·rcases List.mem_cons.1 h with h | h
    ·cases h
    ·obtain ⟨VA,IA,WA,h1,h2⟩:=hG.2 ON' h
     exact ⟨VA,IA,WA,List.mem_cons_of_mem _ h1,h2⟩
  ·have h9:=(hD 6 20 (by kernel_rfl)).1 (by decide)
   refine Nb rfl Nc (vs:=[.int .i64 (n:Int)]) (by simp only [List.map_cons,List.map_nil,h9]) ((Ah hG.1 hn (R:=fun i v ON=>i≠10→VecP n v ON) (i:=7) (fun v ON h _=>h)).mono ?_)
   rintro e w' ⟨v,ON,rfl,hP,hS9⟩
   refine ⟨v,ON,rfl,hP,?_,fun ON' h=>?_⟩
   ·show St w0 ((List.flatMap (·.2) ((7,ON)::s))++_) _ _ _
    rw [List.flatMap_cons,List.append_assoc]
    exact hS9
   ·rcases List.mem_cons.1 h with h | h
    ·cases h
    ·obtain ⟨VA,IA,WA,h1,h2⟩:=hG.2 ON' h
     exact ⟨VA,IA,WA,List.mem_cons_of_mem _ h1,h2⟩
  ·have h9:=(hD 9 23 (by kernel_rfl)).1 (by decide)
   obtain ⟨ON4,h4,hP4⟩:=(hD 4 18 (by kernel_rfl)).2 (by decide)
   obtain ⟨VA,IA,WA,hv4,hO4⟩:=hP4 (by decide)
   have hno:s.any (fun q=>Nat.beq q.1 10)=false:=by
    rw [List.any_eq_false]
    intro q hq h8
    exact hnew q.2 (by rw [← Nat.eq_of_beq_eq_true h8];exact hq)
   have hS9:=hG.1
   rw [hno] at hS9
   have hi9:(Ie s++((RB,uW f0 a bk bm,109)::(B1,a.seven,29)::Ot))[(Ie s).length]?=some (RB,uW f0 a bk bm,109):=by simp
   have hS8:=hS9.set (Ie s).length hi9 18 (.pointer (some ⟨VA,0,none⟩))
   refine If rfl sizeOf107 h9 hv4 rfl (hS9.own _ (List.mem_of_getElem? hi9)).2 (show 18 < 20 by decide) (⟨undef,[(RB,(uW f0 a bk bm).set 18 (.pointer (some ⟨VA,0,none⟩)),109)],rfl,fun h=>absurd rfl h,?_,fun ON' h=>?_⟩)
   ·show St w0 (((RB,(uW f0 a bk bm).set 18 _,109)::Ie s)++([]++_)) _ _ _
    refine hS8.perm ?_
    rw [List.set_append_right _ _ (Nat.le_refl _),Nat.sub_self]
    exact List.perm_middle
   ·rcases List.mem_cons.1 h with h | h
    ·cases h
     exact ⟨VA,IA,WA,List.mem_cons_of_mem _ (by rw [show vecO n VA IA WA=ON4 from hO4.symm];exact h4),rfl⟩
    ·exact absurd h (hnew ON')
 ·intro s c9 w hG hsz hdf hfr hval hin hmk hkeys hdist
  obtain ⟨O10,h10⟩:=hin 10 (by decide)
  obtain ⟨VA,IA,WA,h4,e10⟩:=hG.2 O10 h10
  obtain ⟨O4,h4',hP4⟩:=hmk 4 18 (by decide) rfl
  obtain ⟨O7,h7,hP7⟩:=hmk 7 21 (by decide) rfl
  obtain ⟨VX,IX,WX,hv7,e7⟩:=hP7 (by decide)
  obtain ⟨VA',IA',WA',hv4,e4⟩:=hP4 (by decide)
  have hany:s.any (fun q=>Nat.beq q.1 10)=true:=List.any_eq_true.2 ⟨_,h10,rfl⟩
  have hS9:=hG.1
  rw [hany] at hS9
  have hS9:=hS9.perm ((Ty hkeys hdist h4 h7 h10).append_right _)
  subst e10;subst e7
  have hS:St w0 (((VA,gT (.slice none 0 0) n IA WA,139)::(IA,List.replicate n (Value.bool false),4)::(WA,wC (List.replicate n (⟨false,0,0,none,0,0,[],none,0,0,[],none,0,0⟩:WF)),44)::(VX,gT (.slice none 0 0) n IX WX,139)::(IX,List.replicate n (Value.bool false),4)::(WX,wC (List.replicate n (⟨false,0,0,none,0,0,[],none,0,0,[],none,0,0⟩:WF)),44)::(RB,(uW f0 a bk bm).set 18 (.pointer (some ⟨VA,0,none⟩)),109)::(B1,a.seven,29)::Ot)) [] Kq w:=hS9
  refine (show cR _ _ _ _ (List.drop 11 _) [(5,.pointer (some ⟨RB,0,none⟩)),(21,.pointer (some ⟨VX,0,none⟩)),(15,.pointer (some ⟨RB,0,none⟩))] w from ?_) c9 (Tw.has hsz hdf ⟨hfr 5 _ (by kernel_rfl) rfl,hv7,hval 1 15 (by decide) (by decide) rfl,trivial⟩)
  refine cM rfl rfl (aK (o':=19) rE rfl rfl rfl (dN (i:=6) (cs':=[_,_,_,_,_,_,_,_,_,_,_,_,_,_,_,_,_,_,_,_]) (O':=(_::_::_::_::_::_::_::_::Ot)) hS sizeOf107 rfl rfl rfl rfl rfl rfl rfl fun W3 hS=>aN (XF.thenN (aM (aQ (aE rfl rfl (aC rfl rfl (aN (XF.thenN (bL (XF.res (cE results53 rfl) ?_)))))))))))
  have hmap9:=(hS.kept (bm,oL W9 (bm+1)) (by rw [hKq];exact List.mem_cons_self)).1.2 bm (Nat.le_refl _) (by dsimp only;rw [iJ (by omega)];omega)
  rw [uV (by omega) (Nat.lt_succ_self _),hbm0] at hmap9
  have hS5:=(hS.keep Kr (fun q hq=>by rw [hKq];exact List.mem_cons_of_mem _ hq)).drop8
  have hKbm:∀ q∈Kr,bm < q.1∨q.2.heap.size≤bm:=fun q hq=>by
   rw [hKr] at hq
   simp only [List.mem_cons] at hq
   rcases hq with rfl | rfl | hq
   ·exact .inr (by rw [iJ (by omega)];exact Nat.le_refl _)
   ·exact .inl (Nat.lt_succ_self _)
   ·exact .inr (Nat.le_trans (hSb.kept q hq).1.1 hm1)
  exact ⟨RB,VA,IA,WA,VX,IX,WX,bm,f0,Kr,rfl,(fun q hq=>by rw [hKr];simp [hq]),H0,Nat.le_trans hSb.below.size hm1,hmap9,hKbm,hS5⟩
end Go.Proofs.YtmgnkpibpjgncaaGreatDoor
namespace Go.Proofs.YtmgnkpibpjgncaaGreatDoor
open Go.Proofs.Tryz
open Go Go.RowKit
open Go.WideMaps (KeyLaw)
abbrev kv (k:Int×Int):Value:=.agg #[.int .i64 k.1,.int .i64 k.2]
theorem La (x y:Int×Int) (h:kv x=kv y):x=y:=by
 obtain ⟨a,b⟩:=x
 obtain ⟨c,d⟩:=y
 simp at h
 rw [h.1,h.2]
theorem P7 {a b:Nat} (h:a < b):b=b - 1+1:=by omega
theorem Tz:prog.cellsOf 3=1:=by kernel_rfl
theorem Ai {x:Int} (h0:0≤x) (h1:x≤1000000):(Lit.int .i64 x).wf=true:=by
 have e1:IntKind.i64.min = -9223372036854775808:=rfl
 have e2:IntKind.i64.max=9223372036854775807:=rfl
 simp [Lit.wf]
 omega
theorem T3:(136:TypeId) < prog.types.size:=of_decide_eq_true (by kernel_rfl)
theorem plcSize:prog.types.size=prog.types.size - 1+1:=P7 T3
theorem plcWide:(match prog.underlying 136 with | some (.array _ _) | some (.struct _)=>true | _=>false)=true:=by rw [underlying136]
theorem Lb:KeyLaw prog 136:=deep_law_laid (by kernel_rfl) (m:=2) (by omega) T3 (by kernel_rfl) plcWide
theorem Ii:prog.cellsOf 136=2:=by kernel_rfl
theorem Lc {p g:Int} (hp:(Lit.int .i64 p).wf=true) (hg:(Lit.int .i64 g).wf=true):∃ l,keyOf prog 136 (kv (p,g))=some l:=by
 have h1:prog.keyType 136=true:=by kernel_rfl
 have h2:(kv (p,g)).formed prog 136=true:=by simp [Value.formed,underlying136,Ii]
 have hi:∀ (d:Nat) (x:Int),(Lit.int .i64 x).wf=true→prog.keyLits (d+1) 3 [.int .i64 x]=some [.int .i64 x]:=fun d x hx=>by simp [Program.keyLits,underlying3,hx]
 obtain ⟨m,hm⟩:∃ m,prog.types.size=m+1:=⟨prog.types.size - 1,plcSize⟩
 unfold keyOf
 rw [underlying136]
 simp only [h1,h2,Bool.and_self,if_true]
 rw [hm]
 simp [Program.keyLits,underlying136,Ii,Tz,hi m p hp,hi m g hg,Value.cells,hp,hg]
theorem Ld {x:Int} (h0 : -1≤x) (h1:x≤1000000):(Lit.int .i64 x).wf=true:=by
 have e1:IntKind.i64.min = -9223372036854775808:=rfl
 have e2:IntKind.i64.max=9223372036854775807:=rfl
 simp [Lit.wf]
 omega
end Go.Proofs.YtmgnkpibpjgncaaGreatDoor
namespace Go.Proofs.YtmgnkpibpjgncaaGreatDoor
open Go.Proofs.Tryz
open Go Go.RowKit
theorem rF (v0:Int) (v1:Int):prog.built 136 [(0,.int .i64 v0),(1,.int .i64 v1)]=some #[.int .i64 v0,.int .i64 v1]:=by kernel_rfl
theorem uX (w:World) (b o:Nat):(Instr.fieldAt 109 (.pointer (some ⟨b,o,none⟩)) 1).run prog w = .ok (.pointer (some ⟨b,o+9,none⟩)) w:=by
 simp [Instr.fieldAt,run_underlying underlying109,Instr.sureAddr,go_sem,Addr.add_lit]
theorem Aj (w:World) (b o:Nat):(Instr.fieldAt 109 (.pointer (some ⟨b,o,none⟩)) 3).run prog w = .ok (.pointer (some ⟨b,o+17,none⟩)) w:=by
 simp [Instr.fieldAt,run_underlying underlying109,Instr.sureAddr,go_sem,Addr.add_lit]
theorem St.unkeep {w0 W:World} {O:Own} {q:Nat×World} {K:List (Nat×World)} (h:St w0 O [] (q::K) W):St w0 O [] K W:=⟨h.below,h.own,h.dist,fun q hq=>h.kept q (List.mem_cons_of_mem _ hq),(fun g hg=>by cases hg),List.Pairwise.nil⟩
theorem T4 {P:Program} {t E:TypeId} {z x:Value} (hU:P.underlying t=some (.slice E)) (hs:∀ w,(sizeOf E).run P w = .ok 1 w) (hz:∀ w,(zeroValue E).run P w = .ok z w) (hf:Instr.fill (fun i=>some (i * 1,1)) ((Array.range (1 * 1)).map (z.cells[· % z.cells.size]!)) [(0,x)]=some (List.toArray [x])) {d s:Nat} {ty:TypeId} {pos:String} {aft:Array Edge} (ev:Operand→Value) (w:World) (hx:ev (.tmp s)=x) :
  (execOp ev ⟨some d,.buildSlice t 1 #[(0,.tmp s)],ty,pos,aft,none⟩).run P w = .ok (.value (.slice (some ⟨w.heap.size,0,none⟩) 1 1)) (w.alloc (.cells #[x] E)):=by
 unfold execOp
 simp only [List.map_toArray,List.map_cons,List.map_nil,hx]
 simp only [Instr.buildSlice,Sem.run_bind,run_underlying hU,Result.andThen_ok,hs,if_neg (show ¬ (1 * 1 > 2 ^ 24) by omega),if_neg (show ¬ (1 * 1=0) by omega),hz,Sem.run_pure,hf,newRow,run_newObj_alloc]
def byT (kf:TV→Int×Int):List TV→Nat→Int×Int→List Int
 | [],_,_=>[]
 | t::ts,i,k=>if k=kf t then (i:Int)::byT kf ts (i+1) k else byT kf ts (i+1) k
theorem Nf (kf:TV→Int×Int) (t:TV) (k:Int×Int):∀ (ts:List TV) (i:Nat),byT kf (ts++[t]) i k=byT kf ts i k++(if k=kf t then [((i+ts.length:Nat):Int)] else [])
 | [],i=>by simp only [byT,List.nil_append,List.length_nil,Nat.add_zero]
 | x::ts,i=>by
  simp only [List.cons_append,byT,Nf kf t k ts (i+1),List.length_cons]
  rw [show i+1+ts.length=i+(ts.length+1) by omega]
  by_cases h:k=kf x
  ·rw [if_pos h,if_pos h];rfl
  ·rw [if_neg h,if_neg h]
theorem T5 {kf:TV→Int×Int} {ts:List TV} {i:Nat} {t:TV} (h:ts[i]?=some t) (k:Int×Int):byT kf (ts.take (i+1)) 0 k=byT kf (ts.take i) 0 k++(if k=kf t then [(i:Int)] else []):=by
 rw [List.take_add_one,h]
 show byT kf (ts.take i++[t]) 0 k=_
 rw [Nf,List.length_take,Nat.min_eq_left (Nat.le_of_lt (List.getElem?_eq_some_iff.1 h).1),Nat.zero_add]
theorem uY (kf:TV→Int×Int) (k:Int×Int):∀ (ts:List TV) (i:Nat),(byT kf ts i k).length≤ts.length
 | [],_=>Nat.le_refl _
 | x::ts,i=>by
  have:=uY kf k ts (i+1)
  unfold byT
  split<;>simp<;>omega
theorem rX {kf:TV→Int×Int} {k:Int×Int} {j:Int}:∀ {ts:List TV} {i:Nat},j∈byT kf ts i k↔∃ (m:Nat) (t:TV),j=((i+m:Nat):Int)∧ts[m]?=some t∧k=kf t
 | [],i=>by simp [byT]
 | x::ts,i=>by
  have ih:=@rX kf k j ts (i+1)
  unfold byT
  constructor
  ·intro h
   by_cases hk:k=kf x
   ·rw [if_pos hk] at h
    rcases List.mem_cons.1 h with h | h
    ·exact ⟨0,x,h,rfl,hk⟩
    ·obtain ⟨m,t,h1,h2,h3⟩:=ih.1 h
     exact ⟨m+1,t,by rw [h1];congr 1;omega,h2,h3⟩
   ·rw [if_neg hk] at h
    obtain ⟨m,t,h1,h2,h3⟩:=ih.1 h
    exact ⟨m+1,t,by rw [h1];congr 1;omega,h2,h3⟩
  ·rintro ⟨m,t,h1,h2,h3⟩
   cases m with
   | zero =>
    simp at h2;subst h2
    rw [if_pos h3]
    exact List.mem_cons.2 (.inl h1)
   | succ m =>
    have h9:=ih.2 ⟨m,t,by rw [h1];congr 1;omega,by simpa using h2,h3⟩
    split
    ·exact List.mem_cons_of_mem _ h9
    ·exact h9
abbrev Bd (kf:TV→Int×Int) (ts:List TV) (k:Int×Int):List Value:=(byT kf ts 0 k).map (Value.int .i64)
theorem P8 {kf:TV→Int×Int} {ts:List TV} {i:Nat} {t:TV} (h:ts[i]?=some t):(fun x=>if x=kf t then Bd kf (ts.take i) (kf t)++[.int .i64 (i:Int)] else Bd kf (ts.take i) x)=Bd kf (ts.take (i+1)):=by
 funext x
 unfold Bd
 rw [T5 h x]
 by_cases e:x=kf t
 ·subst e
  rw [if_pos rfl,if_pos rfl,List.map_append];rfl
 ·rw [if_neg e,if_neg e,List.append_nil]
def GrpP (kf:TV→Int×Int) (lo:Nat) (ts:List TV) (b:Nat) (W:World):Prop:=Grp prog 136 3 kv lo (Bd kf ts) b W
def pL (w0:World) (K:List (Nat×World)) (kf:TV→Int×Int) (lo:Nat) (ts:List TV) (b:Nat):Prop:=∃ Wf,GrpP kf lo ts b Wf∧jF w0 K (fun W2=>W2.heap[b]?=Wf.heap[b]?∧∀ p,lo≤p→p < Wf.heap.size→W2.heap[p]?=Wf.heap[p]?)
theorem pL.more {w0:World} {K K':List (Nat×World)} {kf:TV→Int×Int} {lo b:Nat} {ts:List TV} (h:pL w0 K kf lo ts b) (hk:∀ q∈K,q∈K'):pL w0 K' kf lo ts b:=by
 obtain ⟨Wf,h1,h2⟩:=h
 exact ⟨Wf,h1,jF.more h2 hk⟩
abbrev kSym (t:TV):Int×Int:=(t.f,t.g)
theorem T6 (S:PS) (a:AV) (f0:WF) (bk:Bool) (bm VA VX RB:Nat) (Ot:Own) (K:List (Nat×World)) (w0:World) (w:World) (hS0:St w0 ((RB,rdC f0 a bk bm VA VX,109)::Ot) [] K w) (hmap:w.heap[bm]?=some (.map #[] 0)) (hwb:w0.heap.size≤bm) (hKb:∀ q∈K,bm < q.1∨q.2.heap.size≤bm) (htrow:pU w0 a.ta a.ts) (htlen:a.ts.length=a.tl) (htm:a.tl≤65536) (hky:∀ t∈a.ts,(0≤t.f∧t.f≤1000000)∧(-1≤t.g∧t.g≤1000000)) :
  Calls prog 54 #[.pointer (some ⟨RB,0,none⟩)] w (fun e w'=>∃ (lo:Nat) (Kn:List (Nat×World)),e = .returned (.tuple #[])∧(∀ q∈K,q∈Kn)∧w0.heap.size≤lo∧pL w0 Kn kSym lo a.ts bm∧St w0 ((RB,rdC f0 a bk bm VA VX,109)::Ot) [] Kn w'):=by
 refine cD (args:=[.pointer (some ⟨RB,0,none⟩)]) func54 rfl ntmps54 rfl ?_
 have hS:=hS0
 obtain ⟨lo,hlo⟩:∃ lo,lo=w.heap.size:=⟨_,rfl⟩
 have hO:=Mz hS hmap
 have hwl:=hS.below.size
 have hKb9:∀ q∈K,q.2.heap.size≤lo∧(bm < q.1∨q.2.heap.size≤bm):=fun q hq=>⟨by rw [hlo];exact (hS.kept q hq).1.1,hKb q hq⟩
 rw [← hlo] at hO hwl
 refine aM (aQ (aE rfl rfl (cM rfl rfl (aK (o':=9) uX rfl rfl rfl (aK (o':=15) dR rfl rfl rfl (aR isAgg27 rfl (aH (hS.at_ 0 rfl) rfl) rfl (cC underlying27 rfl rfl (aE rfl rfl (aN (XF.thenN (bK (dQ (fun m l W=>∃ i:Nat,i≤a.tl∧m=a.tl - i∧l=[(0,.pointer (some ⟨RB,0,none⟩)),(9,.slice a.ta a.tl a.tc),(10,.int .i64 (a.tl:Int)),(11,.int .i64 (i:Int))]∧Grp prog 136 3 kv lo (Bd kSym (a.ts.take i)) bm W∧lo≤W.heap.size∧St w0 ((RB,rdC f0 a bk bm VA VX,109)::Ot) [] K W) (a.tl - 0) ([(0,_),(9,_),(10,_),(11,_)]) ⟨rfl,rfl,rfl,rfl,trivial⟩ (⟨0,Nat.zero_le _,rfl,rfl,Grp.fresh lo hmap,Nat.le_of_eq hlo,hS⟩) ?_))))))))))))
 clear hS
 rintro m l W ⟨i,hi,rfl,rfl,hM,hlo9,hS⟩
 refine aM (aQ (cK rfl rfl rfl (aN (XF.thenN (aM (bB rfl (fun hc=>?_) (fun hc=>?_)))))))
 ·have hc12:=of_decide_eq_true hc;clear hc
  have hk:i < a.tl:=by omega
  obtain ⟨r,hr⟩:∃ r,a.ts[i]?=some r:=⟨a.ts[i]'(by omega),by simp [show i < a.ts.length by omega]⟩
  obtain ⟨b,off,hta,hcs⟩:=htrow.at_ hr
  have k1:=aF.agree hS.agree (Nat.zero_le _) hcs
  obtain ⟨hrf,hrg⟩:=hky r (List.mem_of_getElem? hr)
  have hS:=(hS.markAt (Grp.lt hM) (fun p hp=>(hO p hp).1)).mark lo (fun p hp=>(hO p hp).2) rfl
  refine bI (XF.thenN (aM (bK (aM (aQ (aE rfl rfl ?_))))))
  refine bZ (j:=i) (b:=b) (o:=off) (m:=a.tl) (c:=a.tc) underlying27 sizeOf66 (by show some (Value.slice a.ta a.tl a.tc)=_;rw [hta]) rfl rfl (by omega) rfl rfl ?_
  refine aT (vs:=[_,_,_,_,_,_,_,_,_]) isAgg66 sizeOf66 rfl (k1) rfl (bE (cs:=[_,_,_,_,_,_,_,_,_]) hS zeroValue66 rfl rfl fun B1 W1 hS=>aC rfl rfl (aU (i:=0) (vs:=[_,_,_,_,_,_,_,_,_]) (cs':=[_,_,_,_,_,_,_,_,_]) (O':=(_::_::Ot)) hS sizeOf66 rfl rfl rfl rfl rfl rfl rfl fun W2 hS=>aN (XF.thenN (aM (aQ (aK (o':=0) pJ rfl rfl rfl (aR isAgg3 rfl (aH (hS.at_ 0 rfl) rfl) rfl (aK (o':=1) iM rfl rfl rfl (aR isAgg3 rfl (aH (hS.at_ 0 rfl) rfl) rfl (cV (us:=[(0,.int .i64 _),(1,.int .i64 _)]) rfl (rF _ _) rfl (bE (cs:=[_,_]) hS zeroValue136 rfl rfl fun B3 W3 hS=>aU (i:=0) (vs:=[_,_]) (cs':=[_,_]) (O':=(_::_::_::Ot)) hS sizeOf136 rfl rfl rfl rfl rfl rfl rfl fun W4 hS=>aN (XF.thenN ?_))))))))))))
  have hM8:=(Grp.same hM (fun h1=>((hS.since 1 rfl).2 bm (Nat.le_refl _) (uM h1)).trans (uN h1)) (fun p h0 h1=>(hS.since 0 rfl).2 p h0 h1))
  have hlo8:=Nat.le_trans hlo9 (hS.since 0 rfl).1
  have h9:=hM8
  obtain ⟨es9,ck9,hb9,_⟩:=h9
  have hO9:=Mz hS hb9
  have hb3:=(hO9 _ (List.mem_cons_of_mem _ List.mem_cons_self)).1
  have hb4:=(hO9 _ List.mem_cons_self).1
  have hS:=hS.unkeep.unkeep
  refine Tv (n:=_) (k:=kSym r) (vals:=fun i9=>match i9 with | 0=>.pointer (some ⟨RB,0,none⟩) | 1=>.pointer (some ⟨RB,0,none⟩) | 2=>.pointer (some ⟨RB,0+17,none⟩) | 3=>.map (some bm) | 4=>kv (kSym r) | _=>.int .i64 (i:Int)) (x:=.int .i64 (i:Int)) cF hS hM8 ?_ hwb hwl hlo8 hKb9 Lb underlying106 zeroValue26 (Lc (Ai hrf.1 hrf.2) (Ld hrg.1 hrg.2)) La underlying26 Bg rfl rfl rfl rfl (fun ev w h=>T4 underlying26 sizeOf3 zeroValue3 (kV _) ev w h) (by have h9:=uY kSym (kSym r) (a.ts.take i) 0;rw [List.length_take] at h9;rw [List.length_map];simp only [maxLen];omega) (by have h9:=uY kSym (kSym r) (a.ts.take i) 0;rw [List.length_take] at h9;rw [List.length_map];show (_+1) * 8≤_;omega) rfl (by kernel_rfl) rfl rfl rfl ?_ rfl rfl rfl rfl rfl rfl (by kernel_rfl) (by kernel_rfl) (by kernel_rfl) (by kernel_rfl) (by kernel_rfl) (by kernel_rfl) (by kernel_rfl) (by kernel_rfl) (by kernel_rfl) (by kernel_rfl) ?_
  ·intro p hp
   rcases List.mem_cons.1 hp with rfl | hp
   ·exact ⟨hb4,.inr (show (136:Nat)≠3 by decide)⟩
   rcases List.mem_cons.1 hp with rfl | hp
   ·exact ⟨hb3,.inr (show (66:Nat)≠3 by decide)⟩
   ·exact ⟨(hO p hp).1,.inl (hO p hp).2⟩
  ·intro i9 hi9 a0 c9 w9 ha0 hF9 hS9 hD
   have hfr:∀ t v,freeT _ t=true→look _ t=some v→c9.eval (.tmp t)=v:=fun t v h1 h2=>(hF9 t h1).trans (ha0.at_ t v h2)
   have hB4:=(hS9.own _ List.mem_cons_self).2
   have hRB:=(hS9.own (RB,rdC f0 a bk bm VA VX,109) (by simp)).2
   match i9,hi9 with
   | 0,_=>exact ⟨_,rfl,rfl,by
    exact bA (l:=[(0,.pointer (some ⟨RB,0,none⟩))]) rfl c9.eval (uU (hfr 0 _ (by kernel_rfl) rfl))⟩
   | 1,_=>exact ⟨_,rfl,rfl,by
    exact cT (l:=[(21,.pointer (some ⟨RB,0,none⟩))]) rfl c9.eval (uU (hD 0 21 (by kernel_rfl)))⟩
   | 2,_=>exact ⟨_,rfl,rfl,by
    exact aV (l:=[(22,.pointer (some ⟨RB,0,none⟩))]) Aj rfl rfl c9.eval (uU (hD 1 22 (by kernel_rfl)))⟩
   | 3,_=>exact ⟨_,rfl,rfl,by
    exact aZ (l:=[(23,.pointer (some ⟨RB,0+17,none⟩))]) isAgg106 rfl (aH hRB rfl) c9.eval (uU (hD 2 23 (by kernel_rfl)))⟩
   | 4,_=>exact ⟨_,rfl,rfl,by
    exact bD (l:=[(4,.pointer (some ⟨B3,0,none⟩))]) (vs:=[_,_]) isAgg136 sizeOf136 rfl (aF.own (j:=0) (m:=2) hB4 rfl) c9.eval (uU (hfr 4 _ (by kernel_rfl) rfl))⟩
   | 5,_=>exact ⟨_,rfl,rfl,by
    exact bA (l:=[(2,.int .i64 (i:Int))]) rfl c9.eval (uU (hfr 2 _ (by kernel_rfl) rfl))⟩
   | i9+6,h9=>omega
  ·intro W9 hS9 hM9 hsz10 c9 h1 h2 h3
   rw [P8 hr] at hM9
   clear hS;have hS:=hS9;clear hS9
   refine (show XF _ .normal _ [(0,_),(9,_),(10,_),(11,_)] W9 from ?_) c9 (Tw.has h1 h2 ⟨h3 0 (by kernel_rfl) _ rfl,h3 9 (by kernel_rfl) _ rfl,h3 10 (by kernel_rfl) _ rfl,h3 11 (by kernel_rfl) _ rfl,trivial⟩)
   refine XF.blkN (XF.thenN (aQ (cP rfl rfl (IntWalk.i64_in _ (by omega)) rfl (aE rfl rfl (aN ?_)))))
   exact XF.round (a.tl - (i+1)) [(0,_),(9,_),(10,_),(11,_)] (by omega) ⟨rfl,rfl,rfl,rfl,trivial⟩ ⟨i+1,by omega,rfl,rfl,hM9,Nat.le_trans hlo8 hsz10,hS.tail.tail⟩
 ·have hc12:=of_decide_eq_false hc;clear hc
  rw [List.take_of_length_le (by omega)] at hM
  have hS7:=(hS.markAt (Grp.lt hM) (fun p hp=>(hO p hp).1)).mark lo (fun p hp=>(hO p hp).2) rfl
  refine dP (XF.thenX (XF.thenX (XF.blkX (XF.resN (Nq results54) (⟨lo,_,rfl,(fun q hq=>List.mem_cons_of_mem _ (List.mem_cons_of_mem _ hq)),hwl,⟨_,hM,?_⟩,hS7⟩)))))
  intro O2 G2 K2 W2 h2 hk
  have h1:=Grp.lt hM
  exact ⟨((h2.kept _ (hk _ (List.mem_cons_of_mem _ List.mem_cons_self))).1.2 bm (Nat.le_refl _) (uM h1)).trans (uN h1),fun p h3 h4=>(h2.kept _ (hk _ List.mem_cons_self)).1.2 p h3 h4⟩
theorem goes_28:bP prog 28=true:=by kernel_rfl
theorem P9 (S:PS) (sf:SF) (w:World) (hs:SIs w S sf) (hok:S.ok) :
  Calls prog 28 #[sf.val] w (jE S (bW S) w):=by
 refine cD (args:=[sf.val]) func28 rfl ntmps28 rfl ?_
 have hS:=St.start w
 refine aM (aQ (bY (cs:=[_,_,_]) hS rfl rfl rfl fun B1 W1 hS=>bE (cs:=[_,_,_,_,_,_]) hS zeroValue44 rfl rfl fun B2 W2 hS=>aN (XF.thenN (aM (aQ (aT (vs:=[_,_,_]) isAgg25 sizeOf25 rfl (aF.own (j:=0) (m:=3) (hS.at_ 1 rfl) rfl) rfl ?_))))))
 have hsz:=hS.below.size
 refine cN (vs:=[_]) hS goes_74 rfl (Hu S sf _ (hs.below hS.below) hok) rfl ?_
 rintro e W3 ⟨f,rfl,hn,hb⟩
 refine ⟨_,rfl,hb,fun hS'=>?_⟩
 clear hS;have hS:=hS';clear hS'
 refine aE rfl rfl (bU rfl rfl rfl (bU rfl rfl rfl (bE (cs:=[_,_,_,_,_,_]) hS zeroValue44 rfl rfl fun B4 W4 hS=>aU (i:=0) (vs:=[_,_,_,_,_,_]) (cs':=[_,_,_,_,_,_]) (O':=[_,_,_]) hS sizeOf44 rfl rfl rfl rfl rfl rfl rfl fun W5 hS=>aC rfl rfl (aN (XF.thenN (aM (aQ (aT (vs:=[_,_,_,_,_,_]) isAgg44 sizeOf44 rfl (aF.own (j:=0) (m:=6) (hS.at_ 0 rfl) rfl) rfl (aU (i:=1) (vs:=[_,_,_,_,_,_]) (cs':=[_,_,_,_,_,_]) (O':=[_,_,_]) hS sizeOf44 rfl rfl rfl rfl rfl rfl rfl fun W6 hS=>aN (XF.thenN (bL (XF.res (eM (vs:=[_,_,_,_,_,_]) results28 isAgg44 sizeOf44 rfl (aF.own (j:=0) (m:=6) (hS.at_ 1 rfl) rfl)) ?_))))))))))))
 exact ⟨f,rfl,(hn.agree (hS.since 0 rfl)).mono hsz,hS.below⟩
def jG (a:AV) (fr ws:List Int):Int:=if dD a≠0 then dD a else if fr.all (fun y=>inQ y a.st)=true then (if ws.all (fun y=>inQ y a.sy)=true then 0 else 102) else 101
theorem dV {x:Int} {n:Nat} (h:inQ x (n:Int)=true):∃ k:Nat,x=(k:Int)∧k < n:=by
 simp only [inQ,Bool.and_eq_true,decide_eq_true_eq] at h
 exact ⟨x.toNat,by omega,by omega⟩
theorem goes_96:bP prog 96=true:=by kernel_rfl
def uZ (S:PS) (xs:List PX) (l:List Int):PX:=l.foldl (fun z s=>cB S z (xs.getD s.toNat (bW S))) (bW S)
theorem Qa {S:PS} {xs:List PX} {l:List Int} {i:Nat} {y:Int} (h:l[i]?=some y):uZ S xs (l.take (i+1))=cB S (uZ S xs (l.take i)) (xs.getD y.toNat (bW S)):=by
 rw [List.take_add_one,h]
 show uZ S xs (l.take i++[y])=_
 unfold uZ
 rw [List.foldl_append];rfl
theorem endX_ok {S:PS} {xs:List PX} (hok:S.ok) (hx:∀ x∈xs,OkX S x) (l:List Int):OkX S (uZ S xs l):=by
 unfold uZ
 have:∀ (l:List Int) (z:PX),OkX S z→OkX S (l.foldl (fun z s=>cB S z (xs.getD s.toNat (bW S))) z):=by
  intro l
  induction l with
  | nil=>intro z hz;exact hz
  | cons a t ih =>
   intro z hz
   refine ih _ (lK hok hz ?_)
   rw [List.getD_eq_getElem?_getD]
   cases h:xs[a.toNat]? with
   | none=>exact mL
   | some x=>exact hx x (List.mem_of_getElem? h)
 exact this l _ mL
theorem newS {S:PS} {lo lo':Nat} {X:Nat→Prop} {W W2:World} {f:WF} {x:PX} (hf:gA lo W S f x) (hA:AwS lo X (dL lo S x) f.val W) (h:hZ lo X W W2) (hl:lo'≤lo):gA lo' W2 S f x:=by
 obtain ⟨g,hg,hgn⟩:=hA _ h
 obtain rfl:=M8 hg (hf.samepf hgn)
 exact hgn.mono hl
theorem plusRow {w:World} {S:PS} {sf:SF} {f0 f g:WF} {x y:PX} {vs:List Value} {lo lo2:Nat} {T:TypeId} (hh:nU [isV (iA sf f0),tP lo2 2 T (f.six++g.six)] vs w) (hs:SIs w S sf) (hok:S.ok) (hf:XIs w S f x) (hg:XIs w S g y) (hx:OkX S x) (ht:Tabs w) (hlo:lo≤w.heap.size):Calls prog 39 vs.toArray w (vJ (dL lo S (cB S x y)) w):=by
 obtain ⟨v1,v2,rfl,e1,b,rfl,hlb,hb⟩:=qQ hh
 have e1:v1=_:=e1
 subst e1
 refine mR hlo ?_
 have h9:=uQ S sf f0 w hs hok _ 2 2 [f,g] [x,y] (Mw hb) (rS hf (rS hg J5)) rfl (by decide) ht
 rw [comb2 hx] at h9
 exact h9
theorem T7 (S:PS) (a:AV) (f0:WF) (bk:Bool) (bm VA VX RB IB WB n:Nat) (v:Value) (fs:List WF) (xs:List PX) (w:World) (hrb:w.heap[RB]?=some (.cells (rdC f0 a bk bm VA VX).toArray 109 (0,0))) (hva:w.heap[VA]?=some (.cells (gT v n IB WB).toArray 139 (0,0))) (hib:w.heap[IB]?=some (.cells (inC S xs).toArray 4 (0,0))) (hwb:w.heap[WB]?=some (.cells (wC fs).toArray 44 (0,0))) (hfl:fs.length=n) (hxl:xs.length=n) (hxs:∀ (i:Nat) f x,fs[i]?=some f→xs[i]?=some x→x≠bW S→XIs w S f x) (hxo:∀ x∈xs,OkX S x) (hn:n≤4096) (hfrow:Row w a.fa a.fs) (hflen:a.fs.length=a.fl) (hfm:a.fl≤9223372036854775807) (hfq:∀ s∈a.fs,inQ s (n:Int)=true) (hsi:SIs w S a.s.f) (hok:S.ok) (ht:Tabs w) :
  Calls prog 58 #[.pointer (some ⟨RB,0,none⟩)] w (jE S (uZ S xs a.fs) w):=by
 refine cD (args:=[.pointer (some ⟨RB,0,none⟩)]) func58 rfl ntmps58 rfl ?_
 have hS:=St.start w
 refine aM (aQ (bE (cs:=[_,_,_,_,_,_]) hS zeroValue44 rfl rfl fun B1 W1 hS=>aN (XF.thenN (aM ?_))))
 have hring:=aF.own (j:=0) (m:=9) (vs:=[.int .i64 a.s.f.tag,.int .i64 a.s.f.dim,.slice a.s.f.a a.s.f.len a.s.f.cap,.bool f0.z,.int .i64 f0.c,.int .u64 (f0.g:Int),.slice f0.ra f0.rl f0.rc,.slice f0.ca f0.cl f0.cc,.slice f0.pa f0.pl f0.pc]) hrb rfl
 have k9:=aF.agree hS.agree (Nat.zero_le _) hring
 refine aQ (aE rfl rfl (cM rfl rfl (aK mS rfl (Nat.add_zero _) rfl (aT (vs:=[_,_,_,_,_,_,_,_,_]) isAgg76 sizeOf76 rfl (k9) rfl ?_))))
 have hsz1:=hS.below.size
 refine cN (vs:=[_]) hS goes_96 rfl (H4 S a.s.f f0 _ (hsi.below hS.below) hok) rfl ?_
 rintro e W2 ⟨f1,rfl,hn1,hb⟩
 refine ⟨_,rfl,hb,fun hS'=>?_⟩
 clear hS;have hS:=hS';clear hS'
 refine bE (cs:=[_,_,_,_,_,_]) hS zeroValue44 rfl rfl fun B3 W3 hS=>aU (i:=0) (vs:=[_,_,_,_,_,_]) (cs':=[_,_,_,_,_,_]) (O':=[_,_]) hS sizeOf44 rfl rfl rfl rfl rfl rfl rfl fun W4 hS=>aN (XF.thenN (aM (aM ?_)))
 have hfin0:=aH (j:=14) hrb rfl
 have hat0:=aH (j:=18) hrb rfl
 have hin0:=aH (j:=1) hva rfl
 have hw0:=aH (j:=2) hva rfl
 refine aQ (aE rfl rfl (cM rfl rfl (aK uX rfl rfl rfl (aK eE rfl rfl rfl (aR isAgg26 rfl (hS.old hfin0) rfl (cC underlying26 rfl rfl (aE rfl rfl (aN (XF.thenN (bK (dQ (fun m l W=>∃ (i:Nat) (fz:WF) (Kk:List (Nat×World)),i≤a.fl∧m=a.fl - i∧l=[(0,.pointer (some ⟨RB,0,none⟩)),(15,.slice a.fa a.fl a.fc),(16,.int .i64 (a.fl:Int)),(17,.int .i64 (i:Int)),(2,.pointer (some ⟨B1,0,none⟩)),(3,.pointer (some ⟨B3,0,none⟩))]∧jF w Kk (fun W2=>gA w.heap.size W2 S fz (uZ S xs (a.fs.take i)))∧St w [(B3,fz.six,44),(B1,[.bool false,.int .i64 0,.int .u64 0,.slice none 0 0,.slice none 0 0,.slice none 0 0],44)] [] Kk W) (a.fl - 0) ([(0,_),(15,_),(16,_),(17,_),(2,_),(3,_)]) ⟨rfl,rfl,rfl,rfl,rfl,rfl,trivial⟩ (⟨0,f1,_,Nat.zero_le _,rfl,rfl,(fun h2 hk=>(hn1.agree (h2.kept _ (hk _ List.mem_cons_self)).1).mono hsz1),hS⟩) ?_)))))))))))
 clear hS
 rintro m l W ⟨i,fz,Kk,hi,rfl,rfl,HZ,hS⟩
 refine aM (aQ (cK rfl rfl rfl (aN (XF.thenN (aM (bB rfl (fun hc=>?_) (fun hc=>?_)))))))
 ·have hc18:=of_decide_eq_true hc;clear hc
  have hk:i < a.fl:=by omega
  obtain ⟨b,off,y,hfa,hy,hyc⟩:=hfrow.at1 (show i < a.fs.length by omega)
  have k1:=hS.old hyc
  obtain ⟨sN,rfl,hsN⟩:=dV (hfq y (List.mem_of_getElem? hy))
  obtain ⟨x0,hx0⟩:∃ x0,xs[sN]?=some x0:=⟨xs[sN]'(by omega),List.getElem?_eq_getElem _⟩
  obtain ⟨g0,hg0⟩:∃ g0,fs[sN]?=some g0:=⟨fs[sN]'(by omega),List.getElem?_eq_getElem _⟩
  have hbit:=aH (j:=0+sN * 1) hib (Ts hx0)
  have hxe:xs.getD ((sN:Int)).toNat (bW S)=x0:=by rw [Int.toNat_natCast,List.getD_eq_getElem?_getD,hx0];rfl
  have hstep:=Qa (S:=S) (xs:=xs) hy
  rw [hxe] at hstep
  have hzok:=endX_ok hok hxo (a.fs.take i)
  refine bI (XF.thenN (aM (bK (aM (aQ ?_)))))
  refine bZ (j:=i) (b:=b) (o:=off) (m:=a.fl) (c:=a.fc) underlying26 sizeOf3 (by show some (Value.slice a.fa a.fl a.fc)=_;rw [hfa]) rfl rfl (by omega) rfl rfl ?_
  refine aR isAgg3 rfl (k1) rfl (aC rfl rfl (aN (XF.thenN (aM (aQ (aE rfl rfl (cM rfl rfl (aK kH rfl rfl rfl (aR isAgg107 rfl (hS.old hat0) rfl (cM rfl rfl (aK uT rfl rfl rfl (aR isAgg58 rfl (hS.old hin0) rfl (aE rfl rfl (bZ (j:=sN) underlying58 sizeOf4 rfl rfl (rfl) (by omega) rfl rfl (aR isAgg4 rfl (hS.old hbit) rfl (aN (XF.thenN (bB rfl (fun hc=>?_) (fun hc=>?_)))))))))))))))))))
  ·have hc30:=hc;clear hc
   have hnz:x0≠bW S:=by simpa [oI] using hc30
   have hxi:=hxs sN g0 x0 hg0 hx0 hnz
   have k6:=aF.own (j:=0+sN * 6) (m:=6) hwb (H7 hg0)
   have hsz6:=hS.below.size
   refine Tn (ef:=17) (jy:=16) (ca:=qY (fun _=>[])) (ta:=fun _=>0) (Os:=osY _ 0 (0) B3 (fz.six) 44) (Gs:=uJ _) (al:=[]) (k:=18) (ds:=[]) cF rfl hS rfl (by kernel_rfl) rfl (by decide) rfl rfl rfl rfl (aX 1 rfl rfl (isV _) (fun hNo=>sgV [(0,_)] rfl rfl rfl rfl hNo (aS rfl) ⟨cG rfl,trivial⟩ (fun ev w he hw=>bA rfl) (aG rfl)) (aX 2 rfl rfl (isV _) (fun hNo=>sgV [(31,_)] rfl rfl rfl rfl hNo (aS rfl) ⟨aO 0 (aA rfl rfl rfl),trivial⟩ (fun ev w he hw=>cT rfl) (aG rfl)) (aX 3 rfl rfl (isV _) (fun hNo=>sgV [(32,_)] rfl rfl rfl rfl hNo (aS rfl) ⟨aO 1 (aA rfl rfl rfl),trivial⟩ (fun ev w he hw=>aV mS rfl (Nat.add_zero _)) (aG rfl)) (aX 4 rfl rfl (isV _) (fun hNo=>sgV [(33,_)] rfl rfl rfl rfl hNo (aS rfl) ⟨aO 2 (aA rfl rfl rfl),trivial⟩ (fun ev w he hw=>bD (vs:=[_,_,_,_,_,_,_,_,_]) isAgg76 sizeOf76 rfl (aF.agree hw.agree (Nat.zero_le _) (hring))) (aG rfl)) (aX 5 rfl rfl (isV _) (fun hNo=>sgV [(3,_)] rfl rfl rfl rfl hNo (aS rfl) ⟨cG rfl,trivial⟩ (fun ev w he hw=>bD (vs:=[_,_,_,_,_,_]) isAgg44 sizeOf44 rfl ((aF.own (j:=0) (m:=6) (hw.at_ 0 (osY_at0 (he rfl) rfl)) rfl))) (aG rfl)) (aX 6 rfl rfl (isV _) (fun hNo=>sgV [(0,_)] rfl rfl rfl rfl hNo (aS rfl) ⟨cG rfl,trivial⟩ (fun ev w he hw=>bA rfl) (aG rfl)) (aX 7 rfl rfl (isV _) (fun hNo=>sgV [(36,_)] rfl rfl rfl rfl hNo (aS rfl) ⟨aO 5 (aA rfl rfl rfl),trivial⟩ (fun ev w he hw=>cT rfl) (aG rfl)) (aX 8 rfl rfl (isV _) (fun hNo=>sgV [(37,_)] rfl rfl rfl rfl hNo (aS rfl) ⟨aO 6 (aA rfl rfl rfl),trivial⟩ (fun ev w he hw=>aV kH rfl rfl) (aG rfl)) (aX 9 rfl rfl (isV _) (fun hNo=>sgV [(38,_)] rfl rfl rfl rfl hNo (aS rfl) ⟨aO 7 (aA rfl rfl rfl),trivial⟩ (fun ev w he hw=>aZ isAgg107 rfl (hw.agree.cell (Nat.zero_le _) (hat0))) (aG rfl)) (aX 10 rfl rfl (isV _) (fun hNo=>sgV [(39,_)] rfl rfl rfl rfl hNo (aS rfl) ⟨aO 8 (aA rfl rfl rfl),trivial⟩ (fun ev w he hw=>cT rfl) (aG rfl)) (aX 11 rfl rfl (isV _) (fun hNo=>sgV [(40,_)] rfl rfl rfl rfl hNo (aS rfl) ⟨aO 9 (aA rfl rfl rfl),trivial⟩ (fun ev w he hw=>aV mT rfl rfl) (aG rfl)) (aX 12 rfl rfl (isV _) (fun hNo=>sgV [(41,_)] rfl rfl rfl rfl hNo (aS rfl) ⟨aO 10 (aA rfl rfl rfl),trivial⟩ (fun ev w he hw=>aZ isAgg42 rfl (hw.agree.cell (Nat.zero_le _) (hw0))) (aG rfl)) (aX 13 rfl rfl (isV _) (fun hNo=>sgV [(5,_)] rfl rfl rfl rfl hNo (aS rfl) ⟨cG rfl,trivial⟩ (fun ev w he hw=>bA rfl) (aG rfl)) (aX 14 rfl rfl (isV _) (fun hNo=>sgV [(42,_),(43,_)] rfl rfl rfl rfl hNo (aS rfl) ⟨aO 11 (aA rfl rfl rfl),aO 12 (aA rfl rfl rfl),trivial⟩ (fun ev w he hw=>bG (j:=sN) underlying42 sizeOf44 rfl rfl (rfl) (by omega) rfl) (aG rfl)) (aX 15 rfl rfl (isV _) (fun hNo=>sgV [(44,_)] rfl rfl rfl rfl hNo (aS rfl) ⟨aO 13 (aA rfl rfl rfl),trivial⟩ (fun ev w he hw=>bD (vs:=[_,_,_,_,_,_]) isAgg44 sizeOf44 rfl (aF.agree hw.agree (Nat.zero_le _) (k6))) (aG rfl)) (aX 16 rfl rfl (tP W.heap.size 2 44 _) (fun hNo=>sg_rowV (us:=[.agg (List.toArray [_,_,_,_,_,_]),.agg (List.toArray [_,_,_,_,_,_])]) rfl rfl rfl rfl hNo (aS rfl) underlying42 sizeOf44 zeroValue44 rfl rfl ⟨cH (aO 4 (aA rfl rfl rfl)),cH (aO 14 (aA rfl rfl rfl)),trivial⟩ (xD _ _ _ _ _ _ _ _ _ _ _ _) (aG rfl)) (aX 17 rfl rfl (dL W.heap.size S (cB S (uZ S xs (a.fs.take i)) x0)) (fun hNo=>xM [isV _,tP W.heap.size 2 44 _] rfl rfl rfl rfl hNo E1 (aS rfl) ⟨cH (aO 3 (aA rfl rfl rfl)),cH (aO 15 (aA rfl rfl rfl)),trivial⟩ (fun vs ev w' he hSt hlo hh=>plusRow hh (hsi.below hSt.below) hok (HZ hSt (fun q hq=>hq)).is (hxi.below hSt.below) hzok (ht.below hSt.below) hlo) (aG rfl)) ?_)))))))))))))))))
   refine pG 18 rfl (E3 (py:=dL W.heap.size S (cB S (uZ S xs (a.fs.take i)) x0)) (m:=6) 0 (0) [(3,_)] rfl rfl rfl rfl (by kernel_rfl) rfl rfl (fun j hj=>by rcases hj with h | rfl<;>first | (cases h<;>rfl) | rfl) ⟨cG rfl,trivial⟩ rfl rfl sizeOf44 (fun v w ⟨h,e,_⟩=>by subst e;exact ⟨h.six,rfl,rfl,rfl⟩) rfl) ?_
   refine nH ?_
   intro Bf5 y5 W5 Ks5 hsz5 hKs5 hS' hcov5
   clear hS;have hS:=hS'.castO (O':=[_,_]) rfl;clear hS'
   refine uL (L':=[AwS _ _ (isV _),AwS _ _ (isV _),AwS _ _ (isV _),AwS _ _ (isV _),AwS _ _ (isV _),AwS _ _ (isV _),AwS _ _ (isV _),AwS _ _ (isV _),AwS _ _ (isV _),AwS _ _ (isV _),AwS _ _ (isV _),AwS _ _ (isV _),AwS _ _ (isV _),AwS _ _ (isV _),AwS _ _ (isV _),AwS _ _ (tP W.heap.size 2 44 _),(fun v0_ w0_=>v0_=_∧AwS _ _ (dL W.heap.size S (cB S (uZ S xs (a.fs.take i)) x0)) v0_ w0_),isV _]) rfl (bM (bM (bM (bM (bM (bM (bM (bM (bM (bM (bM (bM (bM (bM (bM ?_)))))))))))))))
   refine dH ?_;intro _ _
   refine dH ?_;rintro _ ⟨rfl,hA5⟩
   obtain ⟨f9,rfl,hn9⟩:=hA5.here
   have H9:jF w Ks5 (fun W2=>gA w.heap.size W2 S f9 (cB S (uZ S xs (a.fs.take i)) x0)):=fun h2 hk=>newS hn9 hA5 (hcov5 h2 hk) hsz6
   refine Hr (cQ (aN (XF.blkN (XF.thenN (aQ (cP rfl rfl (IntWalk.i64_in _ (by omega)) rfl (aE rfl rfl (aN ?_))))))))
   exact XF.round (a.fl - (i+1)) [(0,_),(15,_),(16,_),(17,_),(2,_),(3,_)] (by omega) ⟨rfl,rfl,rfl,rfl,rfl,rfl,trivial⟩ ⟨i+1,f9,_,by omega,rfl,rfl,(by rw [hstep];exact H9.more (fun q hq=>by simp [hq])),hS⟩
  ·have hc30:=hc;clear hc
   refine bI (XF.blkN (XF.thenN (aQ (cP rfl rfl (IntWalk.i64_in _ (by omega)) rfl (aE rfl rfl (aN ?_))))))
   have hz:x0=bW S:=by simpa [kU] using hc30
   exact XF.round (a.fl - (i+1)) [(0,_),(15,_),(16,_),(17,_),(2,_),(3,_)] (by omega) ⟨rfl,rfl,rfl,rfl,rfl,rfl,trivial⟩ ⟨i+1,fz,Kk,by omega,rfl,rfl,(by rw [hstep,hz,lY hzok];exact HZ),hS⟩
 ·have hc18:=of_decide_eq_false hc;clear hc
  rw [List.take_of_length_le (by omega)] at HZ
  refine dP (XF.thenX (XF.thenX (XF.blkX (XF.thenN (aM (aQ (aT (vs:=[_,_,_,_,_,_]) isAgg44 sizeOf44 rfl (aF.own (j:=0) (m:=6) (hS.at_ 0 rfl) rfl) rfl (aU (i:=1) (vs:=[_,_,_,_,_,_]) (cs':=[_,_,_,_,_,_]) (O':=[_,_]) hS sizeOf44 rfl rfl rfl rfl rfl rfl rfl fun W6 hS=>aN (XF.thenN (bL (XF.res (eM (vs:=[_,_,_,_,_,_]) results58 isAgg44 sizeOf44 rfl (aF.own (j:=0) (m:=6) (hS.at_ 1 rfl) rfl)) ?_)))))))))))
  exact ⟨fz,rfl,HZ hS (fun q hq=>by simp [hq]),hS.below⟩
theorem Ng:bP prog 66=true:=by kernel_rfl
theorem Fb:bP prog 94=true:=by kernel_rfl
theorem goes_95:bP prog 95=true:=by kernel_rfl
theorem Ij {O:Own} {j jx B:Nat} {cs vs:List Value} {U:TypeId} {ev:Option Value} {p:Nat×List Value×TypeId} (he:ev=none) (h:O[j]?=some p):(Ex O j jx B cs vs U ev)[j]?=some p:=by
 subst he;exact h
def hopX (S:PS) (bk:Bool) (py:TV→PX) (x:PX) (t:TV) (ys:List PX):List PX:=ys.set t.t.toNat (cB S (ys.getD t.t.toNat (bW S)) (mX S bk x (py t)))
def lV (S:PS) (bk:Bool) (py:TV→PX) (ts:List TV) (x:PX) (js:List Int) (ys:List PX):List PX:=js.foldl (fun ys j=>match ts[j.toNat]? with | some t=>hopX S bk py x t ys | none=>ys) ys
def kI (S:PS) (bk:Bool) (py:TV→PX) (ts:List TV) (xs:List PX) (sym:Int) (l:List Nat) (ys:List PX):List PX:=l.foldl (fun ys s=>lV S bk py ts (xs.getD s (bW S)) (byT kSym ts 0 ((s:Int),sym)) ys) ys
theorem Qb {S:PS} {bk:Bool} {py:TV→PX} {ts:List TV} {x:PX} {js:List Int} {ys:List PX} {j tj:Nat} {t:TV} (h:js[j]?=some (tj:Int)) (ht:ts[tj]?=some t):lV S bk py ts x (js.take (j+1)) ys=hopX S bk py x t (lV S bk py ts x (js.take j) ys):=by
 rw [List.take_add_one,h]
 show lV S bk py ts x (js.take j++[(tj:Int)]) ys=_
 unfold lV
 rw [List.foldl_append]
 show (match ts[((tj:Int)).toNat]? with | some t=>_ | none=>_)=_
 rw [Int.toNat_natCast,ht]
theorem Qc {S:PS} {bk:Bool} {py:TV→PX} {ts:List TV} {xs:List PX} {sym:Int} {l:List Nat} {ys:List PX} {i y:Nat} {x:PX} (h:l[i]?=some y) (hx:xs[y]?=some x):kI S bk py ts xs sym (l.take (i+1)) ys=lV S bk py ts x (byT kSym ts 0 ((y:Int),sym)) (kI S bk py ts xs sym (l.take i) ys):=by
 rw [List.take_add_one,h]
 show kI S bk py ts xs sym (l.take i++[y]) ys=_
 unfold kI
 rw [List.foldl_append]
 show lV S bk py ts (xs.getD y (bW S)) _ _=_
 rw [List.getD_eq_getElem?_getD,hx];rfl
theorem hop_at {S:PS} {bk:Bool} {py:TV→PX} {x x5:PX} {rf rg:Int} {tN:Nat} {tx:WV} {ys:List PX} (h:ys[tN]?=some x5):hopX S bk py x ⟨rf,rg,(tN:Int),tx⟩ ys=ys.set tN (cB S x5 (mX S bk x (py ⟨rf,rg,(tN:Int),tx⟩))):=by
 unfold hopX
 dsimp only
 rw [Int.toNat_natCast,List.getD_eq_getElem?_getD,h];rfl
theorem Ik {S:PS} {bk:Bool} {x y:PX} (hok:S.ok) (hx:OkX S x) (hy:OkX S y):OkX S (mX S bk x y):=by
 unfold mX
 split
 ·exact xK hok hy hx
 ·exact xK hok hx hy
theorem perm3 {α:Type} (x a b c:α) (l:List α):(x::a::b::c::l).Perm (a::b::c::x::l):=(List.perm_middle (l₁:=[a,b,c])).symm
theorem Nh {α:Type} (x a b c d:α) (l:List α):(x::a::b::c::d::l).Perm (a::b::c::d::x::l):=(List.perm_middle (l₁:=[a,b,c,d])).symm
theorem Qd (S:PS) (a:AV) (f0:WF) (bk:Bool) (bm VA VX RB IA WA IX WX n:Nat) (vx va:Value) (fx fs:List WF) (xx xs:List PX) (lx l:List Nat) (Ot:Own) (Gt:cU) (K:List (Nat×World)) (w0:World) (lo:Nat) (py:TV→PX) (sym:Int) (w:World) (hS0:St w0 ((RB,rdC f0 a bk bm VA VX,109)::(VX,gT vx n IX WX,139)::(IX,inC S xx,4)::(WX,wC fx,44)::(VA,gT va n IA WA,139)::(IA,inC S xs,4)::(WA,wC fs,44)::Ot) (⟨vx,lx.length,atC lx,3,1⟩::⟨va,l.length,atC l,3,1⟩::Gt) K w) (hVX:VecOk S w0 K n fx xx lx) (hVA:VecOk S w0 K n fs xs l) (hn:n≤4096) (hM:pL w0 K kSym lo a.ts bm) (htrow:pU w0 a.ta a.ts) (htlen:a.ts.length=a.tl) (htm:a.tl≤65536) (htq:∀ t∈a.ts,inQ t.t (n:Int)=true) (hpy:∀ t∈a.ts,XIs w0 S t.x.f (py t)) (hsy : -1≤sym∧sym≤1000000) (hsi:SIs w0 S a.s.f) (hok:S.ok) (ht:Tabs w0) (H0:jF w0 K (fun W=>XIs W S f0 (bW S))) :
  Calls prog 56 #[.pointer (some ⟨RB,0,none⟩),.int .i64 sym] w (fun e w'=>∃ (u v:Value) (l':List Nat) (fs':List WF) (Kn:List (Nat×World)),e = .returned (.tuple #[])∧(∀ q∈K,q∈Kn)∧VecOk S w0 Kn n fs' (kI S bk py a.ts xs sym l (List.replicate n (bW S))) l'∧St w0 ((RB,rdC f0 a bk bm VX VA,109)::(VX,gT u n IX WX,139)::(IX,inC S (kI S bk py a.ts xs sym l (List.replicate n (bW S))),4)::(WX,wC fs',44)::(VA,gT v n IA WA,139)::(IA,inC S xs,4)::(WA,wC fs,44)::Ot) (⟨u,l'.length,atC l',3,1⟩::⟨v,l.length,atC l,3,1⟩::Gt) Kn w'):=by
 refine cD (args:=[.pointer (some ⟨RB,0,none⟩),.int .i64 sym]) func56 rfl ntmps56 rfl ?_
 have hS:=hS0
 obtain ⟨aa,ac,hva,_⟩:=gP (hS.row 1 rfl)
 have hva:va = .slice aa l.length ac:=hva
 subst hva
 have hll:=hVA.len
 refine aM (aQ (aE rfl rfl (cM rfl rfl (aK (o':=19) rE rfl rfl rfl (aR isAgg107 rfl (aH (hS.at_ 0 rfl) rfl) rfl (jA (vs:=[_]) goes_95 rfl (H8 S VX IX WX n vx fx xx lx _ _ _ w0 _ (hS.perm (perm3 _ _ _ _ _)) hVX hn) rfl ?_))))))
 rintro e W9 ⟨u9,rfl,hV9,hS9⟩
 refine ⟨_,rfl,?_⟩
 clear hS;have hS:=hS9.perm (perm3 _ _ _ _ _).symm;clear hS9
 refine aN (XF.thenN (aM (aM (aQ (aE rfl rfl (cM rfl rfl (aK (o':=18) kH rfl rfl rfl (aR isAgg107 rfl (aH (hS.at_ 0 rfl) rfl) rfl (cM rfl rfl (aK (o':=0) kG rfl rfl rfl (aR isAgg26 rfl (aH (hS.at_ 4 rfl) rfl) rfl (cC underlying26 rfl rfl (aE rfl rfl (aN (XF.thenN (bK (dQ (fun m lf W=>∃ (i:Nat) (v9:Value) (f9s:List WF) (x9s:List PX) (l9:List Nat) (Kk:List (Nat×World)),i≤l.length∧m=l.length - i∧lf=[(0,.pointer (some ⟨RB,0,none⟩)),(1,.int .i64 sym),(20,.slice aa l.length ac),(21,.int .i64 (l.length:Int)),(22,.int .i64 (i:Int))]∧(∀ q∈K,q∈Kk)∧x9s=kI S bk py a.ts xs sym (l.take i) (List.replicate n (bW S))∧VecOk S w0 Kk n f9s x9s l9∧St w0 ((RB,rdC f0 a bk bm VA VX,109)::(VX,gT v9 n IX WX,139)::(IX,inC S x9s,4)::(WX,wC f9s,44)::(VA,gT (.slice aa l.length ac) n IA WA,139)::(IA,inC S xs,4)::(WA,wC fs,44)::Ot) (⟨v9,l9.length,atC l9,3,1⟩::⟨(.slice aa l.length ac),l.length,atC l,3,1⟩::Gt) Kk W) (l.length - 0) ([(0,_),(1,_),(20,_),(21,_),(22,_)]) ⟨rfl,rfl,rfl,rfl,rfl,trivial⟩ (⟨0,u9,fx,_,[],K,Nat.zero_le _,rfl,rfl,(fun q hq=>hq),rfl,hV9,hS⟩) ?_)))))))))))))))))
 clear hS
 rintro m lf W ⟨i,v9,f9s,x9s,l9,Kk,hi,rfl,rfl,hKk,hx9s,hV,hS⟩
 refine aM (aQ (cK rfl rfl rfl (aN (XF.thenN (aM (bB rfl (fun hc=>?_) (fun hc=>?_)))))))
 ·have hc23:=of_decide_eq_true hc;clear hc
  have hk:i < l.length:=by omega
  obtain ⟨y,hy⟩:∃ y,l[i]?=some y:=⟨l[i],List.getElem?_eq_getElem hk⟩
  obtain ⟨xy,hxy,hxz⟩:=(hVA.ats y).1 (List.mem_of_getElem? hy)
  have hyn:y < n:=by have:=(List.getElem?_eq_some_iff.1 hxy).1;rw [hVA.xl] at this;exact this
  obtain ⟨fy,hfy⟩:∃ fy,fs[y]?=some fy:=⟨fs[y]'(by rw [hVA.fl];exact hyn),List.getElem?_eq_getElem _⟩
  obtain ⟨b9,rfl,k9⟩:=jM (hS.row 1 rfl) (show (atC l)[i]?=some (.int .i64 (y:Int)) by rw [List.getElem?_map,hy];rfl)
  refine bI (XF.thenN (aM (bK (aM (aQ (bZ  underlying26 sizeOf3 rfl rfl rfl (by omega) rfl rfl (aR isAgg3 rfl (k9) rfl (aC rfl rfl (aN (XF.thenN (aM ?_)))))))))))
  obtain ⟨Wf,hG,hH⟩:=hM
  have hH4:=hH hS hKk
  obtain ⟨v33,hlk,hrw⟩:=Grp.look hG Lb underlying106 zeroValue26 (k:=((y:Int),sym)) (Lc (Ai (Int.natCast_nonneg _) (by omega)) (Ld hsy.1 hsy.2)) La
  obtain ⟨ra,rc,rfl,hrc⟩:=gP hrw
  obtain ⟨rl,hrl⟩:∃ m,m=(Bd kSym a.ts ((y:Int),sym)).length:=⟨_,rfl⟩
  rw [← hrl] at hlk hrw hrc
  have hlk4:=hlk _ hH4.1
  have hrl2:rl=(byT kSym a.ts 0 ((y:Int),sym)).length:=by rw [hrl,List.length_map]
  have hrl3:=uY kSym ((y:Int),sym) a.ts 0
  refine aQ (aE rfl rfl (cM rfl rfl (aK (o':=17) Aj rfl rfl rfl (aR isAgg106 rfl (aH (hS.at_ 0 rfl) rfl) rfl (aE rfl rfl (aE rfl rfl (cV (us:=[(0,.int .i64 _),(1,.int .i64 _)]) rfl (rF _ _) rfl (opV (Cz rfl rfl hlk4) rfl (cC underlying26 rfl rfl (aE rfl rfl (aN (XF.thenN (bK (dQ (fun m lf W=>∃ (j:Nat) (v7:Value) (f7:List WF) (x7:List PX) (l7:List Nat) (Kj:List (Nat×World)),j≤rl∧m=rl - j∧lf=[(0,.pointer (some ⟨RB,0,none⟩)),(1,.int .i64 sym),(5,.int .i64 (y:Int)),(20,.slice (some ⟨b9,0,none⟩) l.length ac),(21,.int .i64 (l.length:Int)),(22,.int .i64 (i:Int)),(33,.slice ra rl rc),(34,.int .i64 (rl:Int)),(35,.int .i64 (j:Int))]∧(∀ q∈K,q∈Kj)∧x7=lV S bk py a.ts xy ((byT kSym a.ts 0 ((y:Int),sym)).take j) x9s∧VecOk S w0 Kj n f7 x7 l7∧St w0 ((RB,rdC f0 a bk bm VA VX,109)::(VX,gT v7 n IX WX,139)::(IX,inC S x7,4)::(WX,wC f7,44)::(VA,gT (.slice (some ⟨b9,0,none⟩) l.length ac) n IA WA,139)::(IA,inC S xs,4)::(WA,wC fs,44)::Ot) (⟨v7,l7.length,atC l7,3,1⟩::⟨(.slice (some ⟨b9,0,none⟩) l.length ac),l.length,atC l,3,1⟩::Gt) Kj W) (rl - 0) ([(0,_),(1,_),(5,_),(20,_),(21,_),(22,_),(33,_),(34,_),(35,_)]) ⟨rfl,rfl,rfl,rfl,rfl,rfl,rfl,rfl,rfl,trivial⟩ (⟨0,v9,f9s,x9s,l9,Kk,Nat.zero_le _,rfl,rfl,hKk,rfl,hV,hS⟩) ?_))))))))))))))
  clear hS
  clear hV;rintro m lf W ⟨j,v7,f7,x7,l7,Kj,hj,rfl,rfl,hKj,hx7,hV,hS⟩
  refine aM (aQ (cK rfl rfl rfl (aN (XF.thenN (aM (bB rfl (fun hc=>?_) (fun hc=>?_)))))))
  ·have hc36:=of_decide_eq_true hc;clear hc
   have hkj:j < rl:=by omega
   obtain ⟨z,hz⟩:∃ z,(byT kSym a.ts 0 ((y:Int),sym))[j]?=some z:=⟨_,List.getElem?_eq_getElem (by omega)⟩
   obtain ⟨tj,t9,hz1,ht9,hkt⟩:=rX.1 (List.mem_of_getElem? hz)
   rw [Nat.zero_add] at hz1;subst hz1
   have hrwW:=dI hrw (fun p hp=>(hH hS hKj).2 p (hrw.lt p hp).1 (hrw.lt p hp).2)
   obtain ⟨b6,rfl,k6⟩:=jM hrwW (show (Bd kSym a.ts ((y:Int),sym))[j]?=some (.int .i64 (tj:Int)) by rw [List.getElem?_map,hz];rfl)
   have htj:=(List.getElem?_eq_some_iff.1 ht9).1
   have hmt:=List.mem_of_getElem? ht9
   obtain ⟨rf,rg,rt,tx⟩:=t9
   obtain ⟨tN,htt,htN⟩:=dV (htq _ hmt)
   dsimp only at htt
   subst htt
   have hpt:=hpy _ hmt
   obtain ⟨bt,ot,hta,hcs⟩:=htrow.at_ ht9
   have kt:=aF.agree hS.agree (Nat.zero_le _) hcs
   obtain ⟨f5,x5,hf5,hx5,hok5⟩:=hV.at_ htN
   have hokx:OkX S (mX S bk xy (py ⟨rf,rg,(tN:Int),tx⟩)):=Ik hok (hVA.ok xy (List.mem_of_getElem? hxy)) hpt.ok
   refine bI (XF.thenN (aM (bK (aM (aQ (bZ  underlying26 sizeOf3 rfl rfl rfl (by omega) rfl rfl (aR isAgg3 rfl (k6) rfl (aC rfl rfl (aN (XF.thenN (aM (aQ (aE rfl rfl (cM rfl rfl (aK (o':=9) uX rfl rfl rfl (aK (o':=15) dR rfl rfl rfl (aR isAgg27 rfl (aH (hS.at_ 0 rfl) rfl) rfl (aE rfl rfl ?_))))))))))))))))))
   refine bZ (j:=tj) (b:=bt) (o:=ot) (m:=a.tl) (c:=a.tc) underlying27 sizeOf66 (by show some (Value.slice a.ta a.tl a.tc)=_;rw [hta]) rfl rfl (by omega) rfl rfl ?_
   refine aT (vs:=[_,_,_,_,_,_,_,_,_]) isAgg66 sizeOf66 rfl (kt) rfl (bE (cs:=[_,_,_,_,_,_,_,_,_]) hS zeroValue66 rfl rfl fun B1 W1 hS=>aU (i:=0) (vs:=[_,_,_,_,_,_,_,_,_]) (cs':=[_,_,_,_,_,_,_,_,_]) (O':=(_::_::_::_::_::_::_::_::Ot)) hS sizeOf66 rfl rfl rfl rfl rfl rfl rfl fun W2 hS=>aN (XF.thenN (Tb (ef:=21) (jy:=21) (ca:=qY (fun _=>[])) (ta:=fun _=>0) (Os:=Ew _) (Gs:=uJ _) (al:=[]) (k:=20) (ds:=[67]) cF rfl hS rfl (by kernel_rfl) (by kernel_rfl) rfl (by decide) rfl (fun _=>none) (.inr ⟨rfl,rfl,rfl⟩) rfl rfl (aX 1 rfl rfl (isV _) (fun hNo=>sgV [(0,_)] rfl rfl rfl rfl hNo (aS rfl) ⟨cG rfl,trivial⟩ (fun ev w he hw=>bA rfl) (aG rfl)) (aX 2 rfl rfl (isV _) (fun hNo=>sgV [(0,_)] rfl rfl rfl rfl hNo (aS rfl) ⟨cG rfl,trivial⟩ (fun ev w he hw=>bA rfl) (aG rfl)) (aX 3 rfl rfl (isV _) (fun hNo=>sgV [(48,_)] rfl rfl rfl rfl hNo (aS rfl) ⟨aO 1 (aA rfl rfl rfl),trivial⟩ (fun ev w he hw=>cT rfl) (aG rfl)) (aX 4 rfl rfl (isV _) (fun hNo=>sgV [(49,_)] rfl rfl rfl rfl hNo (aS rfl) ⟨aO 2 (aA rfl rfl rfl),trivial⟩ (fun ev w he hw=>aV (o':=19) rE rfl rfl) (aG rfl)) (aX 5 rfl rfl (isV _) (fun hNo=>sgV [(50,_)] rfl rfl rfl rfl hNo (aS rfl) ⟨aO 3 (aA rfl rfl rfl),trivial⟩ (fun ev w he hw=>aZ isAgg107 rfl ((aH (hw.at_ 1 rfl) rfl))) (aG rfl)) (aX 6 rfl rfl (isV _) (fun hNo=>sgV [(8,_)] rfl rfl rfl rfl hNo (aS rfl) ⟨cG rfl,trivial⟩ (fun ev w he hw=>aV (o':=2) kE rfl rfl) (aG rfl)) (aX 7 rfl rfl (isV _) (fun hNo=>sgV [(52,_)] rfl rfl rfl rfl hNo (aS rfl) ⟨aO 5 (aA rfl rfl rfl),trivial⟩ (fun ev w he hw=>aZ isAgg3 rfl ((aH (hw.at_ 0 rfl) rfl))) (aG rfl)) (aX 8 rfl rfl (isV _) (fun hNo=>sgV [(0,_)] rfl rfl rfl rfl hNo (aS rfl) ⟨cG rfl,trivial⟩ (fun ev w he hw=>bA rfl) (aG rfl)) (aX 9 rfl rfl (isV _) (fun hNo=>sgV [(0,_)] rfl rfl rfl rfl hNo (aS rfl) ⟨cG rfl,trivial⟩ (fun ev w he hw=>bA rfl) (aG rfl)) (aX 10 rfl rfl (isV _) (fun hNo=>sgV [(55,_)] rfl rfl rfl rfl hNo (aS rfl) ⟨aO 8 (aA rfl rfl rfl),trivial⟩ (fun ev w he hw=>cT rfl) (aG rfl)) (aX 11 rfl rfl (isV _) (fun hNo=>sgV [(56,_)] rfl rfl rfl rfl hNo (aS rfl) ⟨aO 9 (aA rfl rfl rfl),trivial⟩ (fun ev w he hw=>aV (o':=18) kH rfl rfl) (aG rfl)) (aX 12 rfl rfl (isV _) (fun hNo=>sgV [(57,_)] rfl rfl rfl rfl hNo (aS rfl) ⟨aO 10 (aA rfl rfl rfl),trivial⟩ (fun ev w he hw=>aZ isAgg107 rfl ((aH (hw.at_ 1 rfl) rfl))) (aG rfl)) (aX 13 rfl rfl (isV _) (fun hNo=>sgV [(58,_)] rfl rfl rfl rfl hNo (aS rfl) ⟨aO 11 (aA rfl rfl rfl),trivial⟩ (fun ev w he hw=>cT rfl) (aG rfl)) (aX 14 rfl rfl (isV _) (fun hNo=>sgV [(59,_)] rfl rfl rfl rfl hNo (aS rfl) ⟨aO 12 (aA rfl rfl rfl),trivial⟩ (fun ev w he hw=>aV (o':=2) mT rfl rfl) (aG rfl)) (aX 15 rfl rfl (isV _) (fun hNo=>sgV [(60,_)] rfl rfl rfl rfl hNo (aS rfl) ⟨aO 13 (aA rfl rfl rfl),trivial⟩ (fun ev w he hw=>aZ isAgg42 rfl ((aH (hw.at_ 5 rfl) rfl))) (aG rfl)) (aX 16 rfl rfl (isV _) (fun hNo=>sgV [(5,_)] rfl rfl rfl rfl hNo (aS rfl) ⟨cG rfl,trivial⟩ (fun ev w he hw=>bA rfl) (aG rfl)) ?_)))))))))))))))))))
   refine aX 17 rfl rfl (isV _) (fun hNo=>sgV [(61,_),(62,_)] rfl rfl rfl rfl hNo (aS rfl) ⟨aO 14 (aA rfl rfl rfl),aO 15 (aA rfl rfl rfl),trivial⟩ (fun ev w he hw=>bG (j:=y) underlying42 sizeOf44 rfl rfl (rfl) (hyn) rfl) (aG rfl)) (aX 18 rfl rfl (isV _) (fun hNo=>sgV [(63,_)] rfl rfl rfl rfl hNo (aS rfl) ⟨aO 16 (aA rfl rfl rfl),trivial⟩ (fun ev w he hw=>bD (vs:=[_,_,_,_,_,_]) isAgg44 sizeOf44 rfl ((aF.own (j:=0+y * 6) (m:=6) (hw.at_ 7 rfl) (H7 hfy)))) (aG rfl)) (aX 19 rfl rfl (isV _) (fun hNo=>sgV [(8,_)] rfl rfl rfl rfl hNo (aS rfl) ⟨cG rfl,trivial⟩ (fun ev w he hw=>bD (vs:=[_,_,_,_,_,_,_,_,_]) isAgg66 sizeOf66 rfl ((aF.own (j:=0) (m:=9) (hw.at_ 0 rfl) rfl))) (aG rfl)) ?_))
   refine aX 20 rfl rfl (dL W2.heap.size S (mX S bk xy (py ⟨rf,rg,(tN:Int),tx⟩))) (fun hNo=>xM [isV _,isV _,isV _] rfl rfl rfl rfl hNo Ng (aS rfl) ⟨cH (aO 7 (aA rfl rfl rfl)),cH (aO 17 (aA rfl rfl rfl)),cH (aO 18 (aA rfl rfl rfl)),trivial⟩ (fun vs ev w' he hSt hlo hh=>by
    have e:=cI (us:=[_,_,_]) hh
    subst e
    exact mR hlo (C7 S a f0 bk bm VA VX RB fy tx.f xy (py ⟨rf,rg,(tN:Int),tx⟩) rf rg (tN:Int) w' (hSt.at_ 1 rfl) (hsi.below hSt.below) hok (ht.below hSt.below) (hVA.held y fy xy hfy hxy hxz hSt (fun q hq=>hKj q hq)) (hpt.below hSt.below))) (aG rfl)) ?_
   refine nH ?_
   intro Bf3 y3 W3 Ks3 hsz3 hKs3 hS' hcov3
   clear hS;have hS:=hS'.castO (O':=(_::_::_::_::_::_::_::_::Ot)) rfl;clear hS'
   refine uL (L':=[AwS _ _ (isV _),AwS _ _ (isV _),AwS _ _ (isV _),AwS _ _ (isV _),AwS _ _ (isV _),AwS _ _ (isV _),AwS _ _ (isV _),AwS _ _ (isV _),AwS _ _ (isV _),AwS _ _ (isV _),AwS _ _ (isV _),AwS _ _ (isV _),AwS _ _ (isV _),AwS _ _ (isV _),AwS _ _ (isV _),AwS _ _ (isV _),AwS _ _ (isV _),AwS _ _ (isV _),AwS _ _ (isV _),AwS _ _ (dL W2.heap.size S (mX S bk xy (py ⟨rf,rg,(tN:Int),tx⟩)))]) rfl (bM (bM (bM (bM (bM (bM (bM (bM (bM (bM (bM (bM (bM (bM (bM (bM (bM (bM (bM ?_)))))))))))))))))))
   refine dH ?_;rintro vP h8p;obtain ⟨f9,rfl,hn9⟩:=h8p.here
   have HX9:jF w0 (Ks3++Kj) (fun W2=>XIs W2 S f9 (mX S bk xy (py ⟨rf,rg,(tN:Int),tx⟩))):=fun h2 hk=>(newS hn9 h8p (hcov3 h2 (fun q hq=>hk q (List.mem_append_left _ hq))) (Nat.le_refl _)).is
   obtain ⟨K8,hK8⟩:∃ x,x=Ks3++Kj:=⟨_,rfl⟩
   have hK9:∀ q∈Kj,q∈K8:=fun q hq=>by rw [hK8];exact List.mem_append_right _ hq
   rw [← hK8] at HX9 hS
   refine cQ (jA (vs:=[_,_,_,_]) Fb rfl (Af S a f0 bk bm VA VX RB VX IX WX n v7 f7 x7 l7 _ _ K8 K8 w0 tN f9 (mX S bk xy (py ⟨rf,rg,(tN:Int),tx⟩)) x5 _ (hS.perm (Nh _ _ _ _ _ _)) (fun q hq=>hq) (hV.more hK9) hn htN hx5 hsi hok ht (H0.more (fun q hq=>hK9 q (hKj q hq))) HX9 hokx) rfl ?_)
   rintro e W9 ⟨u8,l8,fs8,Kw8,rfl,_,hV8,hl8,hS8⟩
   obtain ⟨Kn8,hKn8⟩:∃ x,x=Kw8++K8:=⟨_,rfl⟩
   rw [← hKn8] at hV8 hS8
   have hsub8:∀ q∈K8,q∈Kn8:=fun q hq=>by rw [hKn8];exact List.mem_append_right _ hq
   refine ⟨_,rfl,?_⟩
   clear hS;have hS:=hS8.perm (Nh _ _ _ _ _ _).symm;clear hS8
   refine aN (XF.blkN (XF.thenN (aQ (cP rfl rfl (IntWalk.i64_in _ (by omega)) rfl (aE rfl rfl (aN ?_))))))
   exact XF.round (rl - (j+1)) [(0,_),(1,_),(5,_),(20,_),(21,_),(22,_),(33,_),(34,_),(35,_)] (by omega) ⟨rfl,rfl,rfl,rfl,rfl,rfl,rfl,rfl,rfl,trivial⟩ ⟨j+1,u8,fs8,_,l8,Kn8,by omega,rfl,rfl,(fun q hq=>hsub8 q (hK9 q (hKj q hq))),by rw [Qb hz ht9,← hx7,hop_at hx5],hV8,hS.tail⟩
  ·have hc36:=of_decide_eq_false hc;clear hc
   rw [List.take_of_length_le (by omega)] at hx7
   refine dP (XF.thenX (XF.thenX (XF.blkX (XF.blkN (XF.thenN (aQ (cP rfl rfl (IntWalk.i64_in _ (by omega)) rfl (aE rfl rfl (aN ?_)))))))))
   exact XF.round (l.length - (i+1)) [(0,_),(1,_),(20,_),(21,_),(22,_)] (by omega) ⟨rfl,rfl,rfl,rfl,rfl,trivial⟩ ⟨i+1,v7,f7,x7,l7,Kj,by omega,rfl,rfl,hKj,by rw [Qc hy hxy,← hx9s];exact hx7,hV,hS⟩
 ·have hc23:=of_decide_eq_false hc;clear hc
  rw [List.take_of_length_le (by omega)] at hx9s
  subst hx9s
  refine dP (XF.thenX (XF.thenX (XF.blkX (XF.thenN (Tb (ef:=12) (jy:=16) (ca:=qY (fun _=>[])) (ta:=fun _=>0) (Os:=Ex _ 0 18 RB (rdC f0 a bk bm VA VX) ([.pointer (some ⟨VX,0,none⟩)]) 109) (Gs:=uJ _) (al:=[]) (k:=13) (ds:=[82,83]) cF rfl hS rfl (by kernel_rfl) (by kernel_rfl) rfl (by decide) rfl (some) (.inl ⟨rfl,rfl⟩) rfl rfl (aX 1 rfl rfl (isV _) (fun hNo=>sgV [(0,_)] rfl rfl rfl rfl hNo (aS rfl) ⟨cG rfl,trivial⟩ (fun ev w he hw=>bA rfl) (aG rfl)) (aX 2 rfl rfl (isV _) (fun hNo=>sgV [(0,_)] rfl rfl rfl rfl hNo (aS rfl) ⟨cG rfl,trivial⟩ (fun ev w he hw=>bA rfl) (aG rfl)) (aX 3 rfl rfl (isV _) (fun hNo=>sgV [(0,_)] rfl rfl rfl rfl hNo (aS rfl) ⟨cG rfl,trivial⟩ (fun ev w he hw=>bA rfl) (aG rfl)) (aX 4 rfl rfl (isV _) (fun hNo=>sgV [(72,_)] rfl rfl rfl rfl hNo (aS rfl) ⟨aO 2 (aA rfl rfl rfl),trivial⟩ (fun ev w he hw=>cT rfl) (aG rfl)) (aX 5 rfl rfl (isV _) (fun hNo=>sgV [(73,_)] rfl rfl rfl rfl hNo (aS rfl) ⟨aO 3 (aA rfl rfl rfl),trivial⟩ (fun ev w he hw=>aV (o':=19) rE rfl rfl) (aG rfl)) (aX 6 rfl rfl (isV _) (fun hNo=>sgV [(74,_)] rfl rfl rfl rfl hNo (aS rfl) ⟨aO 4 (aA rfl rfl rfl),trivial⟩ (fun ev w he hw=>aZ isAgg107 rfl ((aH (hw.at_ 0 (Ij (he rfl) rfl)) rfl))) (aG rfl)) (aX 7 rfl rfl (isV _) (fun hNo=>sgV [(0,_)] rfl rfl rfl rfl hNo (aS rfl) ⟨cG rfl,trivial⟩ (fun ev w he hw=>bA rfl) (aG rfl)) (aX 8 rfl rfl (isV _) (fun hNo=>sgV [(76,_)] rfl rfl rfl rfl hNo (aS rfl) ⟨aO 6 (aA rfl rfl rfl),trivial⟩ (fun ev w he hw=>cT rfl) (aG rfl)) (aX 9 rfl rfl (isV _) (fun hNo=>sgV [(77,_)] rfl rfl rfl rfl hNo (aS rfl) ⟨aO 7 (aA rfl rfl rfl),trivial⟩ (fun ev w he hw=>aV (o':=18) kH rfl rfl) (aG rfl)) (aX 10 rfl rfl (isV _) (fun hNo=>sgV [(78,_)] rfl rfl rfl rfl hNo (aS rfl) ⟨aO 8 (aA rfl rfl rfl),trivial⟩ (fun ev w he hw=>aZ isAgg107 rfl ((aH (hw.at_ 0 (Ij (he rfl) rfl)) rfl))) (aG rfl)) (aX 11 rfl rfl (isV _) (fun hNo=>sgV [(70,_)] rfl rfl rfl rfl hNo (aS rfl) ⟨aO 0 (aA rfl rfl rfl),trivial⟩ (fun ev w he hw=>cT rfl) (aG rfl)) (aX 12 rfl rfl (isV _) (fun hNo=>sgV [(80,_)] rfl rfl rfl rfl hNo (aS rfl) ⟨aO 10 (aA rfl rfl rfl),trivial⟩ (fun ev w he hw=>aV (o':=18) kH rfl rfl) (aG rfl)) ?_)))))))))))))))))
  refine pG 13 rfl (eff_stO (m:=1) 0 18 [(81,_),(75,_)] rfl rfl rfl rfl (fun j hj=>by rcases hj with h | rfl<;>first | (cases h<;>rfl) | rfl) ⟨aO 11 (aA rfl rfl rfl),aO 5 (aA rfl rfl rfl),trivial⟩ rfl rfl rfl sizeOf107 rfl rfl rfl rfl) ?_
  refine nH ?_
  intro Bf4 y4 W4 Ks4 hsz4 hKs4 hS' hcov4
  clear hS;have hS:=hS'.castO (O':=(_::_::_::_::_::_::_::Ot)) rfl;clear hS'
  refine uL (L':=[AwS _ _ (isV _),AwS _ _ (isV _),AwS _ _ (isV _),AwS _ _ (isV _),AwS _ _ (isV _),AwS _ _ (isV _),AwS _ _ (isV _),AwS _ _ (isV _),AwS _ _ (isV _),AwS _ _ (isV _),AwS _ _ (isV _),AwS _ _ (isV _),isV _]) rfl (bM (bM (bM (bM (bM (bM (bM (bM (bM (bM (bM (bM (Hr (cQ (cM rfl rfl (aK (o':=19) rE rfl rfl rfl (dN (i:=0) (cs':=[_,_,_,_,_,_,_,_,_,_,_,_,_,_,_,_,_,_,_,_]) (O':=(_::_::_::_::_::_::_::Ot)) hS sizeOf107 rfl rfl (by first | rfl | exact (hS.oneV 0 _ rfl :) | exact (hS.oneV 1 _ rfl :) | exact (hS.oneV 2 _ rfl :) | exact (hS.oneV 3 _ rfl :)) rfl rfl rfl rfl fun W5 hS=>aN (XF.resN (Nq results56) ?_))))))))))))))))))
  have hS9:=hS.castO (O':=(RB,rdC f0 a bk bm VX VA,109)::(VX,gT v9 n IX WX,139)::(IX,inC S (kI S bk py a.ts xs sym l (List.replicate n (bW S))),4)::(WX,wC f9s,44)::(VA,gT _ n IA WA,139)::(IA,inC S xs,4)::(WA,wC fs,44)::Ot) rfl
  refine ⟨v9,_,l9,f9s,_,rfl,?_,?_,hS9⟩
  ·exact fun q hq=>by simp [hKk q hq]
  ·exact hV.more (fun q hq=>by simp [hq])
def LeX (S:PS) (x z:PX):Prop:=cB S z x=z
def iE (S:PS) (b:Bool) (x y:PX):PX:=if b then kL S y x else kL S x y
section
variable {S:PS} {b:Bool} {x y z u:PX}
theorem Ak (h:S.ok) (hx:OkX S x):LeX S x x:=pB h hx
theorem vA (hx:OkX S x):LeX S (bW S) x:=lY hx
theorem gB (h:S.ok) (hx:OkX S x) (hy:OkX S y) (hz:OkX S z) (h1:LeX S x y) (h2:LeX S y z):LeX S x z:=by
 unfold LeX at *
 rw [← h2,jJ h hz hy hx,h1]
theorem T8 (h:S.ok) (hx:OkX S x) (hy:OkX S y) (h1:LeX S x y) (h2:LeX S y x):x=y:=by
 unfold LeX at *
 rw [← h1,zB h hy hx,h2]
theorem Al (h:S.ok) (hx:OkX S x) (hy:OkX S y):LeX S x (cB S y x):=by
 unfold LeX;rw [jJ h hy hx hx,pB h hx]
theorem rY (h:S.ok) (hx:OkX S x) (hy:OkX S y):LeX S y (cB S y x):=by
 unfold LeX;rw [zB h hy hx,jJ h hx hy hy,pB h hy]
theorem T9 (h:S.ok) (hx:OkX S x) (hy:OkX S y) (hz:OkX S z) (h1:LeX S x z) (h2:LeX S y z):LeX S (cB S x y) z:=by
 unfold LeX at *
 rw [← jJ h hz hx hy,h1,h2]
theorem iC (h:S.ok) (hx:OkX S x) (hy:OkX S y):OkX S (iE S b x y):=by
 unfold iE;split
 ·exact xK h hy hx
 ·exact xK h hx hy
theorem oneD (h:S.ok) (hx:OkX S x):iE S b (oE S) x=x:=by
 unfold iE;cases b
 ·exact Sl h hx
 ·exact Sm h hx
theorem Ua (hx:OkX S x):iE S b (bW S) x=bW S:=by
 unfold iE;cases b
 ·exact O9 hx
 ·exact Pa hx
theorem Am (h:S.ok) (hx:OkX S x) (hy:OkX S y) (hz:OkX S z):iE S b (cB S x y) z=cB S (iE S b x z) (iE S b y z):=by
 unfold iE;cases b
 ·exact Pc h hx hy hz
 ·exact Pb h hz hx hy
theorem pM (h:S.ok) (hx:OkX S x) (hy:OkX S y) (hz:OkX S z) (h1:LeX S x y):LeX S (iE S b x z) (iE S b y z):=by
 unfold LeX at *
 rw [← Am h hy hx hz,h1]
end
inductive Fs (S:PS) (A:PX→Prop):PX→Prop
 | zero:Fs S A (bW S)
 | add {z x:PX}:Fs S A z→A x→Fs S A (cB S z x)
section
variable {S:PS} {b:Bool} {A A':PX→Prop} {x y z:PX}
theorem Fs.ok (h:S.ok) (hA:∀ x,A x→OkX S x) (hz:Fs S A z):OkX S z:=by
 induction hz with
 | zero=>exact mL
 | add _ h1 ih=>exact lK h ih (hA _ h1)
theorem Fs.mono (hA:∀ x,A x→A' x) (hz:Fs S A z):Fs S A' z:=by
 induction hz with
 | zero=>exact .zero
 | add _ h1 ih=>exact .add ih (hA _ h1)
theorem Fs.one (hx:A x) (ho:OkX S x):Fs S A x:=by
 have h:=Fs.add (S:=S) .zero hx
 rw [mM ho] at h;exact h
theorem Fs.plus (h:S.ok) (hA:∀ x,A x→OkX S x) (hy:Fs S A y) (hz:Fs S A z):Fs S A (cB S y z):=by
 have hyo:=hy.ok h hA
 induction hz with
 | zero=>rw [lY hyo];exact hy
 | add h0 h1 ih =>
  rw [← jJ h hyo (Fs.ok h hA h0) (hA _ h1)]
  exact .add ih h1
theorem Fs.extL (h:S.ok) (hA:∀ x,A x→OkX S x) (hy:OkX S y) (hz:Fs S A z) (hA':∀ x,A x→A' (iE S b x y)):Fs S A' (iE S b z y):=by
 induction hz with
 | zero=>rw [Ua hy];exact .zero
 | add h0 h1 ih =>
  rw [Am h (Fs.ok h hA h0) (hA _ h1) hy]
  exact .add ih (hA' _ h1)
theorem Fs.le (h:S.ok) (hA:∀ x,A x→OkX S x) (hy:OkX S y) (hz:Fs S A z) (hl:∀ x,A x→LeX S x y):LeX S z y:=by
 induction hz with
 | zero=>exact vA hy
 | add h0 h1 ih=>exact T9 h (Fs.ok h hA h0) (hA _ h1) hy ih (hl _ h1)
end
structure LubX (S:PS) (A:PX→Prop) (z:PX):Prop where
 sum:Fs S A z
 top:∀ x,A x→LeX S x z
section
variable {S:PS} {A A':PX→Prop} {z z':PX}
theorem LubX.uniq (h:S.ok) (hA:∀ x,A x→OkX S x) (h1:LubX S A z) (h2:LubX S A z'):z=z' :=
 T8 h (h1.sum.ok h hA) (h2.sum.ok h hA) (h1.sum.le h hA (h2.sum.ok h hA) h2.top) (h2.sum.le h hA (h1.sum.ok h hA) h1.top)
theorem LubX.of (hA:∀ x,A x↔A' x) (h1:LubX S A z):LubX S A' z:=⟨h1.sum.mono fun x hx=>(hA x).1 hx,fun x hx=>h1.top x ((hA x).2 hx)⟩
theorem LubX.none (hA:∀ x,¬ A x):LubX S A (bW S):=⟨.zero,fun x hx=>absurd hx (hA x)⟩
end
structure Eg where
 f:Nat
 g:Int
 t:Nat
 y:PX
inductive Pth (S:PS) (b:Bool) (E:List Eg) (p:Nat):List Int→Nat→PX→Prop
 | nil:Pth S b E p [] p (oE S)
 | eps {u:List Int} {q:Nat} {x:PX} {e:Eg}:Pth S b E p u q x→e∈E→e.f=q→e.g = -1→Pth S b E p u e.t (iE S b x e.y)
 | sym {u:List Int} {q:Nat} {x:PX} {e:Eg}:Pth S b E p u q x→e∈E→e.f=q→e.g ≠ -1→Pth S b E p (u++[e.g]) e.t (iE S b x e.y)
section
variable {S:PS} {b:Bool} {E E':List Eg} {p q:Nat} {u v:List Int} {x y:PX}
theorem Pth.ok (h:S.ok) (hE:∀ e∈E,OkX S e.y) (hp:Pth S b E p u q x):OkX S x:=by
 induction hp with
 | nil=>exact pA h
 | eps _ h1 _ _ ih=>exact iC h ih (hE _ h1)
 | sym _ h1 _ _ ih=>exact iC h ih (hE _ h1)
end
def tI (S:PS) (b:Bool) (E:List Eg) (F:List Nat) (p:Nat) (u:List Int) (x:PX):Prop:=∃ q∈F,Pth S b E p u q x
theorem Fc {S:PS} {b:Bool} {E:List Eg} {F:List Nat} {p:Nat} {u:List Int} (h:S.ok) (hE:∀ e∈E,OkX S e.y):∀ x,tI S b E F p u x→OkX S x:=fun x ⟨q,_,hp⟩=>hp.ok h hE
abbrev AtX (xs:List PX) (s:Nat) (x:PX):Prop:=xs[s]?=some x
structure Full (S:PS) (b:Bool) (E:List Eg) (p:Nat) (u:List Int) (xs:List PX):Prop where
 sum:∀ s x,AtX xs s x→Fs S (Pth S b E p u s) x
 top:∀ s x y,AtX xs s x→Pth S b E p u s y→LeX S y x
structure Eps (S:PS) (b:Bool) (E:List Eg) (xs ys:List PX):Prop where
 len:ys.length=xs.length
 up:∀ s x y,AtX xs s x→AtX ys s y→LeX S x y
 sum:∀ A:Nat→PX→Prop,(∀ s x,A s x→OkX S x)→(∀ e∈E,e.g = -1→∀ x,A e.f x→A e.t (iE S b x e.y))→(∀ s x,AtX xs s x→Fs S (A s) x)→∀ s y,AtX ys s y→Fs S (A s) y
def wD (S:PS) (b:Bool) (E:List Eg) (ys:List PX):Prop:=∀ e∈E,e.g = -1→∀ x y,AtX ys e.f x→AtX ys e.t y→LeX S (iE S b x e.y) y
section
variable {S:PS} {b:Bool} {E:List Eg} {p n:Nat} {u:List Int} {xs ys zs:List PX}
theorem Eps.refl (h:S.ok) (hx:∀ x∈xs,OkX S x):Eps S b E xs xs:=⟨rfl,fun s x y h1 h2=>by unfold AtX at h1 h2;rw [h1] at h2;cases h2;exact Ak h (hx x (List.mem_of_getElem? h1)),fun A _ _ h3=>h3⟩
theorem Eps.step (h:S.ok) (hx:∀ x∈xs,OkX S x) (hy:∀ x∈ys,OkX S x) (hE:∀ e∈E,OkX S e.y) (h1:Eps S b E xs ys) {e:Eg} (he:e∈E) (hg:e.g = -1) {x y:PX} (hxf:AtX ys e.f x) (hyt:AtX ys e.t y):Eps S b E xs (ys.set e.t (cB S y (iE S b x e.y))):=by
 have hxo:=hy x (List.mem_of_getElem? hxf)
 have hyo:=hy y (List.mem_of_getElem? hyt)
 have hlt:=(List.getElem?_eq_some_iff.1 hyt).1
 have hzo:=iC (b:=b) h hxo (hE e he)
 refine ⟨by rw [List.length_set];exact h1.len,fun s v z hv hz=>?_,fun A hA hc hs s z hz=>?_⟩
 ·rcases Nat.decEq s e.t with e1 | e1
  ·rw [AtX,List.getElem?_set_ne (Ne.symm e1)] at hz
   exact h1.up s v z hv hz
  ·subst e1
   rw [AtX,List.getElem?_set_self hlt] at hz
   cases hz
   have h2:=h1.up _ v y hv hyt
   exact gB h (hx v (List.mem_of_getElem? hv)) hyo (lK h hyo hzo) h2 (rY h hzo hyo)
 ·rcases Nat.decEq s e.t with e1 | e1
  ·rw [AtX,List.getElem?_set_ne (Ne.symm e1)] at hz
   exact h1.sum A hA hc hs s z hz
  ·subst e1
   rw [AtX,List.getElem?_set_self hlt] at hz
   cases hz
   exact Fs.plus h (hA _) (h1.sum A hA hc hs _ y hyt) (Fs.extL h (hA _) (hE e he) (h1.sum A hA hc hs _ x hxf) (fun v hv=>hc e he hg v hv))
theorem Ni (h:S.ok) (hE:∀ e∈E,OkX S e.y) (hyo:∀ x∈ys,OkX S x) (hn:ys.length=n) (hb:∀ e∈E,e.f < n∧e.t < n) (hc:wD S b E ys) (hs:∀ s x,AtX ys s x→Fs S (Pth S b E p u s) x)
  (hnil:u=[]→∀ x,AtX ys p x→LeX S (oE S) x) (hsym:∀ v q x (e:Eg),e∈E→e.f=q→e.g ≠ -1→u=v++[e.g]→Pth S b E p v q x→∀ z,AtX ys e.t z→LeX S (iE S b x e.y) z):Full S b E p u ys:=by
 refine ⟨hs,fun s x y hx hp=>?_⟩
 have key:∀ {v q y},Pth S b E p v q y→v=u→∀ x,AtX ys q x→LeX S y x:=by
  intro v q y hp
  induction hp with
  | nil=>intro hv x hx;exact hnil hv.symm x hx
  | @eps v q y e h0 h1 h2 h3 ih =>
   intro hv x hx
   subst hv
   have hlt:e.f < ys.length:=by rw [hn];exact (hb e h1).1
   have hxf:AtX ys e.f ys[e.f]:=List.getElem?_eq_getElem hlt
   have h4:=ih rfl ys[e.f] (by unfold AtX;rw [← h2];exact hxf)
   have ho:=hyo _ (List.getElem_mem hlt)
   exact gB h (iC h (h0.ok h hE) (hE e h1)) (iC h ho (hE e h1)) (hyo x (List.mem_of_getElem? hx)) (pM h (h0.ok h hE) ho (hE e h1) h4) (hc e h1 h3 _ x hxf hx)
  | @sym v q y e h0 h1 h2 h3 ih =>
   intro hv x hx
   exact hsym v q y e h1 h2 h3 hv.symm h0 x hx
 exact key hp rfl x hx
end
def Wt (S:PS) (b:Bool) (E:List Eg) (ys:List PX) (ws:List Nat) (dn:Eg→Prop):Prop:=∀ e∈E,e.g = -1→e.f∉ws→dn e→∀ x y,AtX ys e.f x→AtX ys e.t y→LeX S (iE S b x e.y) y
section
variable {S:PS} {b:Bool} {E:List Eg} {ys:List PX} {ws ws':List Nat} {dn dn':Eg→Prop}
theorem Wt.start (hy:∀ x∈ys,OkX S x) (hE:∀ e∈E,OkX S e.y) (hw:∀ i x,AtX ys i x→i∉ws→x=bW S):Wt S b E ys ws (fun _=>True):=fun e he _ hf _ x y hx hz=>by
 rw [hw _ _ hx hf,Ua (hE e he)]
 exact vA (hy y (List.mem_of_getElem? hz))
theorem Wt.weaken (h:Wt S b E ys ws dn) (hd:∀ e,e.f∉ws'→dn' e→e.f∉ws∧dn e):Wt S b E ys ws' dn':=fun e he hg hf hd'=>h e he hg (hd e hf hd').1 (hd e hf hd').2
theorem Wt.closed (h:Wt S b E ys [] (fun _=>True)):wD S b E ys:=fun e he hg=>h e he hg (by simp) trivial
theorem set_atX {x:PX} {s:Nat} (h:AtX ys s x):ys.set s x=ys:=by
 apply List.ext_getElem?
 intro i
 rcases Nat.decEq i s with e | rfl
 ·rw [List.getElem?_set_ne (Ne.symm e)]
 ·rw [List.getElem?_set_self (List.getElem?_eq_some_iff.1 h).1];exact h.symm
theorem Wt.put (hS:S.ok) (hy:∀ x∈ys,OkX S x) (hE:∀ e∈E,OkX S e.y) (h:Wt S b E ys ws dn) {e:Eg} (he:e∈E) {x y:PX} (hx:AtX ys e.f x) (hyt:AtX ys e.t y) (hws:∀ i∈ws,i∈ws') (hin:cB S y (iE S b x e.y)≠y→e.t∈ws') :
  Wt S b E (ys.set e.t (cB S y (iE S b x e.y))) ws' (fun e'=>dn e'∨e'=e):=fun e' he' hg hf hd x' y' hx' hy'=>by
 have hxo:=hy x (List.mem_of_getElem? hx)
 have hyo:=hy y (List.mem_of_getElem? hyt)
 have hzo:=iC (b:=b) hS hxo (hE e he)
 have hlt:=(List.getElem?_eq_some_iff.1 hyt).1
 have hf0:e'.f∉ws:=fun h1=>hf (hws _ h1)
 by_cases c:cB S y (iE S b x e.y)=y
 ·rw [c,set_atX hyt] at hx' hy'
  rcases hd with hd | rfl
  ·exact h e' he' hg hf0 hd x' y' hx' hy'
  ·unfold AtX at hx hyt hx' hy'
   rw [hx] at hx';rw [hyt] at hy'
   cases hx';cases hy'
   exact c
 ·have hne:e'.f≠e.t:=fun h1=>hf (by rw [h1];exact hin c)
  unfold AtX at hx'
  rw [List.getElem?_set_ne (Ne.symm hne)] at hx'
  rcases hd with hd | rfl
  ·rcases Nat.decEq e'.t e.t with e1 | e1
   ·unfold AtX at hy'
    rw [List.getElem?_set_ne (Ne.symm e1)] at hy'
    exact h e' he' hg hf0 hd x' y' hx' hy'
   ·unfold AtX at hy'
    rw [e1,List.getElem?_set_self hlt] at hy'
    cases hy'
    exact gB hS (iC hS (hy x' (List.mem_of_getElem? hx')) (hE e' he')) hyo (lK hS hyo hzo) (h e' he' hg hf0 hd x' y hx' (by rw [e1];exact hyt)) (rY hS hzo hyo)
  ·unfold AtX at hx hy'
   rw [hx] at hx';cases hx'
   rw [List.getElem?_set_self hlt] at hy'
   cases hy'
   exact Al hS hzo hyo
end
def oM (S:PS) (ys:List PX):Nat:=(ys.map (fun x=>(Hi S).toNat - rkX S x)).sum
theorem Il {S:PS} (hS:S.ok) {x y:PX} (hx:OkX S x) (hy:OkX S y) (hne:cB S x y≠x):∀ {ys:List PX} {s:Nat},ys[s]?=some x→oM S (ys.set s (cB S x y)) < oM S ys
 | [],s,h=>by simp at h
 | z::ys,0,h=>by
  simp at h;subst h
  have h1:=(rkX_up hS hx hy).resolve_left hne
  have h2:=rkX_le hS (lK hS hx hy)
  simp only [oM,List.set_cons_zero,List.map_cons,List.sum_cons]
  omega
 | z::ys,s+1,h=>by
  have ih:=Il hS hx hy hne (ys:=ys) (s:=s) (by simpa using h)
  simp only [oM,List.set_cons_succ,List.map_cons,List.sum_cons] at ih ⊢
  omega
theorem Nj {S:PS}:∀ (ys:List PX),oM S ys≤ys.length * (Hi S).toNat
 | []=>by simp [oM]
 | z::ys=>by
  have ih:=Nj (S:=S) ys
  simp only [oM,List.map_cons,List.sum_cons,List.length_cons,Nat.succ_mul] at ih ⊢
  omega
end Go.Proofs.YtmgnkpibpjgncaaGreatDoor
namespace Go.Proofs.YtmgnkpibpjgncaaGreatDoor
open Go.Proofs.Tryz
open Go Go.RowKit
open Go.Maps
theorem St.setMap {w0 W W':World} {O:Own} {G:cU} {K:List (Nat×World)} {b:Nat} (h:St w0 O G K W) (hm:W.mapTurned W' b) (hwb:w0.heap.size≤b) (hK:∀ q∈K,b < q.1∨q.2.heap.size≤b):St w0 O G K W':=by
 have hg:=hm.grown
 obtain ⟨es,clock,_,_,hb,_⟩:=hm
 have ne:∀ (k:Nat) (cs:Array Value) (T:TypeId),W.heap[k]?=some (.cells cs T (0,0))→k≠b:=fun k cs T hk e=>by
  subst e
  rw [hb] at hk;cases hk
 have blk:∀ k,k < W.heap.size→k≠b→W'.heap[k]?=W.heap[k]?:=fun k hk hne=>hg.block _ hk (fun e=>hne (Option.some.inj e))
 refine ⟨h.below.grown hg h.below.size (fun k hk=>by cases hk;exact hwb),fun p hp=>?_,h.dist,fun q hq=>⟨⟨Nat.le_trans (h.kept q hq).1.1 hg.size,fun k h1 h2=>?_⟩,(h.kept q hq).2⟩,fun g hg'=>⟨dI (h.rows g hg').1 fun k hk=>?_,(h.rows g hg').2⟩,h.gdist⟩
 ·obtain ⟨h1,h2⟩:=h.own p hp
  exact ⟨h1,(blk _ (bV h2) (ne _ _ _ h2)).trans h2⟩
 ·refine (blk k (Nat.lt_of_lt_of_le h2 (h.kept q hq).1.1) ?_).trans ((h.kept q hq).1.2 k h1 h2)
  rcases hK q hq with h3 | h3<;>omega
 ·exact blk k (((h.rows g hg').1.lt k hk).2) (lM (h.rows g hg').1 hb hk)
section
variable {n:Nat} {ops:Array Oper} {Q:Exit→Act→World→Prop} {l:Fr} {w0 W:World} {O:Own} {G:cU} {K:List (Nat×World)} {os:List Oper} {d b m:Nat} {ty:TypeId} {pos:String} {aft:Array Edge} {x y z:Operand} {ks:List (Int×List Int)} {k:Int×List Int}
end
theorem St.permG {w0 W:World} {O:Own} {G G':cU} {K:List (Nat×World)} (h:St w0 O G K W) (hp:G.Perm G'):St w0 O G' K W where
 below:=h.below
 own:=h.own
 dist:=h.dist
 kept:=h.kept
 rows:=fun g hg=>h.rows g (hp.mem_iff.2 hg)
 gdist:=(hp.pairwise_iff (fun {x y} (h:Value.apart x.v y.v) b hb hc=>h b hc hb)).1 h.gdist
theorem vC:Go.Maps.Keyed prog 3:=int_keyed underlying3
theorem Fd {x:Nat} (h:x≤1000000):keyOf prog 3 (.int .i64 (x:Int))=some (.int .i64 (x:Int)):=by
 refine keyOf_int_mk underlying3 ?_
 have e1:IntKind.i64.min = -9223372036854775808:=rfl
 have e2:IntKind.i64.max=9223372036854775807:=rfl
 simp [Lit.wf]
 omega
def jB (b n:Nat) (ks:List Nat) (W:World):Prop:=∃ D:DataW Unit,W.ownsMap prog 3 unitElem b n D∧∀ x:Nat,x≤1000000→Maps.has D (.int .i64 (x:Int))=decide (x∈ks)
theorem jB.same {b n:Nat} {ks:List Nat} {W W':World} (h:jB b n ks W) (he:b < W.heap.size→W'.heap[b]?=W.heap[b]?):jB b n ks W':=by
 obtain ⟨D,⟨es,clock,h1,h2⟩,h3⟩:=h
 exact ⟨D,⟨es,clock,(he (bV h1)).trans h1,h2⟩,h3⟩
theorem jB.lt {b n:Nat} {ks:List Nat} {W:World} (h:jB b n ks W):b < W.heap.size:=by
 obtain ⟨D,⟨es,clock,h1,h2⟩,h3⟩:=h
 exact bV h1
theorem jB.fresh (W:World):jB W.heap.size 0 [] (W.alloc (.map #[] 0)) :=
 ⟨.map [],World.ownsMap_made W _ _ _,fun x _=>by simp [Maps.has,DataW.atKey]⟩
theorem jB.made {W:World} {b:Nat} (hb:W.heap[b]?=some (.map #[] 0)):jB b 0 [] W:=by
 obtain ⟨D,⟨es,clock,h1,h2⟩,h3⟩:=jB.fresh W
 have h4:=(heap_alloc_new W (.map #[] 0)).symm.trans h1
 injection h4 with h4
 injection h4 with h5 h6
 subst h5;subst h6
 exact ⟨D,⟨_,_,hb,h2⟩,h3⟩
theorem jB.look {b n:Nat} {ks:List Nat} {W:World} (h:jB b n ks W) {x:Nat} (hx:x≤1000000) (hz:∀ w,(zeroValue 141).run prog w = .ok (.agg #[]) w):(Instr.lookup 140 (.map (some b)) (.int .i64 (x:Int)) true).run prog W = .ok (.tuple #[.agg #[],.bool (decide (x∈ks))]) W:=by
 obtain ⟨D,h1,h2⟩:=h
 obtain ⟨v,ps,h3,h4⟩:=h1.look_ok vC underlying140 (hz W) unitElem_mk (Fd hx)
 obtain ⟨rfl,_⟩:=unitElem_inv h4
 rw [h3,h2 x hx]
theorem Ub {x y:Nat} (h:y≠x):(Lit.int .i64 (y:Int))≠.int .i64 (x:Int):=fun e=>by
 injection e with e1 e2
 exact h (Int.ofNat.inj e2)
theorem jB.put {b n:Nat} {ks:List Nat} {W:World} (h:jB b n ks W) {x:Nat} (hx:x≤1000000) (hn:n < maxLen):∃ w',(Instr.mapUpdate 140 (.map (some b)) (.int .i64 (x:Int)) (.agg #[])).run prog W = .ok () w'∧jB b (n+1) (x::ks) w'∧W.mapTurned w' b:=by
 obtain ⟨D,h1,h2⟩:=h
 obtain ⟨w',h3,h4,h5⟩:=h1.store vC underlying140 hn (Fd hx) unitElem_mk
 refine ⟨w',h3,⟨_,h4,fun y hy=>?_⟩,h5⟩
 by_cases e:y=x
 ·subst e
  rw [has_put_same h1.isMap (vC.key (Fd hy))]
  simp
 ·rw [has_put_other (Ub e),h2 y hy]
  simp [e]
theorem jB.drop {b n:Nat} {ks:List Nat} {W:World} (h:jB b n ks W) {x:Nat} (hx:x≤1000000) (ty:TypeId):∃ w',(Builtin.delete_ #[140,3] ty #[.map (some b),.int .i64 (x:Int)]).run prog W = .ok (.tuple #[]) w'∧jB b n (ks.filter (· ≠ x)) w'∧W.mapTurned w' b:=by
 obtain ⟨D,h1,h2⟩:=h
 obtain ⟨w',h3,h4,h5⟩:=h1.drop vC underlying140 (Fd hx) ty
 refine ⟨w',h3,⟨_,h4,fun y hy=>?_⟩,h5⟩
 by_cases e:y=x
 ·subst e
  rw [has_del_same]
  simp
 ·rw [has_del_other (Ub e),h2 y hy]
  simp [e]
section
variable {n:Nat} {ops:Array Oper} {Q:Exit→Act→World→Prop} {l:Fr} {w0 W:World} {O:Own} {G:cU} {K:List (Nat×World)} {os:List Oper} {d b m:Nat} {ty:TypeId} {pos:String} {aft:Array Edge} {x y z:Operand} {ks:List Nat} {k:Nat}
theorem Im (hM:jB b m ks W) (hk:k≤1000000) (hz:∀ w,(zeroValue 141).run prog w = .ok (.agg #[]) w) (hx:evL l x=some (.map (some b))) (hy:evL l y=some (.int .i64 (k:Int))) (hd:Nat.blt d n=true)
  (h:cR prog n ops Q os ((d,.tuple #[.agg #[],.bool (decide (k∈ks))])::l) W):cR prog n ops Q (⟨some d,.lookup 140 x y true,ty,pos,aft,none⟩::os) l W :=
 opV (fun ev he=>by
  unfold execOp;simp only [];rw [he x _ hx,he y _ hy]
  simp [hM.look hk hz,Result.andThen]) hd h
theorem An (hS:St w0 O G K W) (hM:jB b m ks W) (hk:k≤1000000) (hm:m < maxLen) (hwb:w0.heap.size≤b) (hK:∀ q∈K,b < q.1∨q.2.heap.size≤b) (hx:evL l x=some (.map (some b))) (hy:evL l y=some (.int .i64 (k:Int))) (hz:evL l z=some (.agg #[]))
  (h:∀ W',St w0 O G K W'→jB b (m+1) (k::ks) W'→cR prog n ops Q os l W'):cR prog n ops Q (⟨none,.mapUpdate 140 x y z,ty,pos,aft,none⟩::os) l W:=fun a ha=>by
 obtain ⟨W',h1,h2,h3⟩:=hM.put hk hm
 refine wpList_plain rfl fun K' hK'=>?_
 unfold Oper.wp execOp
 simp only []
 rw [ha.ev x _ hx,ha.ev y _ hy,ha.ev z _ hz]
 simp only [Sem.run_bind,h1,Result.andThen_ok,Sem.run_pure,Oper.upon_skip]
 exact hK' _ _ (h W' (hS.setMap h3 hwb hK) h2 a ha)
theorem In (hS:St w0 O G K W) (hM:jB b m ks W) (hk:k≤1000000) (hwb:w0.heap.size≤b) (hK:∀ q∈K,b < q.1∨q.2.heap.size≤b) (hx:evL l x=some (.map (some b))) (hy:evL l y=some (.int .i64 (k:Int)))
  (h:∀ W',St w0 O G K W'→jB b m (ks.filter (· ≠ k)) W'→cR prog n ops Q os l W'):cR prog n ops Q (⟨none,.call { callee:=.builtin .delete,args:=#[x,y],argTypes:=#[140,3] },ty,pos,aft,none⟩::os) l W:=fun a ha=>by
 obtain ⟨W',h1,h2,h3⟩:=hM.drop hk ty
 refine wpList_plain rfl fun K' hK'=>?_
 unfold Oper.wp
 simp [execOp,resolve,invoke,builtin,ha.ev x _ hx,ha.ev y _ hy,h1,Result.andThen]
 exact hK' _ _ (h W' (hS.setMap h3 hwb hK) h2 a ha)
theorem Io {T kT eT:TypeId} {h9:Int} (hS:St w0 O G K W) (hT:prog.underlying T=some (.map kT eT)) (hy:evL l y=some (.int .i64 h9)) (hd:Nat.blt d n=true) (h:∀ B W',W'.heap[B]?=some (.map #[] 0)→W.heap.size≤B→St w0 O G ((W.heap.size,W')::K) W'→cR prog n ops Q os ((d,.map (some B))::l) W'):cR prog n ops Q (⟨some d,.makeMap T (some y),ty,pos,aft,none⟩::os) l W :=
 opV (W':=W.alloc (.map #[] 0)) (v:=.map (some W.heap.size)) (fun ev he=>by
  unfold execOp
  simp [he y _ hy,Instr.makeMap,run_underlying hT,asInt,asIntOf,Result.andThen]) hd (h _ _ (heap_alloc_new W _) (Nat.le_refl _) (hS.call ((Below.refl _ _).alloc (Nat.le_refl _) _)))
end
end Go.Proofs.YtmgnkpibpjgncaaGreatDoor
namespace Go.Proofs.YtmgnkpibpjgncaaGreatDoor
open Go.Proofs.Tryz
open Go Go.RowKit
def Qv (k:Nat) (g:GR) (q:Value):Prop:=k≤g.n∧∃ a c ad,g.v = .slice a g.n c∧q = .slice ad (g.n - k) (c - k)∧(c≠k→ad=a.map (·.add (k * 1)))
theorem Qv.start {w:World} {base:Nat} {g:GR} (h:w.ownsRow base g.e g.size g.v g.n g.xs):Qv 0 g g.v:=by
 obtain ⟨a,c,e,_⟩:=gP h
 refine ⟨Nat.zero_le _,a,c,a,e,by rw [e];rfl,fun _=>?_⟩
 cases a with
 | none=>rfl
 | some p=>simp [Addr.add]
theorem Qv.len {k:Nat} {g:GR} {q:Value} (h:Qv k g q):∃ ad c,q = .slice ad (g.n - k) c:=by
 obtain ⟨_,a,c,ad,_,h2,_⟩:=h
 exact ⟨ad,_,h2⟩
theorem Qv.next {k:Nat} {g:GR} {a9 ad:Option Addr} {m c9:Nat} (h:Qv k g (.slice a9 m c9)) (hk:k < g.n) (hmc:m≤c9) (hE:c9=1→ad=a9) (hN:c9≠1→ad=a9.map (·.add (1 * 1))):Qv (k+1) g (.slice ad (m - 1) (c9 - 1)):=by
 obtain ⟨h0,a,c,ad0,h1,h2,h3⟩:=h
 injection h2 with h5 h6 h7
 subst h5;subst h6;subst h7
 refine ⟨hk,a,c,ad,h1,by rw [Nat.sub_sub,Nat.sub_sub],fun hc=>?_⟩
 have h8:c≠k:=by omega
 rw [hN (by omega),h3 h8]
 cases a with
 | none=>rfl
 | some p=>by_cases hk0:k=0<;>simp [Addr.add,hk0]<;>omega
theorem Qv.cell {w:World} {base k:Nat} {g:GR} {q:Value} {x:Value} (h:Qv k g q) (hs:g.size=1) (ho:w.ownsRow base g.e g.size g.v g.n g.xs) (hx:g.xs[k]?=some x):∃ b c,q = .slice (some ⟨b,k * 1,none⟩) (g.n - k) c∧w.cell? ⟨b,k * 1+0 * 1,none⟩=some x:=by
 obtain ⟨h0,a,c,ad,h1,h2,h3⟩:=h
 have hl:=ho.1
 rw [hs,Nat.mul_one] at hl
 have hlt:=(List.getElem?_eq_some_iff.1 hx).1
 rw [h1] at ho
 rcases ho.2 with ⟨e1,e2⟩ | ⟨b,cap,cur,e1,hb,hh,hn,_⟩
 ·omega
 ·injection e1 with e1 _ e3
  subst e1;subst e3
  refine ⟨b,c - k,by rw [h2,h3 (by omega)];simp [Addr.add_lit],?_⟩
  have h9:=ho.cells (g:=b) rfl k x hx
  simpa [Addr.add_lit] using h9
theorem Uc {P:Program} {w:World} {base:Nat} {t ty e:TypeId} {i:TypeInfo} {z:Value} (ht:P.underlying t=some (.slice e)) (hi:P.info? e=some i) (hz:i.zero=some z) (hzs:z.cells.size=i.size) (hsz:i.size=1)
  {v q:Value} {n k:Nat} {xs:List Value} (hown:w.ownsRow base e 1 v n xs) (hq:Qv k ⟨v,n,xs,e,1⟩ q) {B:Nat} {x:Value} (hB:w.heap[B]?=some (.cells #[x] e (0,0))) (h1:x.oneCell'=true) (h63:n+1≤maxLen) (hbytes:(n+1) * i.bytes≤140737488355328) (hbase:base≤w.heap.size) :
  ∃ q' v' n' k' xs' w',(Builtin.append_ #[t,t] ty #[q,.slice (some ⟨B,0,none⟩) 1 1]).run P w = .ok q' w'∧w'.ownsRow base e 1 v' n' xs'∧w.grownBy w' v.ownBlock∧(v'.ownBlock=v.ownBlock∨v'.ownBlock=some w.heap.size)∧Qv k' ⟨v',n',xs',e,1⟩ q'∧xs'.drop k'=xs.drop k++[x]∧n' - k'=n - k+1∧n'≤n+1:=by
 have hcB:∀ (j:Nat) u,[x][j]?=some u→w.cell? ((⟨B,0,none⟩:Addr).add j)=some u:=fun j u hj=>by
  rw [Addr.add_lit,Nat.zero_add]
  simp only [World.cell?,hB]
  simpa using hj
 have hone:∀ u∈[x],u.oneCell'=true:=fun u hu=>by simp at hu;subst hu;exact h1
 have hl9:[x].length=1 * i.size:=by rw [hsz];rfl
 have hsrc:Src P i.size t (.slice (some ⟨B,0,none⟩) 1 1) 1 [x] w:=Src.ofSlice w ht ⟨B,0,none⟩ 1 1 [x] hl9 hcB hone
 obtain ⟨h0,a,c,ad,hv,hqv,h3⟩:=hq
 dsimp only at h0 hv hqv
 have hown':=hown
 rw [← hsz] at hown'
 obtain ⟨v1,w1,hr1,o1,g1,b1⟩:=lD (P:=P) (w:=w) base t ty e i z ht hi hz hzs (by omega) v n xs hown' ⟨B,0,none⟩ 1 1 [x] hl9 hcB hone h63 hbytes hbase
 rw [hsz] at o1
 have hlen:=hown.1
 rw [Nat.mul_one] at hlen
 have hnc:n≤c:=by
  obtain ⟨a2,c2,e2,h9⟩:=gP hown
  rw [hv] at e2
  injection e2 with _ _ e3
  rw [e3];exact h9
 by_cases hroom:n+1≤c
 ·-- there is room: the row itself grows in place
  have hown2:=hown.2
  rw [hv] at hown2
  rcases hown2 with ⟨e1,_⟩ | ⟨b,cap,cur,e1,hb,hh,hn,hm,hcs,htk⟩
  ·injection e1 with _ _ e3;omega
  ·injection e1 with e1 _ e3
   subst e1;subst e3
   rw [Nat.mul_one] at hcs
   have had:=h3 (by omega)
   simp [Addr.add_lit] at had
   subst had
   have hsome:∀ j,j < [x].length→(w.cell? ⟨b,0+n * i.size+j,none⟩).isSome=true:=fun j hj=>by
    have hj0:j=0:=by simpa using hj
    subst hj0
    simp only [World.cell?,hh,hsz]
    have:n < cur.size:=by omega
    simp [this]
   have hfroz:∀ j,j < [x].length→w.frozen? ⟨b,0+n * i.size+j,none⟩=false:=fun j _=>by
    simp [World.frozen?,hh]
   have rb:=run_append_room_src (P:=P) w t t ty e i ht hi b 0 n c (.slice (some ⟨B,0,none⟩) 1 1) 1 [x] hsrc hroom hsome hfroz
   have e9:k+(n - k) * i.size=0+n * i.size:=by rw [hsz];omega
   have rq:=run_append_room_src (P:=P) w t t ty e i ht hi b k (n - k) (c - k) (.slice (some ⟨B,0,none⟩) 1 1) 1 [x] hsrc (by omega) (fun j hj=>by rw [e9];exact hsome j hj) (fun j hj=>by rw [e9];exact hfroz j hj)
   rw [e9] at rq
   rw [hv] at hr1
   rw [hr1] at rb
   simp only [Result.ok.injEq] at rb
   obtain ⟨rfl,rfl⟩:=rb
   refine ⟨_,_,n+1,k,xs++[x],_,by rw [hqv];exact rq,o1,g1,b1,⟨by dsimp only;omega,some ⟨b,0,none⟩,c,some ⟨b,k,none⟩,rfl,by dsimp only;rw [show n - k+1=n+1 - k by omega],fun _=>by simp [Addr.add_lit]⟩,by rw [List.drop_append_of_le_length (by omega)],by omega,Nat.le_refl _⟩
 ·-- a new row
  have hcn:c=n:=by omega
  subst hcn
  have hge:=grownCap_ge w (c - k+1) (c - k) e
  have hcm:=grownCap_le_maxLen w (c - k+1) (c - k) e (by omega)
  have hold:(Builtin.firstCells i.size (c - k) (.slice ad (c - k) (c - k))).run P w.drew = .ok (xs.drop k).toArray w.drew:=by
   have hown2:=hown.2
   rw [hv] at hown2
   rcases hown2 with ⟨e1,e2⟩ | ⟨b,cap,cur,e1,hb,hh,hn,hm,hcs,htk⟩
   ·have:xs=[]:=List.eq_nil_of_length_eq_zero (by omega)
    subst this
    have e3:c - k=0:=by omega
    rw [e3]
    cases ad with
    | none=>simpa using run_firstCells_none (P:=P) w.drew i.size 0 0 0
    | some p=>simpa using run_firstCells_some (P:=P) w.drew i.size 0 p 0 0 [] (by simp) (by simp)
   ·injection e1 with e1 _ e3
    subst e1
    rcases Nat.lt_or_ge k c with hkc | hkc
    ·have had:=h3 (by omega)
     simp [Addr.add_lit] at had
     subst had
     refine run_firstCells_some (P:=P) w.drew i.size (c - k) ⟨b,k,none⟩ (c - k) (c - k) (xs.drop k) (by rw [List.length_drop,hsz];omega) (fun j u hj=>?_)
     rw [List.getElem?_drop] at hj
     have h9:=(show w.ownsRow base e 1 (.slice (some ⟨b,0,none⟩) c c) c xs from hv▸hown).cells (g:=b) rfl (k+j) u hj
     rw [Addr.add_lit] at h9 ⊢
     simpa using h9
    ·have e4:c - k=0:=by omega
     rw [e4,List.drop_eq_nil_of_le (by omega)]
     cases ad with
     | none=>simpa using run_firstCells_none (P:=P) w.drew i.size 0 0 0
     | some p=>simpa using run_firstCells_some (P:=P) w.drew i.size 0 p 0 0 [] (by simp) (by simp)
  have rq:=run_append_grow_src (P:=P) w t t ty e i z ht hi hz ad (c - k) (c - k) (xs.drop k) hold (.slice (some ⟨B,0,none⟩) 1 1) 1 [x] hsrc (by omega) (by simp only [maxLen] at h63;omega) (growslice_fits (by omega) (Nat.le_trans (Nat.mul_le_mul_right _ (by omega)) hbytes))
  refine ⟨_,.slice (some ⟨w.heap.size,0,none⟩) (c - k+1) (grownCap w (c - k+1) (c - k) e),c - k+1,0,xs.drop k++[x],_,by rw [hqv];exact rq,⟨by rw [List.length_append,List.length_drop];simp;omega,.inr ⟨w.heap.size,_,_,rfl,hbase,heap_alloc_new w.drew _,hge,hcm,?_,?_⟩⟩,⟨rfl,rfl,rfl,by simp,fun j hj _=>heap_alloc_old w.drew _ hj⟩,.inr rfl,⟨Nat.zero_le _,_,_,_,rfl,rfl,fun _=>by simp [Addr.add_lit]⟩,by simp,by omega,by omega⟩
  ·rw [Array.size_append,List.size_toArray,List.length_append,List.length_drop,size_zeroCells,hzs,hsz]
   simp only [List.length_cons,List.length_nil]
   omega
  ·rw [Array.toList_append,List.toList_toArray,Nat.mul_one]
   refine List.take_left' ?_
   rw [List.length_append,List.length_drop]
   simp;omega
section
variable {P:Program} {n:Nat} {Q:Exit→Act→World→Prop} {l:Fr} {w0 W:World} {ops:Array Oper} {os:List Oper} {O:Own} {G:cU} {K:List (Nat×World)} {d:Nat} {ty:TypeId} {pos:String} {aft:Array Edge}
theorem Le {t e:TypeId} {x y:Operand} {gi k m:Nat} {v q u:Value} {xs:List Value} {B:Nat} {inf:TypeInfo} {z:Value} (hS:St w0 O G K W) (hU:P.underlying t=some (.slice e)) (hinf:P.info? e=some inf) (hz:inf.zero=some z) (hzs:z.cells.size=inf.size) (hsz:inf.size=1)
  (hi:G[gi]?=some ⟨v,m,xs,e,1⟩) (hq:Qv k ⟨v,m,xs,e,1⟩ q) (hx:evL l x=some q) (hy:evL l y=some (.slice (some ⟨B,0,none⟩) 1 1)) (hB:W.heap[B]?=some (.cells #[u] e (0,0))) (h1:u.oneCell'=true)
  (h63:m+1≤maxLen) (hbytes:(m+1) * inf.bytes≤140737488355328) (hd:Nat.blt d n=true)
  (h:∀ q' v' m' k' xs' W',St w0 O (G.set gi ⟨v',m',xs',e,1⟩) K W'→Qv k' ⟨v',m',xs',e,1⟩ q'→xs'.drop k'=xs.drop k++[u]→m' - k'=m - k+1→m'≤m+1→cR P n ops Q os ((d,q')::l) W') :
  cR P n ops Q (⟨some d,.call { callee:=.builtin .append,args:=#[x,y],argTypes:=#[t,t] },ty,pos,aft,none⟩::os) l W:=by
 have hrow:=hS.row gi hi
 obtain ⟨q',v',m',k',xs',W',hr,h2,h3,h4,h5,h6,h7,h8⟩:=Uc (P:=P) (w:=W) (t:=t) (ty:=ty) hU hinf hz hzs hsz hrow hq hB h1 h63 hbytes hS.below.size
 refine opV (W':=W') (v:=q') (fun ev hev=>?_) hd (h q' v' m' k' xs' W' (hS.setG gi hi h2 h3 h4) h5 h6 h7 h8)
 unfold execOp
 simp only [resolve,invoke,builtin,Sem.run_bind,Sem.run_pure,Result.andThen_ok,List.map_toArray,List.map_cons,List.map_nil,hev x _ hx,hev y _ hy,hr]
end
theorem row_src {w:World} {base n:Nat} {e:TypeId} {a:Option Addr} {c:Nat} {xs:List Value} (h:w.ownsRow base e 1 (.slice a n c) n xs):(a=none∧n=0)∨∃ p,a=some p∧∀ (j:Nat) u,xs[j]?=some u→w.cell? (p.add j)=some u:=by
 rcases slNil h with ⟨h1,h2,_⟩ | ⟨b,h1⟩
 ·exact .inl ⟨h1,h2⟩
 ·refine .inr ⟨_,h1,fun j u hj=>?_⟩
  obtain ⟨b',h2,h3⟩:=jM h hj
  rw [h1] at h2
  cases h2
  rw [Addr.add_lit]
  simpa using h3
def egX (kf:TV→Int×Int) (py:TV→PX) (t:TV):Eg:=⟨(kf t).1.toNat,(kf t).2,t.t.toNat,py t⟩
abbrev egsX (kf:TV→Int×Int) (py:TV→PX) (ts:List TV):List Eg:=ts.map (egX kf py)
def dnX (kf:TV→Int×Int) (py:TV→PX) (ts:List TV) (s:Nat) (js:List Int):Eg→Prop:=fun e=>e.f≠s∨∃ (j:Nat) (t:TV),(j:Int)∈js∧ts[j]?=some t∧e=egX kf py t
theorem dnX_all {kf:TV→Int×Int} {py:TV→PX} {ts:List TV} {s:Nat} (hkf:∀ t∈ts,∃ i:Nat,(kf t).1=(i:Int)) {e:Eg} (he:e∈egsX kf py ts) (hg:e.g = -1):dnX kf py ts s (byT kf ts 0 ((s:Int),-1)) e:=by
 obtain ⟨t,ht,rfl⟩:=List.mem_map.1 he
 rcases Nat.decEq (egX kf py t).f s with h | h
 ·exact .inl h
 ·obtain ⟨m,hm⟩:=List.getElem?_of_mem ht
  refine .inr ⟨m,t,rX.2 ⟨m,t,by rw [Nat.zero_add],hm,?_⟩,hm,rfl⟩
  obtain ⟨i,hi⟩:=hkf t ht
  have h1:(kf t).1.toNat=s:=h
  have h2:(kf t).2 = -1:=hg
  rw [hi,Int.toNat_natCast] at h1
  subst h1
  exact Prod.ext hi.symm h2.symm
theorem Ao {kf:TV→Int×Int} {py:TV→PX} {ts:List TV} {s j tj:Nat} {js:List Int} {t:TV} (h:js[j]?=some (tj:Int)) (ht:ts[tj]?=some t) (e:Eg) (hd:dnX kf py ts s (js.take (j+1)) e):dnX kf py ts s (js.take j) e∨e=egX kf py t:=by
 rcases hd with hd | ⟨m,t9,h1,h2,h3⟩
 ·exact .inl (.inl hd)
 ·rw [List.take_add_one,h] at h1
  rcases List.mem_append.1 h1 with h1 | h1
  ·exact .inl (.inr ⟨m,t9,h1,h2,h3⟩)
  ·have h4:(m:Int)=(tj:Int):=by simpa using h1
   have h5:m=tj:=by omega
   subst h5
   rw [ht] at h2;cases h2
   exact .inr h3
theorem Wt.pop {S:PS} {b:Bool} {kf:TV→Int×Int} {py:TV→PX} {ts:List TV} {ys:List PX} {ws:List Nat} {s:Nat} (h:Wt S b (egsX kf py ts) ys (s::ws) (fun _=>True)):Wt S b (egsX kf py ts) ys ws (dnX kf py ts s []):=h.weaken fun e hf hd=>by
 refine ⟨fun h1=>?_,trivial⟩
 rcases hd with hd | ⟨m,t,h2,_⟩
 ·rcases List.mem_cons.1 h1 with h3 | h3
  ·exact hd h3
  ·exact hf h3
 ·cases h2
theorem Wt.done {S:PS} {b:Bool} {kf:TV→Int×Int} {py:TV→PX} {ts:List TV} {ys:List PX} {ws:List Nat} {s:Nat} (hkf:∀ t∈ts,∃ i:Nat,(kf t).1=(i:Int)) (h:Wt S b (egsX kf py ts) ys ws (dnX kf py ts s (byT kf ts 0 ((s:Int),-1)))):Wt S b (egsX kf py ts) ys ws (fun _=>True):=fun e he hg hf _=>h e he hg hf (dnX_all hkf he hg)
theorem Nk:prog.built 141 []=some #[]:=by kernel_rfl
theorem St.restG {w0 W:World} {O:Own} {g:GR} {G:cU} {K:List (Nat×World)} (h:St w0 O (g::G) K W):St w0 O G K W:=⟨h.below,h.own,h.dist,h.kept,fun g hg=>h.rows g (List.mem_cons_of_mem _ hg),(List.pairwise_cons.1 h.gdist).2⟩
theorem Qv.cap {k:Nat} {g:GR} {ad:Option Addr} {m c base:Nat} {w:World} (h:Qv k g (.slice ad m c)) (ho:w.ownsRow base g.e g.size g.v g.n g.xs):m≤c:=by
 obtain ⟨h0,a,c0,ad0,h1,h2,h3⟩:=h
 injection h2 with _ e1 e2
 obtain ⟨a2,c2,e,hle⟩:=gP ho
 rw [h1] at e
 injection e with _ _ e3
 omega
theorem jB.blk {b n:Nat} {ks:List Nat} {W:World} (h:jB b n ks W):∃ es clock,W.heap[b]?=some (.map es clock):=by
 obtain ⟨D,⟨es,clock,h1,h2⟩,h3⟩:=h
 exact ⟨es,clock,h1⟩
theorem jB.kept {w0 W W':World} {O:Own} {G:cU} {K:List (Nat×World)} {b n:Nat} {ks:List Nat} (h:jB b n ks W) (hS:St w0 O G K W') (hq:(b,sC W b)∈K):jB b n ks W':=h.same fun hlt=>((hS.kept _ hq).1.2 b (Nat.le_refl _) (uM hlt)).trans (uN hlt)
theorem Nl {w0 W W':World} {O:Own} {G:cU} {K:List (Nat×World)} {b:Nat} (hS:St w0 O G K W') (hq:(b,sC W b)∈K) (hb:b < W.heap.size):b < W'.heap.size:=Nat.lt_of_lt_of_le (uM hb) (hS.kept _ hq).1.1
theorem Fe {S:PS} {x0 x:PX} (hok:S.ok) (h0:OkX S x0) (hx:OkX S x) (h:cB S x0 x≠x0):cB S x0 x≠bW S:=by
 by_cases hz:x0=bW S
 ·rw [hz] at h ⊢;exact h
 ·exact M7 hok h0 hx hz
theorem wT (S:PS) (a:AV) (f0:WF) (bk:Bool) (bm VA VX RB IA WA n:Nat) (va:Value) (fs:List WF) (xs:List PX) (l:List Nat) (Ot:Own) (Gt:cU) (K:List (Nat×World)) (w0:World) (lo:Nat) (py:TV→PX) (kf:TV→Int×Int) (w:World) (hS0:St w0 ((RB,rdC f0 a bk bm VA VX,109)::(VA,gT va n IA WA,139)::(IA,inC S xs,4)::(WA,wC fs,44)::Ot) (⟨va,l.length,atC l,3,1⟩::Gt) K w) (hV:VecOk S w0 K n fs xs l) (hn:n≤4096) (hM:pL w0 K kf lo a.ts bm) (htrow:pU w0 a.ta a.ts) (htlen:a.ts.length=a.tl) (htm:a.tl≤65536) (htq:∀ t∈a.ts,inQ t.t (n:Int)=true) (hpy:∀ t∈a.ts,XIs w0 S t.x.f (py t)) (hkf:∀ t∈a.ts,∃ s:Nat,(kf t).1=(s:Int)∧s < n) (hht:Hi S≤4194304) (hsi:SIs w0 S a.s.f) (hok:S.ok) (ht:Tabs w0) (H0:jF w0 K (fun W=>XIs W S f0 (bW S))) :
  Calls prog 57 #[.pointer (some ⟨RB,0,none⟩)] w (fun e w'=>∃ (u:Value) (l':List Nat) (fs':List WF) (xs':List PX) (Kn:List (Nat×World)),e = .returned (.tuple #[])∧(∀ q∈K,q∈Kn)∧VecOk S w0 Kn n fs' xs' l'∧Eps S bk (egsX kf py a.ts) xs xs'∧wD S bk (egsX kf py a.ts) xs'∧St w0 ((RB,rdC f0 a bk bm VA VX,109)::(VA,gT u n IA WA,139)::(IA,inC S xs',4)::(WA,wC fs',44)::Ot) (⟨u,l'.length,atC l',3,1⟩::Gt) Kn w'):=by
 refine cD (args:=[.pointer (some ⟨RB,0,none⟩)]) func57 rfl ntmps57 rfl ?_
 have hS:=hS0
 obtain ⟨aa,ac,hva,_⟩:=gP (hS.row 0 rfl)
 have hva:va = .slice aa l.length ac:=hva
 subst hva
 have hll:=hV.len
 have hEo:∀ e∈(egsX kf py a.ts),OkX S e.y:=fun e he=>by obtain ⟨t,ht9,rfl⟩:=List.mem_map.1 he;exact (hpy t ht9).ok
 refine aM (aQ (aE rfl rfl (cM rfl rfl (aK (o':=18) kH rfl rfl rfl (aR isAgg107 rfl (aH (hS.at_ 0 rfl) rfl) rfl (aC rfl rfl (aN (XF.thenN (aM (aQ (Pv hS underlying26 sizeOf3 rfl fun v1 W1 hS=>aE rfl rfl (cM rfl rfl (aK (o':=0) kG rfl rfl rfl (aR isAgg26 rfl (aH (hS.at_ 1 rfl) rfl) rfl ?_))))))))))))))
 refine Kc (i:=0) (news:=atC l) hS underlying26 Bg rfl rfl (by show 0 < 1;decide) rfl rfl rfl rfl rfl (row_src (hS.row 1 rfl)) (by rw [atC_len];show _=l.length * 1;omega) (fun u hu=>by obtain ⟨i,_,rfl⟩:=List.mem_map.1 hu;rfl) (by dsimp only;simp only [maxLen];omega) (by show (0+l.length) * 8≤_;omega) rfl fun v2 W2 hS=>?_
 obtain ⟨a3,c3,hv3,_⟩:=gP (hS.row 0 rfl)
 have hv3:v2 = .slice a3 (0+l.length) c3:=hv3
 rw [Nat.zero_add] at hv3
 subst hv3
 have hS:=(hS.castG (G':=⟨(.slice a3 l.length c3),l.length,atC l,3,1⟩::⟨(.slice aa l.length ac),l.length,atC l,3,1⟩::Gt) (by show _::_=_;rw [Nat.zero_add];rfl)).permG (List.Perm.swap _ _ _)
 refine aC rfl rfl (aN (XF.thenN (aM (aQ (aE rfl rfl (cC underlying26 rfl rfl (Io hS underlying140 rfl rfl ?_)))))))
 have hsz2:=hS.below.size
 have hKs2:∀ q∈K,q.2.heap.size≤_:=fun q hq=>(hS.kept q hq).1.1
 clear hS;intro bS W8 hbS hlS hS
 have hmt:=jB.made hbS
 have hS:=hS.keep K (fun q hq=>List.mem_cons_of_mem _ hq)
 have hKb:(∀ q∈K,bS < q.1∨q.2.heap.size≤bS):=fun q hq=>.inr (Nat.le_trans (hKs2 q hq) hlS)
 have hwb:w0.heap.size≤bS:=Nat.le_trans hsz2 hlS
 refine aC rfl rfl (aN (XF.thenN (aM (aM (aQ (aE rfl rfl (cC underlying26 rfl rfl (aE rfl rfl (aN (XF.thenN (bK (dQ (fun m lf W=>∃ i:Nat,i≤l.length∧m=l.length - i∧lf=[(0,.pointer (some ⟨RB,0,none⟩)),(2,.pointer (some ⟨VA,0,none⟩)),(3,.slice a3 l.length c3),(4,.map (some bS)),(26,.slice a3 l.length c3),(27,.int .i64 (l.length:Int)),(28,.int .i64 (i:Int))]∧jB bS i (l.take i).reverse W∧St w0 ((RB,rdC f0 a bk bm VA VX,109)::(VA,gT (.slice aa l.length ac) n IA WA,139)::(IA,inC S xs,4)::(WA,wC fs,44)::Ot) (⟨(.slice aa l.length ac),l.length,atC l,3,1⟩::⟨(.slice a3 l.length c3),l.length,atC l,3,1⟩::Gt) K W) (l.length - 0) ([(0,_),(2,_),(3,_),(4,_),(26,_),(27,_),(28,_)]) ⟨rfl,rfl,rfl,rfl,rfl,rfl,rfl,trivial⟩ (⟨0,Nat.zero_le _,rfl,rfl,hmt,hS⟩) ?_))))))))))))
 clear hS
 rintro m lf W ⟨i,hi,rfl,rfl,hmt,hS⟩
 refine aM (aQ (cK rfl rfl rfl (aN (XF.thenN (aM (bB rfl (fun hc=>?_) (fun hc=>?_)))))))
 ·have hc29:=of_decide_eq_true hc;clear hc
  have hk:i < l.length:=by omega
  obtain ⟨y,hy⟩:∃ y,l[i]?=some y:=⟨l[i],List.getElem?_eq_getElem hk⟩
  obtain ⟨xy,hxy,hxz⟩:=(hV.ats y).1 (List.mem_of_getElem? hy)
  have hyn:y < n:=by have:=(List.getElem?_eq_some_iff.1 hxy).1;rw [hV.xl] at this;exact this
  obtain ⟨b9,rfl,k9⟩:=jM (hS.row 1 rfl) (show (atC l)[i]?=some (.int .i64 (y:Int)) by rw [List.getElem?_map,hy];rfl)
  refine bI (XF.thenN (aM (bK (aM (aQ (bZ  underlying26 sizeOf3 rfl rfl rfl (by omega) rfl rfl (aR isAgg3 rfl (k9) rfl (aC rfl rfl (aN (XF.thenN (aQ (aE rfl rfl (aE rfl rfl (cV (us:=[]) rfl (Nk) rfl ?_))))))))))))))
  refine An hS hmt (by omega) (by simp only [maxLen];omega) hwb hKb rfl rfl rfl ?_
  clear hS hmt;intro W7 hS hmt
  refine aN (XF.blkN (XF.thenN (aQ (cP rfl rfl (IntWalk.i64_in _ (by omega)) rfl (aE rfl rfl (aN ?_))))))
  exact XF.round (l.length - (i+1)) [(0,_),(2,_),(3,_),(4,_),(26,_),(27,_),(28,_)] (by omega) ⟨rfl,rfl,rfl,rfl,rfl,rfl,rfl,trivial⟩ ⟨i+1,by omega,rfl,rfl,(by rw [List.take_add_one,hy,List.reverse_append];exact hmt),hS⟩
 ·have hc29:=of_decide_eq_false hc;clear hc
  rw [List.take_of_length_le (by omega)] at hmt
  have hil:i=l.length:=by omega
  subst hil
  have hB0:=Nj (S:=S) xs
  have hxl:=hV.xl
  obtain ⟨B0,hB⟩:∃ b,b=n+xs.length * (Hi S).toNat:=⟨_,rfl⟩
  have hB0le:B0≤4096+4096 * 4194304:=by rw [hB];exact Nat.add_le_add hn (Nat.mul_le_mul (by rw [hxl];exact hn) (by omega))
  have hq0:=Qv.start (hS.row 1 rfl)
  refine dP (XF.thenX (XF.thenX (XF.blkX (XF.thenN (bK (dQ (fun m lf W=>∃ (q vq:Value) (mq kq cnt:Nat) (xq:List Value) (ks ws:List Nat) (v9:Value) (f9s:List WF) (x9s:List PX) (l9:List Nat) (Kk:List (Nat×World)),m=oM S x9s+ws.length∧lf=[(0,.pointer (some ⟨RB,0,none⟩)),(2,.pointer (some ⟨VA,0,none⟩)),(3,q),(4,.map (some bS))]∧(∀ q∈K,q∈Kk)∧(∀ q∈Kk,bS < q.1∨q.2.heap.size≤bS)∧Qv kq ⟨vq,mq,xq,3,1⟩ q∧xq.drop kq=atC ws∧mq - kq=ws.length∧mq+oM S x9s≤B0∧cnt+oM S x9s≤B0∧jB bS cnt ks W∧(∀ i,i∈ks↔i∈ws)∧ws.Nodup∧(∀ i∈ws,i∈l9)∧Eps S bk (egsX kf py a.ts) xs x9s∧Wt S bk (egsX kf py a.ts) x9s ws (fun _=>True)∧VecOk S w0 Kk n f9s x9s l9∧St w0 ((RB,rdC f0 a bk bm VA VX,109)::(VA,gT v9 n IA WA,139)::(IA,inC S x9s,4)::(WA,wC f9s,44)::Ot) (⟨v9,l9.length,atC l9,3,1⟩::⟨vq,mq,xq,3,1⟩::Gt) Kk W) (oM S xs+l.length) ([(0,_),(2,_),(3,_),(4,_)]) ⟨rfl,rfl,rfl,rfl,trivial⟩ (⟨_,_,_,0,l.length,_,l.reverse,l,_,fs,xs,l,K,rfl,rfl,(fun q hq=>hq),hKb,hq0,rfl,rfl,by omega,by omega,hmt,(fun i=>List.mem_reverse),hV.nd,(fun i hi=>hi),Eps.refl hok hV.ok,Wt.start hV.ok hEo (fun i x h1 h2=>Classical.byContradiction fun h3=>h2 ((hV.ats i).2 ⟨x,h1,h3⟩)),hV,hS⟩) ?_))))))
  clear hS
  clear hmt hq0 hS;rintro m lf W ⟨q,vq,mq,kq,cnt,xq,ks,ws,v9,f9s,x9s,l9,Kk,rfl,rfl,hKk,hKbk,hq,hxq,hmq,hd1,hd2,hmt,hks,hnd,hwn,hE,hW,hV9,hS⟩
  obtain ⟨adq,cq,hq9⟩:=hq.len
  have hq9:q = .slice adq ws.length cq:=by rw [hq9];show Value.slice adq (mq - kq) cq=_;rw [hmq]
  subst hq9
  refine aM (aM (aQ (aE rfl rfl (cC underlying26 rfl rfl (gI rfl rfl rfl (aN (XF.thenN (bB rfl (fun hc=>?_) (fun hc=>?_)))))))))
  ·have hc38:=of_decide_eq_true hc;clear hc
   obtain ⟨s,ws,rfl⟩:∃ y t,ws=y::t:=by
    cases ws with
    | nil=>exact absurd hc38 (by simp)
    | cons y t=>exact ⟨y,t,rfl⟩
   have hx9:(xq.drop kq)[0]?=some (.int .i64 (s:Int)):=by rw [hxq];rfl
   rw [List.getElem?_drop,Nat.add_zero] at hx9
   obtain ⟨bq,cq9,hqc,kqc⟩:=Qv.cell hq rfl (hS.row 1 rfl) hx9
   injection hqc with e1 e2 e3
   subst e1;subst e3
   have hsl9:s∈l9:=hwn s List.mem_cons_self
   obtain ⟨xs9,hxs9,hxsz⟩:=(hV9.ats s).1 hsl9
   have hsn:s < n:=by have:=(List.getElem?_eq_some_iff.1 hxs9).1;rw [hV9.xl] at this;exact this
   have hkq:kq < mq:=by rw [List.length_cons] at hmq;omega
   have hcap:=hq.cap (hS.row 1 rfl)
   obtain ⟨M0,hM0⟩:∃ m,m=oM S x9s+ws.length:=⟨_,rfl⟩
   rw [List.length_cons] at hmq
   refine bI (XF.thenN (bK (aM (aQ (aE rfl rfl (bZ (j:=0) underlying26 sizeOf3 rfl rfl (rfl) (Nat.succ_pos _) rfl rfl (aR isAgg3 rfl (kqc) rfl (aC rfl rfl (aN (XF.thenN (aM (aQ (aE rfl rfl (tM (j:=1) underlying26 sizeOf3 rfl rfl rfl (Nat.succ_le_succ (Nat.zero_le _)) rfl ?_))))))))))))))
   intro ad3 hadE3 hadN3
   have hqN:=Qv.next hq hkq hcap hadE3 hadN3
   refine aC rfl rfl (aN (XF.thenN (aM (aQ (aE rfl rfl (aE rfl rfl (In hS hmt (by omega) hwb hKbk rfl rfl ?_)))))))
   clear hS hmt;intro W7 hS hmt
   refine aN (XF.thenN (aM ?_))
   obtain ⟨Wf,hG,hH⟩:=hM
   have hH4:=hH hS hKk
   obtain ⟨v33,hlk,hrw⟩:=Grp.look hG Lb underlying106 zeroValue26 (k:=((s:Int),-1)) (Lc (Ai (Int.natCast_nonneg _) (by omega)) (Ld (by decide) (by decide))) La
   obtain ⟨ra,rc,rfl,hrc⟩:=gP hrw
   obtain ⟨rl,hrl⟩:∃ m,m=(Bd kf a.ts ((s:Int),-1)).length:=⟨_,rfl⟩
   rw [← hrl] at hlk hrw hrc
   have hlk4:=hlk _ hH4.1
   have hrl2:rl=(byT kf a.ts 0 ((s:Int),-1)).length:=by rw [hrl,List.length_map]
   have hrl3:=uY kf ((s:Int),-1) a.ts 0
   refine aQ (aE rfl rfl (cM rfl rfl (aK (o':=17) Aj rfl rfl rfl (aR isAgg106 rfl (aH (hS.at_ 0 rfl) rfl) rfl (aE rfl rfl (cV (us:=[(0,.int .i64 _),(1,.int .i64 _)]) rfl (rF _ _) rfl (opV (Cz rfl rfl hlk4) rfl (cC underlying26 rfl rfl (aE rfl rfl (aN (XF.thenN (bK ?_))))))))))))
   refine dQ (fun m lf W=>∃ (j:Nat) (q vq:Value) (mq kq cnt:Nat) (xq:List Value) (ks ws9:List Nat) (v7:Value) (f7:List WF) (x7:List PX) (l7:List Nat) (Kj:List (Nat×World)),j≤rl∧m=rl - j∧lf=[(0,.pointer (some ⟨RB,0,none⟩)),(2,.pointer (some ⟨VA,0,none⟩)),(3,q),(4,.map (some bS)),(7,.int .i64 (s:Int)),(52,.slice ra rl rc),(53,.int .i64 (rl:Int)),(54,.int .i64 (j:Int))]∧(∀ q∈K,q∈Kj)∧(∀ q∈Kj,bS < q.1∨q.2.heap.size≤bS)∧Qv kq ⟨vq,mq,xq,3,1⟩ q∧xq.drop kq=atC ws9∧mq - kq=ws9.length∧mq+oM S x7≤B0∧cnt+oM S x7≤B0∧jB bS cnt ks W∧(∀ i,i∈ks↔i∈ws9)∧ws9.Nodup∧(∀ i∈ws9,i∈l7)∧s∈l7∧Eps S bk (egsX kf py a.ts) xs x7∧Wt S bk (egsX kf py a.ts) x7 ws9 (dnX kf py a.ts s ((byT kf a.ts 0 ((s:Int),-1)).take j))∧oM S x7+ws9.length≤M0∧VecOk S w0 Kj n f7 x7 l7∧St w0 ((RB,rdC f0 a bk bm VA VX,109)::(VA,gT v7 n IA WA,139)::(IA,inC S x7,4)::(WA,wC f7,44)::Ot) (⟨v7,l7.length,atC l7,3,1⟩::⟨vq,mq,xq,3,1⟩::Gt) Kj W) (rl - 0) ([(0,_),(2,_),(3,_),(4,_),(7,_),(52,_),(53,_),(54,_)]) ⟨rfl,rfl,rfl,rfl,rfl,rfl,rfl,rfl,trivial⟩ (⟨0,_,vq,mq,kq+1,cnt,xq,_,ws,v9,f9s,x9s,l9,Kk,Nat.zero_le _,rfl,rfl,hKk,hKbk,hqN,(by have h:=congrArg List.tail hxq;rw [List.tail_drop] at h;exact h),by omega,hd1,hd2,hmt,(fun i=>by rw [List.mem_filter,hks i];have h9:=(List.nodup_cons.1 hnd).1;constructor<;>intro h<;>first | (rcases List.mem_cons.1 h.1 with rfl | h8;exact absurd h.2 (by simp);exact h8) | exact ⟨List.mem_cons_of_mem _ h,by simp;intro e;subst e;exact h9 h⟩),(List.nodup_cons.1 hnd).2,(fun i hi=>hwn i (List.mem_cons_of_mem _ hi)),hsl9,hE,hW.pop,Nat.le_of_eq hM0.symm,hV9,hS⟩) ?_
   clear hS
   clear hmt hq hqN hS hW hE hV9 hks hnd hwn hd1 hd2 hxq hmq hcap hxs9 kqc hx9 hkq;rintro m lf W ⟨j,q,vq,mq,kq,cnt,xq,ks,ws9,v7,f7,x7,l7,Kj,hj,rfl,rfl,hKj,hKbj,hq,hxq,hmq,hd1,hd2,hmt,hks,hnd,hwn,hsl7,hE,hW,hM7,hV7,hS⟩
   refine aM (aQ (cK rfl rfl rfl (aN (XF.thenN (aM (bB rfl (fun hc=>?_) (fun hc=>?_)))))))
   ·have hc55:=of_decide_eq_true hc;clear hc
    have hkj:j < rl:=by omega
    obtain ⟨xy,hxy,hxz⟩:=(hV7.ats s).1 hsl7
    obtain ⟨fy,hfy⟩:∃ fy,f7[s]?=some fy:=⟨f7[s]'(by rw [hV7.fl];exact hsn),List.getElem?_eq_getElem _⟩
    obtain ⟨z,hz⟩:∃ z,(byT kf a.ts 0 ((s:Int),-1))[j]?=some z:=⟨_,List.getElem?_eq_getElem (by omega)⟩
    obtain ⟨tj,t9,hz1,ht9,hkt⟩:=rX.1 (List.mem_of_getElem? hz)
    rw [Nat.zero_add] at hz1;subst hz1
    have hrwW:=dI hrw (fun p hp=>(hH hS hKj).2 p (hrw.lt p hp).1 (hrw.lt p hp).2)
    obtain ⟨b6,rfl,k6⟩:=jM hrwW (show (Bd kf a.ts ((s:Int),-1))[j]?=some (.int .i64 (tj:Int)) by rw [List.getElem?_map,hz];rfl)
    have htj:=(List.getElem?_eq_some_iff.1 ht9).1
    have hmt9:=List.mem_of_getElem? ht9
    obtain ⟨rf,rg,rt,tx⟩:=t9
    obtain ⟨tN,htt,htN⟩:=dV (htq _ hmt9)
    dsimp only at htt
    subst htt
    have hpt:=hpy _ hmt9
    obtain ⟨bt,ot,hta,hcs⟩:=htrow.at_ ht9
    have kt:=aF.agree hS.agree (Nat.zero_le _) hcs
    obtain ⟨f5,x5,hf5,hx5,hok5⟩:=hV7.at_ htN
    have hokx:OkX S (mX S bk xy (py ⟨rf,rg,(tN:Int),tx⟩)):=Ik hok (hV7.ok xy (List.mem_of_getElem? hxy)) hpt.ok
    have heM:egX kf py ⟨rf,rg,(tN:Int),tx⟩∈(egsX kf py a.ts):=List.mem_map_of_mem hmt9
    have hef:(egX kf py ⟨rf,rg,(tN:Int),tx⟩).f=s:=by show (kf _).1.toNat=s;rw [← hkt];exact Int.toNat_natCast s
    have heg:(egX kf py ⟨rf,rg,(tN:Int),tx⟩).g = -1:=by show (kf _).2 = -1;rw [← hkt]
    obtain ⟨es9,ck9,hme⟩:=hmt.blk
    have hS:=hS.markMap hme
    have hlt7:=hmt.lt
    refine bI (XF.thenN (aM (bK (aM (aQ (bZ  underlying26 sizeOf3 rfl rfl rfl (by omega) rfl rfl (aR isAgg3 rfl (k6) rfl (aC rfl rfl (aN (XF.thenN (aM (aQ (aE rfl rfl (cM rfl rfl (aK (o':=9) uX rfl rfl rfl (aK (o':=15) dR rfl rfl rfl (aR isAgg27 rfl (aH (hS.at_ 0 rfl) rfl) rfl (aE rfl rfl ?_))))))))))))))))))
    refine bZ (j:=tj) (b:=bt) (o:=ot) (m:=a.tl) (c:=a.tc) underlying27 sizeOf66 (by show some (Value.slice a.ta a.tl a.tc)=_;rw [hta]) rfl rfl (by omega) rfl rfl ?_
    refine aT (vs:=[_,_,_,_,_,_,_,_,_]) isAgg66 sizeOf66 rfl (kt) rfl (bE (cs:=[_,_,_,_,_,_,_,_,_]) hS zeroValue66 rfl rfl fun B4 W4 hS=>aU (i:=0) (vs:=[_,_,_,_,_,_,_,_,_]) (cs':=[_,_,_,_,_,_,_,_,_]) (O':=(_::_::_::_::_::Ot)) hS sizeOf66 rfl rfl rfl rfl rfl rfl rfl fun W5 hS=>aN (XF.thenN (aM (aM ?_))))
    have hb15:=Nl hS List.mem_cons_self hlt7
    refine Tb (ef:=16) (jy:=16) (ca:=qY (fun _=>[])) (ta:=fun _=>0) (Os:=Ew _) (Gs:=uJ _) (al:=[]) (k:=14) (ds:=[80,81]) cF rfl hS rfl (by kernel_rfl) (by kernel_rfl) rfl (by decide) rfl (fun _=>none) (.inr ⟨rfl,rfl,rfl⟩) rfl rfl (aX 1 rfl rfl (isV _) (fun hNo=>sgV [(0,_)] rfl rfl rfl rfl hNo (aS rfl) ⟨cG rfl,trivial⟩ (fun ev w he hw=>bA rfl) (aG rfl)) (aX 2 rfl rfl (isV _) (fun hNo=>sgV [(2,_)] rfl rfl rfl rfl hNo (aS rfl) ⟨cG rfl,trivial⟩ (fun ev w he hw=>bA rfl) (aG rfl)) (aX 3 rfl rfl (isV _) (fun hNo=>sgV [(10,_)] rfl rfl rfl rfl hNo (aS rfl) ⟨cG rfl,trivial⟩ (fun ev w he hw=>aV (o':=2) kE rfl rfl) (aG rfl)) (aX 4 rfl rfl (isV _) (fun hNo=>sgV [(68,_)] rfl rfl rfl rfl hNo (aS rfl) ⟨aO 2 (aA rfl rfl rfl),trivial⟩ (fun ev w he hw=>aZ isAgg3 rfl ((aH (hw.at_ 0 rfl) rfl))) (aG rfl)) (aX 5 rfl rfl (isV _) (fun hNo=>sgV [(0,_)] rfl rfl rfl rfl hNo (aS rfl) ⟨cG rfl,trivial⟩ (fun ev w he hw=>bA rfl) (aG rfl)) (aX 6 rfl rfl (isV _) (fun hNo=>sgV [(2,_)] rfl rfl rfl rfl hNo (aS rfl) ⟨cG rfl,trivial⟩ (fun ev w he hw=>bA rfl) (aG rfl)) (aX 7 rfl rfl (isV _) (fun hNo=>sgV [(71,_)] rfl rfl rfl rfl hNo (aS rfl) ⟨aO 5 (aA rfl rfl rfl),trivial⟩ (fun ev w he hw=>cT rfl) (aG rfl)) (aX 8 rfl rfl (isV _) (fun hNo=>sgV [(72,_)] rfl rfl rfl rfl hNo (aS rfl) ⟨aO 6 (aA rfl rfl rfl),trivial⟩ (fun ev w he hw=>aV (o':=2) mT rfl rfl) (aG rfl)) (aX 9 rfl rfl (isV _) (fun hNo=>sgV [(73,_)] rfl rfl rfl rfl hNo (aS rfl) ⟨aO 7 (aA rfl rfl rfl),trivial⟩ (fun ev w he hw=>aZ isAgg42 rfl ((aH (hw.at_ 2 rfl) rfl))) (aG rfl)) (aX 10 rfl rfl (isV _) (fun hNo=>sgV [(7,_)] rfl rfl rfl rfl hNo (aS rfl) ⟨cG rfl,trivial⟩ (fun ev w he hw=>bA rfl) (aG rfl)) (aX 11 rfl rfl (isV _) (fun hNo=>sgV [(74,_),(75,_)] rfl rfl rfl rfl hNo (aS rfl) ⟨aO 8 (aA rfl rfl rfl),aO 9 (aA rfl rfl rfl),trivial⟩ (fun ev w he hw=>bG (j:=s) underlying42 sizeOf44 rfl rfl (rfl) (hsn) rfl) (aG rfl)) (aX 12 rfl rfl (isV _) (fun hNo=>sgV [(76,_)] rfl rfl rfl rfl hNo (aS rfl) ⟨aO 10 (aA rfl rfl rfl),trivial⟩ (fun ev w he hw=>bD (vs:=[_,_,_,_,_,_]) isAgg44 sizeOf44 rfl ((aF.own (j:=0+s * 6) (m:=6) (hw.at_ 4 rfl) (H7 hfy)))) (aG rfl)) (aX 13 rfl rfl (isV _) (fun hNo=>sgV [(10,_)] rfl rfl rfl rfl hNo (aS rfl) ⟨cG rfl,trivial⟩ (fun ev w he hw=>bD (vs:=[_,_,_,_,_,_,_,_,_]) isAgg66 sizeOf66 rfl ((aF.own (j:=0) (m:=9) (hw.at_ 0 rfl) rfl))) (aG rfl)) ?_)))))))))))))
    refine aX 14 rfl rfl (dL W5.heap.size S (mX S bk xy (py ⟨rf,rg,(tN:Int),tx⟩))) (fun hNo=>xM [isV _,isV _,isV _] rfl rfl rfl rfl hNo Ng (aS rfl) ⟨cH (aO 4 (aA rfl rfl rfl)),cH (aO 11 (aA rfl rfl rfl)),cH (aO 12 (aA rfl rfl rfl)),trivial⟩ (fun vs ev w' he hSt hlo hh=>by
     have e:=cI (us:=[_,_,_]) hh
     subst e
     exact mR hlo (C7 S a f0 bk bm VA VX RB fy tx.f xy (py ⟨rf,rg,(tN:Int),tx⟩) rf rg (tN:Int) w' (hSt.at_ 1 rfl) (hsi.below hSt.below) hok (ht.below hSt.below) (hV7.held s fy xy hfy hxy hxz hSt (fun q hq=>List.mem_cons_of_mem _ hq)) (hpt.below hSt.below))) (aG rfl)) ?_
    refine nH ?_
    intro Bf6 y6 W6 Ks6 hsz6 hKs6 hS' hcov6
    clear hS;have hS:=hS'.castO (O':=(_::_::_::_::_::Ot)) rfl;clear hS'
    refine uL (L':=[AwS _ _ (isV _),AwS _ _ (isV _),AwS _ _ (isV _),AwS _ _ (isV _),AwS _ _ (isV _),AwS _ _ (isV _),AwS _ _ (isV _),AwS _ _ (isV _),AwS _ _ (isV _),AwS _ _ (isV _),AwS _ _ (isV _),AwS _ _ (isV _),AwS _ _ (isV _),AwS _ _ (dL W5.heap.size S (mX S bk xy (py ⟨rf,rg,(tN:Int),tx⟩)))]) rfl (bM (bM (bM (bM (bM (bM (bM (bM (bM (bM (bM (bM (bM ?_)))))))))))))
    refine dH ?_;rintro vP h8p;obtain ⟨f9,rfl,hn9⟩:=h8p.here
    have HX9:jF w0 (Ks6++Kj) (fun W2=>XIs W2 S f9 (mX S bk xy (py ⟨rf,rg,(tN:Int),tx⟩))):=fun h2 hk=>(newS hn9 h8p (hcov6 h2 (fun q hq=>hk q (List.mem_append_left _ hq))) (Nat.le_refl _)).is
    have hKs8:=hKs6
    obtain ⟨K8,hK8⟩:∃ x,x=Ks6++Kj:=⟨_,rfl⟩
    have hK98:∀ q∈Kj,q∈K8:=fun q hq=>by rw [hK8];exact List.mem_append_right _ hq
    have hKv8:∀ q∈K8,q∈Ks6++((bS,sC W bS)::Kj):=fun q hq=>by rw [hK8] at hq;rcases List.mem_append.1 hq with h | h;exact List.mem_append_left _ h;exact List.mem_append_right _ (List.mem_cons_of_mem _ h)
    have hb16:=Nl hS (List.mem_append_right Ks6 List.mem_cons_self) hlt7
    rw [← hK8] at HX9
    refine cQ (jA (vs:=[_,_,_,_]) Fb rfl (Af S a f0 bk bm VA VX RB VA IA WA n v7 f7 x7 l7 _ _ _ K8 w0 tN f9 (mX S bk xy (py ⟨rf,rg,(tN:Int),tx⟩)) x5 _ (hS.perm (Nh _ _ _ _ _ _)) hKv8 (hV7.more hK98) hn htN hx5 hsi hok ht (H0.more (fun q hq=>hK98 q (hKj q hq))) HX9 hokx) rfl ?_)
    rintro e W9 ⟨u8,l8,fs8,Kw8,rfl,hnw8,hV8,hl8,hS8⟩
    obtain ⟨K9,hK9⟩:∃ x,x=Kw8++K8:=⟨_,rfl⟩
    have hsub9:∀ q∈Kj,q∈K9:=fun q hq=>by rw [hK9];exact List.mem_append_right _ (hK98 q hq)
    rw [← hK9] at hV8
    have hKb9:∀ q∈K9,bS < q.1∨q.2.heap.size≤bS:=fun q hq=>by
     rw [hK9,hK8] at hq
     rcases List.mem_append.1 hq with h | h
     ·exact .inl (Nat.lt_of_lt_of_le hb16 (hnw8 q h))
     ·rcases List.mem_append.1 h with h | h
      ·exact .inl (Nat.lt_of_lt_of_le hb15 (hKs8 q h))
      ·exact hKbj q h
    clear hS;have hS:=(hS8.perm (Nh _ _ _ _ _ _).symm).keep ((bS,sC W bS)::K9) (fun q hq=>by
     rw [hK9,hK8] at hq
     simp only [List.mem_cons,List.mem_append] at hq ⊢
     rcases hq with h | h | h | h<;>simp [h]);clear hS8
    have hE8:=hE.step hok hV.ok hV7.ok hEo heM heg (x:=xy) (y:=x5) (by rw [hef];exact hxy) hx5
    have hsl8:s∈l8:=by rcases hl8 with ⟨_,h⟩ | h | h<;>rw [h]<;>simp [hsl7]
    have hll8:∀ i∈l7,i∈l8:=fun i hi=>by rcases hl8 with ⟨_,h⟩ | h | h<;>rw [h]<;>simp [hi]
    refine ⟨_,rfl,?_⟩
    refine eS rfl rfl (aN (XF.thenN (bB rfl (fun hc=>?_) (fun hc=>?_))))
    ·have hc81:=hc;clear hc
     have hee:cB S x5 (mX S bk xy (py ⟨rf,rg,(tN:Int),tx⟩))=x5:=by have h9:=hc81;rw [Bool.not_not] at h9;exact rC.1 h9
     have hd8:oM S (x7.set tN (cB S x5 (mX S bk xy (py ⟨rf,rg,(tN:Int),tx⟩))))=oM S x7:=by rw [hee,Ae hx5]
     refine dP (XF.thenX (XF.blkX (XF.thenN (aQ (cP rfl rfl (IntWalk.i64_in _ (by omega)) rfl (aE rfl rfl (aN ?_)))))))
     exact XF.round (rl - (j+1)) [(0,_),(2,_),(3,_),(4,_),(7,_),(52,_),(53,_),(54,_)] (by omega) ⟨rfl,rfl,rfl,rfl,rfl,rfl,rfl,rfl,trivial⟩ ⟨j+1,q,vq,mq,kq,cnt,xq,ks,ws9,u8,fs8,(x7.set tN (cB S x5 (mX S bk xy (py ⟨rf,rg,(tN:Int),tx⟩)))),l8,K9,by omega,rfl,rfl,(fun q hq=>hsub9 q (hKj q hq)),hKb9,hq,hxq,hmq,by omega,by omega,hmt.kept hS List.mem_cons_self,hks,hnd,(fun i hi=>hll8 i (hwn i hi)),hsl8,hE8,(hW.put hok hV7.ok hEo heM (by rw [hef];exact hxy) hx5 (fun i hi=>hi) (fun h=>absurd hee h)).weaken (fun e hf hd=>⟨hf,Ao hz ht9 e hd⟩),by omega,hV8,(hS.keep K9 (fun q hq=>List.mem_cons_of_mem _ hq)).tail⟩
    ·have hc81:=hc;clear hc
     have hne:cB S x5 (mX S bk xy (py ⟨rf,rg,(tN:Int),tx⟩))≠x5:=by have h9:=hc81;rw [Bool.not_not] at h9;exact rW.1 h9
     have hd8:oM S (x7.set tN (cB S x5 (mX S bk xy (py ⟨rf,rg,(tN:Int),tx⟩)))) < oM S x7:=Il hok hok5 hokx hne hx5
     have htl8:tN∈l8:=(hV8.ats tN).2 ⟨_,List.getElem?_set_self (by rw [hV7.xl];exact htN),Fe hok hok5 hokx hne⟩
     have hmt8:=hmt.kept hS List.mem_cons_self
     refine bI (XF.thenN (aM (aQ (aE rfl rfl (aK (o':=2) kE rfl rfl rfl (aR isAgg3 rfl (aH (hS.at_ 0 rfl) rfl) rfl (Im hmt8 (by omega) zeroValue141 rfl rfl rfl (aE rfl rfl (bU rfl rfl rfl (bU rfl rfl rfl (bE (cs:=[]) hS zeroValue141 rfl rfl fun B7 W7 hS=>aU (i:=0) (vs:=[]) (cs':=[]) (O':=(_::_::_::_::_::_::Ot)) hS sizeOf141 rfl rfl rfl rfl rfl rfl rfl fun W8 hS=>aC rfl rfl (aN (XF.thenN (aM (aQ (aE rfl rfl (eS rfl rfl (aN (XF.thenN (bB rfl (fun hc=>?_) (fun hc=>?_)))))))))))))))))))))
     ·have hc90:=hc;clear hc
      have hnin:tN∉ks:=by have h9:=hc90;rw [Bool.not_eq_true'] at h9;exact of_decide_eq_false h9
      have hmt9w:=hmt.kept hS List.mem_cons_self
      have hnws:tN∉ws9:=fun h=>hnin ((hks tN).2 h)
      have hS:=hS.keep K9 (fun q hq=>List.mem_cons_of_mem _ hq)
      refine aM (aQ (aE rfl rfl (aK (o':=2) kE rfl rfl rfl (aR isAgg3 rfl (aH (hS.at_ 1 rfl) rfl) rfl (cV (us:=[]) rfl (Nk) rfl ?_)))))
      refine An hS hmt9w (by omega) (by simp only [maxLen];omega) hwb hKb9 rfl rfl rfl ?_
      clear hS hmt9w;intro W19 hS hmt19
      obtain ⟨es19,ck19,hme19⟩:=hmt19.blk
      have hS:=hS.markMap hme19
      refine aN (XF.thenN (aQ (aE rfl rfl (aK (o':=2) kE rfl rfl rfl (aR isAgg3 rfl (aH (hS.at_ 1 rfl) rfl) rfl (cW (us:=[(0,.int .i64 _)]) hS underlying26 sizeOf3 zeroValue3 rfl rfl rfl (kV _) rfl fun B9 W9 hS=>?_))))))
      refine Le (gi:=1) hS underlying26 Bg rfl rfl rfl rfl hq rfl rfl (hS.at_ 0 rfl) rfl (by simp only [maxLen];omega) (by show (_+1) * 8≤_;omega) rfl ?_
      clear hS;intro q9 vq9 mq9 kq9 xq9 W20 hS hq9 hxq9 hmq9 hmq99
      have hmt20:=hmt19.kept hS List.mem_cons_self
      have hS:=(hS.keep K9 (fun q hq=>List.mem_cons_of_mem _ hq)).castG (G':=⟨u8,l8.length,atC l8,3,1⟩::⟨vq9,mq9,xq9,3,1⟩::Gt) rfl
      refine aC rfl rfl (aN (XF.blkN (XF.thenN (aQ (cP rfl rfl (IntWalk.i64_in _ (by omega)) rfl (aE rfl rfl (aN ?_)))))))
      exact XF.round (rl - (j+1)) [(0,_),(2,_),(3,_),(4,_),(7,_),(52,_),(53,_),(54,_)] (by omega) ⟨rfl,rfl,rfl,rfl,rfl,rfl,rfl,rfl,trivial⟩ ⟨j+1,q9,vq9,mq9,kq9,cnt+1,xq9,tN::ks,ws9++[tN],u8,fs8,(x7.set tN (cB S x5 (mX S bk xy (py ⟨rf,rg,(tN:Int),tx⟩)))),l8,K9,by omega,rfl,rfl,(fun q hq=>hsub9 q (hKj q hq)),hKb9,hq9,(by rw [hxq9,hxq];simp [atC]),(by rw [hmq9,hmq,List.length_append];rfl),by omega,by omega,hmt20,(fun i=>by rw [List.mem_cons,List.mem_append,List.mem_singleton,hks i];exact Or.comm),(by rw [List.nodup_append];exact ⟨hnd,by simp,fun a ha b hb=>by simp at hb;subst hb;intro e;subst e;exact hnws ha⟩),(fun i hi=>by rcases List.mem_append.1 hi with h | h;exact hll8 i (hwn i h);simp at h;subst h;exact htl8),hsl8,hE8,(hW.put hok hV7.ok hEo heM (by rw [hef];exact hxy) hx5 (fun i hi=>List.mem_append_left _ hi) (fun _=>by simp;exact .inr rfl)).weaken (fun e hf hd=>⟨hf,Ao hz ht9 e hd⟩),(by rw [List.length_append];simp only [List.length_cons,List.length_nil];omega),hV8,hS.tail.tail.tail⟩
     ·have hc90:=hc;clear hc
      have hin:tN∈ks:=by have h9:=hc90;rw [Bool.not_eq_false'] at h9;exact of_decide_eq_true h9
      have hmt9w:=hmt.kept hS List.mem_cons_self
      refine bI (XF.blkN (XF.thenN (aQ (cP rfl rfl (IntWalk.i64_in _ (by omega)) rfl (aE rfl rfl (aN ?_))))))
      exact XF.round (rl - (j+1)) [(0,_),(2,_),(3,_),(4,_),(7,_),(52,_),(53,_),(54,_)] (by omega) ⟨rfl,rfl,rfl,rfl,rfl,rfl,rfl,rfl,trivial⟩ ⟨j+1,q,vq,mq,kq,cnt,xq,ks,ws9,u8,fs8,(x7.set tN (cB S x5 (mX S bk xy (py ⟨rf,rg,(tN:Int),tx⟩)))),l8,K9,by omega,rfl,rfl,(fun q hq=>hsub9 q (hKj q hq)),hKb9,hq,hxq,hmq,by omega,by omega,hmt9w,hks,hnd,(fun i hi=>hll8 i (hwn i hi)),hsl8,hE8,(hW.put hok hV7.ok hEo heM (by rw [hef];exact hxy) hx5 (fun i hi=>hi) (fun _=>(hks tN).1 hin)).weaken (fun e hf hd=>⟨hf,Ao hz ht9 e hd⟩),by omega,hV8,(hS.keep K9 (fun q hq=>List.mem_cons_of_mem _ hq)).tail.tail⟩
   ·have hc55:=of_decide_eq_false hc;clear hc
    rw [List.take_of_length_le (by omega)] at hW
    have hW:=hW.done (fun t ht=>by obtain ⟨i,h1,_⟩:=hkf t ht;exact ⟨i,h1⟩)
    refine dP (XF.thenX (XF.thenX (XF.blkX (XF.blkN ?_))))
    exact XF.round (oM S x7+ws9.length) [(0,_),(2,_),(3,_),(4,_)] (by rw [List.length_cons];omega) ⟨rfl,rfl,rfl,rfl,trivial⟩ ⟨q,vq,mq,kq,cnt,xq,ks,ws9,v7,f7,x7,l7,Kj,rfl,rfl,hKj,hKbj,hq,hxq,hmq,hd1,hd2,hmt,hks,hnd,hwn,hE,hW,hV7,hS⟩
  ·have hc38:=of_decide_eq_false hc;clear hc
   have hws:ws=[]:=List.eq_nil_of_length_eq_zero (by omega)
   subst hws
   refine dP (XF.thenX (XF.thenX (XF.blkX (XF.resN (Nq results57) ?_))))
   exact ⟨v9,l9,f9s,x9s,Kk,rfl,hKk,hV9,hE,hW.closed,(hS.permG (List.Perm.swap _ _ _)).restG⟩
section
variable {S:PS} {b:Bool} {A A':PX→Prop}
theorem Fs.bind (h:S.ok) (hA':∀ x,A' x→OkX S x) {z:PX} (hz:Fs S A z) (hA:∀ x,A x→Fs S A' x):Fs S A' z:=by
 induction hz with
 | zero=>exact .zero
 | add _ h1 ih=>exact Fs.plus h hA' ih (hA _ h1)
end
def StB (S:PS) (b:Bool) (E:List Eg) (xs:List PX) (sym:Int) (s:Nat) (y:PX):Prop:=∃ e∈E,e.g=sym∧e.t=s∧∃ x,AtX xs e.f x∧y=iE S b x e.y
structure StI (S:PS) (b:Bool) (E:List Eg) (xs:List PX) (sym:Int) (n:Nat) (ys:List PX):Prop where
 len:ys.length=n
 ok:∀ x∈ys,OkX S x
 sum:∀ s z,AtX ys s z→Fs S (StB S b E xs sym s) z
def UpX (S:PS) (ys zs:List PX):Prop:=∀ s x y,AtX ys s x→AtX zs s y→LeX S x y
section
variable {S:PS} {b:Bool} {E:List Eg} {xs ys zs us:List PX} {sym:Int} {n:Nat}
theorem UpX.refl (h:S.ok) (hx:∀ x∈xs,OkX S x):UpX S xs xs:=fun s x y h1 h2=>by
 unfold AtX at h1 h2;rw [h1] at h2;cases h2;exact Ak h (hx x (List.mem_of_getElem? h1))
theorem UpX.trans (h:S.ok) (h1:UpX S ys zs) (h2:UpX S zs us) (hy:∀ x∈ys,OkX S x) (hz:∀ x∈zs,OkX S x) (hu:∀ x∈us,OkX S x) (hl:zs.length=ys.length):UpX S ys us:=fun s x y hx hv=>by
 have hlt:s < zs.length:=by rw [hl];exact (List.getElem?_eq_some_iff.1 hx).1
 have hm:AtX zs s zs[s]:=List.getElem?_eq_getElem hlt
 exact gB h (hy x (List.mem_of_getElem? hx)) (hz _ (List.mem_of_getElem? hm)) (hu y (List.mem_of_getElem? hv)) (h1 s x _ hx hm) (h2 s _ y hm hv)
theorem StI.zero (n:Nat):StI S b E xs sym n (List.replicate n (bW S)):=⟨by simp,fun x hx=>by rw [(List.mem_replicate.1 hx).2];exact mL,fun s z hz=>by
 have h4:=(List.getElem?_eq_some_iff.1 hz).2
 rw [List.getElem_replicate] at h4
 rw [← h4];exact .zero⟩
theorem StI.hop (h:S.ok) (hx:∀ x∈xs,OkX S x) (hE:∀ e∈E,OkX S e.y) (hi:StI S b E xs sym n ys) {e:Eg} (he:e∈E) (hg:e.g=sym) {x:PX} (hxf:AtX xs e.f x) (ht:e.t < n) :
  StI S b E xs sym n (ys.set e.t (cB S (ys.getD e.t (bW S)) (iE S b x e.y)))∧UpX S ys (ys.set e.t (cB S (ys.getD e.t (bW S)) (iE S b x e.y)))∧∀ z,AtX (ys.set e.t (cB S (ys.getD e.t (bW S)) (iE S b x e.y))) e.t z→LeX S (iE S b x e.y) z:=by
 have hlt:e.t < ys.length:=by rw [hi.len];exact ht
 have hyt:AtX ys e.t ys[e.t]:=List.getElem?_eq_getElem hlt
 have hg9:ys.getD e.t (bW S)=ys[e.t]:=by rw [List.getD_eq_getElem?_getD,List.getElem?_eq_getElem hlt];rfl
 rw [hg9]
 have hyo:=hi.ok _ (List.mem_of_getElem? hyt)
 have hxo:=hx x (List.mem_of_getElem? hxf)
 have hzo:=iC (b:=b) h hxo (hE e he)
 have hco:=lK h hyo hzo
 refine ⟨⟨by rw [List.length_set];exact hi.len,fun z hz=>?_,fun s z hz=>?_⟩,fun s v z hv hz=>?_,fun z hz=>?_⟩
 ·rcases List.mem_or_eq_of_mem_set hz with h1 | rfl
  ·exact hi.ok z h1
  ·exact hco
 ·rcases Nat.decEq s e.t with e1 | e1
  ·rw [AtX,List.getElem?_set_ne (Ne.symm e1)] at hz
   exact hi.sum s z hz
  ·subst e1
   rw [AtX,List.getElem?_set_self hlt] at hz
   cases hz
   exact .add (hi.sum _ _ hyt) ⟨e,he,hg,rfl,x,hxf,rfl⟩
 ·rcases Nat.decEq s e.t with e1 | e1
  ·rw [AtX,List.getElem?_set_ne (Ne.symm e1)] at hz
   unfold AtX at hv
   rw [hv] at hz;cases hz
   exact Ak h (hi.ok _ (List.mem_of_getElem? hv))
  ·subst e1
   rw [AtX,List.getElem?_set_self hlt] at hz
   cases hz
   unfold AtX at hv hyt
   rw [hyt] at hv;cases hv
   exact rY h hzo hyo
 ·rw [AtX,List.getElem?_set_self hlt] at hz
  cases hz
  exact Al h hzo hyo
end
section
variable {S:PS} {b:Bool} {py:TV→PX} {ts:List TV} {xs:List PX} {sym:Int} {n:Nat}
theorem Ip (h:S.ok) (hx:∀ x∈xs,OkX S x) (hp:∀ t∈ts,OkX S (py t)) (hb:∀ t∈ts,t.t.toNat < n) {s:Nat} {x:PX} (hs:AtX xs s x):∀ (js:List Int) (ys:List PX),(∀ j∈js,∃ t,ts[j.toNat]?=some t∧kSym t=((s:Int),sym))→StI S b (egsX kSym py ts) xs sym n ys →
  StI S b (egsX kSym py ts) xs sym n (lV S b py ts x js ys)∧UpX S ys (lV S b py ts x js ys)∧∀ j∈js,∀ t,ts[j.toNat]?=some t→∀ z,AtX (lV S b py ts x js ys) t.t.toNat z→LeX S (iE S b x (py t)) z
 | [],ys,_,hi=>⟨hi,UpX.refl h hi.ok,fun j hj=>by cases hj⟩
 | j::js,ys,hj,hi=>by
  obtain ⟨t,ht,hk⟩:=hj j List.mem_cons_self
  have hm:=List.mem_of_getElem? ht
  have hf:t.f=(s:Int):=congrArg Prod.fst hk
  have hg:t.g=sym:=congrArg Prod.snd hk
  have he:egX kSym py t∈egsX kSym py ts:=List.mem_map_of_mem hm
  have hE:∀ e∈egsX kSym py ts,OkX S e.y:=fun e he=>by obtain ⟨u,hu,rfl⟩:=List.mem_map.1 he;exact hp u hu
  have hfn:(egX kSym py t).f=s:=by show t.f.toNat=s;rw [hf,Int.toNat_natCast]
  obtain ⟨h1,h2,h3⟩:=StI.hop h hx hE hi he hg (x:=x) (by rw [hfn];exact hs) (hb t hm)
  have e1:lV S b py ts x (j::js) ys=lV S b py ts x js (ys.set (egX kSym py t).t (cB S (ys.getD (egX kSym py t).t (bW S)) (iE S b x (egX kSym py t).y))):=by
   unfold lV
   rw [List.foldl_cons,ht];rfl
  rw [e1]
  obtain ⟨k1,k2,k3⟩:=Ip h hx hp hb hs js _ (fun i hi=>hj i (List.mem_cons_of_mem _ hi)) h1
  refine ⟨k1,h2.trans h k2 hi.ok h1.ok k1.ok (by rw [h1.len,hi.len]),fun i hi9 u hu z hz=>?_⟩
  rcases List.mem_cons.1 hi9 with rfl | hi9
  ·rw [ht] at hu;cases hu
   have hlt:(egX kSym py t).t < (ys.set (egX kSym py t).t (cB S (ys.getD (egX kSym py t).t (bW S)) (iE S b x (egX kSym py t).y))).length:=by rw [h1.len];exact hb t hm
   have hmid:=List.getElem?_eq_getElem hlt
   exact gB h (iC h (hx x (List.mem_of_getElem? hs)) (hp t hm)) (h1.ok _ (List.mem_of_getElem? hmid)) (k1.ok z (List.mem_of_getElem? hz)) (h3 _ hmid) (k2 _ _ _ hmid hz)
  ·exact k3 i hi9 u hu z hz
theorem byT_sym {s:Nat}:∀ j∈byT kSym ts 0 ((s:Int),sym),∃ t,ts[j.toNat]?=some t∧kSym t=((s:Int),sym):=fun j hj=>by
 obtain ⟨m,t,h1,h2,h3⟩:=rX.1 hj
 rw [Nat.zero_add] at h1;subst h1
 exact ⟨t,by rw [Int.toNat_natCast];exact h2,h3.symm⟩
theorem Iq (h:S.ok) (hx:∀ x∈xs,OkX S x) (hp:∀ t∈ts,OkX S (py t)) (hb:∀ t∈ts,t.t.toNat < n):∀ (l:List Nat) (ys:List PX),(∀ s∈l,s < xs.length)→StI S b (egsX kSym py ts) xs sym n ys →
  StI S b (egsX kSym py ts) xs sym n (kI S b py ts xs sym l ys)∧UpX S ys (kI S b py ts xs sym l ys)∧∀ s∈l,∀ x,AtX xs s x→∀ t∈ts,kSym t=((s:Int),sym)→∀ z,AtX (kI S b py ts xs sym l ys) t.t.toNat z→LeX S (iE S b x (py t)) z
 | [],ys,_,hi=>⟨hi,UpX.refl h hi.ok,fun j hj=>by cases hj⟩
 | s::l,ys,hl,hi=>by
  have hlt:=hl s List.mem_cons_self
  have hs:AtX xs s xs[s]:=List.getElem?_eq_getElem hlt
  obtain ⟨h1,h2,h3⟩:=Ip h hx hp hb hs (byT kSym ts 0 ((s:Int),sym)) ys byT_sym hi
  have e1:kI S b py ts xs sym (s::l) ys=kI S b py ts xs sym l (lV S b py ts xs[s] (byT kSym ts 0 ((s:Int),sym)) ys):=by
   show List.foldl _ _ _=_
   unfold kI
   rw [List.foldl_cons,List.getD_eq_getElem?_getD,List.getElem?_eq_getElem hlt];rfl
  rw [e1]
  obtain ⟨k1,k2,k3⟩:=Iq h hx hp hb l _ (fun i hi=>hl i (List.mem_cons_of_mem _ hi)) h1
  refine ⟨k1,h2.trans h k2 hi.ok h1.ok k1.ok (by rw [h1.len,hi.len]),fun i hi9 x hxi t ht hk z hz=>?_⟩
  rcases List.mem_cons.1 hi9 with rfl | hi9
  ·unfold AtX at hxi hs
   rw [hs] at hxi;cases hxi
   obtain ⟨m,hm⟩:=List.getElem?_of_mem ht
   have hj:((m:Nat):Int)∈byT kSym ts 0 ((i:Int),sym):=rX.2 ⟨m,t,by rw [Nat.zero_add],hm,hk.symm⟩
   have hlt2:t.t.toNat < (lV S b py ts xs[i] (byT kSym ts 0 ((i:Int),sym)) ys).length:=by rw [h1.len];exact hb t ht
   have hmid:=List.getElem?_eq_getElem hlt2
   exact gB h (iC h (hx _ (List.getElem_mem hlt)) (hp t ht)) (h1.ok _ (List.mem_of_getElem? hmid)) (k1.ok z (List.mem_of_getElem? hz)) (h3 _ hj t (by rw [Int.toNat_natCast];exact hm) _ hmid) (k2 _ _ _ hmid hz)
  ·exact k3 i hi9 x hxi t ht hk z hz
structure InN (n:Nat) (ts:List TV):Prop where
 f:∀ t∈ts,∃ i:Nat,t.f=(i:Int)∧i < n
 t:∀ t∈ts,∃ i:Nat,t.t=(i:Int)∧i < n
theorem InN.tn {t:TV} (h:InN n ts) (ht:t∈ts):t.t.toNat < n:=by obtain ⟨i,h1,h2⟩:=h.t t ht;rw [h1,Int.toNat_natCast];exact h2
theorem InN.fn {t:TV} (h:InN n ts) (ht:t∈ts):t.f.toNat < n:=by obtain ⟨i,h1,h2⟩:=h.f t ht;rw [h1,Int.toNat_natCast];exact h2
theorem Ff {kf:TV→Int×Int} (hp:∀ t∈ts,OkX S (py t)):∀ e∈egsX kf py ts,OkX S e.y:=fun e he=>by obtain ⟨u,hu,rfl⟩:=List.mem_map.1 he;exact hp u hu
theorem Ir {E:List Eg} {p:Nat} {ys:List PX} (h:S.ok) (hE:∀ e∈E,OkX S e.y) (hb:∀ e∈E,e.f < n∧e.t < n) (hp:p < n) (he:Eps S b E ((List.replicate n (bW S)).set p (oE S)) ys) (hyo:∀ x∈ys,OkX S x) (hc:wD S b E ys):Full S b E p [] ys:=by
 have hl:ys.length=n:=by rw [he.len];simp
 refine Ni h hE hyo hl hb hc (fun s x hx=>he.sum (Pth S b E p [] ) (fun s x hx=>hx.ok h hE) (fun e he hg x hx=>.eps hx he rfl hg) (fun s x hx=>?_) s x hx) (fun _ x hx=>?_) (fun v q x e _ _ _ h1=>by simp at h1)
 ·rcases Nat.decEq s p with e | rfl
  ·rw [AtX,List.getElem?_set_ne (Ne.symm e)] at hx
   have h4:=(List.getElem?_eq_some_iff.1 hx).2
   rw [List.getElem_replicate] at h4
   rw [← h4];exact .zero
  ·rw [AtX,List.getElem?_set_self (by simp;exact hp)] at hx
   cases hx
   exact Fs.one .nil (pA h)
 ·exact he.up p _ x (by rw [AtX,List.getElem?_set_self (by simp;exact hp)]) hx
theorem Lf {p:Nat} {u:List Int} {ys:List PX} {l:List Nat} (h:S.ok) (hp:∀ t∈ts,OkX S (py t)) (hn:InN n ts) (hf:Full S b (egsX kSym py ts) p u xs) (hxo:∀ x∈xs,OkX S x) (hxl:xs.length=n) (hl:∀ i,i∈l↔∃ x,xs[i]?=some x∧x≠bW S) (hsy:sym ≠ -1)
  (he:Eps S b (egsX kSym py ts) (kI S b py ts xs sym l (List.replicate n (bW S))) ys) (hyo:∀ x∈ys,OkX S x) (hc:wD S b (egsX kSym py ts) ys):Full S b (egsX kSym py ts) p (u++[sym]) ys:=by
 have hE:=Ff (kf:=kSym) hp
 have hb:∀ e∈egsX kSym py ts,e.f < n∧e.t < n:=fun e he=>by
  obtain ⟨t,ht,rfl⟩:=List.mem_map.1 he
  exact ⟨hn.fn ht,hn.tn ht⟩
 obtain ⟨h1,h2,h3⟩:=Iq (sym:=sym) (b:=b) h hxo hp (fun t ht=>hn.tn ht) l (List.replicate n (bW S)) (fun s hs=>by obtain ⟨x,h9,_⟩:=(hl s).1 hs;exact (List.getElem?_eq_some_iff.1 h9).1) (StI.zero n)
 have hly:ys.length=n:=by rw [he.len];exact h1.len
 refine Ni h hE hyo hly hb hc (fun s x hx=>he.sum (Pth S b (egsX kSym py ts) p (u++[sym])) (fun s x hx=>hx.ok h hE) (fun e he hg x hx=>.eps hx he rfl hg) (fun s x hx=>?_) s x hx) (fun h9=>by simp at h9) (fun v q x e he9 hq hg hv hpth z hz=>?_)
 ·refine Fs.bind h (fun x hx=>hx.ok h hE) (h1.sum s x hx) ?_
  rintro y ⟨e,he9,hg,rfl,x9,hx9,rfl⟩
  refine Fs.extL h (fun x hx=>hx.ok h hE) (hE e he9) (hf.sum _ _ hx9) (fun v hv=>?_)
  rw [← hg]
  exact .sym hv he9 rfl (by rw [hg];exact hsy)
 ·obtain ⟨rfl,h9⟩:=List.append_inj' hv rfl
  have h9:sym=e.g:=by simpa using h9
  subst h9
  obtain ⟨t,ht,rfl⟩:=List.mem_map.1 he9
  obtain ⟨i,hi,hin⟩:=hn.f t ht
  have hfi:(egX kSym py t).f=i:=by show t.f.toNat=i;rw [hi,Int.toNat_natCast]
  have hlt:(egX kSym py t).f < xs.length:=by rw [hfi,hxl];exact hin
  have hx9:AtX xs (egX kSym py t).f xs[(egX kSym py t).f]:=List.getElem?_eq_getElem hlt
  have hle:LeX S x xs[(egX kSym py t).f]:=hf.top (egX kSym py t).f _ x hx9 (by rw [hq];exact hpth)
  have hlt2:t.t.toNat < (kI S b py ts xs (egX kSym py t).g l (List.replicate n (bW S))).length:=by rw [h1.len];exact hn.tn ht
  have hmid:=List.getElem?_eq_getElem hlt2
  have hxe:=hxo _ (List.getElem_mem hlt)
  have hmo:=h1.ok _ (List.mem_of_getElem? hmid)
  have hz0:=hyo z (List.mem_of_getElem? hz)
  have hpt:=hp t ht
  have key:LeX S (iE S b xs[(egX kSym py t).f] (py t)) (kI S b py ts xs (egX kSym py t).g l (List.replicate n (bW S)))[t.t.toNat]:=by
   by_cases hzz:xs[(egX kSym py t).f]=bW S
   ·have h8:LeX S (iE S b xs[(egX kSym py t).f] (py t)) (kI S b py ts xs (egX kSym py t).g l (List.replicate n (bW S)))[t.t.toNat]:=by
     rw [hzz,Ua hpt];exact vA hmo
    exact h8
   ·refine h3 (egX kSym py t).f ((hl _).2 ⟨_,hx9,hzz⟩) _ hx9 t ht ?_ _ hmid
    show (t.f,t.g)=_
    rw [hfi,hi];rfl
  have hm1:=pM (b:=b) h (hpth.ok h hE) hxe hpt hle
  have hxo9:=hpth.ok h hE
  exact gB h (iC h hxo9 hpt) (iC h hxe hpt) hz0 hm1 (gB h (iC h hxe hpt) hmo hz0 key (he.up _ _ _ hmid hz))
theorem end_lub {E:List Eg} {p:Nat} {u:List Int} (h:S.ok) (hE:∀ e∈E,OkX S e.y) (hf:Full S b E p u xs) (hxo:∀ x∈xs,OkX S x) (fs:List Int) (hq:∀ s∈fs,s.toNat < xs.length):LubX S (tI S b E (fs.map Int.toNat) p u) (uZ S xs fs):=by
 have hok:=Fc (b:=b) (F:=fs.map Int.toNat) (p:=p) (u:=u) h hE
 constructor
 ·unfold uZ
  have:∀ (l:List Int) (z:PX),(∀ s∈l,s∈fs)→Fs S (tI S b E (fs.map Int.toNat) p u) z→Fs S (tI S b E (fs.map Int.toNat) p u) (l.foldl (fun z s=>cB S z (xs.getD s.toNat (bW S))) z):=by
   intro l
   induction l with
   | nil=>intro z _ hz;exact hz
   | cons s l ih =>
    intro z hl hz
    refine ih _ (fun i hi=>hl i (List.mem_cons_of_mem _ hi)) (Fs.plus h hok hz ?_)
    have hs:=hl s List.mem_cons_self
    have hlt:=hq s hs
    rw [List.getD_eq_getElem?_getD,List.getElem?_eq_getElem hlt]
    exact (hf.sum s.toNat _ (List.getElem?_eq_getElem hlt)).mono fun x hx=>⟨_,List.mem_map_of_mem hs,hx⟩
  exact this fs _ (fun s hs=>hs) .zero
 ·rintro x ⟨q,hqm,hx⟩
  obtain ⟨s,hs,rfl⟩:=List.mem_map.1 hqm
  have hlt:=hq s hs
  have h1:=hf.top _ _ x (List.getElem?_eq_getElem hlt) hx
  have hxo1:=hx.ok h hE
  have hso:=hxo _ (List.getElem_mem hlt)
  have:∀ (l:List Int) (z:PX),(∀ s∈l,s∈fs)→OkX S z→(LeX S x z∨s∈l)→LeX S x (l.foldl (fun z s=>cB S z (xs.getD s.toNat (bW S))) z):=by
   intro l
   induction l with
   | nil=>intro z _ _ hz;exact hz.resolve_right (by simp)
   | cons r l ih =>
    intro z hl hz hc
    have hr:=hl r List.mem_cons_self
    have hltr:=hq r hr
    have hg:xs.getD r.toNat (bW S)=xs[r.toNat]:=by rw [List.getD_eq_getElem?_getD,List.getElem?_eq_getElem hltr];rfl
    have hro:=hxo _ (List.getElem_mem hltr)
    have hco:OkX S (cB S z (xs.getD r.toNat (bW S))):=by rw [hg];exact lK h hz hro
    refine ih _ (fun i hi=>hl i (List.mem_cons_of_mem _ hi)) hco ?_
    rcases hc with hc | hc
    ·refine .inl (gB h hxo1 hz hco hc ?_)
     show LeX S z (cB S z (xs.getD r.toNat (bW S)))
     rw [hg];exact rY h hro hz
    ·rcases List.mem_cons.1 hc with rfl | hc
     ·refine .inl (gB h hxo1 hso hco h1 ?_)
      show LeX S _ (cB S z (xs.getD s.toNat (bW S)))
      rw [hg];exact Al h hso hz
     ·exact .inr hc
  exact this fs _ (fun s hs=>hs) mL (.inr hs)
end
theorem Is {S:PS} (h:S.ok):Hi S≤4194304:=by
 cases S with
 | one t n =>
  have h1:=tG (l:=0) h
  show oG t n≤4194304;omega
 | two t n u m =>
  have h1:=tG (l:=0) h.1
  have h2:=tG (l:=0) h.2
  show oG t n+oG u m≤4194304;omega
structure AutoOk (w:World) (S:PS) (py:TV→PX) (n:Nat) (a:AV):Prop where
 ok:S.ok
 si:SIs w S a.s.f
 st:a.st=(n:Int)
 n4:n≤4096
 frow:Row w a.fa a.fs
 flen:a.fs.length=a.fl
 fmax:a.fl≤9223372036854775807
 trow:pU w a.ta a.ts
 tlen:a.ts.length=a.tl
 tl:a.tl≤65536
 fq:∀ s∈a.fs,inQ s (n:Int)=true
 tf:∀ t∈a.ts,inQ t.f (n:Int)=true
 tt:∀ t∈a.ts,inQ t.t (n:Int)=true
 tg:∀ t∈a.ts,-1≤t.g∧t.g < a.sy
 sy:0≤a.sy∧a.sy≤4096
 px:∀ t∈a.ts,XIs w S t.x.f (py t)
theorem AutoOk.below {w w':World} {S:PS} {py:TV→PX} {n:Nat} {a:AV} (h:AutoOk w S py n a) (hb:Below w.heap.size w w'):AutoOk w' S py n a :=
 ⟨h.ok,h.si.below hb,h.st,h.n4,h.frow.below hb,h.flen,h.fmax,h.trow.below hb,h.tlen,h.tl,h.fq,h.tf,h.tt,h.tg,h.sy,fun t ht=>(h.px t ht).below hb⟩
theorem AutoOk.inN {w:World} {S:PS} {py:TV→PX} {n:Nat} {a:AV} (h:AutoOk w S py n a):InN n a.ts:=⟨fun t ht=>dV (h.tf t ht),fun t ht=>dV (h.tt t ht)⟩
theorem AutoOk.py {w:World} {S:PS} {py:TV→PX} {n:Nat} {a:AV} (h:AutoOk w S py n a):∀ t∈a.ts,OkX S (py t):=fun t ht=>(h.px t ht).ok
theorem AutoOk.ky {w:World} {S:PS} {py:TV→PX} {n:Nat} {a:AV} (h:AutoOk w S py n a):∀ t∈a.ts,(0≤t.f∧t.f≤1000000)∧(-1≤t.g∧t.g≤1000000):=fun t ht=>by
 obtain ⟨i,h1,h2⟩:=dV (h.tf t ht)
 have h3:=h.tg t ht
 have h4:=h.sy
 have h5:=h.n4
 omega
theorem AutoOk.kf {w:World} {S:PS} {py:TV→PX} {n:Nat} {a:AV} (h:AutoOk w S py n a) (kf:TV→Int×Int) (hk:∀ t,(kf t).1=t.f):∀ t∈a.ts,∃ s:Nat,(kf t).1=(s:Int)∧s < n:=fun t ht=>by
 rw [hk t];exact dV (h.tf t ht)
theorem AutoOk.eb {w:World} {S:PS} {py:TV→PX} {n:Nat} {a:AV} (h:AutoOk w S py n a) (kf:TV→Int×Int) (hk:∀ t,(kf t).1=t.f):∀ e∈egsX kf py a.ts,e.f < n∧e.t < n:=fun e he=>by
 obtain ⟨t,ht,rfl⟩:=List.mem_map.1 he
 refine ⟨?_,h.inN.tn ht⟩
 show (kf t).1.toNat < n
 rw [hk t];exact h.inN.fn ht
theorem finB_in {st:Int} {fs:List Int} (h:zX st fs=true):∀ s∈fs,inQ s st=true:=fun s hs=>by
 obtain ⟨i,hi⟩:=List.getElem?_of_mem hs
 have h1:=List.all_eq_true.1 h i (List.mem_range.2 (List.getElem?_eq_some_iff.1 hi).1)
 unfold jL at h1
 rw [nI hi,Bool.and_eq_true] at h1
 exact h1.1
theorem Qe {w:World} {ds d:Nat} {a:AV} (h:AIn w ds d a) (hE:dD a=0):∃ S py n,AutoOk w S py n a:=by
 unfold dD at hE
 by_cases h1:dE a.s≠0
 ·rw [if_pos h1] at hE;exact absurd hE h1
 rw [if_neg h1] at hE
 have h1:dE a.s=0:=Decidable.of_not_not h1
 by_cases h2:65536 < a.tl
 ·rw [if_pos h2] at hE;cases hE
 rw [if_neg h2] at hE
 by_cases h3:cZ a.st a.sy a.fs a.ts=false
 ·rw [if_pos h3] at hE;cases hE
 rw [if_neg h3] at hE
 by_cases h4:¬ a.ts.all (fun t=>decide (kM a.s t.x=0))=true
 ·rw [if_neg h4] at hE;cases hE
 have h4:a.ts.all (fun t=>decide (kM a.s t.x=0))=true:=Decidable.of_not_not h4
 have h3:cZ a.st a.sy a.fs a.ts=true:=by simpa using h3
 unfold cZ at h3
 by_cases h5:a.st < 0∨4096 < a.st∨a.sy < 0∨4096 < a.sy
 ·rw [if_pos h5] at h3;cases h3
 rw [if_neg h5,Bool.and_eq_true] at h3
 obtain ⟨n,hn⟩:∃ n:Nat,a.st=(n:Int):=⟨a.st.toNat,by omega⟩
 obtain ⟨S,hok,hsi,hx⟩:=Ho h.s h1
 have hw:∀ t∈a.ts,∃ y,XIs w S t.x.f y:=fun t ht=>by
  have h6:=of_decide_eq_true (List.all_eq_true.1 h4 t ht)
  refine hx t.x d (h.tin t ht) ?_
  unfold kM at h6
  rw [if_pos h1] at h6
  by_cases h7:okW a.s t.x=true
  ·exact h7
  ·rw [if_neg h7] at h6;cases h6
 have htr:∀ t∈a.ts,inQ t.f a.st=true∧inQ t.t a.st=true ∧ -1≤t.g∧t.g < a.sy:=fun t ht=>by
  have h6:=List.all_eq_true.1 h3.2 t ht
  unfold trB at h6
  simp only [Bool.and_eq_true,decide_eq_true_eq] at h6
  exact h6
 have hcl:=fun t:TV=>Classical.propDecidable (∃ y,XIs w S t.x.f y)
 refine ⟨S,fun t=>@dite _ (∃ y,XIs w S t.x.f y) (hcl t) (fun h9=>h9.choose) (fun _=>bW S),n,hok,hsi,hn,by omega,h.frow,h.flen,h.fmax,h.trow,h.tlen,by omega,?_,?_,?_,?_,by omega,?_⟩
 ·rw [← hn];exact finB_in h3.1
 ·rw [← hn];exact fun t ht=>(htr t ht).1
 ·rw [← hn];exact fun t ht=>(htr t ht).2.1
 ·exact fun t ht=>(htr t ht).2.2
 ·intro t ht
  rw [dif_pos (hw t ht)]
  exact (hw t ht).choose_spec
theorem nL {a:AV} {fr ws:List Int} (h:jG a fr ws=0):dD a=0∧(∀ y∈fr,inQ y a.st=true)∧∀ y∈ws,inQ y a.sy=true:=by
 unfold jG at h
 by_cases h1:dD a≠0
 ·rw [if_pos h1] at h;exact absurd h h1
 rw [if_neg h1] at h
 by_cases h2:¬ fr.all (fun y=>inQ y a.st)=true
 ·rw [if_neg h2] at h;cases h
 have h2:fr.all (fun y=>inQ y a.st)=true:=Decidable.of_not_not h2
 rw [if_pos h2] at h
 by_cases h3:¬ ws.all (fun y=>inQ y a.sy)=true
 ·rw [if_neg h3] at h;cases h
 have h3:ws.all (fun y=>inQ y a.sy)=true:=Decidable.of_not_not h3
 exact ⟨Decidable.of_not_not h1,fun y hy=>List.all_eq_true.1 h2 y hy,fun y hy=>List.all_eq_true.1 h3 y hy⟩
theorem Ud {a:AV} {fr ws:List Int} (h:jG a fr ws=0):jG a fr []=0:=by
 obtain ⟨h1,h2,_⟩:=nL h
 unfold jG
 rw [if_neg (fun h=>h h1),if_pos (List.all_eq_true.2 h2),if_pos (show ([]:List Int).all _=true from rfl)]
theorem Fg {a:AV} {fr ws:List Int} (h1:dD a=0) (h2:∀ y∈fr,inQ y a.st=true) (h3:∀ y∈ws,inQ y a.sy=true):jG a fr ws=0:=by
 unfold jG
 rw [if_neg (fun h=>h h1),if_pos (List.all_eq_true.2 h2),if_pos (List.all_eq_true.2 h3)]
theorem Qf {a:AV} {fr ws:List Int} (h:jG a fr []≠0):jG a fr ws=jG a fr []:=by
 unfold jG at h ⊢
 by_cases h1:dD a≠0
 ·rw [if_pos h1,if_pos h1]
 rw [if_neg h1] at h ⊢
 rw [if_neg h1]
 by_cases h2:fr.all (fun y=>inQ y a.st)=true
 ·rw [if_pos h2,if_pos (show ([]:List Int).all _=true from rfl)] at h;exact absurd rfl h
 ·rw [if_neg h2,if_neg h2]
theorem C9 {a:AV} {fr ws:List Int} (h:jG a fr []=0) (h2:ws.all (fun y=>inQ y a.sy)=false):jG a fr ws=102:=by
 obtain ⟨h1,h3,_⟩:=nL h
 unfold jG
 rw [if_neg (fun h=>h h1),if_pos (List.all_eq_true.2 h3),if_neg (by rw [h2];decide)]
theorem perm33 {α:Type} (x a b c d e f:α) (l:List α):(x::a::b::c::d::e::f::l).Perm (x::d::e::f::a::b::c::l):=by
 refine List.Perm.cons x ?_
 have h:([a,b,c]++[d,e,f]).Perm ([d,e,f]++[a,b,c]):=List.perm_append_comm
 exact h.append_right l
theorem perm71 {α:Type} (x a b c d e f:α) (l:List α):(a::b::c::d::e::f::x::l).Perm (x::a::b::c::d::e::f::l):=List.perm_middle (l₁:=[a,b,c,d,e,f])
structure IV where
 a:Option Addr
 l:Nat
 c:Nat
 xs:List Int
abbrev IV.val (r:IV):Value:=.slice r.a r.l r.c
structure DV where
 sy:Int
 na:Option Addr
 nl:Nat
 nc:Nat
 ns:List IV
 aa:Option Addr
 al:Nat
 ac:Nat
 bs:List Bool
abbrev DV.cells (d:DV):List Value:=[.int .i64 d.sy,.slice d.na d.nl d.nc,.slice d.aa d.al d.ac]
abbrev DV.val (d:DV):Value:=.agg #[.int .i64 d.sy,.slice d.na d.nl d.nc,.slice d.aa d.al d.ac]
def Fh (w:World) (a:Option Addr) (ns:List IV):Prop:=∀ (i:Nat) r,ns[i]?=some r→∃ b off,a=some ⟨b,off,none⟩∧w.cell? ⟨b,off+i * 1,none⟩=some r.val
theorem Fh.below {w w':World} {a:Option Addr} {ns:List IV} (h:Fh w a ns) (hb:Below w.heap.size w w'):Fh w' a ns:=fun i r hi=>by
 obtain ⟨b,off,e,h1⟩:=h i r hi
 exact ⟨b,off,e,(hb.cell (World.block_lt_of_cell? _ _ h1)).trans h1⟩
structure DIn (w:World) (d:DV):Prop where
 nrow:Fh w d.na d.ns
 nlen:d.ns.length=d.nl
 rin:∀ r∈d.ns,Row w r.a r.xs∧r.xs.length=r.l∧r.l≤9223372036854775807
 arow:Hy w d.aa d.bs
 alen:d.bs.length=d.al
 nmax:d.nl≤9223372036854775807
 amax:d.al≤9223372036854775807
theorem DIn.below {w w':World} {d:DV} (h:DIn w d) (hb:Below w.heap.size w w'):DIn w' d:=⟨h.nrow.below hb,h.nlen,fun r hr=>⟨(h.rin r hr).1.below hb,(h.rin r hr).2⟩,h.arow.below hb,h.alen,h.nmax,h.amax⟩
def wE (sy:Int) (n:Nat) (r:IV):Bool:=decide ((r.l:Int)=sy) && r.xs.all (fun y=>inQ y (n:Int))
def iU (d:DV):Int:=if d.sy < 0∨4096 < d.sy∨d.nl < 1∨1024 < d.nl∨d.al≠d.nl∨65536 < (d.nl:Int) * d.sy then 90 else if d.ns.all (wE d.sy d.nl)=true then 0 else 90
theorem rG {n:Nat} {s:Int} (h1:n≤1024) (h2:0≤s) (h3:s≤4096):0≤(n:Int) * s∧(n:Int) * s≤4194304:=by
 refine ⟨Int.mul_nonneg (by omega) h2,?_⟩
 have h4:(n:Int) * s≤1024 * 4096:=Int.mul_le_mul (by omega) h3 h2 (by decide)
 omega
theorem kJ (w:World) (b o:Nat):(Instr.fieldAt 60 (.pointer (some ⟨b,o,none⟩)) 0).run prog w = .ok (.pointer (some ⟨b,o+0,none⟩)) w:=by
 simp [Instr.fieldAt,run_underlying underlying60,Instr.sureAddr,go_sem,Addr.add_lit]
theorem iN (w:World) (b o:Nat):(Instr.fieldAt 60 (.pointer (some ⟨b,o,none⟩)) 1).run prog w = .ok (.pointer (some ⟨b,o+1,none⟩)) w:=by
 simp [Instr.fieldAt,run_underlying underlying60,Instr.sureAddr,go_sem,Addr.add_lit]
theorem pN (w:World) (b o:Nat):(Instr.fieldAt 60 (.pointer (some ⟨b,o,none⟩)) 2).run prog w = .ok (.pointer (some ⟨b,o+2,none⟩)) w:=by
 simp [Instr.fieldAt,run_underlying underlying60,Instr.sureAddr,go_sem,Addr.add_lit]
theorem dfaA_c (sy:Int) (na:Option Addr) (nl nc:Nat) (ns:List IV) (aa:Option Addr) (al ac:Nat) (bs:List Bool) (w:World) (hnr:Fh w na ns) (hnl:ns.length=nl) (hri:∀ r∈ns,Row w r.a r.xs∧r.xs.length=r.l∧r.l≤9223372036854775807) (hnm:nl≤9223372036854775807) (ham:al≤9223372036854775807) :
  Calls prog 71 #[.agg #[.int .i64 sy,.slice na nl nc,.slice aa al ac]] w (fun e w'=>e = .returned (.int .i64 (iU ⟨sy,na,nl,nc,ns,aa,al,ac,bs⟩))∧Below w.heap.size w w'):=by
 refine cD (args:=[.agg #[.int .i64 sy,.slice na nl nc,.slice aa al ac]]) func71 rfl ntmps71 rfl ?_
 have hS:=St.start w
 refine aM (aQ (bY (cs:=[_,_,_]) hS rfl rfl rfl fun B1 W1 hS=>aC rfl rfl (aN (XF.thenN (aM (aQ (aK (o':=1) iN rfl rfl rfl (aR isAgg57 rfl (aH (hS.at_ 0 rfl) rfl) rfl (cC underlying57 rfl rfl (aC rfl rfl (aN (XF.thenN (aM (aM (aQ (aK (o':=0) kJ rfl rfl rfl (aR isAgg3 rfl (aH (hS.at_ 0 rfl) rfl) rfl (cK rfl rfl rfl (aE rfl rfl (bH (d:=14) rfl (fun hc=>?_) (fun hc=>?_)))))))))))))))))))))
 ·have hg14:=of_decide_eq_true hc;clear hc
  refine aD (d:=14) rfl rfl rfl rfl (aD (d:=14) rfl rfl rfl rfl (aD (d:=14) rfl rfl rfl rfl (aW rfl rfl rfl (aE rfl rfl (aD (d:=19) rfl rfl rfl rfl (aD (d:=19) rfl rfl rfl rfl (aW rfl rfl rfl (aE rfl rfl (aD (d:=23) rfl rfl rfl rfl (aD (d:=23) rfl rfl rfl rfl (aW rfl rfl rfl (aE rfl rfl (aD (d:=27) rfl rfl rfl rfl (aD (d:=27) rfl rfl rfl rfl (aD (d:=27) rfl rfl rfl rfl (aD (d:=27) rfl rfl rfl rfl (aD (d:=27) rfl rfl rfl rfl (aW rfl rfl rfl (aE rfl rfl (aD (d:=34) rfl rfl rfl rfl ?_))))))))))))))))))))
  refine aD (d:=34) rfl rfl rfl rfl (aD (d:=34) rfl rfl rfl rfl (aD (d:=34) rfl rfl rfl rfl (aD (d:=34) rfl rfl rfl rfl (aW rfl rfl rfl (aN (XF.thenN (dT rfl (aM (aQ (aC rfl rfl (aN (XF.thenN (bL (XF.thenR (XF.res (cE results71 rfl) ?_)))))))))))))))
  exact ⟨dM (by unfold iU;dsimp only;rw [if_pos (by omega)]),hS.below⟩
 ·have hg14:=of_decide_eq_false hc;clear hc
  refine aB (d:=14) rfl rfl (aK (o':=0) kJ rfl rfl rfl (aB (d:=14) rfl rfl (aR isAgg3 rfl (aH (hS.at_ 0 rfl) rfl) rfl (aB (d:=14) rfl rfl (gI rfl rfl rfl (bF rfl rfl rfl (aE rfl rfl (bH (d:=19) rfl (fun hc=>?_) (fun hc=>?_)))))))))
  ·have hg19:=of_decide_eq_true hc;clear hc
   refine aD (d:=19) rfl rfl rfl rfl (aD (d:=19) rfl rfl rfl rfl (aW rfl rfl rfl (aE rfl rfl (aD (d:=23) rfl rfl rfl rfl (aD (d:=23) rfl rfl rfl rfl (aW rfl rfl rfl (aE rfl rfl (aD (d:=27) rfl rfl rfl rfl (aD (d:=27) rfl rfl rfl rfl (aD (d:=27) rfl rfl rfl rfl (aD (d:=27) rfl rfl rfl rfl (aD (d:=27) rfl rfl rfl rfl (aW rfl rfl rfl (aE rfl rfl (aD (d:=34) rfl rfl rfl rfl (aD (d:=34) rfl rfl rfl rfl (aD (d:=34) rfl rfl rfl rfl (aD (d:=34) rfl rfl rfl rfl (aD (d:=34) rfl rfl rfl rfl (aW rfl rfl rfl ?_))))))))))))))))))))
   refine aN (XF.thenN (dT rfl (aM (aQ (aC rfl rfl (aN (XF.thenN (bL (XF.thenR (XF.res (cE results71 rfl) ?_))))))))))
   exact ⟨dM (by unfold iU;dsimp only;rw [if_pos (by omega)]),hS.below⟩
  ·have hg19:=of_decide_eq_false hc;clear hc
   refine aB (d:=19) rfl rfl (aE rfl rfl (aB (d:=19) rfl rfl (cK rfl rfl rfl (bF rfl rfl rfl (aE rfl rfl (bH (d:=23) rfl (fun hc=>?_) (fun hc=>?_)))))))
   ·have hg23:=of_decide_eq_true hc;clear hc
    refine aD (d:=23) rfl rfl rfl rfl (aD (d:=23) rfl rfl rfl rfl (aW rfl rfl rfl (aE rfl rfl (aD (d:=27) rfl rfl rfl rfl (aD (d:=27) rfl rfl rfl rfl (aD (d:=27) rfl rfl rfl rfl (aD (d:=27) rfl rfl rfl rfl (aD (d:=27) rfl rfl rfl rfl (aW rfl rfl rfl (aE rfl rfl (aD (d:=34) rfl rfl rfl rfl (aD (d:=34) rfl rfl rfl rfl (aD (d:=34) rfl rfl rfl rfl (aD (d:=34) rfl rfl rfl rfl (aD (d:=34) rfl rfl rfl rfl (aW rfl rfl rfl (aN (XF.thenN (dT rfl (aM (aQ (aC rfl rfl ?_))))))))))))))))))))))
    refine aN (XF.thenN (bL (XF.thenR (XF.res (cE results71 rfl) ?_))))
    exact ⟨dM (by unfold iU;dsimp only;rw [if_pos (by omega)]),hS.below⟩
   ·have hg23:=of_decide_eq_false hc;clear hc
    refine aB (d:=23) rfl rfl (aE rfl rfl (aB (d:=23) rfl rfl (gI rfl rfl rfl (bF rfl rfl rfl (aE rfl rfl (bH (d:=27) rfl (fun hc=>?_) (fun hc=>?_)))))))
    ·have hg27:=of_decide_eq_true hc;clear hc
     refine aD (d:=27) rfl rfl rfl rfl (aD (d:=27) rfl rfl rfl rfl (aD (d:=27) rfl rfl rfl rfl (aD (d:=27) rfl rfl rfl rfl (aD (d:=27) rfl rfl rfl rfl (aW rfl rfl rfl (aE rfl rfl (aD (d:=34) rfl rfl rfl rfl (aD (d:=34) rfl rfl rfl rfl (aD (d:=34) rfl rfl rfl rfl (aD (d:=34) rfl rfl rfl rfl (aD (d:=34) rfl rfl rfl rfl (aW rfl rfl rfl (aN (XF.thenN (dT rfl (aM (aQ (aC rfl rfl (aN (XF.thenN (bL (XF.thenR (XF.res (cE results71 rfl) ?_)))))))))))))))))))))))
     exact ⟨dM (by unfold iU;dsimp only;rw [if_pos (by omega)]),hS.below⟩
    ·have hg27:=of_decide_eq_false hc;clear hc
     refine aB (d:=27) rfl rfl (aK (o':=2) pN rfl rfl rfl (aB (d:=27) rfl rfl (aR isAgg58 rfl (aH (hS.at_ 0 rfl) rfl) rfl (aB (d:=27) rfl rfl (cC underlying58 rfl rfl (aB (d:=27) rfl rfl (aE rfl rfl (aB (d:=27) rfl rfl (dA rfl rfl rfl (bF rfl rfl rfl (aE rfl rfl (bH (d:=34) rfl (fun hc=>?_) (fun hc=>?_)))))))))))))
     ·have hg34:=of_decide_eq_true hc;clear hc
      refine aD (d:=34) rfl rfl rfl rfl (aD (d:=34) rfl rfl rfl rfl (aD (d:=34) rfl rfl rfl rfl (aD (d:=34) rfl rfl rfl rfl (aD (d:=34) rfl rfl rfl rfl (aW rfl rfl rfl (aN (XF.thenN (dT rfl (aM (aQ (aC rfl rfl (aN (XF.thenN (bL (XF.thenR (XF.res (cE results71 rfl) ?_))))))))))))))))
      exact ⟨dM (by unfold iU;dsimp only;rw [if_pos (by omega)]),hS.below⟩
     ·have hg34:=of_decide_eq_false hc;clear hc
      refine aB (d:=34) rfl rfl (aE rfl rfl (aB (d:=34) rfl rfl (aK (o':=0) kJ rfl rfl rfl (aB (d:=34) rfl rfl (aR isAgg3 rfl (aH (hS.at_ 0 rfl) rfl) rfl (aB (d:=34) rfl rfl ?_))))))
      refine lP rfl rfl (IntWalk.i64_in _ (by have h9:=rG (n:=nl) (s:=sy) (by omega) (by omega) (by omega);omega)) rfl ?_
      refine aB (d:=34) rfl rfl (gI rfl rfl rfl (bF rfl rfl rfl (aN (XF.thenN (bB rfl (fun hc=>?_) (fun hc=>?_))))))
      ·have hc40:=of_decide_eq_true hc;clear hc
       refine aM (aQ (aC rfl rfl (aN (XF.thenN (bL (XF.thenR (XF.res (cE results71 rfl) ?_)))))))
       exact ⟨dM (by unfold iU;dsimp only;rw [if_pos (by omega)]),hS.below⟩
      ·have hc40:=of_decide_eq_false hc;clear hc
       have h2:¬ (sy < 0∨4096 < sy∨nl < 1∨1024 < nl∨al≠nl∨65536 < (nl:Int) * sy):=by omega
       refine bI (XF.thenN (aM (aM (aQ (aK (o':=1) iN rfl rfl rfl (aR isAgg57 rfl (aH (hS.at_ 0 rfl) rfl) rfl (cC underlying57 rfl rfl (aE rfl rfl (aN (XF.thenN (bK (dQ (fun m l W=>∃ i:Nat,i≤nl∧m=nl - i∧l=[(1,.pointer (some ⟨B1,0,none⟩)),(3,.int .i64 (nl:Int)),(42,.slice na nl nc),(43,.int .i64 (nl:Int)),(44,.int .i64 (i:Int))]∧(ns.take i).all (wE sy nl)=true∧St w [(B1,[.int .i64 sy,.slice na nl nc,.slice aa al ac],60)] [] [] W) (nl - 0) ([(1,_),(3,_),(42,_),(43,_),(44,_)]) ⟨rfl,rfl,rfl,rfl,rfl,trivial⟩ (⟨0,Nat.zero_le _,rfl,rfl,rfl,hS.clear⟩) ?_))))))))))))
       clear hS
       rintro m l W ⟨i,hi,rfl,rfl,hall,hS⟩
       refine aM (aQ (cK rfl rfl rfl (aN (XF.thenN (aM (bB rfl (fun hc=>?_) (fun hc=>?_)))))))
       ·have hc45:=of_decide_eq_true hc;clear hc
        have hk:i < nl:=by omega
        obtain ⟨r,hr⟩:∃ r,ns[i]?=some r:=⟨ns[i]'(by omega),by simp [show i < ns.length by omega]⟩
        obtain ⟨b,off,rfl,hcs⟩:=hnr i r hr
        have k1:=hS.old hcs
        obtain ⟨hrr,hrl,hrm⟩:=hri r (List.mem_of_getElem? hr)
        obtain ⟨ra9,rl9,rc9,xs9⟩:=r
        dsimp only at hrr hrl hrm k1 hcs
        refine bI (XF.thenN (aM (bK (aM (aQ (bZ  underlying57 sizeOf26 rfl rfl rfl (by omega) rfl rfl (aR isAgg26 rfl (k1) rfl (aC rfl rfl (aN (XF.thenN (aM (aM (aQ (aE rfl rfl (cC underlying26 rfl rfl (aK (o':=0) kJ rfl rfl rfl (aR isAgg3 rfl (aH (hS.at_ 0 rfl) rfl) rfl (dA rfl rfl rfl (aN (XF.thenN (bB rfl (fun hc=>?_) (fun hc=>?_))))))))))))))))))))))
        ·have hc52:=of_decide_eq_true hc;clear hc
         refine aM (aQ (aC rfl rfl (aN (XF.thenN (bL (XF.thenR (XF.blkR (XF.thenR (XF.thenR (XF.blkR (XF.thenR (XF.res (cE results71 rfl) ?_))))))))))))
         exact ⟨dM (by unfold iU;dsimp only;rw [if_neg h2,if_neg (by rw [cJ hr (by unfold wE;dsimp only;rw [decide_eq_false hc52];rfl)];decide)]),hS.below⟩
        ·have hc52:=of_decide_eq_false hc;clear hc
         have hls:(rl9:Int)=sy:=Decidable.of_not_not hc52
         refine bI (XF.thenN (aM (aQ (aE rfl rfl (cC underlying26 rfl rfl (aE rfl rfl (aN (XF.thenN (bK (dQ (fun m l W=>∃ j:Nat,j≤rl9∧m=rl9 - j∧l=[(1,.pointer (some ⟨B1,0,none⟩)),(3,.int .i64 (nl:Int)),(42,.slice (some ⟨b,off,none⟩) nl nc),(43,.int .i64 (nl:Int)),(44,.int .i64 (i:Int)),(53,.slice ra9 rl9 rc9),(54,.int .i64 (rl9:Int)),(55,.int .i64 (j:Int))]∧(xs9.take j).all (fun y=>inQ y (nl:Int))=true∧St w [(B1,[.int .i64 sy,.slice (some ⟨b,off,none⟩) nl nc,.slice aa al ac],60)] [] [] W) (rl9 - 0) ([(1,_),(3,_),(42,_),(43,_),(44,_),(53,_),(54,_),(55,_)]) ⟨rfl,rfl,rfl,rfl,rfl,rfl,rfl,rfl,trivial⟩ (⟨0,Nat.zero_le _,rfl,rfl,rfl,hS.clear⟩) ?_))))))))))
         clear hS
         rintro m l W ⟨j,hj,rfl,rfl,hrow,hS⟩
         refine aM (aQ (cK rfl rfl rfl (aN (XF.thenN (aM (bB rfl (fun hc=>?_) (fun hc=>?_)))))))
         ·have hc56:=of_decide_eq_true hc;clear hc
          have hk2:j < rl9:=by omega
          obtain ⟨b2,off2,y,rfl,hy,hyc⟩:=hrr.at1 (show j < xs9.length by omega)
          have k2:=hS.old hyc
          refine bI (XF.thenN (aM (bK (aM (aQ (bZ  underlying26 sizeOf3 rfl rfl rfl (by omega) rfl rfl (aR isAgg3 rfl (k2) rfl (aC rfl rfl (aN (XF.thenN (aM (aQ (aE rfl rfl (cK rfl rfl rfl (aE rfl rfl (bH (d:=61) rfl (fun hc=>?_) (fun hc=>?_)))))))))))))))))
          ·have hg61:=of_decide_eq_true hc;clear hc
           refine aD (d:=61) rfl rfl rfl rfl (aD (d:=61) rfl rfl rfl rfl (aD (d:=61) rfl rfl rfl rfl (aW rfl rfl rfl (aN (XF.thenN (dT rfl (aM (aQ (aC rfl rfl (aN (XF.thenN (bL (XF.blkR (XF.thenR (XF.thenR (XF.blkR (XF.blkR (XF.thenR (XF.thenR (XF.blkR (XF.thenR (XF.res (cE results71 rfl) ?_))))))))))))))))))))))
           exact ⟨dM (by unfold iU;dsimp only;rw [if_neg h2,if_neg (by rw [cJ hr (by unfold wE;dsimp only;rw [cJ hy (by simp [inQ];omega),Bool.and_false])];decide)]),hS.below⟩
          ·have hg61:=of_decide_eq_false hc;clear hc
           refine aB (d:=61) rfl rfl (aE rfl rfl (aB (d:=61) rfl rfl (aE rfl rfl (aB (d:=61) rfl rfl (lO rfl rfl rfl (bF rfl rfl rfl (aN (XF.thenN (bB rfl (fun hc=>?_) (fun hc=>?_))))))))))
           ·have hc65:=of_decide_eq_true hc;clear hc
            refine aM (aQ (aC rfl rfl (aN (XF.thenN (bL (XF.blkR (XF.thenR (XF.thenR (XF.blkR (XF.blkR (XF.thenR (XF.thenR (XF.blkR (XF.thenR (XF.res (cE results71 rfl) ?_)))))))))))))))
            exact ⟨dM (by unfold iU;dsimp only;rw [if_neg h2,if_neg (by rw [cJ hr (by unfold wE;dsimp only;rw [cJ hy (by simp [inQ];omega),Bool.and_false])];decide)]),hS.below⟩
           ·have hc65:=of_decide_eq_false hc;clear hc
            refine bI (XF.blkN (XF.thenN (aQ (cP rfl rfl (IntWalk.i64_in _ (by omega)) rfl (aE rfl rfl (aN ?_))))))
            exact XF.round (rl9 - (j+1)) [(1,_),(3,_),(42,_),(43,_),(44,_),(53,_),(54,_),(55,_)] (by omega) ⟨rfl,rfl,rfl,rfl,rfl,rfl,rfl,rfl,trivial⟩ ⟨j+1,by omega,rfl,rfl,eC hy hrow (by simp [inQ];omega),hS.clear⟩
         ·have hc56:=of_decide_eq_false hc;clear hc
          rw [List.take_of_length_le (by omega)] at hrow
          refine dP (XF.thenX (XF.thenX (XF.blkX (XF.blkN (XF.thenN (aQ (cP rfl rfl (IntWalk.i64_in _ (by omega)) rfl (aE rfl rfl (aN ?_)))))))))
          exact XF.round (nl - (i+1)) [(1,_),(3,_),(42,_),(43,_),(44,_)] (by omega) ⟨rfl,rfl,rfl,rfl,rfl,trivial⟩ ⟨i+1,by omega,rfl,rfl,eC hr hall (by unfold wE;dsimp only;rw [hrow,decide_eq_true hls];rfl),hS.clear⟩
       ·have hc45:=of_decide_eq_false hc;clear hc
        rw [List.take_of_length_le (by omega)] at hall
        refine dP (XF.thenX (XF.thenX (XF.blkX (XF.thenN (aM (aQ (aC rfl rfl (aN (XF.thenN (bL (XF.res (cE results71 rfl) ?_)))))))))))
        exact ⟨dM (by unfold iU;dsimp only;rw [if_neg h2,if_pos hall]),hS.below⟩
theorem dfaA_is (d:DV) (w:World) (h:DIn w d):Calls prog 71 #[d.val] w (fun e w'=>e = .returned (.int .i64 (iU d))∧Below w.heap.size w w'):=dfaA_c _ _ _ _ _ _ _ _ d.bs w h.nrow h.nlen h.rin h.nmax h.amax
theorem dfaR_c (sy:Int) (na:Option Addr) (nl nc:Nat) (ns:List IV) (aa:Option Addr) (al ac:Nat) (bs:List Bool) (w:World) (hnr:Fh w na ns) (hnl:ns.length=nl) (hri:∀ r∈ns,Row w r.a r.xs∧r.xs.length=r.l∧r.l≤9223372036854775807) (hnm:nl≤9223372036854775807) (ham:al≤9223372036854775807) :
  Calls prog 72 #[.agg #[.int .i64 sy,.slice na nl nc,.slice aa al ac]] w (fun e w'=>e = .returned (.int .i64 (iU ⟨sy,na,nl,nc,ns,aa,al,ac,bs⟩))∧Below w.heap.size w w'):=by
 refine cD (args:=[.agg #[.int .i64 sy,.slice na nl nc,.slice aa al ac]]) func72 rfl ntmps72 rfl ?_
 have hS:=St.start w
 refine aM (aQ (bY (cs:=[_,_,_]) hS rfl rfl rfl fun B1 W1 hS=>aC rfl rfl (aN (XF.thenN (aM (aQ (aK (o':=1) iN rfl rfl rfl (aR isAgg57 rfl (aH (hS.at_ 0 rfl) rfl) rfl (cC underlying57 rfl rfl (aC rfl rfl (aN (XF.thenN (aM (aM (aQ (aK (o':=0) kJ rfl rfl rfl (aR isAgg3 rfl (aH (hS.at_ 0 rfl) rfl) rfl (cK rfl rfl rfl (aE rfl rfl (bH (d:=12) rfl (fun hc=>?_) (fun hc=>?_)))))))))))))))))))))
 ·have hg12:=of_decide_eq_true hc;clear hc
  refine aD (d:=12) rfl rfl rfl rfl (aD (d:=12) rfl rfl rfl rfl (aD (d:=12) rfl rfl rfl rfl (aW rfl rfl rfl (aE rfl rfl (aD (d:=17) rfl rfl rfl rfl (aD (d:=17) rfl rfl rfl rfl (aW rfl rfl rfl (aE rfl rfl (aD (d:=21) rfl rfl rfl rfl (aD (d:=21) rfl rfl rfl rfl (aW rfl rfl rfl (aE rfl rfl (aD (d:=25) rfl rfl rfl rfl (aD (d:=25) rfl rfl rfl rfl (aD (d:=25) rfl rfl rfl rfl (aD (d:=25) rfl rfl rfl rfl (aD (d:=25) rfl rfl rfl rfl (aW rfl rfl rfl (aE rfl rfl (aD (d:=32) rfl rfl rfl rfl ?_))))))))))))))))))))
  refine aD (d:=32) rfl rfl rfl rfl (aD (d:=32) rfl rfl rfl rfl (aD (d:=32) rfl rfl rfl rfl (aD (d:=32) rfl rfl rfl rfl (aW rfl rfl rfl (aN (XF.thenN (dT rfl (aM (aQ (aC rfl rfl (aN (XF.thenN (bL (XF.thenR (XF.res (cE results72 rfl) ?_)))))))))))))))
  exact ⟨dM (by unfold iU;dsimp only;rw [if_pos (by omega)]),hS.below⟩
 ·have hg12:=of_decide_eq_false hc;clear hc
  refine aB (d:=12) rfl rfl (aK (o':=0) kJ rfl rfl rfl (aB (d:=12) rfl rfl (aR isAgg3 rfl (aH (hS.at_ 0 rfl) rfl) rfl (aB (d:=12) rfl rfl (gI rfl rfl rfl (bF rfl rfl rfl (aE rfl rfl (bH (d:=17) rfl (fun hc=>?_) (fun hc=>?_)))))))))
  ·have hg17:=of_decide_eq_true hc;clear hc
   refine aD (d:=17) rfl rfl rfl rfl (aD (d:=17) rfl rfl rfl rfl (aW rfl rfl rfl (aE rfl rfl (aD (d:=21) rfl rfl rfl rfl (aD (d:=21) rfl rfl rfl rfl (aW rfl rfl rfl (aE rfl rfl (aD (d:=25) rfl rfl rfl rfl (aD (d:=25) rfl rfl rfl rfl (aD (d:=25) rfl rfl rfl rfl (aD (d:=25) rfl rfl rfl rfl (aD (d:=25) rfl rfl rfl rfl (aW rfl rfl rfl (aE rfl rfl (aD (d:=32) rfl rfl rfl rfl (aD (d:=32) rfl rfl rfl rfl (aD (d:=32) rfl rfl rfl rfl (aD (d:=32) rfl rfl rfl rfl (aD (d:=32) rfl rfl rfl rfl (aW rfl rfl rfl ?_))))))))))))))))))))
   refine aN (XF.thenN (dT rfl (aM (aQ (aC rfl rfl (aN (XF.thenN (bL (XF.thenR (XF.res (cE results72 rfl) ?_))))))))))
   exact ⟨dM (by unfold iU;dsimp only;rw [if_pos (by omega)]),hS.below⟩
  ·have hg17:=of_decide_eq_false hc;clear hc
   refine aB (d:=17) rfl rfl (aE rfl rfl (aB (d:=17) rfl rfl (cK rfl rfl rfl (bF rfl rfl rfl (aE rfl rfl (bH (d:=21) rfl (fun hc=>?_) (fun hc=>?_)))))))
   ·have hg21:=of_decide_eq_true hc;clear hc
    refine aD (d:=21) rfl rfl rfl rfl (aD (d:=21) rfl rfl rfl rfl (aW rfl rfl rfl (aE rfl rfl (aD (d:=25) rfl rfl rfl rfl (aD (d:=25) rfl rfl rfl rfl (aD (d:=25) rfl rfl rfl rfl (aD (d:=25) rfl rfl rfl rfl (aD (d:=25) rfl rfl rfl rfl (aW rfl rfl rfl (aE rfl rfl (aD (d:=32) rfl rfl rfl rfl (aD (d:=32) rfl rfl rfl rfl (aD (d:=32) rfl rfl rfl rfl (aD (d:=32) rfl rfl rfl rfl (aD (d:=32) rfl rfl rfl rfl (aW rfl rfl rfl (aN (XF.thenN (dT rfl (aM (aQ (aC rfl rfl ?_))))))))))))))))))))))
    refine aN (XF.thenN (bL (XF.thenR (XF.res (cE results72 rfl) ?_))))
    exact ⟨dM (by unfold iU;dsimp only;rw [if_pos (by omega)]),hS.below⟩
   ·have hg21:=of_decide_eq_false hc;clear hc
    refine aB (d:=21) rfl rfl (aE rfl rfl (aB (d:=21) rfl rfl (gI rfl rfl rfl (bF rfl rfl rfl (aE rfl rfl (bH (d:=25) rfl (fun hc=>?_) (fun hc=>?_)))))))
    ·have hg25:=of_decide_eq_true hc;clear hc
     refine aD (d:=25) rfl rfl rfl rfl (aD (d:=25) rfl rfl rfl rfl (aD (d:=25) rfl rfl rfl rfl (aD (d:=25) rfl rfl rfl rfl (aD (d:=25) rfl rfl rfl rfl (aW rfl rfl rfl (aE rfl rfl (aD (d:=32) rfl rfl rfl rfl (aD (d:=32) rfl rfl rfl rfl (aD (d:=32) rfl rfl rfl rfl (aD (d:=32) rfl rfl rfl rfl (aD (d:=32) rfl rfl rfl rfl (aW rfl rfl rfl (aN (XF.thenN (dT rfl (aM (aQ (aC rfl rfl (aN (XF.thenN (bL (XF.thenR (XF.res (cE results72 rfl) ?_)))))))))))))))))))))))
     exact ⟨dM (by unfold iU;dsimp only;rw [if_pos (by omega)]),hS.below⟩
    ·have hg25:=of_decide_eq_false hc;clear hc
     refine aB (d:=25) rfl rfl (aK (o':=2) pN rfl rfl rfl (aB (d:=25) rfl rfl (aR isAgg58 rfl (aH (hS.at_ 0 rfl) rfl) rfl (aB (d:=25) rfl rfl (cC underlying58 rfl rfl (aB (d:=25) rfl rfl (aE rfl rfl (aB (d:=25) rfl rfl (dA rfl rfl rfl (bF rfl rfl rfl (aE rfl rfl (bH (d:=32) rfl (fun hc=>?_) (fun hc=>?_)))))))))))))
     ·have hg32:=of_decide_eq_true hc;clear hc
      refine aD (d:=32) rfl rfl rfl rfl (aD (d:=32) rfl rfl rfl rfl (aD (d:=32) rfl rfl rfl rfl (aD (d:=32) rfl rfl rfl rfl (aD (d:=32) rfl rfl rfl rfl (aW rfl rfl rfl (aN (XF.thenN (dT rfl (aM (aQ (aC rfl rfl (aN (XF.thenN (bL (XF.thenR (XF.res (cE results72 rfl) ?_))))))))))))))))
      exact ⟨dM (by unfold iU;dsimp only;rw [if_pos (by omega)]),hS.below⟩
     ·have hg32:=of_decide_eq_false hc;clear hc
      refine aB (d:=32) rfl rfl (aE rfl rfl (aB (d:=32) rfl rfl (aK (o':=0) kJ rfl rfl rfl (aB (d:=32) rfl rfl (aR isAgg3 rfl (aH (hS.at_ 0 rfl) rfl) rfl (aB (d:=32) rfl rfl ?_))))))
      refine lP rfl rfl (IntWalk.i64_in _ (by have h9:=rG (n:=nl) (s:=sy) (by omega) (by omega) (by omega);omega)) rfl ?_
      refine aB (d:=32) rfl rfl (gI rfl rfl rfl (bF rfl rfl rfl (aN (XF.thenN (bB rfl (fun hc=>?_) (fun hc=>?_))))))
      ·have hc38:=of_decide_eq_true hc;clear hc
       refine aM (aQ (aC rfl rfl (aN (XF.thenN (bL (XF.thenR (XF.res (cE results72 rfl) ?_)))))))
       exact ⟨dM (by unfold iU;dsimp only;rw [if_pos (by omega)]),hS.below⟩
      ·have hc38:=of_decide_eq_false hc;clear hc
       have h2:¬ (sy < 0∨4096 < sy∨nl < 1∨1024 < nl∨al≠nl∨65536 < (nl:Int) * sy):=by omega
       refine bI (XF.thenN (aM (aM (aQ (aC rfl rfl (aN (XF.thenN (bK (dQ (fun m l W=>∃ i:Nat,i≤nl∧m=nl - i∧l=[(1,.pointer (some ⟨B1,0,none⟩)),(3,.int .i64 (nl:Int)),(4,.int .i64 (i:Int))]∧(ns.take i).all (wE sy nl)=true∧St w [(B1,[.int .i64 sy,.slice na nl nc,.slice aa al ac],60)] [] [] W) (nl - 0) ([(1,_),(3,_),(4,_)]) ⟨rfl,rfl,rfl,trivial⟩ (⟨0,Nat.zero_le _,rfl,rfl,rfl,hS.clear⟩) ?_)))))))))
       clear hS
       rintro m l W ⟨i,hi,rfl,rfl,hall,hS⟩
       refine aM (aM (aQ (aE rfl rfl (aE rfl rfl (cK rfl rfl rfl (aN (XF.thenN (bB rfl (fun hc=>?_) (fun hc=>?_)))))))))
       ·have hc41:=of_decide_eq_true hc;clear hc
        have hk:i < nl:=by omega
        obtain ⟨r,hr⟩:∃ r,ns[i]?=some r:=⟨ns[i]'(by omega),by simp [show i < ns.length by omega]⟩
        obtain ⟨b,off,rfl,hcs⟩:=hnr i r hr
        have k1:=hS.old hcs
        obtain ⟨hrr,hrl,hrm⟩:=hri r (List.mem_of_getElem? hr)
        obtain ⟨ra9,rl9,rc9,xs9⟩:=r
        dsimp only at hrr hrl hrm k1 hcs
        refine bI (XF.thenN (aM (bK (aM (aM (lQ (m:=9) cF hS (by kernel_rfl) (by kernel_rfl) rfl (cL 1 rfl 1 rfl rfl (fun w hw=>aV (o':=1) iN rfl rfl) rfl (bC 2 rfl 44 0 rfl rfl rfl (fun w hw=>aZ isAgg57 rfl ((aP hw 0).cell (Nat.zero_le _) (aH (hS.at_ 0 rfl) rfl))) rfl (cL 3 rfl 4 rfl rfl (fun w hw=>bA rfl) rfl (aL 4 rfl (isV _) (aI _) (rgV (li:=[(45,_),(46,_)]) rfl (aS rfl) ⟨aO 1 (aA rfl rfl rfl),aO 2 (aA rfl rfl rfl),trivial⟩ (fun w hw=>bG  underlying57 sizeOf26 rfl rfl rfl (by omega) rfl) (aG rfl)) (bC 5 rfl 47 3 rfl rfl rfl (fun w hw=>aZ isAgg26 rfl ((aP hw 0).cell (Nat.zero_le _) (k1))) rfl (bC 6 rfl 48 4 rfl rfl rfl (fun w hw=>qA underlying26 rfl) rfl (cL 7 rfl 1 rfl rfl (fun w hw=>aV (o':=0) kJ rfl rfl) rfl (bC 8 rfl 50 6 rfl rfl rfl (fun w hw=>aZ isAgg3 rfl ((aP hw 0).cell (Nat.zero_le _) (aH (hS.at_ 0 rfl) rfl))) rfl (aL 9 rfl (isV _) (aI _) (rgV (li:=[(49,_),(51,_)]) rfl (aS rfl) ⟨aO 5 (aA rfl rfl rfl),aO 7 (aA rfl rfl rfl),trivial⟩ (fun w hw=>Dc rfl rfl) (aG rfl)) (dW ?_))))))))))))))))
        intro W2 hbR hS'
        clear hS;have hS:=hS';clear hS'
        refine aJ (aJ (aJ (aJ (aJ (aJ (aJ (aJ (aJ (cQ (XF.thenN (bB rfl (fun hc=>?_) (fun hc=>?_))))))))))))
        ·have hc52:=hc;clear hc
         have hls:=of_decide_eq_true hc52
         refine aM (aQ (aC rfl rfl (aN (XF.thenN (bL (XF.thenR (XF.blkR (XF.thenR (XF.thenR (XF.blkR (XF.thenR (XF.res (cE results72 rfl) ?_))))))))))))
         exact ⟨dM (by unfold iU;dsimp only;rw [if_neg h2,if_neg (by rw [cJ hr (by unfold wE;dsimp only;rw [decide_eq_false hls];rfl)];decide)]),hS.below⟩
        ·have hc52:=hc;clear hc
         have hls:(rl9:Int)=sy:=Decidable.of_not_not (of_decide_eq_false hc52)
         refine bI (XF.thenN (aM (aQ (aC rfl rfl (aN (XF.thenN (bK (dQ (fun m l W=>∃ j:Nat,j≤rl9∧m=rl9 - j∧l=[(1,.pointer (some ⟨B1,0,none⟩)),(3,.int .i64 (nl:Int)),(4,.int .i64 (i:Int)),(5,.int .i64 (j:Int))]∧(xs9.take j).all (fun y=>inQ y (nl:Int))=true∧St w [(B1,[.int .i64 sy,.slice (some ⟨b,off,none⟩) nl nc,.slice aa al ac],60)] [] [] W) (rl9 - 0) ([(1,_),(3,_),(4,_),(5,_)]) ⟨rfl,rfl,rfl,rfl,trivial⟩ (⟨0,Nat.zero_le _,rfl,rfl,rfl,hS.clear⟩) ?_))))))))
         clear hS
         rintro m l W ⟨j,hj,rfl,rfl,hrow,hS⟩
         refine aM (aM (aQ (aE rfl rfl (aK (o':=0) kJ rfl rfl rfl (aR isAgg3 rfl (aH (hS.at_ 0 rfl) rfl) rfl (cK rfl rfl rfl (aN (XF.thenN (bB rfl (fun hc=>?_) (fun hc=>?_))))))))))
         ·have hc56:=of_decide_eq_true hc;clear hc
          have hk2:j < rl9:=by omega
          obtain ⟨b2,off2,y,rfl,hy,hyc⟩:=hrr.at1 (show j < xs9.length by omega)
          have k2:=hS.old hyc
          have k3:=hS.old hcs
          refine bI (XF.thenN (aM (bK (aM (aQ (aK (o':=1) iN rfl rfl rfl (aR isAgg57 rfl (aH (hS.at_ 0 rfl) rfl) rfl (aE rfl rfl (bZ  underlying57 sizeOf26 rfl rfl rfl (by omega) rfl rfl (aR isAgg26 rfl (k3) rfl (aE rfl rfl (bZ  underlying26 sizeOf3 rfl rfl rfl (by omega) rfl rfl (aR isAgg3 rfl (k2) rfl (cK rfl rfl rfl (aE rfl rfl (bH (d:=68) rfl (fun hc=>?_) (fun hc=>?_)))))))))))))))))
          ·have hg68:=of_decide_eq_true hc;clear hc
           refine aD (d:=68) rfl rfl rfl rfl (aD (d:=68) rfl rfl rfl rfl (aD (d:=68) rfl rfl rfl rfl (aD (d:=68) rfl rfl rfl rfl (aD (d:=68) rfl rfl rfl rfl (aD (d:=68) rfl rfl rfl rfl (aD (d:=68) rfl rfl rfl rfl (aD (d:=68) rfl rfl rfl rfl (aD (d:=68) rfl rfl rfl rfl (aD (d:=68) rfl rfl rfl rfl (aW rfl rfl rfl (aN (XF.thenN (dT rfl (aM (aQ (aC rfl rfl (aN (XF.thenN (bL (XF.blkR (XF.thenR (XF.thenR (XF.blkR ?_)))))))))))))))))))))))
           refine XF.blkR (XF.thenR (XF.thenR (XF.blkR (XF.thenR (XF.res (cE results72 rfl) ?_)))))
           exact ⟨dM (by unfold iU;dsimp only;rw [if_neg h2,if_neg (by rw [cJ hr (by unfold wE;dsimp only;rw [cJ hy (by simp [inQ];omega),Bool.and_false])];decide)]),hS.below⟩
          ·have hg68:=of_decide_eq_false hc;clear hc
           refine aB (d:=68) rfl rfl (aK (o':=1) iN rfl rfl rfl (aB (d:=68) rfl rfl (aR isAgg57 rfl (aH (hS.at_ 0 rfl) rfl) rfl (aB (d:=68) rfl rfl (aE rfl rfl (aB (d:=68) rfl rfl (bZ  underlying57 sizeOf26 rfl rfl rfl (by omega) rfl rfl (aB (d:=68) rfl rfl (aR isAgg26 rfl (k3) rfl (aB (d:=68) rfl rfl (aE rfl rfl (aB (d:=68) rfl rfl (bZ  underlying26 sizeOf3 rfl rfl rfl (by omega) rfl rfl (aB (d:=68) rfl rfl (aR isAgg3 rfl (k2) rfl (aB (d:=68) rfl rfl (aE rfl rfl (aB (d:=68) rfl rfl (lO rfl rfl rfl (bF rfl rfl rfl ?_))))))))))))))))))))
           refine aN (XF.thenN (bB rfl (fun hc=>?_) (fun hc=>?_)))
           ·have hc79:=of_decide_eq_true hc;clear hc
            refine aM (aQ (aC rfl rfl (aN (XF.thenN (bL (XF.blkR (XF.thenR (XF.thenR (XF.blkR (XF.blkR (XF.thenR (XF.thenR (XF.blkR (XF.thenR (XF.res (cE results72 rfl) ?_)))))))))))))))
            exact ⟨dM (by unfold iU;dsimp only;rw [if_neg h2,if_neg (by rw [cJ hr (by unfold wE;dsimp only;rw [cJ hy (by simp [inQ];omega),Bool.and_false])];decide)]),hS.below⟩
           ·have hc79:=of_decide_eq_false hc;clear hc
            refine bI (XF.blkN (XF.thenN (aQ (aE rfl rfl (cP rfl rfl (IntWalk.i64_in _ (by omega)) rfl (aC rfl rfl (aN ?_)))))))
            exact XF.round (rl9 - (j+1)) [(1,_),(3,_),(4,_),(5,_)] (by omega) ⟨rfl,rfl,rfl,rfl,trivial⟩ ⟨j+1,by omega,rfl,rfl,eC hy hrow (by simp [inQ];omega),hS.clear⟩
         ·have hc56:=of_decide_eq_false hc;clear hc
          rw [List.take_of_length_le (by omega)] at hrow
          refine dP (XF.thenX (XF.thenX (XF.blkX (XF.blkN (XF.thenN (aQ (aE rfl rfl (cP rfl rfl (IntWalk.i64_in _ (by omega)) rfl (aC rfl rfl (aN ?_))))))))))
          exact XF.round (nl - (i+1)) [(1,_),(3,_),(4,_)] (by omega) ⟨rfl,rfl,rfl,trivial⟩ ⟨i+1,by omega,rfl,rfl,eC hr hall (by unfold wE;dsimp only;rw [hrow,decide_eq_true hls];rfl),hS.clear⟩
       ·have hc41:=of_decide_eq_false hc;clear hc
        rw [List.take_of_length_le (by omega)] at hall
        refine dP (XF.thenX (XF.thenX (XF.blkX (XF.thenN (aM (aQ (aC rfl rfl (aN (XF.thenN (bL (XF.res (cE results72 rfl) ?_)))))))))))
        exact ⟨dM (by unfold iU;dsimp only;rw [if_neg h2,if_pos hall]),hS.below⟩
theorem dfaR_is (d:DV) (w:World) (h:DIn w d):Calls prog 72 #[d.val] w (fun e w'=>e = .returned (.int .i64 (iU d))∧Below w.heap.size w w'):=dfaR_c _ _ _ _ _ _ _ _ d.bs w h.nrow h.nlen h.rin h.nmax h.amax
theorem Ue {w:World} {b:Nat} {x:Int} {T:TypeId} (h:w.heap[b]?=some (.cells (List.toArray [.int .i64 x]) T (0,0))):Row w (some ⟨b,0,none⟩) [x]:=by
 refine .inr ⟨b,0,rfl,fun i hi=>?_⟩
 have:i=0:=by simp at hi;omega
 subst this
 simp [World.cell?,h]
structure M9 where
 f:Int
 g:Int
 t:Int
 x:WF
abbrev M9.nine (r:M9):List Value:=sK r.f r.g r.t r.x
abbrev M9.pl (r:M9):Int×Int×Int:=(r.f,r.g,r.t)
def M9Row (w:World) (a:Option Addr) (ns:List M9):Prop:=∀ (i:Nat) r,ns[i]?=some r→∃ b off,a=some ⟨b,off,none⟩∧aF w b (off+i * 9) r.nine
theorem tJ {W:World} {lo c n:Nat} {a:Option Addr} {ns:List M9} {T:TypeId} (h:W.ownsRow lo T 9 (.slice a n c) n (ns.flatMap M9.nine)):M9Row W a ns:=fun i y hi=>by
 rcases lA h with ⟨_,h2⟩ | ⟨b,rfl,_,hc⟩
 ·have h3:=h.1
  subst h2
  have h4:(ns.flatMap M9.nine).length=0:=by simpa using h3
  have h5:ns=[]:=by
   cases ns with
   | nil=>rfl
   | cons z l=>simp [sK] at h4
  rw [h5] at hi;simp at hi
 ·refine ⟨b,0,rfl,aF.of fun j v hj=>hc _ _ ?_⟩
  have key:∀ (l:List M9) (i:Nat),l[i]?=some y→((l.flatMap M9.nine).drop (i * 9)).take 9=y.nine:=by
   intro l
   induction l with
   | nil=>intro i h;simp at h
   | cons z l ih =>
    intro i h
    cases i with
    | zero=>simp at h;subst h;rfl
    | succ i =>
     have e:(i+1) * 9=9+i * 9:=by omega
     rw [List.flatMap_cons,e,← List.drop_drop]
     exact ih i (by simpa using h)
  have hj9:j < 9:=(List.getElem?_eq_some_iff.1 hj).1
  rw [← key ns i hi,List.getElem?_take,if_pos hj9,List.getElem?_drop] at hj
  rw [Nat.zero_add];exact hj
def XM (M:World→Prop) (S:PS) (ns:List M9) (xs:List PX):Prop:=ns.length=xs.length∧∀ (i:Nat) r x,ns[i]?=some r→xs[i]?=some x→Aa M S r.x x
theorem XM.nil {M:World→Prop} {S:PS}:XM M S [] []:=⟨rfl,fun i r x h=>by simp at h⟩
theorem XM.mono {M M':World→Prop} {S:PS} {ns:List M9} {xs:List PX} (h:XM M S ns xs) (hm:∀ W,M' W→M W):XM M' S ns xs:=⟨h.1,fun i r x h1 h2=>(h.2 i r x h1 h2).mono hm⟩
theorem XM.app {M:World→Prop} {S:PS} {ns:List M9} {xs:List PX} {r:M9} {x:PX} (h:XM M S ns xs) (hx:Aa M S r.x x):XM M S (ns++[r]) (xs++[x]):=⟨by simp [h.1],fun i g y hg hy=>by
 rcases Nat.lt_or_ge i ns.length with h1 | h1
 ·rw [List.getElem?_append_left h1] at hg
  rw [List.getElem?_append_left (by rw [← h.1];exact h1)] at hy
  exact h.2 i g y hg hy
 ·rw [List.getElem?_append_right h1] at hg
  rw [List.getElem?_append_right (by rw [← h.1];exact h1),← h.1] at hy
  cases hk:i - ns.length with
  | zero=>rw [hk] at hg hy;simp at hg hy;subst hg;subst hy;exact hx
  | succ k=>rw [hk] at hg;simp at hg⟩
structure AuG (o:Option PS) (pl:List (Int×Int×Int)) (xs:List PX) (fs:List Int) (W:World) (sf:SF) (fa ta:Option Addr) (ns:List M9):Prop where
 sp:Spc o W sf
 f:Row W fa fs
 t:M9Row W ta ns
 x:∀ S,o=some S→XM (fun W2=>Below W.heap.size W W2) S ns xs
 no:o=none→ns=[]
 pl:ns.map M9.pl=pl
theorem It (w:World) (a b:Option Addr):AuG none [] [] [] w ⟨0,0,none,0,0⟩ a b []:=⟨rfl,.inl rfl,(fun i r h=>by simp at h),(fun S e=>by cases e),fun _=>rfl,rfl⟩
def Fi (d:DV) (k:Nat) (g:Int):Int:=(((d.ns[k]?).map (·.xs)).getD []).getD g.toNat 0
def toK (d:DV) (g:Int) (k:Nat):Int:=if 0≤g then Fi d k g else (k:Int)
def xB (d:DV) (t:TV) (k:Nat):List (Int×Int×Int):=(List.range k).map (fun (j:Nat)=>(t.f * (d.nl:Int)+(j:Int),t.g,t.t * (d.nl:Int)+toK d t.g j))
def mPl (d:DV) (ts:List TV):List (Int×Int×Int):=ts.flatMap (fun t=>xB d t d.nl)
def mXs (py:TV→PX) (n:Nat) (ts:List TV):List PX:=ts.flatMap (fun t=>List.replicate n (py t))
def sD (d:DV) (s:Int) (k:Nat):List Int:=((List.range k).filter (fun (j:Nat)=>d.bs.getD j false)).map (fun (j:Nat)=>s * (d.nl:Int)+(j:Int))
def mFs (d:DV) (fs:List Int):List Int:=fs.flatMap (fun s=>sD d s d.nl)
theorem Da (d:DV) (t:TV) (k:Nat):xB d t (k+1)=xB d t k++[(t.f * (d.nl:Int)+(k:Int),t.g,t.t * (d.nl:Int)+toK d t.g k)]:=by
 unfold xB;rw [List.range_succ,List.map_append];rfl
theorem Ap (d:DV) (t:TV) (k:Nat):(xB d t k).length=k:=by simp [xB]
theorem Iu {d:DV} {ts:List TV} {i:Nat} {t:TV} (h:ts[i]?=some t):mPl d (ts.take (i+1))=mPl d (ts.take i)++xB d t d.nl:=by
 unfold mPl;rw [List.take_add_one,h,List.flatMap_append];simp
theorem Iv {py:TV→PX} {n:Nat} {ts:List TV} {i:Nat} {t:TV} (h:ts[i]?=some t):mXs py n (ts.take (i+1))=mXs py n (ts.take i)++List.replicate n (py t):=by
 unfold mXs;rw [List.take_add_one,h,List.flatMap_append];simp
theorem xQ (d:DV) (ts:List TV):(mPl d ts).length=ts.length * d.nl:=by
 unfold mPl
 induction ts with
 | nil=>simp
 | cons t l ih=>rw [List.flatMap_cons,List.length_append,ih,Ap,List.length_cons,Nat.add_mul,Nat.one_mul,Nat.add_comm]
theorem rZ (d:DV) (s:Int) (k:Nat):sD d s (k+1)=sD d s k++(if d.bs.getD k false then [s * (d.nl:Int)+(k:Int)] else []):=by
 unfold sD;rw [List.range_succ,List.filter_append,List.map_append]
 congr 1
 rw [show List.filter (fun (j:Nat)=>d.bs.getD j false) [k]=if d.bs.getD k false then [k] else [] by simp only [List.filter_cons,List.filter_nil]]
 cases d.bs.getD k false<;>rfl
theorem Iw {d:DV} {fs:List Int} {i:Nat} {s:Int} (h:fs[i]?=some s):mFs d (fs.take (i+1))=mFs d (fs.take i)++sD d s d.nl:=by
 unfold mFs;rw [List.take_add_one,h,List.flatMap_append];simp
theorem Aq (d:DV) (s:Int) (k:Nat):(sD d s k).length≤k:=by
 unfold sD
 rw [List.length_map]
 exact Nat.le_trans (List.length_filter_le _ _) (by simp)
theorem xR (d:DV) (fs:List Int):(mFs d fs).length≤fs.length * d.nl:=by
 unfold mFs
 induction fs with
 | nil=>simp
 | cons s l ih =>
  rw [List.flatMap_cons,List.length_append,List.length_cons,Nat.add_mul,Nat.one_mul]
  have:=Aq d s d.nl
  omega
theorem Qg {d:DV} {s:Int} {k:Nat} (h:∀ j,j < k→d.bs.getD j false=false):sD d s k=[]:=by
 unfold sD
 rw [List.filter_eq_nil_iff.2 fun j hj=>by rw [h j (List.mem_range.1 hj)];decide]
 rfl
theorem Uf {d:DV} {fs:List Int} (h:∀ j,j < d.nl→d.bs.getD j false=false):mFs d fs=[]:=by
 unfold mFs
 rw [List.flatMap_eq_nil_iff]
 exact fun s _=>Qg h
theorem vD {st:Int} {fs:List Int} (h:zX st fs=true):(fs.length:Int)≤max st 0:=by
 have key:∀ i,i < fs.length→(i:Int)≤fs.getD i 0∧fs.getD i 0 < st:=by
  intro i
  induction i with
  | zero =>
   intro hi
   have h1:=List.all_eq_true.1 h 0 (List.mem_range.2 hi)
   unfold jL at h1
   simp only [Bool.and_eq_true,inQ,decide_eq_true_eq] at h1
   omega
  | succ i ih =>
   intro hi
   have h0:=ih (by omega)
   have h1:=List.all_eq_true.1 h (i+1) (List.mem_range.2 hi)
   unfold jL at h1
   simp only [Bool.and_eq_true,Bool.or_eq_true,inQ,decide_eq_true_eq,Nat.add_sub_cancel] at h1
   have h2:=h1.2.resolve_left (by omega)
   omega
 cases hl:fs.length with
 | zero=>simp;omega
 | succ n =>
  have:=key n (by omega)
  omega
def eO (a:AV) (d:DV):Int:=if dD a≠0 then dD a else if iU d≠0∨d.sy≠a.sy then 90 else if 4096 < a.st * (d.nl:Int)∨65536 < (a.tl:Int) * (d.nl:Int) then 3 else 0
theorem tK {a:AV} {d:DV} (h:eO a d=0):dD a=0∧iU d=0∧d.sy=a.sy∧a.st * (d.nl:Int)≤4096∧(a.tl:Int) * (d.nl:Int)≤65536:=by
 unfold eO at h
 by_cases h1:dD a≠0
 ·rw [if_pos h1] at h;exact absurd h h1
 rw [if_neg h1] at h
 by_cases h2:iU d≠0∨d.sy≠a.sy
 ·rw [if_pos h2] at h;cases h
 rw [if_neg h2] at h
 by_cases h3:4096 < a.st * (d.nl:Int)∨65536 < (a.tl:Int) * (d.nl:Int)
 ·rw [if_pos h3] at h;cases h
 refine ⟨Decidable.of_not_not h1,?_,?_,by omega,by omega⟩
 ·exact Decidable.of_not_not fun h=>h2 (.inl h)
 ·exact Decidable.of_not_not fun h=>h2 (.inr h)
structure DOk (d:DV):Prop where
 sy:0≤d.sy∧d.sy≤4096
 nl:1≤d.nl∧d.nl≤1024
 al:d.al=d.nl
 row:∀ (k:Nat) r,d.ns[k]?=some r→(r.l:Int)=d.sy∧∀ y∈r.xs,inQ y (d.nl:Int)=true
theorem Ar {d:DV} (h:iU d=0):DOk d:=by
 unfold iU at h
 by_cases h1:d.sy < 0∨4096 < d.sy∨d.nl < 1∨1024 < d.nl∨d.al≠d.nl∨65536 < (d.nl:Int) * d.sy
 ·rw [if_pos h1] at h;cases h
 rw [if_neg h1] at h
 by_cases h2:d.ns.all (wE d.sy d.nl)=true
 ·refine ⟨by omega,by omega,by omega,fun k r hr=>?_⟩
  have h3:=List.all_eq_true.1 h2 r (List.mem_of_getElem? hr)
  unfold wE at h3
  rw [Bool.and_eq_true] at h3
  exact ⟨of_decide_eq_true h3.1,fun y hy=>List.all_eq_true.1 h3.2 y hy⟩
 ·rw [if_neg h2] at h;cases h
abbrev AZ7:List Value:=[.int .i64 0,.int .i64 0,.slice none 0 0,.int .i64 0,.int .i64 0,.slice none 0 0,.slice none 0 0]
def Ug (S:PS) (py:TV→PX) (a:AV) (d:DV) (w:World) (e:Ending) (w':World):Prop:=Below w.heap.size w w'∧((e = .returned (.tuple #[.agg AZ7.toArray,.int .i64 (eO a d)])∧eO a d≠0) ∨
 (eO a d=0∧∃ (sq:SF) (fa2 ta2:Option Addr) (fc2 tc2:Nat) (ns:List M9),e = .returned (.tuple #[.agg #[.int .i64 sq.tag,.int .i64 sq.dim,.slice sq.a sq.len sq.cap,.int .i64 (a.st * (d.nl:Int)),.int .i64 a.sy,.slice fa2 (mFs d a.fs).length fc2,.slice ta2 ns.length tc2],.int .i64 0]) ∧
  ∀ W2,Below w.heap.size w W2→dG w.heap.size w' W2→AuG (some S) (mPl d a.ts) (mXs py d.nl a.ts) (mFs d a.fs) W2 sq fa2 ta2 ns))
end Go.Proofs.YtmgnkpibpjgncaaGreatDoor
