import Derived.Lib.SmallJoins
import Derived.ChangeSlices
import Derived.ChangeSame
import Derived.ProofKit
import Derived.Deep.Slices
import Derived.Deep.Fields
import Derived.Test.YtghmbejblbnjjaaDsD
set_option maxRecDepth 100000
set_option maxHeartbeats 4000000
set_option linter.unusedVariables false
set_option linter.unusedSimpArgs false
set_option linter.unusedSectionVars false
set_option linter.unnecessarySimpa false
namespace Go.Proofs.Ytghmbejblbnjjaa
open Go.Proofs.Try
section
open Go.RowKit
theorem St.permR9 {w0 W:World} {O:Own} {G G':bI} {K:List (Nat×World)} (h:St w0 O G K W) (hp:G.Perm G'):St w0 O G' K W where
 below:=h.below
 own:=h.own
 dist:=h.dist
 kept:=h.kept
 rows:=fun g hg=>h.rows g (hp.mem_iff.2 hg)
 gdist:=(hp.pairwise_iff (fun {x y} (h:Value.apart x.v y.v) b hb hc=>h b hc hb)).1 h.gdist
theorem evl29 {a:Act} {t u:Nat} {v x:Value} (h:a.eval (.tmp t)=v) (k:a.eval (.tmp u)=x):∀ z y,evL [(t,v),(u,x)] z=some y→a.eval z=y:=by
 intro z y hz
 cases z with
 | tmp s =>
  simp only [evL,dF] at hz
  cases hb:Nat.beq t s with
  | true=>simp [hb] at hz;rw [← Nat.eq_of_beq_eq_true hb,← hz];exact h
  | false =>
   cases hc:Nat.beq u s with
   | true=>simp [hb,hc] at hz;rw [← Nat.eq_of_beq_eq_true hc,← hz];exact k
   | false=>simp [hb,hc] at hz
 | const c=>exact Option.some.inj hz
 | global g=>exact Option.some.inj hz
 | func f=>exact Option.some.inj hz
theorem Ap {A:FA} {l:List Nat} {i c:Nat} {b:Bool} (h:l.getD i 0=c) (hb:b=A.ac c):(List.range i).map (fun j=>A.ac (l.getD j 0))++[b]=(List.range (i+1)).map (fun j=>A.ac (l.getD j 0)):=by
 rw [List.range_succ,List.map_append,List.map_singleton,h,hb]
theorem acl_up {A:FA} {i p q:Nat} (h:p≤q) (hi:i≤(qm A id p).length):(List.range i).map (fun j=>A.ac ((qm A id q).getD j 0))=(List.range i).map (fun j=>A.ac ((qm A id p).getD j 0)):=List.map_congr_left fun j hj=>by
 rw [fZ h (Nat.lt_of_lt_of_le (List.mem_range.1 hj) hi)]
theorem Aq {α:Type} {a b c d:α} {l:List α}:(a::b::c::d::l).Perm (d::a::b::c::l):=List.perm_middle (l₁:=[a,b,c])
theorem permG5 {α:Type} {n a x y z:α} {l:List α}:(n::a::x::y::z::l).Perm (x::y::z::n::a::l):=by
 have h1:([n,a]++([x,y,z]++l)).Perm ([x,y,z]++([n,a]++l)):=List.perm_append_comm_assoc _ _ _
 exact h1
theorem Ar {A:FA} {q:TB} {cls:Nat→Nat} {N:Nat} (hQ:QuoOk A cls N) (hn:q.n=N) (hk:q.k=A.k) (hq:TOk q) (hx:∀ p,p < N * A.k→gN q.xs p=qfl A cls p) (hb:∀ i,i < N→q.bs.getD i false=A.ac ((qm A cls (N * A.k)).getD i 0)):Agr q.fa (quo A cls N):=by
 refine ⟨hn,hk,hq.fa,fun s x hs hx9=>?_,fun s hs=>?_⟩
 ·have h1:s < N:=by rw [← hn];exact hs
  have h2:x < A.k:=by rw [← hk];exact hx9
  show gN q.xs (s * q.k+x)=qfl A cls (s * A.k+x)
  rw [hk]
  exact hx _ (kC h1 h2)
 ·exact hb s (by rw [← hn];exact hs)
theorem wE {A:FA} {cls:Nat→Nat} {n p:Nat} (h:p < n):gN ((List.range n).map (qfl A cls)) p=qfl A cls p:=by
 unfold gN;rw [List.getD_eq_getElem?_getD,List.getElem?_map,List.getElem?_range h];rfl
theorem uP (t:TB) (mo:Nat) (Kt:List (Nat×World)) (Ot:Own) (G:bI) (K:List (Nat×World)) (w0 w:World) (v:Value) (hv:v=t.val) (hS0:St w0 Ot G K w) (hT:TOk t) (hKt:∀ q∈Kt,q∈K) (hB:cT w0 Kt (TAt t)) (hmo:t.n≤mo):Calls prog 33 #[v,.int .i64 (mo:Int)] w (fun e w'=>∃ (q:TB) (Kn:List (Nat×World)),e = .returned (.tuple #[q.val,.bool true])∧q.k=t.k∧q.n≤t.n∧TOk q∧q.fa.Ord∧q.fa.Red∧Eqv q.fa 0 t.fa 0∧(∀ q∈K,q∈Kn)∧cT w0 Kn (TAt q)∧St w0 Ot G Kn w'):=by
 subst hv;exact kE t mo Kt Ot G K w0 w hS0 hT hKt hB hmo
theorem cong_id {A:FA}:Cong A id:=⟨fun s t _ _ e=>by rw [show s=t from e],fun s t x _ _ _ e=>by rw [show s=t from e]⟩
theorem tF (ta tb:TB) (g:Bool→Bool→Bool) (f:FuncId) (mo PB MB ll0:Nat) (la fa ba:Option Addr) (lc fc bc:Nat) (Kt:List (Nat×World)) (Ot:Own) (G:bI) (K:List (Nat×World)) (w0 w:World) (hgo:bZ prog f=true) (hf:∀ x y w,Calls prog f #[.bool x,.bool y] w (fun e w'=>e = .returned (.bool (g x y))∧Below w.heap.size w w')) (h1:ll0=1) (hS0:St w0 ((PB,prC ta tb MB (.slice la (ll0) lc) (.slice fa (ll0) fc) (.slice ba (ll0) bc),93)::Ot) (⟨.slice la (ll0) lc,ll0,prs tb.n ([0]),95,2⟩::⟨.slice fa (ll0) fc,ll0,cR ([-1]),21,1⟩::⟨.slice ba (ll0) bc,ll0,cR ([-1]),21,1⟩::G) K w) (hTta:TOk ta) (hTtb:TOk tb) (hna:ta.n≤1024) (hnb:tb.n≤1024) (hk:ta.k=tb.k) (hnn:ta.n * tb.n≤4096) (hmo:ta.n * tb.n≤mo) (hKt:∀ q∈Kt,q∈K) (hB:cT w0 Kt (fun W=>TAt ta W∧TAt tb W)) (hM:MkP tb.n [0] MB w) (hMb:w0.heap.size≤MB) (hMK:∀ q∈K,MB < q.1∨q.2.heap.size≤MB) :
  Calls prog 59 #[.pointer (some ⟨PB,0,none⟩),.int .i64 (mo:Int),.func (.func f) #[] #[]] w (fun e w'=>∃ (q:TB) (Kn:List (Nat×World)),e = .returned (.tuple #[q.val,.bool true])∧TOk q∧q.k=ta.k∧q.n≤ta.n * tb.n∧q.fa.Ord∧q.fa.Red∧Eqv q.fa 0 (bG ta.fa tb.fa g) 0∧(∀ q∈K,q∈Kn)∧cT w0 Kn (TAt q)∧St w0 Ot G Kn w'):=by
 refine cP (args:=[.pointer (some ⟨PB,0,none⟩),.int .i64 (mo:Int),.func (.func f) #[] #[]]) func59 rfl ntmps59 rfl ?_
 have hS:=hS0
 have hA:(bG ta.fa tb.fa g).Ok:=vS hTta.fa hTtb.fa hk
 have hka:=hTta.k1
 have hS:=hS.markK hM
 have ez:0 * ta.k=0:=Nat.zero_mul _
 refine aH (aN (cE (cs:=[_,_,_]) hS zeroValue61 rfl rfl fun B1 W1 hS=>aB rfl rfl (aK (XF.thenN (aH (aN (aA rfl rfl (bE rfl rfl (aR (o':=0) lW rfl rfl rfl (aR (o':=0) gK rfl rfl rfl (aP isAgg3 rfl (aD (hS.at_ 1 rfl) rfl) rfl (eG (us:=[(0,.int .i64 _)]) rfl (sV _) rfl (cE (cs:=[_,_,_]) hS zeroValue61 rfl rfl fun B2 W2 hS=>bU (i:=0) (vs:=[_,_,_]) (cs':=[_,_,_]) (O':=(_::_::_::Ot)) hS sizeOf61 rfl rfl rfl rfl rfl rfl rfl fun W3 hS=>aK (XF.thenN (aH ?_)))))))))))))))
 have hS':=((hS.newG 4 1).newG 21 1).permR9 permG5;clear hS;have hS:=hS';clear hS'
 refine aN (aB rfl rfl (aK (XF.thenN (aH (aH (aN (aB rfl rfl (aK (XF.thenN (bL ?_))))))))))
 refine cY (fun m l W=>∃ (i:Nat) (la fa ba na aa:Option Addr) (lc fc bc nc ac ll:Nat) (F Y:List Int),i≤ll∧m=4096 - i∧l=[(0,.pointer (some ⟨PB,0,none⟩)),(1,.int .i64 (mo:Int)),(2,.func (.func f) #[] #[]),(6,.pointer (some ⟨B1,0,none⟩)),(8,.pointer (some ⟨B2,0,none⟩)),(9,.bool false),(10,.int .i64 (i:Int))]∧(qm (bG ta.fa tb.fa g) id (i * ta.k)).length=ll∧(∀ j,j < i→j < (qm (bG ta.fa tb.fa g) id (j * ta.k)).length)∧MkP tb.n (qm (bG ta.fa tb.fa g) id (i * ta.k)) MB W∧St w0 ((B2,[.int .i64 (ta.k:Int),.slice na (i * ta.k) nc,.slice aa (i) ac],61)::(B1,[.int .i64 0,.slice none 0 0,.slice none 0 0],61)::(PB,prC ta tb MB (.slice la (ll) lc) (.slice fa (ll) fc) (.slice ba (ll) bc),93)::Ot) (⟨.slice la (ll) lc,ll,prs tb.n (qm (bG ta.fa tb.fa g) id (i * ta.k)),95,2⟩::⟨.slice fa (ll) fc,ll,cR (F),21,1⟩::⟨.slice ba (ll) bc,ll,cR (Y),21,1⟩::⟨.slice na (i * ta.k) nc,i * ta.k,i32 ((List.range (i * ta.k)).map (qfl (bG ta.fa tb.fa g) id)),21,1⟩::⟨.slice aa (i) ac,i,bvs ((List.range (i)).map (fun j=>(bG ta.fa tb.fa g).ac ((qm (bG ta.fa tb.fa g) id (i * ta.k)).getD j 0))),4,1⟩::G) K W) (4096 - 0) ([(0,_),(1,_),(2,_),(6,_),(8,_),(9,_),(10,_)]) ⟨rfl,rfl,rfl,rfl,rfl,rfl,rfl,trivial⟩ (⟨0,la,fa,ba,none,none,lc,fc,bc,0,0,ll0,[-1],[-1],Nat.zero_le _,rfl,rfl,by rw [ez];exact h1.symm,fun j hj=>absurd hj (Nat.not_lt_zero _),by rw [ez];exact hM.at_ hS (by simp),by rw [ez];exact hS.keep K (fun q hq=>by simp [hq])⟩) ?_
 clear hS
 rintro m l W ⟨i,la,fa,ba,na,aa,lc,fc,bc,nc,ac,ll,F,Y,hi,rfl,rfl,hll,hrows,hM2,hS⟩
 have hS:=hS.markK hM2
 have hqr:fQ (bG ta.fa tb.fa g) id (i * ta.k):=fun q hq=>by
  obtain ⟨d1,_,d3⟩:=eA hq
  exact Nat.lt_of_lt_of_le (hrows _ d1) (fX d3)
 obtain ⟨hq1,hq2⟩:=mP (cm:=ta.n * tb.n) hA (fun _=>hqr) (fun h0=>by have h9:ta.k=0:=h0;rw [h9,Nat.mul_zero]) (fun x hx=>hx)
 refine aH (aH (aN (aA rfl rfl (aA rfl rfl (bE rfl rfl (aR (o':=7) gM rfl rfl rfl (aP isAgg91 rfl (aD (hS.at_ 2 rfl) rfl) rfl (bW underlying91 rfl rfl (cG rfl rfl rfl (aK (XF.thenN (bR rfl (fun hc=>?_) (fun hc=>?_)))))))))))))
 ·have hc27:=of_decide_eq_true hc;clear hc
  obtain ⟨c,hcE⟩:∃ c,(qm (bG ta.fa tb.fa g) id (i * ta.k)).getD i 0=c:=⟨_,rfl⟩
  have hcx:(qm (bG ta.fa tb.fa g) id (i * ta.k))[i]?=some c:=by rw [← hcE,List.getD_eq_getElem?_getD,List.getElem?_eq_getElem (by omega)];rfl
  have hc9:c < ta.n * tb.n:=hq2 _ (List.mem_of_getElem? hcx)
  obtain ⟨hsta,hstb,_⟩:=eA hc9
  obtain ⟨lb,rfl⟩:=fR (hS.row 0 rfl) (by omega)
  refine bS (XF.thenN (aH (bL (aH (aH (aN (aA rfl rfl (iN rfl rfl (aA rfl rfl (aC (d:=32) rfl rfl (aA rfl rfl (aC (d:=32) rfl rfl (bE rfl rfl (aC (d:=32) rfl rfl (aR (o':=7) gM rfl rfl rfl (aC (d:=32) rfl rfl (aP isAgg91 rfl (aD (hS.at_ 2 rfl) rfl) rfl (aC (d:=32) rfl rfl (bW underlying91 rfl rfl (aC (d:=32) rfl rfl (fO rfl rfl rfl (aY rfl rfl rfl (aK (XF.thenN (bR rfl (fun hc=>absurd (of_decide_eq_true hc) (by omega)) (fun hc=>?_))))))))))))))))))))))))))
  have hc:=of_decide_eq_false hc
  refine bS (XF.thenN (aH (aN (aA rfl rfl (bE rfl rfl (aR (o':=7) gM rfl rfl rfl (aP isAgg91 rfl (aD (hS.at_ 2 rfl) rfl) rfl (aA rfl rfl (aV (j:=i) (b:=lb) (o:=0) (m:=ll) (c:=lc) underlying91 sizeOf95 rfl rfl rfl (by omega) rfl rfl (bJ (vs:=[_,_]) isAgg95 sizeOf95 rfl (nZ (f:=prc tb.n) (cs:=qm (bG ta.fa tb.fa g) id (i * ta.k)) (hS.row 0 rfl) (fun x=>⟨_,_,rfl⟩) hcx) rfl (cE (cs:=[_,_]) hS zeroValue95 rfl rfl fun B4 W4 hS=>bU (i:=0) (vs:=[_,_]) (cs':=[_,_]) (O':=(_::_::_::_::Ot)) hS sizeOf95 rfl rfl rfl rfl rfl rfl rfl fun W5 hS=>aK (XF.thenN (aH ?_)))))))))))))
  obtain ⟨ab,ao,haa,hac⟩:=gI.get (hB hS (fun q hq=>by simp [hKt q hq])).1.2 (i:=(c / tb.n)) (by rw [hTta.bl];exact hsta)
  obtain ⟨bb,bo,hba,hbc⟩:=gI.get (hB hS (fun q hq=>by simp [hKt q hq])).2.2 (i:=(c % tb.n)) (by rw [hTtb.bl];exact hstb)
  refine regBP (p:=23) (k:=25) (gi:=4) (m:=1) cB hS rfl rfl (by kernel_rfl) (by kernel_rfl) (by kernel_rfl) (fun d hd=>by cases hd) rfl rfl underlying23 yR rfl rfl (by show 0 < 1;decide) rfl rfl rfl (by dsimp only;simp only [maxLen];omega) (by dsimp only;show _ * 1≤_;omega) ?_
  refine dD 1 rfl rfl (by kernel_rfl) (rgV (li:=[(8,_)]) rfl (aJ rfl) ⟨bX rfl,trivial⟩ (fun w hw=>bD (o':=2) eE rfl rfl) (aE rfl)) (dD 2 rfl rfl (by kernel_rfl) (rgV (li:=[(52,_)]) rfl (aJ rfl) ⟨aL 0 (aG rfl rfl rfl),trivial⟩ (fun w hw=>bA isAgg23 rfl ((aQ hw 0).cell (Nat.zero_le _) (aD (hS.at_ 1 rfl) rfl))) (aE rfl)) (dD 3 rfl rfl (by kernel_rfl) (rgV (li:=[(2,_)]) rfl (aJ rfl) ⟨bX rfl,trivial⟩ (fun w hw=>aU rfl) (aE rfl)) (dD 4 rfl rfl (by kernel_rfl) (rgV (li:=[(0,_)]) rfl (aJ rfl) ⟨bX rfl,trivial⟩ (fun w hw=>aU rfl) (aE rfl)) (dD 5 rfl rfl (by kernel_rfl) (rgV (li:=[(55,_)]) rfl (aJ rfl) ⟨aL 3 (aG rfl rfl rfl),trivial⟩ (fun w hw=>bH rfl) (aE rfl)) (dD 6 rfl rfl (by kernel_rfl) (rgV (li:=[(56,_)]) rfl (aJ rfl) ⟨aL 4 (aG rfl rfl rfl),trivial⟩ (fun w hw=>bD (o':=0) lW rfl rfl) (aE rfl)) (dD 7 rfl rfl (by kernel_rfl) (rgV (li:=[(57,_)]) rfl (aJ rfl) ⟨aL 5 (aG rfl rfl rfl),trivial⟩ (fun w hw=>bD (o':=2) eE rfl rfl) (aE rfl)) (dD 8 rfl rfl (by kernel_rfl) (rgV (li:=[(58,_)]) rfl (aJ rfl) ⟨aL 6 (aG rfl rfl rfl),trivial⟩ (fun w hw=>bA isAgg23 rfl ((aQ hw 0).cell (Nat.zero_le _) (aD (hS.at_ 3 rfl) rfl))) (aE rfl)) (dD 9 rfl rfl (by kernel_rfl) (rgV (li:=[(11,_)]) rfl (aJ rfl) ⟨bX rfl,trivial⟩ (fun w hw=>eC (j:=0) (o':=0) underlying95 sizeOf21 rfl rfl rfl (by decide) rfl) (aE rfl)) (dD 10 rfl rfl (by kernel_rfl) (rgV (li:=[(60,_)]) rfl (aJ rfl) ⟨aL 8 (aG rfl rfl rfl),trivial⟩ (fun w hw=>bA isAgg21 rfl ((aQ hw 0).cell (Nat.zero_le _) (aD (hS.at_ 0 rfl) rfl))) (aE rfl)) ?_)))))))))
  refine dD 11 rfl rfl (by kernel_rfl) (rgV (li:=[(59,_),(61,_)]) rfl (aJ rfl) ⟨aL 7 (aG rfl rfl rfl),aL 9 (aG rfl rfl rfl),trivial⟩ (fun w hw=>bQ (j:=(c / tb.n)) (b:=ab) (o:=ao) (m:=ta.n) (c:=ta.ac) underlying23 sizeOf4 (by show some (Value.slice ta.aa _ _)=_;rw [haa]) rfl rfl (by omega) rfl) (aE rfl)) ?_
  refine dD 12 rfl rfl (by kernel_rfl) (rgV (li:=[(62,_)]) rfl (aJ rfl) ⟨aL 10 (aG rfl rfl rfl),trivial⟩ (fun w hw=>bA isAgg4 rfl ((aQ hw 0).cell (Nat.zero_le _) (hac))) (aE rfl)) (dD 13 rfl rfl (by kernel_rfl) (rgV (li:=[(0,_)]) rfl (aJ rfl) ⟨bX rfl,trivial⟩ (fun w hw=>aU rfl) (aE rfl)) (dD 14 rfl rfl (by kernel_rfl) (rgV (li:=[(64,_)]) rfl (aJ rfl) ⟨aL 12 (aG rfl rfl rfl),trivial⟩ (fun w hw=>bH rfl) (aE rfl)) (dD 15 rfl rfl (by kernel_rfl) (rgV (li:=[(65,_)]) rfl (aJ rfl) ⟨aL 13 (aG rfl rfl rfl),trivial⟩ (fun w hw=>bD (o':=3) nE rfl rfl) (aE rfl)) (dD 16 rfl rfl (by kernel_rfl) (rgV (li:=[(66,_)]) rfl (aJ rfl) ⟨aL 14 (aG rfl rfl rfl),trivial⟩ (fun w hw=>bD (o':=5) eE rfl rfl) (aE rfl)) (dD 17 rfl rfl (by kernel_rfl) (rgV (li:=[(67,_)]) rfl (aJ rfl) ⟨aL 15 (aG rfl rfl rfl),trivial⟩ (fun w hw=>bA isAgg23 rfl ((aQ hw 0).cell (Nat.zero_le _) (aD (hS.at_ 3 rfl) rfl))) (aE rfl)) (dD 18 rfl rfl (by kernel_rfl) (rgV (li:=[(11,_)]) rfl (aJ rfl) ⟨bX rfl,trivial⟩ (fun w hw=>eC (j:=1) (o':=1) underlying95 sizeOf21 rfl rfl rfl (by decide) rfl) (aE rfl)) (dD 19 rfl rfl (by kernel_rfl) (rgV (li:=[(69,_)]) rfl (aJ rfl) ⟨aL 17 (aG rfl rfl rfl),trivial⟩ (fun w hw=>bA isAgg21 rfl ((aQ hw 0).cell (Nat.zero_le _) (aD (hS.at_ 0 rfl) rfl))) (aE rfl)) ?_)))))))
  refine dD 20 rfl rfl (by kernel_rfl) (rgV (li:=[(68,_),(70,_)]) rfl (aJ rfl) ⟨aL 16 (aG rfl rfl rfl),aL 18 (aG rfl rfl rfl),trivial⟩ (fun w hw=>bQ (j:=(c % tb.n)) (b:=bb) (o:=bo) (m:=tb.n) (c:=tb.ac) underlying23 sizeOf4 (by show some (Value.slice tb.aa _ _)=_;rw [hba]) rfl rfl (by omega) rfl) (aE rfl)) ?_
  refine dD 21 rfl rfl (by kernel_rfl) (rgV (li:=[(71,_)]) rfl (aJ rfl) ⟨aL 19 (aG rfl rfl rfl),trivial⟩ (fun w hw=>bA isAgg4 rfl ((aQ hw 0).cell (Nat.zero_le _) (hbc))) (aE rfl)) ?_
  refine dD 22 rfl rfl (by kernel_rfl) (sI [isV _,isV _] rfl hgo (aJ rfl) (aL 2 (aG rfl rfl rfl)) ⟨fB (aL 11 (aG rfl rfl rfl)),fB (aL 20 (aG rfl rfl rfl)),trivial⟩ (fun vs w' hb hh=>by have e:=eJ (us:=[_,_]) hh;subst e;exact (hf _ _ w').mono fun e w2 ⟨h1,h2⟩=>⟨_,h1,rfl,h2⟩) (aE rfl)) ?_
  refine xT 23 rfl rfl (by kernel_rfl) (fN W5.heap.size 1 4 _) (kV) (pK (us:=[.bool _]) rfl (aJ rfl) underlying23 sizeOf4 zeroValue4 rfl rfl ⟨fB (aL 21 (aG rfl rfl rfl)),trivial⟩ (qD _) (aE rfl)) (pP 24 rfl rfl (jF 25 rfl rfl (rgV (li:=[(8,_)]) rfl (aJ rfl) ⟨bX rfl,trivial⟩ (fun w hw=>bD (o':=2) eE rfl rfl) (aE rfl)) (lgV (li:=[(8,_)]) rfl (aJ rfl) ⟨bX rfl,trivial⟩ (fun w=>bD (o':=2) eE rfl rfl) (aE rfl) rfl) (pO ⟨_,_,aL 1 (aG rfl rfl rfl),aL 22 (aG rfl rfl rfl),jG rfl rfl,?_⟩)))
  intro A6 v6 news6 W6 hbR hqA6 hS'
  clear hS;have hS:=hS';clear hS'
  cases hqA6
  refine aO (aO (aO (aO (aO (aO (aO (aO (aO (aO (aO (aO (aO (aO (aO (aO (aO (aO (aO (aO (aO (aO ?_)))))))))))))))))))))
  refine eH ?_;intro _ _
  refine aO (aO ?_)
  obtain ⟨aa9,ac9,e9,_⟩:=cA (hS.row 4 rfl)
  dsimp only at e9
  subst e9
  refine cK (bT (i:=1) (cs':=[_,_,_]) (O':=(_::_::_::_::Ot)) hS sizeOf23 rfl rfl rfl rfl rfl rfl rfl fun W7 hS=>aK (XF.thenN (aH (kW (m:=9) cB hS (by kernel_rfl) (by kernel_rfl) rfl (cI 1 rfl 0 rfl rfl (fun w hw=>aU rfl) rfl (bN 2 rfl 77 0 rfl rfl rfl (fun w hw=>bH rfl) rfl (bN 3 rfl 78 1 rfl rfl rfl (fun w hw=>bD (o':=3) nE rfl rfl) rfl (bN 4 rfl 79 2 rfl rfl rfl (fun w hw=>dX (vs:=[_,_,_]) isAgg61 sizeOf61 rfl (aT.agree (aQ hw 0) (Nat.zero_le _) (aT.own (j:=3) (m:=3) (hS.at_ 3 rfl) rfl))) rfl (cI 5 rfl 11 rfl rfl (fun w hw=>eC (j:=1) (o':=1) underlying95 sizeOf21 rfl rfl rfl (by decide) rfl) rfl (bN 6 rfl 81 4 rfl rfl rfl (fun w hw=>bA isAgg21 rfl ((aQ hw 0).cell (Nat.zero_le _) (aD (hS.at_ 0 rfl) rfl))) rfl (bN 7 rfl 82 5 rfl rfl rfl (fun w hw=>iK underlying21 underlying3 rfl (qZ hstb hnb)) rfl ?_)))))))))))
  refine bK 8 rfl (isV (.slice (fC tb.na tb.nc ((c % tb.n) * tb.k) 1) tb.k (tb.nc - (c % tb.n) * tb.k))) (bC _) (lH [isV _,isV _] rfl kD (aJ rfl) ⟨fB (aL 3 (aG rfl rfl rfl)),fB (aL 6 (aG rfl rfl rfl)),trivial⟩ (fun vs w' hb hh=>by have e:=eJ (us:=[_,_]) hh;subst e;exact (mI tb (c % tb.n) w' hTtb hstb).mono fun e w2 ⟨h1,h2⟩=>⟨_,h1,rfl,h2⟩) (aE rfl)) ?_
  refine bN 9 rfl 84 7 rfl rfl rfl (fun w hw=>dC rfl) rfl (eD ?_)
  intro W8 hbR hS'
  clear hS;have hS:=hS';clear hS'
  refine aO (aO (aO (aO (aO (aO (aO (aO (aO (cK (XF.thenN (aH (kW (m:=10) cB hS (by kernel_rfl) (by kernel_rfl) rfl (cI 1 rfl 0 rfl rfl (fun w hw=>aU rfl) rfl (bN 2 rfl 85 0 rfl rfl rfl (fun w hw=>bH rfl) rfl (bN 3 rfl 86 1 rfl rfl rfl (fun w hw=>bD (o':=0) lW rfl rfl) rfl (bN 4 rfl 87 2 rfl rfl rfl (fun w hw=>dX (vs:=[_,_,_]) isAgg61 sizeOf61 rfl (aT.agree (aQ hw 0) (Nat.zero_le _) (aT.own (j:=0) (m:=3) (hS.at_ 3 rfl) rfl))) rfl (cI 5 rfl 11 rfl rfl (fun w hw=>eC (j:=0) (o':=0) underlying95 sizeOf21 rfl rfl rfl (by decide) rfl) rfl (bN 6 rfl 89 4 rfl rfl rfl (fun w hw=>bA isAgg21 rfl ((aQ hw 0).cell (Nat.zero_le _) (aD (hS.at_ 0 rfl) rfl))) rfl (bN 7 rfl 90 5 rfl rfl rfl (fun w hw=>iK underlying21 underlying3 rfl (qZ hsta hna)) rfl ?_)))))))))))))))))))
  refine bK 8 rfl (isV (.slice (fC ta.na ta.nc ((c / tb.n) * ta.k) 1) ta.k (ta.nc - (c / tb.n) * ta.k))) (bC _) (lH [isV _,isV _] rfl kD (aJ rfl) ⟨fB (aL 3 (aG rfl rfl rfl)),fB (aL 6 (aG rfl rfl rfl)),trivial⟩ (fun vs w' hb hh=>by have e:=eJ (us:=[_,_]) hh;subst e;exact (mI ta (c / tb.n) w' hTta hsta).mono fun e w2 ⟨h1,h2⟩=>⟨_,h1,rfl,h2⟩) (aE rfl)) ?_
  refine bN 9 rfl 92 7 rfl rfl rfl (fun w hw=>kR underlying59 rfl) rfl (bK 10 rfl (isV _) (bC _) (rgV (li:=[]) rfl (aJ rfl) trivial (fun w hw=>aU rfl) (aE rfl)) (eD ?_))
  intro W9 hbR hS'
  clear hS;have hS:=hS';clear hS'
  refine aO (aO (aO (aO (aO (aO (aO (aO (aO (aO (cK (XF.thenN (bL ?_))))))))))))
  refine cY (fun m l W=>∃ (x:Nat) (la fa ba na aa:Option Addr) (lc fc bc nc ac ll:Nat) (F Y:List Int),x≤ta.k∧m=ta.k - x∧l=[(0,.pointer (some ⟨PB,0,none⟩)),(1,.int .i64 (mo:Int)),(2,.func (.func f) #[] #[]),(6,.pointer (some ⟨B1,0,none⟩)),(8,.pointer (some ⟨B2,0,none⟩)),(9,.bool false),(10,.int .i64 (i:Int)),(12,.slice (fC tb.na tb.nc ((c % tb.n) * tb.k) 1) tb.k (tb.nc - (c % tb.n) * tb.k)),(92,.slice (fC ta.na ta.nc ((c / tb.n) * ta.k) 1) ta.k (ta.nc - (c / tb.n) * ta.k)),(93,.int .i64 (ta.k:Int)),(94,.int .i64 (x:Int))]∧(qm (bG ta.fa tb.fa g) id (i * ta.k+x)).length=ll∧MkP tb.n (qm (bG ta.fa tb.fa g) id (i * ta.k+x)) MB W∧St w0 ((B4,prc tb.n c,95)::(B2,[.int .i64 (ta.k:Int),.slice na (i * ta.k+x) nc,.slice aa (i+1) ac],61)::(B1,[.int .i64 0,.slice none 0 0,.slice none 0 0],61)::(PB,prC ta tb MB (.slice la (ll) lc) (.slice fa (ll) fc) (.slice ba (ll) bc),93)::Ot) (⟨.slice la (ll) lc,ll,prs tb.n (qm (bG ta.fa tb.fa g) id (i * ta.k+x)),95,2⟩::⟨.slice fa (ll) fc,ll,cR (F),21,1⟩::⟨.slice ba (ll) bc,ll,cR (Y),21,1⟩::⟨.slice na (i * ta.k+x) nc,i * ta.k+x,i32 ((List.range (i * ta.k+x)).map (qfl (bG ta.fa tb.fa g) id)),21,1⟩::⟨.slice aa (i+1) ac,i+1,bvs ((List.range (i+1)).map (fun j=>(bG ta.fa tb.fa g).ac ((qm (bG ta.fa tb.fa g) id (i * ta.k)).getD j 0))),4,1⟩::G) K W) (ta.k - 0) ([(0,_),(1,_),(2,_),(6,_),(8,_),(9,_),(10,_),(12,_),(92,_),(93,_),(94,_)]) ⟨rfl,rfl,rfl,rfl,rfl,rfl,rfl,rfl,rfl,rfl,rfl,trivial⟩ (⟨0,some ⟨lb,0,none⟩,fa,ba,na,aa9,lc,fc,bc,nc,ac9,ll,F,Y,Nat.zero_le _,rfl,rfl,hll,hM2.at_ hS (by simp),(hS.castG (G':=(⟨.slice (some ⟨lb,0,none⟩) (ll) lc,ll,prs tb.n (qm (bG ta.fa tb.fa g) id (i * ta.k)),95,2⟩::⟨.slice fa (ll) fc,ll,cR (F),21,1⟩::⟨.slice ba (ll) bc,ll,cR (Y),21,1⟩::⟨.slice na (i * ta.k) nc,i * ta.k,i32 ((List.range (i * ta.k)).map (qfl (bG ta.fa tb.fa g) id)),21,1⟩::⟨.slice aa9 (i+1) ac9,i+1,bvs ((List.range (i+1)).map (fun j=>(bG ta.fa tb.fa g).ac ((qm (bG ta.fa tb.fa g) id (i * ta.k)).getD j 0))),4,1⟩::G)) (by show (_::_::_::_::GR.mk _ _ (bvs _++[Value.bool _]) _ _::_)=_;rw [qK,Ap (A:=(bG ta.fa tb.fa g)) (b:=g (tb1 ta (c / tb.n)) (tb1 tb (c % tb.n))) hcE rfl])).keep K (fun q hq=>by simp [hq])⟩) ?_
  clear hS
  have hil:i < ll:=by omega
  clear hi
  rintro m l W ⟨x,la,fa,ba,na,aa,lc,fc,bc,nc,ac,ll2,F,Y,hx,rfl,rfl,hll2,hM2,hS⟩
  have hS:=hS.markK hM2
  refine aH (aN (cG rfl rfl rfl (aK (XF.thenN (aH (bR rfl (fun hc=>?_) (fun hc=>?_)))))))
  ·have hc95:=of_decide_eq_true hc;clear hc
   have hx9:x < ta.k:=by omega
   have hixta:=hTta.ix hsta hx9
   have hixtb:=hTtb.ix hstb (show x < tb.k by omega)
   have hcta:=hTta.cap
   have hctb:=hTtb.cap
   obtain ⟨cb,co,hcu,hc5⟩:=((hB hS (fun q hq=>by simp [hKt q hq])).1.1.cut (i:=(c / tb.n) * ta.k) (L:=ta.k) (c:=ta.nc) (by rw [hTta.len];exact hixta.2) (by omega)).get (i:=x) (by rw [List.length_take,List.length_drop,hTta.len];omega)
   rw [dH (by omega)] at hc5
   have hc5:W.cell? ⟨cb,co+x * 1,none⟩=some (.int .i32 ((ta.fa.nx (c / tb.n) x:Nat):Int)):=hc5
   obtain ⟨cb2,co2,hcu2,hc6⟩:=((hB hS (fun q hq=>by simp [hKt q hq])).2.1.cut (i:=(c % tb.n) * tb.k) (L:=tb.k) (c:=tb.nc) (by rw [hTtb.len];exact hixtb.2) (by omega)).get (i:=x) (by rw [List.length_take,List.length_drop,hTtb.len];omega)
   rw [dH (by omega)] at hc6
   have hc6:W.cell? ⟨cb2,co2+x * 1,none⟩=some (.int .i32 ((tb.fa.nx (c % tb.n) x:Nat):Int)):=hc6
   have hna9:ta.fa.nx (c / tb.n) x < ta.n:=hTta.fa.t0_ _ _ hsta hx9
   have hnb9:tb.fa.nx (c % tb.n) x < tb.n:=hTtb.fa.t0_ _ _ hstb (show x < tb.k by omega)
   refine bS (XF.thenN (aH (bL (aH (aN (aA rfl rfl ?_))))))
   refine aV (j:=x) (b:=cb) (o:=co) (m:=ta.k) (c:=ta.nc - (c / tb.n) * ta.k) underlying59 sizeOf21 (by show some (Value.slice (fC _ _ _ _) _ _)=_;rw [hcu]) rfl rfl (by omega) rfl rfl ?_
   refine aP isAgg21 rfl (hc5) rfl (aB rfl rfl (aB rfl rfl (aK (XF.thenN ?_))))
   have hM3:=hM2.at_ hS (by simp)
   have hS9:=hS.keep K (fun q hq=>by simp [hq])
   clear hS;have hS:=hS9;clear hS9
   have hmul:i * ta.k≤4096 * 100000:=Nat.mul_le_mul (by omega) hka
   obtain ⟨d1,d2⟩:=fI (i:=i) hx9
   obtain ⟨f1,f2⟩:=fI (i:=ta.fa.nx (c / tb.n) x) hnb9
   have hqr2:fQ (bG ta.fa tb.fa g) id (i * ta.k+x):=fun q hq=>by
    rcases Nat.lt_or_ge q (i * ta.k) with h9 | h9
    ·exact hqr q h9
    ·have h8:q / ta.k=i:=by
      rw [show q=i * ta.k+(q - i * ta.k) by omega];exact (fI (by omega)).1
     rw [show q / (bG ta.fa tb.fa g).k=i from h8]
     exact Nat.lt_of_lt_of_le (by omega) (fX h9)
   obtain ⟨hq3,hq4⟩:=mP (cm:=ta.n * tb.n) hA (fun _=>hqr2) (fun h0=>absurd (show ta.k=0 from h0) (by omega)) (fun x hx=>hx)
   have hnc:ncd (bG ta.fa tb.fa g) (i * ta.k+x)=(ta.fa.nx (c / tb.n) x * tb.n+tb.fa.nx (c % tb.n) x):=by
    show (bG ta.fa tb.fa g).nx ((qm (bG ta.fa tb.fa g) id (i * ta.k+x)).getD ((i * ta.k+x) / ta.k) 0) ((i * ta.k+x) % ta.k)=_
    rw [d1,d2,fZ (Nat.le_add_right _ _) (show i < (qm (bG ta.fa tb.fa g) id (i * ta.k)).length by omega),hcE];rfl
   have hcell2:cT w0 Kt (fun W=>W.cell? ⟨cb2,co2+x * 1,none⟩=some (.int .i32 ((tb.fa.nx (c % tb.n) x:Nat):Int))):=fun h9 hk9=>by
    obtain ⟨b8,o8,e8,c8⟩:=((hB h9 hk9).2.1.cut (i:=(c % tb.n) * tb.k) (L:=tb.k) (c:=tb.nc) (by rw [hTtb.len];exact hixtb.2) (by omega)).get (i:=x) (by rw [List.length_take,List.length_drop,hTtb.len];omega)
    rw [dH (by omega)] at c8
    obtain ⟨rfl,rfl⟩:b8=cb2∧o8=co2:=by
     have h8:=e8.symm.trans hcu2
     injection h8 with h8;injection h8 with h7 h8
     exact ⟨h7,h8⟩
    exact c8
   refine zG (mk:=[13,14]) (k:=15) (vals:=(fun i8=>match i8 with | 0=>.pointer (some ⟨B2,0+1,none⟩) | 1=>.slice na (i * ta.k+x) nc | 2=>.pointer (some ⟨PB,0,none⟩) | 3=>.int .i32 ((ta.fa.nx (c / tb.n) x:Nat):Int) | 4=>.slice (fC tb.na tb.nc ((c % tb.n) * tb.k) 1) tb.k (tb.nc - (c % tb.n) * tb.k) | 6=>.pointer (some ⟨cb2,co2+x * 1,none⟩) | 7=>.int .i32 ((tb.fa.nx (c % tb.n) x:Nat):Int) | 8=>.agg #[.int .i32 ((ta.fa.nx (c / tb.n) x:Nat):Int),.int .i32 ((tb.fa.nx (c % tb.n) x:Nat):Int)] | 9=>.int .i64 (i:Int) | 10=>.int .i32 (i:Int) | 12=>.int .i32 (x:Int) | _=>.int .i64 (x:Int))) (Pm:=fun i v ON=>(i=13→ON=[(0,[v],0)])∧(i=14→∃ u B,v = .slice (some ⟨B,0,none⟩) 1 1∧ON=[(B,[u],0)])) (fun s w=>(s=[]∧MkP tb.n (qm (bG ta.fa tb.fa g) id (i * ta.k+x)) MB w∧St w0 ((B4,prc tb.n c,95)::(B2,[.int .i64 (ta.k:Int),.slice na (i * ta.k+x) nc,.slice aa (i+1) ac],61)::(B1,[.int .i64 0,.slice none 0 0,.slice none 0 0],61)::(PB,prC ta tb MB (.slice la (ll2) lc) (.slice fa (ll2) fc) (.slice ba (ll2) bc),93)::Ot) (⟨.slice la (ll2) lc,ll2,prs tb.n (qm (bG ta.fa tb.fa g) id (i * ta.k+x)),95,2⟩::⟨.slice fa (ll2) fc,ll2,cR (F),21,1⟩::⟨.slice ba (ll2) bc,ll2,cR (Y),21,1⟩::⟨.slice na (i * ta.k+x) nc,i * ta.k+x,i32 ((List.range (i * ta.k+x)).map (qfl (bG ta.fa tb.fa g) id)),21,1⟩::⟨.slice aa (i+1) ac,i+1,bvs ((List.range (i+1)).map (fun j=>(bG ta.fa tb.fa g).ac ((qm (bG ta.fa tb.fa g) id (i * ta.k)).getD j 0))),4,1⟩::G) K w)∨(∃ v,s=[(13,[(0,[v],0)])]∧∃ (la9 fa9 ba9:Option Addr) (lc9 fc9 bc9 ll9:Nat) (F9 Y9:List Int),(mtS id (qm (bG ta.fa tb.fa g) id (i * ta.k+x)) (ta.fa.nx (c / tb.n) x * tb.n+tb.fa.nx (c % tb.n) x)).length=ll9∧v = .int .i32 ((mtI id (qm (bG ta.fa tb.fa g) id (i * ta.k+x)) (ta.fa.nx (c / tb.n) x * tb.n+tb.fa.nx (c % tb.n) x):Nat):Int)∧MkP tb.n (mtS id (qm (bG ta.fa tb.fa g) id (i * ta.k+x)) (ta.fa.nx (c / tb.n) x * tb.n+tb.fa.nx (c % tb.n) x)) MB w∧St w0 ((B4,prc tb.n c,95)::(B2,[.int .i64 (ta.k:Int),.slice na (i * ta.k+x) nc,.slice aa (i+1) ac],61)::(B1,[.int .i64 0,.slice none 0 0,.slice none 0 0],61)::(PB,prC ta tb MB (.slice la9 (ll9) lc9) (.slice fa9 (ll9) fc9) (.slice ba9 (ll9) bc9),93)::Ot) (⟨.slice la9 (ll9) lc9,ll9,prs tb.n (mtS id (qm (bG ta.fa tb.fa g) id (i * ta.k+x)) (ta.fa.nx (c / tb.n) x * tb.n+tb.fa.nx (c % tb.n) x)),95,2⟩::⟨.slice fa9 (ll9) fc9,ll9,cR F9,21,1⟩::⟨.slice ba9 (ll9) bc9,ll9,cR Y9,21,1⟩::⟨.slice na (i * ta.k+x) nc,i * ta.k+x,i32 ((List.range (i * ta.k+x)).map (qfl (bG ta.fa tb.fa g) id)),21,1⟩::⟨.slice aa (i+1) ac,i+1,bvs ((List.range (i+1)).map (fun j=>(bG ta.fa tb.fa g).ac ((qm (bG ta.fa tb.fa g) id (i * ta.k)).getD j 0))),4,1⟩::G) K w)∨(∃ v B,s=[(14,[(B,[v],0)]),(13,[(0,[v],0)])]∧∃ (la9 fa9 ba9:Option Addr) (lc9 fc9 bc9 ll9:Nat) (F9 Y9:List Int),(mtS id (qm (bG ta.fa tb.fa g) id (i * ta.k+x)) (ta.fa.nx (c / tb.n) x * tb.n+tb.fa.nx (c % tb.n) x)).length=ll9∧v = .int .i32 ((mtI id (qm (bG ta.fa tb.fa g) id (i * ta.k+x)) (ta.fa.nx (c / tb.n) x * tb.n+tb.fa.nx (c % tb.n) x):Nat):Int)∧MkP tb.n (mtS id (qm (bG ta.fa tb.fa g) id (i * ta.k+x)) (ta.fa.nx (c / tb.n) x * tb.n+tb.fa.nx (c % tb.n) x)) MB w∧St w0 ((B,[v],21)::(B4,prc tb.n c,95)::(B2,[.int .i64 (ta.k:Int),.slice na (i * ta.k+x) nc,.slice aa (i+1) ac],61)::(B1,[.int .i64 0,.slice none 0 0,.slice none 0 0],61)::(PB,prC ta tb MB (.slice la9 (ll9) lc9) (.slice fa9 (ll9) fc9) (.slice ba9 (ll9) bc9),93)::Ot) (⟨.slice la9 (ll9) lc9,ll9,prs tb.n (mtS id (qm (bG ta.fa tb.fa g) id (i * ta.k+x)) (ta.fa.nx (c / tb.n) x * tb.n+tb.fa.nx (c % tb.n) x)),95,2⟩::⟨.slice fa9 (ll9) fc9,ll9,cR F9,21,1⟩::⟨.slice ba9 (ll9) bc9,ll9,cR Y9,21,1⟩::⟨.slice na (i * ta.k+x) nc,i * ta.k+x,i32 ((List.range (i * ta.k+x)).map (qfl (bG ta.fa tb.fa g) id)),21,1⟩::⟨.slice aa (i+1) ac,i+1,bvs ((List.range (i+1)).map (fun j=>(bG ta.fa tb.fa g).ac ((qm (bG ta.fa tb.fa g) id (i * ta.k)).getD j 0))),4,1⟩::G) K w)) cB (.inl ⟨rfl,hM3.same (fun _=>rfl),hS.drew⟩) (Nat.le_of_ble_eq_true (by kernel_rfl)) (by kernel_rfl) (by kernel_rfl) ?_ ?_ (by decide) ?_
   ·intro i9 hi9 hin s a0 c9 w ha0 hF9 hG hD
    have hfr:∀ t v,freeT _ t=true→dF _ t=some v→c9.eval (.tmp t)=v:=fun t v h1 h2=>(hF9 t h1).trans (ha0.at_ t v h2)
    have hcell:w.cell? ⟨B2,0+1,none⟩=some (.slice na (i * ta.k+x) nc)∧w.cell? ⟨cb2,co2+x * 1,none⟩=some (.int .i32 ((tb.fa.nx (c % tb.n) x:Nat):Int)):=by
     rcases hG with ⟨_,_,h9⟩ | ⟨v,_,la9,fa9,ba9,lc9,fc9,bc9,ll9,F9,Y9,_,_,_,h9⟩ | ⟨v,B,_,la9,fa9,ba9,lc9,fc9,bc9,ll9,F9,Y9,_,_,_,h9⟩
     ·exact ⟨aD (h9.at_ 1 rfl) rfl,hcell2 h9 hKt⟩
     ·exact ⟨aD (h9.at_ 1 rfl) rfl,hcell2 h9 hKt⟩
     ·exact ⟨aD (h9.at_ 2 rfl) rfl,hcell2 h9 hKt⟩
    match i9,hi9,hin with
    | 0,_,_=>exact ⟨_,rfl,rfl,by
     exact bD (l:=[(8,.pointer (some ⟨B2,0,none⟩))]) gL rfl rfl c9.eval (gZ (hfr 8 _ (by kernel_rfl) rfl))⟩
    | 1,_,_=>exact ⟨_,rfl,rfl,by
     have h9:=(hD 0 99 (by kernel_rfl)).1 (by decide)
     exact bA (l:=[(99,.pointer (some ⟨B2,0+1,none⟩))]) isAgg59 rfl hcell.1 c9.eval (gZ h9)⟩
    | 2,_,_=>exact ⟨_,rfl,rfl,by
     exact aU (l:=[(0,.pointer (some ⟨PB,0,none⟩))]) rfl c9.eval (gZ (hfr 0 _ (by kernel_rfl) rfl))⟩
    | 3,_,_=>exact ⟨_,rfl,rfl,by
     exact aU (l:=[(14,.int .i32 ((ta.fa.nx (c / tb.n) x:Nat):Int))]) rfl c9.eval (gZ (hfr 14 _ (by kernel_rfl) rfl))⟩
    | 4,_,_=>exact ⟨_,rfl,rfl,by
     exact aU (l:=[(12,.slice (fC tb.na tb.nc ((c % tb.n) * tb.k) 1) tb.k (tb.nc - (c % tb.n) * tb.k))]) rfl c9.eval (gZ (hfr 12 _ (by kernel_rfl) rfl))⟩
    | 5,_,_=>exact ⟨_,rfl,rfl,by
     exact aU (l:=[(13,.int .i64 (x:Int))]) rfl c9.eval (gZ (hfr 13 _ (by kernel_rfl) rfl))⟩
    | 6,_,_=>exact ⟨_,rfl,rfl,by
     have h9:=(hD 4 103 (by kernel_rfl)).1 (by decide)
     have h8:=(hD 5 104 (by kernel_rfl)).1 (by decide)
     exact bQ (l:=[(103,.slice (fC tb.na tb.nc ((c % tb.n) * tb.k) 1) tb.k (tb.nc - (c % tb.n) * tb.k)),(104,.int .i64 (x:Int))]) (j:=x) (b:=cb2) (o:=co2) (m:=tb.k) (c:=tb.nc - (c % tb.n) * tb.k) underlying59 sizeOf21 (by show some (Value.slice (fC _ _ _ _) _ _)=_;rw [hcu2]) rfl rfl (by omega) rfl c9.eval (evl29 h9 h8)⟩
    | 7,_,_=>exact ⟨_,rfl,rfl,by
     have h9:=(hD 6 105 (by kernel_rfl)).1 (by decide)
     exact bA (l:=[(105,.pointer (some ⟨cb2,co2+x * 1,none⟩))]) isAgg21 rfl hcell.2 c9.eval (gZ h9)⟩
    | 8,_,_=>exact ⟨_,rfl,rfl,by
     have h9:=(hD 3 102 (by kernel_rfl)).1 (by decide)
     have h8:=(hD 7 106 (by kernel_rfl)).1 (by decide)
     exact rT (l:=[(102,.int .i32 ((ta.fa.nx (c / tb.n) x:Nat):Int)),(106,.int .i32 ((tb.fa.nx (c % tb.n) x:Nat):Int))]) (us:=[(0,.int .i32 _),(1,.int .i32 _)]) rfl (zW _ _) c9.eval (evl29 h9 h8)⟩
    | 9,_,_=>exact ⟨_,rfl,rfl,by
     exact aU (l:=[(10,.int .i64 (i:Int))]) rfl c9.eval (gZ (hfr 10 _ (by kernel_rfl) rfl))⟩
    | 10,_,_=>exact ⟨_,rfl,rfl,by
     have h9:=(hD 9 108 (by kernel_rfl)).1 (by decide)
     exact gO (l:=[(108,.int .i64 (i:Int))]) underlying3 underlying21 rfl (by omega) c9.eval (gZ h9)⟩
    | 11,_,_=>exact ⟨_,rfl,rfl,by
     exact aU (l:=[(13,.int .i64 (x:Int))]) rfl c9.eval (gZ (hfr 13 _ (by kernel_rfl) rfl))⟩
    | 12,_,_=>exact ⟨_,rfl,rfl,by
     have h9:=(hD 11 110 (by kernel_rfl)).1 (by decide)
     exact gO (l:=[(110,.int .i64 (x:Int))]) underlying3 underlying21 rfl (by omega) c9.eval (gZ h9)⟩
    | 13,_,h9=>exact absurd (by decide) h9
    | 14,_,h9=>exact absurd (by decide) h9
    | i+15,h9,_=>omega
   ·intro i9 him s a0 c9 w ha0 hF9 hG hnew hD
    have hcase:i9=13∨i9=14:=by simpa using him
    rcases hcase with rfl | rfl
    ·have h2:=(hD 2 101 (by kernel_rfl)).1 (by decide)
     have h3:=(hD 8 107 (by kernel_rfl)).1 (by decide)
     have h4:=(hD 10 109 (by kernel_rfl)).1 (by decide)
     have h5:=(hD 12 111 (by kernel_rfl)).1 (by decide)
     rcases hG with ⟨rfl,hM9,h9⟩ | ⟨v,rfl,_⟩ | ⟨v,B,rfl,_⟩
     ·refine nC (vs:=[.pointer (some ⟨PB,0,none⟩),.agg #[.int .i32 ((ta.fa.nx (c / tb.n) x:Nat):Int),.int .i32 ((tb.fa.nx (c % tb.n) x:Nat):Int)],.int .i32 (i:Int),.int .i32 (x:Int)]) rfl qX (by simp only [List.map_cons,List.map_nil,h2,h3,h4,h5]) ?_
      refine (mK ta tb PB MB _ _ _ _ _ _ ll2 _ _ _ _ _ K w0 _ (ta.fa.nx (c / tb.n) x * tb.n+tb.fa.nx (c % tb.n) x) _ _ (h9.perm Aq) hM9 hMb hMK hll2 (by omega) (by rw [f1];omega) (by rw [f2];omega) _ _ (by rw [f1]) (by rw [f2])).mono ?_
      rintro e w2 ⟨la9,fa9,ba9,lc9,fc9,bc9,ll9,k1,rfl,k2,k3⟩
      exact ⟨_,[(0,[_],0)],rfl,⟨fun _=>rfl,fun h=>absurd h (by decide)⟩,.inr (.inl ⟨_,rfl,la9,fa9,ba9,lc9,fc9,bc9,ll9,_,_,k1,rfl,k2,k3.perm Aq.symm⟩)⟩
     ·exact absurd List.mem_cons_self (hnew _)
     ·exact absurd (List.mem_cons_of_mem _ List.mem_cons_self) (hnew _)
    ·obtain ⟨ON4,h4,hP4⟩:=(hD 13 112 (by kernel_rfl)).2 (by decide)
     have hP4:=hP4.1 rfl
     rcases hG with ⟨rfl,_,h9⟩ | ⟨v,rfl,la9,fa9,ba9,lc9,fc9,bc9,ll9,F9,Y9,k1,k0,k2,k3⟩ | ⟨v,B,rfl,_⟩
     ·cases h4
     ·have e9:c9.eval (.tmp 112)=v:=by
       have h8:=List.mem_singleton.1 h4
       rw [hP4] at h8
       simpa using h8
      subst k0
      refine vU rfl underlying59 sizeOf21 zeroValue21 (dS _) e9 ⟨[(w.heap.size,[_],0)],⟨fun h=>absurd h (by decide),fun _=>⟨_,_,rfl,rfl⟩⟩,.inr (.inr ⟨_,_,rfl,la9,fa9,ba9,lc9,fc9,bc9,ll9,F9,Y9,k1,rfl,k2.below ((Below.refl _ _).alloc (Nat.le_refl _) _),k3.alloc [_] 21⟩)⟩
     ·exact absurd List.mem_cons_self (hnew _)
   ·intro s c9 w hG hsz hdf hfr hval hin hmk hkeys hdist
    obtain ⟨O5,h5⟩:=hin 14 (by decide)
    rcases hG with ⟨rfl,_,h9⟩ | ⟨v,rfl,_⟩ | ⟨v,B,rfl,la9,fa9,ba9,lc9,fc9,bc9,ll9,F9,Y9,k1,rfl,hM9,hS2⟩
    ·cases h5
    ·exact absurd (congrArg Prod.fst (List.mem_singleton.1 h5)) (show (14:Nat)≠13 by decide)
    obtain ⟨O6,h6,hP6⟩:=hmk 14 113 (by decide) rfl
    obtain ⟨u9,Bz,hv9,hO9⟩:=hP6.2 rfl
    have e9:Bz=B:=by
     rw [hO9] at h6
     simp at h6
     exact h6.1
    subst e9
    clear hS;have hS:=hS2.markK hM9;clear hS2
    refine (show bY _ _ _ _ (List.drop 15 _) [(0,.pointer (some ⟨PB,0,none⟩)),(1,.int .i64 (mo:Int)),(2,.func (.func f) #[] #[]),(6,.pointer (some ⟨B1,0,none⟩)),(8,.pointer (some ⟨B2,0,none⟩)),(9,.bool false),(10,.int .i64 (i:Int)),(12,.slice (fC tb.na tb.nc ((c % tb.n) * tb.k) 1) tb.k (tb.nc - (c % tb.n) * tb.k)),(92,.slice (fC ta.na ta.nc ((c / tb.n) * ta.k) 1) ta.k (ta.nc - (c / tb.n) * ta.k)),(93,.int .i64 (ta.k:Int)),(94,.int .i64 (x:Int)),(100,.slice na (i * ta.k+x) nc),(113,.slice (some ⟨Bz,0,none⟩) 1 1)] w from ?_) c9 (xB.has hsz hdf ⟨hfr 0 _ (by kernel_rfl) rfl,hfr 1 _ (by kernel_rfl) rfl,hfr 2 _ (by kernel_rfl) rfl,hfr 6 _ (by kernel_rfl) rfl,hfr 8 _ (by kernel_rfl) rfl,hfr 9 _ (by kernel_rfl) rfl,hfr 10 _ (by kernel_rfl) rfl,hfr 12 _ (by kernel_rfl) rfl,hfr 92 _ (by kernel_rfl) rfl,hfr 93 _ (by kernel_rfl) rfl,hfr 94 _ (by kernel_rfl) rfl,hval 1 100 (by decide) (by decide) rfl,hv9,trivial⟩)
    refine dP (i:=3) (news:=[_]) hS underlying59 dK rfl rfl (by show 0 < 1;decide) rfl rfl rfl rfl rfl (aT.own (j:=0) (m:=1) (hS.at_ 0 rfl) rfl) rfl rfl (by dsimp only;simp only [maxLen];omega) (by dsimp only;show _ * 4≤_;omega) rfl fun v10 W10 hS=>?_
    obtain ⟨na8,nc8,e9,_⟩:=cA (hS.row 3 rfl)
    dsimp only at e9
    subst e9
    refine aR (o':=1) gL rfl rfl rfl (bT (i:=2) (cs':=[_,_,_]) (O':=(_::_::_::_::_::Ot)) hS sizeOf59 rfl rfl rfl rfl rfl rfl rfl fun W11 hS=>aK (XF.blkN (XF.thenN (aN (cC rfl rfl (IntWalk.i64_in _ (by omega)) rfl (aA rfl rfl (aK ?_)))))))
    have hqm:qm (bG ta.fa tb.fa g) id (i * ta.k+x+1)=mtS id (qm (bG ta.fa tb.fa g) id (i * ta.k+x)) (ta.fa.nx (c / tb.n) x * tb.n+tb.fa.nx (c % tb.n) x):=by rw [show i * ta.k+x+1=(i * ta.k+x)+1 from rfl,vQ];show mtS id _ (ncd (bG ta.fa tb.fa g) (i * ta.k+x))=_;rw [hnc]
    have eq2:qfl (bG ta.fa tb.fa g) id (i * ta.k+x)=mtI id (qm (bG ta.fa tb.fa g) id (i * ta.k+x)) (ta.fa.nx (c / tb.n) x * tb.n+tb.fa.nx (c % tb.n) x):=by rw [zC];show mtI id _ (ncd (bG ta.fa tb.fa g) (i * ta.k+x))=_;rw [hnc]
    have eq3:(List.range (i * ta.k+x+1)).map (qfl (bG ta.fa tb.fa g) id)=(List.range (i * ta.k+x)).map (qfl (bG ta.fa tb.fa g) id)++[mtI id (qm (bG ta.fa tb.fa g) id (i * ta.k+x)) (ta.fa.nx (c / tb.n) x * tb.n+tb.fa.nx (c % tb.n) x)]:=by
     show (List.range ((i * ta.k+x)+1)).map _=_
     rw [List.range_succ,List.map_append,List.map_singleton,eq2]
    have hM8:=hM9.at_ hS (by simp)
    have hS9:=hS.tail.castG (G':=(⟨.slice la9 (ll9) lc9,ll9,prs tb.n (qm (bG ta.fa tb.fa g) id (i * ta.k+x+1)),95,2⟩::⟨.slice fa9 (ll9) fc9,ll9,cR F9,21,1⟩::⟨.slice ba9 (ll9) bc9,ll9,cR Y9,21,1⟩::⟨.slice na8 (i * ta.k+x+1) nc8,i * ta.k+x+1,i32 ((List.range (i * ta.k+x+1)).map (qfl (bG ta.fa tb.fa g) id)),21,1⟩::⟨.slice aa (i+1) ac,i+1,bvs ((List.range (i+1)).map (fun j=>(bG ta.fa tb.fa g).ac ((qm (bG ta.fa tb.fa g) id (i * ta.k)).getD j 0))),4,1⟩::G)) (by show (_::_::_::GR.mk _ _ (i32 _++[Value.int .i32 _]) _ _::_)=_;rw [eq3,← lP,hqm])
    rw [← hqm] at k1 hM8
    exact XF.round (ta.k - (x+1)) [(0,_),(1,_),(2,_),(6,_),(8,_),(9,_),(10,_),(12,_),(92,_),(93,_),(94,_)] (by omega) ⟨rfl,rfl,rfl,rfl,rfl,rfl,rfl,rfl,rfl,rfl,rfl,trivial⟩ ⟨x+1,la9,fa9,ba9,na8,aa,lc9,fc9,bc9,nc8,ac,ll9,_,_,by omega,rfl,rfl,k1,hM8,hS9.keep K (fun q hq=>by simp [hq])⟩
  ·have hc95:=of_decide_eq_false hc;clear hc
   have exk:x=ta.k:=by omega
   have es:(i+1) * ta.k=i * ta.k+x:=by rw [Nat.succ_mul,exk]
   have hle9:i * ta.k≤(i+1) * ta.k:=Nat.mul_le_mul_right _ (Nat.le_succ i)
   have hll3:ll≤ll2:=by rw [← hll,← hll2,← es];exact fX hle9
   rw [← es] at hll2 hM2 hS
   rw [← acl_up hle9 (show i+1≤(qm (bG ta.fa tb.fa g) id (i * ta.k)).length by omega)] at hS
   refine cV (XF.thenX (XF.thenX (XF.blkX (XF.blkN (XF.thenN (aN (aA rfl rfl (cC rfl rfl (IntWalk.i64_in _ (by omega)) rfl (aB rfl rfl (aK ?_))))))))))
   exact XF.round (4096 - (i+1)) [(0,_),(1,_),(2,_),(6,_),(8,_),(9,_),(10,_)] (by omega) ⟨rfl,rfl,rfl,rfl,rfl,rfl,rfl,trivial⟩ ⟨i+1,la,fa,ba,na,aa,lc,fc,bc,nc,ac,ll2,F,Y,by omega,rfl,rfl,hll2,fun j hj=>(by
    rcases Nat.lt_or_ge j i with h9 | h9
    ·exact hrows j h9
    ·rw [show j=i by omega,hll];exact hil),hM2.at_ hS (by simp),hS.tail.keep K (fun q hq=>by simp [hq])⟩
 ·have hc27:=of_decide_eq_false hc;clear hc
  obtain rfl:ll=i:=by omega
  have hQ:QuoOk (bG ta.fa tb.fa g) id ll:=⟨hA,hll,hrows⟩
  refine cV (XF.thenX (XF.thenX (XF.blkX (XF.thenN (aH (aN (bJ (vs:=[_,_,_]) isAgg61 sizeOf61 rfl (aT.own (j:=0) (m:=3) (hS.at_ 0 rfl) rfl) rfl (aA rfl rfl ?_))))))))
  obtain ⟨ma1,mc1,e1,hcap⟩:=cA (hS.row 3 rfl)
  dsimp only at e1 hcap
  injection e1 with _ _ e3
  subst e3
  have hSa:=((hS.keep K (fun q hq=>by simp [hq])).tailG.tailG.tailG)
  obtain ⟨K1,k1,h1h,hS1⟩:=hSa.rowKeep
  obtain ⟨K2,k2,h2h,hS2⟩:=hS1.rowKeep
  obtain ⟨q0,hq0⟩:∃ q0,q0=TB.mk ta.k ll na nc ((List.range (ll * ta.k)).map (qfl (bG ta.fa tb.fa g) id)) aa ac ((List.range (ll)).map (fun j=>(bG ta.fa tb.fa g).ac ((qm (bG ta.fa tb.fa g) id (ll * ta.k)).getD j 0))):=⟨_,rfl⟩
  have hq0T:TOk q0:=by
   subst hq0
   refine ⟨by simp,by simp,fun p hp9=>?_,hQ.pos,hcap,by show ll≤_;omega,hka⟩
   show gN ((List.range (ll * ta.k)).map (qfl (bG ta.fa tb.fa g) id)) p < ll
   rw [wE hp9];exact tV hQ hp9
  have hag:Agr q0.fa (quo (bG ta.fa tb.fa g) id ll):=Ar hQ (by rw [hq0]) (by rw [hq0];rfl) hq0T (fun p hp9=>by rw [hq0];exact wE hp9) (fun j hj=>by
   rw [hq0]
   show ((List.range (ll)).map (fun j=>(bG ta.fa tb.fa g).ac ((qm (bG ta.fa tb.fa g) id (ll * ta.k)).getD j 0))).getD j false=_
   rw [List.getD_eq_getElem?_getD,List.getElem?_map,List.getElem?_range hj];rfl)
  have hB0:cT w0 K2 (TAt q0):=fun h9 hk9=>by
   subst hq0
   exact ⟨fun j u hu=>h1h h9 (fun q hq=>hk9 q (k2 q hq)) j _ (by unfold i32;rw [List.getElem?_map,hu];rfl),fun j u hu=>h2h h9 hk9 j _ (by unfold bvs;rw [List.getElem?_map,hu];rfl)⟩
  refine bV (vs:=[_,_]) nD rfl (uP q0 mo K2 _ _ K2 w0 _ _ (by rw [hq0]) hS2 hq0T (fun q hq=>hq) hB0 (by rw [hq0];show ll≤mo;omega)) rfl ?_
  rintro e W9 ⟨q1,K3,rfl,hqk,hqn,hqT,hqo,hqr,hqe,k3,hqB,hS9⟩
  refine ⟨_,rfl,?_⟩
  clear hS hS1 hSa hS2;have hS:=hS9;clear hS9
  refine bF rfl rfl rfl (bF rfl rfl rfl (bU (i:=1) (vs:=[_,_,_]) (cs':=[_,_,_]) (O':=(_::_::_::Ot)) hS sizeOf61 rfl rfl rfl rfl rfl rfl rfl fun W12 hS=>aB rfl rfl (aK (XF.thenN (cH (XF.res (kI (vs:=[_,_,_]) results59 isAgg61 sizeOf61 rfl (aT.own (j:=0) (m:=3) (hS.at_ 1 rfl) rfl) rfl) ?_))))))
  exact ⟨q1,K3,rfl,hqT,by rw [hqk,hq0],by rw [hq0] at hqn;exact Nat.le_trans hqn (show ll≤_ by rw [← hll];exact hq1),hqo,hqr,Eqv.trans (B:=q0.fa) hqk hqe (Eqv.trans (B:=quo (bG ta.fa tb.fa g) id ll) (by rw [hq0];rfl) (hag.eqv hq0T.pos) (qB hQ cong_id)),fun z hz=>k3 z (k2 z (k1 z hz)),hqB,(hS.keep K3 (fun q hq=>by simp [hq])).tail.tail.tail⟩
theorem rn_quo9 {P:Program} {l:Fr} {W:World} {d:Nat} {ty t u:TypeId} {pos:String} {aft:Array Edge} {x y:Operand} {k:IntKind} {a b c:Int} (hx:evL l x=some (.int k a)) (hy:evL l y=some (.int k b)) (hb:b≠0) (hw:k.wrap (a.tdiv b)=c):dJ P l ⟨some d,.binOp .quo t x y u,ty,pos,aft,none⟩ W (.int k c) W:=fun ev he=>by subst hw;exact dY (he x _ hx) (he y _ hy) eI (by simp [binOp,Op.intArith,Op.intDiv,hb])
def mostD (k:Nat):Nat:=if k=0 then 1024 else min 1024 (65536 / k)
theorem most_is (k:Nat) (w:World) (hk:k≤4096) :
  Calls prog 60 #[.int .i64 (k:Int)] w (fun e w'=>e = .returned (.int .i64 ((mostD k:Nat):Int))∧Below w.heap.size w w'):=by
 refine cP (args:=[.int .i64 (k:Int)]) func60 rfl ntmps60 rfl ?_
 have hS:=St.start w
 refine aH (aN (aB rfl rfl (aK (XF.thenN (aH (aH (aN (aA rfl rfl (fG rfl rfl rfl (aK (XF.thenN (bR rfl (fun hc=>?_) (fun hc=>?_)))))))))))))
 ·have hc4:=of_decide_eq_true hc;clear hc
  refine aH (aN (aB rfl rfl (aK (XF.thenN (cH (XF.thenR (XF.res (cW results60 rfl) ?_)))))))
  exact ⟨by unfold mostD;rw [if_pos (by omega)];rfl,hS.below⟩
 ·have hc4:=of_decide_eq_false hc;clear hc
  refine bS (XF.thenN (aH (aN (aA rfl rfl (opV (rn_quo9 rfl rfl (by omega) (IntWalk.i64_quo _ _ (by omega))) rfl (yF rfl rfl rfl (aB rfl rfl (aK (XF.thenN (cH (XF.res (cW results60 rfl) ?_)))))))))))
  have h9:((65536 / k:Nat):Int)=65536 / (k:Int):=by simp
  exact ⟨by unfold mostD;rw [if_neg (by omega)];exact congrArg Ending.returned (congrArg (Value.int .i64) (by omega)),hS.below⟩
theorem As (y:Int) (k:Nat) (hy:y=(k:Int)) (w:World) (hk:k≤4096):Calls prog 60 #[.int .i64 y] w (fun e w'=>e = .returned (.int .i64 ((mostD k:Nat):Int))∧Below w.heap.size w w'):=by
 subst hy;exact most_is k w hk
theorem At (x y:Bool) (w:World) :
  Calls prog 44 #[.bool x,.bool y] w (fun e w'=>e = .returned (.bool (x && y))∧Below w.heap.size w w'):=by
 refine cP (args:=[.bool x,.bool y]) func44 rfl ntmps44 rfl ?_
 have hS:=St.start w
 refine aH (aN (aB rfl rfl (aK (XF.thenN (aH (aN (aA rfl rfl (aA rfl rfl (bO (d:=6) rfl (fun hc=>?_) (fun hc=>?_))))))))))
 ·have hg6:=hc;clear hc
  refine aC (d:=6) rfl rfl (aA rfl rfl (aY rfl rfl rfl (aB rfl rfl (aK (XF.thenN (cH (XF.res (cW results44 rfl) ?_)))))))
  exact ⟨by rw [hg6];rfl,hS.below⟩
 ·have hg6:=hc;clear hc
  refine aI (d:=6) rfl rfl rfl rfl (cJ rfl rfl rfl (aB rfl rfl (aK (XF.thenN (cH (XF.res (cW results44 rfl) ?_))))))
  exact ⟨by rw [hg6];rfl,hS.below⟩
theorem uQ (x y:Bool) (w:World) :
  Calls prog 46 #[.bool x,.bool y] w (fun e w'=>e = .returned (.bool (x || y))∧Below w.heap.size w w'):=by
 refine cP (args:=[.bool x,.bool y]) func46 rfl ntmps46 rfl ?_
 have hS:=St.start w
 refine aH (aN (aB rfl rfl (aK (XF.thenN (aH (aN (aA rfl rfl (aA rfl rfl (bO (d:=6) rfl (fun hc=>?_) (fun hc=>?_))))))))))
 ·have hg6:=hc;clear hc
  refine aI (d:=6) rfl rfl rfl rfl (aY rfl rfl rfl (aB rfl rfl (aK (XF.thenN (cH (XF.res (cW results46 rfl) ?_))))))
  exact ⟨by rw [hg6];rfl,hS.below⟩
 ·have hg6:=hc;clear hc
  refine aC (d:=6) rfl rfl (aA rfl rfl (cJ rfl rfl rfl (aB rfl rfl (aK (XF.thenN (cH (XF.res (cW results46 rfl) ?_)))))))
  exact ⟨by rw [hg6];rfl,hS.below⟩
abbrev Z3t:List Value:=[.int .i64 0,.slice none 0 0,.slice none 0 0]
def mkN (i:Nat) (s:Mks):Prop:=∀ ON,(i,ON)∉s
def mkO (i:Nat) (X:Own) (s:Mks):Prop:=∀ ON,(i,ON)∈s↔ON=X
def mkA (i:Nat) (X:Own) (s:Mks):Prop:=∀ ON,(i,ON)∈s→ON=X
section
variable {i j:Nat} {X N:Own} {s:Mks}
theorem mkN.cons (h:mkN i s) (hij:i≠j):mkN i ((j,N)::s):=fun ON h9=>by
 rcases List.mem_cons.1 h9 with e | h9
 ·exact hij (congrArg Prod.fst e)
 ·exact h ON h9
theorem mkO.cons (h:mkO i X s) (hij:i≠j):mkO i X ((j,N)::s):=fun ON=>by
 rw [List.mem_cons,← h ON]
 exact ⟨fun h9=>h9.elim (fun e=>absurd (congrArg Prod.fst e) hij) id,.inr⟩
theorem mkA.cons (h:mkA i X s) (hij:i≠j):mkA i X ((j,N)::s):=fun ON h9=>by
 rcases List.mem_cons.1 h9 with e | h9
 ·exact absurd (congrArg Prod.fst e) hij
 ·exact h ON h9
theorem mkN.one (h:mkN i s):mkO i N ((i,N)::s):=fun ON=>by
 rw [List.mem_cons]
 exact ⟨fun h9=>h9.elim (fun e=>congrArg Prod.snd e) (fun h9=>absurd h9 (h ON)),fun e=>.inl (by rw [e])⟩
theorem mkO.a (h:mkO i X s):mkA i X s:=fun ON h9=>(h ON).1 h9
theorem mkN.a (h:mkN i s):mkA i X s:=fun ON h9=>absurd h9 (h ON)
theorem mkO.has (h:mkO i X s):(i,X)∈s:=(h X).2 rfl
end
def PmT (i:Nat) (v:Value) (ON:Own):Prop:=(i=11→∃ B,v = .pointer (some ⟨B,0,none⟩)∧ON=[(B,Z3t,61)])∧(i≠11→ON=[(0,[v],0)])
theorem PmT.one {i:Nat} {v:Value} (hi:i≠11):PmT i v [(0,[v],0)]:=⟨fun h=>absurd h hi,fun _=>rfl⟩
theorem PmT.val {i:Nat} {v x:Value} (h:PmT i v [(0,[x],0)]) (hi:i≠11):v=x:=by
 have h1:=h.2 hi
 simp at h1
 exact h1.symm
structure QF (da db:DV) (g:Bool→Bool→Bool) (q:TB):Prop where
 ok:TOk q
 k:(q.k:Int)=da.sy
 n:q.n≤da.nl * db.nl
 ord:q.fa.Ord
 red:q.fa.Red
 eqv:Eqv q.fa 0 (bG (dFA da) (dFA db) g) 0
def T1 (w0:World) (O:Own) (G:bI) (K:List (Nat×World)) (OA:Own) (s:Mks) (w:World):Prop:=mkN 2 s∧mkN 7 s∧mkN 8 s∧mkN 9 s∧mkN 10 s∧mkN 12 s∧St w0 (OA++O) G K w
def T2 (w0:World) (O:Own) (G:bI) (K:List (Nat×World)) (da db:DV) (OA:Own) (s:Mks) (w:World):Prop:=∃ (qda qdb:TB) (PB MB ll:Nat) (la fa ba:Option Addr) (lc fc bc:Nat) (K1:List (Nat×World)),mkO 2 [(0,[.pointer (some ⟨PB,0,none⟩)],0)] s∧mkN 7 s∧mkN 8 s∧mkN 9 s∧mkN 10 s∧mkN 12 s∧ll=1∧LeT da qda∧LeT db qdb∧(∀ q∈K,q∈K1)∧cT w0 K1 (fun W=>TAt qda W∧TAt qdb W)∧MkP qdb.n [0] MB w∧w0.heap.size≤MB∧(∀ q∈K1,MB < q.1∨q.2.heap.size≤MB)∧St w0 ((PB,prC qda qdb MB (.slice la (ll) lc) (.slice fa (ll) fc) (.slice ba (ll) bc),93)::(OA++O)) (⟨.slice la (ll) lc,ll,prs qdb.n ([0]),95,2⟩::⟨.slice fa (ll) fc,ll,cR ([-1]),21,1⟩::⟨.slice ba (ll) bc,ll,cR ([-1]),21,1⟩::G) K1 w
def T3 (w0:World) (O:Own) (G:bI) (K:List (Nat×World)) (da db:DV) (g:Bool→Bool→Bool) (OA:Own) (s:Mks) (w:World):Prop:=∃ (q:TB) (K2:List (Nat×World)) (ON2 ON5:Own),(2,ON2)∈s∧(5,ON5)∈s∧mkO 7 [(0,[.tuple #[q.val,.bool true]],0)] s∧mkA 8 [(0,[.tuple #[q.val,.bool true]],0)] s∧mkA 9 [(0,[q.val],0)] s∧mkA 10 [(0,[.bool true],0)] s∧mkN 12 s∧QF da db g q∧(∀ q∈K,q∈K2)∧cT w0 K2 (TAt q)∧St w0 (OA++O) G K2 w
def T4 (w0:World) (O:Own) (G:bI) (K:List (Nat×World)) (da db:DV) (g:Bool→Bool→Bool) (s:Mks) (w:World):Prop:=∃ (q:TB) (K2:List (Nat×World)) (B:Nat) (ON2 ON5 ON7 ON8 ON9 ON12:Own),(2,ON2)∈s∧(5,ON5)∈s∧(7,ON7)∈s∧(8,ON8)∈s∧(9,ON9)∈s∧(12,ON12)∈s∧mkO 11 [(B,Z3t,61)] s∧mkA 8 [(0,[.tuple #[q.val,.bool true]],0)] s∧mkA 10 [(0,[.bool true],0)] s∧QF da db g q∧(∀ q∈K,q∈K2)∧cT w0 K2 (TAt q)∧St w0 ((B,q.cells,61)::O) G K2 w
def AL (OA:Own) (s:Mks):Prop:=(mkN 11 s∧OA=[])∨∃ B,mkO 11 [(B,Z3t,61)] s∧OA=[(B,Z3t,61)]
def TG (w0:World) (O:Own) (G:bI) (K:List (Nat×World)) (da db:DV) (g:Bool→Bool→Bool) (s:Mks) (w:World):Prop:=(∃ OA,AL OA s∧(T1 w0 O G K OA s w∨T2 w0 O G K da db OA s w∨T3 w0 O G K da db g OA s w))∨T4 w0 O G K da db g s w
theorem AL.cons {OA:Own} {s:Mks} {j:Nat} {N:Own} (h:AL OA s) (hj:11≠j):AL OA ((j,N)::s):=by
 rcases h with ⟨h1,h2⟩ | ⟨B,h1,h2⟩
 ·exact .inl ⟨h1.cons hj,h2⟩
 ·exact .inr ⟨B,h1.cons hj,h2⟩
section
variable {w0 w:World} {O:Own} {G:bI} {K:List (Nat×World)} {da db:DV} {g:Bool→Bool→Bool} {s:Mks}
theorem mkN.nil {i:Nat}:mkN i []:=fun _ h=>(by cases h)
theorem TG.start (hS:St w0 O G K w):TG w0 O G K da db g [] w:=.inl ⟨[],.inl ⟨mkN.nil,rfl⟩,.inl ⟨mkN.nil,mkN.nil,mkN.nil,mkN.nil,mkN.nil,mkN.nil,hS⟩⟩
theorem TG.own (h:TG w0 O G K da db g s w):∀ p∈O,w.heap[p.1]?=some (.cells p.2.1.toArray p.2.2 (0,0)):=fun p hp=>by
 rcases h with ⟨OA,_,⟨_,_,_,_,_,_,hS⟩ | ⟨_,_,_,_,_,_,_,_,_,_,_,_,_,_,_,_,_,_,_,_,_,_,_,_,_,_,hS⟩ | ⟨_,_,_,_,_,_,_,_,_,_,_,_,_,_,hS⟩⟩ | ⟨_,_,_,_,_,_,_,_,_,_,_,_,_,_,_,_,_,_,_,_,_,hS⟩
 ·exact (hS.own p (List.mem_append_right _ hp)).2
 ·exact (hS.own p (List.mem_cons_of_mem _ (List.mem_append_right _ hp))).2
 ·exact (hS.own p (List.mem_append_right _ hp)).2
 ·exact (hS.own p (List.mem_cons_of_mem _ hp)).2
theorem TG.most {w':World} {ON:Own} (h:TG w0 O G K da db g s w) (hn:mkN 5 s) (hb:Below w.heap.size w w'):TG w0 O G K da db g ((5,ON)::s) w':=by
 rcases h with ⟨OA,hA,⟨h2,h7,h8,h9,h10,h12,hS⟩ | ⟨qda,qdb,PB,MB,ll,la,fa,ba,lc,fc,bc,K1,h2,h7,h8,h9,h10,h12,q1,q2,q3,q4,q5,q6,q7,q8,hS⟩ | ⟨q,K2,ON2,ON5,h2,h5,_⟩⟩ | ⟨q,K2,B,ON2,ON5,ON7,ON8,ON9,ON12,h2,h5,_⟩
 ·exact .inl ⟨OA,hA.cons (by decide),.inl ⟨h2.cons (by decide),h7.cons (by decide),h8.cons (by decide),h9.cons (by decide),h10.cons (by decide),h12.cons (by decide),hS.grow hb⟩⟩
 ·exact .inl ⟨OA,hA.cons (by decide),.inr (.inl ⟨qda,qdb,PB,MB,ll,la,fa,ba,lc,fc,bc,K1,h2.cons (by decide),h7.cons (by decide),h8.cons (by decide),h9.cons (by decide),h10.cons (by decide),h12.cons (by decide),q1,q2,q3,q4,q5,q6.below hb,q7,q8,hS.grow hb⟩)⟩
 ·exact absurd h5 (hn _)
 ·exact absurd h5 (hn _)
theorem TG.alloc (h:TG w0 O G K da db g s w) (hn:mkN 11 s):TG w0 O G K da db g ((11,[(w.heap.size,Z3t,61)])::s) (w.alloc (.cells Z3t.toArray 61)):=by
 have hb:Below w.heap.size w (w.alloc (.cells Z3t.toArray 61)):=(Below.refl _ _).alloc (Nat.le_refl _) _
 rcases h with ⟨OA,hA,h⟩ | ⟨q,K2,B,ON2,ON5,ON7,ON8,ON9,ON12,h2,h5,h7,h8,h9,h12,h11,_⟩
 ·rcases hA with ⟨_,rfl⟩ | ⟨B,h11,_⟩
  ·refine .inl ⟨[(w.heap.size,Z3t,61)],.inr ⟨_,hn.one,rfl⟩,?_⟩
   rcases h with ⟨h2,h7,h8,h9,h10,h12,hS⟩ | ⟨qda,qdb,PB,MB,ll,la,fa,ba,lc,fc,bc,K1,h2,h7,h8,h9,h10,h12,q1,q2,q3,q4,q5,q6,q7,q8,hS⟩ | ⟨q,K2,ON2,ON5,h2,h5,h7,h8,h9,h10,h12,q1,q2,q3,hS⟩
   ·exact .inl ⟨h2.cons (by decide),h7.cons (by decide),h8.cons (by decide),h9.cons (by decide),h10.cons (by decide),h12.cons (by decide),hS.alloc _ _⟩
   ·exact .inr (.inl ⟨qda,qdb,PB,MB,ll,la,fa,ba,lc,fc,bc,K1,h2.cons (by decide),h7.cons (by decide),h8.cons (by decide),h9.cons (by decide),h10.cons (by decide),h12.cons (by decide),q1,q2,q3,q4,q5,q6.below hb,q7,q8,(hS.alloc _ _).perm (List.Perm.swap _ _ _)⟩)
   ·exact .inr (.inr ⟨q,K2,ON2,ON5,List.mem_cons_of_mem _ h2,List.mem_cons_of_mem _ h5,h7.cons (by decide),h8.cons (by decide),h9.cons (by decide),h10.cons (by decide),h12.cons (by decide),q1,q2,q3,hS.alloc _ _⟩)
  ·exact absurd h11.has (hn _)
 ·exact absurd h11.has (hn _)
theorem TG.p8 {v:Value} (h:TG w0 O G K da db g s w) (hn:mkN 8 s) (h7:∃ ON,(7,ON)∈s∧PmT 7 v ON):TG w0 O G K da db g ((8,[(0,[v],0)])::s) w:=by
 obtain ⟨O7,h7m,h7p⟩:=h7
 rcases h with ⟨OA,hA,⟨h2,h7,_⟩ | ⟨qda,qdb,PB,MB,ll,la,fa,ba,lc,fc,bc,K1,h2,h7,_⟩ | ⟨q,K2,ON2,ON5,h2,h5,h7,h8,h9,h10,h12,q1,q2,q3,hS⟩⟩ | ⟨q,K2,B,ON2,ON5,ON7,ON8,ON9,ON12,h2,h5,h7,h8,h9,h12,h11,a8,a10,q1,q2,q3,hS⟩
 ·exact absurd h7m (h7 _)
 ·exact absurd h7m (h7 _)
 ·obtain rfl:=(h7 _).1 h7m
  obtain rfl:=h7p.val (by decide)
  exact .inl ⟨OA,hA.cons (by decide),.inr (.inr ⟨q,K2,ON2,ON5,List.mem_cons_of_mem _ h2,List.mem_cons_of_mem _ h5,h7.cons (by decide),hn.one.a,h9.cons (by decide),h10.cons (by decide),h12.cons (by decide),q1,q2,q3,hS⟩)⟩
 ·exact absurd h8 (hn _)
theorem TG.p9 {v:Value} (h:TG w0 O G K da db g s w) (hn:mkN 9 s) (h8x:∃ ON,(8,ON)∈s∧PmT 8 v ON):∃ q:TB,v = .tuple #[q.val,.bool true]∧TG w0 O G K da db g ((9,[(0,[q.val],0)])::s) w:=by
 obtain ⟨O8,h8m,h8p⟩:=h8x
 rcases h with ⟨OA,hA,⟨h2,h7,h8,_⟩ | ⟨qda,qdb,PB,MB,ll,la,fa,ba,lc,fc,bc,K1,h2,h7,h8,_⟩ | ⟨q,K2,ON2,ON5,h2,h5,h7,h8,h9,h10,h12,q1,q2,q3,hS⟩⟩ | ⟨q,K2,B,ON2,ON5,ON7,ON8,ON9,ON12,h2,h5,h7,h8,h9,h12,h11,a8,a10,q1,q2,q3,hS⟩
 ·exact absurd h8m (h8 _)
 ·exact absurd h8m (h8 _)
 ·obtain rfl:=h8 _ h8m
  obtain rfl:=h8p.val (by decide)
  exact ⟨q,rfl,.inl ⟨OA,hA.cons (by decide),.inr (.inr ⟨q,K2,ON2,ON5,List.mem_cons_of_mem _ h2,List.mem_cons_of_mem _ h5,h7.cons (by decide),h8.cons (by decide),hn.one.a,h10.cons (by decide),h12.cons (by decide),q1,q2,q3,hS⟩)⟩⟩
 ·exact absurd h9 (hn _)
theorem TG.p10 {v:Value} (h:TG w0 O G K da db g s w) (hn:mkN 10 s) (h8x:∃ ON,(8,ON)∈s∧PmT 8 v ON):∃ q:TB,v = .tuple #[q.val,.bool true]∧TG w0 O G K da db g ((10,[(0,[.bool true],0)])::s) w:=by
 obtain ⟨O8,h8m,h8p⟩:=h8x
 rcases h with ⟨OA,hA,⟨h2,h7,h8,_⟩ | ⟨qda,qdb,PB,MB,ll,la,fa,ba,lc,fc,bc,K1,h2,h7,h8,_⟩ | ⟨q,K2,ON2,ON5,h2,h5,h7,h8,h9,h10,h12,q1,q2,q3,hS⟩⟩ | ⟨q,K2,B,ON2,ON5,ON7,ON8,ON9,ON12,h2,h5,h7,h8,h9,h12,h11,a8,a10,q1,q2,q3,hS⟩
 ·exact absurd h8m (h8 _)
 ·exact absurd h8m (h8 _)
 ·obtain rfl:=h8 _ h8m
  obtain rfl:=h8p.val (by decide)
  exact ⟨q,rfl,.inl ⟨OA,hA.cons (by decide),.inr (.inr ⟨q,K2,ON2,ON5,List.mem_cons_of_mem _ h2,List.mem_cons_of_mem _ h5,h7.cons (by decide),h8.cons (by decide),h9.cons (by decide),hn.one.a,h12.cons (by decide),q1,q2,q3,hS⟩)⟩⟩
 ·obtain rfl:=a8 _ h8m
  obtain rfl:=h8p.val (by decide)
  exact ⟨q,rfl,.inr ⟨q,K2,B,ON2,ON5,ON7,ON8,ON9,ON12,List.mem_cons_of_mem _ h2,List.mem_cons_of_mem _ h5,List.mem_cons_of_mem _ h7,List.mem_cons_of_mem _ h8,List.mem_cons_of_mem _ h9,List.mem_cons_of_mem _ h12,h11.cons (by decide),a8.cons (by decide),hn.one.a,q1,q2,q3,hS⟩⟩
theorem TG.p12 {v p:Value} (h:TG w0 O G K da db g s w) (hn:mkN 12 s) (h7x:∃ ON,(7,ON)∈s) (h8x:∃ ON,(8,ON)∈s) (h9x:∃ ON,(9,ON)∈s∧PmT 9 v ON) (h11x:∃ ON,(11,ON)∈s∧PmT 11 p ON):∃ (q:TB) (B:Nat),v=q.val∧p = .pointer (some ⟨B,0,none⟩)∧w.heap[B]?=some (.cells Z3t.toArray 61 (0,0))∧∀ ON,TG w0 O G K da db g ((12,ON)::s) (Go.Proofs.Ytghmbejblbnjjaa.setMany w B 0 q.cells):=by
 obtain ⟨O9,h9m,h9p⟩:=h9x
 obtain ⟨O7,h7m⟩:=h7x
 obtain ⟨O8,h8m⟩:=h8x
 obtain ⟨O11,h11m,h11p⟩:=h11x
 rcases h with ⟨OA,hA,⟨h2,h7,h8,h9,_⟩ | ⟨qda,qdb,PB,MB,ll,la,fa,ba,lc,fc,bc,K1,h2,h7,h8,h9,_⟩ | ⟨q,K2,ON2,ON5,h2,h5,h7,h8,h9,h10,h12,q1,q2,q3,hS⟩⟩ | ⟨q,K2,B,ON2,ON5,ON7,ON8,ON9,ON12,h2,h5,h7,h8,h9,h12,_⟩
 ·exact absurd h9m (h9 _)
 ·exact absurd h9m (h9 _)
 ·obtain rfl:=h9 _ h9m
  obtain rfl:=h9p.val (by decide)
  rcases hA with ⟨h11,_⟩ | ⟨B,h11,rfl⟩
  ·exact absurd h11m (h11 _)
  ·obtain rfl:=(h11 _).1 h11m
   obtain ⟨B2,rfl,e2⟩:=h11p.1 rfl
   obtain rfl:B=B2:=by simpa using e2
   refine ⟨q,B,rfl,rfl,hS.at_ 0 rfl,fun ON=>.inr ⟨q,K2,B,ON2,ON5,O7,O8,_,ON,List.mem_cons_of_mem _ h2,List.mem_cons_of_mem _ h5,List.mem_cons_of_mem _ h7m,List.mem_cons_of_mem _ h8m,List.mem_cons_of_mem _ h9m,List.mem_cons_self,h11.cons (by decide),h8.cons (by decide),h10.cons (by decide),q1,q2,q3,?_⟩⟩
   exact hS.setMany 0 q.cells 0 rfl
 ·exact absurd h12 (hn _)
theorem TG.done {p v:Value} (h:TG w0 O G K da db g s w) (h12x:∃ ON,(12,ON)∈s) (h11x:∃ ON,(11,ON)∈s∧PmT 11 p ON) (h10x:∃ ON,(10,ON)∈s∧PmT 10 v ON):∃ (q:TB) (K2:List (Nat×World)) (B:Nat),p = .pointer (some ⟨B,0,none⟩)∧v = .bool true∧QF da db g q∧(∀ q∈K,q∈K2)∧cT w0 K2 (TAt q)∧St w0 ((B,q.cells,61)::O) G K2 w:=by
 obtain ⟨O12,h12m⟩:=h12x
 obtain ⟨O11,h11m,h11p⟩:=h11x
 obtain ⟨O10,h10m,h10p⟩:=h10x
 rcases h with ⟨OA,hA,⟨h2,h7,h8,h9,h10,h12,_⟩ | ⟨qda,qdb,PB,MB,ll,la,fa,ba,lc,fc,bc,K1,h2,h7,h8,h9,h10,h12,_⟩ | ⟨q,K2,ON2,ON5,h2,h5,h7,h8,h9,h10,h12,_⟩⟩ | ⟨q,K2,B,ON2,ON5,ON7,ON8,ON9,ON12,h2,h5,h7,h8,h9,h12,h11,a8,a10,q1,q2,q3,hS⟩
 ·exact absurd h12m (h12 _)
 ·exact absurd h12m (h12 _)
 ·exact absurd h12m (h12 _)
 ·obtain rfl:=(h11 _).1 h11m
  obtain rfl:=a10 _ h10m
  obtain rfl:=h10p.val (by decide)
  obtain ⟨B2,rfl,e2⟩:=h11p.1 rfl
  obtain rfl:B=B2:=by simpa using e2
  exact ⟨q,K2,B,rfl,rfl,q1,q2,q3,hS⟩
theorem rH {P:Program} {Q:Exit→Act→World→Prop} {ops:Array Oper} {i:Nat} {o:Oper} {a:Act} {w w':World} {v:Value} {ON:Own} {R:Value→Own→World→Prop} (hi:ops[i]?=some o) (hg:o.guard=none) (hrun:(execOp a.eval o).run P w = .ok (.value v) w') (h:R v ON w'):wpOp P ops Q i (fun a' w'=>∃ v ON,a'=a.put ((ops[i]?).bind (·.dst)) v∧R v ON w') a w:=by
 unfold wpOp
 simp only [hi,dI hg,if_true]
 refine .inl ?_
 unfold Oper.wp
 rw [hrun]
 exact ⟨v,ON,rfl,h⟩
theorem tG {P:Program} {Q:Exit→Act→World→Prop} {ops:Array Oper} {i d:Nat} {T:TypeId} {ty:TypeId} {pos:String} {aft:Array Edge} {a:Act} {w:World} {z:Value} {cs:List Value} {R:Act→World→Prop} (hi:ops[i]?=some ⟨some d,.alloc T,ty,pos,aft,none⟩) (hz:∀ w,(zeroValue T).run P w = .ok z w) (hc:z.cells=cs.toArray)
  (h:R (a.put (some d) (.pointer (some ⟨w.heap.size,0,none⟩))) (w.alloc (.cells cs.toArray T))):wpOp P ops Q i R a w :=
 gW hi rfl (v:=.pointer (some ⟨w.heap.size,0,none⟩)) (w':=w.alloc (.cells cs.toArray T)) (by unfold execOp;simp only [];simp [Instr.alloc,newVar,newRow,hz,hc]) h
theorem xK {P:Program} {Q:Exit→Act→World→Prop} {ops:Array Oper} {i B:Nat} {T U:TypeId} {x y:Operand} {ty:TypeId} {pos:String} {aft:Array Edge} {a:Act} {w:World} {cs vs:List Value} {R:Value→Own→World→Prop} (hi:ops[i]?=some ⟨none,.store T x y,ty,pos,aft,none⟩) (hsz:∀ w,(sizeOf T).run P w = .ok vs.length w) (hx:a.eval x = .pointer (some ⟨B,0,none⟩)) (hy:a.eval y = .agg vs.toArray) (hv:vs.all Value.oneCell'=true) (hB:w.heap[B]?=some (.cells cs.toArray U (0,0))) (hl:vs.length≤cs.length)
  (h:∃ ON,R undef ON (Go.Proofs.Ytghmbejblbnjjaa.setMany w B 0 vs)):wpOp P ops Q i (fun a' w'=>∃ v ON,a'=a.put ((ops[i]?).bind (·.dst)) v∧R v ON w') a w:=by
 obtain ⟨ON,h⟩:=h
 unfold wpOp
 simp only [hi,dI (show (⟨none,.store T x y,ty,pos,aft,none⟩:Oper).guard=none from rfl),if_true]
 refine .inl ?_
 unfold Oper.wp execOp
 simp only []
 rw [hx,hy]
 have hst:=fA (P:=P) vs 0 0 w cs hB (by omega) (fun u hu=>List.all_eq_true.1 hv u hu)
 rw [Nat.add_zero] at hst
 have:(Instr.storeAt T (.pointer (some ⟨B,0,none⟩)) (.agg vs.toArray)).run P w = .ok () (Go.Proofs.Ytghmbejblbnjjaa.setMany w B 0 vs):=by
  simp [Instr.storeAt,Instr.sureAddr,storeVar,hsz,Value.cells,hst]
 simp only [Sem.run_bind,this,Result.andThen_ok,Sem.run_pure,Oper.upon_skip]
 exact ⟨undef,ON,rfl,h⟩
end
theorem wF:bZ prog 43=true:=by kernel_rfl
theorem goes_44:bZ prog 44=true:=by kernel_rfl
theorem goes_46:bZ prog 46=true:=by kernel_rfl
theorem goes_59:bZ prog 59=true:=by kernel_rfl
theorem goes_60:bZ prog 60=true:=by kernel_rfl
theorem mR (da db:DV) (Kt:List (Nat×World)) (Ot:Own) (G:bI) (K:List (Nat×World)) (w0 w:World) (hS0:St w0 Ot G K w) (hKt:∀ q∈Kt,q∈K) (hDa:cT w0 Kt (fun W=>DIn W da)) (hDb:cT w0 Kt (fun W=>DIn W db)) (hsa:da.nl≤24) (hsb:db.nl≤24) (hk6:da.sy≤6) (g:Bool→Bool→Bool) (f:FuncId) (hgo:bZ prog f=true) (hf:∀ x y w,Calls prog f #[.bool x,.bool y] w (fun e w'=>e = .returned (.bool (g x y))∧Below w.heap.size w w')) :
  Calls prog 43 #[da.val,db.val,.func (.func f) #[] #[]] w (fun e w'=>∃ (d2:DV) (Kn:List (Nat×World)),(fS da db=0→Lst d2 (bG (dFA da) (dFA db) g)∧d2.nl≤da.nl * db.nl)∧(fS da db≠0→d2=zD)∧e = .returned (.tuple #[d2.val,.int .i64 (fS da db)])∧(∀ q∈K,q∈Kn)∧cT w0 Kn (fun W=>DIn W d2)∧St w0 Ot G Kn w'):=by
 refine cP (args:=[da.val,db.val,.func (.func f) #[] #[]]) func43 rfl ntmps43 rfl ?_
 have hS:=hS0
 refine aH (aN (cQ (cs:=[_,_,_]) hS rfl rfl rfl fun B1 W1 hS=>cQ (cs:=[_,_,_]) hS rfl rfl rfl fun B2 W2 hS=>cE (cs:=[_,_,_]) hS zeroValue25 rfl rfl fun B3 W3 hS=>aB rfl rfl (aK (XF.thenN (aH (aH (aN (bJ (vs:=[_,_,_]) isAgg25 sizeOf25 rfl (aT.own (j:=0) (m:=3) (hS.at_ 2 rfl) rfl) rfl (bJ (vs:=[_,_,_]) isAgg25 sizeOf25 rfl (aT.own (j:=0) (m:=3) (hS.at_ 1 rfl) rfl) rfl (bV (vs:=[_,_]) goes_47 rfl (qR da db _ (hDa (hS.keep K (fun q hq=>by simp [hq])) hKt) (hDb (hS.keep K (fun q hq=>by simp [hq])) hKt)) rfl ?_))))))))))
 rintro e W9 ⟨rfl,hb9⟩
 refine ⟨_,rfl,?_⟩
 have hS':=hS.grow hb9;clear hS;have hS:=hS';clear hS'
 refine aB rfl rfl (aK (XF.thenN (aH (aN (aA rfl rfl (dO rfl rfl rfl (aK (XF.thenN (bR rfl (fun hc=>?_) (fun hc=>?_))))))))))
 ·have hc15:=of_decide_eq_true hc;clear hc
  refine aH (aN (eG (us:=[]) rfl (uM) rfl (aA rfl rfl (bU (i:=0) (vs:=[_,_,_]) (cs':=[_,_,_]) (O':=(_::_::_::Ot)) hS sizeOf25 rfl rfl rfl rfl rfl rfl rfl fun W4 hS=>aB rfl rfl (aK (XF.thenN (cH (XF.thenR (XF.res (kI (vs:=[_,_,_]) results43 isAgg25 sizeOf25 rfl (aT.own (j:=0) (m:=3) (hS.at_ 0 rfl) rfl) rfl) ?_)))))))))
  exact ⟨zD,K,fun h=>absurd h hc15,fun _=>rfl,rfl,fun q hq=>hq,fun _ _=>uN,(hS.keep K (fun q hq=>by simp [hq])).tail.tail.tail⟩
 ·have hc15:=of_decide_eq_false hc;clear hc
  have h0:fS da db=0:=Decidable.of_not_not hc15
  obtain ⟨hea,heb,hsy⟩:=zY h0
  obtain ⟨k,hk,hk9,_⟩:=dM hea
  have hk5:k≤6:=by omega
  have hmo:576≤mostD k:=by
   unfold mostD
   split
   ·omega
   ·have h9:10922≤65536 / k:=by
     rw [Nat.le_div_iff_mul_le (by omega)];omega
    omega
  refine bS (XF.thenN (aH ?_))
  have hS9:=hS.keep K (fun q hq=>by simp [hq])
  clear hS;have hS:=hS9;clear hS9
  refine zG (mk:=[2,5,7,8,9,10,11,12]) (k:=13) (vals:=(fun i8=>match i8 with | 0=>da.val | 1=>db.val | 3=>.pointer (some ⟨B1,0+0,none⟩) | 4=>.int .i64 da.sy | _=>.func (.func f) #[] #[])) (Pm:=PmT) (fun s w=>TG w0 ((B3,[.int .i64 0,.slice none 0 0,.slice none 0 0],25)::(B2,[.int .i64 db.sy,.slice db.na db.nl db.nc,.slice db.aa db.al db.ac],25)::(B1,[.int .i64 da.sy,.slice da.na da.nl da.nc,.slice da.aa da.al da.ac],25)::Ot) G K da db g s w∧mkA 5 [(0,[.int .i64 ((mostD k:Nat):Int)],0)] s) cB ⟨TG.start hS.drew,mkN.nil.a⟩ (Nat.le_of_ble_eq_true (by kernel_rfl)) (by kernel_rfl) (by kernel_rfl) ?_ ?_ (by decide) ?_
  ·intro i9 hi9 hin s a0 c9 w ha0 hF9 hG hD
   have hfr:∀ t v,freeT _ t=true→dF _ t=some v→c9.eval (.tmp t)=v:=fun t v h1 h2=>(hF9 t h1).trans (ha0.at_ t v h2)
   have hb3:=hG.1.own (B1,[.int .i64 da.sy,.slice da.na da.nl da.nc,.slice da.aa da.al da.ac],25) (List.mem_cons_of_mem _ (List.mem_cons_of_mem _ List.mem_cons_self))
   have hb4:=hG.1.own (B2,[.int .i64 db.sy,.slice db.na db.nl db.nc,.slice db.aa db.al db.ac],25) (List.mem_cons_of_mem _ List.mem_cons_self)
   match i9,hi9,hin with
   | 0,_,_=>exact ⟨_,rfl,rfl,by
    exact dX (l:=[(3,.pointer (some ⟨B1,0,none⟩))]) (vs:=[_,_,_]) isAgg25 sizeOf25 rfl (aT.own (j:=0) (m:=3) hb3 rfl) c9.eval (gZ (hfr 3 _ (by kernel_rfl) rfl))⟩
   | 1,_,_=>exact ⟨_,rfl,rfl,by
    exact dX (l:=[(4,.pointer (some ⟨B2,0,none⟩))]) (vs:=[_,_,_]) isAgg25 sizeOf25 rfl (aT.own (j:=0) (m:=3) hb4 rfl) c9.eval (gZ (hfr 4 _ (by kernel_rfl) rfl))⟩
   | 2,_,h9=>exact absurd (by decide) h9
   | 3,_,_=>exact ⟨_,rfl,rfl,by
    exact bD (l:=[(3,.pointer (some ⟨B1,0,none⟩))]) dR rfl rfl c9.eval (gZ (hfr 3 _ (by kernel_rfl) rfl))⟩
   | 4,_,_=>exact ⟨_,rfl,rfl,by
    have h9:=(hD 3 22 (by kernel_rfl)).1 (by decide)
    exact bA (l:=[(22,.pointer (some ⟨B1,0+0,none⟩))]) isAgg3 rfl (aD hb3 rfl) c9.eval (gZ h9)⟩
   | 5,_,h9=>exact absurd (by decide) h9
   | 6,_,_=>exact ⟨_,rfl,rfl,by
    exact aU (l:=[(2,.func (.func f) #[] #[])]) rfl c9.eval (gZ (hfr 2 _ (by kernel_rfl) rfl))⟩
   | 7,_,h9=>exact absurd (by decide) h9
   | 8,_,h9=>exact absurd (by decide) h9
   | 9,_,h9=>exact absurd (by decide) h9
   | 10,_,h9=>exact absurd (by decide) h9
   | 11,_,h9=>exact absurd (by decide) h9
   | 12,_,h9=>exact absurd (by decide) h9
   | i+13,h9,_=>omega
  ·intro i9 him s a0 c9 w ha0 hF9 hG hnew hD
   obtain ⟨hG,h5a⟩:=hG
   have hcase:i9=2∨i9=5∨i9=7∨i9=8∨i9=9∨i9=10∨i9=11∨i9=12:=by simpa using him
   rcases hcase with rfl | rfl | rfl | rfl | rfl | rfl | rfl | rfl
   ·have h0:=(hD 0 19 (by kernel_rfl)).1 (by decide)
    have h1:=(hD 1 20 (by kernel_rfl)).1 (by decide)
    rcases hG with ⟨OA,hA,⟨g2,g7,g8,g9,g10,g12,hS9⟩ | ⟨qda,qdb,PB,MB,ll,la,fa,ba,lc,fc,bc,K1,g2,_⟩ | ⟨q,K2,ON2,ON5,g2,_⟩⟩ | ⟨q,K2,B,ON2,ON5,ON7,ON8,ON9,ON12,g2,_⟩
    ·refine nC (vs:=[da.val,db.val]) rfl wB (by simp only [List.map_cons,List.map_nil,h0,h1]) ((mQ da db k Kt _ _ K w0 _ hS9 hKt hDa hDb hk (hsy.symm.trans hk) hea heb).mono ?_)
     rintro e w2 ⟨qda,qdb,PB,MB,ll,la,fa,ba,lc,fc,bc,K1,hll,rfl,hLa,hLb,hk1,hTB,hM9,hMb,hMK,hS8⟩
     exact ⟨_,[(0,[_],0)],rfl,PmT.one (by decide),.inl ⟨OA,hA.cons (by decide),.inr (.inl ⟨qda,qdb,PB,MB,ll,la,fa,ba,lc,fc,bc,K1,g2.one,g7.cons (by decide),g8.cons (by decide),g9.cons (by decide),g10.cons (by decide),g12.cons (by decide),hll,hLa,hLb,hk1,hTB,hM9,hMb,hMK,hS8⟩)⟩,h5a.cons (by decide)⟩
    ·exact absurd g2.has (hnew _)
    ·exact absurd g2 (hnew _)
    ·exact absurd g2 (hnew _)
   ·have h4:=(hD 4 23 (by kernel_rfl)).1 (by decide)
    refine nC (vs:=[.int .i64 da.sy]) rfl goes_60 (by simp only [List.map_cons,List.map_nil,h4]) ((As da.sy k hk _ hk9).mono ?_)
    rintro e w2 ⟨rfl,hb⟩
    exact ⟨_,[(0,[_],0)],rfl,PmT.one (by decide),hG.most hnew hb,(show mkN 5 s from hnew).one.a⟩
   ·obtain ⟨O2,o2,p2⟩:=(hD 2 21 (by kernel_rfl)).2 (by decide)
    obtain ⟨O5,o5,p5⟩:=(hD 5 24 (by kernel_rfl)).2 (by decide)
    have h6:=(hD 6 25 (by kernel_rfl)).1 (by decide)
    obtain rfl:=h5a _ o5
    have e5:=p5.val (by decide)
    rcases hG with ⟨OA,hA,⟨g2,_⟩ | ⟨qda,qdb,PB,MB,ll,la,fa,ba,lc,fc,bc,K1,g2,g7,g8,g9,g10,g12,hll,hLa,hLb,hk1,hTB,hM9,hMb,hMK,hS8⟩ | ⟨q,K2,ON2,ON5,g2,g5,g7,_⟩⟩ | ⟨q,K2,B,ON2,ON5,ON7,ON8,ON9,ON12,g2,g5,g7,_⟩
    ·exact absurd o2 (g2 _)
    ·obtain rfl:=(g2 _).1 o2
     have e2:=p2.val (by decide)
     have hnm:qda.n * qdb.n≤da.nl * db.nl:=Nat.mul_le_mul hLa.n hLb.n
     have hm9:da.nl * db.nl≤24 * 24:=Nat.mul_le_mul hsa hsb
     refine nC (vs:=[.pointer (some ⟨PB,0,none⟩),.int .i64 ((mostD k:Nat):Int),.func (.func f) #[] #[]]) rfl goes_59 (by simp only [List.map_cons,List.map_nil,e2,e5,h6]) ((tF qda qdb g f (mostD k) PB MB ll la fa ba lc fc bc K1 _ _ K1 w0 _ hgo hf hll hS8 hLa.ok hLb.ok hLa.n4 hLb.n4 (hLa.kk hLb hsy) (by omega) (by omega) (fun q hq=>hq) hTB hM9 hMb hMK).mono ?_)
     rintro e w2 ⟨q,K2,rfl,hqT,hqk,hqn,hqo,hqr,hqe,hk2,hqB,hS7⟩
     refine ⟨_,[(0,[_],0)],rfl,PmT.one (by decide),.inl ⟨OA,hA.cons (by decide),.inr (.inr ⟨q,K2,_,_,List.mem_cons_of_mem _ o2,List.mem_cons_of_mem _ o5,g7.one,g8.a.cons (by decide),g9.a.cons (by decide),g10.a.cons (by decide),g12.cons (by decide),⟨hqT,by rw [hqk];exact hLa.k,Nat.le_trans hqn hnm,hqo,hqr,Eqv.trans (B:=bG qda.fa qdb.fa g) hqk hqe (tD hLa.ok.fa hLb.ok.fa hLa.dok hLb.dok (hLa.kk hLb hsy) hLa.kd hLb.kd hLa.eqv hLb.eqv)⟩,fun z hz=>hk2 z (hk1 z hz),hqB,hS7⟩)⟩,h5a.cons (by decide)⟩
    ·exact absurd g7.has (hnew _)
    ·exact absurd g7 (hnew _)
   ·obtain h7x:=(hD 7 26 (by kernel_rfl)).2 (by decide)
    refine rH (v:=c9.eval (.tmp 26)) (w':=w) rfl rfl ?_ ⟨PmT.one (by decide),hG.p8 hnew h7x,h5a.cons (by decide)⟩
    exact aU (l:=[(26,c9.eval (.tmp 26))]) rfl c9.eval (gZ rfl)
   ·obtain ⟨q,e8,h9⟩:=hG.p9 hnew ((hD 8 18 (by kernel_rfl)).2 (by decide))
    refine rH (v:=q.val) (w':=w) rfl rfl ?_ ⟨PmT.one (by decide),h9,h5a.cons (by decide)⟩
    exact fF (l:=[(18,.tuple #[q.val,.bool true])]) rfl rfl c9.eval (gZ e8)
   ·obtain ⟨q,e8,h9⟩:=hG.p10 hnew ((hD 8 18 (by kernel_rfl)).2 (by decide))
    refine rH (v:=.bool true) (w':=w) rfl rfl ?_ ⟨PmT.one (by decide),h9,h5a.cons (by decide)⟩
    exact fF (l:=[(18,.tuple #[q.val,.bool true])]) rfl rfl c9.eval (gZ e8)
   ·refine tG (cs:=Z3t) rfl zeroValue61 rfl ?_
    exact ⟨_,_,rfl,⟨fun _=>⟨_,rfl,rfl⟩,fun h=>absurd rfl h⟩,hG.alloc hnew,h5a.cons (by decide)⟩
   ·obtain ⟨O7,o7,_⟩:=(hD 7 26 (by kernel_rfl)).2 (by decide)
    obtain ⟨O8,o8,_⟩:=(hD 8 18 (by kernel_rfl)).2 (by decide)
    obtain ⟨q,B,ev,ep,hB9,hst⟩:=hG.p12 hnew ⟨_,o7⟩ ⟨_,o8⟩ ((hD 9 27 (by kernel_rfl)).2 (by decide)) ((hD 11 9 (by kernel_rfl)).2 (by decide))
    exact xK (vs:=q.cells) rfl sizeOf61 ep ev rfl hB9 (show 3≤3 from Nat.le_refl _) ⟨[(0,[undef],0)],PmT.one (by decide),hst _,h5a.cons (by decide)⟩
  ·intro s c9 w hG hsz hdf hfr hval hin hmk hkeys hdist
   obtain ⟨q,K2,B9,hp9,hv9,hQF,hk2,hqB,hS2⟩:=hG.1.done (hin 12 (by decide)) (hmk 11 9 (by decide) rfl) (hmk 10 28 (by decide) rfl)
   clear hS;have hS:=hS2;clear hS2
   refine (show bY _ _ _ _ (List.drop 13 _) [(3,.pointer (some ⟨B1,0,none⟩)),(4,.pointer (some ⟨B2,0,none⟩)),(6,.pointer (some ⟨B3,0,none⟩)),(9,.pointer (some ⟨B9,0,none⟩)),(28,.bool true)] w from ?_) c9 (xB.has hsz hdf ⟨hfr 3 _ (by kernel_rfl) rfl,hfr 4 _ (by kernel_rfl) rfl,hfr 6 _ (by kernel_rfl) rfl,hp9,hv9,trivial⟩)
   refine aB rfl rfl (aK (XF.thenN (aH (aH (aN (aA rfl rfl (iN rfl rfl (aK (XF.thenN (xN rfl (bS (XF.thenN (aH (aN (bJ (vs:=[_,_,_]) isAgg61 sizeOf61 rfl (aT.own (j:=0) (m:=3) (hS.at_ 0 rfl) rfl) rfl (bV (vs:=[_]) vY rfl (sY q K2 _ _ K2 w0 _ (hS.keep K2 (fun q hq=>by simp [hq])) hQF.ok (fun q hq=>hq) hqB) rfl ?_))))))))))))))))
   rintro e W9 ⟨d2,K3,rfl,hd2,k3,hdR,hS9⟩
   refine ⟨_,rfl,?_⟩
   clear hS;have hS:=hS9;clear hS9
   refine bU (i:=1) (vs:=[_,_,_]) (cs':=[_,_,_]) (O':=(_::_::_::_::Ot)) hS sizeOf25 rfl rfl rfl rfl rfl rfl rfl fun W5 hS=>aB rfl rfl (aK (XF.thenN (cH (XF.res (kI (vs:=[_,_,_]) results43 isAgg25 sizeOf25 rfl (aT.own (j:=0) (m:=3) (hS.at_ 1 rfl) rfl) rfl) ?_))))
   obtain ⟨K4,k4,g4,hS4⟩:=(hS.keep K3 (fun q hq=>by simp [hq])).rowKeep
   have hqk:q.k=(dFA da).k:=by have:=hQF.k;show q.k=da.sy.toNat;omega
   have hm9:da.nl * db.nl≤24 * 24:=Nat.mul_le_mul hsa hsb
   have hqn:=hQF.n
   have hqk6:q.k≤6:=by have:=hQF.k;omega
   have hl:=uL (A:=bG (dFA da) (dFA db) g) hQF.ok hd2 hQF.ord hQF.red hQF.eqv hqk (by omega) (by omega) (Nat.le_trans (Nat.mul_le_mul (show q.n≤576 by omega) hqk6) (by decide))
   exact ⟨d2,K4,fun _=>⟨hl.1,by rw [hl.2];exact hqn⟩,fun h=>absurd h0 h,by rw [h0],fun z hz=>k4 z (k3 z (hk2 z hz)),fun h9 hk9=>uO hQF.ok hd2 (hdR h9 (fun z hz=>hk9 z (k4 z hz))) (by rw [hd2.bs];exact rD (g4 h9 hk9)),hS4.tail.tail.tail.tail⟩
theorem Au (da db:DV) (Kt:List (Nat×World)) (Ot:Own) (G:bI) (K:List (Nat×World)) (w0 w:World) (hS0:St w0 Ot G K w) (hKt:∀ q∈Kt,q∈K) (hDa:cT w0 Kt (fun W=>DIn W da)) (hDb:cT w0 Kt (fun W=>DIn W db)) (hsa:da.nl≤24) (hsb:db.nl≤24) (hk6:da.sy≤6) :
  Calls prog 26 #[da.val,db.val] w (fun e w'=>∃ (d2:DV) (Kn:List (Nat×World)),(fS da db=0→Lst d2 (bG (dFA da) (dFA db) (fun x y=>(x && y)))∧d2.nl≤da.nl * db.nl)∧(fS da db≠0→d2=zD)∧e = .returned (.tuple #[d2.val,.int .i64 (fS da db)])∧(∀ q∈K,q∈Kn)∧cT w0 Kn (fun W=>DIn W d2)∧St w0 Ot G Kn w'):=by
 refine cP (args:=[da.val,db.val]) func26 rfl ntmps26 rfl ?_
 have hS:=hS0
 refine aH (aN (cQ (cs:=[_,_,_]) hS rfl rfl rfl fun B1 W1 hS=>cQ (cs:=[_,_,_]) hS rfl rfl rfl fun B2 W2 hS=>cE (cs:=[_,_,_]) hS zeroValue25 rfl rfl fun B3 W3 hS=>aB rfl rfl (aK (XF.thenN (aH (aN (bJ (vs:=[_,_,_]) isAgg25 sizeOf25 rfl (aT.own (j:=0) (m:=3) (hS.at_ 2 rfl) rfl) rfl (bJ (vs:=[_,_,_]) isAgg25 sizeOf25 rfl (aT.own (j:=0) (m:=3) (hS.at_ 1 rfl) rfl) rfl (bV (vs:=[_,_,_]) wF rfl (mR da db Kt _ _ K w0 _ (hS.keep K (fun q hq=>by simp [hq])) hKt hDa hDb hsa hsb hk6 (fun x y=>(x && y)) 44 goes_44 At) rfl ?_)))))))))
 rintro e W9 ⟨d2,K2,hok,hbad,rfl,hk2,hD2,hS9⟩
 refine ⟨_,rfl,?_⟩
 clear hS;have hS:=hS9;clear hS9
 refine bF rfl rfl rfl (bF rfl rfl rfl (bU (i:=0) (vs:=[_,_,_]) (cs':=[_,_,_]) (O':=(_::_::_::Ot)) hS sizeOf25 rfl rfl rfl rfl rfl rfl rfl fun W4 hS=>aB rfl rfl (aK (XF.thenN (cH (XF.res (kI (vs:=[_,_,_]) results26 isAgg25 sizeOf25 rfl (aT.own (j:=0) (m:=3) (hS.at_ 0 rfl) rfl) rfl) ?_))))))
 exact ⟨d2,K2,hok,hbad,rfl,hk2,hD2,(hS.keep K2 (fun q hq=>by simp [hq])).tail.tail.tail⟩
theorem uR (da db:DV) (Kt:List (Nat×World)) (Ot:Own) (G:bI) (K:List (Nat×World)) (w0 w:World) (hS0:St w0 Ot G K w) (hKt:∀ q∈Kt,q∈K) (hDa:cT w0 Kt (fun W=>DIn W da)) (hDb:cT w0 Kt (fun W=>DIn W db)) (hsa:da.nl≤24) (hsb:db.nl≤24) (hk6:da.sy≤6) :
  Calls prog 28 #[da.val,db.val] w (fun e w'=>∃ (d2:DV) (Kn:List (Nat×World)),(fS da db=0→Lst d2 (bG (dFA da) (dFA db) (fun x y=>(x || y)))∧d2.nl≤da.nl * db.nl)∧(fS da db≠0→d2=zD)∧e = .returned (.tuple #[d2.val,.int .i64 (fS da db)])∧(∀ q∈K,q∈Kn)∧cT w0 Kn (fun W=>DIn W d2)∧St w0 Ot G Kn w'):=by
 refine cP (args:=[da.val,db.val]) func28 rfl ntmps28 rfl ?_
 have hS:=hS0
 refine aH (aN (cQ (cs:=[_,_,_]) hS rfl rfl rfl fun B1 W1 hS=>cQ (cs:=[_,_,_]) hS rfl rfl rfl fun B2 W2 hS=>cE (cs:=[_,_,_]) hS zeroValue25 rfl rfl fun B3 W3 hS=>aB rfl rfl (aK (XF.thenN (aH (aN (bJ (vs:=[_,_,_]) isAgg25 sizeOf25 rfl (aT.own (j:=0) (m:=3) (hS.at_ 2 rfl) rfl) rfl (bJ (vs:=[_,_,_]) isAgg25 sizeOf25 rfl (aT.own (j:=0) (m:=3) (hS.at_ 1 rfl) rfl) rfl (bV (vs:=[_,_,_]) wF rfl (mR da db Kt _ _ K w0 _ (hS.keep K (fun q hq=>by simp [hq])) hKt hDa hDb hsa hsb hk6 (fun x y=>(x || y)) 46 goes_46 uQ) rfl ?_)))))))))
 rintro e W9 ⟨d2,K2,hok,hbad,rfl,hk2,hD2,hS9⟩
 refine ⟨_,rfl,?_⟩
 clear hS;have hS:=hS9;clear hS9
 refine bF rfl rfl rfl (bF rfl rfl rfl (bU (i:=0) (vs:=[_,_,_]) (cs':=[_,_,_]) (O':=(_::_::_::Ot)) hS sizeOf25 rfl rfl rfl rfl rfl rfl rfl fun W4 hS=>aB rfl rfl (aK (XF.thenN (cH (XF.res (kI (vs:=[_,_,_]) results28 isAgg25 sizeOf25 rfl (aT.own (j:=0) (m:=3) (hS.at_ 0 rfl) rfl) rfl) ?_))))))
 exact ⟨d2,K2,hok,hbad,rfl,hk2,hD2,(hS.keep K2 (fun q hq=>by simp [hq])).tail.tail.tail⟩
theorem goes_26:bZ prog 26=true:=by kernel_rfl
theorem goes_28:bZ prog 28=true:=by kernel_rfl
theorem tH {w:World} {d:DV} (hd:DIn w d) (h:jS d=true) (he:cO d=0):d.nl≤24∧d.sy≤6:=by
 obtain ⟨k,hk,h1,h2,h3,h4,h5,h6⟩:=dM he
 unfold jS at h
 simp only [Bool.and_eq_true,decide_eq_true_eq] at h
 refine ⟨h.1,?_⟩
 have hl:=hd.nlen
 obtain ⟨r,hr⟩:∃ r,d.ns[0]?=some r:=⟨_,List.getElem?_eq_getElem (by omega)⟩
 have hm:=List.mem_of_getElem? hr
 have h7:=of_decide_eq_true (List.all_eq_true.1 h.2.2 r hm)
 have h8:=(h6 r hm).1
 omega
theorem uS {d e:DV} {A:FA} (h:Lst d A) (hA:A.k=(dFA e).k) (he:cO e=0):d.sy=e.sy:=by
 obtain ⟨k,hk,_⟩:=dM h.e
 obtain ⟨k',hk',_⟩:=dM he
 have h1:d.sy.toNat=e.sy.toNat:=h.k.trans hA
 omega
theorem rI:bZ prog 19=true:=by kernel_rfl
theorem wG:bZ prog 20=true:=by kernel_rfl
theorem Av {d:DV} (he:cO d=0) (hl:d.ns.length=d.nl) (hx:∀ r∈d.ns,r.xs.length=r.l):∀ (us:List Int) (s:Nat),s < d.nl→us.all (fun y=>inQ y d.sy)=true→us.foldl (nxD d) s=(dFA d).run s (us.map Int.toNat)
 | [],s,_,_=>rfl
 | y::us,s,hs,h=>by
  simp only [List.all_cons,Bool.and_eq_true] at h
  have hy:=h.1
  unfold inQ at hy
  simp at hy
  obtain ⟨r,hr⟩:∃ r,d.ns[s]?=some r:=⟨_,List.getElem?_eq_getElem (by omega)⟩
  have e:nxD d s y=(dFA d).nx s y.toNat:=by
   rw [rC he hl hx hr (by omega)]
   unfold nxD;rw [hr];rfl
  have hlt:(dFA d).nx s y.toNat < d.nl:=(oJ he hl hx).t0_ s y.toNat hs (by show y.toNat < d.sy.toNat;omega)
  show us.foldl (nxD d) (nxD d s y)=(dFA d).run ((dFA d).nx s y.toNat) (us.map Int.toNat)
  rw [e]
  exact Av he hl hx us _ hlt h.2
theorem rJ {d:DV} (he:cO d=0) (hl:d.ns.length=d.nl) (hx:∀ r∈d.ns,r.xs.length=r.l) {us:List Int} (h:us.all (fun y=>inQ y d.sy)=true):(jC d us).2.1=(dFA d).acc 0 (us.map Int.toNat)∧(jC d us).2.2=0:=by
 obtain ⟨k,hk,_,h2,_⟩:=dM he
 have e:=Av he hl hx us 0 (by omega) h
 rw [show jC d us=_ from (if_neg (fun h9=>h9 he)).trans (if_pos h)]
 exact ⟨by show d.bs.getD (us.foldl (nxD d) 0) false=d.bs.getD ((dFA d).run 0 (us.map Int.toNat)) false;rw [e],rfl⟩
theorem Aw {d:DV} {us:List Int} (he:cO d=0) (h:(jC d us).2.2=0):us.all (fun y=>inQ y d.sy)=true:=by
 cases e:us.all (fun y=>inQ y d.sy) with
 | true=>rfl
 | false =>
  rw [show jC d us=_ from (if_neg (fun h9=>h9 he)).trans (if_neg (by rw [e];decide))] at h
  exact absurd h (by decide)
theorem wd_of {d:DV} {us:List Int} (h:us.all (fun y=>inQ y d.sy)=true):Wd (dFA d).k (us.map Int.toNat):=fun x hx=>by
 obtain ⟨y,hy,rfl⟩:=List.mem_map.1 hx
 have:=List.all_eq_true.1 h y hy
 unfold inQ at this
 simp at this
 show y.toNat < d.sy.toNat
 omega
theorem rK {d e:DV} {A:FA} {us:List Int} (h:Lst d A) (hsy:d.sy=e.sy) (hall:us.all (fun y=>inQ y e.sy)=true):(jC d us).2.1=A.acc 0 (us.map Int.toNat)∧(jC d us).2.2=0:=by
 rw [← hsy] at hall
 obtain ⟨h1,h2⟩:=rJ h.e h.len h.xl hall
 exact ⟨h1.trans (h.eqv _ (wd_of hall)),h2⟩
theorem rL (da db:DV) (ua:Option Addr) (ul uc:Nat) (us:List Int) (w:World) (hDa:DIn w da) (hDb:DIn w db) (hu:Row w ua us∧us.length=ul∧ul≤uc∧ul≤9223372036854775807) :
  Calls prog 6 #[da.val,db.val,.slice ua ul uc] w (fun e w'=>e = .returned (.bool true)∧Below w.heap.size w w'):=by
 refine cP (args:=[da.val,db.val,.slice ua ul uc]) func6 rfl ntmps6 rfl ?_
 have hS:=St.start w
 refine aH (aN (cQ (cs:=[_,_,_]) hS rfl rfl rfl fun B1 W1 hS=>cQ (cs:=[_,_,_]) hS rfl rfl rfl fun B2 W2 hS=>aB rfl rfl (aK (XF.thenN (aH (aH (aN (bJ (vs:=[_,_,_]) isAgg25 sizeOf25 rfl (aT.own (j:=0) (m:=3) (hS.at_ 1 rfl) rfl) rfl (cL (vs:=[_]) hS Am rfl (pF da _ (hDa.below hS.below)) rfl fun W3 hS=>iN rfl rfl (aA rfl rfl (bO (d:=31) rfl (fun hc=>?_) (fun hc=>?_))))))))))))
 ·have hg31:=hc;clear hc
  refine aI (d:=31) rfl rfl rfl rfl (aI (d:=31) rfl rfl rfl rfl (aI (d:=31) rfl rfl rfl rfl (aY rfl rfl rfl (aA rfl rfl (aI (d:=36) rfl rfl rfl rfl (aI (d:=36) rfl rfl rfl rfl (aI (d:=36) rfl rfl rfl rfl (aY rfl rfl rfl (aA rfl rfl (aI (d:=41) rfl rfl rfl rfl (aI (d:=41) rfl rfl rfl rfl (aI (d:=41) rfl rfl rfl rfl (aY rfl rfl rfl (aA rfl rfl (aI (d:=46) rfl rfl rfl rfl (aI (d:=46) rfl rfl rfl rfl (aI (d:=46) rfl rfl rfl rfl (aI (d:=46) rfl rfl rfl rfl (aI (d:=46) rfl rfl rfl rfl (aY rfl rfl rfl (aA rfl rfl (aI (d:=53) rfl rfl rfl rfl (aI (d:=53) rfl rfl rfl rfl (aI (d:=53) rfl rfl rfl rfl (aY rfl rfl rfl (aK (XF.thenN (eO rfl (aH (aN (cL (vs:=[]) hS fT rfl (eB _) rfl fun W4 hS=>aB rfl rfl (aK (XF.thenN (cH ?_))))))))))))))))))))))))))))))))))
  refine XF.thenR (XF.res (cW results6 rfl) ?_)
  exact ⟨rfl,hS.below⟩
 ·have hg31:=hc;clear hc
  refine aC (d:=31) rfl rfl (bJ (vs:=[_,_,_]) isAgg25 sizeOf25 rfl (aT.own (j:=0) (m:=3) (hS.at_ 0 rfl) rfl) rfl (aC (d:=31) rfl rfl (cL (vs:=[_]) hS Am rfl (pF db _ (hDb.below hS.below)) rfl fun W5 hS=>aC (d:=31) rfl rfl (iN rfl rfl (cJ rfl rfl rfl (aA rfl rfl (bO (d:=36) rfl (fun hc=>?_) (fun hc=>?_))))))))
  ·have hg36:=hc;clear hc
   refine aI (d:=36) rfl rfl rfl rfl (aI (d:=36) rfl rfl rfl rfl (aI (d:=36) rfl rfl rfl rfl (aY rfl rfl rfl (aA rfl rfl (aI (d:=41) rfl rfl rfl rfl (aI (d:=41) rfl rfl rfl rfl (aI (d:=41) rfl rfl rfl rfl (aY rfl rfl rfl (aA rfl rfl (aI (d:=46) rfl rfl rfl rfl (aI (d:=46) rfl rfl rfl rfl (aI (d:=46) rfl rfl rfl rfl (aI (d:=46) rfl rfl rfl rfl (aI (d:=46) rfl rfl rfl rfl (aY rfl rfl rfl (aA rfl rfl (aI (d:=53) rfl rfl rfl rfl (aI (d:=53) rfl rfl rfl rfl (aI (d:=53) rfl rfl rfl rfl (aY rfl rfl rfl (aK (XF.thenN (eO rfl (aH (aN (cL (vs:=[]) hS fT rfl (eB _) rfl fun W6 hS=>aB rfl rfl (aK (XF.thenN (cH (XF.thenR (XF.res (cW results6 rfl) ?_)))))))))))))))))))))))))))))))
   exact ⟨rfl,hS.below⟩
  ·have hg36:=hc;clear hc
   refine aC (d:=36) rfl rfl (bJ (vs:=[_,_,_]) isAgg25 sizeOf25 rfl (aT.own (j:=0) (m:=3) (hS.at_ 1 rfl) rfl) rfl (aC (d:=36) rfl rfl (cL (vs:=[_]) hS qS rfl (qE da _ (hDa.below hS.below)) rfl fun W7 hS=>aC (d:=36) rfl rfl (dO rfl rfl rfl (cJ rfl rfl rfl (aA rfl rfl (bO (d:=41) rfl (fun hc=>?_) (fun hc=>?_))))))))
   ·have hg41:=of_decide_eq_true hc;clear hc
    refine aI (d:=41) rfl rfl rfl rfl (aI (d:=41) rfl rfl rfl rfl (aI (d:=41) rfl rfl rfl rfl (aY rfl rfl rfl (aA rfl rfl (aI (d:=46) rfl rfl rfl rfl (aI (d:=46) rfl rfl rfl rfl (aI (d:=46) rfl rfl rfl rfl (aI (d:=46) rfl rfl rfl rfl (aI (d:=46) rfl rfl rfl rfl (aY rfl rfl rfl (aA rfl rfl (aI (d:=53) rfl rfl rfl rfl (aI (d:=53) rfl rfl rfl rfl (aI (d:=53) rfl rfl rfl rfl (aY rfl rfl rfl (aK (XF.thenN (eO rfl (aH (aN (cL (vs:=[]) hS fT rfl (eB _) rfl fun W8 hS=>aB rfl rfl (aK (XF.thenN (cH (XF.thenR (XF.res (cW results6 rfl) ?_))))))))))))))))))))))))))
    exact ⟨rfl,hS.below⟩
   ·have hg41:=of_decide_eq_false hc;clear hc
    refine aC (d:=41) rfl rfl (bJ (vs:=[_,_,_]) isAgg25 sizeOf25 rfl (aT.own (j:=0) (m:=3) (hS.at_ 0 rfl) rfl) rfl (aC (d:=41) rfl rfl (cL (vs:=[_]) hS qS rfl (qE db _ (hDb.below hS.below)) rfl fun W9 hS=>aC (d:=41) rfl rfl (dO rfl rfl rfl (cJ rfl rfl rfl (aA rfl rfl (bO (d:=46) rfl (fun hc=>?_) (fun hc=>?_))))))))
    ·have hg46:=of_decide_eq_true hc;clear hc
     refine aI (d:=46) rfl rfl rfl rfl (aI (d:=46) rfl rfl rfl rfl (aI (d:=46) rfl rfl rfl rfl (aI (d:=46) rfl rfl rfl rfl (aI (d:=46) rfl rfl rfl rfl (aY rfl rfl rfl (aA rfl rfl (aI (d:=53) rfl rfl rfl rfl (aI (d:=53) rfl rfl rfl rfl (aI (d:=53) rfl rfl rfl rfl (aY rfl rfl rfl (aK (XF.thenN (eO rfl (aH (aN (cL (vs:=[]) hS fT rfl (eB _) rfl fun W10 hS=>aB rfl rfl (aK (XF.thenN (cH (XF.thenR (XF.res (cW results6 rfl) ?_)))))))))))))))))))))
     exact ⟨rfl,hS.below⟩
    ·have hg46:=of_decide_eq_false hc;clear hc
     refine aC (d:=46) rfl rfl (aR (o':=0) dR rfl rfl rfl (aC (d:=46) rfl rfl (aP isAgg3 rfl (aD (hS.at_ 1 rfl) rfl) rfl (aC (d:=46) rfl rfl (aR (o':=0) dR rfl rfl rfl (aC (d:=46) rfl rfl (aP isAgg3 rfl (aD (hS.at_ 0 rfl) rfl) rfl (aC (d:=46) rfl rfl (dO rfl rfl rfl (cJ rfl rfl rfl (aA rfl rfl (bO (d:=53) rfl (fun hc=>?_) (fun hc=>?_)))))))))))))
     ·have hg53:=of_decide_eq_true hc;clear hc
      refine aI (d:=53) rfl rfl rfl rfl (aI (d:=53) rfl rfl rfl rfl (aI (d:=53) rfl rfl rfl rfl (aY rfl rfl rfl (aK (XF.thenN (eO rfl (aH (aN (cL (vs:=[]) hS fT rfl (eB _) rfl fun W11 hS=>aB rfl rfl (aK (XF.thenN (cH (XF.thenR (XF.res (cW results6 rfl) ?_))))))))))))))
      exact ⟨rfl,hS.below⟩
     ·have hg53:=of_decide_eq_false hc;clear hc
      refine aC (d:=53) rfl rfl (aA rfl rfl (aC (d:=53) rfl rfl (bW underlying36 rfl rfl (aC (d:=53) rfl rfl (fO rfl rfl rfl (cJ rfl rfl rfl (aK (XF.thenN (bR rfl (fun hc=>?_) (fun hc=>?_))))))))))
      ·have hc57:=of_decide_eq_true hc;clear hc
       refine aH (aN (cL (vs:=[]) hS fT rfl (eB _) rfl fun W12 hS=>aB rfl rfl (aK (XF.thenN (cH (XF.thenR (XF.res (cW results6 rfl) ?_)))))))
       exact ⟨rfl,hS.below⟩
      ·have hc57:=of_decide_eq_false hc;clear hc
       have hea:cO da=0:=by omega
       have heb:cO db=0:=by omega
       have hsy:da.sy=db.sy:=by omega
       have hsa:=tH hDa (by simpa using hg31) hea
       have hsb:=tH hDb (by simpa using hg36) heb
       have hbd:=Ao hea heb hsy
       have hA:=An hDa hea
       have hB:=An hDb heb
       have hkk:(dFA da).k=(dFA db).k:=by show da.sy.toNat=db.sy.toNat;rw [hsy]
       refine bS (XF.thenN (aH (aN (bJ (vs:=[_,_,_]) isAgg25 sizeOf25 rfl (aT.own (j:=0) (m:=3) (hS.at_ 1 rfl) rfl) rfl (aA rfl rfl (cL (vs:=[_,_]) hS wG rfl (tA da ua ul uc us _ (hDa.below hS.below) (hu.1.below hS.below) hu.2.1 hu.2.2.2) rfl fun W13 hS=>aA rfl rfl (bF rfl rfl rfl (bF rfl rfl rfl (bF rfl rfl rfl (aB rfl rfl (aB rfl rfl (aB rfl rfl (aK (XF.thenN (aH (aN (bJ (vs:=[_,_,_]) isAgg25 sizeOf25 rfl (aT.own (j:=0) (m:=3) (hS.at_ 0 rfl) rfl) rfl (aA rfl rfl (cL (vs:=[_,_]) hS wG rfl (tA db ua ul uc us _ (hDb.below hS.below) (hu.1.below hS.below) hu.2.1 hu.2.2.2) rfl fun W14 hS=>aA rfl rfl (bF rfl rfl rfl (bF rfl rfl rfl (bF rfl rfl rfl (aB rfl rfl (aB rfl rfl (aB rfl rfl (aK (XF.thenN (aH (aH (aN (aA rfl rfl (dO rfl rfl rfl (aK (XF.thenN (bR rfl (fun hc=>?_) (fun hc=>?_))))))))))))))))))))))))))))))))))))
       ·have hc74:=of_decide_eq_true hc;clear hc
        refine aH (aN (cL (vs:=[]) hS fT rfl (eB _) rfl fun W15 hS=>aB rfl rfl (aK (XF.thenN (cH (XF.thenR (XF.res (cW results6 rfl) ?_)))))))
        exact ⟨rfl,hS.below⟩
       ·have hc74:=of_decide_eq_false hc;clear hc
        have hea0:(jC da us).2.2=0:=Decidable.of_not_not hc74
        have hall:=Aw hea hea0
        have hall2:us.all (fun y=>inQ y db.sy)=true:=by rw [← hsy];exact hall
        obtain ⟨xa,_⟩:=rJ hea hDa.nlen (fun r hr=>(hDa.rin r hr).2.1) hall
        obtain ⟨xb,_⟩:=rJ heb hDb.nlen (fun r hr=>(hDb.rin r hr).2.1) hall2
        refine bS (XF.thenN (aH (aN (bJ (vs:=[_,_,_]) isAgg25 sizeOf25 rfl (aT.own (j:=0) (m:=3) (hS.at_ 1 rfl) rfl) rfl (bV (vs:=[_]) goes_13 rfl (notX_is da [] _ _ _ w _ hS (fun q hq=>by cases hq) (jV hDa)) rfl ?_)))))
        rintro e W9 ⟨dn,K1,hdn,rfl,hK1,hDdn,hS9⟩
        rw [hea]
        refine ⟨_,rfl,?_⟩
        clear hS;have hS:=hS9;clear hS9
        refine aA rfl rfl (bF rfl rfl rfl (bF rfl rfl rfl (cE (cs:=[_,_,_]) hS zeroValue25 rfl rfl fun B16 W16 hS=>bU (i:=0) (vs:=[_,_,_]) (cs':=[_,_,_]) (O':=[_,_,_]) hS sizeOf25 rfl rfl rfl rfl rfl rfl rfl fun W17 hS=>aB rfl rfl (aK (XF.thenN (aH (aN (bJ (vs:=[_,_,_]) isAgg25 sizeOf25 rfl (aT.own (j:=0) (m:=3) (hS.at_ 2 rfl) rfl) rfl (bJ (vs:=[_,_,_]) isAgg25 sizeOf25 rfl (aT.own (j:=0) (m:=3) (hS.at_ 1 rfl) rfl) rfl (bV (vs:=[_,_]) goes_26 rfl (Au da db [] _ _ K1 w _ (hS.keep K1 (fun q hq=>by simp [hq])) (fun q hq=>by cases hq) (jV hDa) (jV hDb) hsa.1 hsb.1 hsa.2) rfl ?_))))))))))
        rintro e W9 ⟨dp,K2,hdp,_,rfl,hK2,hDdp,hS9⟩
        rw [hbd]
        refine ⟨_,rfl,?_⟩
        clear hS;have hS:=hS9;clear hS9
        refine aA rfl rfl (bF rfl rfl rfl (bF rfl rfl rfl (cE (cs:=[_,_,_]) hS zeroValue25 rfl rfl fun B18 W18 hS=>bU (i:=0) (vs:=[_,_,_]) (cs':=[_,_,_]) (O':=[_,_,_,_]) hS sizeOf25 rfl rfl rfl rfl rfl rfl rfl fun W19 hS=>aB rfl rfl (aK (XF.thenN (aH (aN (bJ (vs:=[_,_,_]) isAgg25 sizeOf25 rfl (aT.own (j:=0) (m:=3) (hS.at_ 3 rfl) rfl) rfl (bJ (vs:=[_,_,_]) isAgg25 sizeOf25 rfl (aT.own (j:=0) (m:=3) (hS.at_ 2 rfl) rfl) rfl (bV (vs:=[_,_]) goes_28 rfl (uR da db [] _ _ K2 w _ (hS.keep K2 (fun q hq=>by simp [hq])) (fun q hq=>by cases hq) (jV hDa) (jV hDb) hsa.1 hsb.1 hsa.2) rfl ?_))))))))))
        rintro e W9 ⟨dq,K3,hdq,_,rfl,hK3,hDdq,hS9⟩
        rw [hbd]
        refine ⟨_,rfl,?_⟩
        clear hS;have hS:=hS9;clear hS9
        refine aA rfl rfl (bF rfl rfl rfl (bF rfl rfl rfl (cE (cs:=[_,_,_]) hS zeroValue25 rfl rfl fun B20 W20 hS=>bU (i:=0) (vs:=[_,_,_]) (cs':=[_,_,_]) (O':=[_,_,_,_,_]) hS sizeOf25 rfl rfl rfl rfl rfl rfl rfl fun W21 hS=>aB rfl rfl (aK (XF.thenN (aH (aH (aN (aA rfl rfl (dO rfl rfl rfl (aA rfl rfl (bO (d:=95) rfl (fun hc=>absurd (of_decide_eq_true hc) (by omega)) (fun hc=>?_)))))))))))))
        have hc:=of_decide_eq_false hc
        refine aC (d:=95) rfl rfl (aA rfl rfl (aC (d:=95) rfl rfl (dO rfl rfl rfl (cJ rfl rfl rfl (aA rfl rfl (bO (d:=99) rfl (fun hc=>absurd (of_decide_eq_true hc) (by omega)) (fun hc=>?_)))))))
        have hc:=of_decide_eq_false hc
        refine aC (d:=99) rfl rfl (aA rfl rfl (aC (d:=99) rfl rfl (dO rfl rfl rfl (cJ rfl rfl rfl (aK (XF.thenN (bR rfl (fun hc=>absurd (of_decide_eq_true hc) (by omega)) (fun hc=>?_))))))))
        have hc:=of_decide_eq_false hc
        refine bS (XF.thenN (aH ?_))
        have hn:=(hdn.ok hea).1
        have hp:=(hdp hbd).1
        have hq:=(hdq hbd).1
        have hwd:=wd_of hall
        obtain ⟨xn,en⟩:=rK hn (uS hn rfl hea) hall
        obtain ⟨xp,ep⟩:=rK hp (uS hp rfl hea) hall
        obtain ⟨xq,eq9⟩:=rK hq (uS hq rfl hea) hall
        rw [jU,← xa] at xn
        rw [lT hA hB hkk hwd,← xa,← xb] at xp xq
        refine aN (bJ (vs:=[_,_,_]) isAgg25 sizeOf25 rfl (aT.own (j:=0) (m:=3) (hS.at_ 2 rfl) rfl) rfl (aA rfl rfl (cL (vs:=[_,_]) hS rI rfl (oG dn ua ul uc us _ (hDdn (hS.keep K3 (fun q hq=>by simp [hq])) (fun q hq=>hK3 q (hK2 q hq))) (hu.1.below hS.below) hu.2.1 hu.2.2.2) rfl fun W22 hS=>aA rfl rfl (bF rfl rfl rfl (bF rfl rfl rfl (bF rfl rfl rfl (aB rfl rfl (aB rfl rfl (aB rfl rfl (aK (XF.thenN (aH (aN (bJ (vs:=[_,_,_]) isAgg25 sizeOf25 rfl (aT.own (j:=0) (m:=3) (hS.at_ 1 rfl) rfl) rfl (aA rfl rfl (cL (vs:=[_,_]) hS rI rfl (oG dp ua ul uc us _ (hDdp (hS.keep K3 (fun q hq=>by simp [hq])) (fun q hq=>hK3 q hq)) (hu.1.below hS.below) hu.2.1 hu.2.2.2) rfl fun W23 hS=>aA rfl rfl (bF rfl rfl rfl (bF rfl rfl rfl (bF rfl rfl rfl (aB rfl rfl (aB rfl rfl (aB rfl rfl (aK (XF.thenN (aH (aN (bJ (vs:=[_,_,_]) isAgg25 sizeOf25 rfl (aT.own (j:=0) (m:=3) (hS.at_ 0 rfl) rfl) rfl (aA rfl rfl (cL (vs:=[_,_]) hS rI rfl (oG dq ua ul uc us _ (hDdq (hS.keep K3 (fun q hq=>by simp [hq])) (fun q hq=>hq)) (hu.1.below hS.below) hu.2.1 hu.2.2.2) rfl fun W24 hS=>aA rfl rfl (bF rfl rfl rfl (bF rfl rfl rfl (bF rfl rfl rfl (aB rfl rfl ?_)))))))))))))))))))))))))))))))))
        refine aB rfl rfl (aB rfl rfl (aK (XF.thenN (aH (aN (aA rfl rfl (fG rfl rfl rfl (aA rfl rfl (bO (d:=126) rfl (fun hc=>?_) (fun hc=>absurd (of_decide_eq_false hc) (by omega)))))))))))
        have hc:=of_decide_eq_true hc
        refine aC (d:=126) rfl rfl (aA rfl rfl (aC (d:=126) rfl rfl (fG rfl rfl rfl (aY rfl rfl rfl (aA rfl rfl (bO (d:=130) rfl (fun hc=>?_) (fun hc=>absurd (of_decide_eq_false hc) (by omega))))))))
        have hc:=of_decide_eq_true hc
        refine aC (d:=130) rfl rfl (aA rfl rfl (aC (d:=130) rfl rfl (fG rfl rfl rfl (aY rfl rfl rfl (aA rfl rfl (bO (d:=134) rfl (fun hc=>?_) (fun hc=>absurd (of_decide_eq_false hc) (by omega))))))))
        have hc:=of_decide_eq_true hc
        refine aC (d:=134) rfl rfl (aA rfl rfl (aC (d:=134) rfl rfl (aA rfl rfl (aC (d:=134) rfl rfl (iN rfl rfl (aC (d:=134) rfl rfl (iP underlying4 rfl rfl rfl (aY rfl rfl rfl (aA rfl rfl ?_)))))))))
        refine bO (d:=140) rfl (fun hc=>?_) (fun hc=>absurd hc (by rw [xn];simp))
        skip
        refine aC (d:=140) rfl rfl (aA rfl rfl (aC (d:=140) rfl rfl (aA rfl rfl (aC (d:=140) rfl rfl (aA rfl rfl (bO (d:=143) rfl (fun hc=>?_) (fun hc=>?_)))))))
        ·have hg143:=hc;clear hc
         refine aC (d:=143) rfl rfl (aA rfl rfl (aC (d:=140) rfl rfl (aY rfl rfl rfl (aC (d:=140) rfl rfl (iP underlying4 rfl rfl rfl (aY rfl rfl rfl (aA rfl rfl ?_)))))))
         refine bO (d:=148) rfl (fun hc=>?_) (fun hc=>absurd hc (by rw [xp,hg143];simp))
         skip
         refine aC (d:=148) rfl rfl (aA rfl rfl (aC (d:=148) rfl rfl (aA rfl rfl (aC (d:=148) rfl rfl (aA rfl rfl (bO (d:=151) rfl (fun hc=>?_) (fun hc=>?_)))))))
         ·have hg151:=hc;clear hc
          refine aI (d:=151) rfl rfl rfl rfl (aC (d:=148) rfl rfl (aY rfl rfl rfl (aC (d:=148) rfl rfl (iP underlying4 rfl rfl rfl (aY rfl rfl rfl (aA rfl rfl ?_))))))
          refine bO (d:=156) rfl (fun hc=>?_) (fun hc=>absurd hc (by rw [xq,hg151];simp))
          skip
          refine aC (d:=156) rfl rfl (cL (vs:=[]) hS fT rfl (eB _) rfl fun W25 hS=>aY rfl rfl rfl (aB rfl rfl (aK (XF.thenN (cH (XF.res (cW results6 rfl) ?_))))))
          exact ⟨rfl,hS.below⟩
         ·have hg151:=hc;clear hc
          refine aC (d:=151) rfl rfl (aA rfl rfl (aC (d:=148) rfl rfl (cJ rfl rfl rfl (aC (d:=148) rfl rfl (iP underlying4 rfl rfl rfl (aY rfl rfl rfl (aA rfl rfl ?_)))))))
          refine bO (d:=156) rfl (fun hc=>?_) (fun hc=>absurd hc (by rw [xq,hg151];simp))
          skip
          refine aC (d:=156) rfl rfl (cL (vs:=[]) hS fT rfl (eB _) rfl fun W26 hS=>aY rfl rfl rfl (aB rfl rfl (aK (XF.thenN (cH (XF.res (cW results6 rfl) ?_))))))
          exact ⟨rfl,hS.below⟩
        ·have hg143:=hc;clear hc
         refine aI (d:=143) rfl rfl rfl rfl (aC (d:=140) rfl rfl (cJ rfl rfl rfl (aC (d:=140) rfl rfl (iP underlying4 rfl rfl rfl (aY rfl rfl rfl (aA rfl rfl ?_))))))
         refine bO (d:=148) rfl (fun hc=>?_) (fun hc=>absurd hc (by rw [xp,hg143];simp))
         skip
         refine aC (d:=148) rfl rfl (aA rfl rfl (aC (d:=148) rfl rfl (aA rfl rfl (aC (d:=148) rfl rfl (aA rfl rfl (bO (d:=151) rfl (fun hc=>?_) (fun hc=>?_)))))))
         ·have hg151:=hc;clear hc
          refine aI (d:=151) rfl rfl rfl rfl (aC (d:=148) rfl rfl (aY rfl rfl rfl (aC (d:=148) rfl rfl (iP underlying4 rfl rfl rfl (aY rfl rfl rfl (aA rfl rfl ?_))))))
          refine bO (d:=156) rfl (fun hc=>?_) (fun hc=>absurd hc (by rw [xq,hg151];simp))
          skip
          refine aC (d:=156) rfl rfl (cL (vs:=[]) hS fT rfl (eB _) rfl fun W27 hS=>aY rfl rfl rfl (aB rfl rfl (aK (XF.thenN (cH (XF.res (cW results6 rfl) ?_))))))
          exact ⟨rfl,hS.below⟩
         ·have hg151:=hc;clear hc
          refine aC (d:=151) rfl rfl (aA rfl rfl (aC (d:=148) rfl rfl (cJ rfl rfl rfl (aC (d:=148) rfl rfl (iP underlying4 rfl rfl rfl (aY rfl rfl rfl (aA rfl rfl ?_)))))))
          refine bO (d:=156) rfl (fun hc=>?_) (fun hc=>absurd hc (by rw [xq,hg151];simp))
          skip
          refine aC (d:=156) rfl rfl (cL (vs:=[]) hS fT rfl (eB _) rfl fun W28 hS=>aY rfl rfl rfl (aB rfl rfl (aK (XF.thenN (cH (XF.res (cW results6 rfl) ?_))))))
          exact ⟨rfl,hS.below⟩
end
section
open Go.RowKit Go.ChangeShapes Go.WideShapes Go.Deep Go.Joins
theorem pG {α:Type}:∀ (n:Nat) (p:Nat→α→Prop),(∀ i,i < n→∃ c,p i c)→∃ xs:List α,xs.length=n∧∀ i c,xs[i]?=some c→p i c
 | 0,p,h=>⟨[],rfl,fun i c hi=>by simp at hi⟩
 | n+1,p,h=>by
  obtain ⟨xs,hl,hp⟩:=pG n p (fun i hi=>h i (by omega))
  obtain ⟨c,hc⟩:=h n (by omega)
  refine ⟨xs++[c],by simp [hl],fun i d hi=>?_⟩
  rcases Nat.lt_or_ge i n with h1 | h1
  ·rw [List.getElem?_append_left (by omega)] at hi
   exact hp i d hi
  ·obtain ⟨h2,_⟩:=List.getElem?_eq_some_iff.1 hi
   simp [hl] at h2
   obtain rfl:i=n:=by omega
   rw [List.getElem?_append_right (by omega),hl,Nat.sub_self] at hi
   simp at hi
   subst hi
   exact hc
section
variable {H:Type} {enc:TypeId×Value→H} {w:World} {base:Nat} {spare:Nat→Bool} {held:Bool}
end
section
variable {H:Type} {enc:TypeId×Value→H} {w:World} {base:Nat} {spare:Nat→Bool} {held:Bool}
theorem wH {n:Nat} {v:Value} {x:DataW H×List MemPlace} (h:DataW.trod enc prog w base spare held n 36 [v]=some x) :
  ∃ (a:Option Addr) (len cap:Nat) (zs:List Int),v = .slice a len cap∧Row w a zs∧zs.length=len∧len≤cap∧cap≤maxLen:=by
 rcases open_ints (t:=36) (e:=3) (k:=.i64) (by kernel_rfl) (by kernel_rfl) (by kernel_rfl) h with ⟨hcs,_⟩ | ⟨x,len,cap,zs,hcs,_,hl,hm,hz,_,hcell,hwz⟩
 ·have hcs':v = .slice none 0 0:=by simpa using hcs
  subst hcs'
  exact ⟨none,0,0,[],rfl,.inl rfl,rfl,Nat.le_refl _,Nat.zero_le _⟩
 ·have hcs':v = .slice (some x) len cap:=by simpa using hcs
  subst hcs'
  have hzl:len≤zs.length:=by rw [hz];split<;>omega
  refine ⟨some x,len,cap,zs.take len,rfl,?_,by simp;omega,hl,hm⟩
  rcases Nat.eq_zero_or_pos len with h0 | h0
  ·subst h0;exact .inl (by simp)
  ·obtain ⟨b,off,spot⟩:=x
   have hc0:=hcell 0 (by omega)
   have hspot:spot=none:=by simpa [Addr.add] using World.cell?_spot hc0
   subst hspot
   refine .inr ⟨b,off,rfl,fun i hi=>?_⟩
   have hi1:i < len:=by simp at hi;omega
   have hi2:i < zs.length:=by omega
   have hc:=hcell i hi2
   have e:({ block:=b,off:=off }:Addr).add i=⟨b,off+i,none⟩:=by simp [Addr.add]
   rw [e] at hc
   rw [hc]
   simp [List.getD,List.getElem?_take,hi1]
theorem xL {n:Nat} {a:Option Addr} {len cap:Nat} {x:DataW H×List MemPlace} (h:DataW.trod enc prog w base spare held n 36 [.slice a len cap]=some x):∃ zs:List Int,Row w a zs∧zs.length=len∧len≤cap∧len≤9223372036854775807:=by
 obtain ⟨a',len',cap',zs,e,h1,h2,h3,h4⟩:=wH h
 cases e
 exact ⟨zs,h1,h2,h3,by simp only [maxLen] at h4;omega⟩
end
theorem uT {cs:List Value} (h:cs.length=3):∃ a b c,cs=[a,b,c]:=by
 match cs,h with
 | [a,b,c],_=>exact ⟨a,b,c,rfl⟩
section
variable {H:Type} {enc:TypeId×Value→H} {w:World} {base:Nat} {spare:Nat→Bool} {held:Bool}
theorem tI {α:Type} {val:α→Value} {pr:α→Prop} {t e:TypeId} {n:Nat} {v:Value} {x:DataW H×List MemPlace} (ht:prog.underlying t=some (.slice e)) (hc:prog.cellsOf e=1)
  (one:∀ (n:Nat) (cs:List Value) (x:DataW H×List MemPlace),DataW.trod enc prog w base spare held n e cs=some x→∃ y,cs=[val y]∧pr y) (h:DataW.trod enc prog w base spare held n t [v]=some x) :
  ∃ (a:Option Addr) (len cap:Nat) (xs:List α),v = .slice a len cap∧(∀ (i:Nat) r,xs[i]?=some r→∃ b off,a=some ⟨b,off,none⟩∧w.cell? ⟨b,off+i * 1,none⟩=some (val r))∧(∀ r∈xs,pr r)∧xs.length=len∧len≤cap∧cap≤maxLen:=by
 rcases DataW.trod_slice ht h with ⟨hcs,_⟩ | ⟨ad,len,cap,elems,rest,n2,hn2,hcs,_,hb,hle,hcap,hel,hi,_,_⟩
 ·simp at hcs
  subst hcs
  exact ⟨none,0,0,[],rfl,(fun i r hi=>by simp at hi),(fun r hr=>by cases hr),rfl,Nat.le_refl _,Nat.zero_le _⟩
 ·simp at hcs
  subst hcs
  rw [hc] at hi
  obtain ⟨rs,hrl,hrs⟩:=pG len (fun i (r:α)=>w.cell? (ad.add (i * 1))=some (val r)∧pr r) (fun i hil=>by
   have hii:=hi i hil
   rw [List.getElem?_eq_getElem (by omega)] at hii
   obtain ⟨cs',hc',ht'⟩:=Option.bind_eq_some_iff.1 hii
   obtain ⟨_,hcl,hat⟩:=World.cells?_some hc'
   obtain ⟨r,rfl,hr⟩:=one _ _ _ ht'
   refine ⟨r,?_,hr⟩
   have h0:=hat 0 (by omega)
   rw [Go.Deep.add_add,Nat.add_zero] at h0
   rw [h0];rfl)
  refine ⟨some ad,len,cap,rs,rfl,fun i r hir=>?_,fun r hr=>?_,hrl,hle,hcap⟩
  ·obtain ⟨b,off,spot⟩:=ad
   have h1:=(hrs i r hir).1
   have hl0:0 < rs.length:=Nat.lt_of_le_of_lt (Nat.zero_le _) (List.getElem?_eq_some_iff.1 hir).1
   have h2:=(hrs 0 _ (List.getElem?_eq_getElem hl0)).1
   have hspot:spot=none:=by simpa [Addr.add] using World.cell?_spot h2
   subst hspot
   refine ⟨b,off,rfl,?_⟩
   have e:∀ k,({ block:=b,off:=off }:Addr).add k=⟨b,off+k,none⟩:=fun k=>by simp [Addr.add]
   rw [e] at h1
   exact h1
  ·obtain ⟨i,hi',hic⟩:=List.mem_iff_getElem.1 hr
   exact (hrs i r (by rw [← hic];exact List.getElem?_eq_getElem hi')).2
theorem tJ {r:Reach} {b0:Nat} {v:Value} {d:DataW H} {p:List MemPlace} (hv:Value.okWide prog w r b0 25 v) (h:DataW.Trod enc prog w base spare held 25 v d p) :
  ∃ (s:DV),v=s.val∧DIn w s:=by
 obtain ⟨cs,rfl,_⟩:=okWide_struct underlying25 hv
 obtain ⟨n,h⟩:=h
 obtain ⟨xs,n',hn,_,hl,hlen,hg⟩:=DataW.trod_struct underlying25 h
 rw [show prog.cellsOf 25=3 by kernel_rfl] at hl
 obtain ⟨a,b,c,hcs⟩:=uT hl
 rw [hcs] at hg
 have hlen3:xs.length=3:=hlen
 have g0:=hg 0 _ rfl
 have g1:=hg 1 _ rfl
 have g2:=hg 2 _ rfl
 rw [show prog.cellsOf _=1 by kernel_rfl,List.getElem?_eq_getElem (by omega)] at g0 g1 g2
 obtain ⟨z0,e0,_,w0⟩:=DataW.trod_int (k:=.i64) (by kernel_rfl) g0
 simp at e0
 subst e0
 obtain ⟨na,nl,nc,ns,rfl,hnr,hni,hnl,hnc,hnm⟩:=tI (val:=IV.val) (pr:=fun r:IV=>Row w r.a r.xs∧r.xs.length=r.l∧r.l≤9223372036854775807) (e:=36) (v:=b) (by kernel_rfl) (by kernel_rfl) (fun n cs x h=>by
  obtain ⟨y,rfl⟩:∃ y,cs=[y]:=by
   obtain ⟨h1,h2⟩:cs.length=1∧True:=⟨by
    rcases DataW.trod_slice underlying36 h with ⟨h9,_⟩ | ⟨ad,len,cap,elems,rest,n2,hn2,h9,_⟩
    ·rw [h9];rfl
    ·rw [h9];rfl,trivial⟩
   match cs,h1 with
   | [y],_=>exact ⟨y,rfl⟩
  obtain ⟨fa,fl,fc,fs,rfl,h1,h2,h3,h4⟩:=wH h
  exact ⟨⟨fa,fl,fc,fs⟩,rfl,h1,h2,by simp only [maxLen] at h4;dsimp only;omega⟩) g1
 obtain ⟨aa,al,ac,bs,rfl,har,_,hal,hac,ham⟩:=tI (val:=Value.bool) (pr:=fun _=>True) (e:=4) (v:=c) (by kernel_rfl) (by kernel_rfl) (fun n cs x h=>by
  obtain ⟨y,h1,_⟩:=DataW.trod_bool (by kernel_rfl) h
  exact ⟨y,h1,trivial⟩) g2
 refine ⟨⟨z0,na,nl,nc,ns,aa,al,ac,bs⟩,?_,⟨hnr,hnl,hni,har,hal,?_,?_⟩⟩
 ·show Value.agg cs=Value.agg _
  congr 1
  exact Array.ext' hcs
 ·simp only [maxLen] at hnm;dsimp only;omega
 ·simp only [maxLen] at ham;dsimp only;omega
end
end
end Go.Proofs.Ytghmbejblbnjjaa
