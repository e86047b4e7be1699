import Derived.Lib.SmallJoins
import Derived.Deep.Slices
import Derived.Deep.Fields
import Derived.ChangeSlices
import Derived.ChangeSame
import Derived.ProofKit
import Derived.Test.YtfnmjcgfagldkaaEmF
set_option maxRecDepth 100000
set_option maxHeartbeats 4000000
set_option linter.unusedVariables false
set_option linter.unusedSimpArgs false
set_option linter.unusedSectionVars false
set_option linter.unnecessarySimpa false
namespace Go.Proofs.Ytfnmjcgfagldkaa
open Go.Proofs.Try
section
open Go.RowKit
theorem lV (v1:Int) (v2:Int) (v30:Value) (v31:Value) (v32:Value) (v33:Value) (v34:Value) (v35:Value):prog.built 90 [(1,.int .i64 v1),(2,.int .i64 v2),(3,.agg #[v30,v31,v32,v33,v34,v35])]=some #[.int .i64 0,.int .i64 v1,.int .i64 v2,v30,v31,v32,v33,v34,v35]:=by kernel_rfl
theorem sQ:cL prog 23=true:=by kernel_rfl
theorem oneX_st {m:Int} {n:Nat} (h:m≠3):oneX (spM m n)=stX m n:=by
 unfold spM stX
 by_cases h2:m=2
 ·rw [if_pos h2,if_pos h2]
  show PX.two (hM 2 1048576) (hM 3 (n:Int))=_
  unfold hM;rw [if_neg (by decide),if_neg (by decide),if_pos rfl,Int.toNat_natCast]
 ·rw [if_neg h2,if_neg h,if_neg h2,if_neg h]
  rfl
theorem st_cl {lo n:Nat} {m:Int} {w:World} {f:WF} (h3:m≠3) (h:gW lo w (spM m n) f (stX m n)):f.cl=0:=by
 unfold spM stX at h
 by_cases h2:m=2
 ·rw [if_pos h2,if_pos h2] at h;exact h.2.2.1
 ·rw [if_neg h2,if_neg h3,if_neg h2,if_neg h3] at h
  have e:=congrArg PF.cells h.is.pf
  have hc:=h.is.at_.cl
  have e2:f.cells=[]:=e
  rw [e2] at hc
  exact hc.symm
theorem sR:cL prog 21=true:=by kernel_rfl
theorem Cm (va:Option Addr) (vl:Nat) (vc:Nat) (pa:Option Addr) (pl:Nat) (pc:Nat) (ea:Option Addr) (el:Nat) (ec:Nat) (es:List Int) (xa:Option Addr) (xl:Nat) (xc:Nat) (xs:List Int) (mn:Int) (oa:Option Addr) (ol:Nat) (oc:Nat) (os:List Int) (sa:Option Addr) (sl:Nat) (sc:Nat) (ss:List gr_TV) (ta:Option Addr) (tl:Nat) (tc:Nat) (ts:List UV) (na:Option Addr) (nl:Nat) (nc:Nat) (ns:List NV) (ka:Option Addr) (kl:Nat) (kc:Nat) (ks:List KV) (w:World) (he:dS w ea es) (hel:es.length=el) (hx:dS w xa xs) (hxl:xs.length=xl) (ho:dS w oa os) (hol:os.length=ol) (hs:dB gr_TV.sev 7 w sa ss) (hsl:ss.length=sl) (ht:dB UV.four 4 w ta ts) (htl:ts.length=tl) (hn:dB NV.two 2 w na ns) (hnl:ns.length=nl) (hk:dB KV.two 2 w ka ks) (hkl:ks.length=kl) (b1:vl≤5000) (b2:pl≤5000) (b3:el≤5000) (b4:xl≤5000) (b5:ol≤5000) (b6:sl≤5000) (b7:tl≤5000) (b8:nl≤5000) (b9:kl≤5000) (m:Int) (hso:gr_checkE ⟨va,vl,vc,pa,pl,pc,ea,el,ec,es,xa,xl,xc,xs,mn,oa,ol,oc,os,sa,sl,sc,ss,ta,tl,tc,ts,na,nl,nc,ns,ka,kl,kc,ks⟩=0→StepsOk ⟨va,vl,vc,pa,pl,pc,ea,el,ec,es,xa,xl,xc,xs,mn,oa,ol,oc,os,sa,sl,sc,ss,ta,tl,tc,ts,na,nl,nc,ns,ka,kl,kc,ks⟩) (hmn:gr_checkE ⟨va,vl,vc,pa,pl,pc,ea,el,ec,es,xa,xl,xc,xs,mn,oa,ol,oc,os,sa,sl,sc,ss,ta,tl,tc,ts,na,nl,nc,ns,ka,kl,kc,ks⟩=0→∃ (k:Nat) (y:Int),mn=(k:Int)∧es[k]?=some y) :
  Calls prog 9 #[.agg #[.slice va vl vc,.slice pa pl pc,.slice ea el ec,.slice xa xl xc,.int .i64 mn,.slice oa ol oc,.slice sa sl sc,.slice ta tl tc,.slice na nl nc,.slice ka kl kc],.int .i64 m] w (StR ⟨va,vl,vc,pa,pl,pc,ea,el,ec,es,xa,xl,xc,xs,mn,oa,ol,oc,os,sa,sl,sc,ss,ta,tl,tc,ts,na,nl,nc,ns,ka,kl,kc,ks⟩ m w):=by
 refine cS (args:=[.agg #[.slice va vl vc,.slice pa pl pc,.slice ea el ec,.slice xa xl xc,.int .i64 mn,.slice oa ol oc,.slice sa sl sc,.slice ta tl tc,.slice na nl nc,.slice ka kl kc],.int .i64 m]) func9 rfl ntmps9 rfl ?_
 have hS:=St.start w
 refine aR (aU (cR (cs:=[_,_,_,_,_,_,_,_,_,_]) hS rfl rfl rfl fun B1 W1 hS=>bY (cs:=[_,_,_,_,_,_,_]) hS zeroValue47 rfl rfl fun B2 W2 hS=>aK rfl rfl (aT (XF.thenN (aR (aU (bF (vs:=[_,_,_,_,_,_,_,_,_,_]) isAgg29 sizeOf29 rfl (aM.own (j:=0) (m:=10) (hS.at_ 1 rfl) rfl) rfl (aL rfl rfl (cD (vs:=[_,_]) hS oI rfl (vD _ vl vc _ pl pc _ el ec es _ xl xc xs mn _ ol oc os _ sl sc ss _ tl tc ts _ nl nc ns _ kl kc ks  _ (he.below hS.below) hel (hx.below hS.below) hxl (ho.below hS.below) hol (hs.below hS.below) hsl (ht.below hS.below) htl (hn.below hS.below) hnl (hk.below hS.below) hkl b1 b2 b3 b4 b5 b6 b7 b8 b9 m) rfl fun W3 hS=>aK rfl rfl (aT (XF.thenN (aR (aR (aU (aL rfl rfl (cW rfl rfl rfl (aT (XF.thenN (bJ rfl (fun hc=>?_) (fun hc=>?_))))))))))))))))))))
 ·have hc15:=of_decide_eq_true hc;clear hc
  refine aR (aU (bL (us:=[]) rfl (tX) rfl (aL rfl rfl (bA (i:=0) (vs:=[_,_,_,_,_,_,_]) (cs':=[_,_,_,_,_,_,_]) (O':=[_,_]) hS sizeOf47 rfl rfl rfl rfl rfl rfl rfl fun W4 hS=>aK rfl rfl (aT (XF.thenN (bP (XF.thenR (XF.res (fE (vs:=[_,_,_,_,_,_,_]) results9 isAgg47 sizeOf47 rfl (aM.own (j:=0) (m:=7) (hS.at_ 0 rfl) rfl) rfl) ?_)))))))))
  exact A9 hc15 hS.below
 ·have hc15:=of_decide_eq_false hc;clear hc
  have hce:gA ⟨va,vl,vc,pa,pl,pc,ea,el,ec,es,xa,xl,xc,xs,mn,oa,ol,oc,os,sa,sl,sc,ss,ta,tl,tc,ts,na,nl,nc,ns,ka,kl,kc,ks⟩ m=0:=Decidable.of_not_not hc15
  have hso9:=hso (jC hce)
  obtain ⟨kM,yM,hkM,hyM⟩:=hmn (jC hce)
  have hv9:vl≤64:=hso9.v
  refine bQ (XF.thenN (aR (aU (bF (vs:=[_,_,_,_,_,_,_,_,_,_]) isAgg29 sizeOf29 rfl (aM.own (j:=0) (m:=10) (hS.at_ 1 rfl) rfl) rfl (aL rfl rfl (cV (vs:=[_,_]) hS sR rfl (sI ⟨_,vl,vc,_,pl,pc,_,el,ec,es,_,xl,xc,xs,mn,_,ol,oc,os,_,sl,sc,ss,_,tl,tc,ts,_,nl,nc,ns,_,kl,kc,ks⟩ m vl _ rfl) rfl ?_))))))
  rintro e W5 ⟨sq,rfl,hsp,hb⟩
  refine ⟨_,rfl,hb,fun hS'=>?_⟩
  clear hS;have hS:=hS';clear hS'
  have HSp:eS w [(_,_)] (fun W2=>SIs W2 (spM m vl) sq):=eS.one (p:=fun W2=>SIs W2 (spM m vl) sq) hsp
  refine bY (cs:=[_,_,_]) hS zeroValue35 rfl rfl fun B6 W6 hS=>bA (i:=0) (vs:=[_,_,_]) (cs':=[_,_,_]) (O':=[_,_,_]) hS sizeOf35 rfl rfl rfl rfl rfl rfl rfl fun W7 hS=>aT (XF.thenN (aR ?_))
  rcases Decidable.em (m=3) with hm3 | hm3
  ·skip
   refine aU (bF (vs:=[_,_,_]) isAgg35 sizeOf35 rfl (aM.own (j:=0) (m:=3) (hS.at_ 0 rfl) rfl) rfl ?_)
   have hs5:SIs W7 (.one 4 vl) sq:=by have h:=HSp hS (fun q hq=>by simp at hq;subst hq;simp);rw [(Ba hm3).1] at h;exact h
   refine rP (vs:=[_]) sQ rfl (D5 vl sq _ hs5 hv9) rfl ?_
   rintro e WQ9 ⟨v9,rfl,hv5⟩
   refine ⟨_,rfl,?_⟩
   have hS9:=hS.adopt hv5.2 hv5.1
   clear hS;have hS:=hS9;clear hS9
   obtain ⟨a9,c9,e9,hac9⟩:=dZ (hS.row 0 rfl)
   dsimp only at e9
   subst e9
   refine aL rfl rfl (bM rfl rfl rfl (bM rfl rfl rfl (bY (cs:=[_,_,_,_,_,_]) hS zeroValue59 rfl rfl fun B8 W8 hS=>bA (i:=0) (vs:=[_,_,_,_,_,_]) (cs':=[_,_,_,_,_,_]) (O':=[_,_,_,_]) hS sizeOf59 rfl rfl rfl rfl rfl rfl rfl fun W9 hS=>aK rfl rfl (aT (XF.thenN (aR (aR (aU (aK rfl rfl (aT (XF.thenN (bR ?_))))))))))))
   refine eI (fun q l W=>∃ (k:Nat) (Kk:List (Nat×World)),k≤vl∧q=vl - k∧l=[(1,.int .i64 m),(2,.pointer (some ⟨B1,0,none⟩)),(4,.pointer (some ⟨B2,0,none⟩)),(7,.pointer (some ⟨B6,0,none⟩)),(8,.pointer (some ⟨B8,0,none⟩)),(10,.int .i64 (k:Int))]∧eS w Kk (fun W2=>SIs W2 (spM m vl) sq)∧St w [(B8,[.bool false,.int .i64 0,.int .u64 0,.slice none 0 0,.slice a9 vl c9,.slice none 0 0],59),(B6,[.int .i64 sq.tag,.int .i64 sq.dim,.slice sq.a sq.len sq.cap],35),(B2,[.int .i64 0,.int .i64 0,.slice none 0 0,.int .i64 0,.int .i64 0,.slice none 0 0,.slice none 0 0],47),(B1,[.slice va vl vc,.slice pa pl pc,.slice ea el ec,.slice xa xl xc,.int .i64 mn,.slice oa ol oc,.slice sa sl sc,.slice ta tl tc,.slice na nl nc,.slice ka kl kc],29)] [⟨.slice a9 vl c9,vl,eK (kH vl k),88,3⟩] Kk W) (vl - 0) ([(1,_),(2,_),(4,_),(7,_),(8,_),(10,_)]) ⟨rfl,rfl,rfl,rfl,rfl,rfl,trivial⟩ (⟨0,_,Nat.zero_le _,rfl,rfl,(fun h2 hk=>HSp h2 (fun q hq=>hk q (by simp at hq;subst hq;simp))),hS.castG (by rw [sO])⟩) ?_
   clear hS
   clear HSp;rintro q l W ⟨k,Kk,hk,rfl,rfl,HP,hS⟩
   refine aR (aR (aU (aL rfl rfl (aQ (o':=4) dU rfl rfl rfl (aV isAgg56 rfl (aI (hS.at_ 0 rfl) rfl) rfl (bU underlying56 rfl rfl (dA rfl rfl rfl (aT (XF.thenN (bJ rfl (fun hc=>?_) (fun hc=>?_)))))))))))
   ·have hc30:=of_decide_eq_true hc;clear hc
    have hk1:k < vl:=by omega
    have hrw8:W.ownsRow w.heap.size 88 3 (.slice a9 vl c9) vl (eK (kH vl k)):=hS.row 0 rfl
    obtain ⟨g9,c10,e10,_,_⟩:=hrw8.form (show 0 < vl by omega)
    clear hrw8
    injection e10 with e1 e2 e3
    subst e1;subst e3
    refine bQ (XF.thenN (aR (bR (aU (aQ (o':=4) dU rfl rfl rfl (aV isAgg56 rfl (aI (hS.at_ 0 rfl) rfl) rfl (aL rfl rfl (bL (us:=[(1,.int .i64 _)]) rfl (mY _) rfl (cP (j:=k) underlying56 sizeOf88 rfl rfl (rfl) (hk1) rfl rfl ?_)))))))))
    refine lC (i:=0) (vs:=[.int .u64 0,.int .i64 1,.int .i64 0]) hS sizeOf88 rfl rfl rfl rfl (by show 0+k * 3+3≤vl * 3;omega) fun W88 hS=>?_
    have hS:=hS.castG (G':=[⟨.slice (some ⟨g9,0,none⟩) vl c9,vl,eK (kH vl (k+1)),88,3⟩]) (by rw [← tU hk1,← kB (by rw [tT (by omega)];exact hk1)];rfl)
    refine aT (XF.blkN (XF.thenN (aU (aL rfl rfl (dH rfl rfl (IntWalk.i64_in _ (by omega)) rfl (aK rfl rfl (aT ?_)))))))
    exact XF.round (vl - (k+1)) [(1,_),(2,_),(4,_),(7,_),(8,_),(10,_)] (by omega) ⟨rfl,rfl,rfl,rfl,rfl,rfl,trivial⟩ ⟨k+1,Kk,by omega,rfl,rfl,HP,hS⟩
   ·have hc30:=of_decide_eq_false hc;clear hc
    have ekv:k=vl:=by omega
    rw [ekv,tV] at hS
    clear ekv hk
    refine cZ (XF.thenX (XF.thenX (XF.blkX (XF.thenN (aR ?_)))))
    obtain ⟨eb,eo,eM,rfl,heM,hecM⟩:=he.get (i:=kM) (by exact (List.getElem?_eq_some_iff.1 hyM).1)
    obtain rfl:yM=eM:=Option.some.inj (hyM.symm.trans heM)
    have hkl:kM < el:=by have:=(List.getElem?_eq_some_iff.1 hyM).1;omega
    refine qQ (ef:=17) (jy:=17) (ca:=sX (fun _=>[])) (ta:=fun _=>0) (Os:=mF _) (Gs:=kX _) (al:=[]) (k:=14) (ds:=[5,52]) bG rfl hS rfl (by kernel_rfl) (by kernel_rfl) rfl (by decide) rfl (fun _=>none) (.inr ⟨rfl,rfl,rfl⟩) rfl rfl (bD 1 rfl rfl (isV _) (fun hNo=>sgV [(7,_)] rfl rfl rfl rfl hNo (aP rfl) ⟨bB rfl,trivial⟩ (fun ev w he hw=>cJ (vs:=[_,_,_]) isAgg35 sizeOf35 rfl ((aM.own (j:=0) (m:=3) (hw.at_ 1 rfl) rfl))) (aC rfl)) (bD 2 rfl rfl (isV _) (fun hNo=>sgV [(2,_)] rfl rfl rfl rfl hNo (aP rfl) ⟨bB rfl,trivial⟩ (fun ev w he hw=>aO (o':=5) cA rfl rfl) (aC rfl)) (bD 3 rfl rfl (isV _) (fun hNo=>sgV [(39,_)] rfl rfl rfl rfl hNo (aP rfl) ⟨aG 1 (aA rfl rfl rfl),trivial⟩ (fun ev w he hw=>aS isAgg23 rfl ((aI (hw.at_ 3 rfl) rfl))) (aC rfl)) (bD 4 rfl rfl (isV _) (fun hNo=>sgV [(40,_)] rfl rfl rfl rfl hNo (aP rfl) ⟨aG 2 (aA rfl rfl rfl),trivial⟩ (fun ev w he hw=>eY underlying23 rfl) (aC rfl)) (bD 5 rfl rfl (dV W.heap.size 1 3 _) (fun hNo=>iH (us:=[.int .i64 _]) rfl rfl rfl rfl hNo (aP rfl) underlying23 sizeOf3 zeroValue3 rfl rfl ⟨oN,trivial⟩ (fC _) (aC rfl)) (bD 6 rfl rfl (isV _) (fun hNo=>sgV [(2,_)] rfl rfl rfl rfl hNo (aP rfl) ⟨bB rfl,trivial⟩ (fun ev w he hw=>aO (o':=2) dP rfl rfl) (aC rfl)) (bD 7 rfl rfl (isV _) (fun hNo=>sgV [(43,_)] rfl rfl rfl rfl hNo (aP rfl) ⟨aG 5 (aA rfl rfl rfl),trivial⟩ (fun ev w he hw=>aS isAgg23 rfl ((aI (hw.at_ 3 rfl) rfl))) (aC rfl)) (bD 8 rfl rfl (isV _) (fun hNo=>sgV [(2,_)] rfl rfl rfl rfl hNo (aP rfl) ⟨bB rfl,trivial⟩ (fun ev w he hw=>aO (o':=4) hH rfl rfl) (aC rfl)) (bD 9 rfl rfl (isV _) (fun hNo=>sgV [(45,_)] rfl rfl rfl rfl hNo (aP rfl) ⟨aG 7 (aA rfl rfl rfl),trivial⟩ (fun ev w he hw=>aS isAgg3 rfl ((aI (hw.at_ 3 rfl) rfl))) (aC rfl)) (bD 10 rfl rfl (isV _) (fun hNo=>sgV [(44,_),(46,_)] rfl rfl rfl rfl hNo (aP rfl) ⟨aG 6 (aA rfl rfl rfl),aG 8 (aA rfl rfl rfl),trivial⟩ (fun ev w he hw=>bH (j:=kM) underlying23 sizeOf3 rfl rfl (hkM) (hkl) rfl) (aC rfl)) (bD 11 rfl rfl (isV _) (fun hNo=>sgV [(47,_)] rfl rfl rfl rfl hNo (aP rfl) ⟨aG 9 (aA rfl rfl rfl),trivial⟩ (fun ev w he hw=>aS isAgg3 rfl (hw.agree.cell (Nat.zero_le _) (hecM.1))) (aC rfl)) (bD 12 rfl rfl (isV _) (fun hNo=>sgV [(8,_)] rfl rfl rfl rfl hNo (aP rfl) ⟨bB rfl,trivial⟩ (fun ev w he hw=>cJ (vs:=[_,_,_,_,_,_]) isAgg59 sizeOf59 rfl ((aM.own (j:=0) (m:=6) (hw.at_ 0 rfl) rfl))) (aC rfl)) (bD 13 rfl rfl (isV _) (fun hNo=>sgV [(48,_),(49,_)] rfl rfl rfl rfl hNo (aP rfl) ⟨aG 10 (aA rfl rfl rfl),aG 11 (aA rfl rfl rfl),trivial⟩ (fun ev w he hw=>eN (us:=[(1,.int .i64 _),(2,.int .i64 _),(3,.agg (List.toArray [_,_,_,_,_,_]))]) rfl (lV _ _ _ _ _ _ _ _)) (aC rfl)) (bD 14 rfl rfl (dV W.heap.size 1 90 _) (fun hNo=>iH (us:=[.agg (List.toArray [_,_,_,_,_,_,_,_,_])]) rfl rfl rfl rfl hNo (aP rfl) underlying45 sizeOf90 zeroValue90 rfl rfl ⟨bO (aG 12 (aA rfl rfl rfl)),trivial⟩ (kI _ _ _ _ _ _ _ _ _) (aC rfl)) (gZ ?_)))))))))))))))
    intro Bf10 y10 W10 Ks10 hsz10 hKs10 hS' hcov10
    clear hS;have hS:=hS'.castO (O':=[_,_,_,_]) rfl;clear hS'
    refine lR (L':=[AwS _ _ (isV _),AwS _ _ (isV _),AwS _ _ (isV _),AwS _ _ (isV _),AwS _ _ (dV W.heap.size 1 3 _),AwS _ _ (isV _),AwS _ _ (isV _),AwS _ _ (isV _),AwS _ _ (isV _),AwS _ _ (isV _),AwS _ _ (isV _),AwS _ _ (isV _),AwS _ _ (isV _),AwS _ _ (dV W.heap.size 1 90 _)]) rfl (bT (bT (bT (bT ?_))))
    refine dO ?_;rintro vF hF8;obtain ⟨BF,rfl,_,_⟩:=hF8.here;have HBF:eS w Ks10 (fun W2=>W2.heap[BF]?=some (.cells (List.toArray [.int .i64 1]) 3 (0,0))):=fun h2 hk=>gY (hF8 _ (hcov10 h2 hk))
    refine bT (bT (bT (bT (bT (bT (bT (bT ?_)))))))
    refine dO ?_;rintro vT hT8;obtain ⟨BT,rfl,_,_⟩:=hT8.here;have HBT:=fun {O2:Own} {G2:Grows} {K2:List (Nat×World)} {W2:World} (h2:St w O2 G2 K2 W2) (hk:∀ q∈Ks10,q∈K2)=>gY (hT8 _ (hcov10 h2 hk))
    refine bV (bL (us:=[(0,.agg (List.toArray [_,_,_])),(1,.int .i64 _),(2,.int .i64 _),(3,.slice _ _ _),(4,.slice _ _ _)]) rfl (eW _ _ _ _ _ _ _ _ _ _ _) rfl (bA (i:=2) (vs:=[_,_,_,_,_,_,_]) (cs':=[_,_,_,_,_,_,_]) (O':=[_,_,_,_]) hS sizeOf47 rfl rfl rfl rfl rfl rfl rfl fun W11 hS=>aK rfl rfl (aT (XF.thenN (bP (XF.res (fE (vs:=[_,_,_,_,_,_,_]) results9 isAgg47 sizeOf47 rfl (aM.own (j:=0) (m:=7) (hS.at_ 2 rfl) rfl) rfl) ?_))))))
    have hrw9:W11.ownsRow w.heap.size 88 3 (.slice a9 vl c9) vl (eK (List.replicate vl ⟨0,1,0⟩)):=hS.row 0 rfl
    exact sP hce hso9.v hS hkM hyM (fun h2 hk=>⟨HP h2 (fun q hq=>hk q (by simp [hq])),HBF h2 (fun q hq=>hk q (by simp [hq])),HBT h2 (fun q hq=>hk q (by simp [hq]))⟩) (f:={ cellsF a9 c9 (List.replicate vl ⟨0,1,0⟩) with cl:=vl }) (fun W2 h1 h2=>(by have e9:=Ba (n:=vl) hm3;rw [e9.1,e9.2];exact xC (lo:=w.heap.size) (by simp) (xD hso9.v) (fW hrw9 h2)))
  ·skip
   refine aU (bF (vs:=[_,_,_]) isAgg35 sizeOf35 rfl (aM.own (j:=0) (m:=3) (hS.at_ 0 rfl) rfl) rfl ?_)
   have hsz5:=hS.below.size
   refine cV (vs:=[_]) hS sQ rfl (OneR_ok (spM m vl) sq _ (HSp hS (fun q hq=>by simp at hq;subst hq;simp)) (uX hv9)) rfl ?_
   rintro e W12 ⟨f9,rfl,hn9,hb⟩
   refine ⟨_,rfl,hb,fun hS'=>?_⟩
   clear hS;have hS:=hS';clear hS'
   rw [oneX_st hm3] at hn9
   have hcl9:=st_cl hm3 hn9
   have HF9:eS w [(_,_)] (fun W2=>gW w.heap.size W2 (spM m vl) f9 (stX m vl)):=eS.one (p:=fun W2=>gW w.heap.size W2 (spM m vl) f9 (stX m vl)) (fun W2 hg=>(hn9.agree hg).mono hsz5)
   refine aL rfl rfl (bM rfl rfl rfl (bM rfl rfl rfl (bY (cs:=[_,_,_,_,_,_]) hS zeroValue59 rfl rfl fun B13 W13 hS=>bA (i:=0) (vs:=[_,_,_,_,_,_]) (cs':=[_,_,_,_,_,_]) (O':=[_,_,_,_]) hS sizeOf59 rfl rfl rfl rfl rfl rfl rfl fun W14 hS=>aK rfl rfl (aT (XF.thenN (aR (aR (aU (aK rfl rfl (aT (XF.thenN (bR ?_))))))))))))
   refine eI (fun q l W=>∃ Kk:List (Nat×World),q=0∧l=[(1,.int .i64 m),(2,.pointer (some ⟨B1,0,none⟩)),(4,.pointer (some ⟨B2,0,none⟩)),(7,.pointer (some ⟨B6,0,none⟩)),(8,.pointer (some ⟨B13,0,none⟩)),(10,.int .i64 0)]∧eS w Kk (fun W2=>SIs W2 (spM m vl) sq∧gW w.heap.size W2 (spM m vl) f9 (stX m vl))∧St w [(B13,[.bool f9.z,.int .i64 f9.c,.int .u64 (f9.g:Int),.slice f9.ra f9.rl f9.rc,.slice f9.ca f9.cl f9.cc,.slice f9.pa f9.pl f9.pc],59),(B6,[.int .i64 sq.tag,.int .i64 sq.dim,.slice sq.a sq.len sq.cap],35),(B2,[.int .i64 0,.int .i64 0,.slice none 0 0,.int .i64 0,.int .i64 0,.slice none 0 0,.slice none 0 0],47),(B1,[.slice va vl vc,.slice pa pl pc,.slice ea el ec,.slice xa xl xc,.int .i64 mn,.slice oa ol oc,.slice sa sl sc,.slice ta tl tc,.slice na nl nc,.slice ka kl kc],29)] [] Kk W) (0) ([(1,_),(2,_),(4,_),(7,_),(8,_),(10,_)]) ⟨rfl,rfl,rfl,rfl,rfl,rfl,trivial⟩ (⟨_,rfl,rfl,(fun h2 hk=>⟨HSp h2 (fun q hq=>hk q (by simp at hq;subst hq;simp)),HF9 h2 (fun q hq=>hk q (by simp at hq;subst hq;simp))⟩),hS⟩) ?_
   clear hS
   clear HSp HF9;rintro q l W ⟨Kk,rfl,rfl,HP,hS⟩
   refine aR (aR (aU (aL rfl rfl (aQ (o':=4) dU rfl rfl rfl (aV isAgg56 rfl (aI (hS.at_ 0 rfl) rfl) rfl (bU underlying56 rfl rfl (dA rfl rfl rfl (aT (XF.thenN (bJ rfl (fun hc=>absurd (of_decide_eq_true hc) (by omega)) (fun hc=>?_)))))))))))
   have hc:=of_decide_eq_false hc
   refine cZ (XF.thenX (XF.thenX (XF.blkX (XF.thenN (aR ?_)))))
   obtain ⟨eb,eo,eM,rfl,heM,hecM⟩:=he.get (i:=kM) (by exact (List.getElem?_eq_some_iff.1 hyM).1)
   obtain rfl:yM=eM:=Option.some.inj (hyM.symm.trans heM)
   have hkl:kM < el:=by have:=(List.getElem?_eq_some_iff.1 hyM).1;omega
   refine qQ (ef:=17) (jy:=17) (ca:=sX (fun _=>[])) (ta:=fun _=>0) (Os:=mF _) (Gs:=kX _) (al:=[]) (k:=14) (ds:=[5,52]) bG rfl hS rfl (by kernel_rfl) (by kernel_rfl) rfl (by decide) rfl (fun _=>none) (.inr ⟨rfl,rfl,rfl⟩) rfl rfl (bD 1 rfl rfl (isV _) (fun hNo=>sgV [(7,_)] rfl rfl rfl rfl hNo (aP rfl) ⟨bB rfl,trivial⟩ (fun ev w he hw=>cJ (vs:=[_,_,_]) isAgg35 sizeOf35 rfl ((aM.own (j:=0) (m:=3) (hw.at_ 1 rfl) rfl))) (aC rfl)) (bD 2 rfl rfl (isV _) (fun hNo=>sgV [(2,_)] rfl rfl rfl rfl hNo (aP rfl) ⟨bB rfl,trivial⟩ (fun ev w he hw=>aO (o':=5) cA rfl rfl) (aC rfl)) (bD 3 rfl rfl (isV _) (fun hNo=>sgV [(39,_)] rfl rfl rfl rfl hNo (aP rfl) ⟨aG 1 (aA rfl rfl rfl),trivial⟩ (fun ev w he hw=>aS isAgg23 rfl ((aI (hw.at_ 3 rfl) rfl))) (aC rfl)) (bD 4 rfl rfl (isV _) (fun hNo=>sgV [(40,_)] rfl rfl rfl rfl hNo (aP rfl) ⟨aG 2 (aA rfl rfl rfl),trivial⟩ (fun ev w he hw=>eY underlying23 rfl) (aC rfl)) (bD 5 rfl rfl (dV W.heap.size 1 3 _) (fun hNo=>iH (us:=[.int .i64 _]) rfl rfl rfl rfl hNo (aP rfl) underlying23 sizeOf3 zeroValue3 rfl rfl ⟨oN,trivial⟩ (fC _) (aC rfl)) (bD 6 rfl rfl (isV _) (fun hNo=>sgV [(2,_)] rfl rfl rfl rfl hNo (aP rfl) ⟨bB rfl,trivial⟩ (fun ev w he hw=>aO (o':=2) dP rfl rfl) (aC rfl)) (bD 7 rfl rfl (isV _) (fun hNo=>sgV [(43,_)] rfl rfl rfl rfl hNo (aP rfl) ⟨aG 5 (aA rfl rfl rfl),trivial⟩ (fun ev w he hw=>aS isAgg23 rfl ((aI (hw.at_ 3 rfl) rfl))) (aC rfl)) (bD 8 rfl rfl (isV _) (fun hNo=>sgV [(2,_)] rfl rfl rfl rfl hNo (aP rfl) ⟨bB rfl,trivial⟩ (fun ev w he hw=>aO (o':=4) hH rfl rfl) (aC rfl)) (bD 9 rfl rfl (isV _) (fun hNo=>sgV [(45,_)] rfl rfl rfl rfl hNo (aP rfl) ⟨aG 7 (aA rfl rfl rfl),trivial⟩ (fun ev w he hw=>aS isAgg3 rfl ((aI (hw.at_ 3 rfl) rfl))) (aC rfl)) (bD 10 rfl rfl (isV _) (fun hNo=>sgV [(44,_),(46,_)] rfl rfl rfl rfl hNo (aP rfl) ⟨aG 6 (aA rfl rfl rfl),aG 8 (aA rfl rfl rfl),trivial⟩ (fun ev w he hw=>bH (j:=kM) underlying23 sizeOf3 rfl rfl (hkM) (hkl) rfl) (aC rfl)) (bD 11 rfl rfl (isV _) (fun hNo=>sgV [(47,_)] rfl rfl rfl rfl hNo (aP rfl) ⟨aG 9 (aA rfl rfl rfl),trivial⟩ (fun ev w he hw=>aS isAgg3 rfl (hw.agree.cell (Nat.zero_le _) (hecM.1))) (aC rfl)) (bD 12 rfl rfl (isV _) (fun hNo=>sgV [(8,_)] rfl rfl rfl rfl hNo (aP rfl) ⟨bB rfl,trivial⟩ (fun ev w he hw=>cJ (vs:=[_,_,_,_,_,_]) isAgg59 sizeOf59 rfl ((aM.own (j:=0) (m:=6) (hw.at_ 0 rfl) rfl))) (aC rfl)) (bD 13 rfl rfl (isV _) (fun hNo=>sgV [(48,_),(49,_)] rfl rfl rfl rfl hNo (aP rfl) ⟨aG 10 (aA rfl rfl rfl),aG 11 (aA rfl rfl rfl),trivial⟩ (fun ev w he hw=>eN (us:=[(1,.int .i64 _),(2,.int .i64 _),(3,.agg (List.toArray [_,_,_,_,_,_]))]) rfl (lV _ _ _ _ _ _ _ _)) (aC rfl)) (bD 14 rfl rfl (dV W.heap.size 1 90 _) (fun hNo=>iH (us:=[.agg (List.toArray [_,_,_,_,_,_,_,_,_])]) rfl rfl rfl rfl hNo (aP rfl) underlying45 sizeOf90 zeroValue90 rfl rfl ⟨bO (aG 12 (aA rfl rfl rfl)),trivial⟩ (kI _ _ _ _ _ _ _ _ _) (aC rfl)) (gZ ?_)))))))))))))))
   intro Bf15 y15 W15 Ks15 hsz15 hKs15 hS' hcov15
   clear hS;have hS:=hS'.castO (O':=[_,_,_,_]) rfl;clear hS'
   refine lR (L':=[AwS _ _ (isV _),AwS _ _ (isV _),AwS _ _ (isV _),AwS _ _ (isV _),AwS _ _ (dV W.heap.size 1 3 _),AwS _ _ (isV _),AwS _ _ (isV _),AwS _ _ (isV _),AwS _ _ (isV _),AwS _ _ (isV _),AwS _ _ (isV _),AwS _ _ (isV _),AwS _ _ (isV _),AwS _ _ (dV W.heap.size 1 90 _)]) rfl (bT (bT (bT (bT ?_))))
   refine dO ?_;rintro vF hF8;obtain ⟨BF,rfl,_,_⟩:=hF8.here;have HBF:eS w Ks15 (fun W2=>W2.heap[BF]?=some (.cells (List.toArray [.int .i64 1]) 3 (0,0))):=fun h2 hk=>gY (hF8 _ (hcov15 h2 hk))
   refine bT (bT (bT (bT (bT (bT (bT (bT ?_)))))))
   refine dO ?_;rintro vT hT8;obtain ⟨BT,rfl,_,_⟩:=hT8.here;have HBT:=fun {O2:Own} {G2:Grows} {K2:List (Nat×World)} {W2:World} (h2:St w O2 G2 K2 W2) (hk:∀ q∈Ks15,q∈K2)=>gY (hT8 _ (hcov15 h2 hk))
   refine bV (bL (us:=[(0,.agg (List.toArray [_,_,_])),(1,.int .i64 _),(2,.int .i64 _),(3,.slice _ _ _),(4,.slice _ _ _)]) rfl (eW _ _ _ _ _ _ _ _ _ _ _) rfl (bA (i:=2) (vs:=[_,_,_,_,_,_,_]) (cs':=[_,_,_,_,_,_,_]) (O':=[_,_,_,_]) hS sizeOf47 rfl rfl rfl rfl rfl rfl rfl fun W16 hS=>aK rfl rfl (aT (XF.thenN (bP (XF.res (fE (vs:=[_,_,_,_,_,_,_]) results9 isAgg47 sizeOf47 rfl (aM.own (j:=0) (m:=7) (hS.at_ 2 rfl) rfl) rfl) ?_))))))
   exact sP hce hso9.v hS hkM hyM (fun h2 hk=>⟨(HP h2 (fun q hq=>hk q (by simp [hq]))).1,HBF h2 (fun q hq=>hk q (by simp [hq])),HBT h2 (fun q hq=>hk q (by simp [hq]))⟩) (f:=f9) (fun W2 h1 h2=>(HP (stE hS h1 h2) (fun q hq=>by simp [hq])).2.is)
theorem pdsMR_c (va:Option Addr) (vl:Nat) (vc:Nat) (pa:Option Addr) (pl:Nat) (pc:Nat) (ea:Option Addr) (el:Nat) (ec:Nat) (es:List Int) (xa:Option Addr) (xl:Nat) (xc:Nat) (xs:List Int) (mn:Int) (oa:Option Addr) (ol:Nat) (oc:Nat) (os:List Int) (sa:Option Addr) (sl:Nat) (sc:Nat) (ss:List gr_TV) (ta:Option Addr) (tl:Nat) (tc:Nat) (ts:List UV) (na:Option Addr) (nl:Nat) (nc:Nat) (ns:List NV) (ka:Option Addr) (kl:Nat) (kc:Nat) (ks:List KV) (w:World) (he:dS w ea es) (hel:es.length=el) (hx:dS w xa xs) (hxl:xs.length=xl) (ho:dS w oa os) (hol:os.length=ol) (hs:dB gr_TV.sev 7 w sa ss) (hsl:ss.length=sl) (ht:dB UV.four 4 w ta ts) (htl:ts.length=tl) (hn:dB NV.two 2 w na ns) (hnl:ns.length=nl) (hk:dB KV.two 2 w ka ks) (hkl:ks.length=kl) (b1:vl≤5000) (b2:pl≤5000) (b3:el≤5000) (b4:xl≤5000) (b5:ol≤5000) (b6:sl≤5000) (b7:tl≤5000) (b8:nl≤5000) (b9:kl≤5000) (m:Int) (hso:gr_checkE ⟨va,vl,vc,pa,pl,pc,ea,el,ec,es,xa,xl,xc,xs,mn,oa,ol,oc,os,sa,sl,sc,ss,ta,tl,tc,ts,na,nl,nc,ns,ka,kl,kc,ks⟩=0→StepsOk ⟨va,vl,vc,pa,pl,pc,ea,el,ec,es,xa,xl,xc,xs,mn,oa,ol,oc,os,sa,sl,sc,ss,ta,tl,tc,ts,na,nl,nc,ns,ka,kl,kc,ks⟩) (hco0:gr_checkE ⟨va,vl,vc,pa,pl,pc,ea,el,ec,es,xa,xl,xc,xs,mn,oa,ol,oc,os,sa,sl,sc,ss,ta,tl,tc,ts,na,nl,nc,ns,ka,kl,kc,ks⟩=0→kP ⟨va,vl,vc,pa,pl,pc,ea,el,ec,es,xa,xl,xc,xs,mn,oa,ol,oc,os,sa,sl,sc,ss,ta,tl,tc,ts,na,nl,nc,ns,ka,kl,kc,ks⟩) :
  Calls prog 7 #[.agg #[.slice va vl vc,.slice pa pl pc,.slice ea el ec,.slice xa xl xc,.int .i64 mn,.slice oa ol oc,.slice sa sl sc,.slice ta tl tc,.slice na nl nc,.slice ka kl kc],.int .i64 m] w (PdR ⟨va,vl,vc,pa,pl,pc,ea,el,ec,es,xa,xl,xc,xs,mn,oa,ol,oc,os,sa,sl,sc,ss,ta,tl,tc,ts,na,nl,nc,ns,ka,kl,kc,ks⟩ m w):=by
 refine cS (args:=[.agg #[.slice va vl vc,.slice pa pl pc,.slice ea el ec,.slice xa xl xc,.int .i64 mn,.slice oa ol oc,.slice sa sl sc,.slice ta tl tc,.slice na nl nc,.slice ka kl kc],.int .i64 m]) func7 rfl ntmps7 rfl ?_
 have hS:=St.start w
 refine aR (aU (cR (cs:=[_,_,_,_,_,_,_,_,_,_]) hS rfl rfl rfl fun B1 W1 hS=>bY (cs:=[_,_,_,_,_,_]) hS zeroValue38 rfl rfl fun B2 W2 hS=>aK rfl rfl (aT (XF.thenN (aR (aU (bF (vs:=[_,_,_,_,_,_,_,_,_,_]) isAgg29 sizeOf29 rfl (aM.own (j:=0) (m:=10) (hS.at_ 1 rfl) rfl) rfl (aL rfl rfl (cD (vs:=[_,_]) hS oI rfl (vD _ vl vc _ pl pc _ el ec es _ xl xc xs mn _ ol oc os _ sl sc ss _ tl tc ts _ nl nc ns _ kl kc ks  _ (he.below hS.below) hel (hx.below hS.below) hxl (ho.below hS.below) hol (hs.below hS.below) hsl (ht.below hS.below) htl (hn.below hS.below) hnl (hk.below hS.below) hkl b1 b2 b3 b4 b5 b6 b7 b8 b9 m) rfl fun W3 hS=>aK rfl rfl (aT (XF.thenN (aR (aR (aU (aL rfl rfl (cW rfl rfl rfl (aT (XF.thenN (bJ rfl (fun hc=>?_) (fun hc=>?_))))))))))))))))))))
 ·have hc16:=of_decide_eq_true hc;clear hc
  refine aR (aU (bL (us:=[]) rfl (pN) rfl (aL rfl rfl (bA (i:=0) (vs:=[_,_,_,_,_,_]) (cs':=[_,_,_,_,_,_]) (O':=[_,_]) hS sizeOf38 rfl rfl rfl rfl rfl rfl rfl fun W4 hS=>aK rfl rfl (aT (XF.thenN (bP (XF.thenR (XF.res (fE (vs:=[_,_,_,_,_,_]) results7 isAgg38 sizeOf38 rfl (aM.own (j:=0) (m:=6) (hS.at_ 0 rfl) rfl) rfl) ?_)))))))))
  exact A8 hc16 hS.below
 ·have hc16:=of_decide_eq_false hc;clear hc
  have hce:gA ⟨va,vl,vc,pa,pl,pc,ea,el,ec,es,xa,xl,xc,xs,mn,oa,ol,oc,os,sa,sl,sc,ss,ta,tl,tc,ts,na,nl,nc,ns,ka,kl,kc,ks⟩ m=0:=Decidable.of_not_not hc16
  have hso9:=hso (jC hce)
  have hco:=hco0 (jC hce)
  refine bQ (XF.thenN (aR (qQ (ef:=9) (jy:=9) (ca:=sX (fun _=>[.int .i64 0,.int .i64 0,.slice none 0 0,.int .i64 0,.int .i64 0,.slice none 0 0])) (ta:=fun _=>38) (Os:=mF _) (Gs:=kX _) (al:=[7]) (k:=8) (ds:=[]) bG rfl hS rfl (by kernel_rfl) (by kernel_rfl) rfl (by decide) rfl (fun _=>none) (.inr ⟨rfl,rfl,rfl⟩) rfl rfl (bD 1 rfl rfl (isV _) (fun hNo=>sgV [(2,_)] rfl rfl rfl rfl hNo (aP rfl) ⟨bB rfl,trivial⟩ (fun ev w he hw=>cJ (vs:=[_,_,_,_,_,_,_,_,_,_]) isAgg29 sizeOf29 rfl ((aM.own (j:=0) (m:=10) (hw.at_ 1 rfl) rfl))) (aC rfl)) (bD 2 rfl rfl (isV _) (fun hNo=>sgV [(1,_)] rfl rfl rfl rfl hNo (aP rfl) ⟨bB rfl,trivial⟩ (fun ev w he hw=>aW rfl) (aC rfl)) ?_)))))
  refine bD 3 rfl rfl (jI W3.heap.size (spM m vl)) (fun hNo=>nC [isV _,isV _] rfl rfl rfl rfl hNo sR (aP rfl) ⟨bO (aG 0 (aA rfl rfl rfl)),bO (aG 1 (aA rfl rfl rfl)),trivial⟩ (fun vs ev w' he hSt hlo hh=>by have e:=bN (us:=[_,_]) hh;subst e;exact xA hlo (sI ⟨_,vl,vc,_,pl,pc,_,el,ec,es,_,xl,xc,xs,mn,_,ol,oc,os,_,sl,sc,ss,_,tl,tc,ts,_,nl,nc,ns,_,kl,kc,ks⟩ m vl _ rfl)) (aC rfl)) ?_
  refine bD 4 rfl rfl (isV _) (fun hNo=>sgV [(2,_)] rfl rfl rfl rfl hNo (aP rfl) ⟨bB rfl,trivial⟩ (fun ev w he hw=>aO (o':=5) cA rfl rfl) (aC rfl)) (bD 5 rfl rfl (isV _) (fun hNo=>sgV [(22,_)] rfl rfl rfl rfl hNo (aP rfl) ⟨aG 3 (aA rfl rfl rfl),trivial⟩ (fun ev w he hw=>aS isAgg23 rfl ((aI (hw.at_ 1 rfl) rfl))) (aC rfl)) (bD 6 rfl rfl (isV _) (fun hNo=>sgV [(23,_)] rfl rfl rfl rfl hNo (aP rfl) ⟨aG 4 (aA rfl rfl rfl),trivial⟩ (fun ev w he hw=>eY underlying23 rfl) (aC rfl)) (bD 7 rfl rfl (tS W3.heap.size (spM m vl) 1 (ol:Int)) (fun hNo=>Ar [(2,21,jI W3.heap.size (spM m vl)),(5,24,isV _)] rfl rfl rfl rfl hNo ⟨⟨by kernel_rfl,aA rfl rfl rfl⟩,⟨by kernel_rfl,aA rfl rfl rfl⟩,trivial⟩ (by kernel_rfl) Aq (aC rfl)) (jL 8 rfl (jQ rfl rfl rfl rfl rfl zeroValue38 (fun ev he=>rfl)) (gZ ?_)))))
  intro Bf5 y5 W5 Ks5 hsz5 hKs5 hS' hcov5
  clear hS;have hS:=hS'.castO (O':=[_,_,_]) rfl;clear hS'
  refine lR (L':=[AwS _ _ (isV _),AwS _ _ (isV _),AwS _ _ (jI W3.heap.size (spM m vl)),AwS _ _ (isV _),AwS _ _ (isV _),AwS _ _ (isV _),AwS _ _ (tS W3.heap.size (spM m vl) 1 (ol:Int)),isV _]) rfl (bT (bT ?_))
  refine dO ?_;intro _ _
  refine bT (bT (bT ?_))
  refine dO ?_;rintro vS hA8;obtain ⟨sq,rfl,_⟩:=hA8.here;have HSp:eS w Ks5 (fun W2=>SIs W2 (spM m vl) sq):=fun h2 hk=>xB (hA8 _ (hcov5 h2 hk))
  refine aE (bV (bA (i:=0) (vs:=[_,_,_,_,_,_]) (cs':=[_,_,_,_,_,_]) (O':=[_,_,_]) hS sizeOf38 rfl rfl rfl rfl rfl rfl rfl fun W6 hS=>aT (XF.thenN (aR (aR ?_)))))
  have hS:=hS.newG 74 10
  refine aU (aK rfl rfl (aT (XF.thenN (bR (eI (fun q l W=>∃ (i:Nat) (rs:List R9) (v:Value) (Kk:List (Nat×World)),i≤sl∧q=sl - i∧l=[(1,.int .i64 m),(2,.pointer (some ⟨B1,0,none⟩)),(4,.pointer (some ⟨B2,0,none⟩)),(7,.pointer (some ⟨(Bf5 7),0,none⟩)),(8,.int .i64 (i:Int))]∧rs.length=i∧rs.map R9.pl=(ss.take i).map (psR ⟨va,vl,vc,pa,pl,pc,ea,el,ec,es,xa,xl,xc,xs,mn,oa,ol,oc,os,sa,sl,sc,ss,ta,tl,tc,ts,na,nl,nc,ns,ka,kl,kc,ks⟩ m)∧eS w Kk (fun W2=>SIs W2 (spM m vl) sq∧∀ r∈rs,ROk (spM m vl) W2 r)∧St w [((Bf5 7),[.int .i64 sq.tag,.int .i64 sq.dim,.slice sq.a sq.len sq.cap,.int .i64 1,.int .i64 (ol:Int),v],38),(B2,[.int .i64 0,.int .i64 0,.slice none 0 0,.int .i64 0,.int .i64 0,.slice none 0 0],38),(B1,[.slice va vl vc,.slice pa pl pc,.slice ea el ec,.slice xa xl xc,.int .i64 mn,.slice oa ol oc,.slice sa sl sc,.slice ta tl tc,.slice na nl nc,.slice ka kl kc],29)] [⟨v,i,rs.flatMap pV,74,10⟩] Kk W) (sl - 0) ([(1,_),(2,_),(4,_),(7,_),(8,_)]) ⟨rfl,rfl,rfl,rfl,rfl,trivial⟩ (⟨0,[],_,_,Nat.zero_le _,rfl,rfl,rfl,rfl,(fun h2 hk=>⟨HSp h2 (fun q hq=>hk q hq),fun r hr=>by cases hr⟩),(hS.keep _ (fun q hq=>List.mem_append_left _ hq)).castG rfl⟩) ?_)))))
  clear hS
  clear HSp;rintro q l W ⟨i,rs,v,Kk,hi,rfl,rfl,hql,hqm,HQ,hS⟩
  refine aR (aR (aU (aL rfl rfl (aQ (o':=6) eF rfl rfl rfl (aV isAgg24 rfl (aI (hS.at_ 2 rfl) rfl) rfl (bU underlying24 rfl rfl (dA rfl rfl rfl (aT (XF.thenN (bJ rfl (fun hc=>?_) (fun hc=>?_)))))))))))
  ·have hc30:=of_decide_eq_true hc;clear hc
   have hk1:i < sl:=by omega
   obtain ⟨b,off,s,rfl,hy,hyc⟩:=hs.get (i:=i) (by omega)
   have k1:=aM.agree hS.agree (Nat.zero_le _) hyc
   have hst9:StOk vl s.k s.x s.y:=hso9.s s (List.mem_of_getElem? hy)
   refine bQ (XF.thenN (aR (bR (aR (aU (aQ (o':=6) eF rfl rfl rfl (aV isAgg24 rfl (aI (hS.at_ 2 rfl) rfl) rfl (aL rfl rfl (cP  underlying24 sizeOf79 rfl rfl rfl (by omega) rfl rfl (bF (vs:=[_,_,_,_,_,_,_]) isAgg79 sizeOf79 rfl (k1) rfl (bY (cs:=[_,_,_,_,_,_,_]) hS zeroValue79 rfl rfl fun B7 W7 hS=>bA (i:=0) (vs:=[_,_,_,_,_,_,_]) (cs':=[_,_,_,_,_,_,_]) (O':=[_,_,_,_]) hS sizeOf79 rfl rfl rfl rfl rfl rfl rfl fun W8 hS=>aT (XF.thenN (aR (qQ (ef:=12) (jy:=12) (ca:=sX (fun _=>[.int .i64 0,.int .i64 0,.int .i64 0,.slice none 0 0,.bool false,.int .i64 0,.int .u64 0,.slice none 0 0,.slice none 0 0,.slice none 0 0])) (ta:=fun _=>74) (Os:=mF _) (Gs:=kX _) (al:=[10]) (k:=11) (ds:=[]) bG rfl hS rfl (by kernel_rfl) (by kernel_rfl) rfl (by decide) rfl (fun _=>none) (.inr ⟨rfl,rfl,rfl⟩) rfl rfl (bD 1 rfl rfl (isV _) (fun hNo=>sgV [(9,_)] rfl rfl rfl rfl hNo (aP rfl) ⟨bB rfl,trivial⟩ (fun ev w he hw=>aO (o':=0) cO rfl rfl) (aC rfl)) (bD 2 rfl rfl (isV _) (fun hNo=>sgV [(38,_)] rfl rfl rfl rfl hNo (aP rfl) ⟨aG 0 (aA rfl rfl rfl),trivial⟩ (fun ev w he hw=>aS isAgg3 rfl ((aI (hw.at_ 0 rfl) rfl))) (aC rfl)) (bD 3 rfl rfl (isV _) (fun hNo=>sgV [(9,_)] rfl rfl rfl rfl hNo (aP rfl) ⟨bB rfl,trivial⟩ (fun ev w he hw=>aO (o':=1) cU rfl rfl) (aC rfl)) (bD 4 rfl rfl (isV _) (fun hNo=>sgV [(40,_)] rfl rfl rfl rfl hNo (aP rfl) ⟨aG 2 (aA rfl rfl rfl),trivial⟩ (fun ev w he hw=>aS isAgg3 rfl ((aI (hw.at_ 0 rfl) rfl))) (aC rfl)) (bD 5 rfl rfl (dV W8.heap.size 1 3 _) (fun hNo=>iH (us:=[.int .i64 _]) rfl rfl rfl rfl hNo (aP rfl) underlying23 sizeOf3 zeroValue3 rfl rfl ⟨bO (aG 3 (aA rfl rfl rfl)),trivial⟩ (fC _) (aC rfl)) (bD 6 rfl rfl (isV _) (fun hNo=>sgV [(2,_)] rfl rfl rfl rfl hNo (aP rfl) ⟨bB rfl,trivial⟩ (fun ev w he hw=>cJ (vs:=[_,_,_,_,_,_,_,_,_,_]) isAgg29 sizeOf29 rfl ((aM.own (j:=0) (m:=10) (hw.at_ 3 rfl) rfl))) (aC rfl)) (bD 7 rfl rfl (isV _) (fun hNo=>sgV [(1,_)] rfl rfl rfl rfl hNo (aP rfl) ⟨bB rfl,trivial⟩ (fun ev w he hw=>aW rfl) (aC rfl)) (bD 8 rfl rfl (isV _) (fun hNo=>sgV [(9,_)] rfl rfl rfl rfl hNo (aP rfl) ⟨bB rfl,trivial⟩ (fun ev w he hw=>cJ (vs:=[_,_,_,_,_,_,_]) isAgg79 sizeOf79 rfl ((aM.own (j:=0) (m:=7) (hw.at_ 0 rfl) rfl))) (aC rfl)) ?_))))))))))))))))))))))
   refine bD 9 rfl rfl (gD W8.heap.size (spM m vl) (wtM m vl s.k s.x s.y s.kk)) (fun hNo=>nC [isV _,isV _,isV _] rfl rfl rfl rfl hNo oJ (aP rfl) ⟨bO (aG 5 (aA rfl rfl rfl)),bO (aG 6 (aA rfl rfl rfl)),bO (aG 7 (aA rfl rfl rfl)),trivial⟩ (fun vs ev w' he hSt hlo hh=>by have e:=bN (us:=[_,_,_]) hh;subst e;exact wret_gN hlo (pU ⟨_,vl,vc,_,pl,pc,_,el,ec,es,_,xl,xc,xs,mn,_,ol,oc,os,_,sl,sc,ss,_,tl,tc,ts,_,nl,nc,ns,_,kl,kc,ks⟩ m vl s _ hso9.v hst9 rfl)) (aC rfl)) ?_
   refine bD 10 rfl rfl (Ap W8.heap.size s.f s.t (spM m vl) (wtM m vl s.k s.x s.y s.kk)) (fun hNo=>sg_ofs [(1,39,isV _),(4,42,dV W8.heap.size 1 3 [.int .i64 s.t]),(8,46,gD W8.heap.size (spM m vl) (wtM m vl s.k s.x s.y s.kk))] rfl rfl rfl rfl hNo ⟨⟨by kernel_rfl,aA rfl rfl rfl⟩,⟨by kernel_rfl,aA rfl rfl rfl⟩,⟨by kernel_rfl,aA rfl rfl rfl⟩,trivial⟩ (by kernel_rfl) bld_ruQ (aC rfl)) ?_
   refine jL 11 rfl (jQ rfl rfl rfl rfl rfl zeroValue74 (fun ev he=>rfl)) (gZ ?_)
   intro Bf9 y9 W9 Ks9 hsz9 hKs9 hS' hcov9
   clear hS;have hS:=hS'.castO (O':=[_,_,_,_,_]) rfl;clear hS'
   refine lR (L':=[AwS _ _ (isV _),AwS _ _ (isV _),AwS _ _ (isV _),AwS _ _ (isV _),AwS _ _ (dV W8.heap.size 1 3 _),AwS _ _ (isV _),AwS _ _ (isV _),AwS _ _ (isV _),AwS _ _ (gD W8.heap.size (spM m vl) (wtM m vl s.k s.x s.y s.kk)),AwS _ _ (Ap W8.heap.size s.f s.t (spM m vl) (wtM m vl s.k s.x s.y s.kk)),isV _]) rfl (bT (bT (bT (bT ?_))))
   refine dO ?_;intro _ _
   refine bT (bT (bT ?_))
   refine dO ?_;intro _ _
   refine dO ?_;rintro vQ hA9;obtain ⟨f9,B9,rfl,hB9,hn9⟩:=hA9.here;have HX9:eS w Ks9 (fun W2=>W2.heap[B9]?=some (.cells (List.toArray [.int .i64 s.t]) 3 (0,0))∧XIs W2 (spM m vl) f9 (wtM m vl s.k s.x s.y s.kk)):=fun h2 hk=>ruQ_at hn9 (hA9 _ (hcov9 h2 hk))
   refine aE (bV (bA (i:=0) (vs:=[_,_,_,_,_,_,_,_,_,_]) (cs':=[_,_,_,_,_,_,_,_,_,_]) (O':=[_,_,_,_,_]) hS sizeOf74 rfl rfl rfl rfl rfl rfl rfl fun W10 hS=>aT (XF.thenN (aR (aR (aU (aQ (o':=2) dQ rfl rfl rfl (aV isAgg77 rfl (aI (hS.at_ 1 rfl) rfl) rfl (bW rfl rfl rfl (aT (XF.thenN (bJ rfl (fun hc=>?_) (fun hc=>?_)))))))))))))
   ·have hc50:=of_decide_eq_true hc;clear hc
    have h8:s.k=8:=hc50
    obtain ⟨n8,k8,u8,hn8,hnt8,hu8,hk8,hke8⟩:=hco s (List.mem_of_getElem? hy) h8
    have hnt9:n8 < tl:=hnt8
    have hke9:k8 < el:=hke8
    obtain ⟨tb,to_,u9,rfl,hu9,huc9⟩:=ht.get (i:=n8) (by omega)
    obtain rfl:u8=u9:=Option.some.inj (hu8.symm.trans hu9)
    obtain ⟨eb,eo,e8,rfl,he8,hec8⟩:=he.get (i:=k8) (by omega)
    have k2:=(aM.agree hS.agree (Nat.zero_le _) huc9).2.1
    have k3:=(aM.agree hS.agree (Nat.zero_le _) hec8).1
    have hsz11:=hS.below.size
    refine Cv bG 15 hS rfl rfl (by kernel_rfl) (by kernel_rfl) (by kernel_rfl) (fun d hd=>by cases hd) (bZ 1 rfl 2 rfl rfl (fun w hw=>aO (o':=2) dP rfl rfl) rfl (aZ 2 rfl 51 0 rfl rfl rfl (fun w hw=>aS isAgg23 rfl ((aJ hw 0).cell (Nat.zero_le _) (aI (hS.at_ 4 rfl) rfl))) rfl (bZ 3 rfl 2 rfl rfl (fun w hw=>aO (o':=7) cX rfl rfl) rfl (aZ 4 rfl 53 2 rfl rfl rfl (fun w hw=>aS isAgg25 rfl ((aJ hw 0).cell (Nat.zero_le _) (aI (hS.at_ 4 rfl) rfl))) rfl (bZ 5 rfl 9 rfl rfl (fun w hw=>aO (o':=6) dI rfl rfl) rfl (aZ 6 rfl 55 4 rfl rfl rfl (fun w hw=>aS isAgg3 rfl ((aJ hw 0).cell (Nat.zero_le _) (aI (hS.at_ 1 rfl) rfl))) rfl (aD 7 rfl (isV _) (aB _) (rgV (li:=[(54,_),(56,_)]) rfl (aP rfl) ⟨aG 3 (aA rfl rfl rfl),aG 5 (aA rfl rfl rfl),trivial⟩ (fun w hw=>bH (j:=n8) underlying25 sizeOf81 rfl rfl (hn8) (hnt8) rfl) (aC rfl)) (aZ 8 rfl 57 6 rfl rfl rfl (fun w hw=>aO jS rfl rfl) rfl (aZ 9 rfl 58 7 rfl rfl rfl (fun w hw=>aS isAgg3 rfl ((aJ hw 0).cell (Nat.zero_le _) (k2))) rfl (aD 10 rfl (isV _) (aB _) (rgV (li:=[(52,_),(59,_)]) rfl (aP rfl) ⟨aG 1 (aA rfl rfl rfl),aG 8 (aA rfl rfl rfl),trivial⟩ (fun w hw=>bH (j:=k8) underlying23 sizeOf3 rfl rfl (hk8) (hke8) rfl) (aC rfl)) (aZ 11 rfl 60 9 rfl rfl rfl (fun w hw=>aS isAgg3 rfl ((aJ hw 0).cell (Nat.zero_le _) (k3))) rfl (bZ 12 rfl 9 rfl rfl (fun w hw=>aO (o':=1) cU rfl rfl) rfl (aZ 13 rfl 62 11 rfl rfl rfl (fun w hw=>aS isAgg3 rfl ((aJ hw 0).cell (Nat.zero_le _) (aI (hS.at_ 1 rfl) rfl))) rfl (aD 14 rfl (dV W10.heap.size 2 3 _) (eJ) (iD (us:=[.int .i64 _,.int .i64 _]) rfl (aP rfl) underlying23 sizeOf3 zeroValue3 rfl rfl ⟨bO (aG 10 (aA rfl rfl rfl)),bO (aG 12 (aA rfl rfl rfl)),trivial⟩ (iU _ _) (aC rfl)) (bZ 15 rfl 10 rfl rfl (fun w hw=>aO (o':=3) jV rfl rfl) rfl (dF ?_))))))))))))))))
    intro W11 hbR hS'
    clear hS;have hS:=hS';clear hS'
    refine aE (aE (aE (aE (aE (aE (aE (aE (aE (aE (aE (aE (aE ?_))))))))))))
    refine dO ?_;rintro _ ⟨B11_13,rfl,hlo11_13,hrow11_13⟩
    refine aE ?_
    have H11:eS w [(_,W11)] (fun W2=>W2.heap[B11_13]?=some (.cells #[.int .i64 e8,.int .i64 s.t] 3 (0,0))):=eS.one (fun W2 hg=>(hg.2 _ hlo11_13 (cT hrow11_13)).trans hrow11_13)
    refine bV (eV (i:=0) (cs':=[_,_,_,_,_,_,_,_,_,_]) (O':=[_,_,_,_,_]) hS sizeOf23 rfl rfl (by first | rfl | exact (hS.oneV 0 _ rfl :) | exact (hS.oneV 1 _ rfl :) | exact (hS.oneV 2 _ rfl :) | exact (hS.oneV 3 _ rfl :)) rfl rfl rfl rfl fun W12 hS=>aT (XF.thenN (aU (aQ (o':=5) cM rfl rfl rfl (aV isAgg36 rfl (aI (hS.at_ 2 rfl) rfl) rfl (bF (vs:=[_,_,_,_,_,_,_,_,_,_]) isAgg74 sizeOf74 rfl (aM.own (j:=0) (m:=10) (hS.at_ 0 rfl) rfl) rfl (cQ (us:=[(0,.agg (List.toArray [_,_,_,_,_,_,_,_,_,_]))]) hS underlying36 sizeOf74 zeroValue74 rfl rfl rfl (jT _ _ _ _ _ _ _ _ _ _) rfl fun B13 W13 hS=>?_)))))))
    refine tE (i:=0) (news:=[_,_,_,_,_,_,_,_,_,_]) hS underlying36 gN rfl rfl (by show 0 < 10;decide) rfl rfl rfl rfl rfl (aM.own (j:=0) (m:=10) (hS.at_ 0 rfl) rfl) rfl rfl (by simp only [maxLen];omega) (by show (i+1) * 144≤_;omega) rfl fun v14 W14 hS=>?_
    refine aQ (o':=5) cM rfl rfl rfl (eV (i:=3) (cs':=[_,_,_,_,_,_]) (O':=[_,_,_,_,_,_]) hS sizeOf36 rfl rfl (by first | rfl | exact (hS.oneV 0 _ rfl :) | exact (hS.oneV 1 _ rfl :) | exact (hS.oneV 2 _ rfl :) | exact (hS.oneV 3 _ rfl :)) rfl rfl rfl rfl fun W15 hS=>aT (XF.blkN (XF.thenN (aU (aL rfl rfl (dH rfl rfl (IntWalk.i64_in _ (by omega)) rfl (aK rfl rfl (aT ?_))))))))
    have hS9:=hS.tail.tail.tail
    refine XF.round (sl - (i+1)) [(1,_),(2,_),(4,_),(7,_),(8,_)] (by omega) ⟨rfl,rfl,rfl,rfl,rfl,trivial⟩ ⟨i+1,rs++[⟨0,false,0,s.f,0,some ⟨B11_13,0,none⟩,2,[e8,s.t],f9,_⟩],_,_,by omega,rfl,rfl,by simp [hql],by rw [List.map_append,hqm,List.take_add_one,List.map_append,hy,List.map_cons,List.map_nil];show _=_++[psR _ _ _];rw [A7 h8 hn8 hu8 hk8 he8],?_,hS9.castG (by simp [kX,Nat.add_assoc])⟩
    exact fun h2 hk=>by
     have hq:=HQ h2 (fun r hr=>hk r (by simp [hr]))
     refine ⟨hq.1,fun q hq2=>?_⟩
     rcases List.mem_append.1 hq2 with hq2 | hq2
     ·exact hq.2 q hq2
     ·rw [List.mem_singleton] at hq2;subst hq2
      exact (have h9:=HX9 h2 (fun r hr=>hk r (by simp [hr]));rok2 (H11 h2 (fun r hr=>hk r (by simp at hr;subst hr;simp))) h9.2)
   ·have hc50:=of_decide_eq_false hc;clear hc
    have n8:¬ s.k=8:=hc50
    refine bQ (XF.thenN (aU (aQ (o':=5) cM rfl rfl rfl (aV isAgg36 rfl (aI (hS.at_ 2 rfl) rfl) rfl (bF (vs:=[_,_,_,_,_,_,_,_,_,_]) isAgg74 sizeOf74 rfl (aM.own (j:=0) (m:=10) (hS.at_ 0 rfl) rfl) rfl (cQ (us:=[(0,.agg (List.toArray [_,_,_,_,_,_,_,_,_,_]))]) hS underlying36 sizeOf74 zeroValue74 rfl rfl rfl (jT _ _ _ _ _ _ _ _ _ _) rfl fun B16 W16 hS=>?_))))))
    refine tE (i:=0) (news:=[_,_,_,_,_,_,_,_,_,_]) hS underlying36 gN rfl rfl (by show 0 < 10;decide) rfl rfl rfl rfl rfl (aM.own (j:=0) (m:=10) (hS.at_ 0 rfl) rfl) rfl rfl (by simp only [maxLen];omega) (by show (i+1) * 144≤_;omega) rfl fun v17 W17 hS=>?_
    refine aQ (o':=5) cM rfl rfl rfl (eV (i:=3) (cs':=[_,_,_,_,_,_]) (O':=[_,_,_,_,_,_]) hS sizeOf36 rfl rfl (by first | rfl | exact (hS.oneV 0 _ rfl :) | exact (hS.oneV 1 _ rfl :) | exact (hS.oneV 2 _ rfl :) | exact (hS.oneV 3 _ rfl :)) rfl rfl rfl rfl fun W18 hS=>aT (XF.blkN (XF.thenN (aU (aL rfl rfl (dH rfl rfl (IntWalk.i64_in _ (by omega)) rfl (aK rfl rfl (aT ?_))))))))
    have hS9:=hS.tail.tail.tail
    refine XF.round (sl - (i+1)) [(1,_),(2,_),(4,_),(7,_),(8,_)] (by omega) ⟨rfl,rfl,rfl,rfl,rfl,trivial⟩ ⟨i+1,rs++[⟨0,false,0,s.f,0,some ⟨B9,0,none⟩,1,[s.t],f9,_⟩],_,_,by omega,rfl,rfl,by simp [hql],by rw [List.map_append,hqm,List.take_add_one,List.map_append,hy,List.map_cons,List.map_nil];show _=_++[psR _ _ _];rw [A6 n8],?_,hS9.castG (by simp [kX,Nat.add_assoc])⟩
    exact fun h2 hk=>by
     have hq:=HQ h2 (fun r hr=>hk r (by simp [hr]))
     refine ⟨hq.1,fun q hq2=>?_⟩
     rcases List.mem_append.1 hq2 with hq2 | hq2
     ·exact hq.2 q hq2
     ·rw [List.mem_singleton] at hq2;subst hq2
      exact (have h9:=HX9 h2 (fun r hr=>hk r (by simp [hr]));rok1 h9.1 h9.2)
  ·have hc30:=of_decide_eq_false hc;clear hc
   rw [List.take_of_length_le (by omega)] at hqm
   refine cZ (XF.thenX (XF.thenX (XF.blkX (XF.thenN (aR (aR (aU (aK rfl rfl (aT (XF.thenN (bR ?_)))))))))))
   refine eI (fun q l W=>∃ (i:Nat) (rs:List R9) (v:Value) (Kk:List (Nat×World)),i≤xl∧q=xl - i∧l=[(1,.int .i64 m),(2,.pointer (some ⟨B1,0,none⟩)),(4,.pointer (some ⟨B2,0,none⟩)),(7,.pointer (some ⟨(Bf5 7),0,none⟩)),(11,.int .i64 (i:Int))]∧rs.length=sl+i∧rs.map R9.pl=ss.map (psR ⟨va,vl,vc,pa,pl,pc,ea,el,ec,es,xa,xl,xc,xs,mn,oa,ol,oc,os,sa,sl,sc,ss,ta,tl,tc,ts,na,nl,nc,ns,ka,kl,kc,ks⟩ m)++(xs.take i).map (psX ⟨va,vl,vc,pa,pl,pc,ea,el,ec,es,xa,xl,xc,xs,mn,oa,ol,oc,os,sa,sl,sc,ss,ta,tl,tc,ts,na,nl,nc,ns,ka,kl,kc,ks⟩ m)∧eS w Kk (fun W2=>SIs W2 (spM m vl) sq∧∀ r∈rs,ROk (spM m vl) W2 r)∧St w [((Bf5 7),[.int .i64 sq.tag,.int .i64 sq.dim,.slice sq.a sq.len sq.cap,.int .i64 1,.int .i64 (ol:Int),v],38),(B2,[.int .i64 0,.int .i64 0,.slice none 0 0,.int .i64 0,.int .i64 0,.slice none 0 0],38),(B1,[.slice va vl vc,.slice pa pl pc,.slice ea el ec,.slice xa xl xc,.int .i64 mn,.slice oa ol oc,.slice sa sl sc,.slice ta tl tc,.slice na nl nc,.slice ka kl kc],29)] [⟨v,sl+i,rs.flatMap pV,74,10⟩] Kk W) (xl - 0) ([(1,_),(2,_),(4,_),(7,_),(11,_)]) ⟨rfl,rfl,rfl,rfl,rfl,trivial⟩ (⟨0,rs,_,Kk,Nat.zero_le _,rfl,rfl,by omega,by rw [hqm];simp,HQ,hS.castG (by rw [show i=sl+0 by omega])⟩) ?_
   clear hS
   rintro q l W ⟨i,rs,v,Kk,hi,rfl,rfl,hql,hqm,HQ,hS⟩
   refine aR (aR (aU (aL rfl rfl (aQ (o':=3) eT rfl rfl rfl (aV isAgg23 rfl (aI (hS.at_ 2 rfl) rfl) rfl (bU underlying23 rfl rfl (dA rfl rfl rfl (aT (XF.thenN (bJ rfl (fun hc=>?_) (fun hc=>?_)))))))))))
   ·have hc76:=of_decide_eq_true hc;clear hc
    have hk1:i < xl:=by omega
    obtain ⟨b,off,y,rfl,hy,hyc⟩:=hx.get (i:=i) (by omega)
    have k1:=(aM.agree hS.agree (Nat.zero_le _) hyc).1
    refine bQ (XF.thenN (aR (bR ?_)))
    refine mE (p:=13) (k:=15) (gi:=0) (m:=1) bG hS rfl rfl (by kernel_rfl) (by kernel_rfl) (by kernel_rfl) (fun d hd=>by cases hd) rfl rfl underlying36 gN rfl rfl (by show 0 < 10;decide) rfl rfl rfl (by simp only [maxLen];omega) (by show (sl+i+1) * 144≤_;omega) ?_
    refine cN 1 rfl rfl (by kernel_rfl) (rgV (li:=[(7,_)]) rfl (aP rfl) ⟨bB rfl,trivial⟩ (fun w hw=>aO (o':=5) cM rfl rfl) (aC rfl)) (cN 2 rfl rfl (by kernel_rfl) (rgV (li:=[(79,_)]) rfl (aP rfl) ⟨aG 0 (aA rfl rfl rfl),trivial⟩ (fun w hw=>aS isAgg36 rfl ((aJ hw 0).cell (Nat.zero_le _) (aI (hS.at_ 0 rfl) rfl))) (aC rfl)) (cN 3 rfl rfl (by kernel_rfl) (rgV (li:=[(2,_)]) rfl (aP rfl) ⟨bB rfl,trivial⟩ (fun w hw=>aO (o':=3) eT rfl rfl) (aC rfl)) (cN 4 rfl rfl (by kernel_rfl) (rgV (li:=[(81,_)]) rfl (aP rfl) ⟨aG 2 (aA rfl rfl rfl),trivial⟩ (fun w hw=>aS isAgg23 rfl ((aJ hw 0).cell (Nat.zero_le _) (aI (hS.at_ 2 rfl) rfl))) (aC rfl)) (cN 5 rfl rfl (by kernel_rfl) (rgV (li:=[(11,_)]) rfl (aP rfl) ⟨bB rfl,trivial⟩ (fun w hw=>aW rfl) (aC rfl)) (cN 6 rfl rfl (by kernel_rfl) (rgV (li:=[(82,_),(83,_)]) rfl (aP rfl) ⟨aG 3 (aA rfl rfl rfl),aG 4 (aA rfl rfl rfl),trivial⟩ (fun w hw=>bH  underlying23 sizeOf3 rfl rfl rfl (by omega) rfl) (aC rfl)) (cN 7 rfl rfl (by kernel_rfl) (rgV (li:=[(84,_)]) rfl (aP rfl) ⟨aG 5 (aA rfl rfl rfl),trivial⟩ (fun w hw=>aS isAgg3 rfl ((aJ hw 0).cell (Nat.zero_le _) (k1))) (aC rfl)) (cN 8 rfl rfl (by kernel_rfl) (rgV (li:=[(2,_)]) rfl (aP rfl) ⟨bB rfl,trivial⟩ (fun w hw=>cJ (vs:=[_,_,_,_,_,_,_,_,_,_]) isAgg29 sizeOf29 rfl (aM.agree (aJ hw 0) (Nat.zero_le _) (aM.own (j:=0) (m:=10) (hS.at_ 2 rfl) rfl))) (aC rfl)) (cN 9 rfl rfl (by kernel_rfl) (rgV (li:=[(1,_)]) rfl (aP rfl) ⟨bB rfl,trivial⟩ (fun w hw=>aW rfl) (aC rfl)) (cN 10 rfl rfl (by kernel_rfl) (rgV (li:=[]) rfl (aP rfl) trivial (fun w hw=>eN (us:=[(2,.int .i64 _)]) rfl (hY _)) (aC rfl)) ?_)))))))))
    refine iF 11 rfl rfl (by kernel_rfl) (gD W.heap.size (spM m vl) (wtM m vl 1 0 0 0)) (iY) (cH [isV _,isV _,isV _] rfl oJ (aP rfl) ⟨bO (aG 7 (aA rfl rfl rfl)),bO (aG 8 (aA rfl rfl rfl)),bO (aG 9 (aA rfl rfl rfl)),trivial⟩ (fun vs w' hb hh=>by have e:=bN (us:=[_,_,_]) hh;subst e;exact iZ hb.size (pU ⟨_,vl,vc,_,pl,pc,_,el,ec,es,_,xl,xc,xs,mn,_,ol,oc,os,_,sl,sc,ss,_,tl,tc,ts,_,nl,nc,ns,_,kl,kc,ks⟩ m vl ⟨0,0,1,0,0,0,0⟩ _ hso9.v tW rfl)) (aC rfl)) ?_
    refine iF 12 rfl rfl (by kernel_rfl) (pH W.heap.size y none 0 0 (spM m vl) (wtM m vl 1 0 0 0)) (pI) (rgPs [(6,85,isV _),(10,89,gD W.heap.size (spM m vl) (wtM m vl 1 0 0 0))] rfl ⟨⟨by kernel_rfl,aA rfl rfl rfl⟩,⟨by kernel_rfl,aA rfl rfl rfl⟩,trivial⟩ wZ (aC rfl)) ?_
    refine iF 13 rfl rfl (by kernel_rfl) (kG W.heap.size y none 0 0 (spM m vl) (wtM m vl 1 0 0 0)) (kQ) (nK rfl (aG 11 (aA rfl rfl rfl)) (aC rfl)) (iG 14 rfl rfl (gF 15 rfl rfl (rgV (li:=[(7,_)]) rfl (aP rfl) ⟨bB rfl,trivial⟩ (fun w hw=>aO (o':=5) cM rfl rfl) (aC rfl)) (lgV (li:=[(7,_)]) rfl (aP rfl) ⟨bB rfl,trivial⟩ (fun w=>aO (o':=5) cM rfl rfl) (aC rfl) rfl) (iE ⟨_,_,aG 1 (aA rfl rfl rfl),aG 12 (aA rfl rfl rfl),nJ,?_⟩)))
    intro A19 v19 news19 W19 hbR hqA19 hS'
    clear hS;have hS:=hS';clear hS'
    have hqN:=hqA19
    refine aE (aE (aE (aE (aE (aE (aE (aE (aE (aE ?_)))))))))
    refine dO ?_;intro _ _
    refine dO ?_;intro _ _
    refine dO ?_;intro _ _
    refine aE (aE ?_)
    obtain ⟨f9,rfl,hxn9⟩:=hqN
    have HX9:eS w [(W.heap.size,A19)] (fun W2=>XIs W2 (spM m vl) f9 (wtM m vl 1 0 0 0)):=eS.one (fun W2 hg=>(hxn9.agree hg).is)
    obtain ⟨a2,c2,e2,hac2⟩:=dZ (hS.row 0 rfl)
    dsimp only at e2
    subst e2
    refine bV (eV (i:=0) (cs':=[_,_,_,_,_,_]) (O':=[_,_,_]) hS sizeOf36 rfl rfl (by first | rfl | exact (hS.oneV 0 _ rfl :) | exact (hS.oneV 1 _ rfl :) | exact (hS.oneV 2 _ rfl :) | exact (hS.oneV 3 _ rfl :)) rfl rfl rfl rfl fun W20 hS=>aT (XF.blkN (XF.thenN (aU (aL rfl rfl (dH rfl rfl (IntWalk.i64_in _ (by omega)) rfl (aK rfl rfl (aT ?_))))))))
    have hS9:=hS
    refine XF.round (xl - (i+1)) [(1,_),(2,_),(4,_),(7,_),(11,_)] (by omega) ⟨rfl,rfl,rfl,rfl,rfl,trivial⟩ ⟨i+1,rs++[⟨0,false,0,y,0,none,0,[],f9,_⟩],_,_,by omega,rfl,rfl,by simp [hql];try omega,by rw [List.map_append,hqm,List.take_add_one,List.map_append,hy,List.append_assoc];rfl,?_,hS9.castG (by simp [kX,Nat.add_assoc])⟩
    exact fun h2 hk=>by
     have hq:=HQ h2 (fun r hr=>hk r (by simp [hr]))
     refine ⟨hq.1,fun q hq2=>?_⟩
     rcases List.mem_append.1 hq2 with hq2 | hq2
     ·exact hq.2 q hq2
     ·rw [List.mem_singleton] at hq2;subst hq2
      exact rok0 (HX9 h2 (fun r hr=>hk r (by simp at hr;subst hr;simp)))
   ·have hc76:=of_decide_eq_false hc;clear hc
    rw [List.take_of_length_le (by omega)] at hqm
    obtain ⟨a9,c9,rfl,hac⟩:=dZ (v:=v) (n:=sl+i) (hS.row 0 rfl)
    refine cZ (XF.thenX (XF.thenX (XF.blkX (XF.thenN (aR (aU (bF (vs:=[_,_,_,_,_,_]) isAgg38 sizeOf38 rfl (aM.own (j:=0) (m:=6) (hS.at_ 0 rfl) rfl) rfl (bA (i:=1) (vs:=[_,_,_,_,_,_]) (cs':=[_,_,_,_,_,_]) (O':=[_,_,_]) hS sizeOf38 rfl rfl rfl rfl rfl rfl rfl fun W21 hS=>aK rfl rfl (aT (XF.thenN (bP (XF.res (fE (vs:=[_,_,_,_,_,_]) results7 isAgg38 sizeOf38 rfl (aM.own (j:=0) (m:=6) (hS.at_ 1 rfl) rfl) rfl) ?_))))))))))))
    exact D3 hce hso9.v hS (hS.row 0 rfl) hql (by omega) hqm (HQ.more (fun q hq=>by simp [hq]))
structure GOk (g:GV):Prop where
 ol:g.ol≤4096
 step:∀ s∈g.ss,gr_inQ s.f g.ol=true∧gr_inQ s.t g.ol=true
 call:∀ s∈g.ss,s.k=8→∃ (n k:Nat) (u:UV) (e:Int),s.s=(n:Int)∧g.ts[n]?=some u∧u.bk=s.t∧u.pr=(k:Int)∧k < g.el∧g.es[k]?=some e∧gr_inQ e g.ol=true
 es:∀ e∈g.es,gr_inQ e g.ol=true
 xs:∀ e∈g.xs,gr_inQ e g.ol=true
theorem qA {g:GV}:∀ {ss:List gr_TV} {n m:Nat},fF g ss n=some m→∀ s∈ss,∃ k,kY g s k=true
 | [],_,_,_,s,hs=>by cases hs
 | x::ss,n,m,h,s,hs=>by
  simp only [fF] at h
  by_cases hx:kY g x n=true
  ·rw [if_pos hx] at h
   rcases List.mem_cons.1 hs with rfl | hs
   ·exact ⟨n,hx⟩
   ·exact qA h s hs
  ·rw [if_neg hx] at h;cases h
theorem cY {c:Bool} {p:Prop} [Decidable p] (h:(if p then false else c)=true):¬ p∧c=true:=by
 by_cases hp:p
 ·rw [if_pos hp] at h;cases h
 ·rw [if_neg hp] at h;exact ⟨hp,h⟩
theorem Bb {os l:List Int} {ol p:Nat} (h:fA os ol l p=true):∃ n,l[p]?=some n∧gr_inQ n ol=true:=by
 unfold fA at h
 cases hl:l[p]? with
 | none=>rw [hl] at h;cases h
 | some n =>
  rw [hl] at h
  dsimp only at h
  rw [Bool.and_eq_true] at h
  exact ⟨n,rfl,h.1⟩
theorem gOk {g:GV} (hel:g.es.length=g.el) (hxl:g.xs.length=g.xl) (htl:g.ts.length=g.tl) (h:gr_checkE g=0):GOk g:=by
 unfold gr_checkE at h
 by_cases h1:eG g=false
 ·rw [if_pos h1] at h;cases h
 rw [if_neg h1] at h
 by_cases h2:stepsB g=false
 ·rw [if_pos h2] at h;cases h
 rw [if_neg h2] at h
 by_cases h3:fS g=false
 ·rw [if_pos h3] at h;cases h
 have h1:eG g=true:=by simpa using h1
 have h2:stepsB g=true:=by simpa using h2
 have h3:fS g=true:=by simpa using h3
 unfold eG at h1
 obtain ⟨_,h1⟩:=cY h1
 obtain ⟨_,h1⟩:=cY h1
 obtain ⟨_,h1⟩:=cY h1
 obtain ⟨he,h1⟩:=cY h1
 obtain ⟨hx,h1⟩:=cY h1
 obtain ⟨ho,h1⟩:=cY h1
 obtain ⟨_,h1⟩:=cY h1
 obtain ⟨_,h1⟩:=cY h1
 obtain ⟨_,h1⟩:=cY h1
 unfold fS at h3
 obtain ⟨hpr,_⟩:=cY h3
 have hpr:g.ts.all (fun u=>gr_inQ u.pr g.pl)=true:=by simpa using hpr
 have hel2:g.el=g.pl:=Decidable.of_not_not he
 have hxl2:g.xl=g.pl:=Decidable.of_not_not hx
 have hnode:∀ p,p < g.pl→fA g.os g.ol g.es p=true∧fA g.os g.ol g.xs p=true:=fun p hp=>by
  have:=List.all_eq_true.1 h1 p (List.mem_range.2 hp)
  unfold tG at this
  rwa [Bool.and_eq_true] at this
 have hes:∀ e∈g.es,gr_inQ e g.ol=true:=fun e he=>by
  obtain ⟨p,hp⟩:=List.getElem?_of_mem he
  have hlt:=(List.getElem?_eq_some_iff.1 hp).1
  obtain ⟨n,h4,h5⟩:=Bb (hnode p (by omega)).1
  rw [hp] at h4;cases h4;exact h5
 have hxs:∀ e∈g.xs,gr_inQ e g.ol=true:=fun e he=>by
  obtain ⟨p,hp⟩:=List.getElem?_of_mem he
  have hlt:=(List.getElem?_eq_some_iff.1 hp).1
  obtain ⟨n,h4,h5⟩:=Bb (hnode p (by omega)).2
  rw [hp] at h4;cases h4;exact h5
 unfold stepsB at h2
 have hst:=qA (of_decide_eq_true h2)
 have hk:∀ s∈g.ss,∃ k,gr_inQ s.f g.ol=true∧gr_inQ s.t g.ol=true∧iQ g s k=true:=fun s hs=>by
  obtain ⟨k,hk⟩:=hst s hs
  unfold kY at hk
  obtain ⟨a1,hk⟩:=cY hk
  obtain ⟨a2,hk⟩:=cY hk
  obtain ⟨_,hk⟩:=cY hk
  exact ⟨k,by simpa using a1,by simpa using a2,hk⟩
 refine ⟨by omega,fun s hs=>?_,fun s hs h8=>?_,hes,hxs⟩
 ·obtain ⟨k,a1,a2,_⟩:=hk s hs
  exact ⟨a1,a2⟩
 ·obtain ⟨k,a1,a2,a3⟩:=hk s hs
  unfold iQ at a3
  rw [if_neg (by omega),if_pos h8] at a3
  simp only [Bool.and_eq_true] at a3
  have a4:=a3.2.2.2
  unfold lS at a4
  rw [Bool.and_eq_true,decide_eq_true_eq] at a4
  cases hu:g.ts[k]? with
  | none=>rw [hu] at a4;exact absurd a4.2 (by simp)
  | some u =>
   rw [hu] at a4
   have a5:=a4.2
   dsimp only at a5
   rw [Bool.and_eq_true,decide_eq_true_eq,decide_eq_true_eq] at a5
   obtain ⟨j,hj,hjl⟩:=hC (List.all_eq_true.1 hpr u (List.mem_of_getElem? hu))
   have hje:j < g.es.length:=by omega
   exact ⟨k,j,u,g.es[j],a4.1,hu,a5.2,hj,by omega,by simp [hje],hes _ (List.getElem_mem hje)⟩
theorem GOk.calls {g:GV} (h:GOk g) (htl:g.ts.length=g.tl):kP g:=fun s hs h8=>by
 obtain ⟨n,k,u,e,h1,h2,h3,h4,h5,_⟩:=h.call s hs h8
 exact ⟨n,k,u,h1,by rw [← htl];exact (List.getElem?_eq_some_iff.1 h2).1,h2,h4,h5⟩
theorem zD {g:GV} (h:gr_checkE g=0):StepsOk g:=by
 unfold gr_checkE at h
 by_cases h1:eG g=false
 ·rw [if_pos h1] at h;cases h
 rw [if_neg h1] at h
 by_cases h2:stepsB g=false
 ·rw [if_pos h2] at h;cases h
 have h1:eG g=true:=by simpa using h1
 have h2:stepsB g=true:=by simpa using h2
 unfold eG at h1
 obtain ⟨hv,_⟩:=cY h1
 unfold stepsB at h2
 have hst:=qA (of_decide_eq_true h2)
 refine ⟨by omega,fun s hs=>?_⟩
 obtain ⟨k,hk⟩:=hst s hs
 unfold kY at hk
 obtain ⟨_,hk⟩:=cY hk
 obtain ⟨_,hk⟩:=cY hk
 obtain ⟨_,hk⟩:=cY hk
 unfold iQ at hk
 have key:∀ {y:Int} {n:Nat},gr_inQ y n=true→0≤y∧y < (n:Int):=fun {y n} h=>by
  obtain ⟨j,e,hj⟩:=hC h
  omega
 refine ⟨fun hkk=>?_,fun hkk=>?_⟩
 ·rw [if_neg (by omega),if_neg (by omega)] at hk
  by_cases e2:s.k=2
  ·rw [if_pos e2,Bool.and_eq_true] at hk;exact key hk.1
  ·rw [if_neg e2] at hk
   by_cases e3:s.k=3
   ·rw [if_pos e3,Bool.and_eq_true] at hk;exact key hk.1
   ·rw [if_neg e3,if_pos (by omega),Bool.and_eq_true] at hk;exact key hk.1
 ·rw [if_neg (by omega),if_neg (by omega),if_neg (by omega),if_pos hkk,Bool.and_eq_true,Bool.and_eq_true] at hk
  exact key hk.2.1
theorem main_of {g:GV} (hel:g.es.length=g.el) (h:gr_checkE g=0):∃ (k:Nat) (y:Int),g.mn=(k:Int)∧g.es[k]?=some y:=by
 unfold gr_checkE at h
 by_cases h1:eG g=false
 ·rw [if_pos h1] at h;cases h
 have h1:eG g=true:=by simpa using h1
 unfold eG at h1
 obtain ⟨_,h1⟩:=cY h1
 obtain ⟨_,h1⟩:=cY h1
 obtain ⟨_,h1⟩:=cY h1
 obtain ⟨he,h1⟩:=cY h1
 obtain ⟨_,h1⟩:=cY h1
 obtain ⟨_,h1⟩:=cY h1
 obtain ⟨_,h1⟩:=cY h1
 obtain ⟨hm,_⟩:=cY h1
 obtain ⟨k,e,hk⟩:=hC (show gr_inQ g.mn g.pl=true by simpa using hm)
 have hkl:k < g.es.length:=by omega
 exact ⟨k,g.es[k],e,List.getElem?_eq_getElem hkl⟩
theorem pdsM_is (g:GV) (m:Int) (hso:gr_checkE g=0→StepsOk g) (hco0:gr_checkE g=0→kP g) (w:World) (hg:GIn w g) (hf:GFew g):Calls prog 6 #[g.val,.int .i64 m] w (PdR g m w) :=
 pdsM_c g.va g.vl g.vc g.pa g.pl g.pc g.ea g.el g.ec g.es g.xa g.xl g.xc g.xs g.mn g.oa g.ol g.oc g.os g.sa g.sl g.sc g.ss g.ta g.tl g.tc g.ts g.na g.nl g.nc g.ns g.ka g.kl g.kc g.ks w hg.e hg.el hg.x hg.xl hg.o hg.ol hg.s hg.sl hg.t hg.tl hg.n hg.nl hg.k hg.kl hf.v hf.p hf.e hf.x hf.o hf.s hf.t hf.n hf.k m hso hco0
theorem D6 (g:GV) (m:Int) (hso:gr_checkE g=0→StepsOk g) (hco0:gr_checkE g=0→kP g) (w:World) (hg:GIn w g) (hf:GFew g):Calls prog 7 #[g.val,.int .i64 m] w (PdR g m w) :=
 pdsMR_c g.va g.vl g.vc g.pa g.pl g.pc g.ea g.el g.ec g.es g.xa g.xl g.xc g.xs g.mn g.oa g.ol g.oc g.os g.sa g.sl g.sc g.ss g.ta g.tl g.tc g.ts g.na g.nl g.nc g.ns g.ka g.kl g.kc g.ks w hg.e hg.el hg.x hg.xl hg.o hg.ol hg.s hg.sl hg.t hg.tl hg.n hg.nl hg.k hg.kl hf.v hf.p hf.e hf.x hf.o hf.s hf.t hf.n hf.k m hso hco0
theorem Cn (g:GV) (m:Int) (hso:gr_checkE g=0→StepsOk g) (hmn:gr_checkE g=0→∃ (k:Nat) (y:Int),g.mn=(k:Int)∧g.es[k]?=some y) (w:World) (hg:GIn w g) (hf:GFew g):Calls prog 8 #[g.val,.int .i64 m] w (StR g m w) :=
 D4 g.va g.vl g.vc g.pa g.pl g.pc g.ea g.el g.ec g.es g.xa g.xl g.xc g.xs g.mn g.oa g.ol g.oc g.os g.sa g.sl g.sc g.ss g.ta g.tl g.tc g.ts g.na g.nl g.nc g.ns g.ka g.kl g.kc g.ks w hg.e hg.el hg.x hg.xl hg.o hg.ol hg.s hg.sl hg.t hg.tl hg.n hg.nl hg.k hg.kl hf.v hf.p hf.e hf.x hf.o hf.s hf.t hf.n hf.k m hso hmn
theorem zE (g:GV) (m:Int) (hso:gr_checkE g=0→StepsOk g) (hmn:gr_checkE g=0→∃ (k:Nat) (y:Int),g.mn=(k:Int)∧g.es[k]?=some y) (w:World) (hg:GIn w g) (hf:GFew g):Calls prog 9 #[g.val,.int .i64 m] w (StR g m w) :=
 Cm g.va g.vl g.vc g.pa g.pl g.pc g.ea g.el g.ec g.es g.xa g.xl g.xc g.xs g.mn g.oa g.ol g.oc g.os g.sa g.sl g.sc g.ss g.ta g.tl g.tc g.ts g.na g.nl g.nc g.ns g.ka g.kl g.kc g.ks w hg.e hg.el hg.x hg.xl hg.o hg.ol hg.s hg.sl hg.t hg.tl hg.n hg.nl hg.k hg.kl hf.v hf.p hf.e hf.x hf.o hf.s hf.t hf.n hf.k m hso hmn
theorem wtA_is (g:GV) (m t:Int) (hok:gr_checkE g=0→StepsOk g) (w:World) (hg:GIn w g) (hf:GFew g):Calls prog 10 #[g.val,.int .i64 m,.int .i64 t] w (wO (wgS g m t) (wgX g m t) (wgE g m t) w) :=
 wtA_c g.va g.vl g.vc g.pa g.pl g.pc g.ea g.el g.ec g.es g.xa g.xl g.xc g.xs g.mn g.oa g.ol g.oc g.os g.sa g.sl g.sc g.ss g.ta g.tl g.tc g.ts g.na g.nl g.nc g.ns g.ka g.kl g.kc g.ks w hg.e hg.el hg.x hg.xl hg.o hg.ol hg.s hg.sl hg.t hg.tl hg.n hg.nl hg.k hg.kl hf.v hf.p hf.e hf.x hf.o hf.s hf.t hf.n hf.k m t hok
theorem wtR_is (g:GV) (m t:Int) (hok:gr_checkE g=0→StepsOk g) (w:World) (hg:GIn w g) (hf:GFew g):Calls prog 11 #[g.val,.int .i64 m,.int .i64 t] w (wO (wgS g m t) (wgX g m t) (wgE g m t) w) :=
 wtR_c g.va g.vl g.vc g.pa g.pl g.pc g.ea g.el g.ec g.es g.xa g.xl g.xc g.xs g.mn g.oa g.ol g.oc g.os g.sa g.sl g.sc g.ss g.ta g.tl g.tc g.ts g.na g.nl g.nc g.ns g.ka g.kl g.kc g.ks w hg.e hg.el hg.x hg.xl hg.o hg.ol hg.s hg.sl hg.t hg.tl hg.n hg.nl hg.k hg.kl hf.v hf.p hf.e hf.x hf.o hf.s hf.t hf.n hf.k m t hok
theorem zF:cL prog 10=true:=by kernel_rfl
theorem zG:cL prog 11=true:=by kernel_rfl
theorem zH:cL prog 12=true:=by kernel_rfl
theorem zI:cL prog 13=true:=by kernel_rfl
theorem zJ:cL prog 14=true:=by kernel_rfl
theorem Co:cL prog 7=true:=by kernel_rfl
theorem Cp:cL prog 8=true:=by kernel_rfl
theorem Cq:cL prog 9=true:=by kernel_rfl
theorem pdO_len {o:Option PS} {pl:List PR} {W W2:World} {s1 s2:SF} {n1 n2:Nat} {a1 a2:Option Addr} {ns ms:List R9} (h1:PdO o pl W s1 n1 a1 ns) (h2:PdO o pl W2 s2 n2 a2 ms):n1=n2:=by
 have e:=congrArg List.length (h1.pl.trans h2.pl.symm)
 rw [List.length_map,List.length_map,h1.len,h2.len] at e
 exact e
theorem Bc (g:GV) (m:Int):(psF g m).length≤8388608:=by unfold psF;split<;>simp
theorem tD (va:Option Addr) (vl:Nat) (vc:Nat) (pa:Option Addr) (pl:Nat) (pc:Nat) (ea:Option Addr) (el:Nat) (ec:Nat) (es:List Int) (xa:Option Addr) (xl:Nat) (xc:Nat) (xs:List Int) (mn:Int) (oa:Option Addr) (ol:Nat) (oc:Nat) (os:List Int) (sa:Option Addr) (sl:Nat) (sc:Nat) (ss:List gr_TV) (ta:Option Addr) (tl:Nat) (tc:Nat) (ts:List UV) (na:Option Addr) (nl:Nat) (nc:Nat) (ns:List NV) (ka:Option Addr) (kl:Nat) (kc:Nat) (ks:List KV) (m t:Int) (w:World) (he:dS w ea es) (hel:es.length=el) (hx:dS w xa xs) (hxl:xs.length=xl) (ho:dS w oa os) (hol:os.length=ol) (hs:dB gr_TV.sev 7 w sa ss) (hsl:ss.length=sl) (ht:dB UV.four 4 w ta ts) (htl:ts.length=tl) (hn:dB NV.two 2 w na ns) (hnl:ns.length=nl) (hk:dB KV.two 2 w ka ks) (hkl:ks.length=kl) :
  Calls prog 3 #[.agg #[.slice va vl vc,.slice pa pl pc,.slice ea el ec,.slice xa xl xc,.int .i64 mn,.slice oa ol oc,.slice sa sl sc,.slice ta tl tc,.slice na nl nc,.slice ka kl kc],.int .i64 m,.int .i64 t] w (fun e w'=>e = .returned (.bool (true))∧Below w.heap.size w w'):=by
 refine cS (args:=[.agg #[.slice va vl vc,.slice pa pl pc,.slice ea el ec,.slice xa xl xc,.int .i64 mn,.slice oa ol oc,.slice sa sl sc,.slice ta tl tc,.slice na nl nc,.slice ka kl kc],.int .i64 m,.int .i64 t]) func3 rfl ntmps3 rfl ?_
 have hS:=St.start w
 have hgi:GIn w ⟨va,vl,vc,pa,pl,pc,ea,el,ec,es,xa,xl,xc,xs,mn,oa,ol,oc,os,sa,sl,sc,ss,ta,tl,tc,ts,na,nl,nc,ns,ka,kl,kc,ks⟩:=⟨he,hel,hx,hxl,ho,hol,hs,hsl,ht,htl,hn,hnl,hk,hkl⟩
 refine aR (aU (cR (cs:=[_,_,_,_,_,_,_,_,_,_]) hS rfl rfl rfl fun B1 W1 hS=>aK rfl rfl (aT (XF.thenN (aR (aR (aU (bF (vs:=[_,_,_,_,_,_,_,_,_,_]) isAgg29 sizeOf29 rfl (aM.own (j:=0) (m:=10) (hS.at_ 0 rfl) rfl) rfl (cD (vs:=[_]) hS Bl rfl (vW ⟨_,vl,vc,_,pl,pc,_,el,ec,es,_,xl,xc,xs,mn,_,ol,oc,os,_,sl,sc,ss,_,tl,tc,ts,_,nl,nc,ns,_,kl,kc,ks⟩ _) rfl fun W2 hS=>eX rfl rfl (aT (XF.thenN (bJ rfl (fun hc=>?_) (fun hc=>?_)))))))))))))
 ·have hc21:=hc;clear hc
  refine aR (aU (cD (vs:=[]) hS tK rfl (vX _) rfl fun W3 hS=>aK rfl rfl (aT (XF.thenN (bP (XF.thenR (XF.res (cG results3 rfl) ?_)))))))
  exact ⟨rfl,hS.below⟩
 ·have hc21:=hc;clear hc
  have hsm:iX ⟨va,vl,vc,pa,pl,pc,ea,el,ec,es,xa,xl,xc,xs,mn,oa,ol,oc,os,sa,sl,sc,ss,ta,tl,tc,ts,na,nl,nc,ns,ka,kl,kc,ks⟩=true:=by simpa using hc21
  have hfw:=Bj hsm
  have hso:=fun h=>zD (g:=⟨va,vl,vc,pa,pl,pc,ea,el,ec,es,xa,xl,xc,xs,mn,oa,ol,oc,os,sa,sl,sc,ss,ta,tl,tc,ts,na,nl,nc,ns,ka,kl,kc,ks⟩) h
  have hco:=fun h=>(gOk (g:=⟨va,vl,vc,pa,pl,pc,ea,el,ec,es,xa,xl,xc,xs,mn,oa,ol,oc,os,sa,sl,sc,ss,ta,tl,tc,ts,na,nl,nc,ns,ka,kl,kc,ks⟩) hel hxl htl h).calls htl
  have hmn:=fun h=>main_of (g:=⟨va,vl,vc,pa,pl,pc,ea,el,ec,es,xa,xl,xc,xs,mn,oa,ol,oc,os,sa,sl,sc,ss,ta,tl,tc,ts,na,nl,nc,ns,ka,kl,kc,ks⟩) hel h
  refine bQ (XF.thenN (aR ?_))
  have hRoot:=hS.below
  have hAll:=hRoot
  have hgi:=hgi.below hRoot
  have kg:aM W2 B1 0 [.slice va vl vc,.slice pa pl pc,.slice ea el ec,.slice xa xl xc,.int .i64 mn,.slice oa ol oc,.slice sa sl sc,.slice ta tl tc,.slice na nl nc,.slice ka kl kc]:=aM.own (j:=0) (m:=10) (hS.at_ 0 rfl) rfl
  clear hS;have hS:=St.start W2
  refine aU (bF (vs:=[_,_,_,_,_,_,_,_,_,_]) isAgg29 sizeOf29 rfl ((aM.agree hS.agree (Nat.zero_le _) kg)) rfl (aL rfl rfl (cV (vs:=[_,_]) hS tJ rfl (pdsM_is ⟨_,vl,vc,_,pl,pc,_,el,ec,es,_,xl,xc,xs,mn,_,ol,oc,os,_,sl,sc,ss,_,tl,tc,ts,_,nl,nc,ns,_,kl,kc,ks⟩ m hso hco _ (hgi.below hS.below) hfw) rfl ?_)))
  rintro e W4 ⟨hb,s1,n1,a1,c1,rs1,rfl,PH1⟩
  refine ⟨_,rfl,hb,fun hS'=>?_⟩
  clear hS;have hS:=hS';clear hS'
  refine aL rfl rfl (bM rfl rfl rfl (bM rfl rfl rfl (bY (cs:=[_,_,_,_,_,_]) hS zeroValue38 rfl rfl fun B5 W5 hS=>bA (i:=0) (vs:=[_,_,_,_,_,_]) (cs':=[_,_,_,_,_,_]) (O':=[_]) hS sizeOf38 rfl rfl rfl rfl rfl rfl rfl fun W6 hS=>aK rfl rfl (aT (XF.thenN (aR ?_))))))
  have hRoot:=hS.below
  have hAll:=hAll.trans (hRoot.mono hAll.size)
  have hgi:=hgi.below hRoot
  have kg:=aM.agree hS.agree (Nat.zero_le _) kg
  have k7:aM W6 B5 0 [.int .i64 s1.tag,.int .i64 s1.dim,.slice s1.a s1.len s1.cap,.int .i64 (psN ⟨va,vl,vc,pa,pl,pc,ea,el,ec,es,xa,xl,xc,xs,mn,oa,ol,oc,os,sa,sl,sc,ss,ta,tl,tc,ts,na,nl,nc,ns,ka,kl,kc,ks⟩ m 1),.int .i64 (psN ⟨va,vl,vc,pa,pl,pc,ea,el,ec,es,xa,xl,xc,xs,mn,oa,ol,oc,os,sa,sl,sc,ss,ta,tl,tc,ts,na,nl,nc,ns,ka,kl,kc,ks⟩ m ol),.slice a1 n1 c1]:=aM.own (j:=0) (m:=6) (hS.at_ 0 rfl) rfl
  have H1:=fun (W2:World) (hW:Below W6.heap.size W6 W2)=>PH1 W2 (hRoot.trans (hW.mono hRoot.size)) ((hS.since 0 rfl).trans (aJ hW _))
  clear hS;have hS:=St.start W6
  refine aU (bF (vs:=[_,_,_,_,_,_,_,_,_,_]) isAgg29 sizeOf29 rfl ((aM.agree hS.agree (Nat.zero_le _) kg)) rfl (aL rfl rfl (cV (vs:=[_,_]) hS Co rfl (D6 ⟨_,vl,vc,_,pl,pc,_,el,ec,es,_,xl,xc,xs,mn,_,ol,oc,os,_,sl,sc,ss,_,tl,tc,ts,_,nl,nc,ns,_,kl,kc,ks⟩ m hso hco _ (hgi.below hS.below) hfw) rfl ?_)))
  rintro e W7 ⟨hb,s2,n2,a2,c2,rs2,rfl,PH2⟩
  refine ⟨_,rfl,hb,fun hS'=>?_⟩
  clear hS;have hS:=hS';clear hS'
  refine aL rfl rfl (bM rfl rfl rfl (bM rfl rfl rfl (bY (cs:=[_,_,_,_,_,_]) hS zeroValue38 rfl rfl fun B8 W8 hS=>bA (i:=0) (vs:=[_,_,_,_,_,_]) (cs':=[_,_,_,_,_,_]) (O':=[_]) hS sizeOf38 rfl rfl rfl rfl rfl rfl rfl fun W9 hS=>aK rfl rfl (aT (XF.thenN (aR ?_))))))
  have hRoot:=hS.below
  have hAll:=hAll.trans (hRoot.mono hAll.size)
  have hgi:=hgi.below hRoot
  have kg:=aM.agree hS.agree (Nat.zero_le _) kg
  have k7:=aM.agree hS.agree (Nat.zero_le _) k7
  have H1:=fun (W2:World) (hW:Below W9.heap.size W9 W2)=>H1 W2 (hRoot.trans (hW.mono hRoot.size))
  have k9:aM W9 B8 0 [.int .i64 s2.tag,.int .i64 s2.dim,.slice s2.a s2.len s2.cap,.int .i64 (psN ⟨va,vl,vc,pa,pl,pc,ea,el,ec,es,xa,xl,xc,xs,mn,oa,ol,oc,os,sa,sl,sc,ss,ta,tl,tc,ts,na,nl,nc,ns,ka,kl,kc,ks⟩ m 1),.int .i64 (psN ⟨va,vl,vc,pa,pl,pc,ea,el,ec,es,xa,xl,xc,xs,mn,oa,ol,oc,os,sa,sl,sc,ss,ta,tl,tc,ts,na,nl,nc,ns,ka,kl,kc,ks⟩ m ol),.slice a2 n2 c2]:=aM.own (j:=0) (m:=6) (hS.at_ 0 rfl) rfl
  have H2:=fun (W2:World) (hW:Below W9.heap.size W9 W2)=>PH2 W2 (hRoot.trans (hW.mono hRoot.size)) ((hS.since 0 rfl).trans (aJ hW _))
  clear hS;have hS:=St.start W9
  refine aU (bF (vs:=[_,_,_,_,_,_,_,_,_,_]) isAgg29 sizeOf29 rfl ((aM.agree hS.agree (Nat.zero_le _) kg)) rfl (aL rfl rfl (cV (vs:=[_,_]) hS Cp rfl (Cn ⟨_,vl,vc,_,pl,pc,_,el,ec,es,_,xl,xc,xs,mn,_,ol,oc,os,_,sl,sc,ss,_,tl,tc,ts,_,nl,nc,ns,_,kl,kc,ks⟩ m hso hmn _ (hgi.below hS.below) hfw) rfl ?_)))
  rintro e W10 ⟨hb,q3,fa3,fc3,ta3,tc3,us3,rfl,PH3⟩
  refine ⟨_,rfl,hb,fun hS'=>?_⟩
  clear hS;have hS:=hS';clear hS'
  refine aL rfl rfl (bM rfl rfl rfl (bM rfl rfl rfl (bY (cs:=[_,_,_,_,_,_,_]) hS zeroValue47 rfl rfl fun B11 W11 hS=>bA (i:=0) (vs:=[_,_,_,_,_,_,_]) (cs':=[_,_,_,_,_,_,_]) (O':=[_]) hS sizeOf47 rfl rfl rfl rfl rfl rfl rfl fun W12 hS=>aK rfl rfl (aT (XF.thenN (aR ?_))))))
  have hRoot:=hS.below
  have hAll:=hAll.trans (hRoot.mono hAll.size)
  have hgi:=hgi.below hRoot
  have kg:=aM.agree hS.agree (Nat.zero_le _) kg
  have k7:=aM.agree hS.agree (Nat.zero_le _) k7
  have H1:=fun (W2:World) (hW:Below W12.heap.size W12 W2)=>H1 W2 (hRoot.trans (hW.mono hRoot.size))
  have k9:=aM.agree hS.agree (Nat.zero_le _) k9
  have H2:=fun (W2:World) (hW:Below W12.heap.size W12 W2)=>H2 W2 (hRoot.trans (hW.mono hRoot.size))
  have k11:aM W12 B11 0 [.int .i64 q3.tag,.int .i64 q3.dim,.slice q3.a q3.len q3.cap,.int .i64 (psN ⟨va,vl,vc,pa,pl,pc,ea,el,ec,es,xa,xl,xc,xs,mn,oa,ol,oc,os,sa,sl,sc,ss,ta,tl,tc,ts,na,nl,nc,ns,ka,kl,kc,ks⟩ m 2),.int .i64 (psN ⟨va,vl,vc,pa,pl,pc,ea,el,ec,es,xa,xl,xc,xs,mn,oa,ol,oc,os,sa,sl,sc,ss,ta,tl,tc,ts,na,nl,nc,ns,ka,kl,kc,ks⟩ m ol),.slice fa3 (psF ⟨va,vl,vc,pa,pl,pc,ea,el,ec,es,xa,xl,xc,xs,mn,oa,ol,oc,os,sa,sl,sc,ss,ta,tl,tc,ts,na,nl,nc,ns,ka,kl,kc,ks⟩ m).length fc3,.slice ta3 (psF ⟨va,vl,vc,pa,pl,pc,ea,el,ec,es,xa,xl,xc,xs,mn,oa,ol,oc,os,sa,sl,sc,ss,ta,tl,tc,ts,na,nl,nc,ns,ka,kl,kc,ks⟩ m).length tc3]:=aM.own (j:=0) (m:=7) (hS.at_ 0 rfl) rfl
  have H3:=fun (W2:World) (hW:Below W12.heap.size W12 W2)=>PH3 W2 (hRoot.trans (hW.mono hRoot.size)) ((hS.since 0 rfl).trans (aJ hW _))
  clear hS;have hS:=St.start W12
  refine aU (bF (vs:=[_,_,_,_,_,_,_,_,_,_]) isAgg29 sizeOf29 rfl ((aM.agree hS.agree (Nat.zero_le _) kg)) rfl (aL rfl rfl (cV (vs:=[_,_]) hS Cq rfl (zE ⟨_,vl,vc,_,pl,pc,_,el,ec,es,_,xl,xc,xs,mn,_,ol,oc,os,_,sl,sc,ss,_,tl,tc,ts,_,nl,nc,ns,_,kl,kc,ks⟩ m hso hmn _ (hgi.below hS.below) hfw) rfl ?_)))
  rintro e W13 ⟨hb,q4,fa4,fc4,ta4,tc4,us4,rfl,PH4⟩
  refine ⟨_,rfl,hb,fun hS'=>?_⟩
  clear hS;have hS:=hS';clear hS'
  refine aL rfl rfl (bM rfl rfl rfl (bM rfl rfl rfl (bY (cs:=[_,_,_,_,_,_,_]) hS zeroValue47 rfl rfl fun B14 W14 hS=>bA (i:=0) (vs:=[_,_,_,_,_,_,_]) (cs':=[_,_,_,_,_,_,_]) (O':=[_]) hS sizeOf47 rfl rfl rfl rfl rfl rfl rfl fun W15 hS=>aK rfl rfl (aT (XF.thenN (aR ?_))))))
  have hRoot:=hS.below
  have hAll:=hAll.trans (hRoot.mono hAll.size)
  have hgi:=hgi.below hRoot
  have kg:=aM.agree hS.agree (Nat.zero_le _) kg
  have k7:=aM.agree hS.agree (Nat.zero_le _) k7
  have H1:=fun (W2:World) (hW:Below W15.heap.size W15 W2)=>H1 W2 (hRoot.trans (hW.mono hRoot.size))
  have k9:=aM.agree hS.agree (Nat.zero_le _) k9
  have H2:=fun (W2:World) (hW:Below W15.heap.size W15 W2)=>H2 W2 (hRoot.trans (hW.mono hRoot.size))
  have k11:=aM.agree hS.agree (Nat.zero_le _) k11
  have H3:=fun (W2:World) (hW:Below W15.heap.size W15 W2)=>H3 W2 (hRoot.trans (hW.mono hRoot.size))
  have k13:aM W15 B14 0 [.int .i64 q4.tag,.int .i64 q4.dim,.slice q4.a q4.len q4.cap,.int .i64 (psN ⟨va,vl,vc,pa,pl,pc,ea,el,ec,es,xa,xl,xc,xs,mn,oa,ol,oc,os,sa,sl,sc,ss,ta,tl,tc,ts,na,nl,nc,ns,ka,kl,kc,ks⟩ m 2),.int .i64 (psN ⟨va,vl,vc,pa,pl,pc,ea,el,ec,es,xa,xl,xc,xs,mn,oa,ol,oc,os,sa,sl,sc,ss,ta,tl,tc,ts,na,nl,nc,ns,ka,kl,kc,ks⟩ m ol),.slice fa4 (psF ⟨va,vl,vc,pa,pl,pc,ea,el,ec,es,xa,xl,xc,xs,mn,oa,ol,oc,os,sa,sl,sc,ss,ta,tl,tc,ts,na,nl,nc,ns,ka,kl,kc,ks⟩ m).length fc4,.slice ta4 (psF ⟨va,vl,vc,pa,pl,pc,ea,el,ec,es,xa,xl,xc,xs,mn,oa,ol,oc,os,sa,sl,sc,ss,ta,tl,tc,ts,na,nl,nc,ns,ka,kl,kc,ks⟩ m).length tc4]:=aM.own (j:=0) (m:=7) (hS.at_ 0 rfl) rfl
  have H4:=fun (W2:World) (hW:Below W15.heap.size W15 W2)=>PH4 W2 (hRoot.trans (hW.mono hRoot.size)) ((hS.since 0 rfl).trans (aJ hW _))
  clear hS;have hS:=St.start W15
  refine aU (bF (vs:=[_,_,_,_,_,_,_,_,_,_]) isAgg29 sizeOf29 rfl ((aM.agree hS.agree (Nat.zero_le _) kg)) rfl (aL rfl rfl (aL rfl rfl (cV (vs:=[_,_,_]) hS zF rfl (wtA_is ⟨_,vl,vc,_,pl,pc,_,el,ec,es,_,xl,xc,xs,mn,_,ol,oc,os,_,sl,sc,ss,_,tl,tc,ts,_,nl,nc,ns,_,kl,kc,ks⟩ m t hso _ (hgi.below hS.below) hfw) rfl ?_))))
  rintro e W16 ⟨u5,rfl,PH5,hb⟩
  refine ⟨_,rfl,hb,fun hS'=>?_⟩
  clear hS;have hS:=hS';clear hS'
  refine aL rfl rfl (bM rfl rfl rfl (bM rfl rfl rfl (bY (cs:=[_,_,_,_,_,_]) hS zeroValue59 rfl rfl fun B17 W17 hS=>bA (i:=0) (vs:=[_,_,_,_,_,_]) (cs':=[_,_,_,_,_,_]) (O':=[_]) hS sizeOf59 rfl rfl rfl rfl rfl rfl rfl fun W18 hS=>aK rfl rfl (aT (XF.thenN (aR ?_))))))
  have hRoot:=hS.below
  have hAll:=hAll.trans (hRoot.mono hAll.size)
  have hgi:=hgi.below hRoot
  have kg:=aM.agree hS.agree (Nat.zero_le _) kg
  have k7:=aM.agree hS.agree (Nat.zero_le _) k7
  have H1:=fun (W2:World) (hW:Below W18.heap.size W18 W2)=>H1 W2 (hRoot.trans (hW.mono hRoot.size))
  have k9:=aM.agree hS.agree (Nat.zero_le _) k9
  have H2:=fun (W2:World) (hW:Below W18.heap.size W18 W2)=>H2 W2 (hRoot.trans (hW.mono hRoot.size))
  have k11:=aM.agree hS.agree (Nat.zero_le _) k11
  have H3:=fun (W2:World) (hW:Below W18.heap.size W18 W2)=>H3 W2 (hRoot.trans (hW.mono hRoot.size))
  have k13:=aM.agree hS.agree (Nat.zero_le _) k13
  have H4:=fun (W2:World) (hW:Below W18.heap.size W18 W2)=>H4 W2 (hRoot.trans (hW.mono hRoot.size))
  have k15:aM W18 B17 0 [.bool u5.z,.int .i64 u5.c,.int .u64 (u5.g:Int),.slice u5.ra u5.rl u5.rc,.slice u5.ca u5.cl u5.cc,.slice u5.pa u5.pl u5.pc]:=aM.own (j:=0) (m:=6) (hS.at_ 0 rfl) rfl
  have H5:=fun (W2:World) (hW:Below W18.heap.size W18 W2)=>PH5.agree ((hS.since 0 rfl).trans (aJ hW _))
  clear hS;have hS:=St.start W18
  refine aU (bF (vs:=[_,_,_,_,_,_,_,_,_,_]) isAgg29 sizeOf29 rfl ((aM.agree hS.agree (Nat.zero_le _) kg)) rfl (aL rfl rfl (aL rfl rfl (cV (vs:=[_,_,_]) hS zG rfl (wtR_is ⟨_,vl,vc,_,pl,pc,_,el,ec,es,_,xl,xc,xs,mn,_,ol,oc,os,_,sl,sc,ss,_,tl,tc,ts,_,nl,nc,ns,_,kl,kc,ks⟩ m t hso _ (hgi.below hS.below) hfw) rfl ?_))))
  rintro e W19 ⟨u6,rfl,PH6,hb⟩
  refine ⟨_,rfl,hb,fun hS'=>?_⟩
  clear hS;have hS:=hS';clear hS'
  refine aL rfl rfl (bM rfl rfl rfl (bM rfl rfl rfl (bY (cs:=[_,_,_,_,_,_]) hS zeroValue59 rfl rfl fun B20 W20 hS=>bA (i:=0) (vs:=[_,_,_,_,_,_]) (cs':=[_,_,_,_,_,_]) (O':=[_]) hS sizeOf59 rfl rfl rfl rfl rfl rfl rfl fun W21 hS=>aK rfl rfl (aT (XF.thenN (aR ?_))))))
  have hRoot:=hS.below
  have hAll:=hAll.trans (hRoot.mono hAll.size)
  have hgi:=hgi.below hRoot
  have kg:=aM.agree hS.agree (Nat.zero_le _) kg
  have k7:=aM.agree hS.agree (Nat.zero_le _) k7
  have H1:=fun (W2:World) (hW:Below W21.heap.size W21 W2)=>H1 W2 (hRoot.trans (hW.mono hRoot.size))
  have k9:=aM.agree hS.agree (Nat.zero_le _) k9
  have H2:=fun (W2:World) (hW:Below W21.heap.size W21 W2)=>H2 W2 (hRoot.trans (hW.mono hRoot.size))
  have k11:=aM.agree hS.agree (Nat.zero_le _) k11
  have H3:=fun (W2:World) (hW:Below W21.heap.size W21 W2)=>H3 W2 (hRoot.trans (hW.mono hRoot.size))
  have k13:=aM.agree hS.agree (Nat.zero_le _) k13
  have H4:=fun (W2:World) (hW:Below W21.heap.size W21 W2)=>H4 W2 (hRoot.trans (hW.mono hRoot.size))
  have k15:=aM.agree hS.agree (Nat.zero_le _) k15
  have H5:=fun (W2:World) (hW:Below W21.heap.size W21 W2)=>H5 W2 (hRoot.trans (hW.mono hRoot.size))
  have k17:aM W21 B20 0 [.bool u6.z,.int .i64 u6.c,.int .u64 (u6.g:Int),.slice u6.ra u6.rl u6.rc,.slice u6.ca u6.cl u6.cc,.slice u6.pa u6.pl u6.pc]:=aM.own (j:=0) (m:=6) (hS.at_ 0 rfl) rfl
  have H6:=fun (W2:World) (hW:Below W21.heap.size W21 W2)=>PH6.agree ((hS.since 0 rfl).trans (aJ hW _))
  obtain rfl:n1=n2:=pdO_len (H1 _ (Below.refl _ _)) (H2 _ (Below.refl _ _))
  clear hS;have hS:=St.start W21
  refine aU (bF (vs:=[_,_,_,_,_,_]) isAgg38 sizeOf38 rfl (k7) rfl (bF (vs:=[_,_,_,_,_,_]) isAgg38 sizeOf38 rfl (k9) rfl (cD (vs:=[_,_]) hS zH rfl (Cj (psO ⟨va,vl,vc,pa,pl,pc,ea,el,ec,es,xa,xl,xc,xs,mn,oa,ol,oc,os,sa,sl,sc,ss,ta,tl,tc,ts,na,nl,nc,ns,ka,kl,kc,ks⟩ m) (psP ⟨va,vl,vc,pa,pl,pc,ea,el,ec,es,xa,xl,xc,xs,mn,oa,ol,oc,os,sa,sl,sc,ss,ta,tl,tc,ts,na,nl,nc,ns,ka,kl,kc,ks⟩ m) s1 s2 _ _ n1 a1 a2 c1 c2 rs1 rs2 _ (H1 _ hS.below) (H2 _ hS.below)) rfl fun W22 hS=>aL rfl rfl (aF (d:=64) rfl rfl (aL rfl rfl (aF (d:=64) rfl rfl (aL rfl rfl (aF (d:=64) rfl rfl (bW rfl rfl rfl (bC rfl rfl rfl (aL rfl rfl (bK (d:=69) rfl (fun hc=>?_) (fun hc=>absurd (of_decide_eq_false hc) (by exact fun h=>h rfl))))))))))))))
  have hc:=of_decide_eq_true hc
  refine aF (d:=69) rfl rfl (bF (vs:=[_,_,_,_,_,_,_]) isAgg47 sizeOf47 rfl ((aM.agree hS.agree (Nat.zero_le _) k11)) rfl (aF (d:=69) rfl rfl (bF (vs:=[_,_,_,_,_,_,_]) isAgg47 sizeOf47 rfl ((aM.agree hS.agree (Nat.zero_le _) k13)) rfl (aF (d:=69) rfl rfl (cD (vs:=[_,_]) hS zI rfl (Dy (psO ⟨va,vl,vc,pa,pl,pc,ea,el,ec,es,xa,xl,xc,xs,mn,oa,ol,oc,os,sa,sl,sc,ss,ta,tl,tc,ts,na,nl,nc,ns,ka,kl,kc,ks⟩ m) (stX m vl) (psY ⟨va,vl,vc,pa,pl,pc,ea,el,ec,es,xa,xl,xc,xs,mn,oa,ol,oc,os,sa,sl,sc,ss,ta,tl,tc,ts,na,nl,nc,ns,ka,kl,kc,ks⟩) (psF ⟨va,vl,vc,pa,pl,pc,ea,el,ec,es,xa,xl,xc,xs,mn,oa,ol,oc,os,sa,sl,sc,ss,ta,tl,tc,ts,na,nl,nc,ns,ka,kl,kc,ks⟩ m) q3 q4 _ _ fa3 fa4 ta3 ta4 (psF ⟨va,vl,vc,pa,pl,pc,ea,el,ec,es,xa,xl,xc,xs,mn,oa,ol,oc,os,sa,sl,sc,ss,ta,tl,tc,ts,na,nl,nc,ns,ka,kl,kc,ks⟩ m).length fc3 fc4 (psF ⟨va,vl,vc,pa,pl,pc,ea,el,ec,es,xa,xl,xc,xs,mn,oa,ol,oc,os,sa,sl,sc,ss,ta,tl,tc,ts,na,nl,nc,ns,ka,kl,kc,ks⟩ m).length tc3 tc4 us3 us4 _ (H3 _ hS.below) (H4 _ hS.below) rfl (Bc _ _) (Bc _ _)) rfl fun W23 hS=>bC rfl rfl rfl (aL rfl rfl (aF (d:=74) rfl rfl (aL rfl rfl (aF (d:=74) rfl rfl (aL rfl rfl (aF (d:=74) rfl rfl (bW rfl rfl rfl (bC rfl rfl rfl (aL rfl rfl (bK (d:=79) rfl (fun hc=>?_) (fun hc=>absurd (of_decide_eq_false hc) (by exact fun h=>h rfl)))))))))))))))))
  have hc:=of_decide_eq_true hc
  refine aF (d:=79) rfl rfl (bF (vs:=[_,_,_,_,_,_]) isAgg59 sizeOf59 rfl ((aM.agree hS.agree (Nat.zero_le _) k15)) rfl (aF (d:=79) rfl rfl (bF (vs:=[_,_,_,_,_,_]) isAgg59 sizeOf59 rfl ((aM.agree hS.agree (Nat.zero_le _) k17)) rfl (aF (d:=79) rfl rfl (cD (vs:=[_,_]) hS zJ rfl (sD (H5 _ hS.below).is (H6 _ hS.below).is true (by simp)) rfl fun W24 hS=>bC rfl rfl rfl (aL rfl rfl (aF (d:=84) rfl rfl (aL rfl rfl (aF (d:=84) rfl rfl (aL rfl rfl (aF (d:=84) rfl rfl (bW rfl rfl rfl (bC rfl rfl rfl (aL rfl rfl (bK (d:=89) rfl (fun hc=>?_) (fun hc=>absurd (of_decide_eq_false hc) (by exact fun h=>h rfl)))))))))))))))))
  have hc:=of_decide_eq_true hc
  refine aF (d:=89) rfl rfl (cD (vs:=[]) hS tK rfl (vX _) rfl fun W25 hS=>bC rfl rfl rfl (aK rfl rfl (aT (XF.thenN (bP (XF.res (cG results3 rfl) ?_))))))
  exact ⟨rfl,hAll.trans (hS.below.mono hAll.size)⟩
theorem qB (g:GV) (m t:Int) (w:World) (hg:GIn w g) (hm:(Lit.int .i64 m).wf=true) (ht:(Lit.int .i64 t).wf=true) :
  Calls prog 3 #[g.val,.int .i64 m,.int .i64 t] w (fun e w'=>e = .returned (.bool true)∧Below w.heap.size w w') :=
 tD g.va g.vl g.vc g.pa g.pl g.pc g.ea g.el g.ec g.es g.xa g.xl g.xc g.xs g.mn g.oa g.ol g.oc g.os g.sa g.sl g.sc g.ss g.ta g.tl g.tc g.ts g.na g.nl g.nc g.ns g.ka g.kl g.kc g.ks m t w hg.e hg.el hg.x hg.xl hg.o hg.ol hg.s hg.sl hg.t hg.tl hg.n hg.nl hg.k hg.kl
end
section
open Go.RowKit Go.ChangeShapes Go.WideShapes Go.Deep Go.Joins
theorem tY {α:Type}:∀ (n:Nat) (p:Nat→α→Prop),(∀ i,i < n→∃ c,p i c)→∃ xs:List α,xs.length=n∧∀ i c,xs[i]?=some c→p i c
 | 0,p,h=>⟨[],rfl,fun i c hi=>by simp at hi⟩
 | n+1,p,h=>by
  obtain ⟨xs,hl,hp⟩:=tY n p (fun i hi=>h i (by omega))
  obtain ⟨c,hc⟩:=h n (by omega)
  refine ⟨xs++[c],by simp [hl],fun i d hi=>?_⟩
  rcases Nat.lt_or_ge i n with h1 | h1
  ·rw [List.getElem?_append_left (by omega)] at hi
   exact hp i d hi
  ·obtain ⟨h2,_⟩:=List.getElem?_eq_some_iff.1 hi
   simp [hl] at h2
   obtain rfl:i=n:=by omega
   rw [List.getElem?_append_right (by omega),hl,Nat.sub_self] at hi
   simp at hi
   subst hi
   exact hc
theorem Bd {cs:List Value} (h:cs.length=2):∃ a b,cs=[a,b]:=by
 match cs,h with
 | [a,b],_=>exact ⟨a,b,rfl⟩
theorem D7 {cs:List Value} (h:cs.length=4):∃ a b c d,cs=[a,b,c,d]:=by
 match cs,h with
 | [a,b,c,d],_=>exact ⟨a,b,c,d,rfl⟩
theorem Cr {cs:List Value} (h:cs.length=7):∃ a b c d e f g,cs=[a,b,c,d,e,f,g]:=by
 match cs,h with
 | [a,b,c,d,e,f,g],_=>exact ⟨a,b,c,d,e,f,g,rfl⟩
theorem ten_len {cs:List Value} (h:cs.length=10):∃ a b c d e f g i j k,cs=[a,b,c,d,e,f,g,i,j,k]:=by
 match cs,h with
 | [a,b,c,d,e,f,g,i,j,k],_=>exact ⟨a,b,c,d,e,f,g,i,j,k,rfl⟩
theorem sS {w:World} {b:Nat}:∀ (vs:List Value) (o:Nat),(∀ (j:Nat) u,vs[j]?=some u→w.cell? ⟨b,o+j,none⟩=some u)→aM w b o vs
 | [],_,_=>trivial
 | v::vs,o,h=>⟨h 0 v rfl,sS vs (o+1) fun j u hj=>by have:=h (j+1) u (by simpa using hj);rwa [show o+1+j=o+(j+1) by omega]⟩
section
variable {H:Type} {enc:TypeId×Value→H} {w:World} {base:Nat} {spare:Nat→Bool} {held:Bool}
theorem nL {α:Type} {f:α→List Value} {sz:Nat} {t e:TypeId} {n:Nat} {v:Value} {x:DataW H×List MemPlace} (ht:prog.underlying t=some (.slice e)) (hc:prog.cellsOf e=sz) (hp:0 < sz) (hf:∀ y,(f y).length=sz)
  (one:∀ (n:Nat) (cs:List Value) (x:DataW H×List MemPlace),DataW.trod enc prog w base spare held n e cs=some x→∃ y,cs=f y) (h:DataW.trod enc prog w base spare held n t [v]=some x) :
  ∃ (a:Option Addr) (len cap:Nat) (xs:List α),v = .slice a len cap∧dB f sz w a xs∧xs.length=len∧len≤cap∧cap≤maxLen:=by
 rcases DataW.trod_slice ht h with ⟨hcs,_⟩ | ⟨ad,len,cap,elems,rest,n2,hn2,hcs,_,hb,hle,hcap,hel,hi,_,_⟩
 ·simp at hcs
  subst hcs
  exact ⟨none,0,0,[],rfl,.inl rfl,rfl,Nat.le_refl _,Nat.zero_le _⟩
 ·simp at hcs
  subst hcs
  rw [hc] at hi
  obtain ⟨rs,hrl,hrs⟩:=tY len (fun i (r:α)=>∀ (j:Nat) u,(f r)[j]?=some u→w.cell? (ad.add (i * sz+j))=some u) (fun i hil=>by
   have hii:=hi i hil
   rw [List.getElem?_eq_getElem (by omega)] at hii
   obtain ⟨cs',hc',ht'⟩:=Option.bind_eq_some_iff.1 hii
   obtain ⟨_,hcl,hat⟩:=World.cells?_some hc'
   obtain ⟨r,rfl⟩:=one _ _ _ ht'
   refine ⟨r,fun j u hj=>?_⟩
   have hjs:j < sz:=by have:=(List.getElem?_eq_some_iff.1 hj).1;rw [hf] at this;exact this
   have h0:=hat j hjs
   rw [Go.Deep.add_add] at h0
   rw [h0];exact hj)
  refine ⟨some ad,len,cap,rs,rfl,?_,hrl,hle,hcap⟩
  rcases Nat.eq_zero_or_pos len with h0 | h0
  ·exact .inl (List.length_eq_zero_iff.1 (by omega))
  ·obtain ⟨b,off,spot⟩:=ad
   have h1:=hrs 0 (rs[0]'(by omega)) (List.getElem?_eq_getElem (by omega)) 0 _ (List.getElem?_eq_getElem (by rw [hf];exact hp))
   have hspot:spot=none:=by simpa [Addr.add] using World.cell?_spot h1
   subst hspot
   refine .inr ⟨b,off,rfl,fun i r hir=>sS _ _ fun j u hj=>?_⟩
   have h3:=hrs i r hir j u hj
   have e:∀ k,({ block:=b,off:=off }:Addr).add k=⟨b,off+k,none⟩:=fun k=>by simp [Addr.add]
   rw [e,← Nat.add_assoc] at h3
   exact h3
theorem vE {n:Nat} {v:Value} {x:DataW H×List MemPlace} (h:DataW.trod enc prog w base spare held n 23 [v]=some x) :
  ∃ (a:Option Addr) (len cap:Nat) (zs:List Int),v = .slice a len cap∧dS w a zs∧zs.length=len∧len≤cap∧cap≤maxLen :=
 nL (e:=3) (by kernel_rfl) (by kernel_rfl) (by omega) (fun _=>rfl) (fun n cs x h=>by
  obtain ⟨z0,e0,_,_⟩:=DataW.trod_int (k:=.i64) (by kernel_rfl) h
  exact ⟨z0,e0⟩) h
theorem xE {n:Nat} {v:Value} {x:DataW H×List MemPlace} (h:DataW.trod enc prog w base spare held n 22 [v]=some x) :
  ∃ (a:Option Addr) (len cap:Nat),v = .slice a len cap:=by
 obtain ⟨a,len,cap,_,e,_⟩:=nL (f:=fun s:ByteArray=>[.string s]) (sz:=1) (e:=9) (by kernel_rfl) (by kernel_rfl) (by omega) (fun _=>rfl) (fun n cs x h=>by
  obtain ⟨z0,e0,_,_⟩:=DataW.trod_string (by kernel_rfl) h
  exact ⟨z0,e0⟩) h
 exact ⟨a,len,cap,e⟩
theorem D8 {n:Nat} {v:Value} {x:DataW H×List MemPlace} (h:DataW.trod enc prog w base spare held n 24 [v]=some x) :
  ∃ (a:Option Addr) (len cap:Nat) (zs:List gr_TV),v = .slice a len cap∧dB gr_TV.sev 7 w a zs∧zs.length=len∧len≤cap∧cap≤maxLen :=
 nL (e:=79) (by kernel_rfl) (by kernel_rfl) (by omega) (fun _=>rfl) (fun n cs x h=>by
  obtain ⟨xs,n',hn,_,hl,hlen,hg⟩:=DataW.trod_struct underlying79 h
  rw [show prog.cellsOf 79=7 by kernel_rfl] at hl
  obtain ⟨a,b,c,d,e,f,g,rfl⟩:=Cr hl
  have hlen':xs.length=7:=hlen
  have g0:=hg 0 _ rfl
  have g1:=hg 1 _ rfl
  have g2:=hg 2 _ rfl
  have g3:=hg 3 _ rfl
  have g4:=hg 4 _ rfl
  have g5:=hg 5 _ rfl
  have g6:=hg 6 _ rfl
  rw [show prog.cellsOf _=1 by kernel_rfl,List.getElem?_eq_getElem (by omega)] at g0 g1 g2 g3 g4 g5 g6
  obtain ⟨z0,e0,_,_⟩:=DataW.trod_int (k:=.i64) (by kernel_rfl) g0
  obtain ⟨z1,e1,_,_⟩:=DataW.trod_int (k:=.i64) (by kernel_rfl) g1
  obtain ⟨z2,e2,_,_⟩:=DataW.trod_int (k:=.i64) (by kernel_rfl) g2
  obtain ⟨z3,e3,_,_⟩:=DataW.trod_int (k:=.i64) (by kernel_rfl) g3
  obtain ⟨z4,e4,_,_⟩:=DataW.trod_int (k:=.i64) (by kernel_rfl) g4
  obtain ⟨z5,e5,_,_⟩:=DataW.trod_int (k:=.i64) (by kernel_rfl) g5
  obtain ⟨z6,e6,_,_⟩:=DataW.trod_int (k:=.i64) (by kernel_rfl) g6
  simp at e0 e1 e2 e3 e4 e5 e6
  subst e0 e1 e2 e3 e4 e5 e6
  exact ⟨⟨z0,z1,z2,z3,z4,z5,z6⟩,rfl⟩) h
theorem D9 {n:Nat} {v:Value} {x:DataW H×List MemPlace} (h:DataW.trod enc prog w base spare held n 25 [v]=some x) :
  ∃ (a:Option Addr) (len cap:Nat) (zs:List UV),v = .slice a len cap∧dB UV.four 4 w a zs∧zs.length=len∧len≤cap∧cap≤maxLen :=
 nL (e:=81) (by kernel_rfl) (by kernel_rfl) (by omega) (fun _=>rfl) (fun n cs x h=>by
  obtain ⟨xs,n',hn,_,hl,hlen,hg⟩:=DataW.trod_struct underlying81 h
  rw [show prog.cellsOf 81=4 by kernel_rfl] at hl
  obtain ⟨a,b,c,d,rfl⟩:=D7 hl
  have hlen':xs.length=4:=hlen
  have g0:=hg 0 _ rfl
  have g1:=hg 1 _ rfl
  have g2:=hg 2 _ rfl
  have g3:=hg 3 _ rfl
  rw [show prog.cellsOf _=1 by kernel_rfl,List.getElem?_eq_getElem (by omega)] at g0 g1 g2 g3
  obtain ⟨z0,e0,_,_⟩:=DataW.trod_string (by kernel_rfl) g0
  obtain ⟨z1,e1,_,_⟩:=DataW.trod_int (k:=.i64) (by kernel_rfl) g1
  obtain ⟨z2,e2,_,_⟩:=DataW.trod_int (k:=.i64) (by kernel_rfl) g2
  obtain ⟨z3,e3,_,_⟩:=DataW.trod_int (k:=.i64) (by kernel_rfl) g3
  simp at e0 e1 e2 e3
  subst e0 e1 e2 e3
  exact ⟨⟨z0,z1,z2,z3⟩,rfl⟩) h
theorem Cs {n:Nat} {v:Value} {x:DataW H×List MemPlace} (h:DataW.trod enc prog w base spare held n 26 [v]=some x) :
  ∃ (a:Option Addr) (len cap:Nat) (zs:List NV),v = .slice a len cap∧dB NV.two 2 w a zs∧zs.length=len∧len≤cap∧cap≤maxLen :=
 nL (e:=115) (by kernel_rfl) (by kernel_rfl) (by omega) (fun _=>rfl) (fun n cs x h=>by
  obtain ⟨xs,n',hn,_,hl,hlen,hg⟩:=DataW.trod_struct underlying115 h
  rw [show prog.cellsOf 115=2 by kernel_rfl] at hl
  obtain ⟨a,b,rfl⟩:=Bd hl
  have hlen':xs.length=2:=hlen
  have g0:=hg 0 _ rfl
  have g1:=hg 1 _ rfl
  rw [show prog.cellsOf _=1 by kernel_rfl,List.getElem?_eq_getElem (by omega)] at g0 g1
  obtain ⟨z0,e0,_,_⟩:=DataW.trod_string (by kernel_rfl) g0
  obtain ⟨z1,e1,_,_⟩:=DataW.trod_int (k:=.i64) (by kernel_rfl) g1
  simp at e0 e1
  subst e0 e1
  exact ⟨⟨z0,z1⟩,rfl⟩) h
theorem Ea {n:Nat} {v:Value} {x:DataW H×List MemPlace} (h:DataW.trod enc prog w base spare held n 27 [v]=some x) :
  ∃ (a:Option Addr) (len cap:Nat) (zs:List KV),v = .slice a len cap∧dB KV.two 2 w a zs∧zs.length=len∧len≤cap∧cap≤maxLen :=
 nL (e:=117) (by kernel_rfl) (by kernel_rfl) (by omega) (fun _=>rfl) (fun n cs x h=>by
  obtain ⟨xs,n',hn,_,hl,hlen,hg⟩:=DataW.trod_struct underlying117 h
  rw [show prog.cellsOf 117=2 by kernel_rfl] at hl
  obtain ⟨a,b,rfl⟩:=Bd hl
  have hlen':xs.length=2:=hlen
  have g0:=hg 0 _ rfl
  have g1:=hg 1 _ rfl
  rw [show prog.cellsOf _=1 by kernel_rfl,List.getElem?_eq_getElem (by omega)] at g0 g1
  obtain ⟨z0,e0,_,_⟩:=DataW.trod_int (k:=.i64) (by kernel_rfl) g0
  obtain ⟨z1,e1,_,_⟩:=DataW.trod_int (k:=.i64) (by kernel_rfl) g1
  simp at e0 e1
  subst e0 e1
  exact ⟨⟨z0,z1⟩,rfl⟩) h
theorem Eb {n:Nat} {cs:List Value} {x:DataW H×List MemPlace} (h:DataW.trod enc prog w base spare held n 29 cs=some x):∃ g:GV,cs=g.ten∧GIn w g:=by
 obtain ⟨xs,n',hn,_,hl,hlen,hg⟩:=DataW.trod_struct underlying29 h
 rw [show prog.cellsOf 29=10 by kernel_rfl] at hl
 obtain ⟨a,b,c,d,e,f,g,i,j,k,rfl⟩:=ten_len hl
 have hlen':xs.length=10:=hlen
 have g0:=hg 0 _ rfl
 have g1:=hg 1 _ rfl
 have g2:=hg 2 _ rfl
 have g3:=hg 3 _ rfl
 have g4:=hg 4 _ rfl
 have g5:=hg 5 _ rfl
 have g6:=hg 6 _ rfl
 have g7:=hg 7 _ rfl
 have g8:=hg 8 _ rfl
 have g9:=hg 9 _ rfl
 rw [show prog.cellsOf _=1 by kernel_rfl,List.getElem?_eq_getElem (by omega)] at g0 g1 g2 g3 g4 g5 g6 g7 g8 g9
 obtain ⟨va,vl,vc,rfl⟩:=xE (v:=a) g0
 obtain ⟨pa,pl,pc,rfl⟩:=xE (v:=b) g1
 obtain ⟨ea,el,ec,es,rfl,he,hel,_⟩:=vE (v:=c) g2
 obtain ⟨xa,xl,xc,ys,rfl,hx,hxl,_⟩:=vE (v:=d) g3
 obtain ⟨mn,e4,_,_⟩:=DataW.trod_int (k:=.i64) (by kernel_rfl) g4
 simp at e4
 subst e4
 obtain ⟨oa,ol,oc,os,rfl,ho,hol,_⟩:=vE (v:=f) g5
 obtain ⟨sa,sl,sc,ss,rfl,hs,hsl,_⟩:=D8 (v:=g) g6
 obtain ⟨ta,tl,tc,ts,rfl,ht,htl,_⟩:=D9 (v:=i) g7
 obtain ⟨na,nl,nc,ns,rfl,hn',hnl,_⟩:=Cs (v:=j) g8
 obtain ⟨ka,kl,kc,ks,rfl,hk,hkl,_⟩:=Ea (v:=k) g9
 exact ⟨⟨va,vl,vc,pa,pl,pc,ea,el,ec,es,xa,xl,xc,ys,mn,oa,ol,oc,os,sa,sl,sc,ss,ta,tl,tc,ts,na,nl,nc,ns,ka,kl,kc,ks⟩,rfl,⟨he,hel,hx,hxl,ho,hol,hs,hsl,ht,htl,hn',hnl,hk,hkl⟩⟩
theorem zK {r:Reach} {b0:Nat} {v:Value} {d:DataW H} {p:List MemPlace} (hv:Value.okWide prog w r b0 29 v) (h:DataW.Trod enc prog w base spare held 29 v d p) :
  ∃ g:GV,v=g.val∧GIn w g:=by
 obtain ⟨cs,rfl,_⟩:=okWide_struct underlying29 hv
 obtain ⟨n,h⟩:=h
 obtain ⟨s,e,hs⟩:=Eb (n:=n) h
 have e':cs.toList=_:=e
 exact ⟨s,by show Value.agg cs=Value.agg _;congr 1;exact Array.ext' e',hs⟩
end
end
end Go.Proofs.Ytfnmjcgfagldkaa
