import Derived.Test.YtafegfhpinpdoaaQfE
set_option maxRecDepth 100000
set_option maxHeartbeats 4000000
set_option linter.unusedVariables false
set_option linter.unusedSimpArgs false
set_option linter.unusedSectionVars false
set_option linter.unnecessarySimpa false
namespace Go.Proofs.Ytafegfhpinpdoaa
open Go.Proofs.Try
open Go.RowKit
theorem Mz (S:PS) (sf:SF) (f0:WF) (sq:SF) (zN:Nat) (yt:Int) (vf v1:Value) (n:Nat) (xs1:List Value) (B F:Nat) (fb:List Bool) (Ot:Own) (K:List (Nat×World)) (w0:World) (gp:Int) (gN:Nat) (sy:Int) (sN:Nat) (na:Option Addr) (nl nc:Nat) (ns:List IV) (aa:Option Addr) (al ac:Nat) (bs:List Bool) (w:World) (hS0:St w0 ((B,mkC sf f0 sq (zN:Int) yt vf v1,76)::(F,fb.map Value.bool,4)::Ot) [⟨v1,n,xs1,67,9⟩] K w) (hsi:SIs w0 S sf) (hok:S.ok) (hD:DIn w0 ⟨sy,na,nl,nc,ns,aa,al,ac,bs⟩) (hE:gW ⟨sy,na,nl,nc,ns,aa,al,ac,bs⟩=0) (hgp:gp=(gN:Int)) (hsy:sy=(sN:Int)) (hgN:gN < 4096) (hfb:fb.length=4096) (hz:zN+nl≤4096) (hcn:n+(nl+1) * sN≤65536) :
  Calls prog 20 #[.pointer (some ⟨B,0,none⟩),.agg #[.int .i64 gp,.int .i64 sy,.slice na nl nc,.slice aa al ac],.slice (some ⟨F,0,none⟩) 4096 4096] w (fun e w'=>∃ (u:Value) (Kk:List (Nat×World)) (ms:List T9),e = .returned (.tuple #[])∧(∀ q∈K,q∈Kk)∧ms.map T9.pl=nT gp (zN:Int) ns sN nl∧iT w0 Kk (fun W2=>∀ r∈ms,XIs W2 S r.x (eV S))∧St w0 ((B,mkC sf f0 sq ((zN:Int)+(nl:Int)) yt vf u,76)::(F,(((pT zN bs fb nl).set gN ((pT zN bs fb nl).getD gN false || bs.getD 0 false))).map Value.bool,4)::Ot) [⟨u,n+ms.length,xs1++ms.flatMap T9.nine,67,9⟩] Kk w'):=by
 refine cG (args:=[.pointer (some ⟨B,0,none⟩),.agg #[.int .i64 gp,.int .i64 sy,.slice na nl nc,.slice aa al ac],.slice (some ⟨F,0,none⟩) 4096 4096]) func20 rfl ntmps20 rfl ?_
 have hS:=hS0
 obtain ⟨hn1,hn2,hsy0,hsy1,hal,hrows⟩:=lA hE
 dsimp only at hn1 hn2 hsy0 hsy1 hal hrows
 have hnr:=hD.nrow
 have hnl:=hD.nlen
 have hri:=hD.rin
 have har:=hD.arow
 have hbl:=hD.alen
 dsimp only at hnr hnl hri har hbl
 have hrw:∀ r∈ns,(r.l:Int)=sy∧∀ y∈r.xs,0≤y∧y < (nl:Int):=fun r hr=>by
  have h9:=List.all_eq_true.1 hrows r hr
  unfold pS at h9
  simp only [Bool.and_eq_true,decide_eq_true_eq,List.all_eq_true,inQ] at h9
  exact h9
 obtain ⟨r0,hr0⟩:∃ r,ns[0]?=some r:=⟨ns[0],List.getElem?_eq_getElem _⟩
 obtain ⟨b0,o0,hna0,hcs0⟩:=hnr 0 r0 hr0
 obtain ⟨hrr0,hrl0,hrm0⟩:=hri r0 (List.mem_of_getElem? hr0)
 obtain ⟨hls0,hys0⟩:=hrw r0 (List.mem_of_getElem? hr0)
 have hx00:=yR hr0
 obtain ⟨ra0,rl0,rc0,xs0⟩:=r0
 dsimp only at hcs0 hrr0 hrl0 hrm0 hls0 hys0 hx00
 subst hgp;subst hsy
 obtain rfl:rl0=sN:=by omega
 have hsn:(nl+1) * rl0=nl * rl0+rl0:=Nat.succ_mul nl rl0
 subst hna0
 refine aO (aR (bQ (cs:=[_,_,_,_]) hS rfl rfl rfl fun B1 W1 hS=>aQ (XF.thenN (aO (aR (aI rfl rfl (eG rfl rfl (aN (o':=9) fC rfl rfl rfl (aN (o':=12) dO rfl rfl rfl (aT isAgg3 rfl (aJ (hS.at_ 1 rfl) rfl) rfl (aB rfl rfl (aQ (XF.thenN (aO (wE (ef:=13) (jy:=9) (ca:=sQ (fun _=>[])) (ta:=fun _=>0) (Os:=osY _ 1 (12) B (mkC sf f0 sq (zN:Int) yt vf v1) 76) (Gs:=pR _) (al:=[]) (k:=14) (ds:=[]) bY rfl hS rfl (by kernel_rfl) rfl (by decide) rfl rfl rfl rfl (aW 1 rfl rfl (isV _) (fun hNo=>sgV [(0,_)] rfl rfl rfl rfl hNo (aS rfl) ⟨bP rfl,trivial⟩ (fun ev w he hw=>aZ rfl) (aD rfl)) (aW 2 rfl rfl (isV _) (fun hNo=>sgV [(18,_)] rfl rfl rfl rfl hNo (aS rfl) ⟨aL 0 (aA rfl rfl rfl),trivial⟩ (fun ev w he hw=>fL rfl) (aD rfl)) (aW 3 rfl rfl (isV _) (fun hNo=>sgV [(19,_)] rfl rfl rfl rfl hNo (aS rfl) ⟨aL 1 (aA rfl rfl rfl),trivial⟩ (fun ev w he hw=>aV (o':=9) fC rfl rfl) (aD rfl)) (aW 4 rfl rfl (isV _) (fun hNo=>sgV [(20,_)] rfl rfl rfl rfl hNo (aS rfl) ⟨aL 2 (aA rfl rfl rfl),trivial⟩ (fun ev w he hw=>aV (o':=12) dO rfl rfl) (aD rfl)) (aW 5 rfl rfl (isV _) (fun hNo=>sgV [(21,_)] rfl rfl rfl rfl hNo (aS rfl) ⟨aL 3 (aA rfl rfl rfl),trivial⟩ (fun ev w he hw=>aX isAgg3 rfl ((aJ (hw.at_ 1 (pM (he rfl) rfl)) rfl))) (aD rfl)) (aW 6 rfl rfl (isV _) (fun hNo=>sgV [(4,_)] rfl rfl rfl rfl hNo (aS rfl) ⟨bP rfl,trivial⟩ (fun ev w he hw=>aV (o':=1) gF rfl rfl) (aD rfl)) (aW 7 rfl rfl (isV _) (fun hNo=>sgV [(23,_)] rfl rfl rfl rfl hNo (aS rfl) ⟨aL 5 (aA rfl rfl rfl),trivial⟩ (fun ev w he hw=>aV (o':=2) eA rfl rfl) (aD rfl)) (aW 8 rfl rfl (isV _) (fun hNo=>sgV [(24,_)] rfl rfl rfl rfl hNo (aS rfl) ⟨aL 6 (aA rfl rfl rfl),trivial⟩ (fun ev w he hw=>aX isAgg34 rfl ((aJ (hw.at_ 0 (gX (i:=0) (j:=1) rfl rfl)) rfl))) (aD rfl)) (aW 9 rfl rfl (isV _) (fun hNo=>sgV [(25,_)] rfl rfl rfl rfl hNo (aS rfl) ⟨aL 7 (aA rfl rfl rfl),trivial⟩ (fun ev w he hw=>mQ underlying34 rfl) (aD rfl)) (aW 10 rfl rfl (isV _) (fun hNo=>sgV [(22,_),(26,_)] rfl rfl rfl rfl hNo (aS rfl) ⟨aL 4 (aA rfl rfl rfl),aL 8 (aA rfl rfl rfl),trivial⟩ (fun ev w he hw=>uZ rfl rfl (IntWalk.i64_in _ (by omega))) (aD rfl)) (aW 11 rfl rfl (isV _) (fun hNo=>sgV [(18,_)] rfl rfl rfl rfl hNo (aS rfl) ⟨aL 0 (aA rfl rfl rfl),trivial⟩ (fun ev w he hw=>fL rfl) (aD rfl)) (aW 12 rfl rfl (isV _) (fun hNo=>sgV [(28,_)] rfl rfl rfl rfl hNo (aS rfl) ⟨aL 10 (aA rfl rfl rfl),trivial⟩ (fun ev w he hw=>aV (o':=9) fC rfl rfl) (aD rfl)) (aW 13 rfl rfl (isV _) (fun hNo=>sgV [(29,_)] rfl rfl rfl rfl hNo (aS rfl) ⟨aL 11 (aA rfl rfl rfl),trivial⟩ (fun ev w he hw=>aV (o':=12) dO rfl rfl) (aD rfl)) ?_))))))))))))))))))))))))))))
 refine jJ 14 rfl (nH (py:=isV _) (m:=1) 1 (12) [(30,_)] rfl rfl rfl rfl (by kernel_rfl) rfl rfl (fun j hj=>by rcases hj with h | rfl<;>first | (cases h<;>rfl) | rfl) ⟨aL 12 (aA rfl rfl rfl),trivial⟩ rfl rfl sizeOf3 (fun v w e=>⟨[v],by rw [show v=_ from e];rfl,rfl,by rw [show v=_ from e];rfl⟩) rfl) ?_
 refine jZ ?_
 intro Bf2 y2 W2 Ks2 hsz2 hKs2 hS' hcov2
 clear hS;have hS:=hS'.castO (O':=(_::_::_::Ot)) rfl;clear hS'
 refine qA (L':=[AwS _ _ (isV _),AwS _ _ (isV _),AwS _ _ (isV _),AwS _ _ (isV _),AwS _ _ (isV _),AwS _ _ (isV _),AwS _ _ (isV _),AwS _ _ (isV _),AwS _ _ (isV _),(fun v0_ w0_=>v0_=_∧AwS _ _ (isV _) v0_ w0_),AwS _ _ (isV _),AwS _ _ (isV _),AwS _ _ (isV _),isV _]) rfl (bF (bF (bF (bF (bF (bF (bF (bF (bF ?_)))))))))
 refine dR ?_;rintro _ ⟨rfl,hA2⟩;have hA2:=hA2.here;cases hA2
 refine bF (bF (bF (tO (cH (aQ (XF.thenN (aO (aO (aR (aN (o':=1) gF rfl rfl rfl (aN (o':=2) eA rfl rfl rfl (aT isAgg34 rfl (aJ (hS.at_ 0 rfl) rfl) rfl (cJ (j:=0) underlying34 sizeOf30 rfl rfl rfl (by omega) (Nat.add_zero _) rfl (aT isAgg30 rfl (hS.old hcs0) rfl (bX underlying30 rfl rfl (aI rfl rfl (aQ (XF.thenN (bI (cX (fun m l W=>∃ (j:Nat) (u:Value) (Kk:List (Nat×World)) (ms:List T9),j≤rl0∧m=rl0 - j∧ms.map T9.pl=iW (gN:Int) (zN:Int) xs0 j∧l=[(0,.pointer (some ⟨B,0,none⟩)),(2,.slice (some ⟨F,0,none⟩) 4096 4096),(4,.pointer (some ⟨B1,0,none⟩)),(6,.int .i64 (zN:Int)),(35,.slice ra0 rl0 rc0),(36,.int .i64 (rl0:Int)),(37,.int .i64 (j:Int))]∧(∀ q∈K,q∈Kk)∧iT w0 Kk (fun W2=>∀ r∈ms,XIs W2 S r.x (eV S))∧St w0 ((B1,[.int .i64 (gN:Int),.int .i64 (rl0:Int),.slice (some ⟨b0,o0,none⟩) nl nc,.slice aa al ac],39)::(B,mkC sf f0 sq ((zN:Int)+(nl:Int)) yt vf u,76)::(F,(fb).map Value.bool,4)::Ot) [⟨u,n+ms.length,xs1++ms.flatMap T9.nine,67,9⟩] Kk W) (rl0 - 0) ([(0,_),(2,_),(4,_),(6,_),(35,_),(36,_),(37,_)]) ⟨rfl,rfl,rfl,rfl,rfl,rfl,rfl,trivial⟩ (⟨0,_,_,[],Nat.zero_le _,rfl,rfl,rfl,(fun q hq=>List.mem_append_right _ hq),(fun h2 hk r hr=>by cases hr),hS.castG (by simp [pR])⟩) ?_))))))))))))))))))))
 clear hS
 rintro m l W ⟨j,u,Kk,ms,hj,rfl,hms,rfl,hKk,HN,hS⟩
 refine aO (aR (cC rfl rfl rfl (aQ (XF.thenN (aO (bC rfl (fun hc=>?_) (fun hc=>?_)))))))
 ·have hc38:=of_decide_eq_true hc;clear hc
  have hk:j < rl0:=by omega
  obtain ⟨b1,o1,y,rfl,hy,hyc⟩:=hrr0.at1 (show j < xs0.length by omega)
  have k1:=hS.old hyc
  obtain ⟨hy1,hy2⟩:=hys0 y (List.mem_of_getElem? hy)
  have hml:ms.length=j:=by have h9:=congrArg List.length hms;rw [List.length_map,jP] at h9;exact h9
  refine bH (XF.thenN (aO (bI (aO (aR (aI rfl rfl (cJ  underlying30 sizeOf3 rfl rfl rfl (by omega) rfl rfl (aT isAgg3 rfl (k1) rfl (aB rfl rfl (aB rfl rfl (aQ (XF.thenN (aR (aI rfl rfl (aN (o':=0) fB rfl rfl rfl (aT isAgg3 rfl (aJ (hS.at_ 0 rfl) rfl) rfl (aI rfl rfl (aI rfl rfl (aI rfl rfl (cE rfl rfl (IntWalk.i64_in _ (by omega)) rfl (mJ (vs:=[_,_,_,_]) A2 rfl (Ax S sf f0 sq _ yt vf u _ _ B _ _ w0 _ _ _ _ (hS.perm (List.Perm.swap _ _ _)) (by omega) hsi hok) rfl ?_)))))))))))))))))))))
  rintro e W9 ⟨u9,f9,Kn9,rfl,hsub9,HX9,hS9⟩
  refine ⟨_,rfl,?_⟩
  clear hS;have hS:=hS9.perm (List.Perm.swap _ _ _);clear hS9
  refine aQ (XF.blkN (XF.thenN (aR (cE rfl rfl (IntWalk.i64_in _ (by omega)) rfl (aI rfl rfl (aQ ?_))))))
  exact XF.round (rl0 - (j+1)) [(0,_),(2,_),(4,_),(6,_),(35,_),(36,_),(37,_)] (by omega) ⟨rfl,rfl,rfl,rfl,rfl,rfl,rfl,trivial⟩ ⟨j+1,u9,Kn9,ms++[⟨(gN:Int),(j:Int),(zN:Int)+y,f9⟩],by omega,rfl,by rw [List.map_append,hms,pN,jK hy];rfl,rfl,(fun q hq=>hsub9 q (hKk q hq)),(fun h2 hk r hr=>by
    rcases List.mem_append.1 hr with hr | hr
    ·exact HN h2 (fun q hq=>hk q (hsub9 q hq)) r hr
    ·rw [List.mem_singleton.1 hr];exact HX9 h2 hk),hS.castG (by simp [Nat.add_assoc])⟩
 ·have hc38:=of_decide_eq_false hc;clear hc
  refine cW (XF.thenX (XF.thenX (XF.blkX (XF.thenN (aO (aO (aR (aN (o':=1) gF rfl rfl rfl (aN (o':=2) eA rfl rfl rfl (aT isAgg34 rfl (aJ (hS.at_ 0 rfl) rfl) rfl (bX underlying34 rfl rfl (aI rfl rfl (aQ (XF.thenN (bI ?_)))))))))))))))
  refine cX (fun m l W=>∃ (i:Nat) (u:Value) (Kk:List (Nat×World)) (ms:List T9),i≤nl∧m=nl - i∧ms.map T9.pl=iW (gN:Int) (zN:Int) xs0 rl0++jW (zN:Int) ns rl0 i∧l=[(0,.pointer (some ⟨B,0,none⟩)),(2,.slice (some ⟨F,0,none⟩) 4096 4096),(4,.pointer (some ⟨B1,0,none⟩)),(6,.int .i64 (zN:Int)),(53,.slice (some ⟨b0,o0,none⟩) nl nc),(54,.int .i64 (nl:Int)),(55,.int .i64 (i:Int))]∧(∀ q∈K,q∈Kk)∧iT w0 Kk (fun W2=>∀ r∈ms,XIs W2 S r.x (eV S))∧St w0 ((B1,[.int .i64 (gN:Int),.int .i64 (rl0:Int),.slice (some ⟨b0,o0,none⟩) nl nc,.slice aa al ac],39)::(B,mkC sf f0 sq ((zN:Int)+(nl:Int)) yt vf u,76)::(F,(pT zN bs fb i).map Value.bool,4)::Ot) [⟨u,n+ms.length,xs1++ms.flatMap T9.nine,67,9⟩] Kk W) (nl - 0) ([(0,_),(2,_),(4,_),(6,_),(53,_),(54,_),(55,_)]) ⟨rfl,rfl,rfl,rfl,rfl,rfl,rfl,trivial⟩ (⟨0,u,Kk,ms,Nat.zero_le _,rfl,by rw [hms,show j=rl0 by omega];simp [jW],rfl,hKk,HN,hS⟩) ?_
  clear hS
  rintro m l W ⟨i,u,Kk,ms,hi,rfl,hms,rfl,hKk,HN,hS⟩
  refine aO (aR (cC rfl rfl rfl (aQ (XF.thenN (aO (bC rfl (fun hc=>?_) (fun hc=>?_)))))))
  ·have hc56:=of_decide_eq_true hc;clear hc
   have hk:i < nl:=by omega
   obtain ⟨r,hr⟩:∃ r,ns[i]?=some r:=⟨ns[i],List.getElem?_eq_getElem _⟩
   obtain ⟨b1,o1,hna1,hcs1⟩:=hnr i r hr
   cases hna1
   obtain ⟨hrr1,hrl1,hrm1⟩:=hri r (List.mem_of_getElem? hr)
   obtain ⟨hls1,hys1⟩:=hrw r (List.mem_of_getElem? hr)
   have hx1:=yR hr
   obtain ⟨ra9,rl9,rc9,xs9⟩:=r
   dsimp only at hcs1 hrr1 hrl1 hrm1 hls1 hys1 hx1
   obtain rfl:rl9=rl0:=by omega
   have k1:=hS.old hcs1
   have hcn9:=cnt9 (s:=rl9) hk
   refine bH (XF.thenN (aO (bI (aO (aR (aI rfl rfl (cJ  underlying34 sizeOf30 rfl rfl rfl (by omega) rfl rfl (aT isAgg30 rfl (k1) rfl (aB rfl rfl (aB rfl rfl (aQ (XF.thenN (aO (aO (aR (aI rfl rfl (bX underlying30 rfl rfl (aI rfl rfl (aQ (XF.thenN (bI ?_)))))))))))))))))))))
   refine cX (fun m l W=>∃ (j:Nat) (u:Value) (Kk:List (Nat×World)) (ms:List T9),j≤rl9∧m=rl9 - j∧ms.map T9.pl=(iW (gN:Int) (zN:Int) xs0 rl9++jW (zN:Int) ns rl9 i)++iW ((zN:Int)+(i:Int)) (zN:Int) xs9 j∧l=[(0,.pointer (some ⟨B,0,none⟩)),(2,.slice (some ⟨F,0,none⟩) 4096 4096),(4,.pointer (some ⟨B1,0,none⟩)),(6,.int .i64 (zN:Int)),(53,.slice (some ⟨b0,o0,none⟩) nl nc),(54,.int .i64 (nl:Int)),(55,.int .i64 (i:Int)),(9,.int .i64 (i:Int)),(60,.slice ra9 rl9 rc9),(61,.int .i64 (rl9:Int)),(62,.int .i64 (j:Int))]∧(∀ q∈K,q∈Kk)∧iT w0 Kk (fun W2=>∀ r∈ms,XIs W2 S r.x (eV S))∧St w0 ((B1,[.int .i64 (gN:Int),.int .i64 (rl9:Int),.slice (some ⟨b0,o0,none⟩) nl nc,.slice aa al ac],39)::(B,mkC sf f0 sq ((zN:Int)+(nl:Int)) yt vf u,76)::(F,(pT zN bs fb i).map Value.bool,4)::Ot) [⟨u,n+ms.length,xs1++ms.flatMap T9.nine,67,9⟩] Kk W) (rl9 - 0) ([(0,_),(2,_),(4,_),(6,_),(53,_),(54,_),(55,_),(9,_),(60,_),(61,_),(62,_)]) ⟨rfl,rfl,rfl,rfl,rfl,rfl,rfl,rfl,rfl,rfl,rfl,trivial⟩ (⟨0,u,Kk,ms,Nat.zero_le _,rfl,by rw [hms];simp [iW],rfl,hKk,HN,hS⟩) ?_
   clear hS
   rintro m l W ⟨j,u,Kk,ms,hj,rfl,hms,rfl,hKk,HN,hS⟩
   refine aO (aR (cC rfl rfl rfl (aQ (XF.thenN (aO (bC rfl (fun hc=>?_) (fun hc=>?_)))))))
   ·have hc63:=of_decide_eq_true hc;clear hc
    have hk2:j < rl9:=by omega
    obtain ⟨b1,o1,y,rfl,hy,hyc⟩:=hrr1.at1 (show j < xs9.length by omega)
    have k2:=hS.old hyc
    obtain ⟨hy1,hy2⟩:=hys1 y (List.mem_of_getElem? hy)
    have hml:ms.length=(rl9+i * rl9)+j:=by have h9:=congrArg List.length hms;rw [List.length_map,List.length_append,List.length_append,jP,pO,jP] at h9;exact h9
    refine bH (XF.thenN (aO (bI (aO (aR (aI rfl rfl (cJ  underlying30 sizeOf3 rfl rfl rfl (by omega) rfl rfl (aT isAgg3 rfl (k2) rfl (aB rfl rfl (aB rfl rfl (aQ (XF.thenN (aR (aI rfl rfl (aI rfl rfl (aI rfl rfl (cE rfl rfl (IntWalk.i64_in _ (by omega)) rfl (aI rfl rfl (aI rfl rfl (aI rfl rfl (cE rfl rfl (IntWalk.i64_in _ (by omega)) rfl (mJ (vs:=[_,_,_,_]) A2 rfl (Ax S sf f0 sq _ yt vf u _ _ B _ _ w0 _ _ _ _ (hS.perm (List.Perm.swap _ _ _)) (by omega) hsi hok) rfl ?_))))))))))))))))))))))
    rintro e W9 ⟨u9,f9,Kn9,rfl,hsub9,HX9,hS9⟩
    refine ⟨_,rfl,?_⟩
    clear hS;have hS:=hS9.perm (List.Perm.swap _ _ _);clear hS9
    refine aQ (XF.blkN (XF.thenN (aR (cE rfl rfl (IntWalk.i64_in _ (by omega)) rfl (aI rfl rfl (aQ ?_))))))
    exact XF.round (rl9 - (j+1)) [(0,_),(2,_),(4,_),(6,_),(53,_),(54,_),(55,_),(9,_),(60,_),(61,_),(62,_)] (by omega) ⟨rfl,rfl,rfl,rfl,rfl,rfl,rfl,rfl,rfl,rfl,rfl,trivial⟩ ⟨j+1,u9,Kn9,ms++[⟨(zN:Int)+(i:Int),(j:Int),(zN:Int)+y,f9⟩],by omega,rfl,by rw [List.map_append,hms,pN,jK hy,List.append_assoc];rfl,rfl,(fun q hq=>hsub9 q (hKk q hq)),(fun h2 hk r hr=>by
      rcases List.mem_append.1 hr with hr | hr
      ·exact HN h2 (fun q hq=>hk q (hsub9 q hq)) r hr
      ·rw [List.mem_singleton.1 hr];exact HX9 h2 hk),hS.castG (by simp [Nat.add_assoc])⟩
   ·have hc63:=of_decide_eq_false hc;clear hc
    rw [show j=rl9 by omega] at hms
    obtain ⟨b2,o2,haa,hcb⟩:=har i _ (tS (show i < bs.length by omega))
    subst haa
    have k3:=hS.old hcb
    refine cW (XF.thenX (XF.thenX (XF.blkX (XF.thenN (aR (aI rfl rfl (aI rfl rfl (aI rfl rfl (cE rfl rfl (IntWalk.i64_in _ (by omega)) rfl (aN (o':=1) gF rfl rfl rfl (aN (o':=3) nF rfl rfl rfl (aT isAgg35 rfl (aJ (hS.at_ 0 rfl) rfl) rfl (aI rfl rfl (cJ  underlying35 sizeOf4 rfl rfl rfl (by omega) rfl rfl (aT isAgg4 rfl (k3) rfl (cJ (j:=zN+i) underlying35 sizeOf4 rfl rfl (by omega) (by omega) rfl rfl ?_))))))))))))))))
    refine dK (i:=2) (cs':=((pT zN bs fb i).set (zN+i) (bs.getD i false)).map Value.bool) (O':=(_::_::(F,_,4)::Ot)) hS sizeOf4 rfl rfl rfl rfl (Nat.ble_eq_true_of_le (by rw [List.length_map,gL,hfb];omega)) Df rfl fun W16 hS=>?_
    refine aQ (XF.blkN (XF.thenN (aR (cE rfl rfl (IntWalk.i64_in _ (by omega)) rfl (aI rfl rfl (aQ ?_))))))
    exact XF.round (nl - (i+1)) [(0,_),(2,_),(4,_),(6,_),(53,_),(54,_),(55,_)] (by omega) ⟨rfl,rfl,rfl,rfl,rfl,rfl,rfl,trivial⟩ ⟨i+1,u,Kk,ms,by omega,rfl,by rw [hms,qY,hx1,List.append_assoc],rfl,hKk,HN,hS⟩
  ·have hc56:=of_decide_eq_false hc;clear hc
   rw [show i=nl by omega] at hms hS
   obtain ⟨b2,o2,haa,hcb⟩:=har 0 _ (tS (show 0 < bs.length by omega))
   subst haa
   have k3:w0.cell? ⟨b2,o2,none⟩=some (.bool (bs.getD 0 false)):=hcb
   refine cW (XF.thenX (XF.thenX (XF.blkX (XF.thenN ?_))))
   rcases Bool.eq_false_or_eq_true ((pT zN bs fb nl).getD gN false) with h18 | h18
   ·skip
    refine wE (ef:=16) (jy:=14) (ca:=sQ (fun _=>[])) (ta:=fun _=>0) (Os:=osY _ 2 (0+gN * 1) F ((pT zN bs fb nl).map Value.bool) 4) (Gs:=pR _) (al:=[]) (k:=17) (ds:=[]) bY rfl hS rfl (by kernel_rfl) rfl (by decide) rfl rfl rfl rfl (aW 1 rfl rfl (isV _) (fun hNo=>sgV [(2,_)] rfl rfl rfl rfl hNo (aS rfl) ⟨bP rfl,trivial⟩ (fun ev w he hw=>aZ rfl) (aD rfl)) (aW 2 rfl rfl (isV _) (fun hNo=>sgV [(4,_)] rfl rfl rfl rfl hNo (aS rfl) ⟨bP rfl,trivial⟩ (fun ev w he hw=>aV (o':=0) fB rfl rfl) (aD rfl)) (aW 3 rfl rfl (isV _) (fun hNo=>sgV [(90,_)] rfl rfl rfl rfl hNo (aS rfl) ⟨aL 1 (aA rfl rfl rfl),trivial⟩ (fun ev w he hw=>aX isAgg3 rfl ((aJ (hw.at_ 0 (gX (i:=0) (j:=2) rfl rfl)) rfl))) (aD rfl)) (aW 4 rfl rfl (isV _) (fun hNo=>sgV [(2,_)] rfl rfl rfl rfl hNo (aS rfl) ⟨bP rfl,trivial⟩ (fun ev w he hw=>aZ rfl) (aD rfl)) (aW 5 rfl rfl (isV _) (fun hNo=>sgV [(4,_)] rfl rfl rfl rfl hNo (aS rfl) ⟨bP rfl,trivial⟩ (fun ev w he hw=>aV (o':=0) fB rfl rfl) (aD rfl)) (aW 6 rfl rfl (isV _) (fun hNo=>sgV [(93,_)] rfl rfl rfl rfl hNo (aS rfl) ⟨aL 4 (aA rfl rfl rfl),trivial⟩ (fun ev w he hw=>aX isAgg3 rfl ((aJ (hw.at_ 0 (gX (i:=0) (j:=2) rfl rfl)) rfl))) (aD rfl)) (aW 7 rfl rfl (isV _) (fun hNo=>sgV [(92,_),(94,_)] rfl rfl rfl rfl hNo (aS rfl) ⟨aL 3 (aA rfl rfl rfl),aL 5 (aA rfl rfl rfl),trivial⟩ (fun ev w he hw=>bA (j:=gN) underlying35 sizeOf4 rfl rfl (rfl) (by omega) rfl) (aD rfl)) ?_)))))))
    refine aW 8 rfl rfl (isV (.bool true)) (fun hNo=>sgVe [(95,_)] rfl rfl rfl rfl hNo (aS rfl) ⟨aL 6 (aA rfl rfl rfl),trivial⟩ (fun ev w he hw=>aX isAgg4 rfl ((aJ (hw.at_ 2 (pM (he rfl) rfl)) (uU (by rw [gL,hfb];omega))))) (congrArg Value.bool h18) (aD rfl)) ?_
    refine aW 9 rfl rfl (isV _) (fun hNo=>sgV [(96,_)] rfl rfl rfl rfl hNo (aS rfl) ⟨aL 7 (aA rfl rfl rfl),trivial⟩ (fun ev w he hw=>aZ rfl) (aD rfl)) (aW 10 rfl rfl (isV undef) (fun hNo=>rS rfl rfl rfl rfl hNo (bK 97 rfl (aA rfl rfl rfl) rfl) (aD rfl)) (aW 11 rfl rfl (isV undef) (fun hNo=>rS rfl rfl rfl rfl hNo (bK 97 rfl (aA rfl rfl rfl) rfl) (aD rfl)) (aW 12 rfl rfl (isV undef) (fun hNo=>rS rfl rfl rfl rfl hNo (bK 97 rfl (aA rfl rfl rfl) rfl) (aD rfl)) (aW 13 rfl rfl (isV undef) (fun hNo=>rS rfl rfl rfl rfl hNo (bK 97 rfl (aA rfl rfl rfl) rfl) (aD rfl)) (aW 14 rfl rfl (isV undef) (fun hNo=>rS rfl rfl rfl rfl hNo (bK 97 rfl (aA rfl rfl rfl) rfl) (aD rfl)) (aW 15 rfl rfl (isV _) (fun hNo=>sgV [(97,_)] rfl rfl rfl rfl hNo (aS rfl) ⟨aL 8 (aA rfl rfl rfl),trivial⟩ (fun ev w he hw=>dG rfl rfl) (aD rfl)) (aW 16 rfl rfl (isV _) (fun hNo=>sgV [(89,_),(91,_)] rfl rfl rfl rfl hNo (aS rfl) ⟨aL 0 (aA rfl rfl rfl),aL 2 (aA rfl rfl rfl),trivial⟩ (fun ev w he hw=>bA (j:=gN) underlying35 sizeOf4 rfl rfl (rfl) (by omega) rfl) (aD rfl)) ?_)))))))
    refine jJ 17 rfl (nH (py:=isV _) (m:=1) 2 (0+gN * 1) [(104,_)] rfl rfl rfl rfl (by kernel_rfl) rfl rfl (fun j hj=>by rcases hj with h | rfl<;>first | (cases h<;>rfl) | rfl) ⟨aL 15 (aA rfl rfl rfl),trivial⟩ rfl rfl sizeOf4 (fun v w e=>⟨[v],by rw [show v=_ from e];rfl,rfl,by rw [show v=_ from e];rfl⟩) (Nat.ble_eq_true_of_le (by rw [List.length_map,gL,hfb];omega))) ?_
    refine jZ ?_
    intro Bf3 y3 W3 Ks3 hsz3 hKs3 hS' hcov3
    clear hS;have hS:=hS'.castO (O':=(_::_::_::Ot)) rfl;clear hS'
    refine qA (L':=[AwS _ _ (isV _),AwS _ _ (isV _),AwS _ _ (isV _),AwS _ _ (isV _),AwS _ _ (isV _),AwS _ _ (isV _),AwS _ _ (isV _),AwS _ _ (isV (.bool true)),AwS _ _ (isV _),AwS _ _ (isV undef),AwS _ _ (isV undef),AwS _ _ (isV undef),AwS _ _ (isV undef),AwS _ _ (isV undef),(fun v0_ w0_=>v0_=_∧AwS _ _ (isV _) v0_ w0_),AwS _ _ (isV _),isV _]) rfl (bF (bF (bF (bF (bF (bF (bF (bF (bF (bF (bF (bF (bF (bF ?_))))))))))))))
    refine dR ?_;rintro _ ⟨rfl,hA3⟩;have hA3:=hA3.here;cases hA3
    refine bF (tO (cH (aQ (XF.resN (res0 results20) ?_))))
    exact ⟨u,_,ms,rfl,(fun q hq=>List.mem_append_right _ (hKk q hq)),by rw [hms,nT,hx00],HN.more (fun q hq=>List.mem_append_right _ hq),hS.tail.castO (by show ((B,_,_)::(F,eJ _ _ [_],_)::Ot)=_;rw [tT,h18,Bool.true_or])⟩
   ·skip
    refine wE (ef:=16) (jy:=14) (ca:=sQ (fun _=>[])) (ta:=fun _=>0) (Os:=osY _ 2 (0+gN * 1) F ((pT zN bs fb nl).map Value.bool) 4) (Gs:=pR _) (al:=[]) (k:=17) (ds:=[]) bY rfl hS rfl (by kernel_rfl) rfl (by decide) rfl rfl rfl rfl (aW 1 rfl rfl (isV _) (fun hNo=>sgV [(2,_)] rfl rfl rfl rfl hNo (aS rfl) ⟨bP rfl,trivial⟩ (fun ev w he hw=>aZ rfl) (aD rfl)) (aW 2 rfl rfl (isV _) (fun hNo=>sgV [(4,_)] rfl rfl rfl rfl hNo (aS rfl) ⟨bP rfl,trivial⟩ (fun ev w he hw=>aV (o':=0) fB rfl rfl) (aD rfl)) (aW 3 rfl rfl (isV _) (fun hNo=>sgV [(90,_)] rfl rfl rfl rfl hNo (aS rfl) ⟨aL 1 (aA rfl rfl rfl),trivial⟩ (fun ev w he hw=>aX isAgg3 rfl ((aJ (hw.at_ 0 (gX (i:=0) (j:=2) rfl rfl)) rfl))) (aD rfl)) (aW 4 rfl rfl (isV _) (fun hNo=>sgV [(2,_)] rfl rfl rfl rfl hNo (aS rfl) ⟨bP rfl,trivial⟩ (fun ev w he hw=>aZ rfl) (aD rfl)) (aW 5 rfl rfl (isV _) (fun hNo=>sgV [(4,_)] rfl rfl rfl rfl hNo (aS rfl) ⟨bP rfl,trivial⟩ (fun ev w he hw=>aV (o':=0) fB rfl rfl) (aD rfl)) (aW 6 rfl rfl (isV _) (fun hNo=>sgV [(93,_)] rfl rfl rfl rfl hNo (aS rfl) ⟨aL 4 (aA rfl rfl rfl),trivial⟩ (fun ev w he hw=>aX isAgg3 rfl ((aJ (hw.at_ 0 (gX (i:=0) (j:=2) rfl rfl)) rfl))) (aD rfl)) (aW 7 rfl rfl (isV _) (fun hNo=>sgV [(92,_),(94,_)] rfl rfl rfl rfl hNo (aS rfl) ⟨aL 3 (aA rfl rfl rfl),aL 5 (aA rfl rfl rfl),trivial⟩ (fun ev w he hw=>bA (j:=gN) underlying35 sizeOf4 rfl rfl (rfl) (by omega) rfl) (aD rfl)) ?_)))))))
    refine aW 8 rfl rfl (isV (.bool false)) (fun hNo=>sgVe [(95,_)] rfl rfl rfl rfl hNo (aS rfl) ⟨aL 6 (aA rfl rfl rfl),trivial⟩ (fun ev w he hw=>aX isAgg4 rfl ((aJ (hw.at_ 2 (pM (he rfl) rfl)) (uU (by rw [gL,hfb];omega))))) (congrArg Value.bool h18) (aD rfl)) ?_
    refine aW 9 rfl rfl (isV _) (fun hNo=>sgV [(96,_)] rfl rfl rfl rfl hNo (aS rfl) ⟨aL 7 (aA rfl rfl rfl),trivial⟩ (fun ev w he hw=>aZ rfl) (aD rfl)) (aW 10 rfl rfl (isV _) (fun hNo=>sgV [(4,_)] rfl rfl rfl rfl hNo (bE 97 rfl (aA rfl rfl rfl)) ⟨bP rfl,trivial⟩ (fun ev w he hw=>aV (o':=1) gF rfl rfl) (aD rfl)) (aW 11 rfl rfl (isV _) (fun hNo=>sgV [(98,_)] rfl rfl rfl rfl hNo (bE 97 rfl (aA rfl rfl rfl)) ⟨aL 9 (aA rfl rfl rfl),trivial⟩ (fun ev w he hw=>aV (o':=3) nF rfl rfl) (aD rfl)) (aW 12 rfl rfl (isV _) (fun hNo=>sgV [(99,_)] rfl rfl rfl rfl hNo (bE 97 rfl (aA rfl rfl rfl)) ⟨aL 10 (aA rfl rfl rfl),trivial⟩ (fun ev w he hw=>aX isAgg35 rfl ((aJ (hw.at_ 0 (gX (i:=0) (j:=2) rfl rfl)) rfl))) (aD rfl)) (aW 13 rfl rfl (isV _) (fun hNo=>sgV [(100,_)] rfl rfl rfl rfl hNo (bE 97 rfl (aA rfl rfl rfl)) ⟨aL 11 (aA rfl rfl rfl),trivial⟩ (fun ev w he hw=>bA (j:=0) underlying35 sizeOf4 rfl rfl rfl (by omega) (Nat.add_zero _)) (aD rfl)) (aW 14 rfl rfl (isV _) (fun hNo=>sgV [(101,_)] rfl rfl rfl rfl hNo (bE 97 rfl (aA rfl rfl rfl)) ⟨aL 12 (aA rfl rfl rfl),trivial⟩ (fun ev w he hw=>aX isAgg4 rfl (hw.agree.cell (Nat.zero_le _) (k3))) (aD rfl)) (aW 15 rfl rfl (isV _) (fun hNo=>sgV [(97,_),(102,_)] rfl rfl rfl rfl hNo (aS rfl) ⟨aL 8 (aA rfl rfl rfl),aL 13 (aA rfl rfl rfl),trivial⟩ (fun ev w he hw=>dH rfl rfl) (aD rfl)) (aW 16 rfl rfl (isV _) (fun hNo=>sgV [(89,_),(91,_)] rfl rfl rfl rfl hNo (aS rfl) ⟨aL 0 (aA rfl rfl rfl),aL 2 (aA rfl rfl rfl),trivial⟩ (fun ev w he hw=>bA (j:=gN) underlying35 sizeOf4 rfl rfl (rfl) (by omega) rfl) (aD rfl)) ?_)))))))
    refine jJ 17 rfl (nH (py:=isV _) (m:=1) 2 (0+gN * 1) [(104,_)] rfl rfl rfl rfl (by kernel_rfl) rfl rfl (fun j hj=>by rcases hj with h | rfl<;>first | (cases h<;>rfl) | rfl) ⟨aL 15 (aA rfl rfl rfl),trivial⟩ rfl rfl sizeOf4 (fun v w e=>⟨[v],by rw [show v=_ from e];rfl,rfl,by rw [show v=_ from e];rfl⟩) (Nat.ble_eq_true_of_le (by rw [List.length_map,gL,hfb];omega))) ?_
    refine jZ ?_
    intro Bf4 y4 W4 Ks4 hsz4 hKs4 hS' hcov4
    clear hS;have hS:=hS'.castO (O':=(_::_::_::Ot)) rfl;clear hS'
    refine qA (L':=[AwS _ _ (isV _),AwS _ _ (isV _),AwS _ _ (isV _),AwS _ _ (isV _),AwS _ _ (isV _),AwS _ _ (isV _),AwS _ _ (isV _),AwS _ _ (isV (.bool false)),AwS _ _ (isV _),AwS _ _ (isV _),AwS _ _ (isV _),AwS _ _ (isV _),AwS _ _ (isV _),AwS _ _ (isV _),(fun v0_ w0_=>v0_=_∧AwS _ _ (isV _) v0_ w0_),AwS _ _ (isV _),isV _]) rfl (bF (bF (bF (bF (bF (bF (bF (bF (bF (bF (bF (bF (bF (bF ?_))))))))))))))
    refine dR ?_;rintro _ ⟨rfl,hA4⟩;have hA4:=hA4.here;cases hA4
    refine bF (tO (cH (aQ (XF.resN (res0 results20) ?_))))
    exact ⟨u,_,ms,rfl,(fun q hq=>List.mem_append_right _ (hKk q hq)),by rw [hms,nT,hx00],HN.more (fun q hq=>List.mem_append_right _ hq),hS.tail.castO (by show ((B,_,_)::(F,eJ _ _ [_],_)::Ot)=_;rw [tT,h18,Bool.false_or])⟩
theorem oT {α:Type} {f:α→Int}:∀ {l:List α},lU f l=0→∀ x∈l,f x=0
 | [],_,x,hx=>by cases hx
 | a::l,h,x,hx=>by
  unfold lU at h
  split at h
  ·rename_i h1
   rcases List.mem_cons.1 hx with rfl | hx
   ·exact h1
   ·exact oT h x hx
  ·rename_i h1;exact absurd h h1
theorem rW {p:PV} {r:GV} (h:eZ p r=0):inQ r.p p.st=true∧gW r.d=0∧r.d.sy=p.sy:=by
 unfold eZ at h
 split at h
 ·cases h
 ·rename_i h1
  split at h
  ·rename_i h2;exact absurd h h2
  ·rename_i h2
   split at h
   ·cases h
   ·rename_i h3;exact ⟨Bool.not_eq_false _▸h1,Decidable.of_not_not h2,Decidable.of_not_not h3⟩
theorem sX {p:PV} {ls:List GV} (h:gB p ls=0):(∀ r∈ls,eZ p r=0)∧p.st+(sumN ls:Int)≤4096∧iG p.sy ls≤65536:=by
 unfold gB at h
 split at h
 ·rename_i h1;exact absurd h h1
 ·rename_i h1
  split at h
  ·cases h
  ·rename_i h2;exact ⟨oT (Decidable.of_not_not h1),by omega,by omega⟩
theorem Dg {a b:List GV}:sumN (a++b)=sumN a+sumN b:=by simp [sumN]
theorem Dh {s:Int} {a b:List GV}:iG s (a++b)=iG s a+iG s b:=by simp [iG]
theorem tU {s:Int} (hs:0≤s):∀ {a:List GV},0≤iG s a
 | []=>by simp [iG]
 | r::a=>by
  have h:=tU hs (a:=a)
  have h2:0≤((r.d.nl:Int)+1) * s:=Int.mul_nonneg (by omega) hs
  unfold iG at h ⊢
  simp only [List.map_cons,List.sum_cons];omega
theorem rX {ls:List GV} {i:Nat} {r:GV} (h:ls[i]?=some r):sumN (ls.take i)+r.d.nl≤sumN ls:=by
 have h1:=congrArg sumN (List.take_append_drop (i+1) ls)
 rw [Dg,fY h] at h1;omega
theorem Hq {s:Int} (hs:0≤s) {ls:List GV} {i:Nat} {r:GV} (h:ls[i]?=some r):iG s (ls.take i)+((r.d.nl:Int)+1) * s≤iG s ls:=by
 have h1:=congrArg (iG s) (List.take_append_drop (i+1) ls)
 have h2:=tU hs (a:=ls.drop (i+1))
 rw [Dh,kG h] at h1;omega
theorem Je {g z:Int} {ns:List IV} {s n:Nat}:(nT g z ns s n).length=(n+1) * s:=by
 unfold nT;rw [List.length_append,jP,pO,Nat.succ_mul,Nat.add_comm]
def ofT (z s:Nat) (ls:List GV):Nat→List (Int×Int×Int)
 | 0=>[]
 | k+1=>ofT z s ls k++(match ls[k]? with | some r=>nT r.p ((z+sumN (ls.take k):Nat):Int) r.d.ns s r.d.nl | none=>[])
theorem rY {z s:Nat} {ls:List GV} {k:Nat} {r:GV} (h:ls[k]?=some r):ofT z s ls (k+1)=ofT z s ls k++nT r.p ((z+sumN (ls.take k):Nat):Int) r.d.ns s r.d.nl:=by
 rw [ofT,h]
theorem rZ {z s:Nat} {ls:List GV}:∀ {k:Nat},k≤ls.length→((ofT z s ls k).length:Int)=iG (s:Int) (ls.take k)
 | 0,_=>by simp [ofT,iG]
 | k+1,hk=>by
  obtain ⟨r,hr⟩:∃ r,ls[k]?=some r:=⟨ls[k],List.getElem?_eq_getElem _⟩
  rw [rY hr,kG hr,List.length_append,Je,Int.natCast_add,rZ (by omega)]
  congr 1
def wM (z g:Nat) (bs fb:List Bool) (n:Nat):List Bool:=(pT z bs fb n).set g ((pT z bs fb n).getD g false || bs.getD 0 false)
theorem Jf {z g:Nat} {bs fb:List Bool} {n:Nat}:(wM z g bs fb n).length=fb.length:=by rw [wM,List.length_set,gL]
def ofF (z:Nat) (ls:List GV):Nat→List Bool
 | 0=>List.replicate 4096 false
 | k+1=>match ls[k]? with | some r=>wM (z+sumN (ls.take k)) r.p.toNat r.d.bs (ofF z ls k) r.d.nl | none=>ofF z ls k
theorem sA {z:Nat} {ls:List GV} {k:Nat} {r:GV} (h:ls[k]?=some r):ofF z ls (k+1)=wM (z+sumN (ls.take k)) r.p.toNat r.d.bs (ofF z ls k) r.d.nl:=by
 rw [ofF,h]
theorem iX {z:Nat} {ls:List GV}:∀ {k:Nat},(ofF z ls k).length=4096
 | 0=>by rw [ofF,List.length_replicate]
 | k+1=>by
  rw [ofF]
  split
  ·rw [Jf,iX]
  ·exact iX
def dP (fb:List Bool):Nat→List Int
 | 0=>[]
 | n+1=>dP fb n++(bif fb.getD n false then [(n:Int)] else [])
theorem mN {fb:List Bool}:∀ {n:Nat},(dP fb n).length≤n
 | 0=>Nat.le_refl _
 | n+1=>by
  have h:=mN (fb:=fb) (n:=n)
  rw [dP,List.length_append]
  cases fb.getD n false<;>simp<;>omega
theorem yS {α:Type} (a b c:α) (l:List α):(a::b::c::l).Perm (c::b::a::l) :=
 (List.Perm.swap b a _).trans ((List.Perm.cons b (List.Perm.swap c a l)).trans (List.Perm.swap c b (a::l)))
theorem made8 (v:Value) (n:Nat):madeCells #[v] n=(List.replicate n v).toArray:=by
 unfold madeCells
 apply Array.ext
 ·simp
 ·intro i h1 h2
  simp [Nat.mod_one]
theorem made9:madeCells (Value.bool false).cells (4096 * 1)=((List.replicate 4096 false).map Value.bool).toArray:=by
 rw [List.map_replicate];exact (congrArg (madeCells _) (Nat.mul_one _)).trans (made8 _ _)
theorem goes_18:bW prog 18=true:=by kernel_rfl
theorem goes_20:bW prog 20=true:=by kernel_rfl
def lD (p:PV) (ls:List GV):Int:=if dX p≠0 then dX p else gB p ls
def QOf (S:PS) (p:PV) (ls:List GV) (w:World):Ending→World→Prop:=fun e w'=>Below w.heap.size w w' ∧
 ((lD p ls≠0∧e = .returned (.tuple #[.agg #[.int .i64 0,.int .i64 0,.slice none 0 0,.int .i64 0,.int .i64 0,.slice none 0 0,.slice none 0 0],.int .i64 (lD p ls)])) ∨
  (lD p ls=0∧∃ (zN sN:Nat) (sq:SF) (fv tv:Value) (ms:List T9),p.st=(zN:Int)∧p.sy=(sN:Int) ∧
   e = .returned (.tuple #[.agg #[.int .i64 sq.tag,.int .i64 sq.dim,.slice sq.a sq.len sq.cap,.int .i64 ((zN+sumN ls:Nat):Int),.int .i64 p.sy,fv,tv],.int .i64 0]) ∧
   SIs w' S sq∧w'.ownsRow w.heap.size 3 1 fv (dP (ofF zN ls ls.length) (zN+sumN ls)).length ((dP (ofF zN ls ls.length) (zN+sumN ls)).map (Value.int .i64))∧ms.map T9.pl=ofT zN sN ls ls.length∧w'.ownsRow w.heap.size 67 9 tv ms.length (ms.flatMap T9.nine)∧∀ r∈ms,XIs w' S r.x (eV S)))
theorem Hr {fb:List Bool} {k:Nat} (h:fb.getD k false=true):dP fb (k+1)=dP fb k++[(k:Int)]:=by rw [dP,h];rfl
theorem Hs {fb:List Bool} {k:Nat} (h:fb.getD k false=false):dP fb (k+1)=dP fb k:=by rw [dP,h];exact List.append_nil _
theorem pP {S:PS} {p:PV} {ls:List GV} {w w':World} {e:Int} (h:lD p ls=e) (hne:e≠0) (hb:Below w.heap.size w w'):QOf S p ls w (.returned (.tuple #[.agg #[.int .i64 0,.int .i64 0,.slice none 0 0,.int .i64 0,.int .i64 0,.slice none 0 0,.slice none 0 0],.int .i64 e])) w' :=
 ⟨hb,.inl ⟨by rw [h];exact hne,by rw [h]⟩⟩
theorem yT (ds d:Nat) (p:PV) (la:Option Addr) (ll lc:Nat) (ls:List GV) (w:World) (hp:PvIn w ds d p) (hlr:wD w la ls) (hln:ls.length=ll) (hli:∀ r∈ls,DIn w r.d) (hlm:ll≤1000000) (S:PS) (px:RV→PX) (hpx:dX p=0→PdsOk w S px p) :
  Calls prog 5 #[p.val,.slice la ll lc] w (QOf S p ls w):=by
 refine cG (args:=[p.val,.slice la ll lc]) func5 rfl ntmps5 rfl ?_
 have hS:=St.start w
 refine aO (aR (bQ (cs:=[_,_,_,_,_,_]) hS rfl rfl rfl fun B1 W1 hS=>bU (cs:=[_,_,_,_,_,_,_]) hS zeroValue42 rfl rfl fun B2 W2 hS=>aB rfl rfl (aQ (XF.thenN (aO (aO (aR (aU (vs:=[_,_,_,_,_,_]) isAgg28 sizeOf28 rfl (aK.own (j:=0) (m:=6) (hS.at_ 1 rfl) rfl) rfl (bT (vs:=[_]) hS Gi rfl (Hb ds d p _ (hp.below hS.below)) rfl fun W3 hS=>aB rfl rfl (aQ (XF.thenN (aO (aR (aI rfl rfl (cN rfl rfl rfl (aQ (XF.thenN (bC rfl (fun hc=>?_) (fun hc=>?_)))))))))))))))))))
 ·have hc16:=of_decide_eq_true hc;clear hc
  refine aO (aR (cY (us:=[]) rfl (oQ) rfl (aI rfl rfl ?_)))
  refine bB (i:=0) (vs:=[_,_,_,_,_,_,_]) (cs':=[_,_,_,_,_,_,_]) (O':=[_,_]) hS sizeOf42 rfl rfl (by first | rfl | (have h0:=hS.oneV 0 _ rfl;have h1:=hS.oneV 1 _ rfl;simp only [List.all_cons,List.all_nil,Bool.and_true,Bool.and_eq_true];exact ⟨rfl,rfl,rfl,rfl,rfl,h0,h1⟩)) rfl rfl rfl rfl fun W4 hS=>?_
  refine aB rfl rfl (aQ (XF.thenN (bM (XF.thenR (XF.res (jV (vs:=[_,_,_,_,_,_,_]) results5 isAgg42 sizeOf42 rfl (aK.own (j:=0) (m:=7) (hS.at_ 0 rfl) rfl) rfl) ?_)))))
  exact pP (by unfold lD;rw [if_pos hc16]) hc16 hS.below
 ·have hc16:=of_decide_eq_false hc;clear hc
  have hE:dX p=0:=Decidable.of_not_not hc16
  have hok:=hpx hE
  have hst:0≤p.st∧p.st≤4096:=hok.st
  have hsy:0≤p.sy∧p.sy≤4096:=hok.sy
  obtain ⟨zN,hz⟩:∃ n:Nat,p.st=(n:Int):=⟨p.st.toNat,by omega⟩
  obtain ⟨sN,hs⟩:∃ n:Nat,p.sy=(n:Int):=⟨p.sy.toNat,by omega⟩
  refine bH (XF.thenN (aO (aO (aR (aU (vs:=[_,_,_,_,_,_]) isAgg28 sizeOf28 rfl (aK.own (j:=0) (m:=6) (hS.at_ 1 rfl) rfl) rfl (aI rfl rfl (bT (vs:=[_,_]) hS goes_18 rfl (Aw p la ll lc ls _ (hlr.below hS.below) hln (fun r hr=>(hli r hr).below hS.below) hlm hst hsy) rfl fun W5 hS=>aB rfl rfl (aQ (XF.thenN (aO (aR (aI rfl rfl (cN rfl rfl rfl (aQ (XF.thenN (bC rfl (fun hc=>?_) (fun hc=>?_)))))))))))))))))
  ·have hc23:=of_decide_eq_true hc;clear hc
   refine aO (aR (cY (us:=[]) rfl (oQ) rfl (aI rfl rfl ?_)))
   refine bB (i:=0) (vs:=[_,_,_,_,_,_,_]) (cs':=[_,_,_,_,_,_,_]) (O':=[_,_]) hS sizeOf42 rfl rfl (by first | rfl | (have h0:=hS.oneV 0 _ rfl;have h1:=hS.oneV 1 _ rfl;simp only [List.all_cons,List.all_nil,Bool.and_true,Bool.and_eq_true];exact ⟨rfl,rfl,rfl,rfl,rfl,h0,h1⟩)) rfl rfl rfl rfl fun W6 hS=>?_
   refine aB rfl rfl (aQ (XF.thenN (bM (XF.thenR (XF.res (jV (vs:=[_,_,_,_,_,_,_]) results5 isAgg42 sizeOf42 rfl (aK.own (j:=0) (m:=7) (hS.at_ 0 rfl) rfl) rfl) ?_)))))
   exact pP (by unfold lD;rw [if_neg hc16]) hc23 hS.below
  ·have hc23:=of_decide_eq_false hc;clear hc
   have hoE:lD p ls=0:=by unfold lD;rw [if_neg hc16];exact Decidable.of_not_not hc23
   obtain ⟨hpe,hsN,hsT⟩:=sX (show gB p ls=0 from Decidable.of_not_not hc23)
   refine bH (XF.thenN (aO (aR (aU (vs:=[_,_,_,_,_,_]) isAgg28 sizeOf28 rfl (aK.own (j:=0) (m:=6) (hS.at_ 1 rfl) rfl) rfl (mJ (vs:=[_]) Ho rfl (tQ S p _ _ _ w _ hS hok.si hok.ok) rfl ?_)))))
   rintro e W9 ⟨Bm,f0,sq,Kn,rfl,hsub,HSp,hS9⟩
   refine ⟨_,rfl,?_⟩
   clear hS;have hS:=hS9;clear hS9
   refine aB rfl rfl (aQ (XF.thenN (aO (aR ?_))))
   refine F6 (m:=4096) (cs:=(List.replicate 4096 false).map Value.bool) hS underlying35 Mg rfl rfl rfl (rfl) (rfl) (made9) (by show (1:Int) * _≤_;omega) (by omega) rfl fun B7 W7 hS=>?_
   refine aB rfl rfl (aQ (XF.thenN (aO (aO ?_))))
   have hS:=hS.newG 67 9
   refine aR (aI rfl rfl (bX underlying29 rfl rfl (aI rfl rfl (aQ (XF.thenN (bI (cX (fun m l W=>∃ (i:Nat) (u:Value) (Kk:List (Nat×World)) (ms:List T9),i≤ll∧m=ll - i∧ms.map T9.pl=ofT zN sN ls i∧l=[(2,.pointer (some ⟨B1,0,none⟩)),(4,.pointer (some ⟨B2,0,none⟩)),(8,.pointer (some ⟨Bm,0,none⟩)),(9,.slice (some ⟨B7,0,none⟩) 4096 4096),(29,.slice la ll lc),(30,.int .i64 (ll:Int)),(31,.int .i64 (i:Int))]∧iT w Kk (fun W2=>SIs W2 S sq∧∀ r∈ms,XIs W2 S r.x (eV S))∧St w ((B7,(ofF zN ls i).map Value.bool,4)::(Bm,mkC p.s.f f0 sq ((zN+sumN (ls.take i):Nat):Int) p.sy (.slice none 0 0) u,76)::[(B2,[.int .i64 0,.int .i64 0,.slice none 0 0,.int .i64 0,.int .i64 0,.slice none 0 0,.slice none 0 0],42),(B1,p.six,28)]) [⟨u,ms.length,ms.flatMap T9.nine,67,9⟩] Kk W) (ll - 0) ([(2,_),(4,_),(8,_),(9,_),(29,_),(30,_),(31,_)]) ⟨rfl,rfl,rfl,rfl,rfl,rfl,rfl,trivial⟩ (⟨0,_,_,[],Nat.zero_le _,rfl,rfl,rfl,(fun h2 hk=>⟨HSp h2 hk,fun r hr=>by cases hr⟩),hS.castO (by simp [sumN,hz,ofF])⟩) ?_)))))))
   clear hS
   rintro m l W ⟨i,u,Kk,ms,hi,rfl,hms,rfl,HN,hS⟩
   refine aO (aR (cC rfl rfl rfl (aQ (XF.thenN (aO (bC rfl (fun hc=>?_) (fun hc=>?_)))))))
   ·have hc32:=of_decide_eq_true hc;clear hc
    have hk:i < ll:=by omega
    obtain ⟨r,hr⟩:∃ r,ls[i]?=some r:=⟨ls[i]'(by omega),by simp [show i < ls.length by omega]⟩
    obtain ⟨b,off,rfl,hcs⟩:=hlr i r hr
    have k1:=aK.agree hS.agree (Nat.zero_le _) hcs
    have hrm:=List.mem_of_getElem? hr
    have hdi:=hli r hrm
    obtain ⟨hin,hde,hsr⟩:=rW (hpe r hrm)
    have hin9:0≤r.p∧r.p < p.st:=by simpa [inQ] using hin
    have hml:(ms.length:Int)=iG p.sy (ls.take i):=by
     have h9:=congrArg List.length hms
     rw [List.length_map] at h9
     rw [h9,rZ (by omega),hs]
    have hle1:=rX hr
    have hle2:=Hq hsy.1 hr
    have hcn9:(((r.d.nl+1) * sN:Nat):Int)=((r.d.nl:Int)+1) * p.sy:=by rw [hs];rfl
    refine bH (XF.thenN (aO (bI (aO (aR (cJ  underlying29 sizeOf39 rfl rfl rfl (by omega) rfl rfl (aU (vs:=[_,_,_,_]) isAgg39 sizeOf39 rfl (k1) rfl (bU (cs:=[_,_,_,_]) hS zeroValue39 rfl rfl fun B8 W8 hS=>?_))))))))
    refine bB (i:=0) (vs:=[_,_,_,_]) (cs':=[_,_,_,_]) (O':=[_,_,_,_,_]) hS sizeOf39 rfl rfl (by first | rfl | (have h0:=hS.oneV 0 _ rfl;have h1:=hS.oneV 1 _ rfl;simp only [List.all_cons,List.all_nil,Bool.and_true,Bool.and_eq_true];exact ⟨rfl,rfl,rfl,rfl,rfl,h0,h1⟩)) rfl rfl rfl rfl fun W9 hS=>?_
    refine aQ (XF.thenN (aR (aI rfl rfl (aU (vs:=[_,_,_,_]) isAgg39 sizeOf39 rfl (aK.own (j:=0) (m:=4) (hS.at_ 0 rfl) rfl) rfl (aI rfl rfl (mJ (vs:=[_,_,_]) goes_20 rfl (Mz S p.s.f f0 sq (zN+sumN (ls.take i)) p.sy (.slice none 0 0) u ms.length (ms.flatMap T9.nine) Bm _ (ofF zN ls i) _ _ w r.p r.p.toNat r.d.sy sN r.d.na r.d.nl r.d.nc r.d.ns r.d.aa r.d.al r.d.ac r.d.bs _ (hS.perm (yS _ _ _ _)) hok.si hok.ok hdi hde (by omega) (by omega) (by omega) iX (by omega) (by omega)) rfl ?_))))))
    rintro e W9 ⟨u9,Kn9,ms9,rfl,hsub9,hms9,HX9,hS9⟩
    refine ⟨_,rfl,?_⟩
    clear hS;have hS:=hS9.perm (yS _ _ _ _);clear hS9
    refine aQ (XF.blkN (XF.thenN (aR (cE rfl rfl (IntWalk.i64_in _ (by omega)) rfl (aI rfl rfl (aQ ?_))))))
    exact XF.round (ll - (i+1)) [(2,_),(4,_),(8,_),(9,_),(29,_),(30,_),(31,_)] (by omega) ⟨rfl,rfl,rfl,rfl,rfl,rfl,rfl,trivial⟩ ⟨i+1,u9,Kn9,ms++ms9,by omega,rfl,by rw [List.map_append,hms,hms9,rY hr],rfl,(fun h2 hk=>⟨(HN h2 (fun q hq=>hk q (hsub9 q hq))).1,fun r hr=>by
      rcases List.mem_append.1 hr with hr | hr
      ·exact (HN h2 (fun q hq=>hk q (hsub9 q hq))).2 r hr
      ·exact HX9 h2 hk r hr⟩),(hS.tail.castO (by rw [sA hr,fY hr];simp [wM,Int.add_assoc])).castG (by simp)⟩
   ·have hc32:=of_decide_eq_false hc;clear hc
    have htk:ls.take i=ls:=List.take_of_length_le (by omega)
    rw [htk] at hS
    rw [show i=ls.length by omega] at hms hS
    have hS:=hS.newG 3 1
    refine cW (XF.thenX (XF.thenX (XF.blkX (XF.thenN (aO (aO (aR (aI rfl rfl (eG rfl rfl (aN (o':=9) fC rfl rfl rfl (aN (o':=12) dO rfl rfl rfl (aT isAgg3 rfl (aJ (hS.at_ 1 rfl) rfl) rfl (aI rfl rfl (aQ (XF.thenN (bI (cX (fun m l W=>∃ (k:Nat) (v:Value),k≤zN+sumN ls∧m=zN+sumN ls - k∧l=[(2,.pointer (some ⟨B1,0,none⟩)),(4,.pointer (some ⟨B2,0,none⟩)),(8,.pointer (some ⟨Bm,0,none⟩)),(9,.slice (some ⟨B7,0,none⟩) 4096 4096),(44,.int .i64 ((zN+sumN ls:Nat):Int)),(45,.int .i64 (k:Int))]∧St w ((B7,(ofF zN ls ls.length).map Value.bool,4)::(Bm,mkC p.s.f f0 sq ((zN+sumN ls:Nat):Int) p.sy v u,76)::[(B2,[.int .i64 0,.int .i64 0,.slice none 0 0,.int .i64 0,.int .i64 0,.slice none 0 0,.slice none 0 0],42),(B1,p.six,28)]) [⟨v,(dP (ofF zN ls ls.length) k).length,(dP (ofF zN ls ls.length) k).map (Value.int .i64),3,1⟩,⟨u,ms.length,ms.flatMap T9.nine,67,9⟩] Kk W) (zN+sumN ls - 0) ([(2,_),(4,_),(8,_),(9,_),(44,_),(45,_)]) ⟨rfl,rfl,rfl,rfl,rfl,rfl,trivial⟩ (⟨0,_,Nat.zero_le _,rfl,rfl,hS⟩) ?_)))))))))))))))))
    clear hS
    rintro m l W ⟨k,v,hk0,rfl,rfl,hS⟩
    refine aO (aR (cC rfl rfl rfl (aQ (XF.thenN (aO (bC rfl (fun hc=>?_) (fun hc=>?_)))))))
    ·have hc46:=of_decide_eq_true hc;clear hc
     have hk:k < zN+sumN ls:=by omega
     have hel:=mN (fb:=ofF zN ls ls.length) (n:=k)
     refine bH (XF.thenN (aO (bI (aO (aR (aI rfl rfl (aB rfl rfl (aQ (XF.thenN (aO (aR (aI rfl rfl (aI rfl rfl (cJ (j:=k) underlying35 sizeOf4 rfl rfl (rfl) (by omega) rfl rfl ?_))))))))))))))
     refine aT isAgg4 rfl (aJ (hS.at_ 0 rfl) (uU (by rw [iX];omega))) rfl ?_
     refine aQ (XF.thenN (bC rfl (fun hc=>?_) (fun hc=>?_)))
     ·have hc51:=hc;clear hc
      refine aR (aI rfl rfl (aI rfl rfl (eG rfl rfl (aN (o':=9) fC rfl rfl rfl (aN (o':=14) eB rfl rfl rfl (aT isAgg30 rfl (aJ (hS.at_ 1 rfl) rfl) rfl (aI rfl rfl (dE (us:=[(0,.int .i64 _)]) hS underlying30 sizeOf3 zeroValue3 rfl rfl rfl (uG _) rfl fun B10 W10 hS=>?_))))))))
      refine iZ (i:=0) (news:=[_]) hS underlying30 inf_3 rfl rfl (by show 0 < 1;decide) rfl rfl rfl rfl rfl (aK.own (j:=0) (m:=1) (hS.at_ 0 rfl) rfl) rfl rfl (by dsimp only;simp only [maxLen];omega) (by dsimp only;show _ * 8≤_;omega) rfl fun v11 W11 hS=>?_
      refine eG rfl rfl (aN (o':=9) fC rfl rfl rfl (aN (o':=14) eB rfl rfl rfl (dK (i:=2) (cs':=[_,_,_,_,_,_,_,_,_,_,_,_,_,_,_,_]) (O':=[_,_,_,_,_]) hS sizeOf30 rfl rfl (by first | rfl | exact (hS.oneV 0 _ rfl :) | exact (hS.oneV 1 _ rfl :) | exact (hS.oneV 2 _ rfl :) | exact (hS.oneV 3 _ rfl :)) rfl rfl rfl rfl fun W12 hS=>aQ (XF.blkN (XF.thenN (aR (cE rfl rfl (IntWalk.i64_in _ (by omega)) rfl (aI rfl rfl (aQ ?_)))))))))
      exact XF.round (zN+sumN ls - (k+1)) [(2,_),(4,_),(8,_),(9,_),(44,_),(45,_)] (by omega) ⟨rfl,rfl,rfl,rfl,rfl,rfl,trivial⟩ ⟨k+1,_,by omega,rfl,rfl,hS.tail.castG (by rw [Hr hc51];simp)⟩
     ·have hc51:=hc;clear hc
      refine bH (XF.blkN (XF.thenN (aR (cE rfl rfl (IntWalk.i64_in _ (by omega)) rfl (aI rfl rfl (aQ ?_))))))
      exact XF.round (zN+sumN ls - (k+1)) [(2,_),(4,_),(8,_),(9,_),(44,_),(45,_)] (by omega) ⟨rfl,rfl,rfl,rfl,rfl,rfl,trivial⟩ ⟨k+1,_,by omega,rfl,rfl,hS.castG (by rw [Hs hc51])⟩
    ·have hc46:=of_decide_eq_false hc;clear hc
     have hke:k=zN+sumN ls:=by omega
     subst hke
     refine cW (XF.thenX (XF.thenX (XF.blkX (XF.thenN (aO (aR (aI rfl rfl (eG rfl rfl (aN (o':=9) fC rfl rfl rfl (aU (vs:=[_,_,_,_,_,_,_]) isAgg42 sizeOf42 rfl (aK.own (j:=9) (m:=7) (hS.at_ 1 rfl) rfl) rfl ?_))))))))))
     refine bB (i:=2) (vs:=[_,_,_,_,_,_,_]) (cs':=[_,_,_,_,_,_,_]) (O':=[_,_,_,_]) hS sizeOf42 rfl rfl (by first | rfl | (have h0:=hS.oneV 0 _ rfl;have h1:=hS.oneV 1 _ rfl;simp only [List.all_cons,List.all_nil,Bool.and_true,Bool.and_eq_true];exact ⟨rfl,rfl,rfl,rfl,rfl,h0,h1⟩)) rfl rfl rfl rfl fun W13 hS=>?_
     refine aB rfl rfl (aQ (XF.thenN (bM (XF.res (jV (vs:=[_,_,_,_,_,_,_]) results5 isAgg42 sizeOf42 rfl (aK.own (j:=0) (m:=7) (hS.at_ 2 rfl) rfl) rfl) ?_))))
     exact ⟨hS.below,.inr ⟨hoE,zN,sN,sq,_,_,ms,hz,hs,rfl,(HN.now (hS.keep Kk (fun q hq=>by simp [hq]))).1,hS.row 0 rfl,hms,hS.row 1 rfl,(HN.now (hS.keep Kk (fun q hq=>by simp [hq]))).2⟩⟩
def gM (k:Nat) (os:List Oper):List Oper:=os.take k++(os.drop k).map fun o=>{ o with dst:=none }
def Ht (k:Nat) (os:List Oper):Bool:=(os.take k).all fun o=>match o.guard with | none=>true | some (g,_)=>Nat.blt g k
section
variable {k:Nat} {os:List Oper}
theorem A6:(gM k os).length=os.length:=by unfold gM;simp;omega
theorem Fm:(gM k os).toArray.size=os.toArray.size:=by simp [A6]
theorem jQ {i:Nat} (h:i < k):(gM k os).toArray[i]?=os.toArray[i]?:=by
 simp only [List.getElem?_toArray]
 unfold gM
 by_cases hi:i < os.length
 ·rw [List.getElem?_append_left (by simp;omega),List.getElem?_take,if_pos h]
 ·rw [List.getElem?_eq_none (by simp;omega),List.getElem?_eq_none (by omega)]
theorem Di {i:Nat} (h:k≤i):(gM k os).toArray[i]?=(os.toArray[i]?).map fun o=>{ o with dst:=none }:=by
 simp only [List.getElem?_toArray]
 unfold gM
 by_cases hi:i < os.length
 ·rw [List.getElem?_append_right (by simp;omega),List.getElem?_map,List.getElem?_drop]
  congr 2
  simp;omega
 ·rw [List.getElem?_eq_none (by simp;omega),List.getElem?_eq_none (by omega)];rfl
theorem yU (i:Nat):aft (gM k os).toArray i=aft os.toArray i:=by
 unfold aft
 rcases Nat.lt_or_ge i k with h | h
 ·rw [jQ h]
 ·rw [Di h]
  cases os.toArray[i]?<;>rfl
theorem Jg {j d:Nat} (h:((gM k os).toArray[j]?).bind (·.dst)=some d):j < k∧(os.toArray[j]?).bind (·.dst)=some d:=by
 rcases Nat.lt_or_ge j k with hj | hj
 ·rw [jQ hj] at h;exact ⟨hj,h⟩
 ·rw [Di hj] at h
  cases ho:os.toArray[j]? with
  | none=>rw [ho] at h;cases h
  | some o=>rw [ho] at h;cases h
theorem Dj {i j d:Nat} (hi:i < k) (h:bO (gM k os).toArray i j d=true):j < k∧bO os.toArray i j d=true:=by
 unfold bO at h ⊢
 rw [jQ hi] at h
 rw [Bool.and_eq_true,beq_iff_eq] at h ⊢
 obtain ⟨h1,h2⟩:=Jg h.2
 exact ⟨h1,h.1,h2⟩
theorem M0 {i d:Nat} (hi:i < k) (h:(os.toArray[i]?).bind (·.dst)=some d):freeT (gM k os).toArray d=false:=by
 cases hf:freeT (gM k os).toArray d with
 | false=>rfl
 | true =>
  unfold freeT at hf
  obtain ⟨o,ho,hod⟩:=Option.bind_eq_some_iff.1 h
  have h2:=jQ (os:=os) hi
  rw [ho] at h2
  have:=Array.all_eq_true'.1 hf o (Array.mem_of_getElem? h2)
  rw [hod] at this
  simp at this
variable {P:Program} {Q:Exit→Act→World→Prop} {σ:Type}
theorem Fn {t0:Array Value} {G:σ→World→Prop} {I:σ→Nat→Value→World→Prop} {V:σ→Array Bool→Prop} {i:Nat} (hg:Ht k os=true) (hi:i < k) (h:Hc P (gM k os).toArray Q t0 G I V i) :
  E1 P (freeT (gM k os).toArray) os.toArray Q t0 G (fun s j v w=>j < k→I s j v w) V i:=fun s L a w hF hG hV hs hc hr hD=>by
 have key:=h s L a w hF hG hV (by rw [Fm];exact hs) (fun j hj x hx=>hc j hj x (by rw [← yU (k:=k)];exact hx)) ⟨hr.1,fun x hx=>hr.2 x (by rw [← yU (k:=k)];exact hx)⟩ (fun j d hw=>by
  obtain ⟨h1,h2⟩:=Dj hi hw
  exact hD j d h2 h1)
 have e:wpOp P (gM k os).toArray Q i=wpOp P os.toArray Q i:=by
  funext K a w
  unfold wpOp
  rw [jQ hi]
  cases ho:os.toArray[i]? with
  | none=>rfl
  | some o =>
   have hy:Region.wanted o (yielded (gM k os).toArray a.tmps)=Region.wanted o (yielded os.toArray a.tmps):=by
    unfold Region.wanted
    cases hgd:o.guard with
    | none=>rfl
    | some g =>
     obtain ⟨g,b⟩:=g
     have hm:o∈os.take k:=List.mem_of_getElem? (i:=i) (by rw [List.getElem?_take,if_pos hi];simpa using ho)
     have h3:=List.all_eq_true.1 hg o hm
     rw [hgd] at h3
     have h4:g < k:=Nat.lt_of_lt_of_le (Nat.lt_succ_self _) (Nat.le_of_ble_eq_true h3)
     show (yielded (gM k os).toArray a.tmps g == some b)=(yielded os.toArray a.tmps g == some b)
     unfold yielded
     rw [jQ h4]
   show (if Region.wanted o (yielded (gM k os).toArray a.tmps) then _ else _)=_
   rw [hy]
 rw [e] at key
 refine wpOp_mono ?_ key
 rintro a' w' ⟨s',v,h1,h2,h3,h4,h5⟩
 rw [jQ hi] at h1 h4
 refine ⟨s',v,h1,h2,h3,fun d hd _=>h4 d hd,fun j d _ hd hI hj=>h5 j d (by rw [jQ hj];exact hd) (hI hj)⟩
end
section
variable {P:Program} {n:Nat} {Q:Exit→Act→World→Prop} {l:Fr} {w0 W:World} {ops:Array Oper} {os:List Oper} {K:List (Nat×World)} {L:List Asr} {i:Nat}
variable {al:List Nat} {ca:Nat→Option Value→List Value} {ta:Nat→TypeId} {Os:Option Value→Own} {Gs:Option Value→cR} {lo ef jy:Nat} {s:Sg}
theorem regSF {id k:Nat} (hm:P.follows .mixedOrders=true) (hlo:lo=W.heap.size) (hS:St w0 (Os none) (Gs none) K W) (hk:Nat.blt k os.length=true) (htl:tM os.toArray k=true) (ht:dQ os.toArray n=true) (ht2:dQ (gM k os).toArray n=true) (hgd:Ht k os=true) (hal:al.all (fun a=>Nat.blt a k)=true) (hnd:al.Nodup) (hea:al.contains ef=false)
  (evE:Value→Option Value) (hev:(Nat.blt ef k=true∧evE=some)∨(Nat.ble os.length ef=true∧Nat.ble os.length jy=true∧evE=fun _=>none)) (hdst:(List.range k).all (fun j=>Nat.beq j ef || ((os.toArray[j]?).bind (·.dst)).isSome)=true)
  (h:BLS P n (gM k os).toArray Q l w0 K lo al ef jy ca ta Os Gs (fun Lr=>∀ (Bf:Nat→Nat) (y:Value) (W':World) (Ks:List (Nat×World)),W.heap.size≤W'.heap.size→(∀ q∈Ks,lo≤q.1)→St w0 (al.map (fun a=>(Bf a,ca a (evE y),ta a))++Os (evE y)) (Gs (evE y)) (Ks++K) W' →
   (∀ {O2 G2 K2 W2},St w0 O2 G2 K2 W2→(∀ q∈Ks,q∈K2)→eP lo (XB (al.map (fun a=>(Bf a,ca a (evE y),ta a))++Os (evE y)) (Gs (evE y))) W' W2) →
   jS (os.take k) (Aq al ef jy lo (XB (al.map (fun a=>(Bf a,ca a (evE y),ta a))++Os (evE y)) (Gs (evE y))) Bf y 0 Lr.reverse) l (fun l' W'=>cT P n os.toArray Q (os.drop k) l' W') W') k [] 0):eC P n (.region id os.toArray true) Q l W:=by
 obtain ⟨Lr,h1,h2,hfin⟩:=uQ ht2 k 0 [] rfl (fun j _=>by rfl) (fun i hi=>by omega) h
 rw [Nat.zero_add] at h1 h2
 have hk':k < os.length:=Nat.lt_of_lt_of_le (Nat.lt_succ_self _) (Nat.le_of_ble_eq_true hk)
 have hal':∀ a∈al,a < k:=fun a ha=>Nat.lt_of_lt_of_le (Nat.lt_succ_self _) (Nat.le_of_ble_eq_true (List.all_eq_true.1 hal a ha))
 have hea':ef∉al:=fun h=>by rw [List.contains_iff_mem.2 h] at hea;cases hea
 intro a ha
 refine wp_region_any hm (qB (fr:=freeT (gM k os).toArray) (t0:=a.tmps) (d0:=a.defers) (V:=VG al ef) (I:=fun s j v w=>j < k→IG al ef jy lo ca ta Os Gs Lr.reverse s j v w) (G:=GG w0 K lo ca ta Os Gs) (k:=k) (fun _ _ h1 h2=>M0 h1 h2) (by simpa using hk') htl (by rw [ha.size];exact ht) (fun i hi=>Fn hgd hi ((h2 i hi).step a ha)) ?_ _ ⟨none,[]⟩ _ _ _ (by simp) (iD _) (fun j hj=>by rw [Array.getD_eq_getD_getElem?,Array.getElem?_replicate] at hj;split at hj<;>simp at hj) (fun i _=>by rw [Array.getD_eq_getD_getElem?,Array.getElem?_replicate];split<;>rfl) ⟨rfl,rfl,fun _ _=>rfl,⟨by unfold OE;exact hS.drew,by rw [hlo];exact Nat.le_refl _,(fun q hq=>by cases hq)⟩,⟨fun a _=>?_,(fun q hq=>by cases hq),List.Pairwise.nil,?_⟩,fun i d _ hj=>?_⟩)
 ·intro s LB a' W' hR hdone hnot
  obtain ⟨hG,hG2,hG3⟩:=hR.glob
  obtain ⟨v1,v2,v3,v4⟩:=hR.cons
  obtain ⟨ev,bs⟩:=s
  have hall:∀ x∈al,(x,bAt bs x)∈bs:=fun x hx=>uR ((v1 x hx).1 (hdone x (hal' x hx)))
  obtain ⟨y,hy⟩:∃ y,ev=evE y:=by
   rcases hev with ⟨e1,e2⟩ | ⟨e1,e3,e2⟩
   ·have h3:ev.isSome=true:=v4.1 (hdone ef (Nat.lt_of_lt_of_le (Nat.lt_succ_self _) (Nat.le_of_ble_eq_true e1)))
    obtain ⟨y,hy⟩:=Option.isSome_iff_exists.1 h3
    exact ⟨y,by rw [hy,e2]⟩
   ·refine ⟨undef,?_⟩
    rw [e2]
    have h3:=hnot ef (by have:=Nat.le_of_ble_eq_true e1;omega)
    cases ev with
    | none=>rfl
    | some v=>have:=v4.2 rfl;rw [h3] at this;cases this
  subst hy
  have hperm:bs.Perm (al.map (fun x=>(x,bAt bs x))):=by
   refine (List.perm_ext_iff_of_nodup (v3.imp (fun h e=>h (by rw [e]))) ?_).2 fun q=>?_
   ·refine List.Pairwise.map _ (fun x y (hxy:x≠y)=>?_) hnd
    intro e;exact hxy (congrArg Prod.fst e)
   ·constructor
    ·intro hq
     have h3:=hall q.1 (v2 q hq)
     have h4:=mI v3 hq h3 rfl
     rw [h4]
     exact List.mem_map.2 ⟨q.1,v2 q hq,rfl⟩
    ·intro hq
     obtain ⟨x,hx,rfl⟩:=List.mem_map.1 hq
     exact hall x hx
  have hO:(OE ca ta Os ⟨evE y,bs⟩).Perm (al.map (fun a=>(bAt bs a,ca a (evE y),ta a))++Os (evE y)):=by
   unfold OE
   refine List.Perm.append_right _ ?_
   have:=hperm.map (fun q:Nat×Nat=>(q.2,ca q.1 (evE y),ta q.1))
   rw [List.map_map] at this
   exact this
  have hG':=hG.perm hO
  have hX:∀ b,XB (OE ca ta Os ⟨evE y,bs⟩) (Gs (evE y)) b↔XB (al.map (fun a=>(bAt bs a,ca a (evE y),ta a))++Os (evE y)) (Gs (evE y)) b:=fun b=>by
   unfold XB
   constructor
   ·rintro (⟨p,hp,e⟩ | h);exact .inl ⟨p,hO.mem_iff.1 hp,e⟩;exact .inr h
   ·rintro (⟨p,hp,e⟩ | h);exact .inl ⟨p,hO.mem_iff.2 hp,e⟩;exact .inr h
  obtain ⟨Ks,c1,⟨qw,c2,c3⟩,c4⟩:=Ey (((al.map (fun a=>(bAt bs a,ca a (evE y),ta a))++Os (evE y)).map (·.1))++(Gs (evE y)).filterMap (fun g=>g.v.ownBlock)) lo W'
  have hG4:=hG'.more Ks (fun q hq=>⟨(c1 q hq).2.1,fun p hp=>(c1 q hq).2.2 p.1 (List.mem_append_left _ (List.mem_map.2 ⟨p,hp,rfl⟩)),fun g hg b hb=>(c1 q hq).2.2 b (List.mem_append_right _ (List.mem_filterMap.2 ⟨g,hg,hb⟩))⟩)
  have hcov:∀ {O2 G2 K2 W2},St w0 O2 G2 K2 W2→(∀ q∈Ks,q∈K2)→eP lo (XB (al.map (fun a=>(bAt bs a,ca a (evE y),ta a))++Os (evE y)) (Gs (evE y))) W' W2:=fun {O2 G2 K2 W2} h2 hq=>by
   refine ⟨⟨h2.below.os.trans hG.below.os.symm,h2.below.tape.trans hG.below.tape.symm,h2.below.output.trans hG.below.output.symm⟩,?_,fun b b1 b2 b3=>?_⟩
   ·have:=(h2.kept qw (hq qw c2)).1.1;rw [c3] at this;exact this
   ·obtain ⟨q,q1,q2,q3⟩:=c4 b b1 b2 (fun hb=>b3 (by
     rcases List.mem_append.1 hb with hb | hb
     ·obtain ⟨p,hp,rfl⟩:=List.mem_map.1 hb
      exact .inl ⟨p,hp,rfl⟩
     ·obtain ⟨g,hg,e⟩:=List.mem_filterMap.1 hb
      exact .inr ⟨g,hg,e⟩))
    exact ((h2.kept q (hq q q1)).1.2 b q2 q3).trans ((c1 q q1).2.1.2 b q2 q3).symm
  have htk:(os.take k).length=k:=by simp;omega
  refine mH (os.take k) (Aq al ef jy lo (XB (al.map (fun a=>(bAt bs a,ca a (evE y),ta a))++Os (evE y)) (Gs (evE y))) (bAt bs) y 0 Lr.reverse) l (fun i d hi hd'=>?_) (fun i hi hd'=>?_) (hR.size.trans ha.size) (hR.defers.trans ha.defers) ?_ (fun l' h ha'=>?_) (hfin (bAt bs) y W' Ks (by rw [← hlo];exact hG2) (fun q hq=>(c1 q hq).1) hG4 hcov)
  ·have hik:i < k:=by omega
   have hd2:(os.toArray[i]?).bind (·.dst)=some d:=by rw [List.getElem?_take,if_pos hik] at hd';simpa using hd'
   obtain ⟨i1,i2,i3,i4⟩:=hR.done i d hd2 (hdone i hik) hik
   rw [kX Lr.reverse 0 i (by simp;omega),Nat.add_zero]
   cases hc1:al.contains i with
   | true =>
    rw [cond_true]
    obtain ⟨B,hB,e⟩:=i1 (List.contains_iff_mem.1 hc1)
    have:=mI v3 hB (hall i (List.contains_iff_mem.1 hc1)) rfl
    show _=_
    rw [e,show B=bAt bs i from congrArg Prod.snd this]
   | false =>
    rw [cond_false]
    have hni:i∉al:=fun hm'=>by rw [List.contains_iff_mem.2 hm'] at hc1;cases hc1
    cases hc2:Nat.beq i ef with
    | true =>
     rw [cond_true]
     have h5:=i2 (Nat.eq_of_beq_eq_true hc2)
     rcases hev with ⟨e1,e2⟩ | ⟨e1,e3,e2⟩
     ·rw [e2] at h5
      exact (Option.some.inj h5).symm
     ·rw [e2] at h5;cases h5
    | false =>
     rw [cond_false]
     have hne:i≠ef:=fun e=>by rw [e,Nat.beq_refl] at hc2;cases hc2
     have h6:AwS lo (XB (al.map (fun a=>(bAt bs a,ca a (evE y),ta a))++Os (evE y)) (Gs (evE y))) (atI Lr.reverse i) (a'.tmps.getD d undef) W':=fun w2 hw2=>i4 hni hne w2 ⟨hw2.1,hw2.2.1,fun b b1 b2 b3=>hw2.2.2 b b1 b2 (fun hb=>b3 ((hX b).2 hb))⟩
     cases hc3:Nat.beq i jy with
     | true =>
      rw [cond_true]
      refine ⟨?_,h6⟩
      rcases hev with ⟨e1,e2⟩ | ⟨e1,e3,e2⟩
      ·exact i3 (Nat.eq_of_beq_eq_true hc3) y (by rw [e2])
      ·have:=Nat.le_of_ble_eq_true e3
       have:=Nat.eq_of_beq_eq_true hc3
       omega
     | false=>rw [cond_false];exact h6
  ·have hik:i < k:=by omega
   have h3:=List.all_eq_true.1 hdst i (List.mem_range.2 hik)
   rw [Bool.or_eq_true] at h3
   have hd2:(os.toArray[i]?).bind (·.dst)=none:=by rw [List.getElem?_take,if_pos hik] at hd';simpa using hd'
   rcases h3 with h3 | h3
   ·rw [kX Lr.reverse 0 i (by simp;omega),Nat.add_zero]
    have hc1:al.contains i=false:=by rw [Nat.eq_of_beq_eq_true h3];exact hea
    rw [hc1,cond_false,h3,cond_true]
    exact ⟨y,rfl⟩
   ·rw [hd2] at h3;cases h3
  ·intro t v hv hno
   rw [hR.frame t ?_]
   ·exact ha.at_ t v hv
   ·unfold freeT;rw [Array.all_eq_true'];intro o' ho'
    have ho2:o'∈gM k os:=by simpa using ho'
    unfold gM at ho2
    rcases List.mem_append.1 ho2 with ho2 | ho2
    ·simpa using hno o' ho2
    ·obtain ⟨o2,_,rfl⟩:=List.mem_map.1 ho2
     simp
  ·have:=h a' ha'
   simpa using this
 ·rw [Array.getD_eq_getD_getElem?,Array.getElem?_replicate]
  constructor
  ·intro h3;split at h3<;>simp at h3
  ·rintro ⟨B,hB⟩;cases hB
 ·rw [Array.getD_eq_getD_getElem?,Array.getElem?_replicate]
  constructor
  ·intro h3;split at h3<;>simp at h3
  ·intro h3;cases h3
 ·rw [Array.getD_eq_getD_getElem?,Array.getElem?_replicate] at hj
  split at hj<;>simp at hj
end
def xF (ns:List IV) (ws:List Int) (s:Int):Int:=ws.foldl (fun s y=>((ns.map IV.xs).getD s.toNat []).getD y.toNat 0) s
def wN (ns:List IV) (bs:List Bool) (ws:List Int):Bool:=bs.getD (xF ns ws 0).toNat false
theorem Jh {ns:List IV} {ws:List Int} {i:Nat} {y s:Int} (h:ws[i]?=some y):xF ns (ws.take (i+1)) s=((ns.map IV.xs).getD (xF ns (ws.take i) s).toNat []).getD y.toNat 0:=by
 unfold xF;rw [List.take_add_one,h];simp [List.foldl_append]
theorem runs_is (sy:Int) (na:Option Addr) (nl nc:Nat) (ns:List IV) (aa:Option Addr) (al ac:Nat) (bs:List Bool) (wa:Option Addr) (wl wc:Nat) (ws:List Int) (w:World) (hD:DIn w ⟨sy,na,nl,nc,ns,aa,al,ac,bs⟩) (hE:gW ⟨sy,na,nl,nc,ns,aa,al,ac,bs⟩=0) (hrow:Row w wa ws) (hlen:ws.length=wl) (hwm:wl≤9223372036854775807) (hws:∀ y∈ws,0≤y∧y < sy) :
  Calls prog 10 #[.agg #[.int .i64 sy,.slice na nl nc,.slice aa al ac],.slice wa wl wc] w (fun e w'=>e = .returned (.bool (wN ns bs ws))∧Below w.heap.size w w'):=by
 refine cG (args:=[.agg #[.int .i64 sy,.slice na nl nc,.slice aa al ac],.slice wa wl wc]) func10 rfl ntmps10 rfl ?_
 have hS:=St.start w
 obtain ⟨hn1,hn2,hsy0,hsy1,hal,hrows⟩:=lA hE
 dsimp only at hn1 hn2 hsy0 hsy1 hal hrows
 have hnr:=hD.nrow
 have hnl:=hD.nlen
 have hri:=hD.rin
 have har:=hD.arow
 have hbl:=hD.alen
 dsimp only at hnr hnl hri har hbl
 have hrw:∀ r∈ns,(r.l:Int)=sy∧∀ y∈r.xs,0≤y∧y < (nl:Int):=fun r hr=>by
  have h9:=List.all_eq_true.1 hrows r hr
  unfold pS at h9
  simp only [Bool.and_eq_true,decide_eq_true_eq,List.all_eq_true,inQ] at h9
  exact h9
 refine aO (aR (bQ (cs:=[_,_,_]) hS rfl rfl rfl fun B1 W1 hS=>aB rfl rfl (aQ (XF.thenN (aO (aR (aB rfl rfl (aQ (XF.thenN (aO (aO (aR (aB rfl rfl (aQ (XF.thenN (bI (cX (fun m l W=>∃ (i s:Nat),i≤wl∧m=wl - i∧(s:Int)=xF ns (ws.take i) 0∧s < nl∧l=[(1,.slice wa wl wc),(2,.pointer (some ⟨B1,0,none⟩)),(5,.int .i64 (s:Int)),(6,.int .i64 (i:Int))]∧St w [(B1,[.int .i64 sy,.slice na nl nc,.slice aa al ac],37)] [] [] W) (wl - 0) ([(1,_),(2,_),(5,_),(6,_)]) ⟨rfl,rfl,rfl,rfl,trivial⟩ (⟨0,0,Nat.zero_le _,rfl,rfl,by omega,rfl,hS.clear⟩) ?_)))))))))))))))))
 clear hS
 rintro m l W ⟨i,s,hi,rfl,hsr,hsl,rfl,hS⟩
 refine aO (aO (aR (aI rfl rfl (aI rfl rfl (bX underlying30 rfl rfl (cC rfl rfl rfl (aQ (XF.thenN (bC rfl (fun hc=>?_) (fun hc=>?_))))))))))
 ·have hc10:=of_decide_eq_true hc;clear hc
  have hk:i < wl:=by omega
  obtain ⟨b1,o1,y,rfl,hy,hyc⟩:=hrow.at1 (show i < ws.length by omega)
  obtain ⟨hy1,hy2⟩:=hws y (List.mem_of_getElem? hy)
  obtain ⟨yN,rfl⟩:∃ n:Nat,y=(n:Int):=⟨y.toNat,by omega⟩
  obtain ⟨r,hr⟩:∃ r,ns[s]?=some r:=⟨ns[s]'(by omega),List.getElem?_eq_getElem _⟩
  obtain ⟨b2,o2,rfl,hcs⟩:=hnr s r hr
  obtain ⟨hrr,hrl,hrm⟩:=hri r (List.mem_of_getElem? hr)
  obtain ⟨hls,hys⟩:=hrw r (List.mem_of_getElem? hr)
  have hx9:=yR hr
  obtain ⟨ra9,rl9,rc9,xs9⟩:=r
  dsimp only at hcs hrr hrl hrm hls hys hx9
  obtain ⟨b3,o3,z,rfl,hzz,hzc⟩:=hrr.at1 (show yN < xs9.length by omega)
  obtain ⟨hz1,hz2⟩:=hys z (List.mem_of_getElem? hzz)
  obtain ⟨zN,rfl⟩:∃ n:Nat,z=(n:Int):=⟨z.toNat,by omega⟩
  have k1:w.cell? _=some (.slice (some ⟨b3,o3,none⟩) rl9 rc9):=hcs
  have k2:=hyc
  have k3:=hzc
  refine bH (XF.thenN (aO (bI (regSF (ef:=12) (jy:=12) (ca:=sQ (fun _=>[])) (ta:=fun _=>0) (Os:=Ez _) (Gs:=pR _) (al:=[]) (k:=9) bY rfl hS rfl (by kernel_rfl) (by kernel_rfl) (by kernel_rfl) (by kernel_rfl) rfl (by decide) rfl (fun _=>none) (.inr ⟨rfl,rfl,rfl⟩) rfl (aW 1 rfl rfl (isV _) (fun hNo=>sgV [(2,_)] rfl rfl rfl rfl hNo (aS rfl) ⟨bP rfl,trivial⟩ (fun ev w he hw=>aV (o':=1) eA rfl rfl) (aD rfl)) (aW 2 rfl rfl (isV _) (fun hNo=>sgV [(13,_)] rfl rfl rfl rfl hNo (aS rfl) ⟨aL 0 (aA rfl rfl rfl),trivial⟩ (fun ev w he hw=>aX isAgg34 rfl ((aJ (hw.at_ 0 rfl) rfl))) (aD rfl)) (aW 3 rfl rfl (isV _) (fun hNo=>sgV [(5,_)] rfl rfl rfl rfl hNo (aS rfl) ⟨bP rfl,trivial⟩ (fun ev w he hw=>aZ rfl) (aD rfl)) (aW 4 rfl rfl (isV _) (fun hNo=>sgV [(14,_),(15,_)] rfl rfl rfl rfl hNo (aS rfl) ⟨aL 1 (aA rfl rfl rfl),aL 2 (aA rfl rfl rfl),trivial⟩ (fun ev w he hw=>bA  underlying34 sizeOf30 rfl rfl rfl (by omega) rfl) (aD rfl)) (aW 5 rfl rfl (isV _) (fun hNo=>sgV [(16,_)] rfl rfl rfl rfl hNo (aS rfl) ⟨aL 3 (aA rfl rfl rfl),trivial⟩ (fun ev w he hw=>aX isAgg30 rfl (hw.agree.cell (Nat.zero_le _) (k1))) (aD rfl)) (aW 6 rfl rfl (isV _) (fun hNo=>sgV [(1,_)] rfl rfl rfl rfl hNo (aS rfl) ⟨bP rfl,trivial⟩ (fun ev w he hw=>aZ rfl) (aD rfl)) (aW 7 rfl rfl (isV _) (fun hNo=>sgV [(6,_)] rfl rfl rfl rfl hNo (aS rfl) ⟨bP rfl,trivial⟩ (fun ev w he hw=>aZ rfl) (aD rfl)) (aW 8 rfl rfl (isV _) (fun hNo=>sgV [(18,_),(19,_)] rfl rfl rfl rfl hNo (aS rfl) ⟨aL 5 (aA rfl rfl rfl),aL 6 (aA rfl rfl rfl),trivial⟩ (fun ev w he hw=>bA  underlying30 sizeOf3 rfl rfl rfl (by omega) rfl) (aD rfl)) (aW 9 rfl rfl (isV _) (fun hNo=>sgV [(20,_)] rfl rfl rfl rfl hNo (aS rfl) ⟨aL 7 (aA rfl rfl rfl),trivial⟩ (fun ev w he hw=>aX isAgg3 rfl (hw.agree.cell (Nat.zero_le _) (k2))) (aD rfl)) (jZ ?_))))))))))))))
  intro Bf2 y2 W2 Ks2 hsz2 hKs2 hS' hcov2
  clear hS;have hS:=hS'.castO (O':=[_]) rfl;clear hS'
  refine qA (L':=[AwS _ _ (isV _),AwS _ _ (isV _),AwS _ _ (isV _),AwS _ _ (isV _),AwS _ _ (isV _),AwS _ _ (isV _),AwS _ _ (isV _),AwS _ _ (isV _),AwS _ _ (isV _)]) rfl (bF (bF (bF (bF (bF (bF (bF (bF (bF (cH (cJ  underlying30 sizeOf3 rfl rfl rfl (by omega) rfl rfl (aT isAgg3 rfl (hS.old k3) rfl (aB rfl rfl (aQ (XF.blkN (XF.thenN (aR (aI rfl rfl (cE rfl rfl (IntWalk.i64_in _ (by omega)) rfl (aB rfl rfl (aQ ?_)))))))))))))))))))))
  exact XF.round (wl - (i+1)) [(1,_),(2,_),(5,_),(6,_)] (by omega) ⟨rfl,rfl,rfl,rfl,trivial⟩ ⟨i+1,zN,by omega,rfl,by rw [Jh hy,← hsr];show _=((ns.map IV.xs).getD s []).getD yN 0;rw [hx9,jK hzz],by omega,rfl,hS.clear⟩
 ·have hc10:=of_decide_eq_false hc;clear hc
  have htk:ws.take i=ws:=List.take_of_length_le (by omega)
  rw [htk] at hsr
  obtain ⟨b2,o2,haa,hcb⟩:=har s _ (tS (show s < bs.length by omega))
  subst haa
  have k3:=hS.old hcb
  refine cW (XF.thenX (XF.thenX (XF.blkX (XF.thenN (aO (aR (aN (o':=2) nF rfl rfl rfl (aT isAgg35 rfl (aJ (hS.at_ 0 rfl) rfl) rfl (aI rfl rfl (cJ  underlying35 sizeOf4 rfl rfl rfl (by omega) rfl rfl (aT isAgg4 rfl (k3) rfl (aB rfl rfl (aQ (XF.thenN (bM (XF.res (bV results10 rfl) ?_))))))))))))))))
  exact ⟨by unfold wN;rw [← hsr];rfl,hS.below⟩
theorem A7:bW prog 11=true:=by kernel_rfl
theorem Fo:bW prog 9=true:=by kernel_rfl
theorem goes_49:bW prog 49=true:=by kernel_rfl
theorem sY (S:PS) (sf:SF) (w:World) (hs:SIs w S sf) (hok:S.ok) :
  Calls prog 9 #[sf.val] w (jG S (eN S) w):=by
 refine cG (args:=[sf.val]) func9 rfl ntmps9 rfl ?_
 have hS:=St.start w
 refine aO (aR (bQ (cs:=[_,_,_]) hS rfl rfl rfl fun B1 W1 hS=>bU (cs:=[_,_,_,_,_,_]) hS zeroValue56 rfl rfl fun B2 W2 hS=>aQ (XF.thenN (aO (aR (aU (vs:=[_,_,_]) isAgg25 sizeOf25 rfl (aK.own (j:=0) (m:=3) (hS.at_ 1 rfl) rfl) rfl ?_))))))
 have hsz:=hS.below.size
 refine dC (vs:=[_]) hS goes_24 rfl (C4 S sf _ (hs.below hS.below) hok) rfl ?_
 rintro e W3 ⟨f,rfl,hn,hb⟩
 refine ⟨_,rfl,hb,fun hS'=>?_⟩
 clear hS;have hS:=hS';clear hS'
 refine aI rfl rfl (cI rfl rfl rfl (cI rfl rfl rfl (bU (cs:=[_,_,_,_,_,_]) hS zeroValue56 rfl rfl fun B4 W4 hS=>bB (i:=0) (vs:=[_,_,_,_,_,_]) (cs':=[_,_,_,_,_,_]) (O':=[_,_,_]) hS sizeOf56 rfl rfl rfl rfl rfl rfl rfl fun W5 hS=>aB rfl rfl (aQ (XF.thenN (aO (aR (aU (vs:=[_,_,_,_,_,_]) isAgg56 sizeOf56 rfl (aK.own (j:=0) (m:=6) (hS.at_ 0 rfl) rfl) rfl (bB (i:=1) (vs:=[_,_,_,_,_,_]) (cs':=[_,_,_,_,_,_]) (O':=[_,_,_]) hS sizeOf56 rfl rfl rfl rfl rfl rfl rfl fun W6 hS=>aQ (XF.thenN (bM (XF.res (dY (vs:=[_,_,_,_,_,_]) results9 isAgg56 sizeOf56 rfl (aK.own (j:=0) (m:=6) (hS.at_ 1 rfl) rfl)) ?_))))))))))))
 exact ⟨f,rfl,(hn.agree (hS.since 0 rfl)).mono hsz,hS.below⟩
theorem wO (S:PS) (sf:SF) (w:World) (hs:SIs w S sf) (hok:S.ok) :
  Calls prog 11 #[sf.val] w (jG S (eV S) w):=by
 refine cG (args:=[sf.val]) func11 rfl ntmps11 rfl ?_
 have hS:=St.start w
 refine aO (aR (bQ (cs:=[_,_,_]) hS rfl rfl rfl fun B1 W1 hS=>bU (cs:=[_,_,_,_,_,_]) hS zeroValue56 rfl rfl fun B2 W2 hS=>aQ (XF.thenN (aO (aR (aU (vs:=[_,_,_]) isAgg25 sizeOf25 rfl (aK.own (j:=0) (m:=3) (hS.at_ 1 rfl) rfl) rfl ?_))))))
 have hsz:=hS.below.size
 refine dC (vs:=[_]) hS goes_25 rfl (OneR_ok S sf _ (hs.below hS.below) hok) rfl ?_
 rintro e W3 ⟨f,rfl,hn,hb⟩
 refine ⟨_,rfl,hb,fun hS'=>?_⟩
 clear hS;have hS:=hS';clear hS'
 refine aI rfl rfl (cI rfl rfl rfl (cI rfl rfl rfl (bU (cs:=[_,_,_,_,_,_]) hS zeroValue56 rfl rfl fun B4 W4 hS=>bB (i:=0) (vs:=[_,_,_,_,_,_]) (cs':=[_,_,_,_,_,_]) (O':=[_,_,_]) hS sizeOf56 rfl rfl rfl rfl rfl rfl rfl fun W5 hS=>aB rfl rfl (aQ (XF.thenN (aO (aR (aU (vs:=[_,_,_,_,_,_]) isAgg56 sizeOf56 rfl (aK.own (j:=0) (m:=6) (hS.at_ 0 rfl) rfl) rfl (bB (i:=1) (vs:=[_,_,_,_,_,_]) (cs':=[_,_,_,_,_,_]) (O':=[_,_,_]) hS sizeOf56 rfl rfl rfl rfl rfl rfl rfl fun W6 hS=>aQ (XF.thenN (bM (XF.res (dY (vs:=[_,_,_,_,_,_]) results11 isAgg56 sizeOf56 rfl (aK.own (j:=0) (m:=6) (hS.at_ 1 rfl) rfl)) ?_))))))))))))
 exact ⟨f,rfl,(hn.agree (hS.since 0 rfl)).mono hsz,hS.below⟩
theorem M1 (S:PS) (sf:SF) (bk:Bool) (f g:WF) (x y:PX) (w:World) (hs:SIs w S sf) (hok:S.ok) (hx:XIs w S f x) (hy:XIs w S g y) :
  Calls prog 48 #[sf.val,.bool bk,f.val,g.val] w (jG S (A3 S bk x y) w):=by
 refine cG (args:=[sf.val,.bool bk,f.val,g.val]) func48 rfl ntmps48 rfl ?_
 have hS:=St.start w
 refine aO (aR (bQ (cs:=[_,_,_]) hS rfl rfl rfl fun B1 W1 hS=>bQ (cs:=[_,_,_,_,_,_]) hS rfl rfl rfl fun B2 W2 hS=>bQ (cs:=[_,_,_,_,_,_]) hS rfl rfl rfl fun B3 W3 hS=>bU (cs:=[_,_,_,_,_,_]) hS zeroValue56 rfl rfl fun B4 W4 hS=>aQ (XF.thenN (aO (aO (aR (aI rfl rfl (aQ (XF.thenN (bC rfl (fun hc=>?_) (fun hc=>?_)))))))))))
 ·have hc9:=hc;clear hc
  refine aO (aR (aU (vs:=[_,_,_]) isAgg25 sizeOf25 rfl (aK.own (j:=0) (m:=3) (hS.at_ 3 rfl) rfl) rfl (aU (vs:=[_,_,_,_,_,_]) isAgg56 sizeOf56 rfl (aK.own (j:=0) (m:=6) (hS.at_ 1 rfl) rfl) rfl (aU (vs:=[_,_,_,_,_,_]) isAgg56 sizeOf56 rfl (aK.own (j:=0) (m:=6) (hS.at_ 2 rfl) rfl) rfl ?_))))
  have hsz:=hS.below.size
  refine dC (vs:=[_,_,_]) hS uF rfl (C5 (hs.below hS.below) hok (hy.below hS.below) (hx.below hS.below)) rfl ?_
  rintro e W5 ⟨h9,rfl,hn,hb⟩
  refine ⟨_,rfl,hb,fun hS'=>?_⟩
  clear hS;have hS:=hS';clear hS'
  refine bB (i:=0) (vs:=[_,_,_,_,_,_]) (cs':=[_,_,_,_,_,_]) (O':=[_,_,_,_]) hS sizeOf56 rfl rfl rfl rfl rfl rfl rfl fun W6 hS=>aQ (XF.thenN (bM (XF.thenR (XF.res (dY (vs:=[_,_,_,_,_,_]) results48 isAgg56 sizeOf56 rfl (aK.own (j:=0) (m:=6) (hS.at_ 0 rfl) rfl)) ?_))))
  have e9:bk=true:=hc9
  subst e9
  exact ⟨h9,rfl,(hn.agree (hS.since 0 rfl)).mono hsz,hS.below⟩
 ·have hc9:=hc;clear hc
  refine bH (XF.thenN (aO (aR (aU (vs:=[_,_,_]) isAgg25 sizeOf25 rfl (aK.own (j:=0) (m:=3) (hS.at_ 3 rfl) rfl) rfl (aU (vs:=[_,_,_,_,_,_]) isAgg56 sizeOf56 rfl (aK.own (j:=0) (m:=6) (hS.at_ 2 rfl) rfl) rfl (aU (vs:=[_,_,_,_,_,_]) isAgg56 sizeOf56 rfl (aK.own (j:=0) (m:=6) (hS.at_ 1 rfl) rfl) rfl ?_))))))
  have hsz:=hS.below.size
  refine dC (vs:=[_,_,_]) hS uF rfl (C5 (hs.below hS.below) hok (hx.below hS.below) (hy.below hS.below)) rfl ?_
  rintro e W7 ⟨h9,rfl,hn,hb⟩
  refine ⟨_,rfl,hb,fun hS'=>?_⟩
  clear hS;have hS:=hS';clear hS'
  refine bB (i:=0) (vs:=[_,_,_,_,_,_]) (cs':=[_,_,_,_,_,_]) (O':=[_,_,_,_]) hS sizeOf56 rfl rfl rfl rfl rfl rfl rfl fun W8 hS=>aQ (XF.thenN (bM (XF.res (dY (vs:=[_,_,_,_,_,_]) results48 isAgg56 sizeOf56 rfl (aK.own (j:=0) (m:=6) (hS.at_ 0 rfl) rfl)) ?_)))
  have e9:bk=false:=hc9
  subst e9
  exact ⟨h9,rfl,(hn.agree (hS.since 0 rfl)).mono hsz,hS.below⟩
theorem Ji (ds d:Nat) (s:SV) (st sy:Int) (fa:Option Addr) (fl fc:Nat) (fs:List Int) (ta:Option Addr) (tl tc:Nat) (ts:List TV) (w:World) (hs:SIn w ds s) (hfrow:Row w fa fs) (hflen:fs.length=fl) (htrow:qT w ta ts) (htlen:ts.length=tl) (htin:∀ t∈ts,WIn w d t.x) (hfm:fl≤9223372036854775807) (htm:tl≤9223372036854775807) (n:Int) :
  Calls prog 49 #[.agg #[.int .i64 s.f.tag,.int .i64 s.f.dim,.slice s.f.a s.f.len s.f.cap,.int .i64 st,.int .i64 sy,.slice fa fl fc,.slice ta tl tc],.int .i64 n] w (fun e w'=>e = .returned (.bool (sV fs n))∧Below w.heap.size w w'):=by
 refine cG (args:=[.agg #[.int .i64 s.f.tag,.int .i64 s.f.dim,.slice s.f.a s.f.len s.f.cap,.int .i64 st,.int .i64 sy,.slice fa fl fc,.slice ta tl tc],.int .i64 n]) func49 rfl ntmps49 rfl ?_
 have hS:=St.start w
 refine aO (aR (bQ (cs:=[_,_,_,_,_,_,_]) hS rfl rfl rfl fun B1 W1 hS=>aB rfl rfl (aQ (XF.thenN (aO (aO (aR (aB rfl rfl (aQ (XF.thenN (bI (cX (fun m l W=>∃ i:Nat,i≤fl∧m=fl - i∧l=[(1,.int .i64 n),(2,.pointer (some ⟨B1,0,none⟩)),(5,.int .i64 (i:Int))]∧sV (fs.take i) n=false∧St w [(B1,[.int .i64 s.f.tag,.int .i64 s.f.dim,.slice s.f.a s.f.len s.f.cap,.int .i64 st,.int .i64 sy,.slice fa fl fc,.slice ta tl tc],42)] [] [] W) (fl - 0) ([(1,_),(2,_),(5,_)]) ⟨rfl,rfl,rfl,trivial⟩ (⟨0,Nat.zero_le _,rfl,rfl,rfl,hS.clear⟩) ?_))))))))))))
 clear hS
 rintro m l W ⟨i,hi,rfl,rfl,hall,hS⟩
 refine aO (aO (aR (aI rfl rfl (aN (o':=5) eB rfl rfl rfl (aT isAgg30 rfl (aJ (hS.at_ 0 rfl) rfl) rfl (bX underlying30 rfl rfl (cC rfl rfl rfl (aQ (XF.thenN (bC rfl (fun hc=>?_) (fun hc=>?_)))))))))))
 ·have hc10:=of_decide_eq_true hc;clear hc
  have hk:i < fl:=by omega
  obtain ⟨b,off,y,rfl,hy,hyc⟩:=hfrow.at1 (show i < fs.length by omega)
  have k1:=hS.old hyc
  refine bH (XF.thenN (aO (bI (aO (aR (aN (o':=5) eB rfl rfl rfl (aT isAgg30 rfl (aJ (hS.at_ 0 rfl) rfl) rfl (aI rfl rfl (cJ  underlying30 sizeOf3 rfl rfl rfl (by omega) rfl rfl (aT isAgg3 rfl (k1) rfl (aI rfl rfl (cM rfl rfl rfl (aQ (XF.thenN (bC rfl (fun hc=>?_) (fun hc=>?_))))))))))))))))
  ·have hc19:=of_decide_eq_true hc;clear hc
   refine aO (aR (aB rfl rfl (aQ (XF.thenN (bM (XF.blkR (XF.thenR (XF.thenR (XF.blkR (XF.thenR (XF.res (bV results49 rfl) ?_)))))))))))
   exact ⟨bR (List.any_eq_true.2 ⟨y,List.mem_of_getElem? hy,decide_eq_true hc19⟩).symm,hS.below⟩
  ·have hc19:=of_decide_eq_false hc;clear hc
   refine bH (XF.blkN (XF.thenN (aR (aI rfl rfl (cE rfl rfl (IntWalk.i64_in _ (by omega)) rfl (aB rfl rfl (aQ ?_)))))))
   exact XF.round (fl - (i+1)) [(1,_),(2,_),(5,_)] (by omega) ⟨rfl,rfl,rfl,trivial⟩ ⟨i+1,by omega,rfl,rfl,by unfold sV at hall ⊢;rw [List.take_add_one,hy,List.any_append,hall];simp;exact hc19,hS.clear⟩
 ·have hc10:=of_decide_eq_false hc;clear hc
  rw [List.take_of_length_le (by omega)] at hall
  refine cW (XF.thenX (XF.thenX (XF.blkX (XF.thenN (aO (aR (aB rfl rfl (aQ (XF.thenN (bM (XF.res (bV results49 rfl) ?_)))))))))))
  exact ⟨bR hall.symm,hS.below⟩
theorem Fp (ds d:Nat) (a:AV) (n:Int) (w:World) (h:AIn w ds d a):Calls prog 49 #[a.val,.int .i64 n] w (fun e w'=>e = .returned (.bool (sV a.fs n))∧Below w.heap.size w w'):=Ji ds d _ _ _ _ _ _ _ _ _ _ _ w h.s h.frow h.flen h.trow h.tlen h.tin h.fmax h.tmax n
theorem M2 (ds d:Nat) (s:SV) (n9:Nat) (sy:Int) (fa:Option Addr) (fl fc:Nat) (fs:List Int) (ta:Option Addr) (tl tc:Nat) (ts:List TV) (w:World) (hs:SIn w ds s) (hfrow:Row w fa fs) (hflen:fs.length=fl) (htrow:qT w ta ts) (htlen:ts.length=tl) (htin:∀ t∈ts,WIn w d t.x) (hfm:fl≤9223372036854775807) (htm:tl≤9223372036854775807) (M:World→Prop) (hM:jU M) (hMw:M w) (S:PS) (hsi:SIs w S s.f) (hok:S.ok) (h4:n9≤4096) :
  Calls prog 28 #[.agg #[.int .i64 s.f.tag,.int .i64 s.f.dim,.slice s.f.a s.f.len s.f.cap,.int .i64 (n9:Int),.int .i64 sy,.slice fa fl fc,.slice ta tl tc]] w (fun e w'=>∃ a9 c9 fs9,e = .returned (.slice a9 (iV S fs n9).length c9)∧(∀ W2,cZ w.heap.size w' W2→tZ W2 a9 fs9)∧XLF (fun W2=>M W2∧cZ w.heap.size w' W2) S fs9 (iV S fs n9)∧Below w.heap.size w w'):=by
 refine cG (args:=[.agg #[.int .i64 s.f.tag,.int .i64 s.f.dim,.slice s.f.a s.f.len s.f.cap,.int .i64 (n9:Int),.int .i64 sy,.slice fa fl fc,.slice ta tl tc]]) func28 rfl ntmps28 rfl ?_
 have hS:=St.start w
 refine aO (aR (bQ (cs:=[_,_,_,_,_,_,_]) hS rfl rfl rfl fun B1 W1 hS=>aB rfl rfl (aQ (XF.thenN (aO (aR (aB rfl rfl (aQ (XF.thenN (aO (aO ?_)))))))))))
 have hS:=hS.newG 56 6
 refine aR (aB rfl rfl (aQ (XF.thenN (bI (cX (fun m l W=>∃ (i:Nat) (v:Value) (fs9:List WF) (Kk:List (Nat×World)),i≤n9∧m=n9 - i∧l=[(1,.pointer (some ⟨B1,0,none⟩)),(3,v),(4,.int .i64 (i:Int))]∧(∀ q∈Kk,w.heap.size≤q.1)∧XLF (MK (MZ w M) Kk) S fs9 (iV S fs i)∧fs9.length=i∧St w [(B1,[.int .i64 s.f.tag,.int .i64 s.f.dim,.slice s.f.a s.f.len s.f.cap,.int .i64 (n9:Int),.int .i64 sy,.slice fa fl fc,.slice ta tl tc],42)] [⟨v,i,fs9.flatMap WF.six,56,6⟩] Kk W) (n9 - 0) ([(1,_),(3,_),(4,_)]) ⟨rfl,rfl,rfl,trivial⟩ (⟨0,_,[],_,Nat.zero_le _,rfl,rfl,(by simp),⟨rfl,fun i f x hf hx=>by simp at hf⟩,rfl,hS⟩) ?_)))))
 clear hS
 rintro m l W ⟨i,v,fs9,Kk,hi,rfl,rfl,hKl,hfs,hfl,hS⟩
 refine aO (aO (aR (aI rfl rfl (aN (o':=3) dO rfl rfl rfl (aT isAgg3 rfl (aJ (hS.at_ 0 rfl) rfl) rfl (cC rfl rfl rfl (aQ (XF.thenN (bC rfl (fun hc=>?_) (fun hc=>?_))))))))))
 ·have hc8:=of_decide_eq_true hc;clear hc
  have hszW:=hS.below.size
  refine bH (XF.thenN (aO (bI (aO (aR (aU (vs:=[_,_,_,_,_,_,_]) isAgg42 sizeOf42 rfl (aK.own (j:=0) (m:=7) (hS.at_ 0 rfl) rfl) rfl (aI rfl rfl (bT (vs:=[_,_]) hS goes_49 rfl (Fp ds d ⟨s,(n9:Int),sy,fa,fl,fc,fs,ta,tl,tc,ts⟩ (i:Int) _ (AIn.below ⟨hs,hfrow,hflen,htrow,htlen,htin,hfm,htm⟩ hS.below)) rfl fun W2 hS=>aQ (XF.thenN (bC rfl (fun hc=>?_) (fun hc=>?_)))))))))))
  ·have hc13:=hc;clear hc
   have hfin:sV fs (i:Int)=true:=hc13
   refine aR (aI rfl rfl (aN (o':=0) jL rfl rfl rfl (aU (vs:=[_,_,_]) isAgg25 sizeOf25 rfl (aK.own (j:=0) (m:=3) (hS.at_ 0 rfl) rfl) rfl ?_)))
   obtain ⟨lo9,hlo9⟩:∃ n,n=W2.heap.size:=⟨_,rfl⟩
   have hszw9:=hS.below.size
   refine dC (vs:=[_]) hS A7 rfl (wO S s.f _ (hsi.below hS.below) hok) rfl ?_
   rintro e W3 ⟨f9,rfl,hn9,hb⟩
   refine ⟨_,rfl,hb,fun hS'=>?_⟩
   clear hS;have hS:=hS';clear hS'
   rw [← hlo9] at hn9
   have hlw9:w.heap.size≤lo9:=by rw [hlo9];exact hszw9
   have HX9:iH (MK (MZ w M) [(lo9,W3)]) S f9 (eV S):=hn9.far.mono (fun W2 hg=>hg.2 _ List.mem_cons_self)
   rw [← hlo9] at hS
   clear hb
   refine dE (us:=[(0,.agg (List.toArray [_,_,_,_,_,_]))]) hS underlying54 sizeOf56 zeroValue56 rfl rfl rfl (uA _ _ _ _ _ _) rfl fun B4 W4 hS=>?_
   refine iZ (i:=0) (news:=[_,_,_,_,_,_]) hS underlying54 D5 rfl rfl (by show 0 < 6;decide) rfl rfl rfl rfl rfl (aK.own (j:=0) (m:=6) (hS.at_ 0 rfl) rfl) rfl rfl (by dsimp only;simp only [maxLen];omega) (by dsimp only;show _ * 96≤_;omega) rfl fun v5 W5 hS=>?_
   refine aB rfl rfl (aQ (XF.blkN (XF.thenN (aR (aI rfl rfl (cE rfl rfl (IntWalk.i64_in _ (by omega)) rfl (aB rfl rfl (aQ ?_))))))))
   exact XF.round (n9 - (i+1)) [(1,_),(3,_),(4,_)] (by omega) ⟨rfl,rfl,rfl,trivial⟩ ⟨i+1,_,fs9++[f9],_,by omega,rfl,rfl,(fun q hq=>by simp only [List.mem_cons] at hq;rcases hq with rfl | rfl | hq;exact hlw9;exact hszW;exact hKl q hq),by rw [wL,if_pos hfin];exact A4 (mM hfs (fun q hq=>by simp [hq])) (HX9.keepM (fun q hq=>by simp at hq;subst hq;simp)),by rw [List.length_append,hfl];rfl,hS.tail.castG (by simp)⟩
  ·have hc13:=hc;clear hc
   have hfin:¬ sV fs (i:Int)=true:=by rw [show sV fs (i:Int)=false from hc13];decide
   refine aR (aI rfl rfl (aN (o':=0) jL rfl rfl rfl (aU (vs:=[_,_,_]) isAgg25 sizeOf25 rfl (aK.own (j:=0) (m:=3) (hS.at_ 0 rfl) rfl) rfl ?_)))
   obtain ⟨lo9,hlo9⟩:∃ n,n=W2.heap.size:=⟨_,rfl⟩
   have hszw9:=hS.below.size
   refine dC (vs:=[_]) hS Fo rfl (sY S s.f _ (hsi.below hS.below) hok) rfl ?_
   rintro e W6 ⟨f9,rfl,hn9,hb⟩
   refine ⟨_,rfl,hb,fun hS'=>?_⟩
   clear hS;have hS:=hS';clear hS'
   rw [← hlo9] at hn9
   have hlw9:w.heap.size≤lo9:=by rw [hlo9];exact hszw9
   have HX9:iH (MK (MZ w M) [(lo9,W6)]) S f9 (eN S):=hn9.far.mono (fun W2 hg=>hg.2 _ List.mem_cons_self)
   rw [← hlo9] at hS
   clear hb
   refine dE (us:=[(0,.agg (List.toArray [_,_,_,_,_,_]))]) hS underlying54 sizeOf56 zeroValue56 rfl rfl rfl (uA _ _ _ _ _ _) rfl fun B7 W7 hS=>?_
   refine iZ (i:=0) (news:=[_,_,_,_,_,_]) hS underlying54 D5 rfl rfl (by show 0 < 6;decide) rfl rfl rfl rfl rfl (aK.own (j:=0) (m:=6) (hS.at_ 0 rfl) rfl) rfl rfl (by dsimp only;simp only [maxLen];omega) (by dsimp only;show _ * 96≤_;omega) rfl fun v8 W8 hS=>?_
   refine aB rfl rfl (aQ (XF.blkN (XF.thenN (aR (aI rfl rfl (cE rfl rfl (IntWalk.i64_in _ (by omega)) rfl (aB rfl rfl (aQ ?_))))))))
   exact XF.round (n9 - (i+1)) [(1,_),(3,_),(4,_)] (by omega) ⟨rfl,rfl,rfl,trivial⟩ ⟨i+1,_,fs9++[f9],_,by omega,rfl,rfl,(fun q hq=>by simp only [List.mem_cons] at hq;rcases hq with rfl | rfl | hq;exact hlw9;exact hszW;exact hKl q hq),by rw [wL,if_neg hfin];exact A4 (mM hfs (fun q hq=>by simp [hq])) (HX9.keepM (fun q hq=>by simp at hq;subst hq;simp)),by rw [List.length_append,hfl];rfl,hS.tail.castG (by simp)⟩
 ·have hc8:=of_decide_eq_false hc;clear hc
  have hin:i=n9:=by omega
  subst hin
  refine cW (XF.thenX (XF.thenX (XF.blkX (XF.thenN (aO (aR (aI rfl rfl (aB rfl rfl (aQ (XF.thenN (bM (XF.res (bV results28 rfl) ?_))))))))))))
  obtain ⟨a9,c9,rfl⟩:=hS.headSl
  have hr9:=hS.row 0 rfl
  have hle:(iV S fs i).length=i:=by simp [iV]
  exact ⟨a9,c9,fs9,by rw [hle],fun W2 hg=>Jb (lT hr9 hg),Hp hS hKl hfs,hS.below⟩
def A8 (a:AV) (fr ws:List Int):Int:=if fM a≠0 then fM a else if fr.all (fun y=>inQ y a.st)=true then (if ws.all (fun y=>inQ y a.sy)=true then 0 else 102) else 101
theorem Jj (ds d:Nat) (s:SV) (st sy:Int) (fa:Option Addr) (fl fc:Nat) (fs:List Int) (ta:Option Addr) (tl tc:Nat) (ts:List TV) (w:World) (hs:SIn w ds s) (hfrow:Row w fa fs) (hflen:fs.length=fl) (htrow:qT w ta ts) (htlen:ts.length=tl) (htin:∀ t∈ts,WIn w d t.x) (hfm:fl≤9223372036854775807) (htm:tl≤9223372036854775807) (ra:Option Addr) (rl rc:Nat) (fr:List Int) (wa:Option Addr) (wl wc:Nat) (ws:List Int) (hra:Row w ra fr) (hrl:fr.length=rl) (hrm:rl≤9223372036854775807) (hwa:Row w wa ws) (hwl:ws.length=wl) (hwm:wl≤9223372036854775807) :
  Calls prog 26 #[.agg #[.int .i64 s.f.tag,.int .i64 s.f.dim,.slice s.f.a s.f.len s.f.cap,.int .i64 st,.int .i64 sy,.slice fa fl fc,.slice ta tl tc],.slice ra rl rc,.slice wa wl wc] w (fun e w'=>e = .returned (.int .i64 (A8 ⟨s,st,sy,fa,fl,fc,fs,ta,tl,tc,ts⟩ fr ws))∧Below w.heap.size w w'):=by
 refine cG (args:=[.agg #[.int .i64 s.f.tag,.int .i64 s.f.dim,.slice s.f.a s.f.len s.f.cap,.int .i64 st,.int .i64 sy,.slice fa fl fc,.slice ta tl tc],.slice ra rl rc,.slice wa wl wc]) func26 rfl ntmps26 rfl ?_
 have hS:=St.start w
 refine aO (aR (bQ (cs:=[_,_,_,_,_,_,_]) hS rfl rfl rfl fun B1 W1 hS=>aB rfl rfl (aQ (XF.thenN (aO (aR (aU (vs:=[_,_,_,_,_,_,_]) isAgg42 sizeOf42 rfl (aK.own (j:=0) (m:=7) (hS.at_ 0 rfl) rfl) rfl (bT (vs:=[_]) hS Hl rfl (C7 ds d ⟨s,st,sy,fa,fl,fc,fs,ta,tl,tc,ts⟩ _ (AIn.below ⟨hs,hfrow,hflen,htrow,htlen,htin,hfm,htm⟩ hS.below)) rfl fun W2 hS=>aB rfl rfl (aQ (XF.thenN (aO (aO (aR (aI rfl rfl (cN rfl rfl rfl (aQ (XF.thenN (bC rfl (fun hc=>?_) (fun hc=>?_)))))))))))))))))))
 ·have hc13:=of_decide_eq_true hc;clear hc
  refine aO (aR (aI rfl rfl (aB rfl rfl (aQ (XF.thenN (bM (XF.thenR (XF.res (bV results26 rfl) ?_))))))))
  exact ⟨cL (by unfold A8;rw [if_pos hc13]),hS.below⟩
 ·have hc13:=of_decide_eq_false hc;clear hc
  have h0:¬ fM ⟨s,st,sy,fa,fl,fc,fs,ta,tl,tc,ts⟩≠0:=hc13
  refine bH (XF.thenN (aO (aO (aR (aB rfl rfl (aQ (XF.thenN (bI (cX (fun m l W=>∃ i:Nat,i≤rl∧m=rl - i∧l=[(1,.slice ra rl rc),(2,.slice wa wl wc),(3,.pointer (some ⟨B1,0,none⟩)),(8,.int .i64 (i:Int))]∧(fr.take i).all (fun y=>inQ y st)=true∧St w [(B1,[.int .i64 s.f.tag,.int .i64 s.f.dim,.slice s.f.a s.f.len s.f.cap,.int .i64 st,.int .i64 sy,.slice fa fl fc,.slice ta tl tc],42)] [] [] W) (rl - 0) ([(1,_),(2,_),(3,_),(8,_)]) ⟨rfl,rfl,rfl,rfl,trivial⟩ (⟨0,Nat.zero_le _,rfl,rfl,rfl,hS.clear⟩) ?_)))))))))
  clear hS
  rintro m l W ⟨i,hi,rfl,rfl,hall,hS⟩
  refine aO (aO (aR (aI rfl rfl (aI rfl rfl (bX underlying30 rfl rfl (cC rfl rfl rfl (aQ (XF.thenN (bC rfl (fun hc=>?_) (fun hc=>?_))))))))))
  ·have hc18:=of_decide_eq_true hc;clear hc
   have hk:i < rl:=by omega
   obtain ⟨b,off,y,rfl,hy,hyc⟩:=hra.at1 (show i < fr.length by omega)
   have k1:=hS.old hyc
   refine bH (XF.thenN (aO (bI (aO (gP (m:=7) bY hS (by kernel_rfl) (by kernel_rfl) rfl (cB 1 rfl 3 rfl rfl (fun w hw=>bL (vs:=[_,_,_,_,_,_,_]) isAgg42 sizeOf42 rfl (aK.agree (aP hw 0) (Nat.zero_le _) (aK.own (j:=0) (m:=7) (hS.at_ 0 rfl) rfl))) rfl (cB 2 rfl 1 rfl rfl (fun w hw=>aZ rfl) rfl (cB 3 rfl 8 rfl rfl (fun w hw=>aZ rfl) rfl (aM 4 rfl (isV _) (aH _) (rgV (li:=[(22,_),(23,_)]) rfl (aS rfl) ⟨aL 1 (aA rfl rfl rfl),aL 2 (aA rfl rfl rfl),trivial⟩ (fun w hw=>bA  underlying30 sizeOf3 rfl rfl rfl (by omega) rfl) (aD rfl)) (bD 5 rfl 24 3 rfl rfl rfl (fun w hw=>aX isAgg3 rfl ((aP hw 0).cell (Nat.zero_le _) (k1))) rfl ?_))))))))))
   refine aM 6 rfl (isV (.bool (inQ y st))) (aH _) (cP [isV _,isV _] rfl pL (aS rfl) ⟨cD (aL 0 (aA rfl rfl rfl)),cD (aL 4 (aA rfl rfl rfl)),trivial⟩ (fun vs w' hb hh=>by have e:=bZ (us:=[_,_]) hh;subst e;exact (sS ⟨s,st,sy,fa,fl,fc,fs,ta,tl,tc,ts⟩ y _).mono fun e w2 h=>⟨_,h.1,rfl,h.2⟩) (aD rfl)) ?_
   refine bD 7 rfl 26 5 rfl rfl rfl (fun w hw=>gU rfl) rfl (dB ?_)
   intro W3 hbR hS'
   clear hS;have hS:=hS';clear hS'
   refine aG (aG (aG (aG (aG (aG (aG (cH (XF.thenN (bC rfl (fun hc=>?_) (fun hc=>?_))))))))))
   ·have hc27:=hc;clear hc
    refine aO (aR (aB rfl rfl (aQ (XF.thenN (bM (XF.blkR (XF.thenR (XF.thenR (XF.blkR (XF.thenR (XF.res (bV results26 rfl) ?_)))))))))))
    exact ⟨cL (by unfold A8;rw [if_neg h0,if_neg (by rw [cF hy (by simpa using hc27)];decide)]),hS.below⟩
   ·have hc27:=hc;clear hc
    refine bH (XF.blkN (XF.thenN (aR (aI rfl rfl (cE rfl rfl (IntWalk.i64_in _ (by omega)) rfl (aB rfl rfl (aQ ?_)))))))
    exact XF.round (rl - (i+1)) [(1,_),(2,_),(3,_),(8,_)] (by omega) ⟨rfl,rfl,rfl,rfl,trivial⟩ ⟨i+1,by omega,rfl,rfl,cQ hy hall (by simpa using hc27),hS.clear⟩
  ·have hc18:=of_decide_eq_false hc;clear hc
   rw [List.take_of_length_le (by omega)] at hall
   have h1:=hall
   clear hall
   refine cW (XF.thenX (XF.thenX (XF.blkX (XF.thenN (aO (aO (aR (aB rfl rfl (aQ (XF.thenN (bI (cX (fun m l W=>∃ i:Nat,i≤wl∧m=wl - i∧l=[(1,.slice ra rl rc),(2,.slice wa wl wc),(3,.pointer (some ⟨B1,0,none⟩)),(9,.int .i64 (i:Int))]∧(ws.take i).all (fun y=>inQ y sy)=true∧St w [(B1,[.int .i64 s.f.tag,.int .i64 s.f.dim,.slice s.f.a s.f.len s.f.cap,.int .i64 st,.int .i64 sy,.slice fa fl fc,.slice ta tl tc],42)] [] [] W) (wl - 0) ([(1,_),(2,_),(3,_),(9,_)]) ⟨rfl,rfl,rfl,rfl,trivial⟩ (⟨0,Nat.zero_le _,rfl,rfl,rfl,hS.clear⟩) ?_))))))))))))
   clear hS
   rintro m l W ⟨i,hi,rfl,rfl,hall,hS⟩
   refine aO (aO (aR (aI rfl rfl (aI rfl rfl (bX underlying30 rfl rfl (cC rfl rfl rfl (aQ (XF.thenN (bC rfl (fun hc=>?_) (fun hc=>?_))))))))))
   ·have hc31:=of_decide_eq_true hc;clear hc
    have hk:i < wl:=by omega
    obtain ⟨b,off,y,rfl,hy,hyc⟩:=hwa.at1 (show i < ws.length by omega)
    have k1:=hS.old hyc
    refine bH (XF.thenN (aO (bI (aO ?_))))
    by_cases hy0:y < 0
    ·have e5:inQ y sy=false:=by simp [inQ];omega
     refine gP (m:=14) bY hS (by kernel_rfl) (by kernel_rfl) rfl (cB 1 rfl 2 rfl rfl (fun w hw=>aZ rfl) rfl (cB 2 rfl 9 rfl rfl (fun w hw=>aZ rfl) rfl (aM 3 rfl (isV _) (aH _) (rgV (li:=[(34,_),(35,_)]) rfl (aS rfl) ⟨aL 0 (aA rfl rfl rfl),aL 1 (aA rfl rfl rfl),trivial⟩ (fun w hw=>bA  underlying30 sizeOf3 rfl rfl rfl (by omega) rfl) (aD rfl)) (bD 4 rfl 36 2 rfl rfl rfl (fun w hw=>aX isAgg3 rfl ((aP hw 0).cell (Nat.zero_le _) (k1))) rfl (aM 5 rfl (isV (.bool true)) (aH _) (jR (li:=[(37,_)]) rfl (aS rfl) ⟨aL 3 (aA rfl rfl rfl),trivial⟩ (fun w hw=>nX rfl rfl) (by rw [decide_eq_true hy0]) (aD rfl)) (bD 6 rfl 38 4 rfl rfl rfl (fun w hw=>aZ rfl) rfl (aM 7 rfl (isV undef) (aH _) (bJ rfl (bK 39 rfl (aA rfl rfl rfl) rfl) (aD rfl)) (aM 8 rfl (isV undef) (aH _) (bJ rfl (bK 39 rfl (aA rfl rfl rfl) rfl) (aD rfl)) (aM 9 rfl (isV undef) (aH _) (bJ rfl (bK 39 rfl (aA rfl rfl rfl) rfl) (aD rfl)) (aM 10 rfl (isV undef) (aH _) (bJ rfl (bK 39 rfl (aA rfl rfl rfl) rfl) (aD rfl)) (aM 11 rfl (isV undef) (aH _) (bJ rfl (bK 39 rfl (aA rfl rfl rfl) rfl) (aD rfl)) (aM 12 rfl (isV undef) (aH _) (bJ rfl (bK 39 rfl (aA rfl rfl rfl) rfl) (aD rfl)) (aM 13 rfl (isV undef) (aH _) (bJ rfl (bK 39 rfl (aA rfl rfl rfl) rfl) (aD rfl)) (bD 14 rfl 39 5 rfl rfl rfl (fun w hw=>dG rfl rfl) rfl (dB ?_)))))))))))))))
     intro W4 hbR hS'
     clear hS;have hS:=hS';clear hS'
     refine aG (aG (aG (aG (aG (aG (aG (aG (aG (aG (aG (aG (aG (aG (cH (XF.thenN (cU rfl (aO (aR (aB rfl rfl (aQ (XF.thenN (bM (XF.blkR (XF.thenR (XF.thenR (XF.blkR (XF.thenR (XF.res (bV results26 rfl) ?_))))))))))))))))))))))))))))
     exact ⟨cL (by unfold A8;rw [if_neg h0,if_pos h1,if_neg (by rw [cF hy e5];decide)]),hS.below⟩
    ·skip
     refine gP (m:=14) bY hS (by kernel_rfl) (by kernel_rfl) rfl (cB 1 rfl 2 rfl rfl (fun w hw=>aZ rfl) rfl (cB 2 rfl 9 rfl rfl (fun w hw=>aZ rfl) rfl (aM 3 rfl (isV _) (aH _) (rgV (li:=[(34,_),(35,_)]) rfl (aS rfl) ⟨aL 0 (aA rfl rfl rfl),aL 1 (aA rfl rfl rfl),trivial⟩ (fun w hw=>bA  underlying30 sizeOf3 rfl rfl rfl (by omega) rfl) (aD rfl)) (bD 4 rfl 36 2 rfl rfl rfl (fun w hw=>aX isAgg3 rfl ((aP hw 0).cell (Nat.zero_le _) (k1))) rfl (aM 5 rfl (isV (.bool false)) (aH _) (jR (li:=[(37,_)]) rfl (aS rfl) ⟨aL 3 (aA rfl rfl rfl),trivial⟩ (fun w hw=>nX rfl rfl) (by rw [decide_eq_false hy0]) (aD rfl)) (bD 6 rfl 38 4 rfl rfl rfl (fun w hw=>aZ rfl) rfl (aM 7 rfl (isV _) (aH _) (rgV (li:=[(2,_)]) rfl (bE 39 rfl (aA rfl rfl rfl)) ⟨bP rfl,trivial⟩ (fun w hw=>aZ rfl) (aD rfl)) (aM 8 rfl (isV _) (aH _) (rgV (li:=[(9,_)]) rfl (bE 39 rfl (aA rfl rfl rfl)) ⟨bP rfl,trivial⟩ (fun w hw=>aZ rfl) (aD rfl)) (aM 9 rfl (isV _) (aH _) (rgV (li:=[(40,_),(41,_)]) rfl (bE 39 rfl (aA rfl rfl rfl)) ⟨aL 6 (aA rfl rfl rfl),aL 7 (aA rfl rfl rfl),trivial⟩ (fun w hw=>bA  underlying30 sizeOf3 rfl rfl rfl (by omega) rfl) (aD rfl)) (aM 10 rfl (isV _) (aH _) (rgV (li:=[(42,_)]) rfl (bE 39 rfl (aA rfl rfl rfl)) ⟨aL 8 (aA rfl rfl rfl),trivial⟩ (fun w hw=>aX isAgg3 rfl ((aP hw 0).cell (Nat.zero_le _) (k1))) (aD rfl)) (aM 11 rfl (isV _) (aH _) (rgV (li:=[(3,_)]) rfl (bE 39 rfl (aA rfl rfl rfl)) ⟨bP rfl,trivial⟩ (fun w hw=>aV (o':=4) nG rfl rfl) (aD rfl)) (aM 12 rfl (isV _) (aH _) (rgV (li:=[(44,_)]) rfl (bE 39 rfl (aA rfl rfl rfl)) ⟨aL 10 (aA rfl rfl rfl),trivial⟩ (fun w hw=>aX isAgg3 rfl ((aP hw 0).cell (Nat.zero_le _) (aJ (hS.at_ 0 rfl) rfl))) (aD rfl)) (aM 13 rfl (isV _) (aH _) (rgV (li:=[(43,_),(45,_)]) rfl (bE 39 rfl (aA rfl rfl rfl)) ⟨aL 9 (aA rfl rfl rfl),aL 11 (aA rfl rfl rfl),trivial⟩ (fun w hw=>Dy rfl rfl) (aD rfl)) (aM 14 rfl (isV _) (aH _) (rgV (li:=[(39,_),(46,_)]) rfl (aS rfl) ⟨aL 5 (aA rfl rfl rfl),aL 12 (aA rfl rfl rfl),trivial⟩ (fun w hw=>dH rfl rfl) (aD rfl)) (dB ?_)))))))))))))))
     intro W5 hbR hS'
     clear hS;have hS:=hS';clear hS'
     refine aG (aG (aG (aG (aG (aG (aG (aG (aG (aG (aG (aG (aG (aG (cH (XF.thenN (bC rfl (fun hc=>?_) (fun hc=>?_)))))))))))))))))
     ·have hc47:=hc;clear hc
      have e5:inQ y sy=false:=by have:=of_decide_eq_true hc47;simp [inQ];omega
      refine aO (aR (aB rfl rfl (aQ (XF.thenN (bM (XF.blkR (XF.thenR (XF.thenR (XF.blkR (XF.thenR (XF.res (bV results26 rfl) ?_)))))))))))
      exact ⟨cL (by unfold A8;rw [if_neg h0,if_pos h1,if_neg (by rw [cF hy e5];decide)]),hS.below⟩
     ·have hc47:=hc;clear hc
      have e5:inQ y sy=true:=by have:=of_decide_eq_false hc47;simp [inQ];omega
      refine bH (XF.blkN (XF.thenN (aR (aI rfl rfl (cE rfl rfl (IntWalk.i64_in _ (by omega)) rfl (aB rfl rfl (aQ ?_)))))))
      exact XF.round (wl - (i+1)) [(1,_),(2,_),(3,_),(9,_)] (by omega) ⟨rfl,rfl,rfl,rfl,trivial⟩ ⟨i+1,by omega,rfl,rfl,cQ hy hall e5,hS.clear⟩
   ·have hc31:=of_decide_eq_false hc;clear hc
    rw [List.take_of_length_le (by omega)] at hall
    refine cW (XF.thenX (XF.thenX (XF.blkX (XF.thenN (aO (aR (aB rfl rfl (aQ (XF.thenN (bM (XF.res (bV results26 rfl) ?_)))))))))))
    exact ⟨cL (by unfold A8;rw [if_neg h0,if_pos h1,if_pos hall]),hS.below⟩
theorem yV (ds d:Nat) (s:SV) (st sy:Int) (fa:Option Addr) (fl fc:Nat) (fs:List Int) (ta:Option Addr) (tl tc:Nat) (ts:List TV) (w:World) (hs:SIn w ds s) (hfrow:Row w fa fs) (hflen:fs.length=fl) (htrow:qT w ta ts) (htlen:ts.length=tl) (htin:∀ t∈ts,WIn w d t.x) (hfm:fl≤9223372036854775807) (htm:tl≤9223372036854775807) (bk:Bool) (la:Option Addr) (ll lc:Nat) (hne:∀ t∈ts,0≤t.g) :
  Calls prog 27 #[.agg #[.int .i64 s.f.tag,.int .i64 s.f.dim,.slice s.f.a s.f.len s.f.cap,.int .i64 st,.int .i64 sy,.slice fa fl fc,.slice ta tl tc],.bool bk,.bool false,.slice la ll lc] w (fun e w'=>e = .returned (.slice la ll lc)∧Below w.heap.size w w'):=by
 refine cG (args:=[.agg #[.int .i64 s.f.tag,.int .i64 s.f.dim,.slice s.f.a s.f.len s.f.cap,.int .i64 st,.int .i64 sy,.slice fa fl fc,.slice ta tl tc],.bool bk,.bool false,.slice la ll lc]) func27 rfl ntmps27 rfl ?_
 have hS:=St.start w
 refine aO (aR (bQ (cs:=[_,_,_,_,_,_,_]) hS rfl rfl rfl fun B1 W1 hS=>aB rfl rfl (aQ (XF.thenN (aO (aO (aR (aB rfl rfl (aQ (XF.thenN (bI (cX (fun m l W=>∃ b0:Bool,m=(if b0 then 1 else 0)∧l=[(1,.bool bk),(2,.bool false),(3,.slice la ll lc),(4,.pointer (some ⟨B1,0,none⟩)),(9,.bool b0)]∧St w [(B1,[.int .i64 s.f.tag,.int .i64 s.f.dim,.slice s.f.a s.f.len s.f.cap,.int .i64 st,.int .i64 sy,.slice fa fl fc,.slice ta tl tc],42)] [] [] W) (1) ([(1,_),(2,_),(3,_),(4,_),(9,_)]) ⟨rfl,rfl,rfl,rfl,rfl,trivial⟩ (⟨true,rfl,rfl,hS.clear⟩) ?_))))))))))))
 clear hS
 rintro m l W ⟨b0,rfl,rfl,hS⟩
 refine aO (aO (aR (aI rfl rfl (aQ (XF.thenN (bC rfl (fun hc=>?_) (fun hc=>?_)))))))
 ·have hc13:=hc;clear hc
  obtain rfl:b0=true:=hc13
  refine bH (XF.thenN (bI (aO (aR (aB rfl rfl (aQ (XF.thenN (aO (aR (aB rfl rfl (aQ (XF.thenN (bI (cX (fun m l W=>∃ i:Nat,i≤tl∧m=tl - i∧l=[(1,.bool bk),(2,.bool false),(3,.slice la ll lc),(4,.pointer (some ⟨B1,0,none⟩)),(9,.bool false),(10,.int .i64 (i:Int))]∧St w [(B1,[.int .i64 s.f.tag,.int .i64 s.f.dim,.slice s.f.a s.f.len s.f.cap,.int .i64 st,.int .i64 sy,.slice fa fl fc,.slice ta tl tc],42)] [] [] W) (tl - 0) ([(1,_),(2,_),(3,_),(4,_),(9,_),(10,_)]) ⟨rfl,rfl,rfl,rfl,rfl,rfl,trivial⟩ (⟨0,Nat.zero_le _,rfl,rfl,hS.clear⟩) ?_))))))))))))))
  clear hS
  rintro m l W ⟨i,hi,rfl,rfl,hS⟩
  refine aO (aO (aR (aI rfl rfl (aN (o':=6) dA rfl rfl rfl (aT isAgg40 rfl (aJ (hS.at_ 0 rfl) rfl) rfl (bX underlying40 rfl rfl (cC rfl rfl rfl (aQ (XF.thenN (bC rfl (fun hc=>?_) (fun hc=>?_)))))))))))
  ·have hc18:=of_decide_eq_true hc;clear hc
   have hk:i < tl:=by omega
   obtain ⟨r,hr⟩:∃ r,ts[i]?=some r:=⟨ts[i]'(by omega),by simp [show i < ts.length by omega]⟩
   obtain ⟨b,off,rfl,hcs⟩:=htrow.at_ hr
   have k1:=aK.agree hS.agree (Nat.zero_le _) hcs
   have hri:=htin r (List.mem_of_getElem? hr)
   have hg9:=hne r (List.mem_of_getElem? hr)
   refine bH (XF.thenN (aO (bI (aO (aR (aN (o':=6) dA rfl rfl rfl (aT isAgg40 rfl (aJ (hS.at_ 0 rfl) rfl) rfl (aI rfl rfl (cJ  underlying40 sizeOf67 rfl rfl rfl (by omega) rfl rfl (aU (vs:=[_,_,_,_,_,_,_,_,_]) isAgg67 sizeOf67 rfl (k1) rfl (bU (cs:=[_,_,_,_,_,_,_,_,_]) hS zeroValue67 rfl rfl fun B2 W2 hS=>bB (i:=0) (vs:=[_,_,_,_,_,_,_,_,_]) (cs':=[_,_,_,_,_,_,_,_,_]) (O':=[_,_]) hS sizeOf67 rfl rfl rfl rfl rfl rfl rfl fun W3 hS=>aQ (XF.thenN (aO (aO (aR (aN (o':=1) kA rfl rfl rfl (aT isAgg3 rfl (aJ (hS.at_ 0 rfl) rfl) rfl (gV rfl rfl rfl (aI rfl rfl (bG (d:=29) rfl (fun hc=>?_) (fun hc=>absurd (of_decide_eq_false hc) (by omega))))))))))))))))))))))
   have hc:=of_decide_eq_true hc
   refine aC (d:=29) rfl rfl (aI rfl rfl (aC (d:=29) rfl rfl (dV rfl rfl (aY rfl rfl rfl (aQ (XF.thenN (bC rfl (fun hc=>?_) (fun hc=>absurd hc (by decide)))))))))
   skip
   refine cW (XF.thenX (XF.blkX (XF.thenN (aR (aI rfl rfl (cE rfl rfl (IntWalk.i64_in _ (by omega)) rfl (aB rfl rfl (aQ ?_))))))))
   exact XF.round (tl - (i+1)) [(1,_),(2,_),(3,_),(4,_),(9,_),(10,_)] (by omega) ⟨rfl,rfl,rfl,rfl,rfl,rfl,trivial⟩ ⟨i+1,by omega,rfl,rfl,hS.tail.clear⟩
  ·have hc18:=of_decide_eq_false hc;clear hc
   refine cW (XF.thenX (XF.thenX (XF.blkX (XF.blkN ?_))))
   exact XF.round 0 [(1,_),(2,_),(3,_),(4,_),(9,_)] (by decide) ⟨rfl,rfl,rfl,rfl,rfl,trivial⟩ ⟨false,rfl,rfl,hS.clear⟩
 ·have hc13:=hc;clear hc
  refine cW (XF.thenX (XF.thenX (XF.blkX (XF.thenN (aO (aR (aI rfl rfl (aB rfl rfl (aQ (XF.thenN (bM (XF.res (bV results27 rfl) ?_))))))))))))
  exact ⟨rfl,hS.below⟩
theorem Fq:bW prog 47=true:=by kernel_rfl
theorem wret_gA {P:Program} {f:FuncId} {vs:Array Value} {w:World} {S:PS} {x:PX} {lo:Nat} (hlo:lo≤w.heap.size) (h:Calls P f vs w (jG S x w)):Calls P f vs w (zM (eY lo S x) w):=h.mono fun e w' ⟨f,he,hn,hb⟩=>⟨_,he,fun w2 hg=>⟨f,rfl,(hn.agree hg).mono hlo⟩,hb⟩
theorem eitherA {w:World} {M:World→Prop} {S:PS} {sf:SF} {f g:WF} {x y:PX} {lo:Nat} (hK:jU M) (hs:SIs w S sf) (hok:S.ok) (hM:M w) (h1:iH M S f x) (h2:kU lo w S g y) (hlo:lo≤w.heap.size) :
  Calls prog 47 #[sf.val,f.val,g.val] w (Mv lo (nS M lo S (lL S x y)) w):=by
 refine (Fh (M:=fun W=>M W∧cZ lo w W) (fun W W' h hb=>⟨hK _ _ h.1 hb,h.2.trans (aP hb lo)⟩) hs hok ⟨hM,Nat.le_refl _,fun _ _ _=>rfl⟩ (h1.mono fun W h=>h.1) (h2.far.mono fun W h=>h.2)).mono ?_
 rintro e w2 ⟨f3,rfl,hx,hb⟩
 exact ⟨_,rfl,fun w3 hg=>⟨f3,rfl,hx.mono fun W hW=>⟨⟨hW.1,((aP hb lo).trans hg).trans hW.2⟩,mL (hg.trans hW.2) hlo⟩⟩,hb⟩
theorem qZ {α:Type} {l:List α} {i:Nat} {x d:α} (h:l[i]?=some x):l.getD i d=x:=by
 rw [List.getD_eq_getElem?_getD,h];rfl
theorem uV {x:Int} {n:Nat} (h:inQ x (n:Int)=true):∃ k:Nat,x=(k:Int)∧k < n:=by
 simp only [inQ,Bool.and_eq_true,decide_eq_true_eq] at h
 exact ⟨x.toNat,by omega,by omega⟩
theorem yW {w:World} {b o:Nat} {f:WF} (h:W6 w b o f):aK w b o f.six:=⟨h.1,h.2.1,h.2.2.1,h.2.2.2.1,h.2.2.2.2.1,h.2.2.2.2.2,trivial⟩
theorem goes_48:bW prog 48=true:=by kernel_rfl
theorem M3 (ds d:Nat) (s:SV) (n9:Nat) (sy:Int) (fa:Option Addr) (fl fc:Nat) (fs:List Int) (ta:Option Addr) (tl tc:Nat) (ts:List TV) (w:World) (hs:SIn w ds s) (hfrow:Row w fa fs) (hflen:fs.length=fl) (htrow:qT w ta ts) (htlen:ts.length=tl) (htin:∀ t∈ts,WIn w d t.x) (hfm:fl≤9223372036854775807) (htm:tl≤9223372036854775807) (M:World→Prop) (hM:jU M) (hMw:M w) (S:PS) (hsi:SIs w S s.f) (hok:S.ok) (h4:n9≤4096) (bk:Bool) (sm:Int) (la:Option Addr) (lc:Nat) (fsl:List WF) (xl:List PX) (py:TV→PX) (hlr:tZ w la fsl) (hlx:XLF M S fsl xl) (hln:xl.length=n9) (hgd:∀ t∈ts,inQ t.f (n9:Int)=true∧inQ t.t (n9:Int)=true) (hpy:∀ t∈ts,iH M S t.x.f (py t)) :
  Calls prog 29 #[.agg #[.int .i64 s.f.tag,.int .i64 s.f.dim,.slice s.f.a s.f.len s.f.cap,.int .i64 (n9:Int),.int .i64 sy,.slice fa fl fc,.slice ta tl tc],.bool bk,.int .i64 sm,.slice la n9 lc] w (fun e w'=>∃ a9 c9 fs9,e = .returned (.slice a9 (lN S bk sm xl py n9 ts).length c9)∧(∀ W2,cZ w.heap.size w' W2→tZ W2 a9 fs9)∧XLF (fun W2=>M W2∧cZ w.heap.size w' W2) S fs9 (lN S bk sm xl py n9 ts)∧Below w.heap.size w w'):=by
 refine cG (args:=[.agg #[.int .i64 s.f.tag,.int .i64 s.f.dim,.slice s.f.a s.f.len s.f.cap,.int .i64 (n9:Int),.int .i64 sy,.slice fa fl fc,.slice ta tl tc],.bool bk,.int .i64 sm,.slice la n9 lc]) func29 rfl ntmps29 rfl ?_
 have hS:=St.start w
 refine aO (aR (bQ (cs:=[_,_,_,_,_,_,_]) hS rfl rfl rfl fun B1 W1 hS=>aB rfl rfl (aQ (XF.thenN (aO (aR (aB rfl rfl (aQ (XF.thenN (aO (aO ?_)))))))))))
 have hS:=hS.newG 56 6
 refine aR (aB rfl rfl (aQ (XF.thenN (bI (cX (fun m l W=>∃ (i:Nat) (v:Value) (fs9:List WF) (Kk:List (Nat×World)),i≤n9∧m=n9 - i∧l=[(1,.bool bk),(2,.int .i64 sm),(3,.slice la n9 lc),(4,.pointer (some ⟨B1,0,none⟩)),(9,v),(10,.int .i64 (i:Int))]∧(∀ q∈Kk,w.heap.size≤q.1)∧XLF (MK (MZ w M) Kk) S fs9 (List.replicate i (eN S))∧fs9.length=i∧St w [(B1,[.int .i64 s.f.tag,.int .i64 s.f.dim,.slice s.f.a s.f.len s.f.cap,.int .i64 (n9:Int),.int .i64 sy,.slice fa fl fc,.slice ta tl tc],42)] [⟨v,i,fs9.flatMap WF.six,56,6⟩] Kk W) (n9 - 0) ([(1,_),(2,_),(3,_),(4,_),(9,_),(10,_)]) ⟨rfl,rfl,rfl,rfl,rfl,rfl,trivial⟩ (⟨0,_,[],_,Nat.zero_le _,rfl,rfl,(by simp),⟨rfl,fun i f x hf hx=>by simp at hf⟩,rfl,hS⟩) ?_)))))
 clear hS
 rintro m l W ⟨i,v,fs9,Kk,hi,rfl,rfl,hKl,hfs,hfl,hS⟩
 refine aO (aO (aR (aI rfl rfl (aN (o':=3) dO rfl rfl rfl (aT isAgg3 rfl (aJ (hS.at_ 0 rfl) rfl) rfl (cC rfl rfl rfl (aQ (XF.thenN (bC rfl (fun hc=>?_) (fun hc=>?_))))))))))
 ·have hc16:=of_decide_eq_true hc;clear hc
  refine bH (XF.thenN (aO (bI (aR (aI rfl rfl (aN (o':=0) jL rfl rfl rfl (aU (vs:=[_,_,_]) isAgg25 sizeOf25 rfl (aK.own (j:=0) (m:=3) (hS.at_ 0 rfl) rfl) rfl ?_)))))))
  obtain ⟨lo9,hlo9⟩:∃ n,n=W.heap.size:=⟨_,rfl⟩
  have hszw9:=hS.below.size
  refine dC (vs:=[_]) hS Fo rfl (sY S s.f _ (hsi.below hS.below) hok) rfl ?_
  rintro e W2 ⟨f9,rfl,hn9,hb⟩
  refine ⟨_,rfl,hb,fun hS'=>?_⟩
  clear hS;have hS:=hS';clear hS'
  rw [← hlo9] at hn9
  have hlw9:w.heap.size≤lo9:=by rw [hlo9];exact hszw9
  have HX9:iH (MK (MZ w M) [(lo9,W2)]) S f9 (eN S):=hn9.far.mono (fun W2 hg=>hg.2 _ List.mem_cons_self)
  rw [← hlo9] at hS
  clear hb
  refine dE (us:=[(0,.agg (List.toArray [_,_,_,_,_,_]))]) hS underlying54 sizeOf56 zeroValue56 rfl rfl rfl (uA _ _ _ _ _ _) rfl fun B3 W3 hS=>?_
  refine iZ (i:=0) (news:=[_,_,_,_,_,_]) hS underlying54 D5 rfl rfl (by show 0 < 6;decide) rfl rfl rfl rfl rfl (aK.own (j:=0) (m:=6) (hS.at_ 0 rfl) rfl) rfl rfl (by dsimp only;simp only [maxLen];omega) (by dsimp only;show _ * 96≤_;omega) rfl fun v4 W4 hS=>?_
  refine aB rfl rfl (aQ (XF.blkN (XF.thenN (aR (aI rfl rfl (cE rfl rfl (IntWalk.i64_in _ (by omega)) rfl (aB rfl rfl (aQ ?_))))))))
  exact XF.round (n9 - (i+1)) [(1,_),(2,_),(3,_),(4,_),(9,_),(10,_)] (by omega) ⟨rfl,rfl,rfl,rfl,rfl,rfl,trivial⟩ ⟨i+1,_,fs9++[f9],_,by omega,rfl,rfl,(fun q hq=>by rcases List.mem_cons.1 hq with rfl | hq;exact hlw9;exact hKl q hq),by rw [List.replicate_succ'];exact A4 (mM hfs (fun q hq=>by simp [hq])) (HX9.keepM (fun q hq=>by simp at hq;subst hq;simp)),by rw [List.length_append,hfl];rfl,hS.tail.castG (by simp)⟩
 ·have hc16:=of_decide_eq_false hc;clear hc
  have hin:i=n9:=by omega
  subst hin
  refine cW (XF.thenX (XF.thenX (XF.blkX (XF.thenN (aO (aO ?_))))))
  rcases Nat.eq_zero_or_pos i with h0 | h0
  ·obtain ⟨a9,c9,rfl⟩:=hS.headSl
   have hts:ts=[]:=by
    cases ts with
    | nil=>rfl
    | cons t r =>
     obtain ⟨k,_,hk⟩:=uV (hgd t List.mem_cons_self).1
     omega
   have htl0:tl=0:=by rw [hts] at htlen;exact htlen.symm
   refine aR (aB rfl rfl (aQ (XF.thenN (bI (cX (fun m l W=>l=[(1,.bool bk),(2,.int .i64 sm),(3,.slice la i lc),(4,.pointer (some ⟨B1,0,none⟩)),(9,.slice a9 i c9),(11,.int .i64 0)]∧St w [(B1,[.int .i64 s.f.tag,.int .i64 s.f.dim,.slice s.f.a s.f.len s.f.cap,.int .i64 (i:Int),.int .i64 sy,.slice fa fl fc,.slice ta tl tc],42)] [⟨.slice a9 i c9,i,fs9.flatMap WF.six,56,6⟩] Kk W) (0) ([(1,_),(2,_),(3,_),(4,_),(9,_),(11,_)]) ⟨rfl,rfl,rfl,rfl,rfl,rfl,trivial⟩ (⟨rfl,hS⟩) ?_)))))
   clear hS
   rintro m l W ⟨rfl,hS⟩
   refine aO (aO (aR (aI rfl rfl (aN (o':=6) dA rfl rfl rfl (aT isAgg40 rfl (aJ (hS.at_ 0 rfl) rfl) rfl (bX underlying40 rfl rfl (cC rfl rfl rfl (aQ (XF.thenN (bC rfl (fun hc=>absurd (of_decide_eq_true hc) (by omega)) (fun hc=>?_)))))))))))
   have hc:=of_decide_eq_false hc
   refine cW (XF.thenX (XF.thenX (XF.blkX (XF.thenN (aO (aR (aI rfl rfl (aB rfl rfl (aQ (XF.thenN (bM (XF.res (bV results29 rfl) ?_))))))))))))
   exact ⟨a9,c9,[],by rw [kI,h0],(fun W2 hg=>.inl rfl),⟨by rw [kI,h0];rfl,fun j f x hf hx=>by simp at hf⟩,hS.below⟩
  ·obtain ⟨a9,c9,rfl⟩:=hS.headSl
   obtain ⟨b9,cs9,rfl,hS9⟩:=hS.rowOwn h0
   clear hS;have hS:=hS9;clear hS9
   refine aR (aB rfl rfl (aQ (XF.thenN (bI (cX (fun m l W=>∃ (j:Nat) (gs:List WF) (Kj:List (Nat×World)),j≤tl∧m=tl - j∧l=[(1,.bool bk),(2,.int .i64 sm),(3,.slice la i lc),(4,.pointer (some ⟨B1,0,none⟩)),(9,.slice (some ⟨b9,0,none⟩) i c9),(11,.int .i64 (j:Int))]∧(∀ q∈Kj,w.heap.size≤q.1)∧XLF (MK (MZ w M) Kj) S gs (lN S bk sm xl py i (ts.take j))∧gs.length=i∧St w [(b9,gs.flatMap WF.six++cs9,56),(B1,[.int .i64 s.f.tag,.int .i64 s.f.dim,.slice s.f.a s.f.len s.f.cap,.int .i64 (i:Int),.int .i64 sy,.slice fa fl fc,.slice ta tl tc],42)] [] Kj W) (tl - 0) ([(1,_),(2,_),(3,_),(4,_),(9,_),(11,_)]) ⟨rfl,rfl,rfl,rfl,rfl,rfl,trivial⟩ (⟨0,fs9,_,Nat.zero_le _,rfl,rfl,hKl,hfs,hfl,hS⟩) ?_)))))
   clear hS
   clear hfs hfl hS hKl;rintro m l W ⟨j,gs,Kj,hj,rfl,rfl,hKl,hgs,hgl,hS⟩
   refine aO (aO (aR (aI rfl rfl (aN (o':=6) dA rfl rfl rfl (aT isAgg40 rfl (aJ (hS.at_ 1 rfl) rfl) rfl (bX underlying40 rfl rfl (cC rfl rfl rfl (aQ (XF.thenN (bC rfl (fun hc=>?_) (fun hc=>?_)))))))))))
   ·have hc29:=of_decide_eq_true hc;clear hc
    have hk:j < tl:=by omega
    obtain ⟨r,hr⟩:∃ r,ts[j]?=some r:=⟨ts[j]'(by omega),by simp [show j < ts.length by omega]⟩
    obtain ⟨b,off,rfl,hcs⟩:=htrow.at_ hr
    have hmr:=List.mem_of_getElem? hr
    have hpr:=hpy r hmr
    obtain ⟨hg1,hg2⟩:=hgd r hmr
    obtain ⟨fN,hfN,hfN2⟩:=uV hg1
    obtain ⟨tN,htN,htN2⟩:=uV hg2
    obtain ⟨rf,rg,rt,rx⟩:=r
    dsimp only at hfN htN hpr
    subst hfN;subst htN
    dsimp only [TV.nine] at hcs
    have k1:=aK.agree hS.agree (Nat.zero_le _) hcs
    obtain ⟨f5,x50,hf5,hx50,hF50⟩:=hgs.at_ (k:=fN) (by omega)
    obtain ⟨fl5,x5,hfl5,hx5,hxi5⟩:=hlx.at_ (k:=tN) (by have:=hlx.1;omega)
    obtain ⟨lb,lo5,rfl,hlc⟩:∃ b o,la=some ⟨b,o,none⟩∧∀ (i:Nat) f,fsl[i]?=some f→W6 w b (o+i * 6) f:=by
     rcases hlr with h | h
     ·rw [h] at hfl5;simp at hfl5
     ·exact h
    have hlk:=yW (hlc tN fl5 hfl5)
    refine bH (XF.thenN (aO (bI (aO (aR (aN (o':=6) dA rfl rfl rfl (aT isAgg40 rfl (aJ (hS.at_ 1 rfl) rfl) rfl (aI rfl rfl (cJ  underlying40 sizeOf67 rfl rfl rfl (by omega) rfl rfl (aU (vs:=[_,_,_,_,_,_,_,_,_]) isAgg67 sizeOf67 rfl (k1) rfl (bU (cs:=[_,_,_,_,_,_,_,_,_]) hS zeroValue67 rfl rfl fun B5 W5 hS=>bB (i:=0) (vs:=[_,_,_,_,_,_,_,_,_]) (cs':=[_,_,_,_,_,_,_,_,_]) (O':=[_,_,_]) hS sizeOf67 rfl rfl rfl rfl rfl rfl rfl fun W6 hS=>aQ (XF.thenN (aO (aR (aN (o':=1) kA rfl rfl rfl (aT isAgg3 rfl (aJ (hS.at_ 0 rfl) rfl) rfl (aI rfl rfl (cM rfl rfl rfl (aQ (XF.thenN (bC rfl (fun hc=>?_) (fun hc=>?_))))))))))))))))))))))
    ·have hc40:=of_decide_eq_true hc;clear hc
     have hlt11:=hS.own_lt
     have hsz11:=hS.below.size
     have hMK:=sT (yQ (w:=w) hM) Kj
     have hZw:MZ w M w:=⟨hMw,Nat.le_refl _⟩
     refine wE (ef:=23) (jy:=21) (ca:=sQ (fun _=>[])) (ta:=fun _=>0) (Os:=osY _ 1 (0+fN * 6) b9 (gs.flatMap WF.six++cs9) 56) (Gs:=pR _) (al:=[]) (k:=24) (ds:=[]) bY rfl hS rfl (by kernel_rfl) rfl (by decide) rfl rfl rfl rfl (aW 1 rfl rfl (isV _) (fun hNo=>sgV [(9,_)] rfl rfl rfl rfl hNo (aS rfl) ⟨bP rfl,trivial⟩ (fun ev w he hw=>aZ rfl) (aD rfl)) (aW 2 rfl rfl (isV _) (fun hNo=>sgV [(12,_)] rfl rfl rfl rfl hNo (aS rfl) ⟨bP rfl,trivial⟩ (fun ev w he hw=>aV (o':=0) pK rfl rfl) (aD rfl)) (aW 3 rfl rfl (isV _) (fun hNo=>sgV [(42,_)] rfl rfl rfl rfl hNo (aS rfl) ⟨aL 1 (aA rfl rfl rfl),trivial⟩ (fun ev w he hw=>aX isAgg3 rfl ((aJ (hw.at_ 0 (gX (i:=0) (j:=1) rfl rfl)) rfl))) (aD rfl)) (aW 4 rfl rfl (isV _) (fun hNo=>sgV [(4,_)] rfl rfl rfl rfl hNo (aS rfl) ⟨bP rfl,trivial⟩ (fun ev w he hw=>aV (o':=0) jL rfl rfl) (aD rfl)) (aW 5 rfl rfl (isV _) (fun hNo=>sgV [(44,_)] rfl rfl rfl rfl hNo (aS rfl) ⟨aL 3 (aA rfl rfl rfl),trivial⟩ (fun ev w he hw=>bL (vs:=[_,_,_]) isAgg25 sizeOf25 rfl ((aK.own (j:=0) (m:=3) (hw.at_ 2 (gX (i:=2) (j:=1) rfl rfl)) rfl))) (aD rfl)) (aW 6 rfl rfl (isV _) (fun hNo=>sgV [(9,_)] rfl rfl rfl rfl hNo (aS rfl) ⟨bP rfl,trivial⟩ (fun ev w he hw=>aZ rfl) (aD rfl)) (aW 7 rfl rfl (isV _) (fun hNo=>sgV [(12,_)] rfl rfl rfl rfl hNo (aS rfl) ⟨bP rfl,trivial⟩ (fun ev w he hw=>aV (o':=0) pK rfl rfl) (aD rfl)) (aW 8 rfl rfl (isV _) (fun hNo=>sgV [(47,_)] rfl rfl rfl rfl hNo (aS rfl) ⟨aL 6 (aA rfl rfl rfl),trivial⟩ (fun ev w he hw=>aX isAgg3 rfl ((aJ (hw.at_ 0 (gX (i:=0) (j:=1) rfl rfl)) rfl))) (aD rfl)) (aW 9 rfl rfl (isV _) (fun hNo=>sgV [(46,_),(48,_)] rfl rfl rfl rfl hNo (aS rfl) ⟨aL 5 (aA rfl rfl rfl),aL 7 (aA rfl rfl rfl),trivial⟩ (fun ev w he hw=>bA (j:=fN) underlying54 sizeOf56 rfl rfl (rfl) (by omega) rfl) (aD rfl)) (aW 10 rfl rfl (isV _) (fun hNo=>sgV [(49,_)] rfl rfl rfl rfl hNo (aS rfl) ⟨aL 8 (aA rfl rfl rfl),trivial⟩ (fun ev w he hw=>bL (vs:=[_,_,_,_,_,_]) isAgg56 sizeOf56 rfl ((aK.own (j:=0+fN * 6) (m:=6) (hw.at_ 1 (pM (he rfl) rfl)) (wK hf5)))) (aD rfl)) (aW 11 rfl rfl (isV _) (fun hNo=>sgV [(4,_)] rfl rfl rfl rfl hNo (aS rfl) ⟨bP rfl,trivial⟩ (fun ev w he hw=>aV (o':=0) jL rfl rfl) (aD rfl)) (aW 12 rfl rfl (isV _) (fun hNo=>sgV [(51,_)] rfl rfl rfl rfl hNo (aS rfl) ⟨aL 10 (aA rfl rfl rfl),trivial⟩ (fun ev w he hw=>bL (vs:=[_,_,_]) isAgg25 sizeOf25 rfl ((aK.own (j:=0) (m:=3) (hw.at_ 2 (gX (i:=2) (j:=1) rfl rfl)) rfl))) (aD rfl)) (aW 13 rfl rfl (isV _) (fun hNo=>sgV [(1,_)] rfl rfl rfl rfl hNo (aS rfl) ⟨bP rfl,trivial⟩ (fun ev w he hw=>aZ rfl) (aD rfl)) (aW 14 rfl rfl (isV _) (fun hNo=>sgV [(12,_)] rfl rfl rfl rfl hNo (aS rfl) ⟨bP rfl,trivial⟩ (fun ev w he hw=>aV (o':=3) uS rfl rfl) (aD rfl)) (aW 15 rfl rfl (isV _) (fun hNo=>sgV [(54,_)] rfl rfl rfl rfl hNo (aS rfl) ⟨aL 13 (aA rfl rfl rfl),trivial⟩ (fun ev w he hw=>bL (vs:=[_,_,_,_,_,_]) isAgg56 sizeOf56 rfl ((aK.own (j:=3) (m:=6) (hw.at_ 0 (gX (i:=0) (j:=1) rfl rfl)) rfl))) (aD rfl)) (aW 16 rfl rfl (isV _) (fun hNo=>sgV [(3,_)] rfl rfl rfl rfl hNo (aS rfl) ⟨bP rfl,trivial⟩ (fun ev w he hw=>aZ rfl) (aD rfl)) (aW 17 rfl rfl (isV _) (fun hNo=>sgV [(12,_)] rfl rfl rfl rfl hNo (aS rfl) ⟨bP rfl,trivial⟩ (fun ev w he hw=>aV (o':=2) rU rfl rfl) (aD rfl)) (aW 18 rfl rfl (isV _) (fun hNo=>sgV [(57,_)] rfl rfl rfl rfl hNo (aS rfl) ⟨aL 16 (aA rfl rfl rfl),trivial⟩ (fun ev w he hw=>aX isAgg3 rfl ((aJ (hw.at_ 0 (gX (i:=0) (j:=1) rfl rfl)) rfl))) (aD rfl)) (aW 19 rfl rfl (isV _) (fun hNo=>sgV [(56,_),(58,_)] rfl rfl rfl rfl hNo (aS rfl) ⟨aL 15 (aA rfl rfl rfl),aL 17 (aA rfl rfl rfl),trivial⟩ (fun ev w he hw=>bA (j:=tN) underlying54 sizeOf56 rfl rfl (rfl) (by omega) rfl) (aD rfl)) (aW 20 rfl rfl (isV _) (fun hNo=>sgV [(59,_)] rfl rfl rfl rfl hNo (aS rfl) ⟨aL 18 (aA rfl rfl rfl),trivial⟩ (fun ev w he hw=>bL (vs:=[_,_,_,_,_,_]) isAgg56 sizeOf56 rfl (aK.agree hw.agree (Nat.zero_le _) (hlk))) (aD rfl)) ?_))))))))))))))))))))
     refine aW 21 rfl rfl (eY W6.heap.size S (A3 S bk (py ⟨(fN:Int),rg,(tN:Int),rx⟩) x5)) (fun hNo=>Hd [isV _,isV _,isV _,isV _] rfl rfl rfl rfl hNo goes_48 (aS rfl) ⟨cD (aL 11 (aA rfl rfl rfl)),cD (aL 12 (aA rfl rfl rfl)),cD (aL 14 (aA rfl rfl rfl)),cD (aL 19 (aA rfl rfl rfl)),trivial⟩ (fun vs ev w' he hSt hlo hh=>by
      have e:=bZ (us:=[_,_,_,_]) hh
      subst e
      exact wret_gA hlo (M1 S s.f bk rx.f fl5 (py ⟨(fN:Int),rg,(tN:Int),rx⟩) x5 w' (hsi.below hSt.below) hok (hpr.is (hM _ _ hMw hSt.below)) (hxi5.is (hM _ _ hMw hSt.below)))) (aD rfl)) ?_
     refine aW 22 rfl rfl (nS (MK (MZ w M) Kj) W6.heap.size S (lL S x50 (A3 S bk (py ⟨(fN:Int),rg,(tN:Int),rx⟩) x5))) (fun hNo=>Mw [isV _,isV _,eY W6.heap.size S (A3 S bk (py ⟨(fN:Int),rg,(tN:Int),rx⟩) x5)] (osY_lt hlt11 (hlt11 _ (List.mem_cons_of_mem _ List.mem_cons_self))) rfl rfl rfl hNo Fq (aS rfl) ⟨cD (aL 4 (aA rfl rfl rfl)),cD (aL 9 (aA rfl rfl rfl)),cD (aL 20 (aA rfl rfl rfl)),trivial⟩ (fun vs ev w' he hSt hlo hh=>by
      obtain ⟨v1,v2,v3,rfl,e1,e2,g9,rfl,hg9⟩:=holds3 hh
      have e1:v1=_:=e1
      have e2:v2=_:=e2
      subst e1;subst e2
      exact eitherA hMK (hsi.below hSt.below) hok (hSt.stays (yQ hM) hZw) hF50 hg9 hlo) (aD rfl)) ?_
     refine aW 23 rfl rfl (isV _) (fun hNo=>sgV [(41,_),(43,_)] rfl rfl rfl rfl hNo (aS rfl) ⟨aL 0 (aA rfl rfl rfl),aL 2 (aA rfl rfl rfl),trivial⟩ (fun ev w he hw=>bA (j:=fN) underlying54 sizeOf56 rfl rfl (rfl) (by omega) rfl) (aD rfl)) ?_
     refine jJ 24 rfl (nH (py:=nS (MK (MZ w M) Kj) W6.heap.size S (lL S x50 (A3 S bk (py ⟨(fN:Int),rg,(tN:Int),rx⟩) x5))) (m:=6) 1 (0+fN * 6) [(63,_)] rfl rfl rfl rfl (by kernel_rfl) rfl rfl (fun j hj=>by rcases hj with h | rfl<;>first | (cases h<;>rfl) | rfl) ⟨aL 22 (aA rfl rfl rfl),trivial⟩ rfl rfl sizeOf56 (fun v w ⟨h,e,_⟩=>by subst e;exact ⟨h.six,rfl,rfl,rfl⟩) (by rw [Nat.ble_eq];rw [List.length_append,sU];omega)) ?_
     refine jZ ?_
     intro Bf7 y7 W7 Ks7 hsz7 hKs7 hS' hcov7
     clear hS;have hS:=hS'.castO (O':=[_,_,_]) rfl;clear hS'
     refine qA (L':=[AwS _ _ (isV _),AwS _ _ (isV _),AwS _ _ (isV _),AwS _ _ (isV _),AwS _ _ (isV _),AwS _ _ (isV _),AwS _ _ (isV _),AwS _ _ (isV _),AwS _ _ (isV _),AwS _ _ (isV _),AwS _ _ (isV _),AwS _ _ (isV _),AwS _ _ (isV _),AwS _ _ (isV _),AwS _ _ (isV _),AwS _ _ (isV _),AwS _ _ (isV _),AwS _ _ (isV _),AwS _ _ (isV _),AwS _ _ (isV _),AwS _ _ (eY W6.heap.size S (A3 S bk (py ⟨(fN:Int),rg,(tN:Int),rx⟩) x5)),(fun v0_ w0_=>v0_=_∧AwS _ _ (nS (MK (MZ w M) Kj) W6.heap.size S (lL S x50 (A3 S bk (py ⟨(fN:Int),rg,(tN:Int),rx⟩) x5))) v0_ w0_),AwS _ _ (isV _),isV _]) rfl (bF (bF (bF (bF (bF (bF (bF (bF (bF (bF (bF (bF (bF (bF (bF (bF (bF (bF (bF (bF ?_))))))))))))))))))))
     refine dR ?_;intro _ _
     refine dR ?_;rintro _ ⟨rfl,hA7⟩
     obtain ⟨f11,rfl,hF11⟩:=hA7.here
     have H11:=Fl hcov7 (xb_lt hlt11 (hlt11 _ (List.mem_cons_of_mem _ List.mem_cons_self))) hsz11 hKs7 hF11
     have hKs11:=hKs7
     refine bF (tO (cH (aQ (XF.blkN (XF.thenN (aR (aI rfl rfl (cE rfl rfl (IntWalk.i64_in _ (by omega)) rfl (aB rfl rfl (aQ ?_))))))))))
     exact XF.round (tl - (j+1)) [(1,_),(2,_),(3,_),(4,_),(9,_),(11,_)] (by omega) ⟨rfl,rfl,rfl,rfl,rfl,rfl,trivial⟩ ⟨j+1,gs.set fN f11,_,by omega,rfl,rfl,(fun q hq=>by rcases List.mem_append.1 hq with hq | hq;exact Nat.le_trans hsz11 (hKs11 q hq);exact hKl q hq),by rw [qX hr];unfold tR;dsimp only;rw [if_pos hc40,Int.toNat_natCast,Int.toNat_natCast,qZ hx50,qZ hx5];exact xlf_set (mM hgs (fun q hq=>by simp [hq])) H11,by rw [List.length_set];exact hgl,hS.tail.castO (by rw [← Fj (g:=f11) hf5];rfl)⟩
    ·have hc40:=of_decide_eq_false hc;clear hc
     refine bH (XF.blkN (XF.thenN (aR (aI rfl rfl (cE rfl rfl (IntWalk.i64_in _ (by omega)) rfl (aB rfl rfl (aQ ?_)))))))
     exact XF.round (tl - (j+1)) [(1,_),(2,_),(3,_),(4,_),(9,_),(11,_)] (by omega) ⟨rfl,rfl,rfl,rfl,rfl,rfl,trivial⟩ ⟨j+1,gs,_,by omega,rfl,rfl,hKl,by rw [qX hr];unfold tR;rw [if_neg (by dsimp only;exact hc40)];exact hgs,hgl,hS.tail⟩
   ·have hc29:=of_decide_eq_false hc;clear hc
    rw [List.take_of_length_le (by omega)] at hgs
    refine cW (XF.thenX (XF.thenX (XF.blkX (XF.thenN (aO (aR (aI rfl rfl (aB rfl rfl (aQ (XF.thenN (bM (XF.res (bV results29 rfl) ?_))))))))))))
    exact ⟨_,c9,gs,by rw [kI],Jd hS,Hp hS hKl hgs,hS.below⟩
def exW:WV:=.mk ⟨false,1,0,none,0,0,[],none,0,0,[],none,0,0⟩ []
def exP (b1 b2:Nat):PV:=⟨.mk ⟨2,9,none,0,0⟩ [],2,3,some ⟨b2,0,none⟩,2,2,[⟨0,1,0,some ⟨b1,0,none⟩,2,2,[2,1],exW⟩,⟨0,2,1,none,0,0,[],exW⟩]⟩
theorem Fs (w:World):WIn w 1 exW:=⟨⟨.inl rfl,rfl,by decide,(fun r hr=>by cases hr),.inl rfl,rfl,(fun c hc=>by cases hc),by decide⟩,rfl,.inl rfl,fun p hp=>by cases hp⟩
theorem row2 {w:World} {b:Nat} {x y:Int} {T:TypeId} (h:w.heap[b]?=some (.cells (List.toArray [.int .i64 x,.int .i64 y]) T (0,0))):Row w (some ⟨b,0,none⟩) [x,y]:=row_own h
theorem row1 {w:World} {b:Nat} {x:Int} {T:TypeId} (h:w.heap[b]?=some (.cells (List.toArray [.int .i64 x]) T (0,0))):Row w (some ⟨b,0,none⟩) [x]:=by
 refine .inr ⟨b,0,rfl,fun i hi=>?_⟩
 have:i=0:=by simp at hi;omega
 subst this
 simp [World.cell?,h]
theorem exP_in {w:World} {b1 b2:Nat} {T1 T2:TypeId} (h1:w.heap[b1]?=some (.cells (List.toArray [.int .i64 2,.int .i64 1]) T1 (0,0)))
  (h2:w.heap[b2]?=some (.cells (List.toArray ((⟨0,1,0,some ⟨b1,0,none⟩,2,2,[2,1],exW⟩:RV).ten++(⟨0,2,1,none,0,0,[],exW⟩:RV).ten)) T2 (0,0))):PvIn w 1 1 (exP b1 b2):=by
 refine ⟨⟨rfl,.inl rfl,fun p hp=>by cases hp⟩,.inr ⟨b2,0,rfl,fun i r hi=>?_⟩,rfl,fun r hr=>?_⟩
 ·match i,hi with
  | 0,hi =>
   cases hi
   exact aK.own (j:=0) (m:=10) h2 rfl
  | 1,hi =>
   cases hi
   exact aK.own (j:=10) (m:=10) h2 rfl
  | i+2,hi=>exact absurd hi (by simp [exP])
 ·rcases List.mem_cons.1 hr with rfl | hr
  ·exact ⟨row2 h1,rfl,Fs w⟩
  ·rcases List.mem_cons.1 hr with rfl | hr
   ·exact ⟨.inl rfl,rfl,Fs w⟩
   ·cases hr
theorem Ft (w:World) :
  Calls prog 16 #[] w (fun e w'=>∃ b1 b2,e = .returned (exP b1 b2).val∧(∀ w2,cZ w.heap.size w' w2→PvIn w2 1 1 (exP b1 b2))∧Below w.heap.size w w'):=by
 refine cG (args:=[]) func16 rfl ntmps16 rfl ?_
 have hS:=St.start w
 refine aO (aR (bU (cs:=[_,_,_,_,_,_]) hS zeroValue28 rfl rfl fun B1 W1 hS=>aQ (XF.thenN (aO (aR (cY (us:=[(1,.int .i64 _)]) rfl (Jy _) rfl (bU (cs:=[_,_,_,_,_,_]) hS zeroValue56 rfl rfl fun B2 W2 hS=>bB (i:=0) (vs:=[_,_,_,_,_,_]) (cs':=[_,_,_,_,_,_]) (O':=[_,_]) hS sizeOf56 rfl rfl rfl rfl rfl rfl rfl fun W3 hS=>aQ (XF.thenN (aO (aR (cY (us:=[(0,.int .i64 _),(1,.int .i64 _)]) rfl (D4 _ _) rfl (dE (us:=[(0,.int .i64 _),(1,.int .i64 _)]) hS underlying30 sizeOf3 zeroValue3 rfl rfl rfl (F7 _ _) rfl fun B4 W4 hS=>aU (vs:=[_,_,_,_,_,_]) isAgg56 sizeOf56 rfl (aK.own (j:=0) (m:=6) (hS.at_ 1 rfl) rfl) rfl (cY (us:=[(1,.int .i64 _),(3,.slice _ _ _),(4,.agg (List.toArray [_,_,_,_,_,_]))]) rfl (zK _ _ _ _ _ _ _ _ _ _) rfl (aU (vs:=[_,_,_,_,_,_]) isAgg56 sizeOf56 rfl (aK.own (j:=0) (m:=6) (hS.at_ 1 rfl) rfl) rfl (cY (us:=[(1,.int .i64 _),(2,.int .i64 _),(4,.agg (List.toArray [_,_,_,_,_,_]))]) rfl (zJ _ _ _ _ _ _ _ _) rfl (dE (us:=[(0,.agg (List.toArray [_,_,_,_,_,_,_,_,_,_])),(1,.agg (List.toArray [_,_,_,_,_,_,_,_,_,_]))]) hS underlying26 sizeOf93 zeroValue93 rfl rfl rfl (bs_26_2 _ _ _ _ _ _ _ _ _ _ _ _ _ _ _ _ _ _ _ _) rfl fun B5 W5 hS=>cY (us:=[(0,.agg (List.toArray [_,_,_])),(1,.int .i64 _),(2,.int .i64 _),(3,.slice _ _ _)]) rfl (vB _ _ _ _ _ _ _ _) rfl (bB (i:=3) (vs:=[_,_,_,_,_,_]) (cs':=[_,_,_,_,_,_]) (O':=[_,_,_,_]) hS sizeOf28 rfl rfl rfl rfl rfl rfl rfl fun W6 hS=>aQ (XF.thenN (bM (XF.res (dY (vs:=[_,_,_,_,_,_]) results16 isAgg28 sizeOf28 rfl (aK.own (j:=0) (m:=6) (hS.at_ 3 rfl) rfl)) ?_))))))))))))))))))))
 exact ⟨B4,B5,rfl,fun w2 hg=>exP_in ((hg.2 _ (hS.ge 1 rfl) (dI (hS.at_ 1 rfl))).trans (hS.at_ 1 rfl)) ((hg.2 _ (hS.ge 0 rfl) (dI (hS.at_ 0 rfl))).trans (hS.at_ 0 rfl)),hS.below⟩
theorem M4 {w:World} {b1 b2 b3:Nat} (S:PS) (hS:S = .one 2 9):Ready w S (fun _=>.one (pC 1)) (exP b1 b2) ⟨0,some ⟨b3,0,none⟩,1,1,[1]⟩:=by
 subst hS
 have hx:XIs w (.one 2 9) exW.f (.one (pC 1)):=PIs.of (by decide) (Fs w).1 (by decide)
 refine ⟨?_,by show bS 2 9 0=true;decide,⟨none,0,rfl⟩,fun r hr=>?_,by show 1≤4096;decide,fun r hr=>?_⟩
 ·have e1:dD (exP b1 b2).s=0:=by show dD (.mk ⟨2,9,none,0,0⟩ [])=0;decide
  have e2:(exP b1 b2).rs.all (fK 2 3)=true:=by simp [exP,fK,inQ]
  have e3:iR (exP b1 b2).s exW=0:=by show iR (.mk ⟨2,9,none,0,0⟩ []) exW=0;decide
  have e4:wtE (exP b1 b2).s (exP b1 b2).rs=0:=uO (by simp [exP];exact decide_eq_true e3)
  have e5:dX (exP b1 b2)=0:=by
   unfold dX
   rw [if_neg (by rw [e1];simp),if_neg (by simp [exP]),if_neg (by simp [exP]),if_pos (show (exP b1 b2).rs.all (fK (exP b1 b2).st (exP b1 b2).sy)=true from e2),e4]
  unfold fA
  rw [if_neg (by rw [e5];simp),if_pos (by simp [iS,exP,inQ])]
 ·rcases List.mem_cons.1 hr with rfl | hr
  ·show 2≤4096;decide
  ·rcases List.mem_cons.1 hr with rfl | hr
   ·show 0≤4096;decide
   ·cases hr
 ·rcases List.mem_cons.1 hr with rfl | hr
  ·exact hx
  ·rcases List.mem_cons.1 hr with rfl | hr
   ·exact hx
   ·cases hr
def xG (S:PS) (bk:Bool) (fs:List Int) (py:TV→PX) (n:Nat) (ts:List TV) (ws:List Int):List PX:=ws.foldr (fun g l=>lN S bk g l py n ts) (iV S fs n)
theorem yX {S:PS} {fs:List Int} {n:Nat}:(iV S fs n).length=n:=by simp [iV]
theorem Dk {S:PS} {bk:Bool} {fs:List Int} {py:TV→PX} {n:Nat} {ts:List TV} {ws:List Int}:(xG S bk fs py n ts ws).length=n:=by
 cases ws with
 | nil=>exact yX
 | cons g r=>exact kI
theorem Jk {S:PS} {bk:Bool} {fs:List Int} {py:TV→PX} {n:Nat} {ts:List TV} {ws:List Int} {k:Nat} {y:Int} (h:ws[k]?=some y):xG S bk fs py n ts (ws.drop k)=lN S bk y (xG S bk fs py n ts (ws.drop (k+1))) py n ts:=by
 obtain ⟨hl,he⟩:=List.getElem?_eq_some_iff.1 h
 rw [List.drop_eq_getElem_cons hl,he];rfl
theorem holds4 {p q r t:Asr} {vs:List Value} {w:World} (h:nM [p,q,r,t] vs w):∃ a b c d,vs=[a,b,c,d]∧p a w∧q b w∧r c w∧t d w:=by
 match vs,h with
 | [a,b,c,d],h=>exact ⟨a,b,c,d,rfl,h.1,h.2.1,h.2.2.1,h.2.2.2.1⟩
theorem of_asgP {P:Program} {p:Asr} {d j t:Nat} {ty:TypeId} {pos:String} {W:World}:∀ (ev:Operand→Value) (w:World),Below W.heap.size W w→qC [(j,t,p)] ev w→∃ v,(execOp ev ⟨some d,.assign (.tmp t),ty,pos,#[],none⟩).run P w = .ok (.value v) w∧p v w:=fun ev w _ h=>⟨ev (.tmp t),by unfold execOp;rfl,h.1⟩
section
variable {P:Program} {n:Nat} {Q:Exit→Act→World→Prop} {l:Fr} {w0 W:World} {ops opf:Array Oper} {K:List (Nat×World)} {L:List Asr} {i lo:Nat} {al:List AB} {Ob:Own} {G:Sy→cR} {E:List Nat}
variable {d:Nat} {ty:TypeId} {pos:String} {aft_:Array Edge} {gd:Option (Nat×Bool)}
end
theorem Jl {w0 W':World} {Ks Kk:List (Nat×World)} {lo:Nat} {X:Nat→Prop} {S:PS} {fs:List WF} {xs:List PX} (hcov:∀ {O2:Own} {G2:cR} {K2:List (Nat×World)} {W2:World},St w0 O2 G2 K2 W2→(∀ q∈Ks,q∈K2)→eP lo X W' W2) (hX:∀ b,lo≤b→b < W'.heap.size→¬ X b) (h:XLF (fun W=>MB w0 Kk W∧cZ lo W' W) S fs xs):XLF (MB w0 (Ks++Kk)) S fs xs :=
 ⟨h.1,fun i f x hf hx=>Ja hcov hX (h.2 i f x hf hx)⟩
theorem goes_26:bW prog 26=true:=by kernel_rfl
theorem Hu:bW prog 27=true:=by kernel_rfl
theorem goes_28:bW prog 28=true:=by kernel_rfl
theorem goes_29:bW prog 29=true:=by kernel_rfl
theorem Jm (ds d:Nat) (s:SV) (n9:Nat) (sy:Int) (fa:Option Addr) (fl fc:Nat) (fs:List Int) (ta:Option Addr) (tl tc:Nat) (ts:List TV) (w:World) (hs:SIn w ds s) (hfrow:Row w fa fs) (hflen:fs.length=fl) (htrow:qT w ta ts) (htlen:ts.length=tl) (htin:∀ t∈ts,WIn w d t.x) (hfm:fl≤9223372036854775807) (htm:tl≤9223372036854775807) (S:PS) (hsi:SIs w S s.f) (hok:S.ok) (h4:n9≤4096) (bk:Bool) (fr:Int) (kf:Nat) (hfr:fr=(kf:Int)) (hkf:kf < n9) (wa:Option Addr) (wl wc:Nat) (ws:List Int) (hwa:Row w wa ws) (hwl:ws.length=wl) (hwm:wl≤9223372036854775807) (py:TV→PX) (hgd:∀ t∈ts,inQ t.f (n9:Int)=true∧inQ t.t (n9:Int)=true) (hpy:∀ t∈ts,XIs w S t.x.f (py t)) (hne:∀ t∈ts,0≤t.g) (hask:A8 ⟨s,(n9:Int),sy,fa,fl,fc,fs,ta,tl,tc,ts⟩ [fr] ws=0) :
  Calls prog 12 #[.agg #[.int .i64 s.f.tag,.int .i64 s.f.dim,.slice s.f.a s.f.len s.f.cap,.int .i64 (n9:Int),.int .i64 sy,.slice fa fl fc,.slice ta tl tc],.bool bk,.int .i64 fr,.slice wa wl wc] w (fun e w'=>∃ f:WF,e = .returned (.tuple #[f.val,.int .i64 0])∧XIs w' S f ((xG S bk fs py n9 ts ws).getD kf (eN S))∧Below w.heap.size w w'):=by
 refine cG (args:=[.agg #[.int .i64 s.f.tag,.int .i64 s.f.dim,.slice s.f.a s.f.len s.f.cap,.int .i64 (n9:Int),.int .i64 sy,.slice fa fl fc,.slice ta tl tc],.bool bk,.int .i64 fr,.slice wa wl wc]) func12 rfl ntmps12 rfl ?_
 have hS:=St.start w
 subst hfr
 refine aO (aR (bQ (cs:=[_,_,_,_,_,_,_]) hS rfl rfl rfl fun B1 W1 hS=>bU (cs:=[_,_,_,_,_,_]) hS zeroValue56 rfl rfl fun B2 W2 hS=>aB rfl rfl (aQ (XF.thenN (aO (aR (aU (vs:=[_,_,_,_,_,_,_]) isAgg42 sizeOf42 rfl (aK.own (j:=0) (m:=7) (hS.at_ 1 rfl) rfl) rfl (aI rfl rfl (dE (us:=[(0,.int .i64 _)]) hS underlying30 sizeOf3 zeroValue3 rfl rfl rfl (uG _) rfl fun B3 W3 hS=>aI rfl rfl (bT (vs:=[_,_,_]) hS goes_26 rfl (Jj ds d s (n9:Int) sy fa fl fc fs ta tl tc ts _ (SIn.below hS.below hs) (hfrow.below hS.below) hflen (htrow.below hS.below) htlen (fun t ht=>WIn.below hS.below (htin t ht)) hfm htm _ 1 1 [(kf:Int)] wa wl wc ws (row1 (hS.at_ 0 rfl)) rfl (by decide) (hwa.below hS.below) hwl hwm) rfl fun W4 hS=>aB rfl rfl (aQ (XF.thenN (aO (aO (aR (aI rfl rfl (cN rfl rfl rfl (aQ (XF.thenN (bC rfl (fun hc=>absurd (of_decide_eq_true hc) (by exact fun h=>h hask)) (fun hc=>?_)))))))))))))))))))))
 have hc:=of_decide_eq_false hc
 refine bH (XF.thenN (aO (gP (m:=6) bY hS (by kernel_rfl) (by kernel_rfl) rfl (cB 1 rfl 4 rfl rfl (fun w hw=>bL (vs:=[_,_,_,_,_,_,_]) isAgg42 sizeOf42 rfl (aK.agree (aP hw 0) (Nat.zero_le _) (aK.own (j:=0) (m:=7) (hS.at_ 2 rfl) rfl))) rfl (cB 2 rfl 1 rfl rfl (fun w hw=>aZ rfl) rfl (cB 3 rfl 4 rfl rfl (fun w hw=>bL (vs:=[_,_,_,_,_,_,_]) isAgg42 sizeOf42 rfl (aK.agree (aP hw 0) (Nat.zero_le _) (aK.own (j:=0) (m:=7) (hS.at_ 2 rfl) rfl))) rfl ?_))))))
 refine aM 4 rfl (lO (MB w []) W4.heap.size S (iV S fs n9)) (kC) (cP [isV _] rfl goes_28 (aS rfl) ⟨cD (aL 2 (aA rfl rfl rfl)),trivial⟩ (fun vs w' hb hh=>by
  have e:=bZ (us:=[_]) hh
  subst e
  exact (M2 ds d s n9 sy fa fl fc fs ta tl tc ts w' (SIn.below (hS.below.trans (hb.mono hS.below.size)) hs) (hfrow.below (hS.below.trans (hb.mono hS.below.size))) hflen (htrow.below (hS.below.trans (hb.mono hS.below.size))) htlen (fun t ht=>WIn.below (hS.below.trans (hb.mono hS.below.size)) (htin t ht)) hfm htm (MB w []) (sT (rV w) []) ⟨(hS.below.trans (hb.mono hS.below.size)),fun q hq=>by cases hq⟩ S (hsi.below (hS.below.trans (hb.mono hS.below.size))) hok h4).mono fun e w2 ⟨a8,c8,fs8,he,h1,h2,h3⟩=>⟨_,he,⟨a8,c8,fs8,rfl,fun W2 hg=>h1 W2 (mL hg hb.size),oS h2 fun W hW=>⟨hW.1,mL hW.2 hb.size⟩⟩,h3⟩) (aD rfl)) ?_
 refine aM 5 rfl (lO (MB w []) W4.heap.size S (iV S fs n9)) (kC) (cP [isV _,isV _,isV _,lO (MB w []) W4.heap.size S (iV S fs n9)] rfl Hu (aS rfl) ⟨cD (aL 0 (aA rfl rfl rfl)),cD (aL 1 (aA rfl rfl rfl)),eX,cD (aL 3 (aA rfl rfl rfl)),trivial⟩ (fun vs w' hb hh=>by
  obtain ⟨v1,v2,v3,v4,rfl,e1,e2,e3,a8,c8,fs8,rfl,h1,h2⟩:=holds4 hh
  have e1:v1=_:=e1
  have e2:v2=_:=e2
  have e3:v3=_:=e3
  subst e1;subst e2;subst e3
  exact (yV ds d s (n9:Int) sy fa fl fc fs ta tl tc ts w' (SIn.below (hS.below.trans (hb.mono hS.below.size)) hs) (hfrow.below (hS.below.trans (hb.mono hS.below.size))) hflen (htrow.below (hS.below.trans (hb.mono hS.below.size))) htlen (fun t ht=>WIn.below (hS.below.trans (hb.mono hS.below.size)) (htin t ht)) hfm htm bk a8 _ c8 hne).mono fun e w2 ⟨he,hb2⟩=>⟨_,he,kC _ _ _ ⟨a8,c8,fs8,rfl,h1,h2⟩ hb2,hb2⟩) (aD rfl)) ?_
 refine aM 6 rfl (lO (MB w []) W4.heap.size S (iV S fs n9)) (kC) (rgPs [(4,26,lO (MB w []) W4.heap.size S (iV S fs n9))] rfl ⟨⟨by kernel_rfl,aA rfl rfl rfl⟩,trivial⟩ of_asgP (aD rfl)) ?_
 refine dB ?_
 intro W5 hbR hS'
 clear hS;have hS:=hS';clear hS'
 refine aG (aG (aG ?_))
 refine dR ?_;intro _ _
 refine dR ?_;intro _ _
 refine dR ?_;rintro _ ⟨a8,c8,fs8,rfl,hr8,hx8⟩
 have HR8:iT w [(W4.heap.size,W5)] (fun W2=>tZ W2 a8 fs8):=iT.one (p:=fun W2=>tZ W2 a8 fs8) hr8
 have HX8:XLF (MB w [(W4.heap.size,W5)]) S fs8 (iV S fs n9):=oS hx8 fun W hW=>⟨⟨hW.1,fun q hq=>by cases hq⟩,hW.2 _ List.mem_cons_self⟩
 rw [yX]
 refine cH (XF.thenN (aO (aO (aR (aI rfl rfl (bX underlying30 rfl rfl (Jx rfl rfl (IntWalk.i64_in _ (by omega)) rfl (aB rfl rfl (aQ (XF.thenN (bI ?_)))))))))))
 refine cX (fun m l W=>∃ (j:Nat) (a9:Option Addr) (c9:Nat) (fs9:List WF) (Kk:List (Nat×World)),j≤wl∧m=j+0∧l=[(1,.bool bk),(2,.int .i64 (kf:Int)),(3,.slice wa wl wc),(4,.pointer (some ⟨B1,0,none⟩)),(8,.pointer (some ⟨B2,0,none⟩)),(11,.slice a9 n9 c9),(12,.int .i64 ((j:Int) - 1))]∧iT w Kk (fun W2=>tZ W2 a9 fs9)∧XLF (MB w Kk) S fs9 (xG S bk fs py n9 ts (ws.drop j))∧St w [(B2,[.bool false,.int .i64 0,.int .u64 0,.slice none 0 0,.slice none 0 0,.slice none 0 0],56),(B1,[.int .i64 s.f.tag,.int .i64 s.f.dim,.slice s.f.a s.f.len s.f.cap,.int .i64 (n9:Int),.int .i64 sy,.slice fa fl fc,.slice ta tl tc],42)] [] Kk W) (wl+0) ([(1,_),(2,_),(3,_),(4,_),(8,_),(11,_),(12,_)]) ⟨rfl,rfl,rfl,rfl,rfl,rfl,rfl,trivial⟩ (⟨wl,a8,c8,fs8,_,Nat.le_refl _,rfl,rfl,HR8.more (fun q hq=>by simp at hq;subst hq;simp),by rw [List.drop_of_length_le (by omega)];exact mM HX8 (fun q hq=>by simp at hq;subst hq;simp),hS.tail⟩) ?_
 clear hS
 rintro j l W ⟨j2,a9,c9,fs9,Kk,hj,rfl,rfl,HR,HX,hS⟩
 refine aO (aO (aR (aI rfl rfl (gV rfl rfl rfl (aQ (XF.thenN (bC rfl (fun hc=>?_) (fun hc=>?_))))))))
 ·have hc31:=of_decide_eq_true hc;clear hc
  obtain ⟨k,rfl⟩:∃ k,j=k+1:=⟨j - 1,by omega⟩
  obtain ⟨b,off,y,rfl,hy,hyc⟩:=hwa.at1 (show k < ws.length by omega)
  have k1:=hS.old hyc
  refine bH (XF.thenN (aO (bI ?_)))
  have hS7:=hS
  refine regY (al:=[]) (G:=fun _=>[]) (E:=[]) (k:=10) (ds:=[11,44]) bY rfl hS rfl rfl (by kernel_rfl) (by kernel_rfl) rfl (by decide) rfl (iA 1 rfl (isV _) (syV hZ [(4,_)] rfl rfl (fun _=>(aS rfl)) (fun _=>⟨bP rfl,trivial⟩) (fun s w hw=>bL (vs:=[_,_,_,_,_,_,_]) isAgg42 sizeOf42 rfl ((aK.own (j:=0) (m:=7) (hw.at_ 1 rfl) rfl))) (aD rfl)) (iA 2 rfl (isV _) (syV hZ [(1,_)] rfl rfl (fun _=>(aS rfl)) (fun _=>⟨bP rfl,trivial⟩) (fun s w hw=>aZ rfl) (aD rfl)) (iA 3 rfl (isV _) (syV hZ [(4,_)] rfl rfl (fun _=>(aS rfl)) (fun _=>⟨bP rfl,trivial⟩) (fun s w hw=>bL (vs:=[_,_,_,_,_,_,_]) isAgg42 sizeOf42 rfl ((aK.own (j:=0) (m:=7) (hw.at_ 1 rfl) rfl))) (aD rfl)) (iA 4 rfl (isV _) (syV hZ [(1,_)] rfl rfl (fun _=>(aS rfl)) (fun _=>⟨bP rfl,trivial⟩) (fun s w hw=>aZ rfl) (aD rfl)) (iA 5 rfl (isV _) (syV hZ [(3,_)] rfl rfl (fun _=>(aS rfl)) (fun _=>⟨bP rfl,trivial⟩) (fun s w hw=>aZ rfl) (aD rfl)) (iA 6 rfl (isV _) (syV hZ [(12,_)] rfl rfl (fun _=>(aS rfl)) (fun _=>⟨bP rfl,trivial⟩) (fun s w hw=>aZ rfl) (aD rfl)) (iA 7 rfl (isV _) (syV hZ [(38,_),(39,_)] rfl rfl (fun _=>(aS rfl)) (fun _=>⟨aL 4 (E3 rfl rfl (aA rfl rfl rfl)),aL 5 (E3 rfl rfl (aA rfl rfl rfl)),trivial⟩) (fun s w hw=>bA (j:=k) underlying30 sizeOf3 rfl rfl (by omega) (by omega) rfl) (aD rfl)) (iA 8 rfl (isV _) (syV hZ [(40,_)] rfl rfl (fun _=>(aS rfl)) (fun _=>⟨aL 6 (E3 rfl rfl (aA rfl rfl rfl)),trivial⟩) (fun s w hw=>aX isAgg3 rfl (hw.agree.cell (Nat.zero_le _) (hyc))) (aD rfl)) (iA 9 rfl (isV _) (syV hZ [(11,_)] rfl rfl (fun _=>(aS rfl)) (fun _=>⟨bP rfl,trivial⟩) (fun s w hw=>aZ rfl) (aD rfl)) ?_)))))))))
  refine iA 10 rfl (lO (MB w Kk) W.heap.size S (lN S bk y (xG S bk fs py n9 ts (ws.drop (k+1))) py n9 ts)) (sy_call hZ (fun s=>[isV _,isV _,isV _,isV _]) rfl rfl goes_29 (fun _=>aS rfl) (fun s=>⟨cD (aL 2 (E3 rfl rfl (aA rfl rfl rfl))),cD (aL 3 (E3 rfl rfl (aA rfl rfl rfl))),cD (aL 7 (E3 rfl rfl (aA rfl rfl rfl))),cD (aL 8 (E3 rfl rfl (aA rfl rfl rfl))),trivial⟩) (fun vs s0 w' hk hw hlo hh=>by
   have e:=bZ (us:=[_,_,_,_]) hh
   subst e
   exact (M3 ds d s n9 sy fa fl fc fs ta tl tc ts w' (SIn.below hw.below hs) (hfrow.below hw.below) hflen (htrow.below hw.below) htlen (fun t ht=>WIn.below hw.below (htin t ht)) hfm htm (MB w Kk) (sT (rV w) Kk) (MB.of hw (fun q hq=>hq)) S (hsi.below hw.below) hok h4 bk y a9 c9 fs9 (xG S bk fs py n9 ts (ws.drop (k+1))) py (HR hw (fun q hq=>hq)) HX Dk hgd (fun t ht=>(hpy t ht).far.mono fun W h=>h.1)).mono fun e w2 ⟨a8,c8,fs8,he,h1,h2,h3⟩=>⟨_,he,fun w3 hg=>⟨a8,c8,fs8,rfl,fun W2 hg2=>h1 W2 (hg.trans (mL hg2 hlo)),oS h2 fun W hW=>⟨hW.1,hg.trans (mL hW.2 hlo)⟩⟩,h3⟩) (aD rfl)) ?_
  refine bly_nil ?_
  intro s6 W6 Ks6 hall6 hsz6 hKs6 hS' hcov6 hfx6 hno6
  clear hS;have hS:=hS'.castO (O':=[_,_]) rfl;clear hS'
  refine qA (L':=[AwS _ _ (isV _),AwS _ _ (isV _),AwS _ _ (isV _),AwS _ _ (isV _),AwS _ _ (isV _),AwS _ _ (isV _),AwS _ _ (isV _),AwS _ _ (isV _),AwS _ _ (isV _),AwS _ _ (lO (MB w Kk) W.heap.size S (lN S bk y (xG S bk fs py n9 ts (ws.drop (k+1))) py n9 ts))]) rfl (bF (bF (bF (bF (bF (bF (bF (bF (bF ?_)))))))))
  refine dR ?_;rintro v8 h8
  obtain ⟨a8,c8,fs8,rfl,hr8,hx8⟩:=h8.here
  have HR8:iT w Ks6 (fun W2=>tZ W2 a8 fs8):=fun h2 hk=>hr8 _ (Au (hcov6 h2 hk) (fun b h1 hx=>by have h3:=Ma hS7 hx;omega))
  have HX8:XLF (MB w (Ks6++Kk)) S fs8 (lN S bk y (xG S bk fs py n9 ts (ws.drop (k+1))) py n9 ts):=Jl hcov6 (fun b h1 _ hx=>by have h3:=Ma hS7 hx;omega) hx8
  rw [kI]
  refine cH (bT (vs:=[_,_,_,_]) hS Hu rfl (yV ds d s (n9:Int) sy fa fl fc fs ta tl tc ts _ (SIn.below hS.below hs) (hfrow.below hS.below) hflen (htrow.below hS.below) htlen (fun t ht=>WIn.below hS.below (htin t ht)) hfm htm bk a8 _ c8 hne) rfl fun W7 hS=>aB rfl rfl (aQ (XF.blkN (XF.thenN (aR (aI rfl rfl (Jx rfl rfl (IntWalk.i64_in _ (by omega)) rfl (aB rfl rfl (aQ ?_)))))))))
  exact XF.round (k+0) [(1,_),(2,_),(3,_),(4,_),(8,_),(11,_),(12,_)] (by omega) ⟨rfl,rfl,rfl,rfl,rfl,rfl,rfl,trivial⟩ ⟨k,a8,c8,fs8,_,by omega,rfl,by rw [show ((k+1:Nat):Int) - 1 - 1=(k:Int) - 1 by omega],HR8.more (fun q hq=>by simp [hq]),by rw [Jk hy];exact mM HX8 (fun q hq=>List.mem_cons_of_mem _ hq),hS⟩
 ·have hc31:=of_decide_eq_false hc;clear hc
  obtain rfl:j=0:=by omega
  rw [List.drop_zero] at HX
  obtain ⟨f9,x9,hf9,hx9,hF9⟩:=HX.at_ (k:=kf) (by have h9:=HX.1;rw [Dk] at h9;omega)
  obtain ⟨b,off,rfl,hc⟩:∃ b o,a9=some ⟨b,o,none⟩∧∀ (i:Nat) f,fs9[i]?=some f→W6 W b (o+i * 6) f:=by
   rcases HR.now hS with h | h
   ·rw [h] at hf9;simp at hf9
   ·exact h
  have hlk:=yW (hc kf f9 hf9)
  refine cW (XF.thenX (XF.thenX (XF.blkX (XF.thenN (aO (aR (aI rfl rfl (aI rfl rfl (cJ (j:=kf) underlying54 sizeOf56 rfl rfl (rfl) (by omega) rfl rfl (aU (vs:=[_,_,_,_,_,_]) isAgg56 sizeOf56 rfl (hlk) rfl (bB (i:=0) (vs:=[_,_,_,_,_,_]) (cs':=[_,_,_,_,_,_]) (O':=[_,_]) hS sizeOf56 rfl rfl rfl rfl rfl rfl rfl fun W8 hS=>aB rfl rfl (aQ (XF.thenN (bM (XF.res (jV (vs:=[_,_,_,_,_,_]) results12 isAgg56 sizeOf56 rfl (aK.own (j:=0) (m:=6) (hS.at_ 0 rfl) rfl) rfl) ?_)))))))))))))))
  exact ⟨f9,rfl,by rw [qZ hx9];exact hF9.is (MB.of hS (fun q hq=>hq)),hS.below⟩
def Dl (w:World) (a:Option Addr) (ns:List T9):Prop:=∀ (i:Nat) r,ns[i]?=some r→∃ b off,a=some ⟨b,off,none⟩∧aK w b (off+i * 9) r.nine
theorem Dl.below {w w':World} {a:Option Addr} {ns:List T9} (h:Dl w a ns) (hb:Below w.heap.size w w'):Dl w' a ns:=fun i r hi=>by
 obtain ⟨b,off,e,h1⟩:=h i r hi
 exact ⟨b,off,e,h1.agree (aP hb 0) (Nat.zero_le _)⟩
theorem Fu {W:World} {lo c:Nat} {a:Option Addr} {ns:List T9} {T:TypeId} (h:W.ownsRow lo T 9 (.slice a ns.length c) ns.length (ns.flatMap T9.nine)):Dl W a ns:=fun i y hi=>by
 rcases fX h with ⟨_,h2⟩ | ⟨b,rfl,_,hc⟩
 ·rw [List.eq_nil_of_length_eq_zero h2] at hi;simp at hi
 ·refine ⟨b,0,rfl,aK.of fun j v hj=>hc _ _ ?_⟩
  have key:∀ (l:List T9) (i:Nat),l[i]?=some y→((l.flatMap T9.nine).drop (i * 9)).take 9=y.nine:=by
   intro l
   induction l with
   | nil=>intro i h;simp at h
   | cons z l ih =>
    intro i h
    cases i with
    | zero=>simp at h;subst h;rfl
    | succ i =>
     have e:(i+1) * 9=9+i * 9:=by omega
     rw [List.flatMap_cons,e,← List.drop_drop]
     exact ih i (by simpa using h)
  have hj9:j < 9:=(List.getElem?_eq_some_iff.1 hj).1
  rw [← key ns i hi,List.getElem?_take,if_pos hj9,List.getElem?_drop] at hj
  rw [Nat.zero_add];exact hj
structure AuO (o:Option PS) (pl:List (Int×Int×Int)) (fs:List Int) (W:World) (sf:SF) (fa ta:Option Addr) (ns:List T9):Prop where
 sp:Spc o W sf
 f:Row W fa fs
 t:Dl W ta ns
 x:∀ S,o=some S→∀ r∈ns,XIs W S r.x (eV S)
 no:o=none→ns=[]
 pl:ns.map T9.pl=pl
theorem AuO.below {o:Option PS} {pl:List (Int×Int×Int)} {fs:List Int} {w w':World} {sf:SF} {fa ta:Option Addr} {ns:List T9} (h:AuO o pl fs w sf fa ta ns) (hb:Below w.heap.size w w'):AuO o pl fs w' sf fa ta ns:=⟨h.sp.below hb,h.f.below hb,h.t.below hb,fun S e r hr=>(h.x S e r hr).below hb,h.no,h.pl⟩
theorem Dm (w:World) (a b:Option Addr):AuO none [] [] w ⟨0,0,none,0,0⟩ a b []:=⟨rfl,.inl rfl,(fun i r h=>by simp at h),(fun S e=>by cases e),fun _=>rfl,rfl⟩
theorem pl_atT {ns ms:List T9} (h:ns.map T9.pl=ms.map T9.pl) {i:Nat} {r:T9} (hi:ns[i]?=some r):∃ q,ms[i]?=some q∧q.f=r.f∧q.g=r.g∧q.t=r.t:=by
 have h1:(ms.map T9.pl)[i]?=some r.pl:=by rw [← h,List.getElem?_map,hi];rfl
 rw [List.getElem?_map] at h1
 obtain ⟨q,hq,e⟩:=Option.map_eq_some_iff.1 h1
 simp only [T9.pl,Prod.mk.injEq] at e
 exact ⟨q,hq,e.1,e.2.1,e.2.2⟩
theorem A9 (v00:Value) (v01:Value) (v02:Value) (v1:Int) (v2:Int):prog.built 42 [(0,.agg #[v00,v01,v02]),(1,.int .i64 v1),(2,.int .i64 v2)]=some #[v00,v01,v02,.int .i64 v1,.int .i64 v2,.slice none 0 0,.slice none 0 0]:=by kernel_rfl
theorem yY (o:Option PS) (pl:List (Int×Int×Int)) (fs:List Int) (s1 s2:SF) (st sy:Int) (fa1 fa2 ta1 ta2:Option Addr) (fl fc1 fc2 n tc1 tc2:Nat) (ns ms:List T9) (w:World) (h1:AuO o pl fs w s1 fa1 ta1 ns) (h2:AuO o pl fs w s2 fa2 ta2 ms) (hfl:fs.length=fl) (hn:ns.length=n) (hfm:fl≤1000000) (hnm:n≤1000000) :
  Calls prog 7 #[.agg #[.int .i64 s1.tag,.int .i64 s1.dim,.slice s1.a s1.len s1.cap,.int .i64 st,.int .i64 sy,.slice fa1 fl fc1,.slice ta1 n tc1],.agg #[.int .i64 s2.tag,.int .i64 s2.dim,.slice s2.a s2.len s2.cap,.int .i64 st,.int .i64 sy,.slice fa2 fl fc2,.slice ta2 n tc2]] w (fun e w'=>e = .returned (.bool (true))∧Below w.heap.size w w'):=by
 refine cG (args:=[.agg #[.int .i64 s1.tag,.int .i64 s1.dim,.slice s1.a s1.len s1.cap,.int .i64 st,.int .i64 sy,.slice fa1 fl fc1,.slice ta1 n tc1],.agg #[.int .i64 s2.tag,.int .i64 s2.dim,.slice s2.a s2.len s2.cap,.int .i64 st,.int .i64 sy,.slice fa2 fl fc2,.slice ta2 n tc2]]) func7 rfl ntmps7 rfl ?_
 have hS:=St.start w
 have hpl:ns.map T9.pl=ms.map T9.pl:=h1.pl.trans h2.pl.symm
 have hf1:=h1.f
 have hf2:=h2.f
 have ht1:=h1.t
 have ht2:=h2.t
 have hx1:=h1.x
 have hx2:=h2.x
 have hno:=h1.no
 have hs1:=h1.sp
 have hs2:=h2.sp
 clear h1 h2
 refine aO (aR (bQ (cs:=[_,_,_,_,_,_,_]) hS rfl rfl rfl fun B1 W1 hS=>bQ (cs:=[_,_,_,_,_,_,_]) hS rfl rfl rfl fun B2 W2 hS=>aB rfl rfl (aQ (XF.thenN (aO (aO (aR (aN (o':=0) jL rfl rfl rfl (aU (vs:=[_,_,_]) isAgg25 sizeOf25 rfl (aK.own (j:=0) (m:=3) (hS.at_ 1 rfl) rfl) rfl (aN (o':=0) jL rfl rfl rfl (aU (vs:=[_,_,_]) isAgg25 sizeOf25 rfl (aK.own (j:=0) (m:=3) (hS.at_ 0 rfl) rfl) rfl (bT (vs:=[_,_]) hS zF rfl (sameSpc (hs1.below hS.below) (hs2.below hS.below)) rfl fun W3 hS=>dV rfl rfl (aI rfl rfl (aC (d:=15) rfl rfl (aN (o':=3) dO rfl rfl rfl (aC (d:=15) rfl rfl (aT isAgg3 rfl (aJ (hS.at_ 1 rfl) rfl) rfl (aC (d:=15) rfl rfl (aN (o':=3) dO rfl rfl rfl (aC (d:=15) rfl rfl (aT isAgg3 rfl (aJ (hS.at_ 0 rfl) rfl) rfl (aC (d:=15) rfl rfl (cN rfl rfl rfl (bN rfl rfl rfl (aI rfl rfl (bG (d:=22) rfl (fun hc=>absurd (of_decide_eq_true hc) (by exact fun h=>h rfl)) (fun hc=>?_)))))))))))))))))))))))))))
 have hc:=of_decide_eq_false hc
 refine aC (d:=22) rfl rfl (aN (o':=4) nG rfl rfl rfl (aC (d:=22) rfl rfl (aT isAgg3 rfl (aJ (hS.at_ 1 rfl) rfl) rfl (aC (d:=22) rfl rfl (aN (o':=4) nG rfl rfl rfl (aC (d:=22) rfl rfl (aT isAgg3 rfl (aJ (hS.at_ 0 rfl) rfl) rfl (aC (d:=22) rfl rfl (cN rfl rfl rfl (bN rfl rfl rfl (aI rfl rfl (bG (d:=29) rfl (fun hc=>absurd (of_decide_eq_true hc) (by exact fun h=>h rfl)) (fun hc=>?_)))))))))))))
 have hc:=of_decide_eq_false hc
 refine aC (d:=29) rfl rfl (aN (o':=5) eB rfl rfl rfl (aC (d:=29) rfl rfl (aT isAgg30 rfl (aJ (hS.at_ 1 rfl) rfl) rfl (aC (d:=29) rfl rfl (bX underlying30 rfl rfl (aC (d:=29) rfl rfl (aN (o':=5) eB rfl rfl rfl (aC (d:=29) rfl rfl (aT isAgg30 rfl (aJ (hS.at_ 0 rfl) rfl) rfl (aC (d:=29) rfl rfl (bX underlying30 rfl rfl (aC (d:=29) rfl rfl (cN rfl rfl rfl (bN rfl rfl rfl (aI rfl rfl (bG (d:=38) rfl (fun hc=>absurd (of_decide_eq_true hc) (by exact fun h=>h rfl)) (fun hc=>?_)))))))))))))))))
 have hc:=of_decide_eq_false hc
 refine aC (d:=38) rfl rfl (aN (o':=6) dA rfl rfl rfl (aC (d:=38) rfl rfl (aT isAgg40 rfl (aJ (hS.at_ 1 rfl) rfl) rfl (aC (d:=38) rfl rfl (bX underlying40 rfl rfl (aC (d:=38) rfl rfl (aN (o':=6) dA rfl rfl rfl (aC (d:=38) rfl rfl (aT isAgg40 rfl (aJ (hS.at_ 0 rfl) rfl) rfl (aC (d:=38) rfl rfl (bX underlying40 rfl rfl (aC (d:=38) rfl rfl (cN rfl rfl rfl (bN rfl rfl rfl (aQ (XF.thenN (bC rfl (fun hc=>absurd (of_decide_eq_true hc) (by exact fun h=>h rfl)) (fun hc=>?_))))))))))))))))))
 have hc:=of_decide_eq_false hc
 refine bH (XF.thenN (aO (aO (aR (aB rfl rfl (aQ (XF.thenN (bI (cX (fun m l W=>∃ i:Nat,i≤fl∧m=fl - i∧l=[(2,.pointer (some ⟨B1,0,none⟩)),(3,.pointer (some ⟨B2,0,none⟩)),(5,.int .i64 (i:Int))]∧St w [(B2,[.int .i64 s2.tag,.int .i64 s2.dim,.slice s2.a s2.len s2.cap,.int .i64 st,.int .i64 sy,.slice fa2 fl fc2,.slice ta2 n tc2],42),(B1,[.int .i64 s1.tag,.int .i64 s1.dim,.slice s1.a s1.len s1.cap,.int .i64 st,.int .i64 sy,.slice fa1 fl fc1,.slice ta1 n tc1],42)] [] [] W) (fl - 0) ([(2,_),(3,_),(5,_)]) ⟨rfl,rfl,rfl,trivial⟩ (⟨0,Nat.zero_le _,rfl,rfl,hS.clear⟩) ?_)))))))))
 clear hS
 rintro m l W ⟨i,hi,rfl,rfl,hS⟩
 refine aO (aO (aR (aI rfl rfl (aN (o':=5) eB rfl rfl rfl (aT isAgg30 rfl (aJ (hS.at_ 1 rfl) rfl) rfl (bX underlying30 rfl rfl (cC rfl rfl rfl (aQ (XF.thenN (bC rfl (fun hc=>?_) (fun hc=>?_)))))))))))
 ·have hc51:=of_decide_eq_true hc;clear hc
  have hk:i < fl:=by omega
  obtain ⟨b1,o1,y,rfl,hy,hyc⟩:=hf1.at1 (show i < fs.length by omega)
  obtain ⟨b2,o2,z,rfl,hz,hzc⟩:=hf2.at1 (show i < fs.length by omega)
  obtain rfl:y=z:=Option.some.inj (hy.symm.trans hz)
  have k1:=hS.old hyc
  have k2:=hS.old hzc
  refine bH (XF.thenN (aO (bI (aO (gP (m:=11) bY hS (by kernel_rfl) (by kernel_rfl) rfl (cB 1 rfl 2 rfl rfl (fun w hw=>aV (o':=5) eB rfl rfl) rfl (bD 2 rfl 54 0 rfl rfl rfl (fun w hw=>aX isAgg30 rfl ((aP hw 0).cell (Nat.zero_le _) (aJ (hS.at_ 1 rfl) rfl))) rfl (cB 3 rfl 5 rfl rfl (fun w hw=>aZ rfl) rfl (aM 4 rfl (isV _) (aH _) (rgV (li:=[(55,_),(56,_)]) rfl (aS rfl) ⟨aL 1 (aA rfl rfl rfl),aL 2 (aA rfl rfl rfl),trivial⟩ (fun w hw=>bA  underlying30 sizeOf3 rfl rfl rfl (by omega) rfl) (aD rfl)) (bD 5 rfl 57 3 rfl rfl rfl (fun w hw=>aX isAgg3 rfl ((aP hw 0).cell (Nat.zero_le _) (k1))) rfl (cB 6 rfl 3 rfl rfl (fun w hw=>aV (o':=5) eB rfl rfl) rfl (bD 7 rfl 59 5 rfl rfl rfl (fun w hw=>aX isAgg30 rfl ((aP hw 0).cell (Nat.zero_le _) (aJ (hS.at_ 0 rfl) rfl))) rfl (cB 8 rfl 5 rfl rfl (fun w hw=>aZ rfl) rfl (aM 9 rfl (isV _) (aH _) (rgV (li:=[(60,_),(61,_)]) rfl (aS rfl) ⟨aL 6 (aA rfl rfl rfl),aL 7 (aA rfl rfl rfl),trivial⟩ (fun w hw=>bA  underlying30 sizeOf3 rfl rfl rfl (by omega) rfl) (aD rfl)) (bD 10 rfl 62 8 rfl rfl rfl (fun w hw=>aX isAgg3 rfl ((aP hw 0).cell (Nat.zero_le _) (k2))) rfl (aM 11 rfl (isV _) (aH _) (rgV (li:=[(58,_),(63,_)]) rfl (aS rfl) ⟨aL 4 (aA rfl rfl rfl),aL 9 (aA rfl rfl rfl),trivial⟩ (fun w hw=>zA rfl rfl) (aD rfl)) (dB ?_)))))))))))))))))
  intro W4 hbR hS'
  clear hS;have hS:=hS';clear hS'
  refine aG (aG (aG (aG (aG (aG (aG (aG (aG (aG (aG (cH (XF.thenN (bC rfl (fun hc=>absurd hc (by simp)) (fun hc=>?_))))))))))))))
  skip
  refine bH (XF.blkN (XF.thenN (aR (aI rfl rfl (cE rfl rfl (IntWalk.i64_in _ (by omega)) rfl (aB rfl rfl (aQ ?_)))))))
  exact XF.round (fl - (i+1)) [(2,_),(3,_),(5,_)] (by omega) ⟨rfl,rfl,rfl,trivial⟩ ⟨i+1,by omega,rfl,rfl,hS.clear⟩
 ·have hc51:=of_decide_eq_false hc;clear hc
  refine cW (XF.thenX (XF.thenX (XF.blkX (XF.thenN (aO (aO (aR (aB rfl rfl (aQ (XF.thenN (bI (cX (fun m l W=>∃ i:Nat,i≤n∧m=n - i∧l=[(2,.pointer (some ⟨B1,0,none⟩)),(3,.pointer (some ⟨B2,0,none⟩)),(6,.int .i64 (i:Int))]∧St w [(B2,[.int .i64 s2.tag,.int .i64 s2.dim,.slice s2.a s2.len s2.cap,.int .i64 st,.int .i64 sy,.slice fa2 fl fc2,.slice ta2 n tc2],42),(B1,[.int .i64 s1.tag,.int .i64 s1.dim,.slice s1.a s1.len s1.cap,.int .i64 st,.int .i64 sy,.slice fa1 fl fc1,.slice ta1 n tc1],42)] [] [] W) (n - 0) ([(2,_),(3,_),(6,_)]) ⟨rfl,rfl,rfl,trivial⟩ (⟨0,Nat.zero_le _,rfl,rfl,hS.clear⟩) ?_))))))))))))
  clear hS
  rintro m l W ⟨i,hi,rfl,rfl,hS⟩
  refine aO (aO (aR (aI rfl rfl (aN (o':=6) dA rfl rfl rfl (aT isAgg40 rfl (aJ (hS.at_ 1 rfl) rfl) rfl (bX underlying40 rfl rfl (cC rfl rfl rfl (aQ (XF.thenN (bC rfl (fun hc=>?_) (fun hc=>?_)))))))))))
  ·have hc69:=of_decide_eq_true hc;clear hc
   have hk:i < n:=by omega
   obtain ⟨r,hr⟩:∃ r,ns[i]?=some r:=⟨ns[i]'(by omega),by simp [show i < ns.length by omega]⟩
   obtain ⟨q,hq,e1,e2,e3⟩:=pl_atT hpl hr
   obtain ⟨S,hS9⟩:∃ S,o=some S:=by
    cases o with
    | none=>rw [hno rfl] at hr;simp at hr
    | some S=>exact ⟨S,rfl⟩
   have hxr:=hx1 S hS9 r (List.mem_of_getElem? hr)
   have hxq:=hx2 S hS9 q (List.mem_of_getElem? hq)
   obtain ⟨rb,ro,rfl,hcr⟩:=ht1 i r hr
   obtain ⟨qb,qo,rfl,hcq⟩:=ht2 i q hq
   obtain ⟨f1,g1,t1,x1⟩:=r
   obtain ⟨f2,g2,t2,x2⟩:=q
   dsimp only at e1 e2 e3 hxr hxq
   subst e1 e2 e3
   dsimp only [T9.nine] at hcr hcq
   refine bH (XF.thenN (aO (bI (aO (regS (ef:=12) (jy:=4) (ca:=vW (fun a=>bif Nat.beq a 10 then [.int .i64 0,.int .i64 0,.int .i64 0,.bool false,.int .i64 0,.int .u64 0,.slice none 0 0,.slice none 0 0,.slice none 0 0] else [.int .i64 0,.int .i64 0,.int .i64 0,.bool false,.int .i64 0,.int .u64 0,.slice none 0 0,.slice none 0 0,.slice none 0 0]) 10) (ta:=fun a=>bif Nat.beq a 10 then 67 else 67) (Os:=Ez _) (Gs:=pR _) (al:=[10,11]) (k:=13) (ds:=[]) bY rfl hS rfl (by kernel_rfl) (by kernel_rfl) rfl (by decide) rfl (some) (.inl ⟨rfl,rfl⟩) rfl rfl (aW 1 rfl rfl (isV _) (fun hNo=>sgV [(2,_)] rfl rfl rfl rfl hNo (aS rfl) ⟨bP rfl,trivial⟩ (fun ev w he hw=>aV (o':=6) dA rfl rfl) (aD rfl)) (aW 2 rfl rfl (isV _) (fun hNo=>sgV [(72,_)] rfl rfl rfl rfl hNo (aS rfl) ⟨aL 0 (aA rfl rfl rfl),trivial⟩ (fun ev w he hw=>aX isAgg40 rfl ((aJ (hw.at_ 1 rfl) rfl))) (aD rfl)) (aW 3 rfl rfl (isV _) (fun hNo=>sgV [(6,_)] rfl rfl rfl rfl hNo (aS rfl) ⟨bP rfl,trivial⟩ (fun ev w he hw=>aZ rfl) (aD rfl)) (aW 4 rfl rfl (isV _) (fun hNo=>sgV [(73,_),(74,_)] rfl rfl rfl rfl hNo (aS rfl) ⟨aL 1 (aA rfl rfl rfl),aL 2 (aA rfl rfl rfl),trivial⟩ (fun ev w he hw=>bA  underlying40 sizeOf67 rfl rfl rfl (by omega) rfl) (aD rfl)) (aW 5 rfl rfl (isV _) (fun hNo=>sgV [(75,_)] rfl rfl rfl rfl hNo (aS rfl) ⟨aL 3 (aA rfl rfl rfl),trivial⟩ (fun ev w he hw=>bL (vs:=[_,_,_,_,_,_,_,_,_]) isAgg67 sizeOf67 rfl (aK.agree hw.agree (Nat.zero_le _) (hcr))) (aD rfl)) (aW 6 rfl rfl (isV _) (fun hNo=>sgV [(3,_)] rfl rfl rfl rfl hNo (aS rfl) ⟨bP rfl,trivial⟩ (fun ev w he hw=>aV (o':=6) dA rfl rfl) (aD rfl)) (aW 7 rfl rfl (isV _) (fun hNo=>sgV [(77,_)] rfl rfl rfl rfl hNo (aS rfl) ⟨aL 5 (aA rfl rfl rfl),trivial⟩ (fun ev w he hw=>aX isAgg40 rfl ((aJ (hw.at_ 0 rfl) rfl))) (aD rfl)) (aW 8 rfl rfl (isV _) (fun hNo=>sgV [(6,_)] rfl rfl rfl rfl hNo (aS rfl) ⟨bP rfl,trivial⟩ (fun ev w he hw=>aZ rfl) (aD rfl)) (aW 9 rfl rfl (isV _) (fun hNo=>sgV [(78,_),(79,_)] rfl rfl rfl rfl hNo (aS rfl) ⟨aL 6 (aA rfl rfl rfl),aL 7 (aA rfl rfl rfl),trivial⟩ (fun ev w he hw=>bA  underlying40 sizeOf67 rfl rfl rfl (by omega) rfl) (aD rfl)) (aW 10 rfl rfl (isV _) (fun hNo=>sgV [(80,_)] rfl rfl rfl rfl hNo (aS rfl) ⟨aL 8 (aA rfl rfl rfl),trivial⟩ (fun ev w he hw=>bL (vs:=[_,_,_,_,_,_,_,_,_]) isAgg67 sizeOf67 rfl (aK.agree hw.agree (Nat.zero_le _) (hcq))) (aD rfl)) ?_)))))))))))))))
   refine jJ 11 rfl (C0 rfl rfl rfl rfl rfl zeroValue67 (fun ev he=>by rw [he rfl];rfl)) ?_
   refine jJ 12 rfl (C0 rfl rfl rfl rfl rfl zeroValue67 (fun ev he=>by cases ev<;>rfl)) ?_
   refine jJ 13 rfl (eff_stA (py:=isV _) (m:=9) 10 rfl rfl rfl rfl (by kernel_rfl) rfl (by kernel_rfl) rfl rfl sizeOf67 rfl (fun v w e=>⟨[.int .i64 f2,.int .i64 g2,.int .i64 t2,.bool x1.z,.int .i64 x1.c,.int .u64 (x1.g:Int),.slice x1.ra x1.rl x1.rc,.slice x1.ca x1.cl x1.cc,.slice x1.pa x1.pl x1.pc],by rw [show v=_ from e];rfl,rfl,rfl⟩)) ?_
   refine jZ ?_
   intro Bf5 y5 W5 Ks5 hsz5 hKs5 hS' hcov5
   clear hS;have hS:=hS'.castO (O':=[_,_,_,_]) rfl;clear hS'
   refine qA (L':=[AwS _ _ (isV _),AwS _ _ (isV _),AwS _ _ (isV _),AwS _ _ (isV _),(fun v0_ w0_=>v0_=_∧AwS _ _ (isV _) v0_ w0_),AwS _ _ (isV _),AwS _ _ (isV _),AwS _ _ (isV _),AwS _ _ (isV _),AwS _ _ (isV _),isV _,isV _,isV _]) rfl (bF (bF (bF (bF ?_))))
   refine dR ?_;rintro _ ⟨rfl,hA5⟩;have hA5:=hA5.here;cases hA5
   refine bF (bF (bF (bF (bF (aG (aG (tO (cH (bB (i:=1) (vs:=[_,_,_,_,_,_,_,_,_]) (cs':=[_,_,_,_,_,_,_,_,_]) (O':=[_,_,_,_]) hS sizeOf67 rfl rfl rfl rfl rfl rfl rfl fun W6 hS=>aQ (XF.thenN (aO (aR (aN (o':=0) pK rfl rfl rfl (aT isAgg3 rfl (aJ (hS.at_ 0 rfl) rfl) rfl (aN (o':=0) pK rfl rfl rfl (aT isAgg3 rfl (aJ (hS.at_ 1 rfl) rfl) rfl (cN rfl rfl rfl (aI rfl rfl (bG (d:=87) rfl (fun hc=>absurd (of_decide_eq_true hc) (by exact fun h=>h rfl)) (fun hc=>?_))))))))))))))))))))
   have hc:=of_decide_eq_false hc
   refine aC (d:=87) rfl rfl (aN (o':=1) kA rfl rfl rfl (aC (d:=87) rfl rfl (aT isAgg3 rfl (aJ (hS.at_ 0 rfl) rfl) rfl (aC (d:=87) rfl rfl (aN (o':=1) kA rfl rfl rfl (aC (d:=87) rfl rfl (aT isAgg3 rfl (aJ (hS.at_ 1 rfl) rfl) rfl (aC (d:=87) rfl rfl (cN rfl rfl rfl (bN rfl rfl rfl (aI rfl rfl (bG (d:=94) rfl (fun hc=>absurd (of_decide_eq_true hc) (by exact fun h=>h rfl)) (fun hc=>?_)))))))))))))
   have hc:=of_decide_eq_false hc
   refine aC (d:=94) rfl rfl (aN (o':=2) rU rfl rfl rfl (aC (d:=94) rfl rfl (aT isAgg3 rfl (aJ (hS.at_ 0 rfl) rfl) rfl (aC (d:=94) rfl rfl (aN (o':=2) rU rfl rfl rfl (aC (d:=94) rfl rfl (aT isAgg3 rfl (aJ (hS.at_ 1 rfl) rfl) rfl (aC (d:=94) rfl rfl (cN rfl rfl rfl (bN rfl rfl rfl (aI rfl rfl (bG (d:=101) rfl (fun hc=>absurd (of_decide_eq_true hc) (by exact fun h=>h rfl)) (fun hc=>?_)))))))))))))
   have hc:=of_decide_eq_false hc
   refine aC (d:=101) rfl rfl (aN (o':=3) uS rfl rfl rfl (aC (d:=101) rfl rfl (aU (vs:=[_,_,_,_,_,_]) isAgg56 sizeOf56 rfl (aK.own (j:=3) (m:=6) (hS.at_ 0 rfl) rfl) rfl (aC (d:=101) rfl rfl (aN (o':=3) uS rfl rfl rfl (aC (d:=101) rfl rfl (aU (vs:=[_,_,_,_,_,_]) isAgg56 sizeOf56 rfl (aK.own (j:=3) (m:=6) (hS.at_ 1 rfl) rfl) rfl (aC (d:=101) rfl rfl (bT (vs:=[_,_]) hS uC rfl (Cv (hxr.below hS.below) (hxq.below hS.below) true (by simp)) rfl fun W7 hS=>aC (d:=101) rfl rfl (dV rfl rfl (bN rfl rfl rfl (aQ (XF.thenN (F3 rfl (bH (XF.blkN (XF.thenN (aR (aI rfl rfl (cE rfl rfl (IntWalk.i64_in _ (by omega)) rfl (aB rfl rfl (aQ ?_))))))))))))))))))))))
   exact XF.round (n - (i+1)) [(2,_),(3,_),(6,_)] (by omega) ⟨rfl,rfl,rfl,trivial⟩ ⟨i+1,by omega,rfl,rfl,hS.tail.tail.clear⟩
  ·have hc69:=of_decide_eq_false hc;clear hc
   refine cW (XF.thenX (XF.thenX (XF.blkX (XF.thenN (aO (aR (aB rfl rfl (aQ (XF.thenN (bM (XF.res (bV results7 rfl) ?_)))))))))))
   exact ⟨rfl,hS.below⟩
theorem Jn {W:World} {S:PS} {sq:SF} (hs:SIs W S sq) (hok:S.ok):∃ s:SV,s.f=sq∧SIn W 2 s∧dD s=0∧∀ f x,XIs W S f x→∃ y:WV,y.f=f∧WIn W 2 y∧okW s y=true:=by
 cases S with
 | one t n =>
  obtain ⟨a,c,rfl⟩:=hs
  have hp:bS t n 0=true:=hok
  refine ⟨.mk ⟨t,n,a,0,c⟩ [],rfl,⟨rfl,.inl rfl,by simp⟩,?_,fun f x hx=>?_⟩
  ·simp only [dD];rw [if_pos hp]
  ·cases x with
   | one x=>exact ⟨.mk f [],rfl,win_one hx 1,by unfold okW;exact (if_pos (c:=bS t n 0=true) hp).trans (PIs.pw hx)⟩
   | two a b=>exact hx.elim
 | two t n u m =>
  obtain ⟨b,off,c,a1,c1,a2,c2,rfl,h1,h2⟩:=hs
  refine ⟨.mk ⟨5,0,some ⟨b,off,none⟩,2,c⟩ [.mk ⟨t,n,a1,0,c1⟩ [],.mk ⟨u,m,a2,0,c2⟩ []],rfl,G9 h1 h2,?_,fun f x hx=>?_⟩
  ·have e1:bS t n 0=true:=hok.1
   have e2:bS u m 0=true:=hok.2
   unfold dD
   exact (if_neg (c:=bS 5 0 2=true) (by decide)).trans (if_pos (by refine ⟨rfl,rfl,rfl,?_⟩;simp [SV.pl,SV.f,e1,e2]))
  ·cases x with
   | one x=>exact hx.elim
   | two a b =>
    obtain ⟨ra,ca,rc,cc,pc,fb,fo,f1,f2,rfl,h6,h7,h8,h9⟩:=hx.two
    exact ⟨_,rfl,two_win h6 h7 h8 h9,by unfold okW;exact (if_neg (c:=bS 5 0 2=true) (by decide)).trans (Ew h8 h9)⟩
theorem auto_of {W:World} {S:PS} {pl:List (Int×Int×Int)} {fs:List Int} {sq:SF} {fa ta:Option Addr} {ns:List T9} (hok:S.ok) (hs:SIs W S sq) (h:AuO (some S) pl fs W sq fa ta ns):∃ (s:SV) (ts:List TV),s.f=sq∧SIn W 2 s∧dD s=0∧ts.length=ns.length∧(∀ (i:Nat) t r,ts[i]?=some t→ns[i]?=some r→t.f=r.f∧t.g=r.g∧t.t=r.t∧t.x.f=r.x)∧(∀ t∈ts,WIn W 2 t.x∧iR s t.x=0∧XIs W S t.x.f (eV S))∧qT W ta ts:=by
 obtain ⟨s,hsf,hsi,hse,hy⟩:=Jn hs hok
 have key:∀ ns:List T9,(∀ r∈ns,XIs W S r.x (eV S))→∃ ts:List TV,ts.length=ns.length∧(∀ (i:Nat) t r,ts[i]?=some t→ns[i]?=some r→t.f=r.f∧t.g=r.g∧t.t=r.t∧t.x.f=r.x)∧∀ t∈ts,WIn W 2 t.x∧iR s t.x=0∧XIs W S t.x.f (eV S):=by
  intro ns
  induction ns with
  | nil=>intro _;exact ⟨[],rfl,fun i t r ht=>by simp at ht,fun t ht=>by cases ht⟩
  | cons r ns ih =>
   intro hx
   obtain ⟨ts,hl,hm,hc⟩:=ih fun q hq=>hx q (List.mem_cons_of_mem _ hq)
   obtain ⟨y,hyf,hyi,hyo⟩:=hy r.x (eV S) (hx r List.mem_cons_self)
   refine ⟨⟨r.f,r.g,r.t,y⟩::ts,by simp [hl],fun i t q ht hq=>?_,fun t ht=>?_⟩
   ·cases i with
    | zero=>cases ht;cases hq;exact ⟨rfl,rfl,rfl,hyf⟩
    | succ i=>exact hm i t q (by simpa using ht) (by simpa using hq)
   ·rcases List.mem_cons.1 ht with rfl | ht
    ·exact ⟨hyi,by unfold iR;rw [if_pos hse,if_pos hyo],by rw [hyf];exact hx r List.mem_cons_self⟩
    ·exact hc t ht
 obtain ⟨ts,hl,hm,hc⟩:=key ns (h.x S rfl)
 refine ⟨s,ts,hsf,hsi,hse,hl,hm,hc,?_⟩
 cases hns:ns with
 | nil=>rw [hns] at hl;exact .inl (List.eq_nil_of_length_eq_zero hl)
 | cons r0 rest =>
  obtain ⟨b,off,hta,_⟩:=h.t 0 r0 (by rw [hns];rfl)
  refine .inr ⟨b,off,hta,fun i t ht=>?_⟩
  obtain ⟨r,hr⟩:∃ r,ns[i]?=some r:=⟨ns[i]'(by rw [← hl];exact (List.getElem?_eq_some_iff.1 ht).1),List.getElem?_eq_getElem _⟩
  obtain ⟨b2,off2,e,hcs⟩:=h.t i r hr
  rw [hta] at e
  injection e with e
  injection e with e1 e2
  subst e1;subst e2
  obtain ⟨h1,h2,h3,h4⟩:=hm i t r ht hr
  have e9:t.nine=r.nine:=by
   obtain ⟨tf,tg,tt,tx⟩:=t
   obtain ⟨rf,rg,rt,rx⟩:=r
   dsimp only at h1 h2 h3 h4
   subst h1;subst h2;subst h3;subst h4;rfl
  rw [e9];exact hcs
theorem mO {α:Type} {l:List α} {a s:Nat} {v z:α} (h:a < l.length):(l.set a v).getD s z=if s=a then v else l.getD s z:=by
 rw [List.getD_eq_getElem?_getD,List.getD_eq_getElem?_getD]
 by_cases e:s=a
 ·subst e;rw [if_pos rfl,List.getElem?_set_self h];rfl
 ·rw [if_neg e,List.getElem?_set_ne (Ne.symm e)]
theorem Jo {α:Type} {l:List α} {s:Nat} {z:α} (h:s < l.length):l.getD s z∈l:=by
 rw [List.getD_eq_getElem?_getD,List.getElem?_eq_getElem h];exact List.getElem_mem h
section
variable {S:PS} {st p n:Nat} {ws:List Int} {ts:List TV}
end
def wP (S:PS) (b:Bool):PX:=if b=true then eV S else eN S
theorem Ba {S:PS} (hok:S.ok) (b:Bool):OkX S (wP S b):=by
 cases b
 ·exact Ll
 ·exact Ai hok
theorem Jp {S:PS} (hok:S.ok) (a b:Bool):lL S (wP S a) (wP S b)=wP S (a || b):=by
 cases a
 ·exact Eq (Ba hok b)
 ·cases b
  ·exact Aj (Ai hok)
  ·exact Ep hok (Ai hok)
theorem M5 {S:PS} (hok:S.ok) (bk b:Bool):A3 S bk (eV S) (wP S b)=wP S b:=by
 cases bk
 ·exact Lm hok (Ba hok b)
 ·exact Ln hok (Ba hok b)
def Bb (fs:List Int) (ts:List (Int×Int×Int)):List Int→Int→Bool
 | [],s=>sV fs s
 | g::u,s=>ts.any (fun t=>decide (t.1=s) && (decide (t.2.1=g) && Bb fs ts u t.2.2))
theorem sZ {fs:List Int} {ts:List (Int×Int×Int)} {g:Int} {u:List Int} {s:Int}:Bb fs ts (g::u) s=ts.any (fun t=>decide (t.1=s) && (decide (t.2.1=g) && Bb fs ts u t.2.2)):=rfl
theorem Dn {S:PS} {bk:Bool} {n:Nat} {ts:List TV} {g:Int} {l:List PX} {A:Int→Bool} (hok:S.ok) (hgd:∀ t∈ts,∃ a b:Nat,t.f=(a:Int)∧a < n∧t.t=(b:Int)∧b < n) (hl:∀ s:Nat,s < n→l.getD s (eN S)=wP S (A (s:Int))):∀ i,i≤ts.length→∀ s:Nat,s < n →
  (lN S bk g l (fun _=>eV S) n (ts.take i)).getD s (eN S)=wP S ((ts.take i).any (fun t=>decide (t.f=(s:Int)) && (decide (t.g=g) && A t.t)))
 | 0,_,s,hs=>by
  show (List.replicate n (eN S)).getD s (eN S)=eN S
  rw [List.getD_eq_getElem?_getD,List.getElem?_replicate]
  split<;>rfl
 | i+1,hi,s,hs=>by
  have h1:=Dn (bk:=bk) (g:=g) hok hgd hl i (by omega)
  obtain ⟨t,ht⟩:∃ t,ts[i]?=some t:=⟨ts[i]'(by omega),List.getElem?_eq_getElem _⟩
  obtain ⟨a,b,ea,ha,eb,hb⟩:=hgd t (List.mem_of_getElem? ht)
  have htk:ts.take (i+1)=ts.take i++[t]:=by rw [List.take_add_one,ht];rfl
  rw [qX ht]
  unfold tR
  rw [htk,List.any_append]
  by_cases hg:t.g=g
  ·rw [if_pos hg,ea,eb,Int.toNat_natCast,Int.toNat_natCast,mO (by rw [kI];exact ha),hl b hb,M5 hok,h1 a ha,Jp hok,h1 s hs]
   by_cases e:s=a
   ·subst e
    rw [if_pos rfl]
    simp [ea,eb,hg]
   ·rw [if_neg e]
    have e2:¬ ((a:Int)=(s:Int)):=by omega
    simp [ea,e2]
  ·rw [if_neg hg,h1 s hs]
   simp [hg]
theorem Hv {S:PS} {bk:Bool} {n:Nat} {ts:List TV} {fs:List Int} (hok:S.ok) (hgd:∀ t∈ts,∃ a b:Nat,t.f=(a:Int)∧a < n∧t.t=(b:Int)∧b < n):∀ (u:List Int) (s:Nat),s < n→(xG S bk fs (fun _=>eV S) n ts u).getD s (eN S)=wP S (Bb fs (ts.map (fun t=>(t.f,t.g,t.t))) u (s:Int))
 | [],s,hs=>by
  show (iV S fs n).getD s (eN S)=_
  unfold iV
  rw [List.getD_eq_getElem?_getD,List.getElem?_map,List.getElem?_range hs];rfl
 | g::u,s,hs=>by
  have h:=Dn (bk:=bk) (g:=g) hok hgd (fun s hs=>Hv (bk:=bk) (fs:=fs) hok hgd u s hs) ts.length (Nat.le_refl _) s hs
  rw [List.take_of_length_le (Nat.le_refl _)] at h
  refine h.trans ?_
  rw [sZ,List.any_map]
  rfl
theorem Do {f z:Int} {xs:List Int} {k:Nat} {t:Int×Int×Int}:t∈iW f z xs k↔∃ j:Nat,j < k∧t=(f,(j:Int),z+xs.getD j 0):=by
 unfold iW
 simp only [List.mem_map,List.mem_range]
 exact ⟨fun ⟨j,h,e⟩=>⟨j,h,e.symm⟩,fun ⟨j,h,e⟩=>⟨j,h,e.symm⟩⟩
theorem mP {P Z:Int} {ns:List IV} {s n:Nat} {t:Int×Int×Int}:t∈nT P Z ns s n↔(∃ j:Nat,j < s∧t=(P,(j:Int),Z+((ns.map IV.xs).getD 0 []).getD j 0))∨∃ k:Nat,k < n∧∃ j:Nat,j < s∧t=(Z+(k:Int),(j:Int),Z+((ns.map IV.xs).getD k []).getD j 0):=by
 unfold nT jW
 rw [List.mem_append,Do,List.mem_flatMap]
 simp only [List.mem_range,Do]
theorem pQ {z s:Nat} {ls:List GV} {t:Int×Int×Int}:∀ {k:Nat},t∈ofT z s ls k↔∃ i,i < k∧∃ r,ls[i]?=some r∧t∈nT r.p ((z+sumN (ls.take i):Nat):Int) r.d.ns s r.d.nl
 | 0=>by
  constructor
  ·intro h;cases h
  ·rintro ⟨i,h,_⟩;exact absurd h (Nat.not_lt_zero _)
 | k+1=>by
  rw [ofT,List.mem_append,pQ (k:=k)]
  constructor
  ·rintro (⟨i,h,r,hr,ht⟩ | h)
   ·exact ⟨i,by omega,r,hr,ht⟩
   ·cases hk:ls[k]? with
    | none=>rw [hk] at h;cases h
    | some r=>rw [hk] at h;exact ⟨k,by omega,r,hk,h⟩
  ·rintro ⟨i,h,r,hr,ht⟩
   rcases Nat.lt_or_ge i k with h1 | h1
   ·exact .inl ⟨i,h1,r,hr,ht⟩
   ·obtain rfl:i=k:=by omega
    exact .inr (by rw [hr];exact ht)
theorem uW {ls:List GV} {i:Nat} {r:GV} (h:ls[i]?=some r):∀ {j:Nat},i < j→sumN (ls.take i)+r.d.nl≤sumN (ls.take j)
 | 0,hj=>absurd hj (Nat.not_lt_zero _)
 | j+1,hj=>by
  rcases Nat.lt_or_ge i j with h1 | h1
  ·have h2:=uW h h1
   cases hk:ls[j]? with
   | none =>
    have h3:ls.length≤j:=List.getElem?_eq_none_iff.1 hk
    rw [(List.take_of_length_le (show ls.length≤j+1 by omega)).trans (List.take_of_length_le h3).symm]
    exact h2
   | some q=>rw [fY hk];omega
  ·obtain rfl:i=j:=by omega
   rw [fY h];exact Nat.le_refl _
theorem inter9 {ls:List GV} {i j k l:Nat} {r q:GV} (hi:ls[i]?=some r) (hj:ls[j]?=some q) (hk:k < r.d.nl) (hl:l < q.d.nl) (h:sumN (ls.take i)+k=sumN (ls.take j)+l):i=j∧k=l:=by
 rcases Nat.lt_trichotomy i j with h1 | h1 | h1
 ·have:=uW hi h1;omega
 ·subst h1;exact ⟨rfl,by omega⟩
 ·have:=uW hj h1;omega
theorem uX {z:Nat} {bs fb:List Bool} {x:Nat} (hx:x < fb.length):∀ {n:Nat},(pT z bs fb n).getD x false=if z≤x∧x < z+n then bs.getD (x - z) false else fb.getD x false
 | 0=>by rw [pT,if_neg (by omega)]
 | n+1=>by
  rw [pT]
  by_cases e:x=z+n
  ·subst e
   rw [mO (by rw [gL];exact hx),if_pos rfl,if_pos (by omega),show z+n - z=n by omega]
  ·by_cases e2:z+n < fb.length
   ·rw [mO (by rw [gL];exact e2),if_neg e,uX hx]
    by_cases h:z≤x∧x < z+n
    ·rw [if_pos h,if_pos (by omega)]
    ·rw [if_neg h,if_neg (by omega)]
   ·rw [List.set_eq_of_length_le (by rw [gL];omega),uX hx]
    by_cases h:z≤x∧x < z+n
    ·rw [if_pos h,if_pos (by omega)]
    ·rw [if_neg h,if_neg (by omega)]
theorem wQ {z g:Nat} {bs fb:List Bool} {n x:Nat} (hx:x < fb.length) (hg:g < fb.length):(wM z g bs fb n).getD x false=if x=g then ((if z≤g∧g < z+n then bs.getD (g - z) false else fb.getD g false) || bs.getD 0 false) else if z≤x∧x < z+n then bs.getD (x - z) false else fb.getD x false:=by
 unfold wM
 rw [mO (by rw [gL];exact hg),uX hx,uX hg]
structure PtOk (z s:Nat) (r:GV):Prop where
 p0:0≤r.p
 p1:r.p < (z:Int)
 n1:1≤r.d.nl
 rows:∀ q∈r.d.ns,∀ y∈q.xs,0≤y∧y < (r.d.nl:Int)
 len:r.d.ns.length=r.d.nl
 wide:∀ q∈r.d.ns,q.xs.length=s
section
variable {z s:Nat} {ls:List GV}
theorem M6 (hP:∀ r∈ls,PtOk z s r) (hn:z+sumN ls≤4096) {i k:Nat} {r:GV} (hr:ls[i]?=some r) (hk:k < r.d.nl):∀ {K:Nat},i < K→K≤ls.length→(ofF z ls K).getD (z+sumN (ls.take i)+k) false=r.d.bs.getD k false
 | 0,h,_=>absurd h (Nat.not_lt_zero _)
 | K+1,h,hK=>by
  obtain ⟨q,hq⟩:∃ q,ls[K]?=some q:=⟨ls[K]'(by omega),List.getElem?_eq_getElem _⟩
  have ho:=hP q (List.mem_of_getElem? hq)
  have:=rX hr
  have h0:=ho.p0
  have h1:=ho.p1
  rw [sA hq,wQ (by rw [iX];omega) (by rw [iX];omega),if_neg (by omega)]
  rcases Nat.lt_or_ge i K with h2 | h2
  ·have h3:=uW hr h2
   rw [if_neg (by omega)]
   exact M6 hP hn hr hk h2 (by omega)
  ·obtain rfl:i=K:=by omega
   obtain rfl:r=q:=Option.some.inj (hr.symm.trans hq)
   rw [if_pos (by omega),show z+sumN (ls.take i)+k - (z+sumN (ls.take i))=k by omega]
theorem Hw (hP:∀ r∈ls,PtOk z s r) (hn:z+sumN ls≤4096) {P:Nat} (hz:P < z):∀ {K:Nat},K≤ls.length→(ofF z ls K).getD P false=(ls.take K).any (fun r=>decide (r.p=(P:Int)) && r.d.bs.getD 0 false)
 | 0,_=>by
  rw [ofF,List.getD_eq_getElem?_getD,List.getElem?_replicate]
  split<;>rfl
 | K+1,hK=>by
  obtain ⟨q,hq⟩:∃ q,ls[K]?=some q:=⟨ls[K]'(by omega),List.getElem?_eq_getElem _⟩
  have ho:=hP q (List.mem_of_getElem? hq)
  have h0:=ho.p0
  have h1:=ho.p1
  have htk:ls.take (K+1)=ls.take K++[q]:=by rw [List.take_add_one,hq];rfl
  have ih:=Hw hP hn hz (K:=K) (by omega)
  rw [sA hq,wQ (by rw [iX];omega) (by rw [iX];omega),htk,List.any_append,← ih]
  by_cases e:P=q.p.toNat
  ·rw [if_pos e,if_neg (by omega)]
   have e2:q.p=(P:Int):=by omega
   have e3:q.p.toNat=P:=e.symm
   simp [e2,e3]
  ·rw [if_neg e,if_neg (by omega)]
   have e2:¬ q.p=(P:Int):=by omega
   simp [e2]
theorem tA {fb:List Bool} {x:Nat}:∀ {n:Nat},sV (dP fb n) (x:Int)=(decide (x < n) && fb.getD x false)
 | 0=>by simp [dP,sV]
 | n+1=>by
  have ih:=tA (fb:=fb) (x:=x) (n:=n)
  unfold sV at ih ⊢
  rw [dP,List.any_append,ih]
  by_cases e:x=n
  ·subst e
   cases h:fb.getD x false<;>simp
  ·have e2:¬ ((n:Int)=(x:Int)):=by omega
   have e3:decide (x < n+1)=decide (x < n):=by
    by_cases h:x < n
    ·rw [decide_eq_true h,decide_eq_true (by omega)]
    ·rw [decide_eq_false h,decide_eq_false (by omega)]
   rw [e3]
   cases h:fb.getD n false<;>simp [e2]
theorem Bc {r:GV} (ho:PtOk z s r) {k j:Nat} (hk:k < r.d.nl) (hj:j < s):∃ y:Nat,((r.d.ns.map IV.xs).getD k []).getD j 0=(y:Int)∧y < r.d.nl:=by
 have hl:=ho.len
 obtain ⟨q,hq⟩:∃ q,r.d.ns[k]?=some q:=⟨r.d.ns[k]'(by omega),List.getElem?_eq_getElem _⟩
 have hm:=List.mem_of_getElem? hq
 have hw:=ho.wide q hm
 rw [yR hq]
 have hjl:j < q.xs.length:=by omega
 obtain ⟨h1,h2⟩:=ho.rows q hm (q.xs.getD j 0) (Jo hjl)
 exact ⟨(q.xs.getD j 0).toNat,by omega,by omega⟩
theorem M7 (hP:∀ r∈ls,PtOk z s r) (hn:z+sumN ls≤4096):∀ (u:List Int),(∀ g∈u,0≤g∧g < (s:Int))→∀ {i k:Nat} {r:GV},ls[i]?=some r→k < r.d.nl →
  Bb (dP (ofF z ls ls.length) (z+sumN ls)) (ofT z s ls ls.length) u ((z+sumN (ls.take i)+k:Nat):Int)=r.d.bs.getD (xF r.d.ns u (k:Int)).toNat false
 | [],_,i,k,r,hr,hk=>by
  unfold Bb
  have h1:=rX hr
  have hi:=(List.getElem?_eq_some_iff.1 hr).1
  rw [tA,decide_eq_true (by omega),Bool.true_and,M6 hP hn hr hk hi (Nat.le_refl _)]
  rfl
 | g::u,hu,i,k,r,hr,hk=>by
  have hu2:=fun x hx=>hu x (List.mem_cons_of_mem _ hx)
  obtain ⟨hg0,hg1⟩:=hu g List.mem_cons_self
  obtain ⟨G,rfl⟩:∃ G:Nat,g=(G:Int):=⟨g.toNat,by omega⟩
  have ho:=hP r (List.mem_of_getElem? hr)
  have hi:=(List.getElem?_eq_some_iff.1 hr).1
  obtain ⟨y,hy,hyn⟩:=Bc ho hk (show G < s by omega)
  have e1:xF r.d.ns ((G:Int)::u) (k:Int)=xF r.d.ns u (y:Int):=by
   rw [← hy];rfl
  rw [e1,← M7 hP hn u hu2 hr hyn,sZ,Bool.eq_iff_iff,List.any_eq_true]
  constructor
  ·rintro ⟨t,ht,h⟩
   simp only [Bool.and_eq_true,decide_eq_true_eq] at h
   obtain ⟨h1,h2,h3⟩:=h
   obtain ⟨j,hj,q,hq,ht2⟩:=pQ.1 ht
   have hoq:=hP q (List.mem_of_getElem? hq)
   rcases mP.1 ht2 with ⟨l,hl,rfl⟩ | ⟨m,hm,l,hl,rfl⟩
   ·dsimp only at h1
    have:=hoq.p1
    omega
   ·dsimp only at h1 h2 h3
    obtain ⟨rfl,rfl⟩:=inter9 hq hr hm hk (by omega)
    obtain rfl:q=r:=Option.some.inj (hq.symm.trans hr)
    obtain rfl:l=G:=by omega
    rw [hy] at h3
    rw [show ((z+sumN (ls.take j)+y:Nat):Int)=((z+sumN (ls.take j):Nat):Int)+(y:Int) by omega]
    exact h3
  ·intro h
   refine ⟨(((z+sumN (ls.take i):Nat):Int)+(k:Int),(G:Int),((z+sumN (ls.take i):Nat):Int)+((r.d.ns.map IV.xs).getD k []).getD G 0),pQ.2 ⟨i,hi,r,hr,mP.2 (.inr ⟨k,hk,G,by omega,rfl⟩)⟩,?_⟩
   simp only [Bool.and_eq_true,decide_eq_true_eq]
   refine ⟨by omega,trivial,?_⟩
   rw [hy,show ((z+sumN (ls.take i):Nat):Int)+(y:Int)=((z+sumN (ls.take i)+y:Nat):Int) by omega]
   exact h
theorem acc_of (hP:∀ r∈ls,PtOk z s r) (hn:z+sumN ls≤4096) {P:Nat} (hz:P < z):∀ (u:List Int),(∀ g∈u,0≤g∧g < (s:Int)) →
  Bb (dP (ofF z ls ls.length) (z+sumN ls)) (ofT z s ls ls.length) u (P:Int)=ls.any (fun r=>decide (r.p=(P:Int)) && wN r.d.ns r.d.bs u)
 | [],_=>by
  unfold Bb
  rw [tA,decide_eq_true (by omega),Bool.true_and,Hw hP hn hz (Nat.le_refl _),List.take_of_length_le (Nat.le_refl _)]
  rfl
 | g::u,hu=>by
  have hu2:=fun x hx=>hu x (List.mem_cons_of_mem _ hx)
  obtain ⟨hg0,hg1⟩:=hu g List.mem_cons_self
  obtain ⟨G,rfl⟩:∃ G:Nat,g=(G:Int):=⟨g.toNat,by omega⟩
  have key:∀ {i:Nat} {r:GV},ls[i]?=some r→∃ y:Nat,((r.d.ns.map IV.xs).getD 0 []).getD G 0=(y:Int)∧Bb (dP (ofF z ls ls.length) (z+sumN ls)) (ofT z s ls ls.length) u (((z+sumN (ls.take i):Nat):Int)+(y:Int))=wN r.d.ns r.d.bs ((G:Int)::u):=fun {i r} hr=>by
   have ho:=hP r (List.mem_of_getElem? hr)
   obtain ⟨y,hy,hyn⟩:=Bc ho (show 0 < r.d.nl by have:=ho.n1;omega) (show G < s by omega)
   refine ⟨y,hy,?_⟩
   rw [show ((z+sumN (ls.take i):Nat):Int)+(y:Int)=((z+sumN (ls.take i)+y:Nat):Int) by omega,M7 hP hn u hu2 hr hyn]
   unfold wN
   have e1:xF r.d.ns ((G:Int)::u) 0=xF r.d.ns u (y:Int):=by rw [← hy];rfl
   rw [e1]
  rw [sZ,Bool.eq_iff_iff,List.any_eq_true,List.any_eq_true]
  constructor
  ·rintro ⟨t,ht,h⟩
   simp only [Bool.and_eq_true,decide_eq_true_eq] at h
   obtain ⟨h1,h2,h3⟩:=h
   obtain ⟨j,hj,q,hq,ht2⟩:=pQ.1 ht
   rcases mP.1 ht2 with ⟨l,hl,rfl⟩ | ⟨m,hm,l,hl,rfl⟩
   ·dsimp only at h1 h2 h3
    obtain rfl:l=G:=by omega
    obtain ⟨y,hy,hk⟩:=key hq
    refine ⟨q,List.mem_of_getElem? hq,?_⟩
    rw [hy,hk] at h3
    simp only [Bool.and_eq_true,decide_eq_true_eq]
    exact ⟨h1,h3⟩
   ·dsimp only at h1
    omega
  ·rintro ⟨q,hq,h⟩
   simp only [Bool.and_eq_true,decide_eq_true_eq] at h
   obtain ⟨h1,h2⟩:=h
   obtain ⟨j,hj⟩:=List.getElem?_of_mem hq
   obtain ⟨y,hy,hk⟩:=key hj
   refine ⟨(q.p,(G:Int),((z+sumN (ls.take j):Nat):Int)+((q.d.ns.map IV.xs).getD 0 []).getD G 0),pQ.2 ⟨j,(List.getElem?_eq_some_iff.1 hj).1,q,hj,mP.2 (.inl ⟨G,by omega,rfl⟩)⟩,?_⟩
   simp only [Bool.and_eq_true,decide_eq_true_eq]
   exact ⟨h1,trivial,by rw [hy,hk];exact h2⟩
end
theorem St.ownRow {w0 W:World} {O:Own} {G:cR} {K:List (Nat×World)} {b n c sz:Nat} {xs cs:List Value} {T:TypeId} (h:St w0 ((b,xs++cs,T)::O) G K W) (hx:xs.length=n * sz) (hl:(xs++cs).length=c * sz) (hn:n≤c) (hm:c≤maxLen):St w0 O (⟨.slice (some ⟨b,0,none⟩) n c,n,xs,T,sz⟩::G) K W where
 below:=h.below
 own:=fun p hp=>h.own p (List.mem_cons_of_mem _ hp)
 dist:=(List.pairwise_cons.1 h.dist).2
 kept:=fun q hq=>⟨(h.kept q hq).1,fun p hp=>(h.kept q hq).2 p (List.mem_cons_of_mem _ hp)⟩
 rows:=fun g hg=>by
  rcases List.mem_cons.1 hg with rfl | hg
  ·obtain ⟨h1,h2⟩:=h.own _ List.mem_cons_self
   refine ⟨⟨hx,.inr ⟨b,c,(xs++cs).toArray,rfl,h1,h2,hn,hm,by simpa using hl,?_⟩⟩,fun b2 hb2=>?_⟩
   ·show (xs++cs).take (n * sz)=xs
    rw [← hx,List.take_left]
   ·cases hb2
    exact ⟨fun p hp e=>(List.pairwise_cons.1 h.dist).1 p hp e.symm,fun q hq=>(h.kept q hq).2 _ List.mem_cons_self⟩
  ·obtain ⟨h1,h2⟩:=h.rows g hg
   exact ⟨h1,fun b2 hb2=>⟨fun p hp=>(h2 b2 hb2).1 p (List.mem_cons_of_mem _ hp),(h2 b2 hb2).2⟩⟩
 gdist:=List.Pairwise.cons (fun g hg b2 hb2 e=>by
  cases hb2
  exact ((h.rows g hg).2 b e).1 _ List.mem_cons_self rfl) h.gdist
theorem St.rowOwnH {w0 W:World} {O:Own} {G:cR} {K:List (Nat×World)} {a:Option Addr} {n c:Nat} {xs:List Value} {T:TypeId} {sz:Nat} (h:St w0 O (⟨.slice a n c,n,xs,T,sz⟩::G) K W) (hn:0 < n):∃ (b:Nat) (cs:List Value),a=some ⟨b,0,none⟩∧(xs++cs).length=c * sz∧n≤c∧c≤maxLen∧St w0 ((b,xs++cs,T)::O) G K W:=by
 obtain ⟨hrow,hap⟩:=h.rows _ List.mem_cons_self
 dsimp only at hrow hap
 rcases hrow.2 with ⟨_,e2⟩ | ⟨g,cap,cur,e1,hg,hh,hn2,hm,hs,ht⟩
 ·omega
 ·injection e1 with e1 _ e3
  subst e1
  subst e3
  obtain ⟨ho,hq⟩:=hap g rfl
  have e9:xs++cur.toList.drop (n * sz)=cur.toList:=by rw [← ht,List.take_append_drop]
  refine ⟨g,cur.toList.drop (n * sz),rfl,by rw [e9];simpa using hs,hn2,hm,h.below,fun p hp=>?_,List.Pairwise.cons (fun p hp e=>ho p hp e.symm) h.dist,fun q hq'=>⟨(h.kept q hq').1,fun p hp=>?_⟩,fun g2 hg2=>?_,(List.pairwise_cons.1 h.gdist).2⟩
  ·rcases List.mem_cons.1 hp with rfl | hp
   ·refine ⟨hg,?_⟩
    dsimp only
    rw [e9,Array.toArray_toList]
    exact hh
   ·exact h.own p hp
  ·rcases List.mem_cons.1 hp with rfl | hp
   ·exact hq q hq'
   ·exact (h.kept q hq').2 p hp
  ·obtain ⟨h1,h2⟩:=h.rows g2 (List.mem_cons_of_mem _ hg2)
   refine ⟨h1,fun b2 hb2=>⟨fun p hp=>?_,(h2 b2 hb2).2⟩⟩
   rcases List.mem_cons.1 hp with rfl | hp
   ·intro e
    dsimp only at e
    subst e
    exact (List.pairwise_cons.1 h.gdist).1 g2 hg2 g rfl hb2
   ·exact (h2 b2 hb2).1 p hp
theorem Dp {w:World} {base n:Nat} {e:TypeId} {a:Option Addr} {c i:Nat} {xs:List Value} {x:Value} (h:w.ownsRow base e 1 (.slice a n c) n xs) (hi:xs[i]?=some x):∃ b,a=some ⟨b,0,none⟩∧w.cell? ⟨b,0+i * 1,none⟩=some x:=by
 rcases fX h with ⟨h1,h0⟩ | ⟨b,h1,_,h3⟩
 ·have h4:=h.1
  have:=(List.getElem?_eq_some_iff.1 hi).1
  omega
 ·exact ⟨b,h1,by rw [Nat.zero_add,Nat.mul_one];exact h3 i x hi⟩
theorem Dq {fb:List Bool} {cs:List Value} {i:Nat} (h:i < fb.length):(fb.map Value.bool++cs)[0+i * 1]?=some (.bool (fb.getD i false)):=by
 rw [List.getElem?_append_left (by rw [List.length_map];omega)];exact uU h
theorem sB {fb:List Bool} {cs:List Value} {i:Nat} {b:Bool} (h:i < fb.length):eJ (fb.map Value.bool++cs) (0+i * 1) [.bool b]=(fb.set i b).map Value.bool++cs:=by
 show (fb.map Value.bool++cs).set (0+i * 1) (.bool b)=_
 rw [show 0+i * 1=i by omega,List.set_append_left _ _ (by rw [List.length_map];exact h),List.map_set]
theorem madeB (n:Nat):madeCells (Value.bool false).cells (n * 1)=((List.replicate n false).map Value.bool).toArray:=by
 rw [List.map_replicate,Nat.mul_one];exact made8 _ _
def tk (f:WF) (pl:List (Int×Int×Int)):List T9:=pl.map (fun x=>⟨x.1,x.2.1,x.2.2,f⟩)
theorem tk_pl {f:WF} {pl:List (Int×Int×Int)}:(tk f pl).map T9.pl=pl:=by
 unfold tk;rw [List.map_map];exact List.map_id _
theorem Fv {f:WF} {pl:List (Int×Int×Int)}:(tk f pl).length=pl.length:=by simp [tk]
theorem tk_x {f:WF} {pl:List (Int×Int×Int)}:∀ r∈tk f pl,r.x=f:=fun r hr=>by
 obtain ⟨x,_,rfl⟩:=List.mem_map.1 hr;rfl
theorem Hx {f:WF} {pl:List (Int×Int×Int)} {a b c:Int}:tk f (pl++[(a,b,c)])=tk f pl++[⟨a,b,c,f⟩]:=by simp [tk]
def fR (z:Nat) (ls:List GV) (i:Nat):List Bool:=(ofF z ls i).take (z+sumN (ls.take i))
theorem nJ {z:Nat} {ls:List GV} {i:Nat} (h:z+sumN (ls.take i)≤4096):(fR z ls i).length=z+sumN (ls.take i):=by
 unfold fR;rw [List.length_take,iX];omega
theorem fR_zero {z:Nat} {ls:List GV} (h:z≤4096):fR z ls 0=List.replicate z false:=by
 unfold fR
 rw [ofF,List.take_replicate]
 simp [sumN]
 congr 1;omega
theorem rA {l:List Bool} {n k:Nat} (h:k < n):(l.take n).getD k false=l.getD k false:=by
 rw [List.getD_eq_getElem?_getD,List.getD_eq_getElem?_getD,List.getElem?_take,if_pos h]
theorem eq_getD {a b:List Bool} (hl:a.length=b.length) (h:∀ k,k < a.length→a.getD k false=b.getD k false):a=b:=by
 apply List.ext_getElem hl
 intro i h1 h2
 have:=h i h1
 rw [List.getD_eq_getElem?_getD,List.getD_eq_getElem?_getD,List.getElem?_eq_getElem h1,List.getElem?_eq_getElem h2] at this
 exact this
theorem Hy {z g:Nat} {ls:List GV} {i:Nat} {r:GV} (hr:ls[i]?=some r) (hg:g < z) (hrp:r.p=(g:Int)) (hb:r.d.bs.length=r.d.nl) (hn:z+sumN (ls.take i)+r.d.nl≤4096):(fR z ls i++r.d.bs.take r.d.nl).set g ((fR z ls i++r.d.bs.take r.d.nl).getD g false || r.d.bs.getD 0 false)=fR z ls (i+1):=by
 have e0:r.p.toNat=g:=by rw [hrp];rfl
 have hl:=nJ (z:=z) (ls:=ls) (i:=i) (by omega)
 have hl2:=nJ (z:=z) (ls:=ls) (i:=i+1) (by rw [fY hr];omega)
 rw [fY hr] at hl2
 have hlx:(fR z ls i++r.d.bs.take r.d.nl).length=z+sumN (ls.take i)+r.d.nl:=by rw [List.length_append,hl,List.length_take];omega
 have hA:∀ k,k < z+sumN (ls.take i)+r.d.nl→(fR z ls i++r.d.bs.take r.d.nl).getD k false=if z+sumN (ls.take i)≤k∧k < z+sumN (ls.take i)+r.d.nl then r.d.bs.getD (k - (z+sumN (ls.take i))) false else (ofF z ls i).getD k false:=fun k hk=>by
  by_cases h:z+sumN (ls.take i)≤k
  ·rw [if_pos ⟨h,hk⟩,List.getD_eq_getElem?_getD,List.getElem?_append_right (by omega),hl,List.getElem?_take,if_pos (by omega),← List.getD_eq_getElem?_getD]
  ·rw [if_neg (fun h2=>h h2.1),List.getD_eq_getElem?_getD,List.getElem?_append_left (by omega),← List.getD_eq_getElem?_getD]
   unfold fR
   exact rA (by omega)
 refine eq_getD (by rw [List.length_set,hlx,hl2];omega) fun k hk=>?_
 rw [List.length_set,hlx] at hk
 rw [mO (by omega),hA k hk,hA g (by omega)]
 unfold fR
 rw [rA (by rw [fY hr];omega),sA hr,wQ (by rw [iX];omega) (by rw [iX];omega),e0]
end Go.Proofs.Ytafegfhpinpdoaa
